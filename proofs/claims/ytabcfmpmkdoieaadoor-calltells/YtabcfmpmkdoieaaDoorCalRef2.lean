/- Contracts over this seat's translation: the document's Waits (whether an id is there) and Call (what is wrong with a call). -/
import Derived.Test.YtabcfmpmkdoieaaDoorCalRef1
import Derived.Test.YtabcfmpmkdoieaaDoorMeeRef1c
namespace Go.Proofs.YtabcfmpmkdoieaaDoor.cal
open Go.RowKit Go.Proofs.YtabcfmpmkdoieaaDoor.ord
open Go.Proofs.YtabcfmpmkdoieaaDoor.wak (Lies SL oL)
open Go.Proofs.YtabcfmpmkdoieaaDoor.spn (keeps bcell)

theorem sl_here {w : World} {q : Option Addr} {n c : Nat} {zs : List O} (h : SL w (.slice q n c) zs) (hn : 0 < n) : ∃ G o, q = some ⟨G, o, none⟩ ∧ G < w.heap.size ∧ n ≤ c ∧ Lies w G o zs := by
  rcases h with ⟨h1, -⟩ | ⟨b, o, c', h1, h2, -, h4, h5⟩
  · cases h1; omega
  · cases h1; exact ⟨b, o, rfl, h4, h2, h5⟩
theorem has_take (id : Int) (zs : List O) (k : Nat) (h : k < zs.length) : has id (zs.take (k + 1)) = (has id (zs.take k) || decide ((zs[k]!).id = id)) := by
  unfold has
  rw [List.take_succ_eq_append_getElem h, List.any_append, wak.getE zs k h]
  simp

set_option maxHeartbeats 1000000 in
theorem rwaits_has (id : Int) (q : Option Addr) (n c : Nat) (zs : List O) (w : World) (hn : n = zs.length) (h : SL w (.slice q n c) zs) (hl : n ≤ 1000) :
    Calls Tryd.prog 16 #[.slice q n c, .int .i64 id] w fun e w' => (∃ K : Int, e = .returned (.int .i64 K) ∧ decide (0 ≤ K) = has id zs) ∧ Below w.heap.size w w' := by
  have HS := hidC h
  have HN := hidC hn
  have HL := hidC hl
  clear h hn hl
  go_enter Tryd.func16, Tryd.ntmps16
  go_wp2_with fail
  go_loopg [5] n (fun gg s5 wr => ∃ kk : Nat, kk ≤ n ∧ n - kk ≤ gg ∧ s5 = .int .i64 kk ∧ Aside (has id (zs.take kk) = false) ∧ wr = w)
  case atStart => exact ⟨0, Nat.zero_le _, by omega, rfl, rfl, rfl⟩
  case round =>
    obtain ⟨kk, hkk, hg, rfl, HI, rfl⟩ := hrel
    by_cases hlt : kk < n
    · have hltz : (kk : Int) < (n : Int) := by omega
      have hlz : kk < zs.length := by have := HN.out; omega
      obtain ⟨G, o, rfl, -, -, hL⟩ := sl_here HS.out (by omega)
      have x0 := hL kk hlz 0 _ rfl
      simp only [Nat.add_zero] at x0
      have HST := hidC (has_take id zs kk hlz)
      have HEL : Hid ((zs[kk]!).id = id → has id zs = true) := fun he => by
        unfold has
        rw [List.any_eq_true]
        exact ⟨zs[kk]!, by rw [wak.getE zs kk hlz]; exact List.getElem_mem _, decide_eq_true he⟩
      have HM : Hid (kk < n ∧ n - kk ≤ gk ∧ kk ≤ 5000) := ⟨hlt, hg, by have := HL.out; omega⟩
      have ei := succW kk HM.out.2.2
      generalize (zs[kk]!).id = y at x0 HST HEL
      clear hL hlz hkk hg hlt
      by_cases he : y = id
      · have HE := hidC (HEL.out he)
        have hb : (y == id) = true := by simpa using he
        clear he HST HEL ei
        go_wp2_with fail
        go_ret
        exact ⟨⟨_, rfl, by rw [HE.out]; exact decide_eq_true (Int.natCast_nonneg kk)⟩, Below.refl _ _⟩
      · have hb : (y == id) = false := by simpa using he
        have HNX : Hid (has id (zs.take (kk + 1)) = false) := by
          show _ = _
          rw [HST.out, HI.out, decide_eq_false he]; rfl
        clear he HST HEL
        go_wp2_with fail
        go_roundg (n - (kk + 1))
        case measure => have := HM.out; clear ei; omega
        case rel => exact ⟨kk + 1, HM.out.1, Nat.le_refl _, by first | rfl | exact congrArg (Value.int .i64) ei, HNX.out, rfl⟩
    · have hltz : ¬ (kk : Int) < (n : Int) := by omega
      have HKK : Hid (has id zs = false) := by
        show _ = _
        have h1 := HI.out
        rwa [List.take_of_length_le (by have := HN.out; omega)] at h1
      go_wp2_with fail
      go_ret
      exact ⟨⟨_, rfl, by rw [HKK.out]; rfl⟩, Below.refl _ _⟩

set_option maxHeartbeats 2000000 in
set_option maxRecDepth 100000 in
theorem rcall_any (q : Option Addr) (n c : Nat) (zs : List O) (w : World) (hn : n = zs.length) (h : SL w (.slice q n c) zs) (hmx : n ≤ 1000000) (hcx : c ≤ 9223372036854775807) :
    Calls Tryd.prog 4 #[.slice q n c] w fun e w' => e = .returned (.int .i64 (cE zs)) ∧ Below w.heap.size w w' := by
  by_cases hbig : 60 < n
  · have hbz : (60 : Int) < (n : Int) := by omega
    have e0 : cE zs = 4 := by unfold cE; rw [if_pos (by omega)]
    rw [e0]
    clear h hn hmx e0 hcx
    go_enter Tryd.func4, Tryd.ntmps4
    go_wp2_with fail
    go_ret
    exact ⟨rfl, Below.refl _ _⟩
  · have hbz : ¬ (60 : Int) < (n : Int) := by omega
    have HS := hidC h
    have HN := hidC hn
    have HL : Hid (n ≤ 60) := by show _ ≤ _; omega
    obtain ⟨K, hK⟩ : ∃ K, cE zs = K := ⟨_, rfl⟩
    have HK : Hid (ckF [] zs = K) := by show _ = _; rw [← hK]; unfold cE; rw [if_neg (by omega)]
    rw [hK]
    clear h hn hmx hbig hK
    go_enter Tryd.func4, Tryd.ntmps4
    go_wp2_with fail
    go_loopg [3, 4] n (fun gg s3 _ wr => ∃ kk : Nat, kk ≤ n ∧ n - kk ≤ gg ∧ s3 = .int .i64 kk ∧ Aside (ckF (zs.take kk) (zs.drop kk) = K ∧ Below w.heap.size w wr))
    case atStart => exact ⟨0, Nat.zero_le _, by omega, rfl, HK.out, Below.refl _ _⟩
    case round =>
      clear HK
      obtain ⟨kk, hkk, hg, rfl, HA⟩ := hrel
      by_cases hlt : kk < n
      · have hltz : (kk : Int) < (n : Int) := by omega
        have hlz : kk < zs.length := by have := HN.out; omega
        obtain ⟨hI, hB⟩ := HA.out
        obtain ⟨G, o, rfl, hG, hcn, hL⟩ := sl_here (HS.out.below hB) (by omega)
        have hx := hL kk hlz
        rw [ckF_step zs kk hlz] at hI
        have HWT : Hid (∀ V, Below wr.heap.size wr V → ∀ id, Calls Tryd.prog 16 #[.slice (some ⟨G, o, none⟩) kk c, .int .i64 id] V fun e w' => (∃ K : Int, e = .returned (.int .i64 K) ∧ decide (0 ≤ K) = has id (zs.take kk)) ∧ Below V.heap.size V w') := fun V hV id => rwaits_has id _ kk c _ V (by rw [List.length_take]; omega) (Or.inr ⟨G, o, c, by rw [List.length_take, Nat.min_eq_left (by omega)], by rw [List.length_take]; omega, hcx, Nat.lt_of_lt_of_le hG hV.size, (hL.below hG hV).take kk⟩) (by have := HL.out; omega)
        have HLV : Hid (∀ V, Below wr.heap.size wr V → ∀ i v, (oL zs[kk]!)[i]? = some v → V.cell? ⟨G, o + kk * 8 + i, none⟩ = some v) := fun V hV i v hv => (hL.below hG hV) kk hlz i v hv
        have HRO : Hid (∀ V, Calls Tryd.prog 15 #[.agg (oL zs[kk]!).toArray] V fun e w' => e = .returned (.int .i64 (chk zs[kk]!)) ∧ Below V.heap.size V w') := fun V => rord_any zs[kk]! V
        rcases hxx : zs[kk]! with ⟨a1, a2, a3, a4, a5, a6, a7, a8⟩
        rw [hxx] at hx HLV HRO hI
        have HRO2 : Hid (∀ V, Calls Tryd.prog 15 #[.agg #[.int .i64 a1, .int .i64 a2, .int .i64 a3, .int .i64 a4, .int .i64 a5, .int .i64 a6, .int .i64 a7, .int .i64 a8]] V fun e w' => e = .returned (.int .i64 (chk ⟨a1, a2, a3, a4, a5, a6, a7, a8⟩)) ∧ Below V.heap.size V w') := HRO.out
        have HBE : Hid (behE (zs.take kk) ⟨a1, a2, a3, a4, a5, a6, a7, a8⟩ = if chk ⟨a1, a2, a3, a4, a5, a6, a7, a8⟩ = 0 then (if a4 = 1 ∧ a7 = 0 ∧ a8 = 0 then (if has a1 (zs.take kk) = true then 7 else 0) else 3) else chk ⟨a1, a2, a3, a4, a5, a6, a7, a8⟩) := rfl
        generalize behE (zs.take kk) ⟨a1, a2, a3, a4, a5, a6, a7, a8⟩ = BE at hI HBE
        generalize chk ⟨a1, a2, a3, a4, a5, a6, a7, a8⟩ = C at HRO2 HBE
        have HI := hidC hI
        have x0 := hx 0 _ rfl
        have x1 := hx 1 _ rfl
        have x2 := hx 2 _ rfl
        have x3 := hx 3 _ rfl
        have x4 := hx 4 _ rfl
        have x5 := hx 5 _ rfl
        have x6 := hx 6 _ rfl
        have x7 := hx 7 _ rfl
        simp only [Nat.add_zero] at x0
        have HM : Hid (kk < n ∧ n - kk ≤ gk ∧ kk ≤ 5000) := ⟨hlt, hg, by have := HL.out; omega⟩
        have hkc : (kk : Int) ≤ (c : Int) := by omega
        have hk0 : ¬ (kk : Int) < 0 := by omega
        have ei := succW kk HM.out.2.2
        have HB := hidC hB
        clear hx hxx hB HA hkk hg hlz hI HRO hlt hL hG
        go_wp2_with fail
        refine (HRO2.out _).mono ?_
        rintro e W2 ⟨rfl, hb2⟩
        have y0 := HLV.out W2 hb2 0 _ rfl
        have y3 := HLV.out W2 hb2 3 _ rfl
        have y6 := HLV.out W2 hb2 6 _ rfl
        have y7 := HLV.out W2 hb2 7 _ rfl
        simp only [Nat.add_zero] at y0
        have HW2 : Hid (∀ V, Below W2.heap.size W2 V → Calls Tryd.prog 16 #[.slice (some ⟨G, o, none⟩) kk c, .int .i64 a1] V fun e w' => (∃ K : Int, e = .returned (.int .i64 K) ∧ decide (0 ≤ K) = has a1 (zs.take kk)) ∧ Below V.heap.size V w') := fun V hV => HWT.out V (hb2.trans (hV.mono hb2.size)) a1
        have HB2 := hidC (HB.out.trans (hb2.mono HB.out.size))
        clear x0 x1 x2 x3 x4 x5 x6 x7 HRO2 HLV HB hb2 HWT
        by_cases hC : C = 0
        · have hC' : (C != 0) = false := by simp [hC]
          by_cases hk : a4 = 1 ∧ a7 = 0 ∧ a8 = 0
          · obtain ⟨rfl, rfl, rfl⟩ := hk
            have HBF : Hid (BE = if has a1 (zs.take kk) = true then 7 else 0) := by
              show _ = _
              rw [HBE.out, if_pos hC, if_pos ⟨rfl, rfl, rfl⟩]
            clear HBE hC
            generalize has a1 (zs.take kk) = M at HBF HW2
            go_wp2_with fail
            go_cut [53] from 44 to 53 (fun s53 wx => s53 = .bool M ∧ Aside (Below W2.heap.size W2 wx))
            case first =>
              go_region_with (first | (go_at_call 16; with_reducible refine (HW2.out _ ?_).mono ?_; (first | with_reducible exact Below.refl _ _ | with_reducible exact (Below.refl _ _).drew | with_reducible exact (Below.refl _ _).drew.drew); rintro e w' ⟨⟨J, rfl, hJ⟩, hb'⟩; have HBX := hidC ((Below.refl W2.heap.size W2).drew.trans (hb'.mono (Below.refl W2.heap.size W2).drew.size)); clear hb'))
              all_goals (go_wp2_with fail; go_meet; first | exact ⟨rfl, HBX.out⟩ | exact ⟨rfl, HBX.out.drew⟩ | exact ⟨congrArg Value.bool hJ, HBX.out⟩ | exact ⟨congrArg Value.bool hJ, HBX.out.drew⟩)
            case rest =>
              obtain ⟨rfl, hW⟩ := hcut
              have HB3 : Hid (Below w.heap.size w wc) := HB2.out.trans (hW.out.mono HB2.out.size)
              clear HW2 HB2 hW y0 y3 y6 y7
              cases M with
              | true =>
                have HR : Hid (K = 7) := by
                  have h := HI.out
                  rw [HBF.out, if_pos rfl, if_neg (by decide)] at h
                  exact h.symm
                clear HBF HI
                go_wp2_with fail
                go_ret
                exact ⟨by rw [HR.out]; rfl, HB3.out⟩
              | false =>
                have HR : Hid (ckF (zs.take (kk + 1)) (zs.drop (kk + 1)) = K) := by
                  have h := HI.out
                  rw [show BE = 0 from by rw [HBF.out]; rfl, if_pos rfl] at h
                  exact h
                clear HBF HI
                go_wp2_with fail
                go_roundg (n - (kk + 1))
                case measure => have := HM.out; clear ei; omega
                case rel => exact ⟨kk + 1, HM.out.1, Nat.le_refl _, by first | rfl | exact congrArg (Value.int .i64) ei, HR.out, HB3.out⟩
          · have HBF : Hid (K = 3) := by
              have h := HI.out
              rw [HBE.out, if_pos hC, if_neg hk, if_neg (by decide)] at h
              exact h.symm
            clear HBE hC HW2 HI
            by_cases h1 : a4 = 1
            · subst h1
              by_cases h2 : a7 = 0
              · subst h2
                have h3 : ¬ a8 = 0 := fun h => hk ⟨rfl, rfl, h⟩
                have b3 : (a8 != 0) = true := by simp [h3]
                clear hk h3
                go_wp2_with fail
                go_ret
                exact ⟨by rw [HBF.out]; rfl, HB2.out⟩
              · have b2 : (a7 != 0) = true := by simp [h2]
                clear hk h2
                go_wp2_with fail
                go_ret
                exact ⟨by rw [HBF.out]; rfl, HB2.out⟩
            · have b1 : (a4 != 1) = true := by simp [h1]
              clear hk h1
              go_wp2_with fail
              go_ret
              exact ⟨by rw [HBF.out]; rfl, HB2.out⟩
        · have hC' : (C != 0) = true := by simp [hC]
          have HBF : Hid (C = K) := by
            have h := HI.out
            rw [HBE.out, if_neg hC, if_neg hC] at h
            exact h
          clear HBE hC y0 y3 y6 y7
          go_wp2_with fail
          go_ret
          exact ⟨by rw [← HBF.out]; rfl, HB2.out⟩
      · have hltz : ¬ (kk : Int) < (n : Int) := by omega
        obtain ⟨hI, hB⟩ := HA.out
        have HKK : Hid (0 = K) := by
          show _ = _
          rw [← hI, show kk = zs.length from by have := HN.out; omega]
          exact (ckF_end zs).symm
        have HB := hidC hB
        clear HA hI hB
        go_wp2_with fail
        go_ret
        exact ⟨by rw [← HKK.out]; rfl, HB.out⟩
end Go.Proofs.YtabcfmpmkdoieaaDoor.cal
