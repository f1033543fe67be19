/- Contracts over this seat's translation: call.behind, call.check. -/
import Derived.Test.YtabcfmpmkdoieaaDoorCalPure
import Derived.Test.YtabcfmpmkdoieaaDoorCalSwr
namespace Go.Proofs.YtabcfmpmkdoieaaDoor.cal
open Go.RowKit Go.Proofs.YtabcfmpmkdoieaaDoor.ord
open Go.Proofs.YtabcfmpmkdoieaaDoor.wak (Lies SL oL OwnM OwnQ flat oL_agg)
open Go.Proofs.YtabcfmpmkdoieaaDoor.spn (keeps bcell)

theorem beh_pred (id : Int) (B : Nat) (w : World) (hB : B < w.heap.size) (hc : w.cell? ⟨B, 0, none⟩ = some (.int .i64 id)) :
    PredBelow Tryd.prog 45 #[.pointer (some ⟨B, 0, none⟩)] (fun x => .agg (oL x).toArray) (fun x => decide (x.id = id)) w := by
  intro W x hb
  obtain ⟨a, b, c, d, e, f, g, h⟩ := x
  show Calls Tryd.prog 45 #[.agg #[.int .i64 a, .int .i64 b, .int .i64 c, .int .i64 d, .int .i64 e, .int .i64 f, .int .i64 g, .int .i64 h], .pointer (some ⟨B, 0, none⟩)] W _
  have hc2 := keeps hb hc
  have hz : B < W.heap.size := Nat.lt_of_lt_of_le hB hb.size
  go_enter Tryd.func45, Tryd.ntmps45
  go_wp2
  go_ret
  exact ⟨rfl, hb.alloc hb.size _⟩

theorem idxFrom_any (id : Int) (x : O) : ∀ (zs : List O) (i : Nat), decide (0 ≤ Lib.idxByFrom (fun _ y => decide (y.id = id)) x zs i) = has id zs
  | [], _ => rfl
  | r :: t, i => by
    show decide (0 ≤ (if decide (r.id = id) = true then (i : Int) else Lib.idxByFrom (fun _ y => decide (y.id = id)) x t (i + 1))) = _
    unfold has
    rw [List.any_cons]
    cases h : decide (r.id = id) with
    | true => rw [if_pos rfl, Bool.true_or]; exact decide_eq_true (Int.natCast_nonneg i)
    | false => rw [if_neg (by simp), Bool.false_or]; exact idxFrom_any id x t (i + 1)

theorem idxf_any (id : Int) (B : Nat) (b o n c : Nat) (zs : List O) (w : World) (hn : n = zs.length) (hm : n ≤ 1000) (hB : B < w.heap.size) (hc : w.cell? ⟨B, 0, none⟩ = some (.int .i64 id)) (hb : b < w.heap.size) (hL : Lies w b o zs) :
    Calls Tryd.prog 42 #[.slice (some ⟨b, o, none⟩) n c, .func (.func 45) #[] #[.pointer (some ⟨B, 0, none⟩)]] w fun e w' => (∃ k : Int, e = .returned (.int .i64 k) ∧ decide (0 ≤ k) = has id zs) ∧ Below w.heap.size w w' := by
  have eg : ∀ args w, (callFunc 45 args).run Tryd.prog w = .ok (.enter 45 args) w := enters_of Tryd.func45 (by kernel_rfl) rfl
  have hcon := AnyQ.slices_IndexFunc Tryd.lq6o 8 Tryd.isAgg44 Tryd.sizeOf44 oL (fun x => rfl) (fun x => decide (x.id = id)) 45 #[.pointer (some ⟨B, 0, none⟩)] eg b o zs.length c zs
      w (beh_pred id B w hB hc) (Nat.le_refl _) (by omega) hb hL
  change Calls Tryd.prog 42 _ _ _ at hcon
  rw [List.take_length] at hcon
  rw [hn]
  exact hcon.mono fun e w' h => ⟨⟨_, h.1, idxFrom_any id _ zs 0⟩, h.2⟩
theorem idxf_nil (B : Nat) (W : World) : Calls Tryd.prog 42 #[.slice none 0 0, .func (.func 45) #[] #[.pointer (some ⟨B, 0, none⟩)]] W fun e w' => (∃ k : Int, e = .returned (.int .i64 k) ∧ decide (0 ≤ k) = false) ∧ Below W.heap.size W w' := by
  go_enter Tryd.func42, Tryd.ntmps42
  go_wp2
  go_loopg [5, 8] 0 (fun _ _ s8 wr => s8 = .int .i64 0 ∧ wr = W)
  case atStart => exact ⟨rfl, rfl⟩
  case round =>
    obtain ⟨rfl, rfl⟩ := hrel
    go_wp2
    go_ret
    exact ⟨⟨_, rfl, rfl⟩, Below.refl _ _⟩
/-- ContainsFunc at the orders ahead. -/
theorem cont_any (id : Int) (B : Nat) (b o n c : Nat) (zs : List O) (w : World) (hn : n = zs.length) (hm : n ≤ 1000) (hB : B < w.heap.size) (hc : w.cell? ⟨B, 0, none⟩ = some (.int .i64 id)) (hb : b < w.heap.size) (hL : Lies w b o zs) :
    Calls Tryd.prog 44 #[.slice (some ⟨b, o, none⟩) n c, .func (.func 45) #[] #[.pointer (some ⟨B, 0, none⟩)]] w fun e w' => e = .returned (.bool (has id zs)) ∧ Below w.heap.size w w' := by
  have HC := hidC (idxf_any id B b o n c zs w hn hm hB hc hb hL)
  clear hn hm hB hc hb hL
  go_enter Tryd.func44, Tryd.ntmps44
  go_wp2_with fail
  refine HC.out.mono ?_
  rintro e w1 ⟨⟨k, rfl, hk⟩, hb⟩
  have HB := hidC hb
  have HK := hidC hk
  clear hb hk HC
  go_wp2_with fail
  go_ret
  exact ⟨by rw [← HK.out]; rfl, HB.out⟩

section
variable (a1 a2 a3 a4 a5 a6 a7 a8 : Int) (w : World)
set_option maxHeartbeats 1000000 in
theorem beh_bad (v : Value) (h : ¬ chk ⟨a1, a2, a3, a4, a5, a6, a7, a8⟩ = 0) :
    Calls Tryd.prog 31 #[v, .agg #[.int .i64 a1, .int .i64 a2, .int .i64 a3, .int .i64 a4, .int .i64 a5, .int .i64 a6, .int .i64 a7, .int .i64 a8]] w fun e w' => e = .returned (errV (chk ⟨a1, a2, a3, a4, a5, a6, a7, a8⟩)) ∧ Below w.heap.size w w' := by
  have HC : Hid (∀ W, Calls Tryd.prog 43 #[.agg #[.int .i64 a1, .int .i64 a2, .int .i64 a3, .int .i64 a4, .int .i64 a5, .int .i64 a6, .int .i64 a7, .int .i64 a8]] W fun e w' => e = .returned (.iface 52 (.int .i64 (chk ⟨a1, a2, a3, a4, a5, a6, a7, a8⟩))) ∧ Below W.heap.size W w') := fun W => by
    have := check_any ⟨a1, a2, a3, a4, a5, a6, a7, a8⟩ W
    rwa [errV_of h] at this
  rw [errV_of h]
  generalize chk ⟨a1, a2, a3, a4, a5, a6, a7, a8⟩ = k at *
  go_enter Tryd.func31, Tryd.ntmps31
  go_wp2_with fail
  refine (HC.out _).mono ?_
  rintro x w1 ⟨rfl, hb1⟩
  have hB : Below w.heap.size w w1 := ((Below.refl _ _).alloc (Nat.le_refl _) _).trans (hb1.mono (by simp))
  clear hb1
  go_wp2_with fail
  go_ret
  exact ⟨rfl, hB⟩

set_option maxHeartbeats 1000000 in
theorem beh_fine (b o n c : Nat) (zs : List O) (hn : n = zs.length) (hm : n ≤ 1000) (hb : b < w.heap.size) (hL : Lies w b o zs) (h : chk ⟨a1, a2, a3, a4, a5, a6, a7, a8⟩ = 0) :
    Calls Tryd.prog 31 #[.slice (some ⟨b, o, none⟩) n c, .agg #[.int .i64 a1, .int .i64 a2, .int .i64 a3, .int .i64 a4, .int .i64 a5, .int .i64 a6, .int .i64 a7, .int .i64 a8]] w fun e w' => e = .returned (errV (behE zs ⟨a1, a2, a3, a4, a5, a6, a7, a8⟩)) ∧ Below w.heap.size w w' := by
  have HC : Hid (∀ W, Calls Tryd.prog 43 #[.agg #[.int .i64 a1, .int .i64 a2, .int .i64 a3, .int .i64 a4, .int .i64 a5, .int .i64 a6, .int .i64 a7, .int .i64 a8]] W fun e w' => e = .returned .nilIface ∧ Below W.heap.size W w') := fun W => by
    have := check_any ⟨a1, a2, a3, a4, a5, a6, a7, a8⟩ W
    rwa [h] at this
  have HE : Hid (behE zs ⟨a1, a2, a3, a4, a5, a6, a7, a8⟩ = if a4 = 1 ∧ a7 = 0 ∧ a8 = 0 then (if has a1 zs = true then 7 else 0) else 3) := by
    show _ = _
    unfold behE
    rw [if_pos h]
  generalize behE zs ⟨a1, a2, a3, a4, a5, a6, a7, a8⟩ = K at HE ⊢
  have HCN : Hid (∀ W, Below w.heap.size w W → w.heap.size < W.heap.size → W.cell? ⟨w.heap.size, 0, none⟩ = some (.int .i64 a1) → Calls Tryd.prog 44 #[.slice (some ⟨b, o, none⟩) n c, .func (.func 45) #[] #[.pointer (some ⟨w.heap.size, 0, none⟩)]] W fun e w' => e = .returned (.bool (has a1 zs)) ∧ Below W.heap.size W w') :=
    fun W hW hz hcc => cont_any a1 w.heap.size b o n c zs W hn hm hz hcc (Nat.lt_of_lt_of_le hb hW.size) (hL.below hb hW)
  clear h hn hm hb hL
  obtain ⟨X, hX⟩ : ∃ x, x = w.heap.size := ⟨_, rfl⟩
  have HX := hidC hX
  rw [← hX] at HCN
  go_enter Tryd.func31, Tryd.ntmps31
  go_wp2_with fail
  refine (HC.out _).mono ?_
  rintro x w1 ⟨rfl, hb1⟩
  have HB : Hid (Below w.heap.size w w1) := ((Below.refl _ _).alloc (Nat.le_refl _) _).trans (hb1.mono (by simp))
  have hR : w1.heap[X]? = some (.cells #[.int .i64 a1, .int .i64 a2, .int .i64 a3, .int .i64 a4, .int .i64 a5, .int .i64 a6, .int .i64 a7, .int .i64 a8] 44 (0, 0)) := by
    rw [hX]
    exact (hb1.block _ (by simp)).trans (heap_alloc_new w _)
  have hz : X < w1.heap.size := (Array.getElem?_eq_some_iff.1 hR).1
  have c0 : w1.cell? ⟨X, 0, none⟩ = some (.int .i64 a1) := by simp [World.cell?, hR]
  have c3 : w1.cell? ⟨X, 3, none⟩ = some (.int .i64 a4) := by simp [World.cell?, hR]
  have c6 : w1.cell? ⟨X, 6, none⟩ = some (.int .i64 a7) := by simp [World.cell?, hR]
  have c7 : w1.cell? ⟨X, 7, none⟩ = some (.int .i64 a8) := by simp [World.cell?, hR]
  have HCC := hidC (HCN.out w1 (by rw [hX]; exact HB.out) hz c0)
  simp only [← hX]
  clear hb1 hR hX HC HCN c0
  have out : ∀ k : Int, K = k → ¬ k = 0 → Value.iface 52 (.int .i64 k) = errV K := fun k e h0 => by rw [e, errV_of h0]
  have HO := hidC out
  clear out
  by_cases h1 : a4 = 1
  · subst h1
    by_cases h2 : a7 = 0
    · subst h2
      by_cases h3 : a8 = 0
      · subst h3
        have hE := HE.out
        rw [if_pos ⟨rfl, rfl, rfl⟩] at hE
        have HE2 := hidC hE
        clear HE hE
        go_wp2_with fail
        refine HCC.out.mono ?_
        rintro x w2 ⟨rfl, hb2⟩
        have HB2 : Hid (Below w.heap.size w w2) := HB.out.trans (hb2.mono HB.out.size)
        have hE := HE2.out
        clear hb2 HCC
        cases hh : has a1 zs with
        | true =>
          rw [hh, if_pos rfl] at hE
          have HR := hidC (HO.out 7 hE (by decide))
          clear hE hh c3 c6 c7
          go_wp2_with fail
          go_ret
          exact ⟨by rw [← HR.out]; rfl, HB2.out⟩
        | false =>
          rw [hh, if_neg (by decide)] at hE
          have HR := hidC hE
          clear hE hh c3 c6 c7
          go_wp2_with fail
          go_ret
          exact ⟨by rw [HR.out]; rfl, HB2.out⟩
      · have hE := HE.out
        rw [if_neg (fun x => h3 x.2.2)] at hE
        have HR := hidC (HO.out 3 hE (by decide))
        have h3' : (a8 != 0) = true := by simpa using h3
        clear hE
        go_wp2_with fail
        go_ret
        exact ⟨by rw [← HR.out]; rfl, HB.out⟩
    · have hE := HE.out
      rw [if_neg (fun x => h2 x.2.1)] at hE
      have HR := hidC (HO.out 3 hE (by decide))
      have h3' : (a7 != 0) = true := by simpa using h2
      clear hE
      go_wp2_with fail
      go_ret
      exact ⟨by rw [← HR.out]; rfl, HB.out⟩
  · have hE := HE.out
    rw [if_neg (fun x => h1 x.1)] at hE
    have HR := hidC (HO.out 3 hE (by decide))
    have h3' : (a4 != 1) = true := by simpa using h1
    clear hE
    go_wp2_with fail
    go_ret
    exact ⟨by rw [← HR.out]; rfl, HB.out⟩
end
theorem behind_any (b o n c : Nat) (zs : List O) (x : O) (w : World) (hn : n = zs.length) (hm : n ≤ 1000) (hb : b < w.heap.size) (hL : Lies w b o zs) :
    Calls Tryd.prog 31 #[.slice (some ⟨b, o, none⟩) n c, .agg (oL x).toArray] w fun e w' => e = .returned (errV (behE zs x)) ∧ Below w.heap.size w w' := by
  obtain ⟨a1, a2, a3, a4, a5, a6, a7, a8⟩ := x
  by_cases h : chk ⟨a1, a2, a3, a4, a5, a6, a7, a8⟩ = 0
  · exact beh_fine a1 a2 a3 a4 a5 a6 a7 a8 w b o n c zs hn hm hb hL h
  · have e : behE zs ⟨a1, a2, a3, a4, a5, a6, a7, a8⟩ = chk ⟨a1, a2, a3, a4, a5, a6, a7, a8⟩ := by unfold behE; rw [if_neg h]
    rw [e]
    exact beh_bad a1 a2 a3 a4 a5 a6 a7 a8 w _ h

set_option maxHeartbeats 2000000 in
set_option maxRecDepth 100000 in
theorem check_some (G o n c : Nat) (zs : List O) (w : World) (hn : n = zs.length) (hc : n ≤ c) (hcc : c ≤ 9223372036854775807) (hG : G < w.heap.size) (hL : Lies w G o zs) :
    Calls Tryd.prog 18 #[.slice (some ⟨G, o, none⟩) n c] w fun e w' => e = .returned (errV (cE zs)) ∧ Below w.heap.size w w' := by
  by_cases h60 : 60 < n
  · have e : cE zs = 4 := by unfold cE; rw [if_pos (by omega)]
    rw [e, errV_of (by decide)]
    have hz : (60 : Int) < (n : Int) := by omega
    clear hn hc hcc hG hL e
    go_enter Tryd.func18, Tryd.ntmps18
    go_wp2_with fail
    go_ret
    exact ⟨rfl, Below.refl _ _⟩
  · have HE : Hid (cE zs = ckF (zs.take 0) (zs.drop 0)) := by
      show _ = _
      unfold cE
      rw [if_neg (by omega)]
      rfl
    generalize cE zs = K at HE ⊢
    have hz : ¬ (60 : Int) < (n : Int) := by omega
    have HN := hidC hn
    have HNC : Hid (n ≤ c ∧ c ≤ 9223372036854775807 ∧ n ≤ 60) := ⟨hc, hcc, by omega⟩
    have HGG := hidC hG
    have HL := hidC hL
    clear hn hc hcc hG hL h60
    go_enter Tryd.func18, Tryd.ntmps18
    go_wp2_with fail
    go_loopg [3, 4, 5, 12] n (fun gg _ _ _ s12 wr => ∃ kk : Nat, kk ≤ n ∧ n - kk ≤ gg ∧ s12 = .int .i64 kk ∧ Aside (Below w.heap.size w wr ∧ K = ckF (zs.take kk) (zs.drop kk)))
    case atStart => exact ⟨0, Nat.zero_le _, by omega, rfl, Below.refl _ _, HE.out⟩
    case round =>
      clear HE hz
      obtain ⟨kk, hkk, hg, rfl, HA⟩ := hrel
      by_cases hlt : kk < n
      · have hlz : kk < zs.length := by have := HN.out; omega
        have HST := hidC (HA.out.2.trans (ckF_step zs kk hlz))
        have hltz : (kk : Int) < (n : Int) := by omega
        have hB := HA.out.1
        have hLr : Lies wr G o zs := HL.out.below HGG.out hB
        have hgw : G < wr.heap.size := Nat.lt_of_lt_of_le HGG.out hB.size
        have hx := hLr kk hlz
        have HBE : Hid (∀ V, Below wr.heap.size wr V → Calls Tryd.prog 31 #[.slice (some ⟨G, o, none⟩) kk c, .agg (oL zs[kk]!).toArray] V fun e w' => e = .returned (errV (behE (zs.take kk) zs[kk]!)) ∧ Below V.heap.size V w') := fun V hV =>
          behind_any G o kk c (zs.take kk) zs[kk]! V (by rw [List.length_take]; omega) (by have := HNC.out; omega) (Nat.lt_of_lt_of_le hgw hV.size) ((hLr.below hgw hV).take kk)
        generalize behE (zs.take kk) zs[kk]! = E at HBE HST
        rcases hxx : zs[kk]! with ⟨a1, a2, a3, a4, a5, a6, a7, a8⟩
        rw [hxx] at hx HBE
        have HBE2 : Hid (∀ V, Below wr.heap.size wr V → Calls Tryd.prog 31 #[.slice (some ⟨G, o, none⟩) kk c, .agg #[.int .i64 a1, .int .i64 a2, .int .i64 a3, .int .i64 a4, .int .i64 a5, .int .i64 a6, .int .i64 a7, .int .i64 a8]] V fun e w' => e = .returned (errV E) ∧ Below V.heap.size V w') := HBE.out
        clear HBE
        have x0 := hx 0 _ rfl
        have x1 := hx 1 _ rfl
        have x2 := hx 2 _ rfl
        have x3 := hx 3 _ rfl
        have x4 := hx 4 _ rfl
        have x5 := hx 5 _ rfl
        have x6 := hx 6 _ rfl
        have x7 := hx 7 _ rfl
        simp only [Nat.add_zero] at x0
        have HB0 := hidC hB
        have HM : Hid (kk < n ∧ n - kk ≤ gk ∧ n ≤ 60) := ⟨hlt, hg, HNC.out.2.2⟩
        have hkc : (kk : Int) ≤ (c : Int) := by have := HNC.out; omega
        have hk0 : ¬ (kk : Int) < 0 := by omega
        have ei := succW kk (by have := HNC.out; omega)
        clear hx hxx hLr hB HA hkk hg hlz
        go_upto_region 6 with fail
        clear x0 x1 x2 x3 x4 x5 x6 x7
        have HB1 : Hid (Below wr.heap.size wr (wr.alloc (.cells #[.int .i64 a1, .int .i64 a2, .int .i64 a3, .int .i64 a4, .int .i64 a5, .int .i64 a6, .int .i64 a7, .int .i64 a8] 44))) := (Below.refl _ _).alloc (Nat.le_refl _) _
        go_cut [5] from 17 to 21 (fun s5 wx => s5 = errV E ∧ Aside (Below wr.heap.size wr wx))
        case first =>
          go_region_with (first | (go_at_call 31; with_reducible refine (HBE2.out _ ?_).mono ?_; (first | with_reducible exact HB1.out | with_reducible exact HB1.out.drew | with_reducible exact HB1.out.drew.drew); rintro e w' ⟨rfl, hb'⟩; have HBX := hidC (HB1.out.drew.trans (hb'.mono HB1.out.drew.size)); clear hb'))
          all_goals (go_wp2_with fail; go_meet; first | exact ⟨rfl, HBX.out⟩ | exact ⟨rfl, HBX.out.drew⟩)
        case rest =>
          obtain ⟨rfl, hW⟩ := hcut
          have HW : Hid (Below w.heap.size w wc) := HB0.out.trans (hW.out.mono HB0.out.size)
          clear hW HB1 HBE2
          by_cases h0 : E = 0
          · have hS := HST.out
            rw [if_pos h0] at hS
            have HS := hidC hS
            subst h0
            rw [errV_zero]
            clear hS HST
            go_wp2_with fail
            go_roundg (n - (kk + 1))
            case measure => have := HM.out; clear ei; omega
            case rel => exact ⟨kk + 1, HM.out.1, Nat.le_refl _, by first | rfl | exact congrArg (Value.int .i64) ei, HW.out, HS.out⟩
          · have hS := HST.out
            rw [if_neg h0] at hS
            have HS := hidC hS
            rw [errV_of h0]
            have HE0 := hidC h0
            clear hS HST h0
            go_wp2_with fail
            go_ret
            exact ⟨by rw [HS.out, errV_of HE0.out]; rfl, HW.out⟩
      · have hke : kk = n := by omega
        subst hke
        have hltz : ¬ (kk : Int) < (kk : Int) := by omega
        have HW := hidC HA.out.1
        have HK : Hid (K = 0) := by
          show _ = _
          rw [HA.out.2, HN.out]; exact ckF_end zs
        clear HA hkk hg hlt
        go_wp2_with fail
        go_ret
        exact ⟨by rw [HK.out]; rfl, HW.out⟩

theorem check_nil (w : World) : Calls Tryd.prog 18 #[.slice none 0 0] w fun e w' => e = .returned (errV (cE [])) ∧ Below w.heap.size w w' := by
  go_enter Tryd.func18, Tryd.ntmps18
  go_wp2_with fail
  go_loopg [3, 4, 5, 12] 0 (fun _ _ _ _ s12 wr => s12 = .int .i64 0 ∧ wr = w)
  case atStart => exact ⟨rfl, rfl⟩
  case round =>
    obtain ⟨rfl, rfl⟩ := hrel
    go_wp2_with fail
    go_ret
    exact ⟨rfl, Below.refl _ _⟩
theorem check_call (v : Value) (zs : List O) (w : World) (h : SL w v zs) : Calls Tryd.prog 18 #[v] w fun e w' => e = .returned (errV (cE zs)) ∧ Below w.heap.size w w' := by
  rcases h with ⟨rfl, rfl⟩ | ⟨b, o, c, rfl, h2, h3, h4, h5⟩
  · exact check_nil w
  · exact check_some b o zs.length c zs w rfl h2 h3 h4 h5
end Go.Proofs.YtabcfmpmkdoieaaDoor.cal
