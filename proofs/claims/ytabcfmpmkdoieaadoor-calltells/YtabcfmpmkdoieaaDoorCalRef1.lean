/- Contracts over this seat's translation: the document's Volume and size. -/
import Derived.Test.YtabcfmpmkdoieaaDoorCalRefP
import Derived.Test.YtabcfmpmkdoieaaDoorMeeRef1
import Derived.Test.YtabcfmpmkdoieaaDoorCalOff
namespace Go.Proofs.YtabcfmpmkdoieaaDoor.cal
open Go.RowKit Go.Proofs.YtabcfmpmkdoieaaDoor.ord
open Go.Proofs.YtabcfmpmkdoieaaDoor.wak (Lies SL oL)
open Go.Proofs.YtabcfmpmkdoieaaDoor.spn (keeps bcell)

theorem rsize_any (x : Int) (w : World) (hx : -1000000 ≤ x ∧ x ≤ 1000000) : Calls Tryd.prog 22 #[.int .i64 x] w fun e w' => e = .returned (.int .i64 (max x (-x))) ∧ Below w.heap.size w w' := by
  have w1 := wrapW (-x) _ rfl (by omega) (by omega)
  by_cases h : x < 0
  · rw [show max x (-x) = -x by omega]
    clear hx
    go_enter Tryd.func22, Tryd.ntmps22
    go_wp2_with fail
    go_ret
    exact ⟨by first | rfl | exact congrArg (fun z => Ending.returned (.int .i64 z)) w1, Below.refl _ _⟩
  · rw [show max x (-x) = x by omega]
    clear hx w1
    go_enter Tryd.func22, Tryd.ntmps22
    go_wp2_with fail
    go_ret
    exact ⟨rfl, Below.refl _ _⟩

theorem ws_one (side p : Int) (zs : List O) (k : Nat) (h : k < zs.length) (M : Bool) (hm : at_ zs[k]! p = M) : ws side p (zs.take (k + 1)) = ws side p (zs.take k) + (if (zs[k]!).side = side ∧ M = true then (zs[k]!).qty else 0) := by
  rw [ws_take side p zs k h, hm]

set_option maxHeartbeats 2000000 in
set_option maxRecDepth 100000 in
theorem rvol_any (q : Option Addr) (n c : Nat) (zs : List O) (p : Int) (w : World) (hn : n = zs.length) (h : SL w (.slice q n c) zs) (hgd : Good zs) :
    Calls Tryd.prog 6 #[.slice q n c, .int .i64 p] w fun e w' => e = .returned (.tuple #[.int .i64 (ofAt zs p).vol, .int .i64 (ofAt zs p).over]) ∧ Below w.heap.size w w' := by
  have HS := hidC h
  have HGD := hidC hgd
  have HN := hidC hn
  unfold ofAt
  simp only
  clear h hgd hn
  go_enter Tryd.func6, Tryd.ntmps6
  go_wp2_with fail
  go_loopg [6, 7, 8, 9] n (fun gg s6 s7 s8 _ wr => ∃ kk : Nat, kk ≤ n ∧ n - kk ≤ gg ∧ s8 = .int .i64 kk ∧ ∃ S1 S2 : Int, s6 = .int .i64 S1 ∧ s7 = .int .i64 S2 ∧ Aside (ws 1 p (zs.take kk) = S1 ∧ ws 2 p (zs.take kk) = S2 ∧ Below w.heap.size w wr))
  case atStart => exact ⟨0, Nat.zero_le _, by omega, rfl, 0, 0, rfl, rfl, rfl, rfl, Below.refl _ _⟩
  case round =>
    obtain ⟨kk, hkk, hg, rfl, S1, S2, rfl, rfl, HA⟩ := hrel
    by_cases hlt : kk < n
    · have hlz : kk < zs.length := by have := HN.out; omega
      have hltz : (kk : Int) < (n : Int) := by omega
      obtain ⟨e1, e2, hB⟩ := HA.out
      obtain ⟨G, o, rfl, hG, hL⟩ : ∃ G o, q = some ⟨G, o, none⟩ ∧ G < wr.heap.size ∧ Lies wr G o zs := by
        rcases HS.out.below hB with ⟨h1, -⟩ | ⟨b, o, c', h1, -, -, h4, h5⟩
        · cases h1; omega
        · cases h1; exact ⟨b, o, rfl, h4, h5⟩
      have hx := hL kk hlz
      have hf : Fine zs[kk]! := by rw [wak.getE zs kk hlz]; exact HGD.out.fine _ (List.getElem_mem _)
      have hbd := hf.bounds
      have HNX : Hid (∀ M, at_ zs[kk]! p = M → ws 1 p (zs.take (kk + 1)) = S1 + (if (zs[kk]!).side = 1 ∧ M = true then (zs[kk]!).qty else 0) ∧ ws 2 p (zs.take (kk + 1)) = S2 + (if (zs[kk]!).side = 2 ∧ M = true then (zs[kk]!).qty else 0)) := fun M hM => by
        rw [← e1, ← e2]; exact ⟨ws_one 1 p zs kk hlz M hM, ws_one 2 p zs kk hlz M hM⟩
      have hS1 := ws_small HGD.out 1 p kk
      have hS2 := ws_small HGD.out 2 p kk
      rw [e1] at hS1
      rw [e2] at hS2
      have hMB := hf.mB p
      rcases hxx : zs[kk]! with ⟨a1, a2, a3, a4, a5, a6, a7, a8⟩
      rw [hxx] at hx HNX hbd hMB
      have HME : Hid (∀ V, Calls Tryd.prog 17 #[.agg #[.int .i64 a1, .int .i64 a2, .int .i64 a3, .int .i64 a4, .int .i64 a5, .int .i64 a6, .int .i64 a7, .int .i64 a8], .int .i64 p] V fun e w' => e = .returned (.bool (at_ ⟨a1, a2, a3, a4, a5, a6, a7, a8⟩ p)) ∧ Below V.heap.size V w') := fun V => by
        have h := ref_may a1 a2 a3 a4 a5 a6 a7 a8 p V hbd.1
        rw [hMB] at h
        exact h
      simp only at HNX hbd
      generalize at_ ⟨a1, a2, a3, a4, a5, a6, a7, a8⟩ p = M at HME HNX
      have HNX2 := hidC (HNX.out M rfl)
      have x0 := hx 0 _ rfl
      have x1 := hx 1 _ rfl
      have x2 := hx 2 _ rfl
      have x3 := hx 3 _ rfl
      have x4 := hx 4 _ rfl
      have x5 := hx 5 _ rfl
      have x6 := hx 6 _ rfl
      have x7 := hx 7 _ rfl
      simp only [Nat.add_zero] at x0
      have HM : Hid (kk < n ∧ n - kk ≤ gk ∧ kk ≤ 5000) := ⟨hlt, hg, by have := HGD.out.few; omega⟩
      have ei := succW kk HM.out.2.2
      have hsd : a3 = 1 ∨ a3 = 2 := hbd.1
      have w1 := wrapI (S1 + a6) _ rfl (by clear ei; omega) (by clear ei; omega)
      have w2 := wrapI (S2 + a6) _ rfl (by clear ei w1; omega) (by clear ei w1; omega)
      have HB := hidC hB
      have HLL : Hid (∀ V, Below wr.heap.size wr V → V.cell? ⟨G, o + kk * 8 + 2, none⟩ = some (.int .i64 a3) ∧ V.cell? ⟨G, o + kk * 8 + 5, none⟩ = some (.int .i64 a6)) := fun V hV => ⟨(hL.below hG hV) kk hlz 2 _ (by rw [hxx]; rfl), (hL.below hG hV) kk hlz 5 _ (by rw [hxx]; rfl)⟩
      clear hx hxx hB HA hkk hg hlz hf hbd hS1 hS2 e1 e2 hMB HNX hlt hL hG
      go_wp2_with fail
      refine (HME.out _).mono ?_
      rintro e W2 ⟨rfl, hb2⟩
      obtain ⟨z2, z5⟩ := HLL.out _ hb2
      have HB2 := hidC (HB.out.trans (hb2.mono HB.out.size))
      clear x0 x1 x2 x3 x4 x5 x6 x7 HME HLL HB hb2
      cases M with
      | false =>
        have HNY : Hid (ws 1 p (zs.take (kk + 1)) = S1 ∧ ws 2 p (zs.take (kk + 1)) = S2) := by
          have h := HNX2.out
          simp only [Bool.false_eq_true, and_false, if_false, Int.add_zero] at h
          exact h
        clear HNX2 w1 w2 z2 z5
        go_wp2_with fail
        go_roundg (n - (kk + 1))
        case measure => have := HM.out; clear ei; omega
        case rel => exact ⟨kk + 1, HM.out.1, Nat.le_refl _, by first | rfl | exact congrArg (Value.int .i64) ei, _, _, rfl, rfl, HNY.out.1, HNY.out.2, HB2.out⟩
      | true =>
        rcases hsd with rfl | rfl
        · have HNY : Hid (ws 1 p (zs.take (kk + 1)) = S1 + a6 ∧ ws 2 p (zs.take (kk + 1)) = S2) := by
            have h := HNX2.out
            refine ⟨h.1.trans ?_, h.2.trans ?_⟩
            · rw [if_pos ⟨rfl, rfl⟩]
            · rw [if_neg (fun h => absurd h.1 (by decide)), Int.add_zero]
          clear HNX2 w2
          go_wp2_with fail
          go_roundg (n - (kk + 1))
          case measure => have := HM.out; clear ei w1; omega
          case rel => exact ⟨kk + 1, HM.out.1, Nat.le_refl _, by first | rfl | exact congrArg (Value.int .i64) ei, _, _, by first | rfl | exact congrArg (Value.int .i64) w1, rfl, HNY.out.1, HNY.out.2, HB2.out⟩
        · have HNY : Hid (ws 1 p (zs.take (kk + 1)) = S1 ∧ ws 2 p (zs.take (kk + 1)) = S2 + a6) := by
            have h := HNX2.out
            refine ⟨h.1.trans ?_, h.2.trans ?_⟩
            · rw [if_neg (fun h => absurd h.1 (by decide)), Int.add_zero]
            · rw [if_pos ⟨rfl, rfl⟩]
          clear HNX2 w1
          go_wp2_with fail
          go_roundg (n - (kk + 1))
          case measure => have := HM.out; clear ei w2; omega
          case rel => exact ⟨kk + 1, HM.out.1, Nat.le_refl _, by first | rfl | exact congrArg (Value.int .i64) ei, _, _, rfl, by first | rfl | exact congrArg (Value.int .i64) w2, HNY.out.1, HNY.out.2, HB2.out⟩
    · have hke : kk = n := by omega
      subst hke
      have hltz : ¬ (kk : Int) < (kk : Int) := by omega
      obtain ⟨e1, e2, hB⟩ := HA.out
      rw [HN.out, List.take_length] at e1 e2
      have HEE : Hid (ws 1 p zs = S1 ∧ ws 2 p zs = S2) := ⟨e1, e2⟩
      have hs1 := ws_small HGD.out 1 p zs.length
      have hs2 := ws_small HGD.out 2 p zs.length
      rw [List.take_length, e1] at hs1
      rw [List.take_length, e2] at hs2
      have w1 := wrapW (S1 - S2) _ rfl (by omega) (by omega)
      have HB := hidC hB
      clear HA hkk hg hlt hB e1 e2 hs1 hs2
      by_cases hc : S1 < S2
      · have HMN : Hid (min S1 S2 = S1) := by show _ = _; clear w1; omega
        go_wp2_with fail
        go_ret2
        exact ⟨by rw [HEE.out.1, HEE.out.2, HMN.out]; first | rfl | (rw [← w1]; rfl), HB.out⟩
      · have HMN : Hid (min S1 S2 = S2) := by show _ = _; clear w1; omega
        go_wp2_with fail
        go_ret2
        exact ⟨by rw [HEE.out.1, HEE.out.2, HMN.out]; first | rfl | (rw [← w1]; rfl), HB.out⟩
end Go.Proofs.YtabcfmpmkdoieaaDoor.cal
