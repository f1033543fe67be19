/- The walk of SwapLess. -/
import Derived.Test.YtjphhieloicdeaaSLPure
namespace Go.Proofs.Ytjphhieloicdeaa.swp
open Go.RowKit Go.Proofs.Ytjphhieloicdeaa.spn Go.Proofs.Ytjphhieloicdeaa.que Go.Proofs.Ytjphhieloicdeaa.sid Go.Proofs.Ytjphhieloicdeaa.bok

set_option maxRecDepth 100000 in
set_option maxHeartbeats 4000000 in
theorem less_pos (shown hidden : Int) (w : World) (b1 : 1 ≤ shown) (b2 : shown ≤ 50) (b3 : 0 < hidden) (b4 : hidden ≤ 50) :
    Calls Try.prog 4 #[.int .i64 shown, .int .i64 hidden] w fun e w' => e = .returned (.bool true) ∧ Below w.heap.size w w' := by
  have HI : Hid (LsI shown shown hidden shown (shown + hidden) ∧ 0 ≤ shown + hidden ∧ shown + hidden ≤ 100) :=
    ⟨⟨rchk_of ⟨⟨by simp only []; omega, by simp only []; omega⟩, ⟨by simp only []; omega, by simp only []; omega⟩, ⟨by simp only []; omega, by simp only []; omega⟩, fun h => by first | (simp only [] at h ⊢; omega) | simp_all, fun h => by first | (simp only [] at h ⊢; omega) | simp_all, ⟨by simp, by simp⟩, ⟨by simp, by simp⟩⟩, Int.le_refl _, fun _ => rfl, Int.le_refl _⟩, by omega, by omega⟩
  have a1 : ¬ (shown < 1) := by omega
  have a2 : ¬ (50 < shown) := by omega
  have a3 : ¬ (hidden < (0 : Int)) := by omega
  have a4 : ¬ ((50 : Int) < hidden) := by omega
  have a5 : (0 : Int) < hidden := b3
  have hwp : wrap64 (shown + hidden) = shown + hidden := by unfold wrap64; omega
  obtain ⟨w1, hw1⟩ : ∃ w1, w1 = w.alloc (.cells #[.int .i64 1, .int .i64 1, .int .i64 shown, .int .i64 hidden, .int .i64 shown] 26) := ⟨_, rfl⟩
  obtain ⟨w2, hw2⟩ : ∃ w2, w2 = (w1.alloc (.cells #[.int .i64 1, .int .i64 1, .int .i64 shown, .int .i64 hidden, .int .i64 shown, .int .i64 2, .int .i64 2, .int .i64 4, .int .i64 0, .int .i64 0] 26)).alloc (.cells #[.int .i64 100, .slice (some ⟨w1.heap.size, 0, none⟩) 2 2] 29) := ⟨_, rfl⟩
  obtain ⟨V, hV⟩ : ∃ V, V = w2.alloc (.cells #[.slice (some ⟨w1.heap.size + 1, 0, none⟩) 1 1, .slice none 0 0] 24) := ⟨_, rfl⟩
  have hs1 : w1.heap.size = w.heap.size + 1 := by rw [hw1]; simp
  have hs2 : w2.heap.size = w.heap.size + 3 := by rw [hw2]; simp [hs1]
  have hB1 : Below w.heap.size w w1 := by rw [hw1]; exact (Below.refl _ _).alloc (Nat.le_refl _) _
  have hB2 : Below w1.heap.size w1 w2 := by rw [hw2]; exact ((Below.refl _ _).alloc (Nat.le_refl _) _).alloc (by simp) _
  have hB3 : Below w2.heap.size w2 V := by rw [hV]; exact (Below.refl _ _).alloc (Nat.le_refl _) _
  have hL2 : LS w2 (.slice (some ⟨w1.heap.size + 1, 0, none⟩) 1 1) (lsB shown hidden shown) := by rw [hw2]; exact two_lay 1 1 shown hidden shown w1
  have hRV : V.heap[w.heap.size + 3]? = some (.cells #[.slice (some ⟨w1.heap.size + 1, 0, none⟩) 1 1, .slice none 0 0] 24 (0, 0)) := by rw [← hs2, hV]; exact heap_alloc_new w2 _
  have hBV : Below w.heap.size w V := by
    have h := hB1.trans (hB2.mono hB1.size)
    exact h.trans (hB3.mono h.size)
  obtain ⟨B0, hB0⟩ : ∃ B0, B0 = w.heap.size + 3 := ⟨_, rfl⟩
  rw [← hB0] at hRV
  have HB0 : Hid (w.heap.size ≤ B0) := by show _ ≤ _; omega
  have HST := hidW (show V.heap[B0]? = some (.cells #[.slice (some ⟨w1.heap.size + 1, 0, none⟩) 1 1, .slice none 0 0] 24 (0, 0)) ∧ LS V (.slice (some ⟨w1.heap.size + 1, 0, none⟩) 1 1) (lsB shown hidden shown) ∧ LS V (.slice none 0 0) [] ∧ LsI shown shown hidden shown (shown + hidden) ∧ Below w.heap.size w V from ⟨hRV, hL2.below hB3, ls_nil _, HI.out.1, hBV⟩)
  obtain ⟨N, hN⟩ : ∃ N : Nat, shown + hidden = (N : Int) := ⟨(shown + hidden).toNat, by omega⟩
  have HN := hidW (show N ≤ 100 from by omega)
  rw [hN] at HST
  have HNE := hidW hN
  clear hL2 hB1 hB2 hB3 hBV hRV hN HI
  go_enter Try.func4, Try.ntmps4
  go_wp2_with fail
  rw [hs1] at hw2 hV HST
  rw [← hw1]
  rw [← hw2]
  rw [← hV]
  simp only [← hB0]
  clear hw1 hw2 hV hB0 hs1 hs2 a1 a2 a3 a4 a5 b3 hwp b1 b2
  go_loopg [7, 8, 9, 10, 11, 12, 13, 14, 15, 16, 17] N (fun gg s7 _ _ _ _ _ _ _ _ _ _ wr => ∃ (nn : Nat) (Q H : Int) (vq uq : Option Addr) (vn vc un uc : Nat), nn ≤ gg ∧ nn ≤ N ∧ s7 = .int .i64 nn ∧ Aside (wr.heap[B0]? = some (.cells #[.slice vq vn vc, .slice uq un uc] 24 (0, 0)) ∧ LS wr (.slice vq vn vc) (lsB Q H shown) ∧ LS wr (.slice uq un uc) [] ∧ LsI shown Q H shown nn ∧ Below w.heap.size w wr))
  case atStart => exact ⟨N, shown, hidden, _, _, _, _, _, _, Nat.le_refl _, Nat.le_refl _, congrArg (Value.int .i64) (by have h := HNE.out; omega), HST.out⟩
  case round =>
    obtain ⟨nn, Q, H, vq, uq, vn, vc, un, uc, hg, hnN, rfl, AD⟩ := hrel
    by_cases hz : nn = 0
    · have h1 : ¬ ((nn : Int) ≥ 1) := by omega
      have h2 : ¬ ((1 : Int) ≤ nn) := by omega
      have HB := hidW AD.out.2.2.2.2
      clear AD HST
      go_wp2_with fail
      go_ret
      exact ⟨rfl, HB.out⟩
    · have h1 : (nn : Int) ≥ 1 := by omega
      have hn100 : (nn : Int) ≤ 100 := by have := HN.out; omega
      have HNN := hidW (show 1 ≤ nn ∧ nn ≤ N ∧ nn ≤ gk from ⟨by omega, hnN, hg⟩)
      obtain ⟨hRW, hLv, hLu, hI, hBw⟩ := AD.out
      obtain ⟨hr2, hI2, hkb, hws, hle, him⟩ := hI.step h1 hn100
      have hAt := ls_at hI.1
      have hAt2 := ls_at hr2
      have HKP := hidW (keeps_at vq uq vn un vc uc _ _ 1 1 100 1 1 Q H shown 100 nn 0 0 wr hLv hLu hAt price100)
      rw [hkb] at HKP
      have HDO : Hid (∀ W, Below wr.heap.size wr W → Calls Try.prog 5 #[.agg #[.slice vq vn vc, .slice uq un uc], .int .i64 1, .int .i64 100, .int .i64 nn] W fun e w' => ∃ u1 u2 m1 m2 d1 d2, e = .returned (.tuple #[.agg #[.slice u1 m1 d1, .slice u2 m2 d2], .slice none 0 0, .int .i64 0, .nilIface]) ∧ DL w' W.heap.size (.slice u1 m1 d1) (lsB (min Q nn) (nn - min Q nn) shown) ∧ DL w' W.heap.size (.slice u2 m2 d2) [] ∧ Below W.heap.size W w') := fun W hW =>
        sdo_keep vq uq vn un vc uc _ _ 1 1 100 1 1 Q H shown 100 nn 0 0 W (hLv.below hW) (hLu.below hW) hAt price100 (by simp; omega) hkb
      obtain ⟨x0, x1, -⟩ := rowTwo hRW
      have HFI : Hid (∀ W u1 u2 m1 m2 d1 d2, LS W (.slice u1 m1 d1) (lsB (min Q nn) (nn - min Q nn) shown) → LS W (.slice u2 m2 d2) [] → Calls Try.prog 7 #[.agg #[.slice u1 m1 d1, .slice u2 m2 d2], .int .i64 1] W fun e w' => e = .returned (.tuple #[.int .i64 1, .int .i64 100, .agg #[.int .i64 1, .int .i64 1, .int .i64 (min Q nn), .int .i64 (nn - min Q nn), .int .i64 shown], .nilIface]) ∧ Below W.heap.size W w') := fun W u1 u2 m1 m2 d1 d2 g1 g2 =>
        bfind_at u1 u2 m1 m2 d1 d2 _ _ 1 1 100 1 1 (min Q nn) (nn - min Q nn) shown 0 0 W g1 g2 hAt2
      have HBW := hidW hBw
      have HRW := hidW hRW
      clear AD HST hkb hAt hAt2 hLv hLu hI hBw hr2 hRW
      generalize hA : min Q (nn : Int) = A at *
      generalize hC : (nn : Int) - A = C at *
      have HI2 := hidW hI2
      clear hA hC hI2
      clear hz hg hnN hn100
      go_wp2_with fail
      refine HKP.out.mono ?_
      rintro x w3 ⟨rfl, b3⟩
      have HB3 := hidW b3
      have y0 := keeps b3 x0
      have y1 := keeps b3 x1
      clear b3 x0 x1 HKP
      go_wp2_with fail
      refine (HDO.out w3 HB3.out).mono ?_
      rintro x w4 ⟨u1, u2, m1, m2, d1, d2, rfl, D1, D2, b4⟩
      have hBa : Below w4.heap.size w4 (w4.alloc (.cells #[.slice u1 m1 d1, .slice u2 m2 d2] 24)) := (Below.refl _ _).alloc (Nat.le_refl _) _
      have hRX : (w4.alloc (.cells #[.slice u1 m1 d1, .slice u2 m2 d2] 24)).heap[w4.heap.size]? = some (.cells #[.slice u1 m1 d1, .slice u2 m2 d2] 24 (0, 0)) := heap_alloc_new w4 _
      have hb5 := HB3.out.trans ((b4.trans (hBa.mono b4.size)).mono HB3.out.size)
      have HB5 := hidW hb5
      have HD5 := hidW (And.intro ((D1.mono HB3.out.size).below hBa) ((D2.mono HB3.out.size).below hBa))
      clear y0 y1 HDO HB3 D1 D2 b4 hBa hb5
      go_upto_if 84 with fail
      generalize w4.alloc (.cells #[.slice u1 m1 d1, .slice u2 m2 d2] 24) = W5 at *
      generalize w4.heap.size = XB at *
      obtain ⟨x0, x1, -⟩ := rowTwo hRX
      go_wp2_with fail
      refine (HFI.out W5 u1 u2 m1 m2 d1 d2 HD5.out.1.ls HD5.out.2.ls).mono ?_
      rintro x w6 ⟨rfl, b6⟩
      have hBa : Below w6.heap.size w6 (w6.alloc (.cells #[.int .i64 1, .int .i64 1, .int .i64 A, .int .i64 C, .int .i64 shown] 26)) := (Below.refl _ _).alloc (Nat.le_refl _) _
      have hRZ : (w6.alloc (.cells #[.int .i64 1, .int .i64 1, .int .i64 A, .int .i64 C, .int .i64 shown] 26)).heap[w6.heap.size]? = some (.cells #[.int .i64 1, .int .i64 1, .int .i64 A, .int .i64 C, .int .i64 shown] 26 (0, 0)) := heap_alloc_new w6 _
      have hb7 := b6.trans (hBa.mono b6.size)
      have HB7 := hidW (HB5.out.trans (hb7.mono HB5.out.size))
      have HD7 := hidW (And.intro (HD5.out.1.below hb7) (HD5.out.2.below hb7))
      have hRX7 := (hb7.block XB (Array.getElem?_eq_some_iff.1 hRX).1).trans hRX
      clear x0 x1 b6 hBa hb7 HB5 HD5 hRX HFI
      go_upto_region 15 with fail
      generalize w6.alloc (.cells #[.int .i64 1, .int .i64 1, .int .i64 A, .int .i64 C, .int .i64 shown] 26) = W7 at *
      generalize w6.heap.size = ZB at *
      obtain ⟨e0, e1, e2, e3, e4, -⟩ := rowFive hRZ
      obtain ⟨x0, x1, -⟩ := rowTwo hRX7
      have hRW7 := (HB7.out.block B0 (Array.getElem?_eq_some_iff.1 HRW.out).1).trans HRW.out
      obtain ⟨v0, v1, vf⟩ := rowTwo hRW7
      have vf0 := vf 0
      have vf1 := vf 1
      have hgg := grTwo W7 B0 (.slice u1 m1 d1) (.slice u2 m2 d2)
      have hBB : B0 < wr.heap.size := (Array.getElem?_eq_some_iff.1 HRW.out).1
      have hbw7 := HBW.out.trans (HB7.out.mono HBW.out.size)
      have HFIN := hidW (show ((W7.setCell ⟨B0, 0, none⟩ (.slice u1 m1 d1)).setCell ⟨B0, 1, none⟩ (.slice u2 m2 d2)).heap[B0]? = some (.cells #[.slice u1 m1 d1, .slice u2 m2 d2] 24 (0, 0)) ∧ LS ((W7.setCell ⟨B0, 0, none⟩ (.slice u1 m1 d1)).setCell ⟨B0, 1, none⟩ (.slice u2 m2 d2)) (.slice u1 m1 d1) (lsB A C shown) ∧ LS ((W7.setCell ⟨B0, 0, none⟩ (.slice u1 m1 d1)).setCell ⟨B0, 1, none⟩ (.slice u2 m2 d2)) (.slice u2 m2 d2) [] ∧ LsI shown A C shown ((nn : Int) - 1) ∧ Below w.heap.size w ((W7.setCell ⟨B0, 0, none⟩ (.slice u1 m1 d1)).setCell ⟨B0, 1, none⟩ (.slice u2 m2 d2)) from
        ⟨setTwo hRW7 _ _, (HD7.out.1.other hgg hBB).ls, (HD7.out.2.other hgg hBB).ls, HI2.out, hbw7.grown hgg hbw7.size (fun k hk => by cases hk; exact HB0.out)⟩)
      have hne : (wrap64 (A + C) != (nn : Int)) = false := by rw [hws]; simp
      have hgt : ¬ (shown < A) := by omega
      have hwm : wrap64 ((nn : Int) - 1) = ((nn - 1 : Nat) : Int) := by have h1 := HNN.out; have h2 := HN.out; unfold wrap64; omega
      have HWM := hidW hwm
      have hcm : (nn : Int) - 1 = ((nn - 1 : Nat) : Int) := by have h1 := HNN.out; omega
      rw [hcm] at HFIN
      clear hgg hBB hbw7 HBW HB7 HD7 hRW7 hRX7 hRZ vf HRW HI2 hle hcm
      by_cases hc : 0 < C
      · have hs := him hc
        subst hs
        have hq2 : (A != A) = false := by simp
        clear him
        go_wp2_with fail
        go_roundg (nn - 1)
        case measure => have h1 := HNN.out; omega
        case rel => exact ⟨nn - 1, A, C, _, _, _, _, _, _, Nat.le_refl _, by have h1 := HNN.out; omega, by first | rfl | rw [HWM.out], HFIN.out⟩
      · clear him
        go_wp2_with fail
        go_roundg (nn - 1)
        case measure => have h1 := HNN.out; omega
        case rel => exact ⟨nn - 1, A, C, _, _, _, _, _, _, Nat.le_refl _, by have h1 := HNN.out; omega, by first | rfl | rw [HWM.out], HFIN.out⟩

set_option maxRecDepth 100000 in
set_option maxHeartbeats 4000000 in
theorem less_zero (shown : Int) (w : World) (b1 : 1 ≤ shown) (b2 : shown ≤ 50)  :
    Calls Try.prog 4 #[.int .i64 shown, .int .i64 0] w fun e w' => e = .returned (.bool true) ∧ Below w.heap.size w w' := by
  have HI : Hid (LsI shown shown 0 0 (shown + 0) ∧ 0 ≤ shown + 0 ∧ shown + 0 ≤ 100) :=
    ⟨⟨rchk_of ⟨⟨by simp only []; omega, by simp only []; omega⟩, ⟨by simp only []; omega, by simp only []; omega⟩, ⟨by simp only []; omega, by simp only []; omega⟩, fun h => by first | (simp only [] at h ⊢; omega) | simp_all, fun h => by first | (simp only [] at h ⊢; omega) | simp_all, ⟨by simp, by simp⟩, ⟨by simp, by simp⟩⟩, Int.le_refl _, fun _ => rfl, Int.le_refl _⟩, by omega, by omega⟩
  have a1 : ¬ (shown < 1) := by omega
  have a2 : ¬ (50 < shown) := by omega
  have a3 : ¬ (0 < (0 : Int)) := by omega
  have a4 : ¬ ((50 : Int) < 0) := by omega

  have hwp : wrap64 (shown + 0) = shown + 0 := by unfold wrap64; omega
  obtain ⟨w1, hw1⟩ : ∃ w1, w1 = w.alloc (.cells #[.int .i64 1, .int .i64 1, .int .i64 shown, .int .i64 0, .int .i64 0] 26) := ⟨_, rfl⟩
  obtain ⟨w2, hw2⟩ : ∃ w2, w2 = (w1.alloc (.cells #[.int .i64 1, .int .i64 1, .int .i64 shown, .int .i64 0, .int .i64 0, .int .i64 2, .int .i64 2, .int .i64 4, .int .i64 0, .int .i64 0] 26)).alloc (.cells #[.int .i64 100, .slice (some ⟨w1.heap.size, 0, none⟩) 2 2] 29) := ⟨_, rfl⟩
  obtain ⟨V, hV⟩ : ∃ V, V = w2.alloc (.cells #[.slice (some ⟨w1.heap.size + 1, 0, none⟩) 1 1, .slice none 0 0] 24) := ⟨_, rfl⟩
  have hs1 : w1.heap.size = w.heap.size + 1 := by rw [hw1]; simp
  have hs2 : w2.heap.size = w.heap.size + 3 := by rw [hw2]; simp [hs1]
  have hB1 : Below w.heap.size w w1 := by rw [hw1]; exact (Below.refl _ _).alloc (Nat.le_refl _) _
  have hB2 : Below w1.heap.size w1 w2 := by rw [hw2]; exact ((Below.refl _ _).alloc (Nat.le_refl _) _).alloc (by simp) _
  have hB3 : Below w2.heap.size w2 V := by rw [hV]; exact (Below.refl _ _).alloc (Nat.le_refl _) _
  have hL2 : LS w2 (.slice (some ⟨w1.heap.size + 1, 0, none⟩) 1 1) (lsB shown 0 0) := by rw [hw2]; exact two_lay 1 1 shown 0 0 w1
  have hRV : V.heap[w.heap.size + 3]? = some (.cells #[.slice (some ⟨w1.heap.size + 1, 0, none⟩) 1 1, .slice none 0 0] 24 (0, 0)) := by rw [← hs2, hV]; exact heap_alloc_new w2 _
  have hBV : Below w.heap.size w V := by
    have h := hB1.trans (hB2.mono hB1.size)
    exact h.trans (hB3.mono h.size)
  obtain ⟨B0, hB0⟩ : ∃ B0, B0 = w.heap.size + 3 := ⟨_, rfl⟩
  rw [← hB0] at hRV
  have HB0 : Hid (w.heap.size ≤ B0) := by show _ ≤ _; omega
  have HST := hidW (show V.heap[B0]? = some (.cells #[.slice (some ⟨w1.heap.size + 1, 0, none⟩) 1 1, .slice none 0 0] 24 (0, 0)) ∧ LS V (.slice (some ⟨w1.heap.size + 1, 0, none⟩) 1 1) (lsB shown 0 0) ∧ LS V (.slice none 0 0) [] ∧ LsI shown shown 0 0 (shown + 0) ∧ Below w.heap.size w V from ⟨hRV, hL2.below hB3, ls_nil _, HI.out.1, hBV⟩)
  obtain ⟨N, hN⟩ : ∃ N : Nat, shown + 0 = (N : Int) := ⟨(shown + 0).toNat, by omega⟩
  have HN := hidW (show N ≤ 100 from by omega)
  rw [hN] at HST
  have HNE := hidW hN
  clear hL2 hB1 hB2 hB3 hBV hRV hN HI
  go_enter Try.func4, Try.ntmps4
  go_wp2_with fail
  rw [hs1] at hw2 hV HST
  rw [← hw1]
  rw [← hw2]
  rw [← hV]
  simp only [← hB0]
  clear hw1 hw2 hV hB0 hs1 hs2 a1 a2 a3 a4  hwp b1 b2
  go_loopg [7, 8, 9, 10, 11, 12, 13, 14, 15, 16, 17] N (fun gg s7 _ _ _ _ _ _ _ _ _ _ wr => ∃ (nn : Nat) (Q H : Int) (vq uq : Option Addr) (vn vc un uc : Nat), nn ≤ gg ∧ nn ≤ N ∧ s7 = .int .i64 nn ∧ Aside (wr.heap[B0]? = some (.cells #[.slice vq vn vc, .slice uq un uc] 24 (0, 0)) ∧ LS wr (.slice vq vn vc) (lsB Q H 0) ∧ LS wr (.slice uq un uc) [] ∧ LsI shown Q H 0 nn ∧ Below w.heap.size w wr))
  case atStart => exact ⟨N, shown, 0, _, _, _, _, _, _, Nat.le_refl _, Nat.le_refl _, congrArg (Value.int .i64) (by have h := HNE.out; omega), HST.out⟩
  case round =>
    obtain ⟨nn, Q, H, vq, uq, vn, vc, un, uc, hg, hnN, rfl, AD⟩ := hrel
    by_cases hz : nn = 0
    · have h1 : ¬ ((nn : Int) ≥ 1) := by omega
      have h2 : ¬ ((1 : Int) ≤ nn) := by omega
      have HB := hidW AD.out.2.2.2.2
      clear AD HST
      go_wp2_with fail
      go_ret
      exact ⟨rfl, HB.out⟩
    · have h1 : (nn : Int) ≥ 1 := by omega
      have hn100 : (nn : Int) ≤ 100 := by have := HN.out; omega
      have HNN := hidW (show 1 ≤ nn ∧ nn ≤ N ∧ nn ≤ gk from ⟨by omega, hnN, hg⟩)
      obtain ⟨hRW, hLv, hLu, hI, hBw⟩ := AD.out
      obtain ⟨hr2, hI2, hkb, hws, hle, him⟩ := hI.step h1 hn100
      have hAt := ls_at hI.1
      have hAt2 := ls_at hr2
      have HKP := hidW (keeps_at vq uq vn un vc uc _ _ 1 1 100 1 1 Q H 0 100 nn 0 0 wr hLv hLu hAt price100)
      rw [hkb] at HKP
      have HDO : Hid (∀ W, Below wr.heap.size wr W → Calls Try.prog 5 #[.agg #[.slice vq vn vc, .slice uq un uc], .int .i64 1, .int .i64 100, .int .i64 nn] W fun e w' => ∃ u1 u2 m1 m2 d1 d2, e = .returned (.tuple #[.agg #[.slice u1 m1 d1, .slice u2 m2 d2], .slice none 0 0, .int .i64 0, .nilIface]) ∧ DL w' W.heap.size (.slice u1 m1 d1) (lsB (min Q nn) (nn - min Q nn) 0) ∧ DL w' W.heap.size (.slice u2 m2 d2) [] ∧ Below W.heap.size W w') := fun W hW =>
        sdo_keep vq uq vn un vc uc _ _ 1 1 100 1 1 Q H 0 100 nn 0 0 W (hLv.below hW) (hLu.below hW) hAt price100 (by simp; omega) hkb
      obtain ⟨x0, x1, -⟩ := rowTwo hRW
      have HFI : Hid (∀ W u1 u2 m1 m2 d1 d2, LS W (.slice u1 m1 d1) (lsB (min Q nn) (nn - min Q nn) 0) → LS W (.slice u2 m2 d2) [] → Calls Try.prog 7 #[.agg #[.slice u1 m1 d1, .slice u2 m2 d2], .int .i64 1] W fun e w' => e = .returned (.tuple #[.int .i64 1, .int .i64 100, .agg #[.int .i64 1, .int .i64 1, .int .i64 (min Q nn), .int .i64 (nn - min Q nn), .int .i64 0], .nilIface]) ∧ Below W.heap.size W w') := fun W u1 u2 m1 m2 d1 d2 g1 g2 =>
        bfind_at u1 u2 m1 m2 d1 d2 _ _ 1 1 100 1 1 (min Q nn) (nn - min Q nn) 0 0 0 W g1 g2 hAt2
      have HBW := hidW hBw
      have HRW := hidW hRW
      clear AD HST hkb hAt hAt2 hLv hLu hI hBw hr2 hRW
      generalize hA : min Q (nn : Int) = A at *
      generalize hC : (nn : Int) - A = C at *
      have HI2 := hidW hI2
      clear hA hC hI2
      clear hz hg hnN hn100
      go_wp2_with fail
      refine HKP.out.mono ?_
      rintro x w3 ⟨rfl, b3⟩
      have HB3 := hidW b3
      have y0 := keeps b3 x0
      have y1 := keeps b3 x1
      clear b3 x0 x1 HKP
      go_wp2_with fail
      refine (HDO.out w3 HB3.out).mono ?_
      rintro x w4 ⟨u1, u2, m1, m2, d1, d2, rfl, D1, D2, b4⟩
      have hBa : Below w4.heap.size w4 (w4.alloc (.cells #[.slice u1 m1 d1, .slice u2 m2 d2] 24)) := (Below.refl _ _).alloc (Nat.le_refl _) _
      have hRX : (w4.alloc (.cells #[.slice u1 m1 d1, .slice u2 m2 d2] 24)).heap[w4.heap.size]? = some (.cells #[.slice u1 m1 d1, .slice u2 m2 d2] 24 (0, 0)) := heap_alloc_new w4 _
      have hb5 := HB3.out.trans ((b4.trans (hBa.mono b4.size)).mono HB3.out.size)
      have HB5 := hidW hb5
      have HD5 := hidW (And.intro ((D1.mono HB3.out.size).below hBa) ((D2.mono HB3.out.size).below hBa))
      clear y0 y1 HDO HB3 D1 D2 b4 hBa hb5
      go_upto_if 84 with fail
      generalize w4.alloc (.cells #[.slice u1 m1 d1, .slice u2 m2 d2] 24) = W5 at *
      generalize w4.heap.size = XB at *
      obtain ⟨x0, x1, -⟩ := rowTwo hRX
      go_wp2_with fail
      refine (HFI.out W5 u1 u2 m1 m2 d1 d2 HD5.out.1.ls HD5.out.2.ls).mono ?_
      rintro x w6 ⟨rfl, b6⟩
      have hBa : Below w6.heap.size w6 (w6.alloc (.cells #[.int .i64 1, .int .i64 1, .int .i64 A, .int .i64 C, .int .i64 0] 26)) := (Below.refl _ _).alloc (Nat.le_refl _) _
      have hRZ : (w6.alloc (.cells #[.int .i64 1, .int .i64 1, .int .i64 A, .int .i64 C, .int .i64 0] 26)).heap[w6.heap.size]? = some (.cells #[.int .i64 1, .int .i64 1, .int .i64 A, .int .i64 C, .int .i64 0] 26 (0, 0)) := heap_alloc_new w6 _
      have hb7 := b6.trans (hBa.mono b6.size)
      have HB7 := hidW (HB5.out.trans (hb7.mono HB5.out.size))
      have HD7 := hidW (And.intro (HD5.out.1.below hb7) (HD5.out.2.below hb7))
      have hRX7 := (hb7.block XB (Array.getElem?_eq_some_iff.1 hRX).1).trans hRX
      clear x0 x1 b6 hBa hb7 HB5 HD5 hRX HFI
      go_upto_region 15 with fail
      generalize w6.alloc (.cells #[.int .i64 1, .int .i64 1, .int .i64 A, .int .i64 C, .int .i64 0] 26) = W7 at *
      generalize w6.heap.size = ZB at *
      obtain ⟨e0, e1, e2, e3, e4, -⟩ := rowFive hRZ
      obtain ⟨x0, x1, -⟩ := rowTwo hRX7
      have hRW7 := (HB7.out.block B0 (Array.getElem?_eq_some_iff.1 HRW.out).1).trans HRW.out
      obtain ⟨v0, v1, vf⟩ := rowTwo hRW7
      have vf0 := vf 0
      have vf1 := vf 1
      have hgg := grTwo W7 B0 (.slice u1 m1 d1) (.slice u2 m2 d2)
      have hBB : B0 < wr.heap.size := (Array.getElem?_eq_some_iff.1 HRW.out).1
      have hbw7 := HBW.out.trans (HB7.out.mono HBW.out.size)
      have HFIN := hidW (show ((W7.setCell ⟨B0, 0, none⟩ (.slice u1 m1 d1)).setCell ⟨B0, 1, none⟩ (.slice u2 m2 d2)).heap[B0]? = some (.cells #[.slice u1 m1 d1, .slice u2 m2 d2] 24 (0, 0)) ∧ LS ((W7.setCell ⟨B0, 0, none⟩ (.slice u1 m1 d1)).setCell ⟨B0, 1, none⟩ (.slice u2 m2 d2)) (.slice u1 m1 d1) (lsB A C 0) ∧ LS ((W7.setCell ⟨B0, 0, none⟩ (.slice u1 m1 d1)).setCell ⟨B0, 1, none⟩ (.slice u2 m2 d2)) (.slice u2 m2 d2) [] ∧ LsI shown A C 0 ((nn : Int) - 1) ∧ Below w.heap.size w ((W7.setCell ⟨B0, 0, none⟩ (.slice u1 m1 d1)).setCell ⟨B0, 1, none⟩ (.slice u2 m2 d2)) from
        ⟨setTwo hRW7 _ _, (HD7.out.1.other hgg hBB).ls, (HD7.out.2.other hgg hBB).ls, HI2.out, hbw7.grown hgg hbw7.size (fun k hk => by cases hk; exact HB0.out)⟩)
      have hne : (wrap64 (A + C) != (nn : Int)) = false := by rw [hws]; simp
      have hgt : ¬ (shown < A) := by omega
      have hwm : wrap64 ((nn : Int) - 1) = ((nn - 1 : Nat) : Int) := by have h1 := HNN.out; have h2 := HN.out; unfold wrap64; omega
      have HWM := hidW hwm
      have hcm : (nn : Int) - 1 = ((nn - 1 : Nat) : Int) := by have h1 := HNN.out; omega
      rw [hcm] at HFIN
      clear hgg hBB hbw7 HBW HB7 HD7 hRW7 hRX7 hRZ vf HRW HI2 hle hcm
      by_cases hc : 0 < C
      · have hs := him hc
        subst hs
        have hq2 : (A != A) = false := by simp
        clear him
        go_wp2_with fail
        go_roundg (nn - 1)
        case measure => have h1 := HNN.out; omega
        case rel => exact ⟨nn - 1, A, C, _, _, _, _, _, _, Nat.le_refl _, by have h1 := HNN.out; omega, by first | rfl | rw [HWM.out], HFIN.out⟩
      · clear him
        go_wp2_with fail
        go_roundg (nn - 1)
        case measure => have h1 := HNN.out; omega
        case rel => exact ⟨nn - 1, A, C, _, _, _, _, _, _, Nat.le_refl _, by have h1 := HNN.out; omega, by first | rfl | rw [HWM.out], HFIN.out⟩

theorem less_walk (shown hidden : Int) (w : World) :
    Calls Try.prog 4 #[.int .i64 shown, .int .i64 hidden] w fun e w' => e = .returned (.bool true) ∧ Below w.heap.size w w' := by
  by_cases a1 : shown < 1
  · go_enter Try.func4, Try.ntmps4
    go_wp2_with fail
    go_ret
    exact ⟨rfl, Below.refl _ _⟩
  by_cases a2 : 50 < shown
  · go_enter Try.func4, Try.ntmps4
    go_wp2_with fail
    go_ret
    exact ⟨rfl, Below.refl _ _⟩
  by_cases a3 : hidden < 0
  · go_enter Try.func4, Try.ntmps4
    go_wp2_with fail
    go_ret
    exact ⟨rfl, Below.refl _ _⟩
  by_cases a4 : 50 < hidden
  · go_enter Try.func4, Try.ntmps4
    go_wp2_with fail
    go_ret
    exact ⟨rfl, Below.refl _ _⟩
  by_cases a5 : 0 < hidden
  · exact less_pos shown hidden w (by omega) (by omega) a5 (by omega)
  · obtain rfl : hidden = 0 := by omega
    exact less_zero shown w (by omega) (by omega)
end Go.Proofs.Ytjphhieloicdeaa.swp
