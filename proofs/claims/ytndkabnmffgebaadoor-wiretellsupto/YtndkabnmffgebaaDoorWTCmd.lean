/- Contracts over this seat's translation: the document's Command (what is wrong with a command). -/
import Derived.Test.YtndkabnmffgebaaDoorWirPure
import Derived.Test.YtndkabnmffgebaaDoorWirRow
import Derived.Test.YtndkabnmffgebaaDoorMeeRef1c
namespace Go.Proofs.YtndkabnmffgebaaDoor.wir
open Go.RowKit
open Go.Proofs.YtndkabnmffgebaaDoor.ord (O chk oV prB)

theorem who_ref (n : Int) (w : World) : Calls Tryd.prog 17 #[.int .i64 n] w fun e w' => e = .returned (.bool (inB n 1 9)) ∧ w' = w := by
  have hn : inB n 1 9 = (decide (1 ≤ n) && decide (n ≤ 9)) := rfl
  by_cases h : 1 ≤ n
  · by_cases h2 : n ≤ 9
    · rw [hn, decide_eq_true h, decide_eq_true h2]
      clear hn
      go_enter Tryd.func17, Tryd.ntmps17
      go_wp2
      go_ret
      exact ⟨rfl, rfl⟩
    · rw [hn, decide_eq_true h, decide_eq_false h2]
      clear hn
      go_enter Tryd.func17, Tryd.ntmps17
      go_wp2
      go_ret
      exact ⟨rfl, rfl⟩
  · rw [hn, decide_eq_false h]
    clear hn
    go_enter Tryd.func17, Tryd.ntmps17
    go_wp2
    go_ret
    exact ⟨rfl, rfl⟩
theorem price_ref (n : Int) (w : World) : Calls Tryd.prog 16 #[.int .i64 n] w fun e w' => e = .returned (.bool (inB n 1 10000)) ∧ w' = w := by
  have hn : inB n 1 10000 = (decide (1 ≤ n) && decide (n ≤ 10000)) := rfl
  by_cases h : 1 ≤ n
  · by_cases h2 : n ≤ 10000
    · rw [hn, decide_eq_true h, decide_eq_true h2]
      clear hn
      go_enter Tryd.func16, Tryd.ntmps16
      go_wp2
      go_ret
      exact ⟨rfl, rfl⟩
    · rw [hn, decide_eq_true h, decide_eq_false h2]
      clear hn
      go_enter Tryd.func16, Tryd.ntmps16
      go_wp2
      go_ret
      exact ⟨rfl, rfl⟩
  · rw [hn, decide_eq_false h]
    clear hn
    go_enter Tryd.func16, Tryd.ntmps16
    go_wp2
    go_ret
    exact ⟨rfl, rfl⟩
theorem cchk_w {xs : List Int} (h : ¬ wchk xs = 0) : cchk xs = wchk xs := by unfold cchk; rw [if_neg h]
theorem cchk_z {xs : List Int} (h : wchk xs = 0) : cchk xs = if zap xs (offs (xs[0]!)) = zero11 then 0 else 3 := by unfold cchk; rw [if_pos h]
theorem inB_lo {n lo hi : Int} (h : n < lo) : inB n lo hi = false := by unfold inB; rw [decide_eq_false (by omega)]; rfl
theorem inB_hi {n lo hi : Int} (h : hi < n) : inB n lo hi = false := by unfold inB; rw [decide_eq_false (by omega : ¬ n ≤ hi), Bool.and_false]
theorem inB_in {n lo hi : Int} (h : lo ≤ n) (h2 : n ≤ hi) : inB n lo hi = true := by unfold inB; rw [decide_eq_true h, decide_eq_true h2]; rfl
theorem int_ret {a b : Int} (h : a = b) : Ending.returned (.int .i64 a) = .returned (.int .i64 b) := by rw [h]

set_option maxRecDepth 100000 in
set_option maxHeartbeats 1000000 in
theorem rcmd_1 (c1 c2 c3 c4 c5 c6 c7 c8 c9 c10 : Int) (w : World) :
    Calls Tryd.prog 4 #[.agg #[.int .i64 1, .int .i64 c1, .int .i64 c2, .int .i64 c3, .int .i64 c4, .int .i64 c5, .int .i64 c6, .int .i64 c7, .int .i64 c8, .int .i64 c9, .int .i64 c10]] w
      fun e w' => e = .returned (.int .i64 (cchk [1, c1, c2, c3, c4, c5, c6, c7, c8, c9, c10])) ∧ Below w.heap.size w w' := by
  obtain ⟨E, hE⟩ : ∃ E, E = cchk [1, c1, c2, c3, c4, c5, c6, c7, c8, c9, c10] := ⟨_, rfl⟩
  have HE := hidW hE
  rw [← hE]
  clear hE
  obtain ⟨X, hX⟩ : ∃ X, X = w.heap.size := ⟨_, rfl⟩
  have HX := hidW hX
  obtain ⟨V, hV⟩ : ∃ V, V = (w.alloc (.cells #[.int .i64 1, .int .i64 c1, .int .i64 c2, .int .i64 c3, .int .i64 c4, .int .i64 c5, .int .i64 c6, .int .i64 c7, .int .i64 c8, .int .i64 c9, .int .i64 c10] 25)).alloc (.cells #[.int .i64 c1, .int .i64 c2, .int .i64 c3, .int .i64 c4, .int .i64 c5, .int .i64 c6, .int .i64 c7, .int .i64 c8] 23) := ⟨_, rfl⟩
  have HV : Hid (Below X w V ∧ Cmd V X [1, c1, c2, c3, c4, c5, c6, c7, c8, c9, c10] ∧ V.heap[X + 1]? = some (.cells #[.int .i64 c1, .int .i64 c2, .int .i64 c3, .int .i64 c4, .int .i64 c5, .int .i64 c6, .int .i64 c7, .int .i64 c8] 23 (0, 0)) ∧ V.heap.size = X + 2) := by
    subst hV hX
    refine ⟨((Below.refl _ _).alloc (Nat.le_refl _) _).alloc (by simp) _, ?_, ?_, by simp⟩
    · have h1 := heap_alloc_new w (.cells #[.int .i64 1, .int .i64 c1, .int .i64 c2, .int .i64 c3, .int .i64 c4, .int .i64 c5, .int .i64 c6, .int .i64 c7, .int .i64 c8, .int .i64 c9, .int .i64 c10] 25)
      exact (Lib.alloc_old _ _ w.heap.size (by simp)).trans h1
    · have h1 := heap_alloc_new (w.alloc (.cells #[.int .i64 1, .int .i64 c1, .int .i64 c2, .int .i64 c3, .int .i64 c4, .int .i64 c5, .int .i64 c6, .int .i64 c7, .int .i64 c8, .int .i64 c9, .int .i64 c10] 25)) (.cells #[.int .i64 c1, .int .i64 c2, .int .i64 c3, .int .i64 c4, .int .i64 c5, .int .i64 c6, .int .i64 c7, .int .i64 c8] 23)
      rw [World.size_alloc] at h1
      exact h1
  obtain ⟨a0, a1, a2, a3, a4, a5, a6, a7, a8, a9, a10⟩ := HV.out.2.1.row
  have o0 : V.cell? ⟨X + 1, 0, none⟩ = some (.int .i64 c1) := by simp [World.cell?, HV.out.2.2.1]
  have o1 : V.cell? ⟨X + 1, 1, none⟩ = some (.int .i64 c2) := by simp [World.cell?, HV.out.2.2.1]
  have o2 : V.cell? ⟨X + 1, 2, none⟩ = some (.int .i64 c3) := by simp [World.cell?, HV.out.2.2.1]
  have o3 : V.cell? ⟨X + 1, 3, none⟩ = some (.int .i64 c4) := by simp [World.cell?, HV.out.2.2.1]
  have o4 : V.cell? ⟨X + 1, 4, none⟩ = some (.int .i64 c5) := by simp [World.cell?, HV.out.2.2.1]
  have o5 : V.cell? ⟨X + 1, 5, none⟩ = some (.int .i64 c6) := by simp [World.cell?, HV.out.2.2.1]
  have o6 : V.cell? ⟨X + 1, 6, none⟩ = some (.int .i64 c7) := by simp [World.cell?, HV.out.2.2.1]
  have o7 : V.cell? ⟨X + 1, 7, none⟩ = some (.int .i64 c8) := by simp [World.cell?, HV.out.2.2.1]
  rw [← hX]
  go_enter Tryd.func4, Tryd.ntmps4
  go_upto_region 2 with fail
  simp only [← hX]
  simp only [← hV]
  clear hX hV
  have HB : Hid (Below X w V) := HV.out.1
  have HC := hidW (ord.rord_any ⟨c1, c2, c3, c4, c5, c6, c7, c8⟩ V)
  have HW : Hid (wchk [1, c1, c2, c3, c4, c5, c6, c7, c8, c9, c10] = chk ⟨c1, c2, c3, c4, c5, c6, c7, c8⟩) := hidW rfl
  go_upto_region 5 with (go_at_call 15; refine HC.out.mono ?_; rintro e w1 ⟨rfl, hb1⟩)
  have HB1 : Hid (Below X w w1 ∧ Cmd w1 X [1, c1, c2, c3, c4, c5, c6, c7, c8, c9, c10]) := ⟨HB.out.trans (hb1.mono (by have := HV.out.2.2.2; omega)), HV.out.2.1.below hb1⟩
  clear hb1 a0 a1 a2 a3 a4 a5 a6 a7 a8 a9 a10 o0 o1 o2 o3 o4 o5 o6 o7 HB
  have HB : Hid (Below X w w1) := HB1.out.1
  obtain ⟨-, -, -, -, -, -, -, -, -, b9, b10⟩ := HB1.out.2.row
  obtain ⟨F, hF⟩ : ∃ F, F = chk ⟨c1, c2, c3, c4, c5, c6, c7, c8⟩ := ⟨_, rfl⟩
  have HF : Hid (wchk [1, c1, c2, c3, c4, c5, c6, c7, c8, c9, c10] = F) := hidW (HW.out.trans hF.symm)
  simp only [← hF]
  clear hF HW HC
  by_cases h0 : F = 0
  rotate_left
  · go_wp2_with fail
    go_ret
    exact ⟨int_ret (Eq.symm (HE.out.trans ((cchk_w (by rw [HF.out]; exact h0)).trans HF.out))), HB.out⟩
  subst h0
  have HZ := hidW (cchk_z HF.out)
  by_cases h9 : c9 = 0
  rotate_left
  · go_wp2_with fail
    go_ret
    exact ⟨int_ret (Eq.symm (HE.out.trans (HZ.out.trans (if_neg (by simp [zap, offs, zero11, h9]))))), HB.out⟩
  subst h9
  by_cases h10 : c10 = 0
  rotate_left
  · go_wp2_with fail
    go_ret
    exact ⟨int_ret (Eq.symm (HE.out.trans (HZ.out.trans (if_neg (by simp [zap, offs, zero11, h10]))))), HB.out⟩
  subst h10
  go_wp2_with fail
  go_ret
  exact ⟨int_ret (Eq.symm (HE.out.trans (HZ.out.trans (if_pos rfl)))), HB.out⟩

set_option maxRecDepth 100000 in
set_option maxHeartbeats 1000000 in
theorem rcmd_2 (c1 c2 c3 c4 c5 c6 c7 c8 c9 c10 : Int) (w : World) :
    Calls Tryd.prog 4 #[.agg #[.int .i64 2, .int .i64 c1, .int .i64 c2, .int .i64 c3, .int .i64 c4, .int .i64 c5, .int .i64 c6, .int .i64 c7, .int .i64 c8, .int .i64 c9, .int .i64 c10]] w
      fun e w' => e = .returned (.int .i64 (cchk [2, c1, c2, c3, c4, c5, c6, c7, c8, c9, c10])) ∧ Below w.heap.size w w' := by
  obtain ⟨E, hE⟩ : ∃ E, E = cchk [2, c1, c2, c3, c4, c5, c6, c7, c8, c9, c10] := ⟨_, rfl⟩
  have HE := hidW hE
  rw [← hE]
  clear hE
  obtain ⟨X, hX⟩ : ∃ X, X = w.heap.size := ⟨_, rfl⟩
  have HX := hidW hX
  obtain ⟨V, hV⟩ : ∃ V, V = (w.alloc (.cells #[.int .i64 2, .int .i64 c1, .int .i64 c2, .int .i64 c3, .int .i64 c4, .int .i64 c5, .int .i64 c6, .int .i64 c7, .int .i64 c8, .int .i64 c9, .int .i64 c10] 25)).alloc (.cells #[.int .i64 c1, .int .i64 c2, .int .i64 c3, .int .i64 c4, .int .i64 c5, .int .i64 c6, .int .i64 c7, .int .i64 c8] 23) := ⟨_, rfl⟩
  have HV : Hid (Below X w V ∧ Cmd V X [2, c1, c2, c3, c4, c5, c6, c7, c8, c9, c10] ∧ V.heap[X + 1]? = some (.cells #[.int .i64 c1, .int .i64 c2, .int .i64 c3, .int .i64 c4, .int .i64 c5, .int .i64 c6, .int .i64 c7, .int .i64 c8] 23 (0, 0)) ∧ V.heap.size = X + 2) := by
    subst hV hX
    refine ⟨((Below.refl _ _).alloc (Nat.le_refl _) _).alloc (by simp) _, ?_, ?_, by simp⟩
    · have h1 := heap_alloc_new w (.cells #[.int .i64 2, .int .i64 c1, .int .i64 c2, .int .i64 c3, .int .i64 c4, .int .i64 c5, .int .i64 c6, .int .i64 c7, .int .i64 c8, .int .i64 c9, .int .i64 c10] 25)
      exact (Lib.alloc_old _ _ w.heap.size (by simp)).trans h1
    · have h1 := heap_alloc_new (w.alloc (.cells #[.int .i64 2, .int .i64 c1, .int .i64 c2, .int .i64 c3, .int .i64 c4, .int .i64 c5, .int .i64 c6, .int .i64 c7, .int .i64 c8, .int .i64 c9, .int .i64 c10] 25)) (.cells #[.int .i64 c1, .int .i64 c2, .int .i64 c3, .int .i64 c4, .int .i64 c5, .int .i64 c6, .int .i64 c7, .int .i64 c8] 23)
      rw [World.size_alloc] at h1
      exact h1
  obtain ⟨a0, a1, a2, a3, a4, a5, a6, a7, a8, a9, a10⟩ := HV.out.2.1.row
  have o0 : V.cell? ⟨X + 1, 0, none⟩ = some (.int .i64 c1) := by simp [World.cell?, HV.out.2.2.1]
  have o1 : V.cell? ⟨X + 1, 1, none⟩ = some (.int .i64 c2) := by simp [World.cell?, HV.out.2.2.1]
  have o2 : V.cell? ⟨X + 1, 2, none⟩ = some (.int .i64 c3) := by simp [World.cell?, HV.out.2.2.1]
  have o3 : V.cell? ⟨X + 1, 3, none⟩ = some (.int .i64 c4) := by simp [World.cell?, HV.out.2.2.1]
  have o4 : V.cell? ⟨X + 1, 4, none⟩ = some (.int .i64 c5) := by simp [World.cell?, HV.out.2.2.1]
  have o5 : V.cell? ⟨X + 1, 5, none⟩ = some (.int .i64 c6) := by simp [World.cell?, HV.out.2.2.1]
  have o6 : V.cell? ⟨X + 1, 6, none⟩ = some (.int .i64 c7) := by simp [World.cell?, HV.out.2.2.1]
  have o7 : V.cell? ⟨X + 1, 7, none⟩ = some (.int .i64 c8) := by simp [World.cell?, HV.out.2.2.1]
  rw [← hX]
  go_enter Tryd.func4, Tryd.ntmps4
  go_upto_region 2 with fail
  simp only [← hX]
  simp only [← hV]
  clear hX hV
  have HB : Hid (Below X w V) := HV.out.1
  have HW2 : Hid (wchk [2, c1, c2, c3, c4, c5, c6, c7, c8, c9, c10] = if inB c1 1 9999 then 0 else 1) := hidW rfl
  go_upto_region 10 with fail
  by_cases l1 : c1 < 1
  · have HW : Hid (wchk [2, c1, c2, c3, c4, c5, c6, c7, c8, c9, c10] = 1) := hidW (by rw [HW2.out, inB_lo l1]; rfl)
    go_wp2_with fail
    go_ret
    exact ⟨int_ret (Eq.symm (HE.out.trans ((cchk_w (by rw [HW.out]; decide)).trans HW.out))), HB.out⟩
  by_cases l2 : 9999 < c1
  · have HW : Hid (wchk [2, c1, c2, c3, c4, c5, c6, c7, c8, c9, c10] = 1) := hidW (by rw [HW2.out, inB_hi l2]; rfl)
    go_wp2_with fail
    go_ret
    exact ⟨int_ret (Eq.symm (HE.out.trans ((cchk_w (by rw [HW.out]; decide)).trans HW.out))), HB.out⟩
  have l3 : 1 ≤ c1 := by omega
  have l4 : c1 ≤ 9999 := by omega
  have HZ := hidW (cchk_z (xs := [2, c1, c2, c3, c4, c5, c6, c7, c8, c9, c10]) (by rw [HW2.out, inB_in l3 l4]; rfl))
  obtain ⟨pb, hpb⟩ : ∃ pb, pb = inB c5 1 10000 := ⟨_, rfl⟩
  have HPR := hidW (price_ref c5 V)
  rw [← hpb] at HPR
  clear hpb
  go_upto_region 15 with (go_at_call 16; refine HPR.out.mono ?_; rintro e w1 ⟨rfl, h6⟩; have h6 := h6.symm; subst h6)
  by_cases h9 : c9 = 0
  rotate_left
  · go_wp2_with fail
    go_ret
    exact ⟨int_ret (Eq.symm (HE.out.trans (HZ.out.trans (if_neg (by simp [zap, offs, zero11, h9]))))), HB.out⟩
  subst h9
  by_cases h10 : c10 = 0
  rotate_left
  · go_wp2_with fail
    go_ret
    exact ⟨int_ret (Eq.symm (HE.out.trans (HZ.out.trans (if_neg (by simp [zap, offs, zero11, h10]))))), HB.out⟩
  subst h10
  by_cases h2 : c2 = 0
  rotate_left
  · go_wp2_with fail
    go_ret
    exact ⟨int_ret (Eq.symm (HE.out.trans (HZ.out.trans (if_neg (by simp [zap, offs, zero11, h2]))))), HB.out⟩
  subst h2
  by_cases h3 : c3 = 0
  rotate_left
  · go_wp2_with fail
    go_ret
    exact ⟨int_ret (Eq.symm (HE.out.trans (HZ.out.trans (if_neg (by simp [zap, offs, zero11, h3]))))), HB.out⟩
  subst h3
  by_cases h4 : c4 = 0
  rotate_left
  · go_wp2_with fail
    go_ret
    exact ⟨int_ret (Eq.symm (HE.out.trans (HZ.out.trans (if_neg (by simp [zap, offs, zero11, h4]))))), HB.out⟩
  subst h4
  by_cases h7 : c7 = 0
  rotate_left
  · go_wp2_with fail
    go_ret
    exact ⟨int_ret (Eq.symm (HE.out.trans (HZ.out.trans (if_neg (by simp [zap, offs, zero11, h7]))))), HB.out⟩
  subst h7
  by_cases h8 : c8 = 0
  rotate_left
  · go_wp2_with fail
    go_ret
    exact ⟨int_ret (Eq.symm (HE.out.trans (HZ.out.trans (if_neg (by simp [zap, offs, zero11, h8]))))), HB.out⟩
  subst h8
  go_upto_region 17 with fail
  by_cases h5 : c5 = 0
  rotate_left
  · go_wp2_with fail
    go_ret
    exact ⟨int_ret (Eq.symm (HE.out.trans (HZ.out.trans (if_neg (by simp [zap, offs, zero11, h5]))))), HB.out⟩
  subst h5
  by_cases h6 : c6 = 0
  rotate_left
  · go_wp2_with fail
    go_ret
    exact ⟨int_ret (Eq.symm (HE.out.trans (HZ.out.trans (if_neg (by simp [zap, offs, zero11, h6]))))), HB.out⟩
  subst h6
  go_wp2_with fail
  go_ret
  exact ⟨int_ret (Eq.symm (HE.out.trans (HZ.out.trans (if_pos rfl)))), HB.out⟩

set_option maxRecDepth 100000 in
set_option maxHeartbeats 1000000 in
theorem rcmd_3 (c1 c2 c3 c4 c5 c6 c7 c8 c9 c10 : Int) (w : World) :
    Calls Tryd.prog 4 #[.agg #[.int .i64 3, .int .i64 c1, .int .i64 c2, .int .i64 c3, .int .i64 c4, .int .i64 c5, .int .i64 c6, .int .i64 c7, .int .i64 c8, .int .i64 c9, .int .i64 c10]] w
      fun e w' => e = .returned (.int .i64 (cchk [3, c1, c2, c3, c4, c5, c6, c7, c8, c9, c10])) ∧ Below w.heap.size w w' := by
  obtain ⟨E, hE⟩ : ∃ E, E = cchk [3, c1, c2, c3, c4, c5, c6, c7, c8, c9, c10] := ⟨_, rfl⟩
  have HE := hidW hE
  rw [← hE]
  clear hE
  obtain ⟨X, hX⟩ : ∃ X, X = w.heap.size := ⟨_, rfl⟩
  have HX := hidW hX
  obtain ⟨V, hV⟩ : ∃ V, V = (w.alloc (.cells #[.int .i64 3, .int .i64 c1, .int .i64 c2, .int .i64 c3, .int .i64 c4, .int .i64 c5, .int .i64 c6, .int .i64 c7, .int .i64 c8, .int .i64 c9, .int .i64 c10] 25)).alloc (.cells #[.int .i64 c1, .int .i64 c2, .int .i64 c3, .int .i64 c4, .int .i64 c5, .int .i64 c6, .int .i64 c7, .int .i64 c8] 23) := ⟨_, rfl⟩
  have HV : Hid (Below X w V ∧ Cmd V X [3, c1, c2, c3, c4, c5, c6, c7, c8, c9, c10] ∧ V.heap[X + 1]? = some (.cells #[.int .i64 c1, .int .i64 c2, .int .i64 c3, .int .i64 c4, .int .i64 c5, .int .i64 c6, .int .i64 c7, .int .i64 c8] 23 (0, 0)) ∧ V.heap.size = X + 2) := by
    subst hV hX
    refine ⟨((Below.refl _ _).alloc (Nat.le_refl _) _).alloc (by simp) _, ?_, ?_, by simp⟩
    · have h1 := heap_alloc_new w (.cells #[.int .i64 3, .int .i64 c1, .int .i64 c2, .int .i64 c3, .int .i64 c4, .int .i64 c5, .int .i64 c6, .int .i64 c7, .int .i64 c8, .int .i64 c9, .int .i64 c10] 25)
      exact (Lib.alloc_old _ _ w.heap.size (by simp)).trans h1
    · have h1 := heap_alloc_new (w.alloc (.cells #[.int .i64 3, .int .i64 c1, .int .i64 c2, .int .i64 c3, .int .i64 c4, .int .i64 c5, .int .i64 c6, .int .i64 c7, .int .i64 c8, .int .i64 c9, .int .i64 c10] 25)) (.cells #[.int .i64 c1, .int .i64 c2, .int .i64 c3, .int .i64 c4, .int .i64 c5, .int .i64 c6, .int .i64 c7, .int .i64 c8] 23)
      rw [World.size_alloc] at h1
      exact h1
  obtain ⟨a0, a1, a2, a3, a4, a5, a6, a7, a8, a9, a10⟩ := HV.out.2.1.row
  have o0 : V.cell? ⟨X + 1, 0, none⟩ = some (.int .i64 c1) := by simp [World.cell?, HV.out.2.2.1]
  have o1 : V.cell? ⟨X + 1, 1, none⟩ = some (.int .i64 c2) := by simp [World.cell?, HV.out.2.2.1]
  have o2 : V.cell? ⟨X + 1, 2, none⟩ = some (.int .i64 c3) := by simp [World.cell?, HV.out.2.2.1]
  have o3 : V.cell? ⟨X + 1, 3, none⟩ = some (.int .i64 c4) := by simp [World.cell?, HV.out.2.2.1]
  have o4 : V.cell? ⟨X + 1, 4, none⟩ = some (.int .i64 c5) := by simp [World.cell?, HV.out.2.2.1]
  have o5 : V.cell? ⟨X + 1, 5, none⟩ = some (.int .i64 c6) := by simp [World.cell?, HV.out.2.2.1]
  have o6 : V.cell? ⟨X + 1, 6, none⟩ = some (.int .i64 c7) := by simp [World.cell?, HV.out.2.2.1]
  have o7 : V.cell? ⟨X + 1, 7, none⟩ = some (.int .i64 c8) := by simp [World.cell?, HV.out.2.2.1]
  rw [← hX]
  go_enter Tryd.func4, Tryd.ntmps4
  go_upto_region 2 with fail
  simp only [← hX]
  simp only [← hV]
  clear hX hV
  have HB : Hid (Below X w V) := HV.out.1
  have HW3 : Hid (wchk [3, c1, c2, c3, c4, c5, c6, c7, c8, c9, c10] = if inB c1 1 9999 && inB c5 1 10000 && inB c6 1 10000 then 0 else 1) := hidW rfl
  go_upto_region 10 with fail
  by_cases l1 : c1 < 1
  · have HW : Hid (wchk [3, c1, c2, c3, c4, c5, c6, c7, c8, c9, c10] = 1) := hidW (by rw [HW3.out, inB_lo l1]; rfl)
    go_wp2_with fail
    go_ret
    exact ⟨int_ret (Eq.symm (HE.out.trans ((cchk_w (by rw [HW.out]; decide)).trans HW.out))), HB.out⟩
  by_cases l2 : 9999 < c1
  · have HW : Hid (wchk [3, c1, c2, c3, c4, c5, c6, c7, c8, c9, c10] = 1) := hidW (by rw [HW3.out, inB_hi l2]; rfl)
    go_wp2_with fail
    go_ret
    exact ⟨int_ret (Eq.symm (HE.out.trans ((cchk_w (by rw [HW.out]; decide)).trans HW.out))), HB.out⟩
  have l3 : 1 ≤ c1 := by omega
  have l4 : c1 ≤ 9999 := by omega
  obtain ⟨pb, hpb⟩ : ∃ pb, pb = inB c5 1 10000 := ⟨_, rfl⟩
  have HPR := hidW (price_ref c5 V)
  rw [← hpb] at HPR HW3
  clear hpb
  go_upto_region 13 with (go_at_call 16; refine HPR.out.mono ?_; rintro e w1 ⟨rfl, h6⟩; have h6 := h6.symm; subst h6)
  cases pb
  · have HW : Hid (wchk [3, c1, c2, c3, c4, c5, c6, c7, c8, c9, c10] = 1) := hidW (by rw [HW3.out, Bool.and_false]; rfl)
    go_wp2_with fail
    go_ret
    exact ⟨int_ret (Eq.symm (HE.out.trans ((cchk_w (by rw [HW.out]; decide)).trans HW.out))), HB.out⟩
  by_cases m1 : c6 < 1
  · have HW : Hid (wchk [3, c1, c2, c3, c4, c5, c6, c7, c8, c9, c10] = 1) := hidW (by rw [HW3.out, inB_lo m1, Bool.and_false]; rfl)
    go_wp2_with fail
    go_ret
    exact ⟨int_ret (Eq.symm (HE.out.trans ((cchk_w (by rw [HW.out]; decide)).trans HW.out))), HB.out⟩
  by_cases m2 : 10000 < c6
  · have HW : Hid (wchk [3, c1, c2, c3, c4, c5, c6, c7, c8, c9, c10] = 1) := hidW (by rw [HW3.out, inB_hi m2, Bool.and_false]; rfl)
    go_wp2_with fail
    go_ret
    exact ⟨int_ret (Eq.symm (HE.out.trans ((cchk_w (by rw [HW.out]; decide)).trans HW.out))), HB.out⟩
  have HZ := hidW (cchk_z (xs := [3, c1, c2, c3, c4, c5, c6, c7, c8, c9, c10]) (by rw [HW3.out, inB_in l3 l4, inB_in (by omega : 1 ≤ c6) (by omega)]; rfl))
  have m3 : 1 ≤ c6 := by omega
  have m4 : c6 ≤ 10000 := by omega
  go_upto_region 15 with fail
  by_cases h9 : c9 = 0
  rotate_left
  · go_wp2_with fail
    go_ret
    exact ⟨int_ret (Eq.symm (HE.out.trans (HZ.out.trans (if_neg (by simp [zap, offs, zero11, h9]))))), HB.out⟩
  subst h9
  by_cases h10 : c10 = 0
  rotate_left
  · go_wp2_with fail
    go_ret
    exact ⟨int_ret (Eq.symm (HE.out.trans (HZ.out.trans (if_neg (by simp [zap, offs, zero11, h10]))))), HB.out⟩
  subst h10
  by_cases h2 : c2 = 0
  rotate_left
  · go_wp2_with fail
    go_ret
    exact ⟨int_ret (Eq.symm (HE.out.trans (HZ.out.trans (if_neg (by simp [zap, offs, zero11, h2]))))), HB.out⟩
  subst h2
  by_cases h3 : c3 = 0
  rotate_left
  · go_wp2_with fail
    go_ret
    exact ⟨int_ret (Eq.symm (HE.out.trans (HZ.out.trans (if_neg (by simp [zap, offs, zero11, h3]))))), HB.out⟩
  subst h3
  by_cases h4 : c4 = 0
  rotate_left
  · go_wp2_with fail
    go_ret
    exact ⟨int_ret (Eq.symm (HE.out.trans (HZ.out.trans (if_neg (by simp [zap, offs, zero11, h4]))))), HB.out⟩
  subst h4
  by_cases h7 : c7 = 0
  rotate_left
  · go_wp2_with fail
    go_ret
    exact ⟨int_ret (Eq.symm (HE.out.trans (HZ.out.trans (if_neg (by simp [zap, offs, zero11, h7]))))), HB.out⟩
  subst h7
  by_cases h8 : c8 = 0
  rotate_left
  · go_wp2_with fail
    go_ret
    exact ⟨int_ret (Eq.symm (HE.out.trans (HZ.out.trans (if_neg (by simp [zap, offs, zero11, h8]))))), HB.out⟩
  subst h8
  go_wp2_with fail
  go_ret
  exact ⟨int_ret (Eq.symm (HE.out.trans (HZ.out.trans (if_pos rfl)))), HB.out⟩

set_option maxRecDepth 100000 in
set_option maxHeartbeats 1000000 in
theorem rcmd_4 (c1 c2 c3 c4 c5 c6 c7 c8 c9 c10 : Int) (w : World) :
    Calls Tryd.prog 4 #[.agg #[.int .i64 4, .int .i64 c1, .int .i64 c2, .int .i64 c3, .int .i64 c4, .int .i64 c5, .int .i64 c6, .int .i64 c7, .int .i64 c8, .int .i64 c9, .int .i64 c10]] w
      fun e w' => e = .returned (.int .i64 (cchk [4, c1, c2, c3, c4, c5, c6, c7, c8, c9, c10])) ∧ Below w.heap.size w w' := by
  obtain ⟨E, hE⟩ : ∃ E, E = cchk [4, c1, c2, c3, c4, c5, c6, c7, c8, c9, c10] := ⟨_, rfl⟩
  have HE := hidW hE
  rw [← hE]
  clear hE
  obtain ⟨X, hX⟩ : ∃ X, X = w.heap.size := ⟨_, rfl⟩
  have HX := hidW hX
  obtain ⟨V, hV⟩ : ∃ V, V = (w.alloc (.cells #[.int .i64 4, .int .i64 c1, .int .i64 c2, .int .i64 c3, .int .i64 c4, .int .i64 c5, .int .i64 c6, .int .i64 c7, .int .i64 c8, .int .i64 c9, .int .i64 c10] 25)).alloc (.cells #[.int .i64 c1, .int .i64 c2, .int .i64 c3, .int .i64 c4, .int .i64 c5, .int .i64 c6, .int .i64 c7, .int .i64 c8] 23) := ⟨_, rfl⟩
  have HV : Hid (Below X w V ∧ Cmd V X [4, c1, c2, c3, c4, c5, c6, c7, c8, c9, c10] ∧ V.heap[X + 1]? = some (.cells #[.int .i64 c1, .int .i64 c2, .int .i64 c3, .int .i64 c4, .int .i64 c5, .int .i64 c6, .int .i64 c7, .int .i64 c8] 23 (0, 0)) ∧ V.heap.size = X + 2) := by
    subst hV hX
    refine ⟨((Below.refl _ _).alloc (Nat.le_refl _) _).alloc (by simp) _, ?_, ?_, by simp⟩
    · have h1 := heap_alloc_new w (.cells #[.int .i64 4, .int .i64 c1, .int .i64 c2, .int .i64 c3, .int .i64 c4, .int .i64 c5, .int .i64 c6, .int .i64 c7, .int .i64 c8, .int .i64 c9, .int .i64 c10] 25)
      exact (Lib.alloc_old _ _ w.heap.size (by simp)).trans h1
    · have h1 := heap_alloc_new (w.alloc (.cells #[.int .i64 4, .int .i64 c1, .int .i64 c2, .int .i64 c3, .int .i64 c4, .int .i64 c5, .int .i64 c6, .int .i64 c7, .int .i64 c8, .int .i64 c9, .int .i64 c10] 25)) (.cells #[.int .i64 c1, .int .i64 c2, .int .i64 c3, .int .i64 c4, .int .i64 c5, .int .i64 c6, .int .i64 c7, .int .i64 c8] 23)
      rw [World.size_alloc] at h1
      exact h1
  obtain ⟨a0, a1, a2, a3, a4, a5, a6, a7, a8, a9, a10⟩ := HV.out.2.1.row
  have o0 : V.cell? ⟨X + 1, 0, none⟩ = some (.int .i64 c1) := by simp [World.cell?, HV.out.2.2.1]
  have o1 : V.cell? ⟨X + 1, 1, none⟩ = some (.int .i64 c2) := by simp [World.cell?, HV.out.2.2.1]
  have o2 : V.cell? ⟨X + 1, 2, none⟩ = some (.int .i64 c3) := by simp [World.cell?, HV.out.2.2.1]
  have o3 : V.cell? ⟨X + 1, 3, none⟩ = some (.int .i64 c4) := by simp [World.cell?, HV.out.2.2.1]
  have o4 : V.cell? ⟨X + 1, 4, none⟩ = some (.int .i64 c5) := by simp [World.cell?, HV.out.2.2.1]
  have o5 : V.cell? ⟨X + 1, 5, none⟩ = some (.int .i64 c6) := by simp [World.cell?, HV.out.2.2.1]
  have o6 : V.cell? ⟨X + 1, 6, none⟩ = some (.int .i64 c7) := by simp [World.cell?, HV.out.2.2.1]
  have o7 : V.cell? ⟨X + 1, 7, none⟩ = some (.int .i64 c8) := by simp [World.cell?, HV.out.2.2.1]
  rw [← hX]
  go_enter Tryd.func4, Tryd.ntmps4
  go_upto_region 2 with fail
  simp only [← hX]
  simp only [← hV]
  clear hX hV
  have HB : Hid (Below X w V) := HV.out.1
  have HW4 : Hid (wchk [4, c1, c2, c3, c4, c5, c6, c7, c8, c9, c10] = if inB c9 1 9 && inB c10 1 1000000000 then 0 else 1) := hidW rfl
  obtain ⟨pb, hpb⟩ : ∃ pb, pb = inB c9 1 9 := ⟨_, rfl⟩
  have HPR := hidW (who_ref c9 V)
  rw [← hpb] at HPR HW4
  clear hpb
  go_upto_region 23 with (go_at_call 17; refine HPR.out.mono ?_; rintro e w1 ⟨rfl, h6⟩; have h6 := h6.symm; subst h6)
  cases pb
  · have HW : Hid (wchk [4, c1, c2, c3, c4, c5, c6, c7, c8, c9, c10] = 1) := hidW (by rw [HW4.out]; rfl)
    go_wp2_with fail
    go_ret
    exact ⟨int_ret (Eq.symm (HE.out.trans ((cchk_w (by rw [HW.out]; decide)).trans HW.out))), HB.out⟩
  by_cases m1 : c10 < 1
  · have HW : Hid (wchk [4, c1, c2, c3, c4, c5, c6, c7, c8, c9, c10] = 1) := hidW (by rw [HW4.out, inB_lo m1]; rfl)
    go_wp2_with fail
    go_ret
    exact ⟨int_ret (Eq.symm (HE.out.trans ((cchk_w (by rw [HW.out]; decide)).trans HW.out))), HB.out⟩
  by_cases m2 : 1000000000 < c10
  · have HW : Hid (wchk [4, c1, c2, c3, c4, c5, c6, c7, c8, c9, c10] = 1) := hidW (by rw [HW4.out, inB_hi m2]; rfl)
    go_wp2_with fail
    go_ret
    exact ⟨int_ret (Eq.symm (HE.out.trans ((cchk_w (by rw [HW.out]; decide)).trans HW.out))), HB.out⟩
  have HZ := hidW (cchk_z (xs := [4, c1, c2, c3, c4, c5, c6, c7, c8, c9, c10]) (by rw [HW4.out, inB_in (by omega : 1 ≤ c10) (by omega)]; rfl))
  have m3 : 1 ≤ c10 := by omega
  have m4 : c10 ≤ 1000000000 := by omega
  go_upto_region 25 with fail
  by_cases h1 : c1 = 0
  rotate_left
  · go_wp2_with fail
    go_ret
    exact ⟨int_ret (Eq.symm (HE.out.trans (HZ.out.trans (if_neg (by simp [zap, offs, zero11, h1]))))), HB.out⟩
  subst h1
  by_cases h2 : c2 = 0
  rotate_left
  · go_wp2_with fail
    go_ret
    exact ⟨int_ret (Eq.symm (HE.out.trans (HZ.out.trans (if_neg (by simp [zap, offs, zero11, h2]))))), HB.out⟩
  subst h2
  by_cases h3 : c3 = 0
  rotate_left
  · go_wp2_with fail
    go_ret
    exact ⟨int_ret (Eq.symm (HE.out.trans (HZ.out.trans (if_neg (by simp [zap, offs, zero11, h3]))))), HB.out⟩
  subst h3
  by_cases h4 : c4 = 0
  rotate_left
  · go_wp2_with fail
    go_ret
    exact ⟨int_ret (Eq.symm (HE.out.trans (HZ.out.trans (if_neg (by simp [zap, offs, zero11, h4]))))), HB.out⟩
  subst h4
  by_cases h5 : c5 = 0
  rotate_left
  · go_wp2_with fail
    go_ret
    exact ⟨int_ret (Eq.symm (HE.out.trans (HZ.out.trans (if_neg (by simp [zap, offs, zero11, h5]))))), HB.out⟩
  subst h5
  by_cases h6 : c6 = 0
  rotate_left
  · go_wp2_with fail
    go_ret
    exact ⟨int_ret (Eq.symm (HE.out.trans (HZ.out.trans (if_neg (by simp [zap, offs, zero11, h6]))))), HB.out⟩
  subst h6
  by_cases h7 : c7 = 0
  rotate_left
  · go_wp2_with fail
    go_ret
    exact ⟨int_ret (Eq.symm (HE.out.trans (HZ.out.trans (if_neg (by simp [zap, offs, zero11, h7]))))), HB.out⟩
  subst h7
  by_cases h8 : c8 = 0
  rotate_left
  · go_wp2_with fail
    go_ret
    exact ⟨int_ret (Eq.symm (HE.out.trans (HZ.out.trans (if_neg (by simp [zap, offs, zero11, h8]))))), HB.out⟩
  subst h8
  go_wp2_with fail
  go_ret
  exact ⟨int_ret (Eq.symm (HE.out.trans (HZ.out.trans (if_pos rfl)))), HB.out⟩

set_option maxRecDepth 100000 in
set_option maxHeartbeats 1000000 in
theorem rcmd_5 (c1 c2 c3 c4 c5 c6 c7 c8 c9 c10 : Int) (w : World) :
    Calls Tryd.prog 4 #[.agg #[.int .i64 5, .int .i64 c1, .int .i64 c2, .int .i64 c3, .int .i64 c4, .int .i64 c5, .int .i64 c6, .int .i64 c7, .int .i64 c8, .int .i64 c9, .int .i64 c10]] w
      fun e w' => e = .returned (.int .i64 (cchk [5, c1, c2, c3, c4, c5, c6, c7, c8, c9, c10])) ∧ Below w.heap.size w w' := by
  obtain ⟨E, hE⟩ : ∃ E, E = cchk [5, c1, c2, c3, c4, c5, c6, c7, c8, c9, c10] := ⟨_, rfl⟩
  have HE := hidW hE
  rw [← hE]
  clear hE
  obtain ⟨X, hX⟩ : ∃ X, X = w.heap.size := ⟨_, rfl⟩
  have HX := hidW hX
  obtain ⟨V, hV⟩ : ∃ V, V = (w.alloc (.cells #[.int .i64 5, .int .i64 c1, .int .i64 c2, .int .i64 c3, .int .i64 c4, .int .i64 c5, .int .i64 c6, .int .i64 c7, .int .i64 c8, .int .i64 c9, .int .i64 c10] 25)).alloc (.cells #[.int .i64 c1, .int .i64 c2, .int .i64 c3, .int .i64 c4, .int .i64 c5, .int .i64 c6, .int .i64 c7, .int .i64 c8] 23) := ⟨_, rfl⟩
  have HV : Hid (Below X w V ∧ Cmd V X [5, c1, c2, c3, c4, c5, c6, c7, c8, c9, c10] ∧ V.heap[X + 1]? = some (.cells #[.int .i64 c1, .int .i64 c2, .int .i64 c3, .int .i64 c4, .int .i64 c5, .int .i64 c6, .int .i64 c7, .int .i64 c8] 23 (0, 0)) ∧ V.heap.size = X + 2) := by
    subst hV hX
    refine ⟨((Below.refl _ _).alloc (Nat.le_refl _) _).alloc (by simp) _, ?_, ?_, by simp⟩
    · have h1 := heap_alloc_new w (.cells #[.int .i64 5, .int .i64 c1, .int .i64 c2, .int .i64 c3, .int .i64 c4, .int .i64 c5, .int .i64 c6, .int .i64 c7, .int .i64 c8, .int .i64 c9, .int .i64 c10] 25)
      exact (Lib.alloc_old _ _ w.heap.size (by simp)).trans h1
    · have h1 := heap_alloc_new (w.alloc (.cells #[.int .i64 5, .int .i64 c1, .int .i64 c2, .int .i64 c3, .int .i64 c4, .int .i64 c5, .int .i64 c6, .int .i64 c7, .int .i64 c8, .int .i64 c9, .int .i64 c10] 25)) (.cells #[.int .i64 c1, .int .i64 c2, .int .i64 c3, .int .i64 c4, .int .i64 c5, .int .i64 c6, .int .i64 c7, .int .i64 c8] 23)
      rw [World.size_alloc] at h1
      exact h1
  obtain ⟨a0, a1, a2, a3, a4, a5, a6, a7, a8, a9, a10⟩ := HV.out.2.1.row
  have o0 : V.cell? ⟨X + 1, 0, none⟩ = some (.int .i64 c1) := by simp [World.cell?, HV.out.2.2.1]
  have o1 : V.cell? ⟨X + 1, 1, none⟩ = some (.int .i64 c2) := by simp [World.cell?, HV.out.2.2.1]
  have o2 : V.cell? ⟨X + 1, 2, none⟩ = some (.int .i64 c3) := by simp [World.cell?, HV.out.2.2.1]
  have o3 : V.cell? ⟨X + 1, 3, none⟩ = some (.int .i64 c4) := by simp [World.cell?, HV.out.2.2.1]
  have o4 : V.cell? ⟨X + 1, 4, none⟩ = some (.int .i64 c5) := by simp [World.cell?, HV.out.2.2.1]
  have o5 : V.cell? ⟨X + 1, 5, none⟩ = some (.int .i64 c6) := by simp [World.cell?, HV.out.2.2.1]
  have o6 : V.cell? ⟨X + 1, 6, none⟩ = some (.int .i64 c7) := by simp [World.cell?, HV.out.2.2.1]
  have o7 : V.cell? ⟨X + 1, 7, none⟩ = some (.int .i64 c8) := by simp [World.cell?, HV.out.2.2.1]
  rw [← hX]
  go_enter Tryd.func4, Tryd.ntmps4
  go_upto_region 2 with fail
  simp only [← hX]
  simp only [← hV]
  clear hX hV
  have HB : Hid (Below X w V) := HV.out.1
  have HW4 : Hid (wchk [5, c1, c2, c3, c4, c5, c6, c7, c8, c9, c10] = if inB c9 1 9 && inB c10 1 1000000000 then 0 else 1) := hidW rfl
  obtain ⟨pb, hpb⟩ : ∃ pb, pb = inB c9 1 9 := ⟨_, rfl⟩
  have HPR := hidW (who_ref c9 V)
  rw [← hpb] at HPR HW4
  clear hpb
  go_upto_region 23 with (go_at_call 17; refine HPR.out.mono ?_; rintro e w1 ⟨rfl, h6⟩; have h6 := h6.symm; subst h6)
  cases pb
  · have HW : Hid (wchk [5, c1, c2, c3, c4, c5, c6, c7, c8, c9, c10] = 1) := hidW (by rw [HW4.out]; rfl)
    go_wp2_with fail
    go_ret
    exact ⟨int_ret (Eq.symm (HE.out.trans ((cchk_w (by rw [HW.out]; decide)).trans HW.out))), HB.out⟩
  by_cases m1 : c10 < 1
  · have HW : Hid (wchk [5, c1, c2, c3, c4, c5, c6, c7, c8, c9, c10] = 1) := hidW (by rw [HW4.out, inB_lo m1]; rfl)
    go_wp2_with fail
    go_ret
    exact ⟨int_ret (Eq.symm (HE.out.trans ((cchk_w (by rw [HW.out]; decide)).trans HW.out))), HB.out⟩
  by_cases m2 : 1000000000 < c10
  · have HW : Hid (wchk [5, c1, c2, c3, c4, c5, c6, c7, c8, c9, c10] = 1) := hidW (by rw [HW4.out, inB_hi m2]; rfl)
    go_wp2_with fail
    go_ret
    exact ⟨int_ret (Eq.symm (HE.out.trans ((cchk_w (by rw [HW.out]; decide)).trans HW.out))), HB.out⟩
  have HZ := hidW (cchk_z (xs := [5, c1, c2, c3, c4, c5, c6, c7, c8, c9, c10]) (by rw [HW4.out, inB_in (by omega : 1 ≤ c10) (by omega)]; rfl))
  have m3 : 1 ≤ c10 := by omega
  have m4 : c10 ≤ 1000000000 := by omega
  go_upto_region 25 with fail
  by_cases h1 : c1 = 0
  rotate_left
  · go_wp2_with fail
    go_ret
    exact ⟨int_ret (Eq.symm (HE.out.trans (HZ.out.trans (if_neg (by simp [zap, offs, zero11, h1]))))), HB.out⟩
  subst h1
  by_cases h2 : c2 = 0
  rotate_left
  · go_wp2_with fail
    go_ret
    exact ⟨int_ret (Eq.symm (HE.out.trans (HZ.out.trans (if_neg (by simp [zap, offs, zero11, h2]))))), HB.out⟩
  subst h2
  by_cases h3 : c3 = 0
  rotate_left
  · go_wp2_with fail
    go_ret
    exact ⟨int_ret (Eq.symm (HE.out.trans (HZ.out.trans (if_neg (by simp [zap, offs, zero11, h3]))))), HB.out⟩
  subst h3
  by_cases h4 : c4 = 0
  rotate_left
  · go_wp2_with fail
    go_ret
    exact ⟨int_ret (Eq.symm (HE.out.trans (HZ.out.trans (if_neg (by simp [zap, offs, zero11, h4]))))), HB.out⟩
  subst h4
  by_cases h5 : c5 = 0
  rotate_left
  · go_wp2_with fail
    go_ret
    exact ⟨int_ret (Eq.symm (HE.out.trans (HZ.out.trans (if_neg (by simp [zap, offs, zero11, h5]))))), HB.out⟩
  subst h5
  by_cases h6 : c6 = 0
  rotate_left
  · go_wp2_with fail
    go_ret
    exact ⟨int_ret (Eq.symm (HE.out.trans (HZ.out.trans (if_neg (by simp [zap, offs, zero11, h6]))))), HB.out⟩
  subst h6
  by_cases h7 : c7 = 0
  rotate_left
  · go_wp2_with fail
    go_ret
    exact ⟨int_ret (Eq.symm (HE.out.trans (HZ.out.trans (if_neg (by simp [zap, offs, zero11, h7]))))), HB.out⟩
  subst h7
  by_cases h8 : c8 = 0
  rotate_left
  · go_wp2_with fail
    go_ret
    exact ⟨int_ret (Eq.symm (HE.out.trans (HZ.out.trans (if_neg (by simp [zap, offs, zero11, h8]))))), HB.out⟩
  subst h8
  go_wp2_with fail
  go_ret
  exact ⟨int_ret (Eq.symm (HE.out.trans (HZ.out.trans (if_pos rfl)))), HB.out⟩

set_option maxRecDepth 100000 in
set_option maxHeartbeats 1000000 in
theorem rcmd_0 (c0 c1 c2 c3 c4 c5 c6 c7 c8 c9 c10 : Int) (h1 : ¬ c0 = 1) (h2 : ¬ c0 = 2) (h3 : ¬ c0 = 3) (h4 : ¬ c0 = 4) (h5 : ¬ c0 = 5) (w : World) :
    Calls Tryd.prog 4 #[.agg #[.int .i64 c0, .int .i64 c1, .int .i64 c2, .int .i64 c3, .int .i64 c4, .int .i64 c5, .int .i64 c6, .int .i64 c7, .int .i64 c8, .int .i64 c9, .int .i64 c10]] w
      fun e w' => e = .returned (.int .i64 (cchk [c0, c1, c2, c3, c4, c5, c6, c7, c8, c9, c10])) ∧ Below w.heap.size w w' := by
  obtain ⟨E, hE⟩ : ∃ E, E = cchk [c0, c1, c2, c3, c4, c5, c6, c7, c8, c9, c10] := ⟨_, rfl⟩
  have HE := hidW hE
  rw [← hE]
  clear hE
  obtain ⟨X, hX⟩ : ∃ X, X = w.heap.size := ⟨_, rfl⟩
  have HX := hidW hX
  obtain ⟨V, hV⟩ : ∃ V, V = (w.alloc (.cells #[.int .i64 c0, .int .i64 c1, .int .i64 c2, .int .i64 c3, .int .i64 c4, .int .i64 c5, .int .i64 c6, .int .i64 c7, .int .i64 c8, .int .i64 c9, .int .i64 c10] 25)).alloc (.cells #[.int .i64 c1, .int .i64 c2, .int .i64 c3, .int .i64 c4, .int .i64 c5, .int .i64 c6, .int .i64 c7, .int .i64 c8] 23) := ⟨_, rfl⟩
  have HV : Hid (Below X w V ∧ Cmd V X [c0, c1, c2, c3, c4, c5, c6, c7, c8, c9, c10] ∧ V.heap[X + 1]? = some (.cells #[.int .i64 c1, .int .i64 c2, .int .i64 c3, .int .i64 c4, .int .i64 c5, .int .i64 c6, .int .i64 c7, .int .i64 c8] 23 (0, 0)) ∧ V.heap.size = X + 2) := by
    subst hV hX
    refine ⟨((Below.refl _ _).alloc (Nat.le_refl _) _).alloc (by simp) _, ?_, ?_, by simp⟩
    · have h1 := heap_alloc_new w (.cells #[.int .i64 c0, .int .i64 c1, .int .i64 c2, .int .i64 c3, .int .i64 c4, .int .i64 c5, .int .i64 c6, .int .i64 c7, .int .i64 c8, .int .i64 c9, .int .i64 c10] 25)
      exact (Lib.alloc_old _ _ w.heap.size (by simp)).trans h1
    · have h1 := heap_alloc_new (w.alloc (.cells #[.int .i64 c0, .int .i64 c1, .int .i64 c2, .int .i64 c3, .int .i64 c4, .int .i64 c5, .int .i64 c6, .int .i64 c7, .int .i64 c8, .int .i64 c9, .int .i64 c10] 25)) (.cells #[.int .i64 c1, .int .i64 c2, .int .i64 c3, .int .i64 c4, .int .i64 c5, .int .i64 c6, .int .i64 c7, .int .i64 c8] 23)
      rw [World.size_alloc] at h1
      exact h1
  obtain ⟨a0, a1, a2, a3, a4, a5, a6, a7, a8, a9, a10⟩ := HV.out.2.1.row
  have o0 : V.cell? ⟨X + 1, 0, none⟩ = some (.int .i64 c1) := by simp [World.cell?, HV.out.2.2.1]
  have o1 : V.cell? ⟨X + 1, 1, none⟩ = some (.int .i64 c2) := by simp [World.cell?, HV.out.2.2.1]
  have o2 : V.cell? ⟨X + 1, 2, none⟩ = some (.int .i64 c3) := by simp [World.cell?, HV.out.2.2.1]
  have o3 : V.cell? ⟨X + 1, 3, none⟩ = some (.int .i64 c4) := by simp [World.cell?, HV.out.2.2.1]
  have o4 : V.cell? ⟨X + 1, 4, none⟩ = some (.int .i64 c5) := by simp [World.cell?, HV.out.2.2.1]
  have o5 : V.cell? ⟨X + 1, 5, none⟩ = some (.int .i64 c6) := by simp [World.cell?, HV.out.2.2.1]
  have o6 : V.cell? ⟨X + 1, 6, none⟩ = some (.int .i64 c7) := by simp [World.cell?, HV.out.2.2.1]
  have o7 : V.cell? ⟨X + 1, 7, none⟩ = some (.int .i64 c8) := by simp [World.cell?, HV.out.2.2.1]
  rw [← hX]
  go_enter Tryd.func4, Tryd.ntmps4
  go_upto_region 2 with fail
  simp only [← hX]
  simp only [← hV]
  clear hX hV
  have HB : Hid (Below X w V) := HV.out.1
  have HW : Hid (wchk [c0, c1, c2, c3, c4, c5, c6, c7, c8, c9, c10] = 1) := hidW (by
    show (if c0 = 1 then _ else if c0 = 2 then _ else if c0 = 3 then _ else if c0 = 4 ∨ c0 = 5 then _ else _) = _
    rw [if_neg h1, if_neg h2, if_neg h3, if_neg (by omega)])
  go_wp2_with fail
  go_ret
  exact ⟨int_ret (Eq.symm (HE.out.trans ((cchk_w (by rw [HW.out]; decide)).trans HW.out))), HB.out⟩
theorem rcommand_any (xs : List Int) (hl : xs.length = 11) (w : World) :
    Calls Tryd.prog 4 #[cV xs] w fun e w' => e = .returned (.int .i64 (cchk xs)) ∧ Below w.heap.size w w' := by
  obtain ⟨c0, c1, c2, c3, c4, c5, c6, c7, c8, c9, c10, rfl⟩ := list11' hl
  by_cases h1 : c0 = 1
  · subst h1; exact rcmd_1 c1 c2 c3 c4 c5 c6 c7 c8 c9 c10 w
  by_cases h2 : c0 = 2
  · subst h2; exact rcmd_2 c1 c2 c3 c4 c5 c6 c7 c8 c9 c10 w
  by_cases h3 : c0 = 3
  · subst h3; exact rcmd_3 c1 c2 c3 c4 c5 c6 c7 c8 c9 c10 w
  by_cases h4 : c0 = 4
  · subst h4; exact rcmd_4 c1 c2 c3 c4 c5 c6 c7 c8 c9 c10 w
  by_cases h5 : c0 = 5
  · subst h5; exact rcmd_5 c1 c2 c3 c4 c5 c6 c7 c8 c9 c10 w
  exact rcmd_0 c0 c1 c2 c3 c4 c5 c6 c7 c8 c9 c10 h1 h2 h3 h4 h5 w
end Go.Proofs.YtndkabnmffgebaaDoor.wir
