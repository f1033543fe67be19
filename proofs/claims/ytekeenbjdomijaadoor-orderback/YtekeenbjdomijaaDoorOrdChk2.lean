/- Contracts over this seat's translation: package order's Check at every order. -/
import Derived.Test.YtekeenbjdomijaaDoorOrdChk
namespace Go.Proofs.YtekeenbjdomijaaDoor.ord
open Go.RowKit

set_option maxRecDepth 100000 in
set_option maxHeartbeats 1000000 in
theorem check_priceno (a b c d p q s t : Int) (w : World) (h1 : headB ⟨a, b, c, d, p, q, s, t⟩ = true) (h2 : priceOkB ⟨a, b, c, d, p, q, s, t⟩ = false) :
    Calls Tryd.prog 12 #[.agg #[.int .i64 a, .int .i64 b, .int .i64 c, .int .i64 d, .int .i64 p, .int .i64 q, .int .i64 s, .int .i64 t]] w
      fun e w' => e = .returned (.iface 40 (.int .i64 1)) ∧ Below w.heap.size w w' := by
  have H1 : Hid ([(a, 1, 9999), (b, 1, 9), (c, 1, 2), (d, 1, 5)].any spanB = false) := by (have := head_any a b c d p q s t; rw [h1] at this; exact this)
  clear h1
  have H2 : Hid (priceOkB ⟨a, b, c, d, p, q, s, t⟩ = false) := h2
  clear h2
  go_enter Tryd.func12, Tryd.ntmps12
  go_wp2_with fail
  refine (outside4 false _ _ _ _ _ _ _ _ _ _ _ _ _ _ (by simp) H1.out).mono ?_
  rintro e w1 ⟨rfl, hb1⟩
  obtain ⟨hc1, hf1⟩ := bcell hb1
  have hz1 : w.heap.size < w1.heap.size := by have := hb1.size; simp at this; omega
  go_wp2_with fail
  refine (checkPrice_no _ _ _ _ _ _ _ _ _ H2.out).mono ?_
  rintro e w2 ⟨rfl, hb2⟩
  go_wp2_with fail
  go_ret
  exact ⟨rfl, (((Below.refl _ _).alloc (Nat.le_refl _) _).trans (hb1.mono (by simp))).trans (hb2.mono (by omega))⟩

set_option maxRecDepth 100000 in
set_option maxHeartbeats 1000000 in
theorem check_qtyno (a b c d p q s t : Int) (w : World) (h1 : headB ⟨a, b, c, d, p, q, s, t⟩ = true) (h2 : priceOkB ⟨a, b, c, d, p, q, s, t⟩ = true) (h3 : qtyB ⟨a, b, c, d, p, q, s, t⟩ = false) :
    Calls Tryd.prog 12 #[.agg #[.int .i64 a, .int .i64 b, .int .i64 c, .int .i64 d, .int .i64 p, .int .i64 q, .int .i64 s, .int .i64 t]] w
      fun e w' => e = .returned (.iface 40 (.int .i64 1)) ∧ Below w.heap.size w w' := by
  have H1 : Hid ([(a, 1, 9999), (b, 1, 9), (c, 1, 2), (d, 1, 5)].any spanB = false) := by (have := head_any a b c d p q s t; rw [h1] at this; exact this)
  clear h1
  have H2 : Hid (priceOkB ⟨a, b, c, d, p, q, s, t⟩ = true) := h2
  clear h2
  have H3 : Hid ([(q, 1, 10000), (s, 0, q)].any spanB = true) := by (have := qty_any a b c d p q s t; rw [h3] at this; exact this)
  clear h3
  go_enter Tryd.func12, Tryd.ntmps12
  go_wp2_with fail
  refine (outside4 false _ _ _ _ _ _ _ _ _ _ _ _ _ _ (by simp) H1.out).mono ?_
  rintro e w1 ⟨rfl, hb1⟩
  obtain ⟨hc1, hf1⟩ := bcell hb1
  have hz1 : w.heap.size < w1.heap.size := by have := hb1.size; simp at this; omega
  go_wp2_with fail
  refine (checkPrice_ok _ _ _ _ _ _ _ _ _ H2.out).mono ?_
  rintro e w2 ⟨rfl, hb2⟩
  obtain ⟨hc2, hf2⟩ := bcell hb2
  have hz2 : w.heap.size < w2.heap.size := by have := hb2.size; omega
  go_wp2_with fail
  refine (outside2 true _ _ _ _ _ _ _ _ rfl H3.out).mono ?_
  rintro e w3 ⟨rfl, hb3⟩
  obtain ⟨hc3, hf3⟩ := bcell hb3
  have hz3 : w.heap.size < w3.heap.size := by have := hb3.size; omega
  go_wp2_with fail
  go_ret
  exact ⟨rfl, ((((Below.refl _ _).alloc (Nat.le_refl _) _).trans (hb1.mono (by simp))).trans (hb2.mono (by omega))).trans (hb3.mono (by omega))⟩

theorem mayRest_is (r : Bool) (k : Int) (w : World) (h : (k == 1 || k == 5) = r) :
    Calls Tryd.prog 28 #[.int .i64 k] w fun e w' => e = .returned (.bool r) ∧ w' = w := by
  rw [← h]; exact mayRest_any k w

set_option maxRecDepth 100000 in
set_option maxHeartbeats 1000000 in
theorem check_shapeno (a b c d p q s t : Int) (w : World) (h1 : headB ⟨a, b, c, d, p, q, s, t⟩ = true) (h2 : priceOkB ⟨a, b, c, d, p, q, s, t⟩ = true) (h3 : qtyB ⟨a, b, c, d, p, q, s, t⟩ = true) (h4 : shapeB ⟨a, b, c, d, p, q, s, t⟩ = false) :
    Calls Tryd.prog 12 #[.agg #[.int .i64 a, .int .i64 b, .int .i64 c, .int .i64 d, .int .i64 p, .int .i64 q, .int .i64 s, .int .i64 t]] w
      fun e w' => e = .returned (.iface 40 (.int .i64 3)) ∧ Below w.heap.size w w' := by
  have H1 : Hid ([(a, 1, 9999), (b, 1, 9), (c, 1, 2), (d, 1, 5)].any spanB = false) := by (have := head_any a b c d p q s t; rw [h1] at this; exact this)
  clear h1
  have H2 : Hid (priceOkB ⟨a, b, c, d, p, q, s, t⟩ = true) := h2
  clear h2
  have H3 : Hid ([(q, 1, 10000), (s, 0, q)].any spanB = false) := by (have := qty_any a b c d p q s t; rw [h3] at this; exact this)
  clear h3
  have h4' : s ≠ 0 ∧ d ≠ 1 ∧ d ≠ 5 := by
    unfold shapeB at h4
    simp only [Bool.or_eq_false_iff, decide_eq_false_iff_not] at h4
    exact ⟨h4.1.1, h4.1.2, h4.2⟩
  have hs : (s != 0) = true := by rw [bne_iff_ne]; exact h4'.1
  have hm : Hid ((d == 1 || d == 5) = false) := by
    show (d == 1 || d == 5) = false
    rw [beq_eq_false_iff_ne.2 h4'.2.1, beq_eq_false_iff_ne.2 h4'.2.2]; rfl
  clear h4 h4'
  go_enter Tryd.func12, Tryd.ntmps12
  go_wp2_with fail
  refine (outside4 false _ _ _ _ _ _ _ _ _ _ _ _ _ _ (by simp) H1.out).mono ?_
  rintro e w1 ⟨rfl, hb1⟩
  obtain ⟨hc1, hf1⟩ := bcell hb1
  have hz1 : w.heap.size < w1.heap.size := by have := hb1.size; simp at this; omega
  go_wp2_with fail
  refine (checkPrice_ok _ _ _ _ _ _ _ _ _ H2.out).mono ?_
  rintro e w2 ⟨rfl, hb2⟩
  obtain ⟨hc2, hf2⟩ := bcell hb2
  have hz2 : w.heap.size < w2.heap.size := by have := hb2.size; omega
  go_wp2_with fail
  refine (outside2 false _ _ _ _ _ _ _ _ rfl H3.out).mono ?_
  rintro e w3 ⟨rfl, hb3⟩
  obtain ⟨hc3, hf3⟩ := bcell hb3
  have hz3 : w.heap.size < w3.heap.size := by have := hb3.size; omega
  go_wp2_with fail
  refine (mayRest_is false _ _ hm.out).mono ?_
  rintro e w' ⟨rfl, rfl⟩
  go_wp2_with fail
  go_ret
  exact ⟨rfl, ((((Below.refl _ _).alloc (Nat.le_refl _) _).trans (hb1.mono (by simp))).trans (hb2.mono (by omega))).trans (hb3.mono (by omega))⟩

set_option maxRecDepth 100000 in
set_option maxHeartbeats 1000000 in
theorem check_stop0 (a b c d p q s t : Int) (w : World) (h1 : headB ⟨a, b, c, d, p, q, s, t⟩ = true) (h2 : priceOkB ⟨a, b, c, d, p, q, s, t⟩ = true) (h3 : qtyB ⟨a, b, c, d, p, q, s, t⟩ = true) (h4 : shapeB ⟨a, b, c, d, p, q, s, t⟩ = true) (h5 : t = 0) :
    Calls Tryd.prog 12 #[.agg #[.int .i64 a, .int .i64 b, .int .i64 c, .int .i64 d, .int .i64 p, .int .i64 q, .int .i64 s, .int .i64 t]] w
      fun e w' => e = .returned .nilIface ∧ Below w.heap.size w w' := by
  have H1 : Hid ([(a, 1, 9999), (b, 1, 9), (c, 1, 2), (d, 1, 5)].any spanB = false) := by (have := head_any a b c d p q s t; rw [h1] at this; exact this)
  clear h1
  have H2 : Hid (priceOkB ⟨a, b, c, d, p, q, s, t⟩ = true) := h2
  clear h2
  have H3 : Hid ([(q, 1, 10000), (s, 0, q)].any spanB = false) := by (have := qty_any a b c d p q s t; rw [h3] at this; exact this)
  clear h3
  have h4' : s = 0 ∨ d = 1 ∨ d = 5 := by
    unfold shapeB at h4
    simp only [Bool.or_eq_true, decide_eq_true_eq] at h4
    omega
  clear h4
  subst h5
  by_cases hs0 : s = 0
  · subst hs0
    clear h4'
    go_enter Tryd.func12, Tryd.ntmps12
    go_wp2_with fail
    refine (outside4 false _ _ _ _ _ _ _ _ _ _ _ _ _ _ (by simp) H1.out).mono ?_
    rintro e w1 ⟨rfl, hb1⟩
    obtain ⟨hc1, hf1⟩ := bcell hb1
    have hz1 : w.heap.size < w1.heap.size := by have := hb1.size; simp at this; omega
    go_wp2_with fail
    refine (checkPrice_ok _ _ _ _ _ _ _ _ _ H2.out).mono ?_
    rintro e w2 ⟨rfl, hb2⟩
    obtain ⟨hc2, hf2⟩ := bcell hb2
    have hz2 : w.heap.size < w2.heap.size := by have := hb2.size; omega
    go_wp2_with fail
    refine (outside2 false _ _ _ _ _ _ _ _ rfl H3.out).mono ?_
    rintro e w3 ⟨rfl, hb3⟩
    obtain ⟨hc3, hf3⟩ := bcell hb3
    have hz3 : w.heap.size < w3.heap.size := by have := hb3.size; omega
    go_wp2_with fail
    go_ret
    exact ⟨rfl, ((((Below.refl _ _).alloc (Nat.le_refl _) _).trans (hb1.mono (by simp))).trans (hb2.mono (by omega))).trans (hb3.mono (by omega))⟩
  · have hs : (s != 0) = true := by rw [bne_iff_ne]; exact hs0
    have hm : Hid ((d == 1 || d == 5) = true) := by
      show (d == 1 || d == 5) = true
      have h5 : d = 1 ∨ d = 5 := by omega
      rcases h5 with rfl | rfl <;> rfl
    clear h4' hs0
    go_enter Tryd.func12, Tryd.ntmps12
    go_wp2_with fail
    refine (outside4 false _ _ _ _ _ _ _ _ _ _ _ _ _ _ (by simp) H1.out).mono ?_
    rintro e w1 ⟨rfl, hb1⟩
    obtain ⟨hc1, hf1⟩ := bcell hb1
    have hz1 : w.heap.size < w1.heap.size := by have := hb1.size; simp at this; omega
    go_wp2_with fail
    refine (checkPrice_ok _ _ _ _ _ _ _ _ _ H2.out).mono ?_
    rintro e w2 ⟨rfl, hb2⟩
    obtain ⟨hc2, hf2⟩ := bcell hb2
    have hz2 : w.heap.size < w2.heap.size := by have := hb2.size; omega
    go_wp2_with fail
    refine (outside2 false _ _ _ _ _ _ _ _ rfl H3.out).mono ?_
    rintro e w3 ⟨rfl, hb3⟩
    obtain ⟨hc3, hf3⟩ := bcell hb3
    have hz3 : w.heap.size < w3.heap.size := by have := hb3.size; omega
    go_wp2_with fail
    refine (mayRest_is true _ _ hm.out).mono ?_
    rintro e w' ⟨rfl, rfl⟩
    go_wp2_with fail
    go_ret
    exact ⟨rfl, ((((Below.refl _ _).alloc (Nat.le_refl _) _).trans (hb1.mono (by simp))).trans (hb2.mono (by omega))).trans (hb3.mono (by omega))⟩

set_option maxRecDepth 100000 in
set_option maxHeartbeats 1000000 in
theorem check_stopno (a b c d p q s t : Int) (w : World) (h1 : headB ⟨a, b, c, d, p, q, s, t⟩ = true) (h2 : priceOkB ⟨a, b, c, d, p, q, s, t⟩ = true) (h3 : qtyB ⟨a, b, c, d, p, q, s, t⟩ = true) (h4 : shapeB ⟨a, b, c, d, p, q, s, t⟩ = true) (h0 : t ≠ 0) (h5 : prB t = false) :
    Calls Tryd.prog 12 #[.agg #[.int .i64 a, .int .i64 b, .int .i64 c, .int .i64 d, .int .i64 p, .int .i64 q, .int .i64 s, .int .i64 t]] w
      fun e w' => e = .returned (.iface 40 (.int .i64 1)) ∧ Below w.heap.size w w' := by
  have H1 : Hid ([(a, 1, 9999), (b, 1, 9), (c, 1, 2), (d, 1, 5)].any spanB = false) := by (have := head_any a b c d p q s t; rw [h1] at this; exact this)
  clear h1
  have H2 : Hid (priceOkB ⟨a, b, c, d, p, q, s, t⟩ = true) := h2
  clear h2
  have H3 : Hid ([(q, 1, 10000), (s, 0, q)].any spanB = false) := by (have := qty_any a b c d p q s t; rw [h3] at this; exact this)
  clear h3
  have h4' : s = 0 ∨ d = 1 ∨ d = 5 := by
    unfold shapeB at h4
    simp only [Bool.or_eq_true, decide_eq_true_eq] at h4
    omega
  clear h4
  have ht : (t != 0) = true := by rw [bne_iff_ne]; exact h0
  have H5 : Hid (prB t = false) := h5
  clear h5 h0
  by_cases hs0 : s = 0
  · subst hs0
    clear h4'
    go_enter Tryd.func12, Tryd.ntmps12
    go_wp2_with fail
    refine (outside4 false _ _ _ _ _ _ _ _ _ _ _ _ _ _ (by simp) H1.out).mono ?_
    rintro e w1 ⟨rfl, hb1⟩
    obtain ⟨hc1, hf1⟩ := bcell hb1
    have hz1 : w.heap.size < w1.heap.size := by have := hb1.size; simp at this; omega
    go_wp2_with fail
    refine (checkPrice_ok _ _ _ _ _ _ _ _ _ H2.out).mono ?_
    rintro e w2 ⟨rfl, hb2⟩
    obtain ⟨hc2, hf2⟩ := bcell hb2
    have hz2 : w.heap.size < w2.heap.size := by have := hb2.size; omega
    go_wp2_with fail
    refine (outside2 false _ _ _ _ _ _ _ _ rfl H3.out).mono ?_
    rintro e w3 ⟨rfl, hb3⟩
    obtain ⟨hc3, hf3⟩ := bcell hb3
    have hz3 : w.heap.size < w3.heap.size := by have := hb3.size; omega
    go_wp2_with fail
    refine (price_no _ _ H5.out).mono ?_
    rintro e w' ⟨rfl, rfl⟩
    go_wp2_with fail
    go_ret
    exact ⟨rfl, ((((Below.refl _ _).alloc (Nat.le_refl _) _).trans (hb1.mono (by simp))).trans (hb2.mono (by omega))).trans (hb3.mono (by omega))⟩
  · have hs : (s != 0) = true := by rw [bne_iff_ne]; exact hs0
    have hm : Hid ((d == 1 || d == 5) = true) := by
      show (d == 1 || d == 5) = true
      have h5 : d = 1 ∨ d = 5 := by omega
      rcases h5 with rfl | rfl <;> rfl
    clear h4' hs0
    go_enter Tryd.func12, Tryd.ntmps12
    go_wp2_with fail
    refine (outside4 false _ _ _ _ _ _ _ _ _ _ _ _ _ _ (by simp) H1.out).mono ?_
    rintro e w1 ⟨rfl, hb1⟩
    obtain ⟨hc1, hf1⟩ := bcell hb1
    have hz1 : w.heap.size < w1.heap.size := by have := hb1.size; simp at this; omega
    go_wp2_with fail
    refine (checkPrice_ok _ _ _ _ _ _ _ _ _ H2.out).mono ?_
    rintro e w2 ⟨rfl, hb2⟩
    obtain ⟨hc2, hf2⟩ := bcell hb2
    have hz2 : w.heap.size < w2.heap.size := by have := hb2.size; omega
    go_wp2_with fail
    refine (outside2 false _ _ _ _ _ _ _ _ rfl H3.out).mono ?_
    rintro e w3 ⟨rfl, hb3⟩
    obtain ⟨hc3, hf3⟩ := bcell hb3
    have hz3 : w.heap.size < w3.heap.size := by have := hb3.size; omega
    go_wp2_with fail
    refine (mayRest_is true _ _ hm.out).mono ?_
    rintro e w' ⟨rfl, rfl⟩
    go_wp2_with fail
    refine (price_no _ _ H5.out).mono ?_
    rintro e w' ⟨rfl, rfl⟩
    go_wp2_with fail
    go_ret
    exact ⟨rfl, ((((Below.refl _ _).alloc (Nat.le_refl _) _).trans (hb1.mono (by simp))).trans (hb2.mono (by omega))).trans (hb3.mono (by omega))⟩

set_option maxRecDepth 100000 in
set_option maxHeartbeats 1000000 in
theorem check_stopok (a b c d p q s t : Int) (w : World) (h1 : headB ⟨a, b, c, d, p, q, s, t⟩ = true) (h2 : priceOkB ⟨a, b, c, d, p, q, s, t⟩ = true) (h3 : qtyB ⟨a, b, c, d, p, q, s, t⟩ = true) (h4 : shapeB ⟨a, b, c, d, p, q, s, t⟩ = true) (h0 : t ≠ 0) (h5 : prB t = true) :
    Calls Tryd.prog 12 #[.agg #[.int .i64 a, .int .i64 b, .int .i64 c, .int .i64 d, .int .i64 p, .int .i64 q, .int .i64 s, .int .i64 t]] w
      fun e w' => e = .returned .nilIface ∧ Below w.heap.size w w' := by
  have H1 : Hid ([(a, 1, 9999), (b, 1, 9), (c, 1, 2), (d, 1, 5)].any spanB = false) := by (have := head_any a b c d p q s t; rw [h1] at this; exact this)
  clear h1
  have H2 : Hid (priceOkB ⟨a, b, c, d, p, q, s, t⟩ = true) := h2
  clear h2
  have H3 : Hid ([(q, 1, 10000), (s, 0, q)].any spanB = false) := by (have := qty_any a b c d p q s t; rw [h3] at this; exact this)
  clear h3
  have h4' : s = 0 ∨ d = 1 ∨ d = 5 := by
    unfold shapeB at h4
    simp only [Bool.or_eq_true, decide_eq_true_eq] at h4
    omega
  clear h4
  have ht : (t != 0) = true := by rw [bne_iff_ne]; exact h0
  have H5 : Hid (prB t = true) := h5
  clear h5 h0
  by_cases hs0 : s = 0
  · subst hs0
    clear h4'
    go_enter Tryd.func12, Tryd.ntmps12
    go_wp2_with fail
    refine (outside4 false _ _ _ _ _ _ _ _ _ _ _ _ _ _ (by simp) H1.out).mono ?_
    rintro e w1 ⟨rfl, hb1⟩
    obtain ⟨hc1, hf1⟩ := bcell hb1
    have hz1 : w.heap.size < w1.heap.size := by have := hb1.size; simp at this; omega
    go_wp2_with fail
    refine (checkPrice_ok _ _ _ _ _ _ _ _ _ H2.out).mono ?_
    rintro e w2 ⟨rfl, hb2⟩
    obtain ⟨hc2, hf2⟩ := bcell hb2
    have hz2 : w.heap.size < w2.heap.size := by have := hb2.size; omega
    go_wp2_with fail
    refine (outside2 false _ _ _ _ _ _ _ _ rfl H3.out).mono ?_
    rintro e w3 ⟨rfl, hb3⟩
    obtain ⟨hc3, hf3⟩ := bcell hb3
    have hz3 : w.heap.size < w3.heap.size := by have := hb3.size; omega
    go_wp2_with fail
    refine (price_ok _ _ H5.out).mono ?_
    rintro e w' ⟨rfl, rfl⟩
    go_wp2_with fail
    go_ret
    exact ⟨rfl, ((((Below.refl _ _).alloc (Nat.le_refl _) _).trans (hb1.mono (by simp))).trans (hb2.mono (by omega))).trans (hb3.mono (by omega))⟩
  · have hs : (s != 0) = true := by rw [bne_iff_ne]; exact hs0
    have hm : Hid ((d == 1 || d == 5) = true) := by
      show (d == 1 || d == 5) = true
      have h5 : d = 1 ∨ d = 5 := by omega
      rcases h5 with rfl | rfl <;> rfl
    clear h4' hs0
    go_enter Tryd.func12, Tryd.ntmps12
    go_wp2_with fail
    refine (outside4 false _ _ _ _ _ _ _ _ _ _ _ _ _ _ (by simp) H1.out).mono ?_
    rintro e w1 ⟨rfl, hb1⟩
    obtain ⟨hc1, hf1⟩ := bcell hb1
    have hz1 : w.heap.size < w1.heap.size := by have := hb1.size; simp at this; omega
    go_wp2_with fail
    refine (checkPrice_ok _ _ _ _ _ _ _ _ _ H2.out).mono ?_
    rintro e w2 ⟨rfl, hb2⟩
    obtain ⟨hc2, hf2⟩ := bcell hb2
    have hz2 : w.heap.size < w2.heap.size := by have := hb2.size; omega
    go_wp2_with fail
    refine (outside2 false _ _ _ _ _ _ _ _ rfl H3.out).mono ?_
    rintro e w3 ⟨rfl, hb3⟩
    obtain ⟨hc3, hf3⟩ := bcell hb3
    have hz3 : w.heap.size < w3.heap.size := by have := hb3.size; omega
    go_wp2_with fail
    refine (mayRest_is true _ _ hm.out).mono ?_
    rintro e w' ⟨rfl, rfl⟩
    go_wp2_with fail
    refine (price_ok _ _ H5.out).mono ?_
    rintro e w' ⟨rfl, rfl⟩
    go_wp2_with fail
    go_ret
    exact ⟨rfl, ((((Below.refl _ _).alloc (Nat.le_refl _) _).trans (hb1.mono (by simp))).trans (hb2.mono (by omega))).trans (hb3.mono (by omega))⟩

/-- Check, at every order. -/
theorem check_any (o : O) (w : World) :
    Calls Tryd.prog 12 #[oV o] w fun e w' => e = .returned (errV (chk o)) ∧ Below w.heap.size w w' := by
  obtain ⟨a, b, c, d, p, q, s, t⟩ := o
  unfold chk
  cases h1 : headB ⟨a, b, c, d, p, q, s, t⟩
  · exact check_headno a b c d p q s t w h1
  cases h2 : priceOkB ⟨a, b, c, d, p, q, s, t⟩
  · exact check_priceno a b c d p q s t w h1 h2
  cases h3 : qtyB ⟨a, b, c, d, p, q, s, t⟩
  · exact check_qtyno a b c d p q s t w h1 h2 h3
  cases h4 : shapeB ⟨a, b, c, d, p, q, s, t⟩
  · exact check_shapeno a b c d p q s t w h1 h2 h3 h4
  by_cases h0 : t = 0
  · have h5 : stopB ⟨a, b, c, d, p, q, s, t⟩ = true := by unfold stopB; simp [h0]
    rw [h5]
    exact check_stop0 a b c d p q s t w h1 h2 h3 h4 h0
  · have e5 : stopB ⟨a, b, c, d, p, q, s, t⟩ = prB t := by unfold stopB; simp [h0]
    rw [e5]
    cases h5 : prB t
    · exact check_stopno a b c d p q s t w h1 h2 h3 h4 h0 h5
    · exact check_stopok a b c d p q s t w h1 h2 h3 h4 h0 h5

end Go.Proofs.YtekeenbjdomijaaDoor.ord
