/- Contracts over this seat's translation: the document's Price, Side, Order and May, each at every input. Contracts over this seat's translation: the document's Order, where its numbers are out of their ranges. -/
import Derived.Test.YtalhdjlopkdnbaaGreatDoorMeeOrd
namespace Go.Proofs.YtalhdjlopkdnbaaGreatDoor.ord
open Go.RowKit

theorem ret_bool {a b : Bool} (h : a = b) : Ending.returned (.bool a) = .returned (.bool b) := by rw [h]
def sdB (s : Int) : Bool := decide (s = 1) || decide (s = 2)

theorem ref_price (p : Int) (w : World) :
    Calls Tryz.prog 63 #[.int .i64 p] w fun e w' => e = .returned (.bool (prB p)) ∧ w' = w := by
  by_cases h : 1 ≤ p
  · go_enter Tryz.func63, Tryz.ntmps63
    go_wp2
    go_ret
    exact ⟨ret_bool (by simp [prB, h]), rfl⟩
  · go_enter Tryz.func63, Tryz.ntmps63
    go_wp2
    go_ret
    exact ⟨ret_bool (by simp [prB]; omega), rfl⟩
theorem ref_side (s : Int) (w : World) :
    Calls Tryz.prog 15 #[.int .i64 s] w fun e w' => e = .returned (.bool (sdB s)) ∧ w' = w := by
  by_cases h : s = 1
  · subst h
    go_enter Tryz.func15, Tryz.ntmps15
    go_wp2
    go_ret
    exact ⟨ret_bool (by simp [sdB]), rfl⟩
  · have h' : (s == 1) = false := by simp; omega
    go_enter Tryz.func15, Tryz.ntmps15
    go_wp2
    go_ret
    exact ⟨ret_bool (by by_cases h2 : s = 2 <;> simp [sdB, h, h2]), rfl⟩

theorem ref_may (a b c d p q s t x : Int) (w : World) (hc : c = 1 ∨ c = 2) :
    Calls Tryz.prog 30 #[.agg #[.int .i64 a, .int .i64 b, .int .i64 c, .int .i64 d, .int .i64 p, .int .i64 q, .int .i64 s, .int .i64 t], .int .i64 x] w fun e w' => e = .returned (.bool (mB ⟨a, b, c, d, p, q, s, t⟩ x)) ∧ Below w.heap.size w w' := by
  have em : mB ⟨a, b, c, d, p, q, s, t⟩ x = (decide (d = 2) || (if c = 1 then decide (x ≤ p) else decide (p ≤ x))) := rfl
  rw [em]
  clear em
  by_cases hd : d = 2
  · subst hd
    rcases hc with rfl | rfl
    all_goals
      go_enter Tryz.func30, Tryz.ntmps30
      go_wp2
      go_ret
      exact ⟨ret_bool (by simp), (Below.refl _ _).alloc (Nat.le_refl _) _⟩
  · have hd' : (d == 2) = false := by simp; omega
    rcases hc with rfl | rfl
    · by_cases hx : x ≤ p
      all_goals
        go_enter Tryz.func30, Tryz.ntmps30
        go_wp2
        go_ret
        exact ⟨ret_bool (by simp [hx]), (Below.refl _ _).alloc (Nat.le_refl _) _⟩
    · by_cases hx : p ≤ x
      all_goals
        go_enter Tryz.func30, Tryz.ntmps30
        go_wp2
        go_ret
        exact ⟨ret_bool (by simp [hx]), (Below.refl _ _).alloc (Nat.le_refl _) _⟩

end Go.Proofs.YtalhdjlopkdnbaaGreatDoor.ord
namespace Go.Proofs.YtalhdjlopkdnbaaGreatDoor.ord
open Go.RowKit

set_option maxRecDepth 100000 in
set_option maxHeartbeats 1000000 in
theorem rord_h0 (a b c d p q s t : Int) (w : World) (a1 : a < 1) :
    Calls Tryz.prog 35 #[.agg #[.int .i64 a, .int .i64 b, .int .i64 c, .int .i64 d, .int .i64 p, .int .i64 q, .int .i64 s, .int .i64 t]] w fun e w' => e = .returned (.int .i64 1) ∧ Below w.heap.size w w' := by
  go_enter Tryz.func35, Tryz.ntmps35
  go_wp2_with fail
  refine (ref_side _ _).mono ?_
  rintro e w' ⟨rfl, rfl⟩
  go_wp2_with fail
  go_ret
  exact ⟨rfl, (Below.refl _ _).alloc (Nat.le_refl _) _⟩

set_option maxRecDepth 100000 in
set_option maxHeartbeats 1000000 in
theorem rord_h1 (a b c d p q s t : Int) (w : World) (a1 : 1 ≤ a) (a2 : 9999 < a) :
    Calls Tryz.prog 35 #[.agg #[.int .i64 a, .int .i64 b, .int .i64 c, .int .i64 d, .int .i64 p, .int .i64 q, .int .i64 s, .int .i64 t]] w fun e w' => e = .returned (.int .i64 1) ∧ Below w.heap.size w w' := by
  go_enter Tryz.func35, Tryz.ntmps35
  go_wp2_with fail
  refine (ref_side _ _).mono ?_
  rintro e w' ⟨rfl, rfl⟩
  go_wp2_with fail
  go_ret
  exact ⟨rfl, (Below.refl _ _).alloc (Nat.le_refl _) _⟩

set_option maxRecDepth 100000 in
set_option maxHeartbeats 1000000 in
theorem rord_h2 (a b c d p q s t : Int) (w : World) (a1 : 1 ≤ a) (a2 : a ≤ 9999) (b1 : b < 1) :
    Calls Tryz.prog 35 #[.agg #[.int .i64 a, .int .i64 b, .int .i64 c, .int .i64 d, .int .i64 p, .int .i64 q, .int .i64 s, .int .i64 t]] w fun e w' => e = .returned (.int .i64 1) ∧ Below w.heap.size w w' := by
  go_enter Tryz.func35, Tryz.ntmps35
  go_wp2_with fail
  refine (ref_side _ _).mono ?_
  rintro e w' ⟨rfl, rfl⟩
  go_wp2_with fail
  go_ret
  exact ⟨rfl, (Below.refl _ _).alloc (Nat.le_refl _) _⟩

set_option maxRecDepth 100000 in
set_option maxHeartbeats 1000000 in
theorem rord_h3 (a b c d p q s t : Int) (w : World) (a1 : 1 ≤ a) (a2 : a ≤ 9999) (b1 : 1 ≤ b) (b2 : 9 < b) :
    Calls Tryz.prog 35 #[.agg #[.int .i64 a, .int .i64 b, .int .i64 c, .int .i64 d, .int .i64 p, .int .i64 q, .int .i64 s, .int .i64 t]] w fun e w' => e = .returned (.int .i64 1) ∧ Below w.heap.size w w' := by
  go_enter Tryz.func35, Tryz.ntmps35
  go_wp2_with fail
  refine (ref_side _ _).mono ?_
  rintro e w' ⟨rfl, rfl⟩
  go_wp2_with fail
  go_ret
  exact ⟨rfl, (Below.refl _ _).alloc (Nat.le_refl _) _⟩

set_option maxRecDepth 100000 in
set_option maxHeartbeats 1000000 in
theorem rord_h4 (a b c d p q s t : Int) (w : World) (a1 : 1 ≤ a) (a2 : a ≤ 9999) (b1 : 1 ≤ b) (b2 : b ≤ 9) (c1 : sdB c = false) :
    Calls Tryz.prog 35 #[.agg #[.int .i64 a, .int .i64 b, .int .i64 c, .int .i64 d, .int .i64 p, .int .i64 q, .int .i64 s, .int .i64 t]] w fun e w' => e = .returned (.int .i64 1) ∧ Below w.heap.size w w' := by
  go_enter Tryz.func35, Tryz.ntmps35
  go_wp2_with fail
  refine (ref_side _ _).mono ?_
  rintro e w' ⟨rfl, rfl⟩
  go_wp2_with fail
  go_ret
  exact ⟨rfl, (Below.refl _ _).alloc (Nat.le_refl _) _⟩

set_option maxRecDepth 100000 in
set_option maxHeartbeats 1000000 in
theorem rord_h5 (a b c d p q s t : Int) (w : World) (a1 : 1 ≤ a) (a2 : a ≤ 9999) (b1 : 1 ≤ b) (b2 : b ≤ 9) (c1 : sdB c = true) (d1 : d < 1) :
    Calls Tryz.prog 35 #[.agg #[.int .i64 a, .int .i64 b, .int .i64 c, .int .i64 d, .int .i64 p, .int .i64 q, .int .i64 s, .int .i64 t]] w fun e w' => e = .returned (.int .i64 1) ∧ Below w.heap.size w w' := by
  go_enter Tryz.func35, Tryz.ntmps35
  go_wp2_with fail
  refine (ref_side _ _).mono ?_
  rintro e w' ⟨rfl, rfl⟩
  go_wp2_with fail
  go_ret
  exact ⟨rfl, (Below.refl _ _).alloc (Nat.le_refl _) _⟩

set_option maxRecDepth 100000 in
set_option maxHeartbeats 1000000 in
theorem rord_h6 (a b c d p q s t : Int) (w : World) (a1 : 1 ≤ a) (a2 : a ≤ 9999) (b1 : 1 ≤ b) (b2 : b ≤ 9) (c1 : sdB c = true) (d1 : 1 ≤ d) (d2 : 5 < d) :
    Calls Tryz.prog 35 #[.agg #[.int .i64 a, .int .i64 b, .int .i64 c, .int .i64 d, .int .i64 p, .int .i64 q, .int .i64 s, .int .i64 t]] w fun e w' => e = .returned (.int .i64 1) ∧ Below w.heap.size w w' := by
  go_enter Tryz.func35, Tryz.ntmps35
  go_wp2_with fail
  refine (ref_side _ _).mono ?_
  rintro e w' ⟨rfl, rfl⟩
  go_wp2_with fail
  go_ret
  exact ⟨rfl, (Below.refl _ _).alloc (Nat.le_refl _) _⟩

set_option maxRecDepth 100000 in
set_option maxHeartbeats 1000000 in
theorem rord_p0 (a b c p q s t : Int) (w : World) (a1 : 1 ≤ a) (a2 : a ≤ 9999) (b1 : 1 ≤ b) (b2 : b ≤ 9) (c1 : sdB c = true) (h : ¬ p = 0) :
    Calls Tryz.prog 35 #[.agg #[.int .i64 a, .int .i64 b, .int .i64 c, .int .i64 2, .int .i64 p, .int .i64 q, .int .i64 s, .int .i64 t]] w fun e w' => e = .returned (.int .i64 1) ∧ Below w.heap.size w w' := by
  go_enter Tryz.func35, Tryz.ntmps35
  go_wp2_with fail
  refine (ref_side _ _).mono ?_
  rintro e w' ⟨rfl, rfl⟩
  go_wp2_with fail
  refine (ref_price _ _).mono ?_
  rintro e w' ⟨rfl, rfl⟩
  go_wp2_with fail
  go_ret
  exact ⟨rfl, (Below.refl _ _).alloc (Nat.le_refl _) _⟩

set_option maxRecDepth 100000 in
set_option maxHeartbeats 1000000 in
theorem rord_p1 (a b c d p q s t : Int) (w : World) (a1 : 1 ≤ a) (a2 : a ≤ 9999) (b1 : 1 ≤ b) (b2 : b ≤ 9) (c1 : sdB c = true) (d1 : 1 ≤ d) (d2 : d ≤ 5) (k : ¬ d = 2) (_k' : (d == 2) = false) (hp : prB p = false) :
    Calls Tryz.prog 35 #[.agg #[.int .i64 a, .int .i64 b, .int .i64 c, .int .i64 d, .int .i64 p, .int .i64 q, .int .i64 s, .int .i64 t]] w fun e w' => e = .returned (.int .i64 1) ∧ Below w.heap.size w w' := by
  go_enter Tryz.func35, Tryz.ntmps35
  go_wp2_with fail
  refine (ref_side _ _).mono ?_
  rintro e w' ⟨rfl, rfl⟩
  go_wp2_with fail
  refine (ref_price _ _).mono ?_
  rintro e w' ⟨rfl, rfl⟩
  go_wp2_with fail
  go_ret
  exact ⟨rfl, (Below.refl _ _).alloc (Nat.le_refl _) _⟩

set_option maxRecDepth 100000 in
set_option maxHeartbeats 1000000 in
theorem rord_q10 (a b c q s t : Int) (w : World) (a1 : 1 ≤ a) (a2 : a ≤ 9999) (b1 : 1 ≤ b) (b2 : b ≤ 9) (c1 : sdB c = true) (q1 : q < 1) :
    Calls Tryz.prog 35 #[.agg #[.int .i64 a, .int .i64 b, .int .i64 c, .int .i64 2, .int .i64 0, .int .i64 q, .int .i64 s, .int .i64 t]] w fun e w' => e = .returned (.int .i64 1) ∧ Below w.heap.size w w' := by
  go_enter Tryz.func35, Tryz.ntmps35
  go_wp2_with fail
  refine (ref_side _ _).mono ?_
  rintro e w' ⟨rfl, rfl⟩
  go_wp2_with fail
  refine (ref_price _ _).mono ?_
  rintro e w' ⟨rfl, rfl⟩
  go_wp2_with fail
  go_ret
  exact ⟨rfl, (Below.refl _ _).alloc (Nat.le_refl _) _⟩

set_option maxRecDepth 100000 in
set_option maxHeartbeats 1000000 in
theorem rord_q11 (a b c q s t : Int) (w : World) (a1 : 1 ≤ a) (a2 : a ≤ 9999) (b1 : 1 ≤ b) (b2 : b ≤ 9) (c1 : sdB c = true) (q1 : 1 ≤ q) (q2 : 10000 < q) :
    Calls Tryz.prog 35 #[.agg #[.int .i64 a, .int .i64 b, .int .i64 c, .int .i64 2, .int .i64 0, .int .i64 q, .int .i64 s, .int .i64 t]] w fun e w' => e = .returned (.int .i64 1) ∧ Below w.heap.size w w' := by
  go_enter Tryz.func35, Tryz.ntmps35
  go_wp2_with fail
  refine (ref_side _ _).mono ?_
  rintro e w' ⟨rfl, rfl⟩
  go_wp2_with fail
  refine (ref_price _ _).mono ?_
  rintro e w' ⟨rfl, rfl⟩
  go_wp2_with fail
  go_ret
  exact ⟨rfl, (Below.refl _ _).alloc (Nat.le_refl _) _⟩

set_option maxRecDepth 100000 in
set_option maxHeartbeats 1000000 in
theorem rord_q12 (a b c q s t : Int) (w : World) (a1 : 1 ≤ a) (a2 : a ≤ 9999) (b1 : 1 ≤ b) (b2 : b ≤ 9) (c1 : sdB c = true) (q1 : 1 ≤ q) (q2 : q ≤ 10000) (s1 : s < 0) :
    Calls Tryz.prog 35 #[.agg #[.int .i64 a, .int .i64 b, .int .i64 c, .int .i64 2, .int .i64 0, .int .i64 q, .int .i64 s, .int .i64 t]] w fun e w' => e = .returned (.int .i64 1) ∧ Below w.heap.size w w' := by
  go_enter Tryz.func35, Tryz.ntmps35
  go_wp2_with fail
  refine (ref_side _ _).mono ?_
  rintro e w' ⟨rfl, rfl⟩
  go_wp2_with fail
  refine (ref_price _ _).mono ?_
  rintro e w' ⟨rfl, rfl⟩
  go_wp2_with fail
  go_ret
  exact ⟨rfl, (Below.refl _ _).alloc (Nat.le_refl _) _⟩

set_option maxRecDepth 100000 in
set_option maxHeartbeats 1000000 in
theorem rord_q13 (a b c q s t : Int) (w : World) (a1 : 1 ≤ a) (a2 : a ≤ 9999) (b1 : 1 ≤ b) (b2 : b ≤ 9) (c1 : sdB c = true) (q1 : 1 ≤ q) (q2 : q ≤ 10000) (s1 : 0 ≤ s) (s2 : q < s) :
    Calls Tryz.prog 35 #[.agg #[.int .i64 a, .int .i64 b, .int .i64 c, .int .i64 2, .int .i64 0, .int .i64 q, .int .i64 s, .int .i64 t]] w fun e w' => e = .returned (.int .i64 1) ∧ Below w.heap.size w w' := by
  go_enter Tryz.func35, Tryz.ntmps35
  go_wp2_with fail
  refine (ref_side _ _).mono ?_
  rintro e w' ⟨rfl, rfl⟩
  go_wp2_with fail
  refine (ref_price _ _).mono ?_
  rintro e w' ⟨rfl, rfl⟩
  go_wp2_with fail
  go_ret
  exact ⟨rfl, (Below.refl _ _).alloc (Nat.le_refl _) _⟩

set_option maxRecDepth 100000 in
set_option maxHeartbeats 1000000 in
theorem rord_q20 (a b c d p q s t : Int) (w : World) (a1 : 1 ≤ a) (a2 : a ≤ 9999) (b1 : 1 ≤ b) (b2 : b ≤ 9) (c1 : sdB c = true) (d1 : 1 ≤ d) (d2 : d ≤ 5) (k : ¬ d = 2) (_k' : (d == 2) = false) (hp : prB p = true) (q1 : q < 1) :
    Calls Tryz.prog 35 #[.agg #[.int .i64 a, .int .i64 b, .int .i64 c, .int .i64 d, .int .i64 p, .int .i64 q, .int .i64 s, .int .i64 t]] w fun e w' => e = .returned (.int .i64 1) ∧ Below w.heap.size w w' := by
  go_enter Tryz.func35, Tryz.ntmps35
  go_wp2_with fail
  refine (ref_side _ _).mono ?_
  rintro e w' ⟨rfl, rfl⟩
  go_wp2_with fail
  refine (ref_price _ _).mono ?_
  rintro e w' ⟨rfl, rfl⟩
  go_wp2_with fail
  go_ret
  exact ⟨rfl, (Below.refl _ _).alloc (Nat.le_refl _) _⟩

set_option maxRecDepth 100000 in
set_option maxHeartbeats 1000000 in
theorem rord_q21 (a b c d p q s t : Int) (w : World) (a1 : 1 ≤ a) (a2 : a ≤ 9999) (b1 : 1 ≤ b) (b2 : b ≤ 9) (c1 : sdB c = true) (d1 : 1 ≤ d) (d2 : d ≤ 5) (k : ¬ d = 2) (_k' : (d == 2) = false) (hp : prB p = true) (q1 : 1 ≤ q) (q2 : 10000 < q) :
    Calls Tryz.prog 35 #[.agg #[.int .i64 a, .int .i64 b, .int .i64 c, .int .i64 d, .int .i64 p, .int .i64 q, .int .i64 s, .int .i64 t]] w fun e w' => e = .returned (.int .i64 1) ∧ Below w.heap.size w w' := by
  go_enter Tryz.func35, Tryz.ntmps35
  go_wp2_with fail
  refine (ref_side _ _).mono ?_
  rintro e w' ⟨rfl, rfl⟩
  go_wp2_with fail
  refine (ref_price _ _).mono ?_
  rintro e w' ⟨rfl, rfl⟩
  go_wp2_with fail
  go_ret
  exact ⟨rfl, (Below.refl _ _).alloc (Nat.le_refl _) _⟩

set_option maxRecDepth 100000 in
set_option maxHeartbeats 1000000 in
theorem rord_q22 (a b c d p q s t : Int) (w : World) (a1 : 1 ≤ a) (a2 : a ≤ 9999) (b1 : 1 ≤ b) (b2 : b ≤ 9) (c1 : sdB c = true) (d1 : 1 ≤ d) (d2 : d ≤ 5) (k : ¬ d = 2) (_k' : (d == 2) = false) (hp : prB p = true) (q1 : 1 ≤ q) (q2 : q ≤ 10000) (s1 : s < 0) :
    Calls Tryz.prog 35 #[.agg #[.int .i64 a, .int .i64 b, .int .i64 c, .int .i64 d, .int .i64 p, .int .i64 q, .int .i64 s, .int .i64 t]] w fun e w' => e = .returned (.int .i64 1) ∧ Below w.heap.size w w' := by
  go_enter Tryz.func35, Tryz.ntmps35
  go_wp2_with fail
  refine (ref_side _ _).mono ?_
  rintro e w' ⟨rfl, rfl⟩
  go_wp2_with fail
  refine (ref_price _ _).mono ?_
  rintro e w' ⟨rfl, rfl⟩
  go_wp2_with fail
  go_ret
  exact ⟨rfl, (Below.refl _ _).alloc (Nat.le_refl _) _⟩

set_option maxRecDepth 100000 in
set_option maxHeartbeats 1000000 in
theorem rord_q23 (a b c d p q s t : Int) (w : World) (a1 : 1 ≤ a) (a2 : a ≤ 9999) (b1 : 1 ≤ b) (b2 : b ≤ 9) (c1 : sdB c = true) (d1 : 1 ≤ d) (d2 : d ≤ 5) (k : ¬ d = 2) (_k' : (d == 2) = false) (hp : prB p = true) (q1 : 1 ≤ q) (q2 : q ≤ 10000) (s1 : 0 ≤ s) (s2 : q < s) :
    Calls Tryz.prog 35 #[.agg #[.int .i64 a, .int .i64 b, .int .i64 c, .int .i64 d, .int .i64 p, .int .i64 q, .int .i64 s, .int .i64 t]] w fun e w' => e = .returned (.int .i64 1) ∧ Below w.heap.size w w' := by
  go_enter Tryz.func35, Tryz.ntmps35
  go_wp2_with fail
  refine (ref_side _ _).mono ?_
  rintro e w' ⟨rfl, rfl⟩
  go_wp2_with fail
  refine (ref_price _ _).mono ?_
  rintro e w' ⟨rfl, rfl⟩
  go_wp2_with fail
  go_ret
  exact ⟨rfl, (Below.refl _ _).alloc (Nat.le_refl _) _⟩

end Go.Proofs.YtalhdjlopkdnbaaGreatDoor.ord
