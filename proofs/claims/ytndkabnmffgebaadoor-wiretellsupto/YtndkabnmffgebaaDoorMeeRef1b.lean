/- Contracts over this seat's translation: the document's Order, where they are in them. -/
import Derived.Test.YtndkabnmffgebaaDoorMeeRef1
namespace Go.Proofs.YtndkabnmffgebaaDoor.ord
open Go.RowKit

set_option maxRecDepth 100000 in
set_option maxHeartbeats 1000000 in
theorem rord_s1 (a b c q s t : Int) (w : World) (a1 : 1 ≤ a) (a2 : a ≤ 9999) (b1 : 1 ≤ b) (b2 : b ≤ 9) (c1 : sdB c = true) (q1 : 1 ≤ q) (q2 : q ≤ 10000) (s1 : 0 ≤ s) (s2 : s ≤ q) (k0 : ¬ s = 0) (_k0' : (s == 0) = false) :
    Calls Tryd.prog 15 #[.agg #[.int .i64 a, .int .i64 b, .int .i64 c, .int .i64 2, .int .i64 0, .int .i64 q, .int .i64 s, .int .i64 t]] w fun e w' => e = .returned (.int .i64 3) ∧ Below w.heap.size w w' := by
  go_enter Tryd.func15, Tryd.ntmps15
  go_wp2_with fail
  refine (ref_side _ _).mono ?_
  rintro e w' ⟨rfl, rfl⟩
  go_wp2_with fail
  refine (ref_price _ _).mono ?_
  rintro e w' ⟨rfl, rfl⟩
  go_wp2_with fail
  go_ret
  exact ⟨rfl, (Below.refl _ _).alloc (Nat.le_refl _) _⟩

set_option maxRecDepth 100000 in
set_option maxHeartbeats 1000000 in
theorem rord_s3 (a b c p q s t : Int) (w : World) (a1 : 1 ≤ a) (a2 : a ≤ 9999) (b1 : 1 ≤ b) (b2 : b ≤ 9) (c1 : sdB c = true) (hp : prB p = true) (q1 : 1 ≤ q) (q2 : q ≤ 10000) (s1 : 0 ≤ s) (s2 : s ≤ q) (k0 : ¬ s = 0) (_k0' : (s == 0) = false) :
    Calls Tryd.prog 15 #[.agg #[.int .i64 a, .int .i64 b, .int .i64 c, .int .i64 3, .int .i64 p, .int .i64 q, .int .i64 s, .int .i64 t]] w fun e w' => e = .returned (.int .i64 3) ∧ Below w.heap.size w w' := by
  go_enter Tryd.func15, Tryd.ntmps15
  go_wp2_with fail
  refine (ref_side _ _).mono ?_
  rintro e w' ⟨rfl, rfl⟩
  go_wp2_with fail
  refine (ref_price _ _).mono ?_
  rintro e w' ⟨rfl, rfl⟩
  go_wp2_with fail
  go_ret
  exact ⟨rfl, (Below.refl _ _).alloc (Nat.le_refl _) _⟩

set_option maxRecDepth 100000 in
set_option maxHeartbeats 1000000 in
theorem rord_s4 (a b c p q s t : Int) (w : World) (a1 : 1 ≤ a) (a2 : a ≤ 9999) (b1 : 1 ≤ b) (b2 : b ≤ 9) (c1 : sdB c = true) (hp : prB p = true) (q1 : 1 ≤ q) (q2 : q ≤ 10000) (s1 : 0 ≤ s) (s2 : s ≤ q) (k0 : ¬ s = 0) (_k0' : (s == 0) = false) :
    Calls Tryd.prog 15 #[.agg #[.int .i64 a, .int .i64 b, .int .i64 c, .int .i64 4, .int .i64 p, .int .i64 q, .int .i64 s, .int .i64 t]] w fun e w' => e = .returned (.int .i64 3) ∧ Below w.heap.size w w' := by
  go_enter Tryd.func15, Tryd.ntmps15
  go_wp2_with fail
  refine (ref_side _ _).mono ?_
  rintro e w' ⟨rfl, rfl⟩
  go_wp2_with fail
  refine (ref_price _ _).mono ?_
  rintro e w' ⟨rfl, rfl⟩
  go_wp2_with fail
  go_ret
  exact ⟨rfl, (Below.refl _ _).alloc (Nat.le_refl _) _⟩

set_option maxRecDepth 100000 in
set_option maxHeartbeats 1000000 in
theorem rord_t0a (a b c q : Int) (w : World) (a1 : 1 ≤ a) (a2 : a ≤ 9999) (b1 : 1 ≤ b) (b2 : b ≤ 9) (c1 : sdB c = true) (q1 : 1 ≤ q) (q2 : q ≤ 10000) :
    Calls Tryd.prog 15 #[.agg #[.int .i64 a, .int .i64 b, .int .i64 c, .int .i64 2, .int .i64 0, .int .i64 q, .int .i64 0, .int .i64 0]] w fun e w' => e = .returned (.int .i64 0) ∧ Below w.heap.size w w' := by
  go_enter Tryd.func15, Tryd.ntmps15
  go_wp2_with fail
  refine (ref_side _ _).mono ?_
  rintro e w' ⟨rfl, rfl⟩
  go_wp2_with fail
  refine (ref_price _ _).mono ?_
  rintro e w' ⟨rfl, rfl⟩
  go_wp2_with fail
  refine (ref_price _ _).mono ?_
  rintro e w' ⟨rfl, rfl⟩
  go_wp2_with fail
  go_ret
  exact ⟨rfl, (Below.refl _ _).alloc (Nat.le_refl _) _⟩

set_option maxRecDepth 100000 in
set_option maxHeartbeats 1000000 in
theorem rord_t1a (a b c q t : Int) (w : World) (a1 : 1 ≤ a) (a2 : a ≤ 9999) (b1 : 1 ≤ b) (b2 : b ≤ 9) (c1 : sdB c = true) (q1 : 1 ≤ q) (q2 : q ≤ 10000) (t0 : ¬ t = 0) (_t0' : (t == 0) = false) (ht : prB t = false) :
    Calls Tryd.prog 15 #[.agg #[.int .i64 a, .int .i64 b, .int .i64 c, .int .i64 2, .int .i64 0, .int .i64 q, .int .i64 0, .int .i64 t]] w fun e w' => e = .returned (.int .i64 1) ∧ Below w.heap.size w w' := by
  go_enter Tryd.func15, Tryd.ntmps15
  go_wp2_with fail
  refine (ref_side _ _).mono ?_
  rintro e w' ⟨rfl, rfl⟩
  go_wp2_with fail
  refine (ref_price _ _).mono ?_
  rintro e w' ⟨rfl, rfl⟩
  go_wp2_with fail
  refine (ref_price _ _).mono ?_
  rintro e w' ⟨rfl, rfl⟩
  go_wp2_with fail
  go_ret
  exact ⟨rfl, (Below.refl _ _).alloc (Nat.le_refl _) _⟩

set_option maxRecDepth 100000 in
set_option maxHeartbeats 1000000 in
theorem rord_t2a (a b c q t : Int) (w : World) (a1 : 1 ≤ a) (a2 : a ≤ 9999) (b1 : 1 ≤ b) (b2 : b ≤ 9) (c1 : sdB c = true) (q1 : 1 ≤ q) (q2 : q ≤ 10000) (t0 : ¬ t = 0) (_t0' : (t == 0) = false) (ht : prB t = true) :
    Calls Tryd.prog 15 #[.agg #[.int .i64 a, .int .i64 b, .int .i64 c, .int .i64 2, .int .i64 0, .int .i64 q, .int .i64 0, .int .i64 t]] w fun e w' => e = .returned (.int .i64 0) ∧ Below w.heap.size w w' := by
  go_enter Tryd.func15, Tryd.ntmps15
  go_wp2_with fail
  refine (ref_side _ _).mono ?_
  rintro e w' ⟨rfl, rfl⟩
  go_wp2_with fail
  refine (ref_price _ _).mono ?_
  rintro e w' ⟨rfl, rfl⟩
  go_wp2_with fail
  refine (ref_price _ _).mono ?_
  rintro e w' ⟨rfl, rfl⟩
  go_wp2_with fail
  go_ret
  exact ⟨rfl, (Below.refl _ _).alloc (Nat.le_refl _) _⟩

set_option maxRecDepth 100000 in
set_option maxHeartbeats 1000000 in
theorem rord_t0b (a b c d p q : Int) (w : World) (a1 : 1 ≤ a) (a2 : a ≤ 9999) (b1 : 1 ≤ b) (b2 : b ≤ 9) (c1 : sdB c = true) (d1 : 1 ≤ d) (d2 : d ≤ 5) (k : ¬ d = 2) (_k' : (d == 2) = false) (hp : prB p = true) (q1 : 1 ≤ q) (q2 : q ≤ 10000) :
    Calls Tryd.prog 15 #[.agg #[.int .i64 a, .int .i64 b, .int .i64 c, .int .i64 d, .int .i64 p, .int .i64 q, .int .i64 0, .int .i64 0]] w fun e w' => e = .returned (.int .i64 0) ∧ Below w.heap.size w w' := by
  go_enter Tryd.func15, Tryd.ntmps15
  go_wp2_with fail
  refine (ref_side _ _).mono ?_
  rintro e w' ⟨rfl, rfl⟩
  go_wp2_with fail
  refine (ref_price _ _).mono ?_
  rintro e w' ⟨rfl, rfl⟩
  go_wp2_with fail
  refine (ref_price _ _).mono ?_
  rintro e w' ⟨rfl, rfl⟩
  go_wp2_with fail
  go_ret
  exact ⟨rfl, (Below.refl _ _).alloc (Nat.le_refl _) _⟩

set_option maxRecDepth 100000 in
set_option maxHeartbeats 1000000 in
theorem rord_t1b (a b c d p q t : Int) (w : World) (a1 : 1 ≤ a) (a2 : a ≤ 9999) (b1 : 1 ≤ b) (b2 : b ≤ 9) (c1 : sdB c = true) (d1 : 1 ≤ d) (d2 : d ≤ 5) (k : ¬ d = 2) (_k' : (d == 2) = false) (hp : prB p = true) (q1 : 1 ≤ q) (q2 : q ≤ 10000) (t0 : ¬ t = 0) (_t0' : (t == 0) = false) (ht : prB t = false) :
    Calls Tryd.prog 15 #[.agg #[.int .i64 a, .int .i64 b, .int .i64 c, .int .i64 d, .int .i64 p, .int .i64 q, .int .i64 0, .int .i64 t]] w fun e w' => e = .returned (.int .i64 1) ∧ Below w.heap.size w w' := by
  go_enter Tryd.func15, Tryd.ntmps15
  go_wp2_with fail
  refine (ref_side _ _).mono ?_
  rintro e w' ⟨rfl, rfl⟩
  go_wp2_with fail
  refine (ref_price _ _).mono ?_
  rintro e w' ⟨rfl, rfl⟩
  go_wp2_with fail
  refine (ref_price _ _).mono ?_
  rintro e w' ⟨rfl, rfl⟩
  go_wp2_with fail
  go_ret
  exact ⟨rfl, (Below.refl _ _).alloc (Nat.le_refl _) _⟩

set_option maxRecDepth 100000 in
set_option maxHeartbeats 1000000 in
theorem rord_t2b (a b c d p q t : Int) (w : World) (a1 : 1 ≤ a) (a2 : a ≤ 9999) (b1 : 1 ≤ b) (b2 : b ≤ 9) (c1 : sdB c = true) (d1 : 1 ≤ d) (d2 : d ≤ 5) (k : ¬ d = 2) (_k' : (d == 2) = false) (hp : prB p = true) (q1 : 1 ≤ q) (q2 : q ≤ 10000) (t0 : ¬ t = 0) (_t0' : (t == 0) = false) (ht : prB t = true) :
    Calls Tryd.prog 15 #[.agg #[.int .i64 a, .int .i64 b, .int .i64 c, .int .i64 d, .int .i64 p, .int .i64 q, .int .i64 0, .int .i64 t]] w fun e w' => e = .returned (.int .i64 0) ∧ Below w.heap.size w w' := by
  go_enter Tryd.func15, Tryd.ntmps15
  go_wp2_with fail
  refine (ref_side _ _).mono ?_
  rintro e w' ⟨rfl, rfl⟩
  go_wp2_with fail
  refine (ref_price _ _).mono ?_
  rintro e w' ⟨rfl, rfl⟩
  go_wp2_with fail
  refine (ref_price _ _).mono ?_
  rintro e w' ⟨rfl, rfl⟩
  go_wp2_with fail
  go_ret
  exact ⟨rfl, (Below.refl _ _).alloc (Nat.le_refl _) _⟩

set_option maxRecDepth 100000 in
set_option maxHeartbeats 1000000 in
theorem rord_t0c (a b c p q s : Int) (w : World) (a1 : 1 ≤ a) (a2 : a ≤ 9999) (b1 : 1 ≤ b) (b2 : b ≤ 9) (c1 : sdB c = true) (hp : prB p = true) (q1 : 1 ≤ q) (q2 : q ≤ 10000) (s1 : 0 ≤ s) (s2 : s ≤ q) (k0 : ¬ s = 0) (_k0' : (s == 0) = false) :
    Calls Tryd.prog 15 #[.agg #[.int .i64 a, .int .i64 b, .int .i64 c, .int .i64 1, .int .i64 p, .int .i64 q, .int .i64 s, .int .i64 0]] w fun e w' => e = .returned (.int .i64 0) ∧ Below w.heap.size w w' := by
  go_enter Tryd.func15, Tryd.ntmps15
  go_wp2_with fail
  refine (ref_side _ _).mono ?_
  rintro e w' ⟨rfl, rfl⟩
  go_wp2_with fail
  refine (ref_price _ _).mono ?_
  rintro e w' ⟨rfl, rfl⟩
  go_wp2_with fail
  refine (ref_price _ _).mono ?_
  rintro e w' ⟨rfl, rfl⟩
  go_wp2_with fail
  go_ret
  exact ⟨rfl, (Below.refl _ _).alloc (Nat.le_refl _) _⟩

set_option maxRecDepth 100000 in
set_option maxHeartbeats 1000000 in
theorem rord_t1c (a b c p q s t : Int) (w : World) (a1 : 1 ≤ a) (a2 : a ≤ 9999) (b1 : 1 ≤ b) (b2 : b ≤ 9) (c1 : sdB c = true) (hp : prB p = true) (q1 : 1 ≤ q) (q2 : q ≤ 10000) (s1 : 0 ≤ s) (s2 : s ≤ q) (k0 : ¬ s = 0) (_k0' : (s == 0) = false) (t0 : ¬ t = 0) (_t0' : (t == 0) = false) (ht : prB t = false) :
    Calls Tryd.prog 15 #[.agg #[.int .i64 a, .int .i64 b, .int .i64 c, .int .i64 1, .int .i64 p, .int .i64 q, .int .i64 s, .int .i64 t]] w fun e w' => e = .returned (.int .i64 1) ∧ Below w.heap.size w w' := by
  go_enter Tryd.func15, Tryd.ntmps15
  go_wp2_with fail
  refine (ref_side _ _).mono ?_
  rintro e w' ⟨rfl, rfl⟩
  go_wp2_with fail
  refine (ref_price _ _).mono ?_
  rintro e w' ⟨rfl, rfl⟩
  go_wp2_with fail
  refine (ref_price _ _).mono ?_
  rintro e w' ⟨rfl, rfl⟩
  go_wp2_with fail
  go_ret
  exact ⟨rfl, (Below.refl _ _).alloc (Nat.le_refl _) _⟩

set_option maxRecDepth 100000 in
set_option maxHeartbeats 1000000 in
theorem rord_t2c (a b c p q s t : Int) (w : World) (a1 : 1 ≤ a) (a2 : a ≤ 9999) (b1 : 1 ≤ b) (b2 : b ≤ 9) (c1 : sdB c = true) (hp : prB p = true) (q1 : 1 ≤ q) (q2 : q ≤ 10000) (s1 : 0 ≤ s) (s2 : s ≤ q) (k0 : ¬ s = 0) (_k0' : (s == 0) = false) (t0 : ¬ t = 0) (_t0' : (t == 0) = false) (ht : prB t = true) :
    Calls Tryd.prog 15 #[.agg #[.int .i64 a, .int .i64 b, .int .i64 c, .int .i64 1, .int .i64 p, .int .i64 q, .int .i64 s, .int .i64 t]] w fun e w' => e = .returned (.int .i64 0) ∧ Below w.heap.size w w' := by
  go_enter Tryd.func15, Tryd.ntmps15
  go_wp2_with fail
  refine (ref_side _ _).mono ?_
  rintro e w' ⟨rfl, rfl⟩
  go_wp2_with fail
  refine (ref_price _ _).mono ?_
  rintro e w' ⟨rfl, rfl⟩
  go_wp2_with fail
  refine (ref_price _ _).mono ?_
  rintro e w' ⟨rfl, rfl⟩
  go_wp2_with fail
  go_ret
  exact ⟨rfl, (Below.refl _ _).alloc (Nat.le_refl _) _⟩

set_option maxRecDepth 100000 in
set_option maxHeartbeats 1000000 in
theorem rord_t0d (a b c p q s : Int) (w : World) (a1 : 1 ≤ a) (a2 : a ≤ 9999) (b1 : 1 ≤ b) (b2 : b ≤ 9) (c1 : sdB c = true) (hp : prB p = true) (q1 : 1 ≤ q) (q2 : q ≤ 10000) (s1 : 0 ≤ s) (s2 : s ≤ q) (k0 : ¬ s = 0) (_k0' : (s == 0) = false) :
    Calls Tryd.prog 15 #[.agg #[.int .i64 a, .int .i64 b, .int .i64 c, .int .i64 5, .int .i64 p, .int .i64 q, .int .i64 s, .int .i64 0]] w fun e w' => e = .returned (.int .i64 0) ∧ Below w.heap.size w w' := by
  go_enter Tryd.func15, Tryd.ntmps15
  go_wp2_with fail
  refine (ref_side _ _).mono ?_
  rintro e w' ⟨rfl, rfl⟩
  go_wp2_with fail
  refine (ref_price _ _).mono ?_
  rintro e w' ⟨rfl, rfl⟩
  go_wp2_with fail
  refine (ref_price _ _).mono ?_
  rintro e w' ⟨rfl, rfl⟩
  go_wp2_with fail
  go_ret
  exact ⟨rfl, (Below.refl _ _).alloc (Nat.le_refl _) _⟩

set_option maxRecDepth 100000 in
set_option maxHeartbeats 1000000 in
theorem rord_t1d (a b c p q s t : Int) (w : World) (a1 : 1 ≤ a) (a2 : a ≤ 9999) (b1 : 1 ≤ b) (b2 : b ≤ 9) (c1 : sdB c = true) (hp : prB p = true) (q1 : 1 ≤ q) (q2 : q ≤ 10000) (s1 : 0 ≤ s) (s2 : s ≤ q) (k0 : ¬ s = 0) (_k0' : (s == 0) = false) (t0 : ¬ t = 0) (_t0' : (t == 0) = false) (ht : prB t = false) :
    Calls Tryd.prog 15 #[.agg #[.int .i64 a, .int .i64 b, .int .i64 c, .int .i64 5, .int .i64 p, .int .i64 q, .int .i64 s, .int .i64 t]] w fun e w' => e = .returned (.int .i64 1) ∧ Below w.heap.size w w' := by
  go_enter Tryd.func15, Tryd.ntmps15
  go_wp2_with fail
  refine (ref_side _ _).mono ?_
  rintro e w' ⟨rfl, rfl⟩
  go_wp2_with fail
  refine (ref_price _ _).mono ?_
  rintro e w' ⟨rfl, rfl⟩
  go_wp2_with fail
  refine (ref_price _ _).mono ?_
  rintro e w' ⟨rfl, rfl⟩
  go_wp2_with fail
  go_ret
  exact ⟨rfl, (Below.refl _ _).alloc (Nat.le_refl _) _⟩

set_option maxRecDepth 100000 in
set_option maxHeartbeats 1000000 in
theorem rord_t2d (a b c p q s t : Int) (w : World) (a1 : 1 ≤ a) (a2 : a ≤ 9999) (b1 : 1 ≤ b) (b2 : b ≤ 9) (c1 : sdB c = true) (hp : prB p = true) (q1 : 1 ≤ q) (q2 : q ≤ 10000) (s1 : 0 ≤ s) (s2 : s ≤ q) (k0 : ¬ s = 0) (_k0' : (s == 0) = false) (t0 : ¬ t = 0) (_t0' : (t == 0) = false) (ht : prB t = true) :
    Calls Tryd.prog 15 #[.agg #[.int .i64 a, .int .i64 b, .int .i64 c, .int .i64 5, .int .i64 p, .int .i64 q, .int .i64 s, .int .i64 t]] w fun e w' => e = .returned (.int .i64 0) ∧ Below w.heap.size w w' := by
  go_enter Tryd.func15, Tryd.ntmps15
  go_wp2_with fail
  refine (ref_side _ _).mono ?_
  rintro e w' ⟨rfl, rfl⟩
  go_wp2_with fail
  refine (ref_price _ _).mono ?_
  rintro e w' ⟨rfl, rfl⟩
  go_wp2_with fail
  refine (ref_price _ _).mono ?_
  rintro e w' ⟨rfl, rfl⟩
  go_wp2_with fail
  go_ret
  exact ⟨rfl, (Below.refl _ _).alloc (Nat.le_refl _) _⟩

end Go.Proofs.YtndkabnmffgebaaDoor.ord
