/- The walk of MarginMore. -/
import Derived.Test.YtdeahageabacbaaLimOrd
import Derived.Test.YtdeahageabacbaaMrgFor
namespace Go.Proofs.Ytdeahageabacbaa.mrg
open Go.RowKit Go.Proofs.Ytdeahageabacbaa.mee
open Go.Proofs.Ytdeahageabacbaa.ord (O oV chk errV errV_zero errV_of prB)
open Go.Proofs.Ytdeahageabacbaa.lim (limit_any)

theorem lim_good (s p a : Int) (hs : s = 1 ∨ s = 2) (p1 : 1 ≤ p) (p2 : p ≤ 10000) (a1 : 1 ≤ a) (a2 : a ≤ 10000) : chk ⟨1, 1, s, 1, p, a, 0, 0⟩ = 0 := by
  have h1 : ord.headB ⟨1, 1, s, 1, p, a, 0, 0⟩ = true := by
    rcases hs with rfl | rfl <;> rfl
  have h2 : ord.priceOkB ⟨1, 1, s, 1, p, a, 0, 0⟩ = true := by
    unfold ord.priceOkB
    simp [prB, p1, p2]
  have h3 : ord.qtyB ⟨1, 1, s, 1, p, a, 0, 0⟩ = true := by
    simp [ord.qtyB, a1, a2]
    omega
  rw [ord.chk_fine h1 h2 h3]
  rfl
theorem mul_small {p a : Int} (p1 : 1 ≤ p) (p2 : p ≤ 10000) (a1 : 1 ≤ a) (a2 : a ≤ 10000) : wrap64 (p * a) = p * a := by
  have h1 : 1 * a ≤ p * a := Int.mul_le_mul_of_nonneg_right p1 (by omega)
  have h2 : p * a ≤ 10000 * a := Int.mul_le_mul_of_nonneg_right p2 (by omega)
  generalize p * a = z at *
  unfold wrap64
  omega
/-- For, at one who buys at a price. -/
theorem for_buy (p a : Int) (w : World) (p1 : 1 ≤ p) (p2 : p ≤ 10000) (a1 : 1 ≤ a) (a2 : a ≤ 10000) :
    Calls Try.prog 5 #[.agg #[.int .i64 1, .int .i64 1, .int .i64 1, .int .i64 1, .int .i64 p, .int .i64 a, .int .i64 0, .int .i64 0]] w fun e w' => e = .returned (.tuple #[.int .i64 (p * a), .int .i64 0, .nilIface]) ∧ Below w.heap.size w w' := by
  have h0 := lim_good 1 p a (.inl rfl) p1 p2 a1 a2
  have h := for_any ⟨1, 1, 1, 1, p, a, 0, 0⟩ w
  have e1 : forC ⟨1, 1, 1, 1, p, a, 0, 0⟩ = p * a := by
    unfold forC
    rw [if_pos h0]
    show wrap64 (p * a) = _
    exact mul_small p1 p2 a1 a2
  have e2 : forS ⟨1, 1, 1, 1, p, a, 0, 0⟩ = 0 := by
    unfold forS
    rw [if_pos h0]
    rfl
  rw [e1, e2, h0, errV_zero] at h
  exact h
theorem for_sell (p a : Int) (w : World) (p1 : 1 ≤ p) (p2 : p ≤ 10000) (a1 : 1 ≤ a) (a2 : a ≤ 10000) :
    Calls Try.prog 5 #[.agg #[.int .i64 1, .int .i64 1, .int .i64 2, .int .i64 1, .int .i64 p, .int .i64 a, .int .i64 0, .int .i64 0]] w fun e w' => e = .returned (.tuple #[.int .i64 0, .int .i64 a, .nilIface]) ∧ Below w.heap.size w w' := by
  have h0 := lim_good 2 p a (.inr rfl) p1 p2 a1 a2
  have h := for_any ⟨1, 1, 2, 1, p, a, 0, 0⟩ w
  have e1 : forC ⟨1, 1, 2, 1, p, a, 0, 0⟩ = 0 := by
    unfold forC
    rw [if_pos h0]
    rfl
  have e2 : forS ⟨1, 1, 2, 1, p, a, 0, 0⟩ = a := by
    unfold forS
    rw [if_pos h0]
    rfl
  rw [e1, e2, h0, errV_zero] at h
  exact h

theorem more_out (p q a b : Int) (w : World) (h : p < 1 ∨ q < p ∨ 10000 < q ∨ a < 1 ∨ b < a ∨ 10000 < b) :
    Calls Try.prog 4 #[.int .i64 p, .int .i64 q, .int .i64 a, .int .i64 b] w fun e w' => e = .returned (.bool true) ∧ Below w.heap.size w w' := by
  by_cases h0 : p < 1
  · have d0 : decide (p < 1) = true := decide_eq_true h0
    go_enter Try.func4, Try.ntmps4
    go_wp2_with fail
    go_ret
    exact ⟨rfl, Below.refl _ _⟩
  have d0 : decide (p < 1) = false := decide_eq_false h0
  by_cases h1 : q < p
  · have d1 : decide (q < p) = true := decide_eq_true h1
    go_enter Try.func4, Try.ntmps4
    go_wp2_with fail
    go_ret
    exact ⟨rfl, Below.refl _ _⟩
  have d1 : decide (q < p) = false := decide_eq_false h1
  by_cases h2 : 10000 < q
  · have d2 : decide (10000 < q) = true := decide_eq_true h2
    go_enter Try.func4, Try.ntmps4
    go_wp2_with fail
    go_ret
    exact ⟨rfl, Below.refl _ _⟩
  have d2 : decide (10000 < q) = false := decide_eq_false h2
  by_cases h3 : a < 1
  · have d3 : decide (a < 1) = true := decide_eq_true h3
    go_enter Try.func4, Try.ntmps4
    go_wp2_with fail
    go_ret
    exact ⟨rfl, Below.refl _ _⟩
  have d3 : decide (a < 1) = false := decide_eq_false h3
  by_cases h4 : b < a
  · have d4 : decide (b < a) = true := decide_eq_true h4
    go_enter Try.func4, Try.ntmps4
    go_wp2_with fail
    go_ret
    exact ⟨rfl, Below.refl _ _⟩
  have d4 : decide (b < a) = false := decide_eq_false h4
  by_cases h5 : 10000 < b
  · have d5 : decide (10000 < b) = true := decide_eq_true h5
    go_enter Try.func4, Try.ntmps4
    go_wp2_with fail
    go_ret
    exact ⟨rfl, Below.refl _ _⟩
  have d5 : decide (10000 < b) = false := decide_eq_false h5
  omega

set_option maxRecDepth 100000 in
set_option maxHeartbeats 2000000 in
theorem more_in (p q a b : Int) (w : World) (p1 : 1 ≤ p) (pq : p ≤ q) (q2 : q ≤ 10000) (a1 : 1 ≤ a) (ab : a ≤ b) (b2 : b ≤ 10000) :
    Calls Try.prog 4 #[.int .i64 p, .int .i64 q, .int .i64 a, .int .i64 b] w fun e w' => e = .returned (.bool true) ∧ Below w.heap.size w w' := by
  have HF1 : Hid (∀ W, Calls Try.prog 5 #[.agg #[.int .i64 1, .int .i64 1, .int .i64 1, .int .i64 1, .int .i64 p, .int .i64 a, .int .i64 0, .int .i64 0]] W fun e w' => e = .returned (.tuple #[.int .i64 (p * a), .int .i64 0, .nilIface]) ∧ Below W.heap.size W w') := fun W => for_buy p a W p1 (by omega) a1 (by omega)
  have HF2 : Hid (∀ W, Calls Try.prog 5 #[.agg #[.int .i64 1, .int .i64 1, .int .i64 1, .int .i64 1, .int .i64 q, .int .i64 b, .int .i64 0, .int .i64 0]] W fun e w' => e = .returned (.tuple #[.int .i64 (q * b), .int .i64 0, .nilIface]) ∧ Below W.heap.size W w') := fun W => for_buy q b W (by omega) q2 (by omega) b2
  have HF3 : Hid (∀ W, Calls Try.prog 5 #[.agg #[.int .i64 1, .int .i64 1, .int .i64 2, .int .i64 1, .int .i64 p, .int .i64 a, .int .i64 0, .int .i64 0]] W fun e w' => e = .returned (.tuple #[.int .i64 0, .int .i64 a, .nilIface]) ∧ Below W.heap.size W w') := fun W => for_sell p a W p1 (by omega) a1 (by omega)
  have HM1 := hidM (mul_small p1 (show p ≤ 10000 by omega) a1 (show a ≤ 10000 by omega))
  have HM2 := hidM (mul_small (show 1 ≤ q by omega) q2 (show 1 ≤ b by omega) b2)
  have HLE : Hid (p * a ≤ q * b) := by
    have h1 : p * a ≤ q * a := Int.mul_le_mul_of_nonneg_right pq (by omega)
    have h2 : q * a ≤ q * b := Int.mul_le_mul_of_nonneg_left ab (by omega)
    exact Int.le_trans h1 h2
  have d0 : decide (p < 1) = false := decide_eq_false (by omega)
  have d1 : decide (q < p) = false := decide_eq_false (by omega)
  have d2 : decide (10000 < q) = false := decide_eq_false (by omega)
  have d3 : decide (a < 1) = false := decide_eq_false (by omega)
  have d4 : decide (b < a) = false := decide_eq_false (by omega)
  have d5 : decide (10000 < b) = false := decide_eq_false (by omega)
  clear p1 pq q2 a1 ab b2
  go_enter Try.func4, Try.ntmps4
  go_wp2_with fail
  clear d0 d1 d2 d3 d4 d5
  refine (limit_any 1 1 1 p a _).mono ?_
  rintro e w1 ⟨rfl, hb1⟩
  have HB1 := hidM hb1
  clear hb1
  go_wp2_with fail
  refine (HF1.out _).mono ?_
  rintro e w2 ⟨rfl, hb⟩
  have HB2 := hidM (HB1.out.trans (hb.mono HB1.out.size))
  clear hb HB1
  go_wp2_with fail
  refine (limit_any 1 1 1 q b _).mono ?_
  rintro e w3 ⟨rfl, hb⟩
  have HB3 := hidM (HB2.out.trans (hb.mono HB2.out.size))
  clear hb HB2
  go_wp2_with fail
  refine (HF2.out _).mono ?_
  rintro e w4 ⟨rfl, hb⟩
  have HB4 := hidM (HB3.out.trans (hb.mono HB3.out.size))
  clear hb HB3
  go_wp2_with fail
  refine (limit_any 1 1 2 p a _).mono ?_
  rintro e w5 ⟨rfl, hb⟩
  have HB5 := hidM (HB4.out.trans (hb.mono HB4.out.size))
  clear hb HB4
  go_wp2_with fail
  refine (HF3.out _).mono ?_
  rintro e w6 ⟨rfl, hb⟩
  have HB6 := hidM (HB5.out.trans (hb.mono HB5.out.size))
  clear hb HB5
  have m1 := HM1.out
  have m2 := HM2.out
  have m3 : decide (p * a ≤ q * b) = true := decide_eq_true HLE.out
  have m4 : ¬ q * b < p * a := Int.not_lt.2 HLE.out
  go_wp2_with fail
  go_ret
  exact ⟨rfl, HB6.out⟩
theorem more_walk (p q a b : Int) (w : World) :
    Calls Try.prog 4 #[.int .i64 p, .int .i64 q, .int .i64 a, .int .i64 b] w fun e w' => e = .returned (.bool true) ∧ Below w.heap.size w w' := by
  by_cases h : p < 1 ∨ q < p ∨ 10000 < q ∨ a < 1 ∨ b < a ∨ 10000 < b
  · exact more_out p q a b w h
  · exact more_in p q a b w (by omega) (by omega) (by omega) (by omega) (by omega) (by omega)
end Go.Proofs.Ytdeahageabacbaa.mrg
