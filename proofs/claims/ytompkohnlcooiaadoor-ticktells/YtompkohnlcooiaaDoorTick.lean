/-
  Contracts of package tick's functions over this seat's translation: within, Price, bothPrices, knownSide, priceAndTick, Band, On, Better, Round, each at every input, each leaving the world as it was.
-/
import Derived.Test.YtompkohnlcooiaaDoorRows
import Derived.WalkKit
import Derived.ProofKit
import Derived.Outline
import Derived.WalkSpells
import Derived.WalkLawsBesides
namespace Go.Proofs.YtompkohnlcooiaaDoor.tick
open Go.ChangeShapes Go.WideShapes Go.ChangeAt Go.RowKit

theorem within_ok (n lo hi : Int) (w : World) (h1 : lo ≤ n) (h2 : n ≤ hi) :
    Calls Tryd.prog 14 #[.int .i64 n, .int .i64 lo, .int .i64 hi] w fun e w' => e = .returned .nilIface ∧ w' = w := by
  go_enter Tryd.func14, Tryd.ntmps14
  go_wp2
  go_ret
  exact ⟨rfl, rfl⟩

theorem within_no (n lo hi : Int) (w : World) (h : n < lo ∨ hi < n) :
    Calls Tryd.prog 14 #[.int .i64 n, .int .i64 lo, .int .i64 hi] w fun e w' => e = .returned (.iface 34 (.int .i64 1)) ∧ w' = w := by
  by_cases h1 : n < lo
  · clear h
    go_enter Tryd.func14, Tryd.ntmps14
    go_wp2
    go_ret
    exact ⟨rfl, rfl⟩
  · have h2 : hi < n := by omega
    clear h
    go_enter Tryd.func14, Tryd.ntmps14
    go_wp2
    go_ret
    exact ⟨rfl, rfl⟩

theorem price_ok (n : Int) (w : World) (h1 : 1 ≤ n) (h2 : n ≤ 10000) :
    Calls Tryd.prog 7 #[.int .i64 n] w fun e w' => e = .returned .nilIface ∧ w' = w := by
  go_enter Tryd.func7, Tryd.ntmps7
  go_wp2_with (go_at_call 14; refine (within_ok _ _ _ _ h1 h2).mono ?_; rintro e w' ⟨rfl, rfl⟩)
  go_ret
  exact ⟨rfl, rfl⟩

theorem price_no (n : Int) (w : World) (h : n < 1 ∨ 10000 < n) :
    Calls Tryd.prog 7 #[.int .i64 n] w fun e w' => e = .returned (.iface 34 (.int .i64 1)) ∧ w' = w := by
  go_enter Tryd.func7, Tryd.ntmps7
  go_wp2_with (go_at_call 14; refine (within_no _ _ _ _ h).mono ?_; rintro e w' ⟨rfl, rfl⟩)
  go_ret
  exact ⟨rfl, rfl⟩

theorem side_ok (s : Int) (w : World) (h : s = 1 ∨ s = 2) :
    Calls Tryd.prog 16 #[.int .i64 s] w fun e w' => e = .returned .nilIface ∧ w' = w := by
  rcases h with rfl | rfl
  all_goals
    go_enter Tryd.func16, Tryd.ntmps16
    go_wp2
    go_ret
    exact ⟨rfl, rfl⟩

theorem side_no (s : Int) (w : World) (h1 : (s != 1) = true) (h2 : (s != 2) = true) :
    Calls Tryd.prog 16 #[.int .i64 s] w fun e w' => e = .returned (.iface 34 (.int .i64 1)) ∧ w' = w := by
  go_enter Tryd.func16, Tryd.ntmps16
  go_wp2
  go_ret
  exact ⟨rfl, rfl⟩

theorem both_ok (a b : Int) (w : World) (h1 : 1 ≤ a) (h2 : a ≤ 10000) (h3 : 1 ≤ b) (h4 : b ≤ 10000) :
    Calls Tryd.prog 17 #[.int .i64 a, .int .i64 b] w fun e w' => e = .returned .nilIface ∧ w' = w := by
  go_enter Tryd.func17, Tryd.ntmps17
  go_wp2_with (go_at_call 7; refine (price_ok _ _ (by assumption) (by assumption)).mono ?_; rintro e w' ⟨rfl, rfl⟩)
  go_ret
  exact ⟨rfl, rfl⟩

theorem both_no (a b : Int) (w : World) (h : (a < 1 ∨ 10000 < a) ∨ (b < 1 ∨ 10000 < b)) :
    Calls Tryd.prog 17 #[.int .i64 a, .int .i64 b] w fun e w' => e = .returned (.iface 34 (.int .i64 1)) ∧ w' = w := by
  by_cases ha : a < 1 ∨ 10000 < a
  · clear h
    go_enter Tryd.func17, Tryd.ntmps17
    go_wp2_with (go_at_call 7; refine (price_no _ _ ha).mono ?_; rintro e w' ⟨rfl, rfl⟩)
    go_ret
    exact ⟨rfl, rfl⟩
  · have hb : b < 1 ∨ 10000 < b := by omega
    have h1 : 1 ≤ a := by omega
    have h2 : a ≤ 10000 := by omega
    clear h ha
    go_enter Tryd.func17, Tryd.ntmps17
    go_wp2_with (first | (go_at_call 7; refine (price_ok _ _ h1 h2).mono ?_; rintro e w' ⟨rfl, rfl⟩) | (go_at_call 7; refine (price_no _ _ hb).mono ?_; rintro e w' ⟨rfl, rfl⟩))
    go_ret
    exact ⟨rfl, rfl⟩

theorem pt_ok (p t : Int) (w : World) (h1 : 1 ≤ p) (h2 : p ≤ 10000) (h3 : 1 ≤ t) (h4 : t ≤ 100) :
    Calls Tryd.prog 15 #[.int .i64 p, .int .i64 t] w fun e w' => e = .returned .nilIface ∧ w' = w := by
  go_enter Tryd.func15, Tryd.ntmps15
  go_wp2_with (first | (go_at_call 7; refine (price_ok _ _ h1 h2).mono ?_; rintro e w' ⟨rfl, rfl⟩) | (go_at_call 14; refine (within_ok _ _ _ _ h3 h4).mono ?_; rintro e w' ⟨rfl, rfl⟩))
  go_ret
  exact ⟨rfl, rfl⟩

theorem pt_no (p t : Int) (w : World) (h : (p < 1 ∨ 10000 < p) ∨ (t < 1 ∨ 100 < t)) :
    Calls Tryd.prog 15 #[.int .i64 p, .int .i64 t] w fun e w' => e = .returned (.iface 34 (.int .i64 1)) ∧ w' = w := by
  by_cases ha : p < 1 ∨ 10000 < p
  · clear h
    go_enter Tryd.func15, Tryd.ntmps15
    go_wp2_with (go_at_call 7; refine (price_no _ _ ha).mono ?_; rintro e w' ⟨rfl, rfl⟩)
    go_ret
    exact ⟨rfl, rfl⟩
  · have hb : t < 1 ∨ 100 < t := by omega
    have h1 : 1 ≤ p := by omega
    have h2 : p ≤ 10000 := by omega
    clear h ha
    go_enter Tryd.func15, Tryd.ntmps15
    go_wp2_with (first | (go_at_call 7; refine (price_ok _ _ h1 h2).mono ?_; rintro e w' ⟨rfl, rfl⟩) | (go_at_call 14; refine (within_no _ _ _ _ hb).mono ?_; rintro e w' ⟨rfl, rfl⟩))
    go_ret
    exact ⟨rfl, rfl⟩

/-- What Band tells where all is in range. -/
def bandB (p r n : Int) : Bool := decide (100 * (max p r - min p r) ≤ n * r)

theorem ret_bool_err {a b : Bool} {v : Value} (h : a = b) : Ending.returned (.tuple #[.bool a, v]) = .returned (.tuple #[.bool b, v]) := by rw [h]
theorem ret_int_err {a b : Int} {v : Value} (h : a = b) : Ending.returned (.tuple #[.int .i64 a, v]) = .returned (.tuple #[.int .i64 b, v]) := by rw [h]

theorem bandB_lt {p r n : Int} (h : p ≤ r) : decide (100 * (r - p) ≤ n * r) = bandB p r n := by
  unfold bandB; rw [Int.max_eq_right h, Int.min_eq_left h]
theorem bandB_gt {p r n : Int} (h : r ≤ p) : decide (100 * (p - r) ≤ n * r) = bandB p r n := by
  unfold bandB; rw [Int.max_eq_left h, Int.min_eq_right h]
theorem bandB_same {p r n : Int} (h : r ≤ p) (h' : p ≤ r) (h0 : 0 ≤ n * r) : true = bandB p r n := by
  have e : p = r := by omega
  subst e
  rw [← bandB_lt (Int.le_refl p), Int.sub_self]; simpa using h0

theorem band_ok (p r n : Int) (w : World) (h1 : 1 ≤ p) (h2 : p ≤ 10000) (h3 : 1 ≤ r) (h4 : r ≤ 10000) (h5 : 0 ≤ n) (h6 : n ≤ 100) :
    Calls Tryd.prog 10 #[.int .i64 p, .int .i64 r, .int .i64 n] w fun e w' => e = .returned (.tuple #[.bool (bandB p r n), .nilIface]) ∧ w' = w := by
  have b1 : 0 ≤ n * r := Int.mul_nonneg h5 (by omega)
  have b2 : n * r ≤ 100 * 10000 := Int.mul_le_mul h6 h4 (by omega) (by omega)
  go_enter Tryd.func10, Tryd.ntmps10
  go_wp2_with (first | (go_at_call 17; refine (both_ok _ _ _ h1 h2 h3 h4).mono ?_; rintro e w' ⟨rfl, rfl⟩) | (go_at_call 14; refine (within_ok _ _ _ _ h5 h6).mono ?_; rintro e w' ⟨rfl, rfl⟩))
  all_goals
    go_ret2
    exact ⟨ret_bool_err (by first | exact bandB_lt (by omega) | exact bandB_gt (by omega) | exact bandB_same (by omega) (by omega) b1), rfl⟩

theorem band_no (p r n : Int) (w : World) (h : ((p < 1 ∨ 10000 < p) ∨ (r < 1 ∨ 10000 < r)) ∨ (n < 0 ∨ 100 < n)) :
    Calls Tryd.prog 10 #[.int .i64 p, .int .i64 r, .int .i64 n] w fun e w' => e = .returned (.tuple #[.bool false, .iface 34 (.int .i64 1)]) ∧ w' = w := by
  by_cases ha : (p < 1 ∨ 10000 < p) ∨ (r < 1 ∨ 10000 < r)
  · clear h
    go_enter Tryd.func10, Tryd.ntmps10
    go_wp2_with (go_at_call 17; refine (both_no _ _ _ ha).mono ?_; rintro e w' ⟨rfl, rfl⟩)
    go_ret2
    exact ⟨rfl, rfl⟩
  · have hb : n < 0 ∨ 100 < n := by omega
    have h1 : 1 ≤ p := by omega
    have h2 : p ≤ 10000 := by omega
    have h3 : 1 ≤ r := by omega
    have h4 : r ≤ 10000 := by omega
    clear h ha
    go_enter Tryd.func10, Tryd.ntmps10
    go_wp2_with (first | (go_at_call 17; refine (both_ok _ _ _ h1 h2 h3 h4).mono ?_; rintro e w' ⟨rfl, rfl⟩) | (go_at_call 14; refine (within_no _ _ _ _ hb).mono ?_; rintro e w' ⟨rfl, rfl⟩))
    go_ret2
    exact ⟨rfl, rfl⟩

theorem on_ok (p t : Int) (w : World) (h1 : 1 ≤ p) (h2 : p ≤ 10000) (h3 : 1 ≤ t) (h4 : t ≤ 100) :
    Calls Tryd.prog 8 #[.int .i64 p, .int .i64 t] w fun e w' => e = .returned (.tuple #[.bool (p % t == 0), .nilIface]) ∧ w' = w := by
  go_enter Tryd.func8, Tryd.ntmps8
  go_wp2_with (first | (go_at_call 15; refine (pt_ok _ _ _ h1 h2 h3 h4).mono ?_; rintro e w' ⟨rfl, rfl⟩))
  go_ret2
  exact ⟨rfl, rfl⟩

theorem on_no (p t : Int) (w : World) (h : (p < 1 ∨ 10000 < p) ∨ (t < 1 ∨ 100 < t)) :
    Calls Tryd.prog 8 #[.int .i64 p, .int .i64 t] w fun e w' => e = .returned (.tuple #[.bool false, .iface 34 (.int .i64 1)]) ∧ w' = w := by
  go_enter Tryd.func8, Tryd.ntmps8
  go_wp2_with (first | (go_at_call 15; refine (pt_no _ _ _ h).mono ?_; rintro e w' ⟨rfl, rfl⟩))
  go_ret2
  exact ⟨rfl, rfl⟩

theorem better_buy (a b : Int) (w : World) (h1 : 1 ≤ a) (h2 : a ≤ 10000) (h3 : 1 ≤ b) (h4 : b ≤ 10000) :
    Calls Tryd.prog 11 #[.int .i64 1, .int .i64 a, .int .i64 b] w fun e w' => e = .returned (.tuple #[.bool (decide (a < b)), .nilIface]) ∧ w' = w := by
  go_enter Tryd.func11, Tryd.ntmps11
  go_wp2_with (first | (go_at_call 17; refine (both_ok _ _ _ h1 h2 h3 h4).mono ?_; rintro e w' ⟨rfl, rfl⟩) | (go_at_call 16; refine (side_ok _ _ (by decide)).mono ?_; rintro e w' ⟨rfl, rfl⟩))
  go_ret2
  exact ⟨rfl, rfl⟩

theorem better_sell (a b : Int) (w : World) (h1 : 1 ≤ a) (h2 : a ≤ 10000) (h3 : 1 ≤ b) (h4 : b ≤ 10000) :
    Calls Tryd.prog 11 #[.int .i64 2, .int .i64 a, .int .i64 b] w fun e w' => e = .returned (.tuple #[.bool (decide (b < a)), .nilIface]) ∧ w' = w := by
  go_enter Tryd.func11, Tryd.ntmps11
  go_wp2_with (first | (go_at_call 17; refine (both_ok _ _ _ h1 h2 h3 h4).mono ?_; rintro e w' ⟨rfl, rfl⟩) | (go_at_call 16; refine (side_ok _ _ (by decide)).mono ?_; rintro e w' ⟨rfl, rfl⟩))
  go_ret2
  exact ⟨rfl, rfl⟩

theorem better_no (s a b : Int) (w : World) (h : (¬ s = 1 ∧ ¬ s = 2) ∨ ((a < 1 ∨ 10000 < a) ∨ (b < 1 ∨ 10000 < b))) :
    Calls Tryd.prog 11 #[.int .i64 s, .int .i64 a, .int .i64 b] w fun e w' => e = .returned (.tuple #[.bool false, .iface 34 (.int .i64 1)]) ∧ w' = w := by
  by_cases hs : s = 1 ∨ s = 2
  · have hb : (a < 1 ∨ 10000 < a) ∨ (b < 1 ∨ 10000 < b) := by omega
    clear h
    go_enter Tryd.func11, Tryd.ntmps11
    go_wp2_with (first | (go_at_call 17; refine (both_no _ _ _ hb).mono ?_; rintro e w' ⟨rfl, rfl⟩) | (go_at_call 16; refine (side_ok _ _ hs).mono ?_; rintro e w' ⟨rfl, rfl⟩))
    go_ret2
    exact ⟨rfl, rfl⟩
  · have h1 : (s != 1) = true := by simp; omega
    have h2 : (s != 2) = true := by simp; omega
    clear h hs
    go_enter Tryd.func11, Tryd.ntmps11
    go_wp2_with (first | (go_at_call 16; refine (side_no _ _ h1 h2).mono ?_; rintro e w' ⟨rfl, rfl⟩))
    go_ret2
    exact ⟨rfl, rfl⟩

theorem round_bad (p t s : Int) (w : World) (h : ((p < 1 ∨ 10000 < p) ∨ (t < 1 ∨ 100 < t)) ∨ (¬ s = 1 ∧ ¬ s = 2)) :
    Calls Tryd.prog 9 #[.int .i64 p, .int .i64 t, .int .i64 s] w fun e w' => e = .returned (.tuple #[.int .i64 0, .iface 34 (.int .i64 1)]) ∧ w' = w := by
  by_cases ha : (p < 1 ∨ 10000 < p) ∨ (t < 1 ∨ 100 < t)
  · clear h
    go_enter Tryd.func9, Tryd.ntmps9
    go_wp2_with (first | (go_at_call 15; refine (pt_no _ _ _ ha).mono ?_; rintro e w' ⟨rfl, rfl⟩))
    go_ret2
    exact ⟨rfl, rfl⟩
  · have h1 : (s != 1) = true := by simp; omega
    have h2 : (s != 2) = true := by simp; omega
    have g1 : 1 ≤ p := by omega
    have g2 : p ≤ 10000 := by omega
    have g3 : 1 ≤ t := by omega
    have g4 : t ≤ 100 := by omega
    clear h ha
    go_enter Tryd.func9, Tryd.ntmps9
    go_wp2_with (first | (go_at_call 15; refine (pt_ok _ _ _ g1 g2 g3 g4).mono ?_; rintro e w' ⟨rfl, rfl⟩) | (go_at_call 16; refine (side_no _ _ h1 h2).mono ?_; rintro e w' ⟨rfl, rfl⟩))
    go_ret2
    exact ⟨rfl, rfl⟩

theorem round_buy_ok (p t : Int) (w : World) (h1 : 1 ≤ p) (h2 : p ≤ 10000) (h3 : 1 ≤ t) (h4 : t ≤ 100) (r1 : 1 ≤ p - p % t) (r2 : p - p % t ≤ 10000) :
    Calls Tryd.prog 9 #[.int .i64 p, .int .i64 t, .int .i64 1] w fun e w' => e = .returned (.tuple #[.int .i64 (p - p % t), .nilIface]) ∧ w' = w := by
  have m0 : 0 ≤ p % t := Int.emod_nonneg _ (by omega)
  have m1 : p % t < t := Int.emod_lt_of_pos _ (by omega)
  go_enter Tryd.func9, Tryd.ntmps9
  go_wp2_with (first | (go_at_call 15; refine (pt_ok _ _ _ h1 h2 h3 h4).mono ?_; rintro e w' ⟨rfl, rfl⟩) | (go_at_call 16; refine (side_ok _ _ (by decide)).mono ?_; rintro e w' ⟨rfl, rfl⟩) | (go_at_call 7; refine (price_ok _ _ r1 r2).mono ?_; rintro e w' ⟨rfl, rfl⟩))
  go_ret2
  exact ⟨rfl, rfl⟩

theorem round_buy_no (p t : Int) (w : World) (h1 : 1 ≤ p) (h2 : p ≤ 10000) (h3 : 1 ≤ t) (h4 : t ≤ 100) (hr : p - p % t < 1 ∨ 10000 < p - p % t) :
    Calls Tryd.prog 9 #[.int .i64 p, .int .i64 t, .int .i64 1] w fun e w' => e = .returned (.tuple #[.int .i64 0, .iface 34 (.int .i64 1)]) ∧ w' = w := by
  have m0 : 0 ≤ p % t := Int.emod_nonneg _ (by omega)
  have m1 : p % t < t := Int.emod_lt_of_pos _ (by omega)
  go_enter Tryd.func9, Tryd.ntmps9
  go_wp2_with (first | (go_at_call 15; refine (pt_ok _ _ _ h1 h2 h3 h4).mono ?_; rintro e w' ⟨rfl, rfl⟩) | (go_at_call 16; refine (side_ok _ _ (by decide)).mono ?_; rintro e w' ⟨rfl, rfl⟩) | (go_at_call 7; refine (price_no _ _ hr).mono ?_; rintro e w' ⟨rfl, rfl⟩))
  go_ret2
  exact ⟨rfl, rfl⟩

theorem round_sell0_ok (p t : Int) (w : World) (h1 : 1 ≤ p) (h2 : p ≤ 10000) (h3 : 1 ≤ t) (h4 : t ≤ 100) (m2 : p % t ≤ 0) (r1 : 1 ≤ p - p % t) (r2 : p - p % t ≤ 10000) :
    Calls Tryd.prog 9 #[.int .i64 p, .int .i64 t, .int .i64 2] w fun e w' => e = .returned (.tuple #[.int .i64 (p - p % t), .nilIface]) ∧ w' = w := by
  have m0 : 0 ≤ p % t := Int.emod_nonneg _ (by omega)
  have m1 : p % t < t := Int.emod_lt_of_pos _ (by omega)
  go_enter Tryd.func9, Tryd.ntmps9
  go_wp2_with (first | (go_at_call 15; refine (pt_ok _ _ _ h1 h2 h3 h4).mono ?_; rintro e w' ⟨rfl, rfl⟩) | (go_at_call 16; refine (side_ok _ _ (by decide)).mono ?_; rintro e w' ⟨rfl, rfl⟩) | (go_at_call 7; refine (price_ok _ _ r1 r2).mono ?_; rintro e w' ⟨rfl, rfl⟩))
  go_ret2
  exact ⟨rfl, rfl⟩

theorem round_sell1_ok (p t : Int) (w : World) (h1 : 1 ≤ p) (h2 : p ≤ 10000) (h3 : 1 ≤ t) (h4 : t ≤ 100) (m2 : 0 < p % t) (r1 : 1 ≤ p - p % t + t) (r2 : p - p % t + t ≤ 10000) :
    Calls Tryd.prog 9 #[.int .i64 p, .int .i64 t, .int .i64 2] w fun e w' => e = .returned (.tuple #[.int .i64 (p - p % t + t), .nilIface]) ∧ w' = w := by
  have m0 : 0 ≤ p % t := Int.emod_nonneg _ (by omega)
  have m1 : p % t < t := Int.emod_lt_of_pos _ (by omega)
  go_enter Tryd.func9, Tryd.ntmps9
  go_wp2_with (first | (go_at_call 15; refine (pt_ok _ _ _ h1 h2 h3 h4).mono ?_; rintro e w' ⟨rfl, rfl⟩) | (go_at_call 16; refine (side_ok _ _ (by decide)).mono ?_; rintro e w' ⟨rfl, rfl⟩) | (go_at_call 7; refine (price_ok _ _ r1 r2).mono ?_; rintro e w' ⟨rfl, rfl⟩))
  go_ret2
  exact ⟨rfl, rfl⟩

theorem round_sell1_no (p t : Int) (w : World) (h1 : 1 ≤ p) (h2 : p ≤ 10000) (h3 : 1 ≤ t) (h4 : t ≤ 100) (m2 : 0 < p % t) (hr : p - p % t + t < 1 ∨ 10000 < p - p % t + t) :
    Calls Tryd.prog 9 #[.int .i64 p, .int .i64 t, .int .i64 2] w fun e w' => e = .returned (.tuple #[.int .i64 0, .iface 34 (.int .i64 1)]) ∧ w' = w := by
  have m0 : 0 ≤ p % t := Int.emod_nonneg _ (by omega)
  have m1 : p % t < t := Int.emod_lt_of_pos _ (by omega)
  go_enter Tryd.func9, Tryd.ntmps9
  go_wp2_with (first | (go_at_call 15; refine (pt_ok _ _ _ h1 h2 h3 h4).mono ?_; rintro e w' ⟨rfl, rfl⟩) | (go_at_call 16; refine (side_ok _ _ (by decide)).mono ?_; rintro e w' ⟨rfl, rfl⟩) | (go_at_call 7; refine (price_no _ _ hr).mono ?_; rintro e w' ⟨rfl, rfl⟩))
  go_ret2
  exact ⟨rfl, rfl⟩

/-- The error that is told: nil where all is right, else ErrRange. -/
def errV : Bool → Value
  | true => .nilIface
  | false => .iface 34 (.int .i64 1)
def priceB (p : Int) : Bool := decide (1 ≤ p) && decide (p ≤ 10000)
def tickB (t : Int) : Bool := decide (1 ≤ t) && decide (t ≤ 100)
def sideB (s : Int) : Bool := decide (s = 1) || decide (s = 2)
def bandOk (p r n : Int) : Bool := priceB p && priceB r && (decide (0 ≤ n) && decide (n ≤ 100))
def bandR (p r n : Int) : Bool := bandOk p r n && bandB p r n
def onOk (p t : Int) : Bool := priceB p && tickB t
def onR (p t : Int) : Bool := onOk p t && (p % t == 0)
def betOk (s a b : Int) : Bool := sideB s && (priceB a && priceB b)
def betR (s a b : Int) : Bool := betOk s a b && (if s = 1 then decide (a < b) else decide (b < a))
/-- What Round comes to, ahead of its last test. -/
def roundI (p t s : Int) : Int := if s = 2 ∧ 0 < p % t then p - p % t + t else p - p % t
def rndOk (p t s : Int) : Bool := (onOk p t && sideB s) && priceB (roundI p t s)
def rndR (p t s : Int) : Int := if rndOk p t s = true then roundI p t s else 0

theorem band_any (p r n : Int) (w : World) :
    Calls Tryd.prog 10 #[.int .i64 p, .int .i64 r, .int .i64 n] w fun e w' => e = .returned (.tuple #[.bool (bandR p r n), errV (bandOk p r n)]) ∧ w' = w := by
  unfold bandR
  cases h : bandOk p r n
  · refine (band_no p r n w ?_).mono ?_
    · simp [bandOk, priceB] at h; omega
    · rintro e w' ⟨rfl, rfl⟩; exact ⟨rfl, rfl⟩
  · simp [bandOk, priceB] at h
    refine (band_ok p r n w (by omega) (by omega) (by omega) (by omega) (by omega) (by omega)).mono ?_
    rintro e w' ⟨rfl, rfl⟩; exact ⟨rfl, rfl⟩

theorem on_any (p t : Int) (w : World) :
    Calls Tryd.prog 8 #[.int .i64 p, .int .i64 t] w fun e w' => e = .returned (.tuple #[.bool (onR p t), errV (onOk p t)]) ∧ w' = w := by
  unfold onR
  cases h : onOk p t
  · refine (on_no p t w ?_).mono ?_
    · simp [onOk, priceB, tickB] at h; omega
    · rintro e w' ⟨rfl, rfl⟩; exact ⟨rfl, rfl⟩
  · simp [onOk, priceB, tickB] at h
    refine (on_ok p t w (by omega) (by omega) (by omega) (by omega)).mono ?_
    rintro e w' ⟨rfl, rfl⟩; exact ⟨rfl, rfl⟩

theorem better_any (s a b : Int) (w : World) :
    Calls Tryd.prog 11 #[.int .i64 s, .int .i64 a, .int .i64 b] w fun e w' => e = .returned (.tuple #[.bool (betR s a b), errV (betOk s a b)]) ∧ w' = w := by
  unfold betR
  cases h : betOk s a b
  · refine (better_no s a b w ?_).mono ?_
    · simp [betOk, priceB, sideB] at h; omega
    · rintro e w' ⟨rfl, rfl⟩; exact ⟨rfl, rfl⟩
  · simp [betOk, priceB, sideB] at h
    obtain ⟨hs, ha, hb⟩ := h
    rcases hs with rfl | rfl
    · refine (better_buy a b w (by omega) (by omega) (by omega) (by omega)).mono ?_
      rintro e w' ⟨rfl, rfl⟩; exact ⟨by simp [errV], rfl⟩
    · refine (better_sell a b w (by omega) (by omega) (by omega) (by omega)).mono ?_
      rintro e w' ⟨rfl, rfl⟩; exact ⟨by simp [errV], rfl⟩

theorem round_any (p t s : Int) (w : World) :
    Calls Tryd.prog 9 #[.int .i64 p, .int .i64 t, .int .i64 s] w fun e w' => e = .returned (.tuple #[.int .i64 (rndR p t s), errV (rndOk p t s)]) ∧ w' = w := by
  by_cases hb : (onOk p t && sideB s) = true
  · have hb' := hb
    simp [onOk, priceB, tickB, sideB] at hb'
    obtain ⟨⟨hp, ht⟩, hs⟩ := hb'
    have m0 : 0 ≤ p % t := Int.emod_nonneg _ (by omega)
    cases h : priceB (roundI p t s)
    · have e1 : rndOk p t s = false := by unfold rndOk; rw [hb, h]; rfl
      have e2 : rndR p t s = 0 := by unfold rndR; rw [e1]; rfl
      rw [e1, e2]
      unfold priceB roundI at h
      by_cases hm : s = 2 ∧ 0 < p % t
      · rw [if_pos hm] at h
        obtain ⟨rfl, m2⟩ := hm
        simp at h
        exact round_sell1_no p t w (by omega) (by omega) (by omega) (by omega) m2 (by omega)
      · rw [if_neg hm] at h
        simp at h
        rcases hs with rfl | rfl
        · exact round_buy_no p t w (by omega) (by omega) (by omega) (by omega) (by omega)
        · exfalso; omega
    · have e1 : rndOk p t s = true := by unfold rndOk; rw [hb, h]; rfl
      have e2 : rndR p t s = roundI p t s := by unfold rndR; rw [if_pos e1]
      rw [e1, e2]
      unfold priceB at h
      unfold roundI at h ⊢
      by_cases hm : s = 2 ∧ 0 < p % t
      · rw [if_pos hm] at h ⊢
        obtain ⟨rfl, m2⟩ := hm
        simp at h
        exact round_sell1_ok p t w (by omega) (by omega) (by omega) (by omega) m2 (by omega) (by omega)
      · rw [if_neg hm] at h ⊢
        simp at h
        rcases hs with rfl | rfl
        · exact round_buy_ok p t w (by omega) (by omega) (by omega) (by omega) (by omega) (by omega)
        · exact round_sell0_ok p t w (by omega) (by omega) (by omega) (by omega) (by omega) (by omega) (by omega)
  · have e1 : rndOk p t s = false := by unfold rndOk; simp only [Bool.not_eq_true] at hb; rw [hb]; rfl
    have e2 : rndR p t s = 0 := by unfold rndR; rw [e1]; rfl
    rw [e1, e2]
    refine round_bad p t s w ?_
    simp [onOk, priceB, tickB, sideB] at hb
    omega
end Go.Proofs.YtompkohnlcooiaaDoor.tick
