/-
  Contracts over this seat's translation: package tick, its errors told as numbers (0: nil, 1: ErrRange), and the document's own Price, Side and Ahead.
-/
import Derived.Test.YtefonkanmdmieaaDoorTold
import Derived.Test.YtefonkanmdmieaaDoorTickS2
namespace Go.Proofs.YtefonkanmdmieaaDoor.tickS
open Go.RowKit

/-- The number of the error: 0 where all is right. -/
def eN : Bool → Int
  | true => 0
  | false => 1
theorem errV_eN (b : Bool) : errB b = told.errV (eN b) := by cases b <;> rfl

theorem price_num (B : World) (p : Int) (w : World) (h : told.Inv B w) :
    Calls Tryd.prog 8 #[.int .i64 p] w fun e w' => e = .returned (told.errV (eN (priceB p))) ∧ told.Inv B w' := by
  rw [← errV_eN]; exact (tprice_V B p w h.2).mono fun _ _ h' => ⟨h'.1, h.1, h'.2⟩
theorem band_num (B : World) (p r n : Int) (w : World) (h : told.Inv B w) :
    Calls Tryd.prog 11 #[.int .i64 p, .int .i64 r, .int .i64 n] w fun e w' => e = .returned (.tuple #[.bool (bandR p r n), told.errV (eN (bandOk p r n))]) ∧ told.Inv B w' := by
  rw [← errV_eN]; exact (band_V B p r n w h.2).mono fun _ _ h' => ⟨h'.1, h.1, h'.2⟩
theorem on_num (B : World) (p t : Int) (w : World) (h : told.Inv B w) :
    Calls Tryd.prog 9 #[.int .i64 p, .int .i64 t] w fun e w' => e = .returned (.tuple #[.bool (onR p t), told.errV (eN (onOk p t))]) ∧ told.Inv B w' := by
  rw [← errV_eN]; exact (on_V B p t w h.2).mono fun _ _ h' => ⟨h'.1, h.1, h'.2⟩
theorem better_num (B : World) (s a b : Int) (w : World) (h : told.Inv B w) :
    Calls Tryd.prog 12 #[.int .i64 s, .int .i64 a, .int .i64 b] w fun e w' => e = .returned (.tuple #[.bool (betR s a b), told.errV (eN (betOk s a b))]) ∧ told.Inv B w' := by
  rw [← errV_eN]; exact (better_V B s a b w h.2).mono fun _ _ h' => ⟨h'.1, h.1, h'.2⟩
theorem round_num (B : World) (p t s : Int) (w : World) (h : told.Inv B w) :
    Calls Tryd.prog 10 #[.int .i64 p, .int .i64 t, .int .i64 s] w fun e w' => e = .returned (.tuple #[.int .i64 (rndR p t s), told.errV (eN (rndOk p t s))]) ∧ told.Inv B w' := by
  rw [← errV_eN]; exact (round_V B p t s w h.2).mono fun _ _ h' => ⟨h'.1, h.1, h'.2⟩
theorem bandB_lt {p r n : Int} (h : p ≤ r) : decide (100 * (r - p) ≤ n * r) = bandB p r n := by
  unfold bandB; rw [Int.max_eq_right h, Int.min_eq_left h]
theorem bandB_gt {p r n : Int} (h : r ≤ p) : decide (100 * (p - r) ≤ n * r) = bandB p r n := by
  unfold bandB; rw [Int.max_eq_left h, Int.min_eq_right h]
theorem ret_bool {a b : Bool} (h : a = b) : Ending.returned (.bool a) = .returned (.bool b) := by rw [h]

theorem ref_price (p : Int) (w : World) :
    Calls Tryd.prog 5 #[.int .i64 p] w fun e w' => e = .returned (.bool (priceB p)) ∧ w' = w := by
  by_cases h : 1 ≤ p
  · go_enter Tryd.func5, Tryd.ntmps5
    go_wp2
    go_ret
    exact ⟨ret_bool (by simp [priceB, h]), rfl⟩
  · go_enter Tryd.func5, Tryd.ntmps5
    go_wp2
    go_ret
    exact ⟨ret_bool (by simp [priceB]; omega), rfl⟩
theorem ref_side (s : Int) (w : World) :
    Calls Tryd.prog 6 #[.int .i64 s] w fun e w' => e = .returned (.bool (sideB s)) ∧ w' = w := by
  by_cases h : s = 1
  · subst h
    go_enter Tryd.func6, Tryd.ntmps6
    go_wp2
    go_ret
    exact ⟨ret_bool (by simp [sideB]), rfl⟩
  · have h' : (s == 1) = false := by simp; omega
    go_enter Tryd.func6, Tryd.ntmps6
    go_wp2
    go_ret
    exact ⟨ret_bool (by by_cases h2 : s = 2 <;> simp [sideB, h, h2]), rfl⟩
/-- Is a price better than another one for who comes from a side? -/
def aheadB (s a b : Int) : Bool := if s = 1 then decide (a < b) else if s = 2 then decide (b < a) else false
theorem ref_ahead (s a b : Int) (w : World) :
    Calls Tryd.prog 13 #[.int .i64 s, .int .i64 a, .int .i64 b] w fun e w' => e = .returned (.bool (aheadB s a b)) ∧ w' = w := by
  by_cases h : s = 1
  · subst h
    by_cases hab : a < b
    all_goals
      go_enter Tryd.func13, Tryd.ntmps13
      go_wp2
      go_ret
      exact ⟨ret_bool (by simp [aheadB, hab]), rfl⟩
  · have h1 : (s == 1) = false := by simp; omega
    by_cases h2 : s = 2
    · subst h2
      go_enter Tryd.func13, Tryd.ntmps13
      go_wp2
      go_ret
      exact ⟨ret_bool (by simp [aheadB]), rfl⟩
    · have h3 : (s == 2) = false := by simp; omega
      go_enter Tryd.func13, Tryd.ntmps13
      go_wp2
      go_ret
      exact ⟨ret_bool (by simp [aheadB, h, h2]), rfl⟩
end Go.Proofs.YtefonkanmdmieaaDoor.tickS
