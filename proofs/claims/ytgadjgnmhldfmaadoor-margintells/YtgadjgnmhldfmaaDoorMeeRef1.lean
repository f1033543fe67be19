/- Contracts over this seat's translation: the document's Price, Side, Order and May, each at every input. -/
import Derived.Test.YtgadjgnmhldfmaaDoorMeeOrd
namespace Go.Proofs.YtgadjgnmhldfmaaDoor.ord
open Go.RowKit

theorem ret_bool {a b : Bool} (h : a = b) : Ending.returned (.bool a) = .returned (.bool b) := by rw [h]
def sdB (s : Int) : Bool := decide (s = 1) || decide (s = 2)

theorem ref_price (p : Int) (w : World) :
    Calls Tryd.prog 12 #[.int .i64 p] w fun e w' => e = .returned (.bool (prB p)) ∧ w' = w := by
  by_cases h : 1 ≤ p
  · go_enter Tryd.func12, Tryd.ntmps12
    go_wp2
    go_ret
    exact ⟨ret_bool (by simp [prB, h]), rfl⟩
  · go_enter Tryd.func12, Tryd.ntmps12
    go_wp2
    go_ret
    exact ⟨ret_bool (by simp [prB]; omega), rfl⟩
theorem ref_side (s : Int) (w : World) :
    Calls Tryd.prog 11 #[.int .i64 s] w fun e w' => e = .returned (.bool (sdB s)) ∧ w' = w := by
  by_cases h : s = 1
  · subst h
    go_enter Tryd.func11, Tryd.ntmps11
    go_wp2
    go_ret
    exact ⟨ret_bool (by simp [sdB]), rfl⟩
  · have h' : (s == 1) = false := by simp; omega
    go_enter Tryd.func11, Tryd.ntmps11
    go_wp2
    go_ret
    exact ⟨ret_bool (by by_cases h2 : s = 2 <;> simp [sdB, h, h2]), rfl⟩

theorem ref_may (a b c d p q s t x : Int) (w : World) (hc : c = 1 ∨ c = 2) :
    Calls Tryd.prog 19 #[.agg #[.int .i64 a, .int .i64 b, .int .i64 c, .int .i64 d, .int .i64 p, .int .i64 q, .int .i64 s, .int .i64 t], .int .i64 x] w fun e w' => e = .returned (.bool (mB ⟨a, b, c, d, p, q, s, t⟩ x)) ∧ Below w.heap.size w w' := by
  have em : mB ⟨a, b, c, d, p, q, s, t⟩ x = (decide (d = 2) || (if c = 1 then decide (x ≤ p) else decide (p ≤ x))) := rfl
  rw [em]
  clear em
  by_cases hd : d = 2
  · subst hd
    rcases hc with rfl | rfl
    all_goals
      go_enter Tryd.func19, Tryd.ntmps19
      go_wp2
      go_ret
      exact ⟨ret_bool (by simp), (Below.refl _ _).alloc (Nat.le_refl _) _⟩
  · have hd' : (d == 2) = false := by simp; omega
    rcases hc with rfl | rfl
    · by_cases hx : x ≤ p
      all_goals
        go_enter Tryd.func19, Tryd.ntmps19
        go_wp2
        go_ret
        exact ⟨ret_bool (by simp [hx]), (Below.refl _ _).alloc (Nat.le_refl _) _⟩
    · by_cases hx : p ≤ x
      all_goals
        go_enter Tryd.func19, Tryd.ntmps19
        go_wp2
        go_ret
        exact ⟨ret_bool (by simp [hx]), (Below.refl _ _).alloc (Nat.le_refl _) _⟩

end Go.Proofs.YtgadjgnmhldfmaaDoor.ord
