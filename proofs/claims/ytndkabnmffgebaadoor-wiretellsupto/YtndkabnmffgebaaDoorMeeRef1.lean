/- Contracts over this seat's translation: the document's Price, Side, Order and May, each at every input. -/
import Derived.Test.YtndkabnmffgebaaDoorMeeOrd
namespace Go.Proofs.YtndkabnmffgebaaDoor.ord
open Go.RowKit

theorem ret_bool {a b : Bool} (h : a = b) : Ending.returned (.bool a) = .returned (.bool b) := by rw [h]
def sdB (s : Int) : Bool := decide (s = 1) || decide (s = 2)

theorem ref_price (p : Int) (w : World) :
    Calls Tryd.prog 16 #[.int .i64 p] w fun e w' => e = .returned (.bool (prB p)) ∧ w' = w := by
  by_cases h : 1 ≤ p
  · go_enter Tryd.func16, Tryd.ntmps16
    go_wp2
    go_ret
    exact ⟨ret_bool (by simp [prB, h]), rfl⟩
  · go_enter Tryd.func16, Tryd.ntmps16
    go_wp2
    go_ret
    exact ⟨ret_bool (by simp [prB]; omega), rfl⟩
theorem ref_side (s : Int) (w : World) :
    Calls Tryd.prog 30 #[.int .i64 s] w fun e w' => e = .returned (.bool (sdB s)) ∧ w' = w := by
  by_cases h : s = 1
  · subst h
    go_enter Tryd.func30, Tryd.ntmps30
    go_wp2
    go_ret
    exact ⟨ret_bool (by simp [sdB]), rfl⟩
  · have h' : (s == 1) = false := by simp; omega
    go_enter Tryd.func30, Tryd.ntmps30
    go_wp2
    go_ret
    exact ⟨ret_bool (by by_cases h2 : s = 2 <;> simp [sdB, h, h2]), rfl⟩
end Go.Proofs.YtndkabnmffgebaaDoor.ord
