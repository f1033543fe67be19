/- An event, and its cells. -/
import Derived.Test.YtgpbpaimfhlnhaaDoorMeeT
namespace Go.Proofs.YtgpbpaimfhlnhaaDoor.flr
open Go.RowKit
open Go.Proofs.YtgpbpaimfhlnhaaDoor.mee (T tV)

/-- An event. -/
structure Ev where
  what : Int
  id : Int
  qty : Int
  price : Int
  tr : T
deriving Inhabited
def zeroT : T := ⟨0, 0, 0, 0, 0, 0⟩
def evL (e : Ev) : List Value := [.int .i64 e.what, .int .i64 e.id, .int .i64 e.qty, .int .i64 e.price] ++ tV e.tr
def flatE (l : List Ev) : List Value := l.flatMap evL
theorem flatE_append (a b : List Ev) : flatE (a ++ b) = flatE a ++ flatE b := by unfold flatE; rw [List.flatMap_append]
theorem flatE_one (e : Ev) : flatE [e] = evL e := by simp [flatE]
theorem flatE_cons (e : Ev) (t : List Ev) : flatE (e :: t) = evL e ++ flatE t := by simp [flatE]
theorem evL_len (e : Ev) : (evL e).length = 10 := rfl
theorem flatE_len (l : List Ev) : (flatE l).length = l.length * 10 := by
  induction l with
  | nil => rfl
  | cons r t ih => rw [flatE_cons, List.length_append, ih, List.length_cons, evL_len]; omega
theorem flatE_get (l : List Ev) : ∀ j, j < l.length → ∀ i, i < 10 → (flatE l)[j * 10 + i]? = (evL l[j]!)[i]? := by
  induction l with
  | nil => intro j hj; simp at hj
  | cons r t ih =>
    intro j hj i hi
    rw [flatE_cons]
    cases j with
    | zero => rw [Nat.zero_mul, Nat.zero_add, List.getElem?_append_left (by rw [evL_len]; exact hi)]; rfl
    | succ j =>
      rw [List.getElem?_append_right (by rw [evL_len]; omega)]
      have : (j + 1) * 10 + i - (evL r).length = j * 10 + i := by rw [evL_len]; omega
      rw [this, ih j (by simpa using hj) i hi]
      rfl
end Go.Proofs.YtgpbpaimfhlnhaaDoor.flr
