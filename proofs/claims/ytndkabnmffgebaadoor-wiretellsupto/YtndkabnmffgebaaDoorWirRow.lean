/- Memory of a command: eleven numbers in a block. -/
import Derived.Test.YtndkabnmffgebaaDoorWirFld
import Derived.Test.YtndkabnmffgebaaDoorOwnGen
namespace Go.Proofs.YtndkabnmffgebaaDoor.wir
open Go.RowKit

/-- Numbers as cells. -/
def iL (xs : List Int) : List Value := xs.map fun x => Value.int .i64 x
theorem iL_length (xs : List Int) : (iL xs).length = xs.length := by simp [iL]
theorem iL_at {xs : List Int} {k : Nat} (h : k < xs.length) : (iL xs)[k]? = some (.int .i64 (xs[k]!)) := by simp [iL, h]
theorem iL_set (xs : List Int) (k : Nat) (x : Int) : (iL xs).toArray.setIfInBounds k (.int .i64 x) = (iL (xs.set k x)).toArray := by
  simp [iL, List.map_set]
/-- A block that holds these numbers. -/
def Cmd (w : World) (b : Nat) (xs : List Int) : Prop := w.heap[b]? = some (.cells (iL xs).toArray 25 (0, 0))
theorem Cmd.lt {w : World} {b : Nat} {xs : List Int} (h : Cmd w b xs) : b < w.heap.size := (Array.getElem?_eq_some_iff.1 h).1
theorem Cmd.below {w w' : World} {b : Nat} {xs : List Int} (h : Cmd w b xs) (hB : Below w.heap.size w w') : Cmd w' b xs := (hB.block b h.lt).trans h
theorem Cmd.stays {w w' : World} {b : Nat} {xs : List Int} (h : Cmd w b xs) (hk : Lib.OthersKept 5 none w w') : Cmd w' b xs := hk b _ h (by simp) (by intro c fz hc; cases hc)
theorem Cmd.cell {w : World} {b : Nat} {xs : List Int} (h : Cmd w b xs) {k : Nat} (hk : k < xs.length) : w.cell? ⟨b, k, none⟩ = some (.int .i64 (xs[k]!)) := by
  unfold Cmd at h
  simp only [World.cell?, h]
  show (iL xs).toArray[k]? = _
  rw [List.getElem?_toArray]
  exact iL_at hk
theorem Cmd.frozen {w : World} {b : Nat} {xs : List Int} (h : Cmd w b xs) (k : Nat) : w.frozen? ⟨b, k, none⟩ = false := by
  unfold Cmd at h
  simp [World.frozen?, h]
theorem Cmd.set {w : World} {b : Nat} {xs : List Int} (h : Cmd w b xs) (k : Nat) (x : Int) : Cmd (w.setCell ⟨b, k, none⟩ (.int .i64 x)) b (xs.set k x) := by
  have := heap_setCell_same w b k _ _ (.int .i64 x) h
  rw [iL_set] at this
  exact this
theorem Cmd.range {w : World} {b : Nat} {xs : List Int} (h : Cmd w b xs) : w.rangeAt b 0 (iL xs) := by
  intro j v hv
  unfold Cmd at h
  rw [Nat.zero_add]
  simp only [World.cell?, h]
  show (iL xs).toArray[j]? = _
  rw [List.getElem?_toArray]
  exact hv
theorem Cmd.there {w : World} {b : Nat} {xs : List Int} (h : Cmd w b xs) : w.there b 0 xs.length := by
  intro j hj
  rw [Nat.zero_add, h.cell hj, h.frozen j]
  exact ⟨rfl, rfl⟩
theorem setCells_all (b : Nat) (t : TypeId) : ∀ (vs : List Value) (o : Nat) (w : World) (cs : Array Value), w.heap[b]? = some (.cells cs t (0, 0)) → cs.size = o + vs.length →
    (w.setCells b o vs).heap[b]? = some (.cells (cs.toList.take o ++ vs).toArray t (0, 0))
  | [], o, w, cs, h, hl => by
    have e : cs.toList.take o ++ [] = cs.toList := by rw [List.append_nil]; exact List.take_of_length_le (by rw [Array.length_toList, hl]; simp)
    rw [e]
    exact h
  | v :: r, o, w, cs, h, hl => by
    have h1 := heap_setCell_same w b o cs t v h
    have h2 := setCells_all b t r (o + 1) _ _ h1 (by rw [Array.size_setIfInBounds, hl, List.length_cons]; omega)
    have e : (cs.setIfInBounds o v).toList.take (o + 1) ++ r = cs.toList.take o ++ v :: r := by
      have hlt : o < cs.toList.length := by rw [Array.length_toList, hl, List.length_cons]; omega
      rw [Array.toList_setIfInBounds, List.take_succ_eq_append_getElem (by simpa using hlt), List.getElem_set_self, List.take_set_of_le (Nat.le_refl _), List.append_assoc]
      rfl
    rw [e] at h2
    exact h2
theorem Cmd.stored {w : World} {b : Nat} {xs : List Int} (ys : List Int) (h : Cmd w b xs) (hl : xs.length = ys.length) : Cmd (w.setCells b 0 (iL ys)) b ys := by
  have := setCells_all b 25 (iL ys) 0 w _ h (by rw [List.size_toArray, iL_length, iL_length, hl, Nat.zero_add])
  show (w.setCells b 0 (iL ys)).heap[b]? = _
  simpa using this
theorem Cmd.row {w : World} {b : Nat} {c0 c1 c2 c3 c4 c5 c6 c7 c8 c9 c10 : Int} (h : Cmd w b [c0, c1, c2, c3, c4, c5, c6, c7, c8, c9, c10]) :
    w.cell? ⟨b, 0, none⟩ = some (.int .i64 c0) ∧ w.cell? ⟨b, 1, none⟩ = some (.int .i64 c1) ∧ w.cell? ⟨b, 2, none⟩ = some (.int .i64 c2) ∧ w.cell? ⟨b, 3, none⟩ = some (.int .i64 c3) ∧ w.cell? ⟨b, 4, none⟩ = some (.int .i64 c4) ∧ w.cell? ⟨b, 5, none⟩ = some (.int .i64 c5) ∧ w.cell? ⟨b, 6, none⟩ = some (.int .i64 c6) ∧ w.cell? ⟨b, 7, none⟩ = some (.int .i64 c7) ∧ w.cell? ⟨b, 8, none⟩ = some (.int .i64 c8) ∧ w.cell? ⟨b, 9, none⟩ = some (.int .i64 c9) ∧ w.cell? ⟨b, 10, none⟩ = some (.int .i64 c10) :=
  ⟨h.cell (k := 0) (by simp), h.cell (k := 1) (by simp), h.cell (k := 2) (by simp), h.cell (k := 3) (by simp), h.cell (k := 4) (by simp), h.cell (k := 5) (by simp), h.cell (k := 6) (by simp), h.cell (k := 7) (by simp), h.cell (k := 8) (by simp), h.cell (k := 9) (by simp), h.cell (k := 10) (by simp)⟩
theorem list11' {l : List Int} (h : l.length = 11) : ∃ c0 c1 c2 c3 c4 c5 c6 c7 c8 c9 c10, l = [c0, c1, c2, c3, c4, c5, c6, c7, c8, c9, c10] := by
  match l, h with
  | [c0, c1, c2, c3, c4, c5, c6, c7, c8, c9, c10], _ => exact ⟨c0, c1, c2, c3, c4, c5, c6, c7, c8, c9, c10, rfl⟩
/-- A command as the program holds it. -/
def cV (xs : List Int) : Value := .agg (iL xs).toArray
/-- Where the fields of a command stand, and how many there are. -/
theorem offs_small (k : Int) : ∀ f ∈ offs k, f.1 < 11 ∧ f.2 ≤ 4 := by
  rintro ⟨a, b⟩ hf
  unfold offs at hf
  repeat' split at hf
  all_goals
    simp at hf ⊢
    omega
theorem offs_length (k : Int) : (offs k).length ≤ 9 := by
  unfold offs
  repeat' split
  all_goals decide
end Go.Proofs.YtndkabnmffgebaaDoor.wir
