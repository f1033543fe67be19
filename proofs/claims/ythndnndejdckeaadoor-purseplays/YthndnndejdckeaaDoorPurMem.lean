/- Purses as they lie in memory. -/
import Derived.Test.YthndnndejdckeaaDoorSpanChk
namespace Go.Proofs.YthndnndejdckeaaDoor.pur
open Go.RowKit Go.Proofs.YthndnndejdckeaaDoor.spn

structure Pz where
  who : Int
  cash : Int
  held : Int
  stock : Int
  hs : Int
def zeroP : Pz := ⟨0, 0, 0, 0, 0⟩
instance : Inhabited Pz := ⟨zeroP⟩
/-- The five cells of a purse. -/
def pL (x : Pz) : List Value := [.int .i64 x.who, .int .i64 x.cash, .int .i64 x.held, .int .i64 x.stock, .int .i64 x.hs]
def flatP (ps : List Pz) : List Value := ps.flatMap pL
theorem hidU {p : Prop} (h : p) : Hid p := h
theorem getP {α : Type} [Inhabited α] (l : List α) (j : Nat) (h : j < l.length) : l[j]! = l[j] := by simp [h]
theorem flatP_cons (r : Pz) (t : List Pz) : flatP (r :: t) = pL r ++ flatP t := rfl
theorem flatP_append (a b : List Pz) : flatP (a ++ b) = flatP a ++ flatP b := by unfold flatP; rw [List.flatMap_append]
theorem flatP_len (zs : List Pz) : (flatP zs).length = zs.length * 5 := by
  induction zs with
  | nil => rfl
  | cons r t ih => rw [flatP_cons, List.length_append, ih, List.length_cons]; show 5 + t.length * 5 = _; omega
theorem flatP_get (zs : List Pz) : ∀ j, j < zs.length → ∀ i, i < 5 → (flatP zs)[j * 5 + i]? = (pL zs[j]!)[i]? := by
  induction zs with
  | nil => intro j hj; simp at hj
  | cons r t ih =>
    intro j hj i hi
    rw [flatP_cons]
    cases j with
    | zero => rw [Nat.zero_mul, Nat.zero_add, List.getElem?_append_left (by show i < 5; exact hi)]; rfl
    | succ j =>
      rw [List.getElem?_append_right (by show 5 ≤ _; omega)]
      have : (j + 1) * 5 + i - (pL r).length = j * 5 + i := by show (j + 1) * 5 + i - 5 = _; omega
      rw [this, ih j (by simpa using hj) i hi]
      rfl
theorem flatP_one (zs : List Pz) : ∀ u ∈ flatP zs, u.oneCell' = true := by
  intro u hu
  obtain ⟨r, _, hr⟩ := List.mem_flatMap.1 hu
  simp only [pL, List.mem_cons, List.not_mem_nil, or_false] at hr
  rcases hr with rfl | rfl | rfl | rfl | rfl <;> rfl
/-- One cell of one purse has another number. -/
theorem flatP_put (ps : List Pz) (k f : Nat) (v : Value) (z : Pz) (hk : k < ps.length) (hf : f < 5) (h : (pL ps[k]!).set f v = pL z) : (flatP ps).set (k * 5 + f) v = flatP (ps.set k z) := by
  rw [getP ps k hk] at h
  have e1 : ps = ps.take k ++ ps[k] :: ps.drop (k + 1) := by
    conv => lhs; rw [← List.take_append_drop k ps, List.drop_eq_getElem_cons hk]
  have hl : (flatP (ps.take k)).length = k * 5 := by rw [flatP_len, List.length_take, Nat.min_eq_left (by omega)]
  have e2 : ps.set k z = ps.take k ++ z :: ps.drop (k + 1) := by
    rw [List.set_eq_take_append_cons_drop, if_pos hk]
  have e3 : flatP ps = flatP (ps.take k) ++ (pL ps[k] ++ flatP (ps.drop (k + 1))) := by rw [← flatP_cons, ← flatP_append, ← e1]
  rw [e2, e3, flatP_append, flatP_cons, List.set_append_right _ _ (by omega), hl, show k * 5 + f - k * 5 = f by omega, List.set_append_left _ _ (by show f < 5; exact hf), h]

/-- So many purses lie in a block. -/
def Pu (t : TypeId) (n : Nat) (w : World) (P : Nat) (ps : List Pz) : Prop := ps.length = n ∧ w.heap[P]? = some (.cells (flatP ps).toArray t (0, 0))
section
variable {t : TypeId} {n : Nat} {w w' : World} {P : Nat} {ps : List Pz}
theorem Pu.lt (h : Pu t n w P ps) : P < w.heap.size := (Array.getElem?_eq_some_iff.1 h.2).1
theorem Pu.cell (h : Pu t n w P ps) (k : Nat) (hk : k < n) : ∀ f v, (pL ps[k]!)[f]? = some v → w.cell? ⟨P, k * 5 + f, none⟩ = some v := by
  intro f v hv
  have hf : f < 5 := (List.getElem?_eq_some_iff.1 hv).1
  rw [cell_of_row w P (k * 5 + f) _ _ (0, 0) h.2]
  rw [List.getElem?_toArray, flatP_get ps k (by rw [h.1]; exact hk) f hf]
  exact hv
theorem Pu.froz (h : Pu t n w P ps) (j : Nat) : w.frozen? ⟨P, j, none⟩ = false := frozen_of_row w _ j _ _ h.2
theorem Pu.put (h : Pu t n w P ps) (k f : Nat) (v : Value) (z : Pz) (hk : k < n) (hf : f < 5) (hz : (pL ps[k]!).set f v = pL z) : Pu t n (w.setCell ⟨P, k * 5 + f, none⟩ v) P (ps.set k z) := by
  refine ⟨by rw [List.length_set]; exact h.1, ?_⟩
  rw [heap_setCell_same w P (k * 5 + f) _ _ v h.2, ← flatP_put ps k f v z (by rw [h.1]; exact hk) hf hz]
  simp
theorem Pu.same (h : Pu t n w P ps) (e : w'.heap[P]? = w.heap[P]?) : Pu t n w' P ps := ⟨h.1, e.trans h.2⟩
theorem Pu.below (h : Pu t n w P ps) (hb : Below w.heap.size w w') : Pu t n w' P ps := h.same (hb.block P h.lt)
theorem Pu.keep {row : Option Nat} (h : Pu t n w P ps) (hg : w.grownBy w' row) (hr : some P ≠ row) : Pu t n w' P ps := h.same (hg.block P h.lt hr)
theorem Pu.range (h : Pu t n w P ps) : w.rangeAt P 0 (flatP ps) := by
  intro j v hv
  rw [Nat.zero_add, cell_of_row w P j _ _ (0, 0) h.2, List.getElem?_toArray]
  exact hv
end
theorem grB {w w' : World} (h : Below w.heap.size w w') (row : Option Nat) : w.grownBy w' row := ⟨h.os, h.tape, h.output, h.size, fun k hk _ => h.block k hk⟩
theorem grT {a b c : World} {row : Option Nat} (h : a.grownBy b row) (k : b.grownBy c row) : a.grownBy c row :=
  ⟨k.os.trans h.os, k.tape.trans h.tape, k.output.trans h.output, Nat.le_trans h.size k.size, fun i hi hn => (k.block i (Nat.lt_of_lt_of_le hi h.size) hn).trans (h.block i hi hn)⟩
theorem grC (w : World) (g o : Nat) (u : Value) : w.grownBy (w.setCell ⟨g, o, none⟩ u) (some g) :=
  ⟨rfl, rfl, rfl, by simp, fun k _ hk => heap_setCell_other w ⟨g, o, none⟩ k u (fun e => hk (by rw [e]))⟩
theorem grR (w : World) (row : Option Nat) : w.grownBy w row := ⟨rfl, rfl, rfl, Nat.le_refl _, fun _ _ _ => rfl⟩
theorem grD (w : World) (row : Option Nat) : w.grownBy w.drew row := ⟨rfl, rfl, rfl, Nat.le_refl _, fun _ _ _ => rfl⟩
theorem grDN (w : World) (q : Nat) (row : Option Nat) : w.grownBy (w.drewN q) row := ⟨rfl, rfl, rfl, Nat.le_refl _, fun _ _ _ => rfl⟩
theorem grA (w : World) (o : Obj) (row : Option Nat) : w.grownBy (w.alloc o) row := grB ((Below.refl _ _).alloc (Nat.le_refl _) _) row
theorem belG {B P : Nat} {a w w' : World} (h : Below B a w) (hg : w.grownBy w' (some P)) (hB : B ≤ w.heap.size) (hP : B ≤ P) : Below B a w' := h.grown hg hB (fun k hk => by cases hk; exact hP)
theorem wrapP (x : Int) (h1 : -9000000000000000000 ≤ x) (h2 : x ≤ 9000000000000000000) : wrap64 x = x := by unfold wrap64; omega
end Go.Proofs.YthndnndejdckeaaDoor.pur
