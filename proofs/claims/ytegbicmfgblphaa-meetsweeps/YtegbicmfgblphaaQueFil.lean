/- Plain facts: fills as they lie there. No walk. -/
import Derived.Test.YtegbicmfgblphaaQueTake2
namespace Go.Proofs.Ytegbicmfgblphaa.que
open Go.RowKit Go.Proofs.Ytegbicmfgblphaa.spn

/-- Fills lie in a block from an offset on. -/
def LiesF (w : World) (b o : Nat) (fs : List F) : Prop := ∀ j, j < fs.length → ∀ i v, (fV fs[j]!)[i]? = some v → w.cell? ⟨b, o + j * 3 + i, none⟩ = some v
def SF (w : World) (v : Value) (fs : List F) : Prop :=
  (v = .slice none 0 0 ∧ fs = []) ∨ ∃ b o c, v = .slice (some ⟨b, o, none⟩) fs.length c ∧ fs.length ≤ 9223372036854775807 ∧ b < w.heap.size ∧ LiesF w b o fs
theorem LiesF.below {w w' : World} {b o : Nat} {fs : List F} (h : LiesF w b o fs) (hb : b < w.heap.size) (hB : Below w.heap.size w w') : LiesF w' b o fs :=
  fun j hj i v hv => (hB.cell (p := ⟨b, o + j * 3 + i, none⟩) hb).trans (h j hj i v hv)
theorem SF.below {w w' : World} {v : Value} {fs : List F} (h : SF w v fs) (hB : Below w.heap.size w w') : SF w' v fs := by
  rcases h with h | ⟨b, o, c, h1, h2, h3, h4⟩
  · exact .inl h
  · exact .inr ⟨b, o, c, h1, h2, Nat.lt_of_lt_of_le h3 hB.size, h4.below h3 hB⟩
theorem flatF_get (fs : List F) : ∀ j, j < fs.length → ∀ i, i < 3 → (flatF fs)[j * 3 + i]? = (fV fs[j]!)[i]? := by
  induction fs with
  | nil => intro j hj; simp at hj
  | cons r t ih =>
    intro j hj i hi
    have e : flatF (r :: t) = fV r ++ flatF t := rfl
    rw [e]
    cases j with
    | zero => rw [Nat.zero_mul, Nat.zero_add, List.getElem?_append_left (by show i < 3; exact hi)]; rfl
    | succ j =>
      rw [List.getElem?_append_right (by show 3 ≤ _; omega)]
      have : (j + 1) * 3 + i - (fV r).length = j * 3 + i := by show (j + 1) * 3 + i - 3 = _; omega
      rw [this, ih j (by simpa using hj) i hi]
      rfl
theorem OwnF.sf {w : World} {base : Nat} {v : Value} {fs : List F} (h : OwnF w base v fs) : SF w v fs := by
  rcases h.2 with ⟨rfl, hn⟩ | ⟨g, off, cap, cur, rfl, hb, hg, hnc, hcm, hcs, htake⟩
  · exact .inl ⟨rfl, List.eq_nil_of_length_eq_zero hn⟩
  · have hcm2 : cap ≤ 9223372036854775807 := by simpa [maxLen] using hcm
    refine .inr ⟨g, off, cap, rfl, by omega, (Array.getElem?_eq_some_iff.1 hg).1, ?_⟩
    intro j hj i u hu
    have hi : i < 3 := (List.getElem?_eq_some_iff.1 hu).1
    rw [← flatF_get fs j hj i hi] at hu
    rw [Nat.add_assoc, cell_of_row w g (off + (j * 3 + i)) cur _ (0, 0) hg]
    rw [← htake, List.getElem?_take] at hu
    split at hu
    · rw [List.getElem?_drop] at hu; simpa using hu
    · cases hu
theorem liesF_at {w : World} {b o k : Nat} {fs : List F} (h : LiesF w b o fs) (hk : k < fs.length) {r1 r2 r3 : Int} (he : fs[k]! = ⟨r1, r2, r3⟩) :
    w.cell? ⟨b, o + k * 3, none⟩ = some (.int .i64 r1) ∧ w.cell? ⟨b, o + k * 3 + 1, none⟩ = some (.int .i64 r2) ∧ w.cell? ⟨b, o + k * 3 + 2, none⟩ = some (.int .i64 r3) := by
  have hh := h k hk
  rw [he] at hh
  exact ⟨hh 0 _ rfl, hh 1 _ rfl, hh 2 _ rfl⟩
end Go.Proofs.Ytegbicmfgblphaa.que
