/- Events as they lie in memory. -/
import Derived.Test.YtgpbpaimfhlnhaaDoorEvMem
import Derived.Test.YtgpbpaimfhlnhaaDoorSpanChk
namespace Go.Proofs.YtgpbpaimfhlnhaaDoor.tap
open Go.RowKit Go.Proofs.YtgpbpaimfhlnhaaDoor.mee Go.Proofs.YtgpbpaimfhlnhaaDoor.flr

theorem hidT {p : Prop} (h : p) : Hid p := h
theorem getE {α : Type} [Inhabited α] (l : List α) (j : Nat) (h : j < l.length) : l[j]! = l[j] := by simp [h]
/-- Events lie in a block from an offset on. -/
def Lies (w : World) (b o : Nat) (zs : List Ev) : Prop := ∀ j, j < zs.length → ∀ i v, (evL zs[j]!)[i]? = some v → w.cell? ⟨b, o + j * 10 + i, none⟩ = some v
/-- A slice value that reads as a list of events. -/
def EL (w : World) (v : Value) (zs : List Ev) : Prop :=
  (v = .slice none 0 0 ∧ zs = []) ∨ ∃ b o c, v = .slice (some ⟨b, o, none⟩) zs.length c ∧ zs.length ≤ c ∧ c ≤ 9223372036854775807 ∧ b < w.heap.size ∧ Lies w b o zs
theorem Lies.below {w w' : World} {b o : Nat} {zs : List Ev} (h : Lies w b o zs) (hb : b < w.heap.size) (hB : Below w.heap.size w w') : Lies w' b o zs :=
  fun j hj i v hv => (hB.cell (p := ⟨b, o + j * 10 + i, none⟩) hb).trans (h j hj i v hv)
theorem EL.below {w w' : World} {v : Value} {zs : List Ev} (h : EL w v zs) (hB : Below w.heap.size w w') : EL w' v zs := by
  rcases h with h | ⟨b, o, c, h1, h2, h3, h4, h5⟩
  · exact .inl h
  · exact .inr ⟨b, o, c, h1, h2, h3, Nat.lt_of_lt_of_le h4 hB.size, h5.below h4 hB⟩
theorem EL.form {w : World} {v : Value} {zs : List Ev} (h : EL w v zs) : ∃ q c, v = .slice q zs.length c ∧ zs.length ≤ 9223372036854775807 := by
  rcases h with ⟨h1, h2⟩ | ⟨b, o, c, h1, h2, h3, h4, h5⟩
  · subst h2; exact ⟨none, 0, h1, by simp⟩
  · exact ⟨some ⟨b, o, none⟩, c, h1, by omega⟩
theorem EL.at {w : World} {q : Option Addr} {n c : Nat} {zs : List Ev} (h : EL w (.slice q n c) zs) {k : Nat} (hk : k < zs.length) : ∃ g off, q = some ⟨g, off, none⟩ ∧ g < w.heap.size ∧ ∀ i v, (evL zs[k]!)[i]? = some v → w.cell? ⟨g, off + k * 10 + i, none⟩ = some v := by
  rcases h with ⟨h1, h2⟩ | ⟨b, o, c, h1, h2, h3, h4, h5⟩
  · subst h2; simp at hk
  · cases h1
    exact ⟨b, o, rfl, h4, h5 k hk⟩
end Go.Proofs.YtgpbpaimfhlnhaaDoor.tap
