/- Trades and bars as they lie in memory. -/
import Derived.Test.YtkbegagpliiljaaDoorMeeT
import Derived.Test.YtkbegagpliiljaaDoorSpanChk
namespace Go.Proofs.YtkbegagpliiljaaDoor.bar
open Go.RowKit Go.Proofs.YtkbegagpliiljaaDoor.mee

theorem hidT {p : Prop} (h : p) : Hid p := h
theorem getE {α : Type} [Inhabited α] (l : List α) (j : Nat) (h : j < l.length) : l[j]! = l[j] := by simp [h]
theorem take_succ_at {α : Type} [Inhabited α] {l : List α} {k : Nat} (h : k < l.length) : l.take (k + 1) = l.take k ++ [l[k]!] := by
  rw [List.take_succ_eq_append_getElem h, getE l k h]
theorem wrapSucc (k n : Nat) (h : k < n) (hn : n ≤ 9223372036854775807) : wrap64 ((k : Int) + 1) = ((k + 1 : Nat) : Int) := by unfold wrap64; omega
theorem bal {V W : World} (h : Below V.heap.size V W) (o : Obj) : Below V.heap.size V (W.alloc o) := h.alloc h.size o

/-- A bar. -/
structure B where
  o : Int
  h : Int
  l : Int
  c : Int
  q : Int
deriving DecidableEq, Inhabited
/-- The five cells of a bar. -/
def bV (b : B) : List Value := [.int .i64 b.o, .int .i64 b.h, .int .i64 b.l, .int .i64 b.c, .int .i64 b.q]
/-- Things of so many cells each, as they lie in a block from an offset on. -/
def Lies {α : Type} [Inhabited α] (sz : Nat) (enc : α → List Value) (w : World) (b o : Nat) (zs : List α) : Prop := ∀ j, j < zs.length → ∀ i v, (enc zs[j]!)[i]? = some v → w.cell? ⟨b, o + j * sz + i, none⟩ = some v
/-- A slice value that reads as a list of them. -/
def XL {α : Type} [Inhabited α] (sz : Nat) (enc : α → List Value) (w : World) (v : Value) (zs : List α) : Prop :=
  (v = .slice none 0 0 ∧ zs = []) ∨ ∃ b o c, v = .slice (some ⟨b, o, none⟩) zs.length c ∧ zs.length ≤ c ∧ c ≤ 9223372036854775807 ∧ b < w.heap.size ∧ Lies sz enc w b o zs
section
variable {α : Type} [Inhabited α] {sz : Nat} {enc : α → List Value}
theorem Lies.below {w w' : World} {b o : Nat} {zs : List α} (h : Lies sz enc w b o zs) (hb : b < w.heap.size) (hB : Below w.heap.size w w') : Lies sz enc w' b o zs :=
  fun j hj i v hv => (hB.cell (p := ⟨b, o + j * sz + i, none⟩) hb).trans (h j hj i v hv)
theorem XL.below {w w' : World} {v : Value} {zs : List α} (h : XL sz enc w v zs) (hB : Below w.heap.size w w') : XL sz enc w' v zs := by
  rcases h with h | ⟨b, o, c, h1, h2, h3, h4, h5⟩
  · exact .inl h
  · exact .inr ⟨b, o, c, h1, h2, h3, Nat.lt_of_lt_of_le h4 hB.size, h5.below h4 hB⟩
theorem XL.form {w : World} {v : Value} {zs : List α} (h : XL sz enc w v zs) : ∃ q c, v = .slice q zs.length c ∧ zs.length ≤ c ∧ c ≤ 9223372036854775807 := by
  rcases h with ⟨h1, h2⟩ | ⟨b, o, c, h1, h2, h3, h4, h5⟩
  · subst h2; exact ⟨none, 0, h1, by simp, by simp⟩
  · exact ⟨some ⟨b, o, none⟩, c, h1, h2, h3⟩
theorem XL.at {w : World} {q : Option Addr} {n c : Nat} {zs : List α} (h : XL sz enc w (.slice q n c) zs) {k : Nat} (hk : k < zs.length) : ∃ g off, q = some ⟨g, off, none⟩ ∧ g < w.heap.size ∧ ∀ i v, (enc zs[k]!)[i]? = some v → w.cell? ⟨g, off + k * sz + i, none⟩ = some v := by
  rcases h with ⟨h1, h2⟩ | ⟨b, o, c, h1, h2, h3, h4, h5⟩
  · subst h2; simp at hk
  · cases h1
    exact ⟨b, o, rfl, h4, h5 k hk⟩
/-- A part of a slice reads as that part of the list. -/
theorem XL.part {w : World} {b o n c : Nat} {zs : List α} (h : XL sz enc w (.slice (some ⟨b, o, none⟩) n c) zs) {i m d : Nat} (him : i + m ≤ zs.length) (hmd : m ≤ d) (hd : d ≤ 9223372036854775807) : XL sz enc w (.slice (some ⟨b, o + i * sz, none⟩) m d) ((zs.drop i).take m) := by
  rcases h with ⟨h1, h2⟩ | ⟨b, o, c, h1, h2, h3, h4, h5⟩
  · cases h1
  · cases h1
    have hl : ((zs.drop i).take m).length = m := by simp; omega
    refine .inr ⟨_, _, d, by rw [hl], by omega, hd, h4, ?_⟩
    intro j hj k v hv
    rw [hl] at hj
    have e : ((zs.drop i).take m)[j]! = zs[i + j]! := by
      rw [getE _ _ (by omega), getE _ _ (by omega)]
      simp
    rw [e] at hv
    have := h5 (i + j) (by omega) k v hv
    rwa [show o + i * sz + j * sz + k = o + (i + j) * sz + k by rw [Nat.add_mul]; omega]
end
abbrev TL (w : World) (v : Value) (zs : List T) : Prop := XL 6 tV w v zs
abbrev BL (w : World) (v : Value) (zs : List B) : Prop := XL 5 bV w v zs
end Go.Proofs.YtkbegagpliiljaaDoor.bar
