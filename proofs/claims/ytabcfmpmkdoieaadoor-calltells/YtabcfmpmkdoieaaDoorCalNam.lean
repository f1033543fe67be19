/- Contracts over this seat's translation: pitlaw2.named; the cells of trades. -/
import Derived.Test.YtabcfmpmkdoieaaDoorCalFact
import Derived.Deep.MidRow
namespace Go.Proofs.YtabcfmpmkdoieaaDoor.cal
open Go.RowKit Go.Proofs.YtabcfmpmkdoieaaDoor.ord
open Go.Proofs.YtabcfmpmkdoieaaDoor.wak (Lies SL oL OwnM OwnQ flat getE own_range gr_setCells)

theorem there8 {w : World} {b : Nat} {z0 z1 z2 z3 z4 z5 z6 z7 : Value} {t : TypeId} (h : w.heap[b]? = some (.cells #[z0, z1, z2, z3, z4, z5, z6, z7] t (0, 0))) : w.there b 0 8 := by
  intro j hj
  have hc : w.cell? ⟨b, 0 + j, none⟩ = (#[z0, z1, z2, z3, z4, z5, z6, z7])[j]? := by rw [Nat.zero_add]; simp [World.cell?, h]
  have hf : w.frozen? ⟨b, 0 + j, none⟩ = false := by simp [World.frozen?, h]
  rw [hc, hf]
  have : j = 0 ∨ j = 1 ∨ j = 2 ∨ j = 3 ∨ j = 4 ∨ j = 5 ∨ j = 6 ∨ j = 7 := by omega
  rcases this with rfl | rfl | rfl | rfl | rfl | rfl | rfl | rfl <;> exact ⟨rfl, rfl⟩
theorem stored8 {w : World} {b : Nat} {z0 z1 z2 z3 z4 z5 z6 z7 : Value} {t : TypeId} (v0 v1 v2 v3 v4 v5 v6 v7 : Value) (h : w.heap[b]? = some (.cells #[z0, z1, z2, z3, z4, z5, z6, z7] t (0, 0))) :
    (w.setCells b 0 [v0, v1, v2, v3, v4, v5, v6, v7]).heap[b]? = some (.cells #[v0, v1, v2, v3, v4, v5, v6, v7] t (0, 0)) := by
  simp only [World.setCells]
  have h0 := heap_setCell_same w b 0 _ _ v0 h
  have h1 := heap_setCell_same _ b 1 _ _ v1 h0
  have h2 := heap_setCell_same _ b 2 _ _ v2 h1
  have h3 := heap_setCell_same _ b 3 _ _ v3 h2
  have h4 := heap_setCell_same _ b 4 _ _ v4 h3
  have h5 := heap_setCell_same _ b 5 _ _ v5 h4
  have h6 := heap_setCell_same _ b 6 _ _ v6 h5
  have h7 := heap_setCell_same _ b 7 _ _ v7 h6
  simpa using h7
theorem row8 {w : World} {b : Nat} {z0 z1 z2 z3 z4 z5 z6 z7 : Value} {t : TypeId} (h : w.heap[b]? = some (.cells #[z0, z1, z2, z3, z4, z5, z6, z7] t (0, 0))) : w.cell? ⟨b, 0, none⟩ = some z0 ∧ w.cell? ⟨b, 1, none⟩ = some z1 ∧ w.cell? ⟨b, 2, none⟩ = some z2 ∧ w.cell? ⟨b, 3, none⟩ = some z3 ∧ w.cell? ⟨b, 4, none⟩ = some z4 ∧ w.cell? ⟨b, 5, none⟩ = some z5 ∧ w.cell? ⟨b, 6, none⟩ = some z6 ∧ w.cell? ⟨b, 7, none⟩ = some z7 :=
  ⟨by simp [World.cell?, h], by simp [World.cell?, h], by simp [World.cell?, h], by simp [World.cell?, h], by simp [World.cell?, h], by simp [World.cell?, h], by simp [World.cell?, h], by simp [World.cell?, h]⟩

/-- The cells of a trade. -/
theorem flatT_len (ts : List T) : (flatT ts).length = ts.length * 6 := by
  induction ts with
  | nil => rfl
  | cons t r ih =>
    have e : flatT (t :: r) = tL t ++ flatT r := rfl
    rw [e, List.length_append, ih, List.length_cons]
    have : (tL t).length = 6 := rfl
    omega
instance : Inhabited T := ⟨⟨0, 0, 0, 0, 0, 0⟩⟩
theorem flatT_get (ts : List T) : ∀ j, j < ts.length → ∀ i, i < 6 → (flatT ts)[j * 6 + i]? = (tL ts[j]!)[i]? := by
  induction ts with
  | nil => intro j hj; simp at hj
  | cons r t ih =>
    intro j hj i hi
    have e : flatT (r :: t) = tL r ++ flatT t := rfl
    rw [e]
    cases j with
    | zero => rw [Nat.zero_mul, Nat.zero_add, List.getElem?_append_left (by show i < 6; exact hi)]; rfl
    | succ j =>
      rw [List.getElem?_append_right (by show 6 ≤ _; omega)]
      have : (j + 1) * 6 + i - (tL r).length = j * 6 + i := by show (j + 1) * 6 + i - 6 = _; omega
      rw [this, ih j (by simpa using hj) i hi]
      rfl
/-- Trades in a block. -/
theorem trades_some {w : World} {base : Nat} {q : Option Addr} {m c : Nat} {ts : List T} (h : OwnM w base 58 6 (.slice q m c) m (flatT ts)) (hm : m = ts.length) (h0 : 0 < m) : ∃ B o, q = some ⟨B, o, none⟩ ∧ base ≤ B ∧ B < w.heap.size ∧ ∀ j, j < m → ∀ i v, (tL ts[j]!)[i]? = some v → w.cell? ⟨B, o + j * 6 + i, none⟩ = some v := by
  have h' := h
  rcases h.2 with ⟨h1, h2⟩ | ⟨g, off, cap, cur, h1, hb, hcur, _⟩
  · omega
  · cases h1
    obtain ⟨-, -, -, -, -, hr, -⟩ := own_range h'
    refine ⟨g, off, rfl, hb, (Array.getElem?_eq_some_iff.1 hcur).1, fun j hj i v hv => ?_⟩
    have hi : i < 6 := (List.getElem?_eq_some_iff.1 hv).1
    have := hr (j * 6 + i) v (by rw [flatT_get ts j (by omega) i hi]; exact hv)
    rwa [← Nat.add_assoc] at this
theorem own_sl {w : World} {base : Nat} {q : Option Addr} {m c : Nat} {os : List O} (h : OwnM w base 44 8 (.slice q m c) m (flat os)) (hm : m = os.length) : SL w (.slice q m c) os := wak.OwnQ.sl (base := base) (by show OwnM _ _ _ _ _ _ _; rw [← hm]; exact h)
theorem sl_lies {w : World} {q : Option Addr} {n c : Nat} {zs : List O} (h : SL w (.slice q n c) zs) : n = zs.length := by
  rcases h with ⟨h1, h2⟩ | ⟨b, o, c', h1, -⟩
  · cases h1; rw [h2]; rfl
  · cases h1; rfl
end Go.Proofs.YtabcfmpmkdoieaaDoor.cal
