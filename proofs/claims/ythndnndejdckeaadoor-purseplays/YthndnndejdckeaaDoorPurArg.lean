/- How steps (a slice of slices of numbers) that come in are read. -/
import Derived.Test.YthndnndejdckeaaDoorRows
import Derived.Test.YthndnndejdckeaaDoorPurMem
import Derived.OpenShut
import Derived.Deep.Slices
import Derived.Carry
namespace Go.Proofs.YthndnndejdckeaaDoor.wak
open Go.ChangeShapes Go.WideShapes Go.ChangeAt Go.RowKit Go.Deep
open Go.Proofs.YthndnndejdckeaaDoor.pur (getP)
open Go.Proofs.YthndnndejdckeaaDoor.spn (keeps)

theorem cellsI : Tryd.prog.cellsOf 3 = 1 := by kernel_rfl
/-- A slice that reads as numbers; one without any may point anywhere. -/
def ILe (w : World) (q : Option Addr) (m : Nat) (zs : List Int) : Prop := m = zs.length ∧ (0 < m → ∃ g off, q = some ⟨g, off, none⟩ ∧ ∀ j, j < m → w.cell? ⟨g, off + j, none⟩ = some (.int .i64 zs[j]!))
def ST (w : World) (q : Option Addr) (n : Nat) : Prop := n ≤ 9223372036854775807 ∧ (0 < n → ∃ g off, q = some ⟨g, off, none⟩ ∧ ∀ j, j < n → ∃ iq im ic zs, w.cell? ⟨g, off + j, none⟩ = some (.slice iq im ic) ∧ ILe w iq im zs)

theorem cellsSI : Tryd.prog.cellsOf 31 = 1 := by kernel_rfl
theorem addr_plain {w : World} {a : Addr} {v : Value} (h : w.cell? a = some v) : a.spot = none ∧ a.block < w.heap.size := by
  refine ⟨?_, World.block_lt_of_cell? w a h⟩
  obtain ⟨b, o, s⟩ := a
  cases s with
  | none => rfl
  | some s =>
    exfalso
    simp only [World.cell?] at h
    split at h
    · simp at h
    · cases h
section
variable {H : Type} {enc : TypeId × Value → H} {w : World} {base : Nat} {sp : Nat → Bool} {held : Bool}
set_option maxRecDepth 100000 in
/-- What a slice value of any element type that comes in is: nil, or it lies in a block of memory. -/
theorem okWide_slice_lies {r : Reach} {b0 : Nat} {t e : TypeId} {v : Value} (ht : Tryd.prog.underlying t = some (.slice e)) (hv : Value.okWide Tryd.prog w r b0 t v) :
    v = .slice none 0 0 ∨ ∃ b o len cap, v = .slice (some ⟨b, o, none⟩) len cap ∧ len ≤ cap ∧ cap ≤ 9223372036854775807 ∧ b < w.heap.size := by
  obtain ⟨a, len, cap, rfl⟩ := okWide_slice ht hv
  simp only [Value.okWide, ht, Cell.okWide] at hv
  cases a with
  | none =>
    left
    cases len with
    | zero =>
      cases cap with
      | zero => rfl
      | succ c => simp [Cell.ok, ht] at hv
    | succ l => simp [Cell.ok, ht] at hv
  | some a =>
    right
    simp only [Cell.ok, ht] at hv
    obtain ⟨h1, h2, _, h4, row, cells, h5, _⟩ := hv
    obtain ⟨b, o, s⟩ := a
    simp only at h4 h5
    subst h4
    refine ⟨b, o, len, cap, rfl, h1, ?_, ?_⟩
    · have : IntKind.i64.max = 9223372036854775807 := rfl
      rw [this] at h2
      omega
    · unfold World.shape? at h5
      split at h5
      · rename_i hh
        exact (Array.getElem?_eq_some_iff.1 hh).1
      · cases h5

set_option maxRecDepth 100000 in
theorem open_nums_in {n : Nat} {v : Value} {x : DataW H × List MemPlace} (h : DataW.trod enc Tryd.prog w base sp held n 31 [v] = some x) : ∃ q m c zs, v = .slice q m c ∧ ILe w q m zs := by
  rcases open_slice1 Tryd.underlying31 cellsI h with ⟨hcs, _⟩ | ⟨a, len, cap, m, n, V, D, Pl, hcs, _, hl, _, hmm, _, hx⟩
  · simp at hcs
    exact ⟨none, 0, 0, [], hcs, rfl, fun h => by omega⟩
  simp at hcs
  subst hcs
  by_cases hz : len = 0
  · subst hz
    exact ⟨_, 0, _, [], rfl, rfl, fun h => by omega⟩
  have hlm : len ≤ m := by rw [hmm]; split <;> omega
  obtain ⟨hspot, -⟩ : a.spot = none ∧ a.block < w.heap.size := by
    obtain ⟨h1, h2⟩ := hx 0 (by omega)
    exact addr_plain (a := a) (v := V 0) h1
  obtain ⟨b, o, s⟩ := a
  simp only at hspot
  subst hspot
  obtain ⟨f, hf2⟩ := choose_lt (α := Int) (n := len) (p := fun i z => w.cell? ⟨b, o + i, none⟩ = some (.int .i64 z)) (fun i hi => by
    obtain ⟨h1, h2⟩ := hx i (by omega)
    obtain ⟨z, e0, _, _⟩ := DataW.trod_int Tryd.underlying3 h2
    simp at e0
    rw [e0, Addr.add_lit] at h1
    exact ⟨z, h1⟩)
  refine ⟨_, len, _, (List.range len).map f, rfl, by simp, fun _ => ⟨b, o, rfl, fun j hj => ?_⟩⟩
  rw [getP _ _ (by simpa using hj)]
  simp only [List.getElem_map, List.getElem_range]
  exact hf2 j hj
set_option maxRecDepth 100000 in
theorem open_steps {r : Reach} {b0 : Nat} {v : Value} {d : DataW H} {ps : List MemPlace} (hv : Value.okWide Tryd.prog w r b0 22 v) (h : DataW.Trod enc Tryd.prog w base sp held 22 v d ps) : ∃ q n c, v = .slice q n c ∧ ST w q n := by
  rcases okWide_slice_lies Tryd.underlying22 hv with rfl | ⟨b, o, len, cap, rfl, hl, hm, hb⟩
  · exact ⟨none, 0, 0, rfl, by decide, fun h => by omega⟩
  obtain ⟨fuel, hf⟩ := h
  rcases open_slice1 Tryd.underlying22 cellsSI hf with ⟨hcs, _⟩ | ⟨a, len', cap', m, n, V, D, Pl, hcs, _, hl', _, hmm, _, hx⟩
  · simp [Value.cells] at hcs
  simp [Value.cells] at hcs
  obtain ⟨rfl, rfl, rfl⟩ := hcs
  have hlm : len ≤ m := by rw [hmm]; split <;> omega
  refine ⟨_, len, cap, rfl, by omega, fun _ => ⟨b, o, rfl, fun j hj => ?_⟩⟩
  obtain ⟨h1, h2⟩ := hx j (by omega)
  obtain ⟨q, mm, c, zs, e, hi⟩ := open_nums_in h2
  rw [Addr.add_lit] at h1
  rw [e] at h1
  exact ⟨q, mm, c, zs, h1, hi⟩
end
theorem ILe.below {w w' : World} {q : Option Addr} {m : Nat} {zs : List Int} (h : ILe w q m zs) (hB : Below w.heap.size w w') : ILe w' q m zs :=
  ⟨h.1, fun hm => by obtain ⟨g, off, e, hc⟩ := h.2 hm; exact ⟨g, off, e, fun j hj => keeps hB (hc j hj)⟩⟩
theorem laidOut : laidOutB Tryd.prog = true := by kernel_rfl
end Go.Proofs.YthndnndejdckeaaDoor.wak
