/- How a side that comes in is read: a slice of levels, each with a slice of rests. -/
import Derived.Test.YtegbicmfgblphaaQueArg
import Derived.Test.YtegbicmfgblphaaSidCnt
namespace Go.Proofs.Ytegbicmfgblphaa.sid
open Go.ChangeShapes Go.WideShapes Go.ChangeAt Go.RowKit Go.Deep Go.Proofs.Ytegbicmfgblphaa.que

theorem cellsL : Try.prog.cellsOf 31 = 2 := by kernel_rfl
theorem cellsS : Try.prog.cellsOf 29 = 1 := by kernel_rfl
theorem list2 {α : Type} {l : List α} (h : l.length = 2) : ∃ c0 c1, l = [c0, c1] := by
  match l, h with
  | [c0, c1], _ => exact ⟨c0, c1, rfl⟩
/-- An address at which a cell is read is one of a block. -/
theorem addr_plain {w : World} {a : Addr} {v : Value} (h : w.cell? a = some v) : a.spot = none ∧ a.block < w.heap.size := by
  refine ⟨?_, World.block_lt_of_cell? w a h⟩
  obtain ⟨b, o, s⟩ := a
  cases s with
  | none => rfl
  | some s =>
    exfalso
    simp only [World.cell?] at h
    split at h
    · simp at h
    · cases h

section
variable {H : Type} {enc : TypeId × Value → H} {w : World} {base : Nat} {sp : Nat → Bool} {held : Bool}

set_option maxRecDepth 100000 in
/-- Rests within a level. -/
theorem open_rests_in {n : Nat} {v : Value} {x : DataW H × List MemPlace} (h : DataW.trod enc Try.prog w base sp held n 29 [v] = some x) : ∃ zs : List R, SLe w v zs := by
  rcases open_slice Try.underlying29 h with ⟨hcs, _⟩ | ⟨a, len, cap, m, n, D, Pl, hcs, _, hl, hcap, hmm, _, hx⟩
  · simp at hcs
    exact ⟨[], .inl (.inl ⟨hcs, rfl⟩)⟩
  simp at hcs
  subst hcs
  by_cases hz : len = 0
  · subst hz
    exact ⟨[], .inr ⟨rfl, _, _, rfl⟩⟩
  have hlm : len ≤ m := by rw [hmm]; split <;> omega
  obtain ⟨hspot, hb⟩ : a.spot = none ∧ a.block < w.heap.size := by
    obtain ⟨cs', h1, h2⟩ := hx 0 (by omega)
    rw [cellsR] at h1
    obtain ⟨_, hlen, hcell⟩ := World.cells?_some h1
    have := hcell 0 (by omega)
    rw [List.getElem?_eq_getElem (by omega)] at this
    rw [Nat.zero_mul, show (a.add 0).add 0 = a from rfl] at this
    exact addr_plain this
  obtain ⟨b, o, s⟩ := a
  simp only at hspot hb
  subst hspot
  obtain ⟨f, hf2⟩ := choose_lt (α := R) (n := len) (p := fun i r => ∀ k v, (rV r)[k]? = some v → w.cell? ⟨b, o + i * 5 + k, none⟩ = some v) (fun i hi => by
    obtain ⟨cs', h1, h2⟩ := hx i (by omega)
    rw [cellsR] at h1
    obtain ⟨_, hlen, hcell⟩ := World.cells?_some h1
    obtain ⟨r, rfl⟩ := open_rest_cells h2 hlen
    refine ⟨r, fun k v hk => ?_⟩
    have hk5 : k < 5 := (List.getElem?_eq_some_iff.1 hk).1
    have := hcell k hk5
    rw [hk, Addr.add_lit, Addr.add_lit] at this
    exact this)
  refine ⟨(List.range len).map f, .inl (.inr ⟨b, o, cap, by simp, by simpa using hl, by simpa [maxLen] using hcap, hb, ?_⟩)⟩
  intro j hj k v hk
  have hj' : j < len := by simpa using hj
  rw [getE _ _ hj] at hk
  simp only [List.getElem_map, List.getElem_range] at hk
  exact hf2 j hj' k v hk

set_option maxRecDepth 100000 in
theorem open_level_cells {n : Nat} {cs : List Value} {x : DataW H × List MemPlace} (h : DataW.trod enc Try.prog w base sp held n 31 cs = some x) (hl : cs.length = 2) :
    ∃ (l : L) (v : Value), cs = [.int .i64 l.price, v] ∧ SLe w v l.rests := by
  obtain ⟨c0, c1, rfl⟩ := list2 hl
  obtain ⟨xs, n, _, hx, _, hlen, hF⟩ := DataW.trod_struct Try.underlying31 h
  obtain ⟨y0, y1, rfl⟩ := list2 hlen
  have h0 : DataW.trod enc Try.prog w base sp held n 3 (([c0, c1].drop 0).take (Try.prog.cellsOf 3)) = some y0 := hF 0 _ rfl
  rw [cellsI] at h0
  obtain ⟨a0, e0, _, _⟩ := DataW.trod_int Try.underlying3 h0
  have h1 : DataW.trod enc Try.prog w base sp held n 29 (([c0, c1].drop 1).take (Try.prog.cellsOf 29)) = some y1 := hF 1 _ rfl
  rw [cellsS] at h1
  have h1' : DataW.trod enc Try.prog w base sp held n 29 [c1] = some y1 := h1
  obtain ⟨zs, hzs⟩ := open_rests_in h1'
  simp at e0
  subst e0
  exact ⟨⟨a0, zs⟩, c1, rfl, hzs⟩

set_option maxRecDepth 100000 in
/-- A side that comes in. -/
theorem open_levels_cell {n : Nat} {v : Value} {x : DataW H × List MemPlace} (hv : v = .slice none 0 0 ∨ ∃ b o len cap, v = .slice (some ⟨b, o, none⟩) len cap ∧ len ≤ cap ∧ cap ≤ 9223372036854775807 ∧ b < w.heap.size) (hf : DataW.trod enc Try.prog w base sp held n 22 v.cells.toList = some x) :
    ∃ ls : List L, LS w v ls := by
  rcases hv with rfl | ⟨b, o, len, cap, rfl, hl, hm, hb⟩
  · exact ⟨[], .inl ⟨rfl, rfl⟩⟩
  rcases open_slice Try.underlying22 hf with ⟨hcs, _⟩ | ⟨a, len', cap', m, n, D, Pl, hcs, _, hl', _, hmm, _, hx⟩
  · simp [Value.cells] at hcs
  simp [Value.cells] at hcs
  obtain ⟨rfl, rfl, rfl⟩ := hcs
  have hlm : len ≤ m := by rw [hmm]; split <;> omega
  obtain ⟨f, hf2⟩ := choose_lt (α := L) (n := len) (p := fun i l => w.cell? ⟨b, o + i * 2, none⟩ = some (.int .i64 l.price) ∧ ∃ v, w.cell? ⟨b, o + i * 2 + 1, none⟩ = some v ∧ SLe w v l.rests) (fun i hi => by
    obtain ⟨cs', h1, h2⟩ := hx i (by omega)
    rw [cellsL] at h1
    obtain ⟨_, hlen, hcell⟩ := World.cells?_some h1
    obtain ⟨l, v, rfl, hv⟩ := open_level_cells h2 hlen
    have g0 := hcell 0 (by omega)
    have g1 := hcell 1 (by omega)
    rw [Addr.add_lit, Addr.add_lit] at g0 g1
    exact ⟨l, by simpa using g0, v, by simpa using g1, hv⟩)
  refine ⟨(List.range len).map f, .inr ⟨b, o, cap, by simp, by simpa using hl, hm, hb, ?_⟩⟩
  intro j hj
  have hj' : j < len := by simpa using hj
  rw [getE _ _ hj]
  simp only [List.getElem_map, List.getElem_range]
  exact hf2 j hj'
set_option maxRecDepth 100000 in
theorem open_levels {r : Reach} {b0 : Nat} {v : Value} {d : DataW H} {ps : List MemPlace} (hv : Value.okWide Try.prog w r b0 22 v) (h : DataW.Trod enc Try.prog w base sp held 22 v d ps) : ∃ ls : List L, LS w v ls := by
  obtain ⟨fuel, hf⟩ := h
  exact open_levels_cell (okWide_slice_lies Try.underlying22 hv) hf
end
end Go.Proofs.Ytegbicmfgblphaa.sid
