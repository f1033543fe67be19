/- How commands that come in are read. -/
import Derived.Test.YtndkabnmffgebaaDoorRows
import Derived.Test.YtndkabnmffgebaaDoorWirRow
import Derived.OpenShut
import Derived.Deep.Slices
import Derived.Carry
namespace Go.Proofs.YtndkabnmffgebaaDoor.wir
open Go.ChangeShapes Go.WideShapes Go.ChangeAt Go.RowKit Go.Deep

/-- A slice value that reads as a list of commands. -/
def CX (w : World) (v : Value) (zs : List (List Int)) : Prop :=
  (∀ x ∈ zs, x.length = 11) ∧ ((v = .slice none 0 0 ∧ zs = []) ∨ ∃ b o c, v = .slice (some ⟨b, o, none⟩) zs.length c ∧ zs.length ≤ c ∧ c ≤ 9223372036854775807 ∧ b < w.heap.size ∧ ∀ j, j < zs.length → w.rangeAt b (o + j * 11) (iL zs[j]!))
theorem CX.below {w w' : World} {v : Value} {zs : List (List Int)} (h : CX w v zs) (hB : Below w.heap.size w w') : CX w' v zs := by
  refine ⟨h.1, ?_⟩
  rcases h.2 with h | ⟨b, o, c, h1, h2, h3, h4, h5⟩
  · exact .inl h
  · exact .inr ⟨b, o, c, h1, h2, h3, Nat.lt_of_lt_of_le h4 hB.size, fun j hj i v hv => (hB.cell (p := ⟨b, o + j * 11 + i, none⟩) h4).trans (h5 j hj i v hv)⟩
theorem CX.form {w : World} {v : Value} {zs : List (List Int)} (h : CX w v zs) : ∃ q c, v = .slice q zs.length c ∧ zs.length ≤ 9223372036854775807 := by
  rcases h.2 with ⟨h1, h2⟩ | ⟨b, o, c, h1, h2, h3, h4, h5⟩
  · subst h2; exact ⟨none, 0, h1, by simp⟩
  · exact ⟨some ⟨b, o, none⟩, c, h1, by omega⟩
theorem CX.at {w : World} {q : Option Addr} {n c : Nat} {zs : List (List Int)} (h : CX w (.slice q n c) zs) {k : Nat} (hk : k < zs.length) : ∃ g off, q = some ⟨g, off, none⟩ ∧ g < w.heap.size ∧ w.rangeAt g (off + k * 11) (iL zs[k]!) ∧ (zs[k]!).length = 11 := by
  have hl : (zs[k]!).length = 11 := h.1 _ (by rw [getW _ _ hk]; exact List.getElem_mem hk)
  rcases h.2 with ⟨h1, h2⟩ | ⟨b, o, c, h1, h2, h3, h4, h5⟩
  · subst h2; simp at hk
  · cases h1
    exact ⟨b, o, rfl, h4, h5 k hk, hl⟩
theorem list4 {α : Type} {l : List α} (h : l.length = 4) : ∃ c0 c1 c2 c3, l = [c0, c1, c2, c3] := by
  match l, h with
  | [c0, c1, c2, c3], _ => exact ⟨c0, c1, c2, c3, rfl⟩
theorem list8 {α : Type} {l : List α} (h : l.length = 8) : ∃ c0 c1 c2 c3 c4 c5 c6 c7, l = [c0, c1, c2, c3, c4, c5, c6, c7] := by
  match l, h with
  | [c0, c1, c2, c3, c4, c5, c6, c7], _ => exact ⟨c0, c1, c2, c3, c4, c5, c6, c7, rfl⟩
theorem list11v {α : Type} {l : List α} (h : l.length = 11) : ∃ c0 c1 c2 c3 c4 c5 c6 c7 c8 c9 c10, l = [c0, c1, c2, c3, c4, c5, c6, c7, c8, c9, c10] := by
  match l, h with
  | [c0, c1, c2, c3, c4, c5, c6, c7, c8, c9, c10], _ => exact ⟨c0, c1, c2, c3, c4, c5, c6, c7, c8, c9, c10, rfl⟩
theorem cellsC : Tryd.prog.cellsOf 25 = 11 := by kernel_rfl
theorem cellsO : Tryd.prog.cellsOf 23 = 8 := by kernel_rfl
theorem cellsI : Tryd.prog.cellsOf 3 = 1 := by kernel_rfl
section
variable {H : Type} {enc : TypeId × Value → H} {w : World} {base : Nat} {sp : Nat → Bool} {held : Bool}

set_option maxRecDepth 100000 in
theorem open_order_cells {n : Nat} {cs : List Value} {x : DataW H × List MemPlace} (h : DataW.trod enc Tryd.prog w base sp held n 23 cs = some x) (hl : cs.length = 8) :
    ∃ a0 a1 a2 a3 a4 a5 a6 a7 : Int, cs = iL [a0, a1, a2, a3, a4, a5, a6, a7] := by
  obtain ⟨c0, c1, c2, c3, c4, c5, c6, c7, rfl⟩ := list8 hl
  obtain ⟨xs, n, _, hx, _, hlen, hF⟩ := DataW.trod_struct Tryd.underlying23 h
  obtain ⟨y0, y1, y2, y3, y4, y5, y6, y7, rfl⟩ := list8 hlen
  have h0 : DataW.trod enc Tryd.prog w base sp held n 3 (([c0, c1, c2, c3, c4, c5, c6, c7].drop 0).take (Tryd.prog.cellsOf 3)) = some y0 := hF 0 _ rfl
  rw [cellsI] at h0
  obtain ⟨a0, e0, _, _⟩ := DataW.trod_int Tryd.underlying3 h0
  have h1 : DataW.trod enc Tryd.prog w base sp held n 3 (([c0, c1, c2, c3, c4, c5, c6, c7].drop 1).take (Tryd.prog.cellsOf 3)) = some y1 := hF 1 _ rfl
  rw [cellsI] at h1
  obtain ⟨a1, e1, _, _⟩ := DataW.trod_int Tryd.underlying3 h1
  have h2 : DataW.trod enc Tryd.prog w base sp held n 3 (([c0, c1, c2, c3, c4, c5, c6, c7].drop 2).take (Tryd.prog.cellsOf 3)) = some y2 := hF 2 _ rfl
  rw [cellsI] at h2
  obtain ⟨a2, e2, _, _⟩ := DataW.trod_int Tryd.underlying3 h2
  have h3 : DataW.trod enc Tryd.prog w base sp held n 3 (([c0, c1, c2, c3, c4, c5, c6, c7].drop 3).take (Tryd.prog.cellsOf 3)) = some y3 := hF 3 _ rfl
  rw [cellsI] at h3
  obtain ⟨a3, e3, _, _⟩ := DataW.trod_int Tryd.underlying3 h3
  have h4 : DataW.trod enc Tryd.prog w base sp held n 3 (([c0, c1, c2, c3, c4, c5, c6, c7].drop 4).take (Tryd.prog.cellsOf 3)) = some y4 := hF 4 _ rfl
  rw [cellsI] at h4
  obtain ⟨a4, e4, _, _⟩ := DataW.trod_int Tryd.underlying3 h4
  have h5 : DataW.trod enc Tryd.prog w base sp held n 3 (([c0, c1, c2, c3, c4, c5, c6, c7].drop 5).take (Tryd.prog.cellsOf 3)) = some y5 := hF 5 _ rfl
  rw [cellsI] at h5
  obtain ⟨a5, e5, _, _⟩ := DataW.trod_int Tryd.underlying3 h5
  have h6 : DataW.trod enc Tryd.prog w base sp held n 3 (([c0, c1, c2, c3, c4, c5, c6, c7].drop 6).take (Tryd.prog.cellsOf 3)) = some y6 := hF 6 _ rfl
  rw [cellsI] at h6
  obtain ⟨a6, e6, _, _⟩ := DataW.trod_int Tryd.underlying3 h6
  have h7 : DataW.trod enc Tryd.prog w base sp held n 3 (([c0, c1, c2, c3, c4, c5, c6, c7].drop 7).take (Tryd.prog.cellsOf 3)) = some y7 := hF 7 _ rfl
  rw [cellsI] at h7
  obtain ⟨a7, e7, _, _⟩ := DataW.trod_int Tryd.underlying3 h7
  simp at e0 e1 e2 e3 e4 e5 e6 e7
  subst e0 e1 e2 e3 e4 e5 e6 e7
  exact ⟨a0, a1, a2, a3, a4, a5, a6, a7, rfl⟩
set_option maxRecDepth 100000 in
theorem open_command_cells {n : Nat} {cs : List Value} {x : DataW H × List MemPlace} (h : DataW.trod enc Tryd.prog w base sp held n 25 cs = some x) (hl : cs.length = 11) :
    ∃ r : List Int, r.length = 11 ∧ cs = iL r := by
  obtain ⟨c0, c1, c2, c3, c4, c5, c6, c7, c8, c9, c10, rfl⟩ := list11v hl
  obtain ⟨xs, n, _, hx, _, hlen, hF⟩ := DataW.trod_struct Tryd.underlying25 h
  obtain ⟨y0, y1, y2, y3, rfl⟩ := list4 hlen
  have h0 : DataW.trod enc Tryd.prog w base sp held n 3 (([c0, c1, c2, c3, c4, c5, c6, c7, c8, c9, c10].drop 0).take (Tryd.prog.cellsOf 3)) = some y0 := hF 0 _ rfl
  rw [cellsI] at h0
  obtain ⟨a0, e0, _, _⟩ := DataW.trod_int Tryd.underlying3 h0
  have h2 : DataW.trod enc Tryd.prog w base sp held n 3 (([c0, c1, c2, c3, c4, c5, c6, c7, c8, c9, c10].drop 9).take (Tryd.prog.cellsOf 3)) = some y2 := hF 2 _ rfl
  rw [cellsI] at h2
  obtain ⟨a2, e2, _, _⟩ := DataW.trod_int Tryd.underlying3 h2
  have h3 : DataW.trod enc Tryd.prog w base sp held n 3 (([c0, c1, c2, c3, c4, c5, c6, c7, c8, c9, c10].drop 10).take (Tryd.prog.cellsOf 3)) = some y3 := hF 3 _ rfl
  rw [cellsI] at h3
  obtain ⟨a3, e3, _, _⟩ := DataW.trod_int Tryd.underlying3 h3
  have h1 : DataW.trod enc Tryd.prog w base sp held n 23 (([c0, c1, c2, c3, c4, c5, c6, c7, c8, c9, c10].drop 1).take (Tryd.prog.cellsOf 23)) = some y1 := hF 1 _ rfl
  rw [cellsO] at h1
  obtain ⟨b0, b1, b2, b3, b4, b5, b6, b7, e1⟩ := open_order_cells h1 rfl
  simp at e0 e2 e3
  have e1' : [c1, c2, c3, c4, c5, c6, c7, c8] = [.int .i64 b0, .int .i64 b1, .int .i64 b2, .int .i64 b3, .int .i64 b4, .int .i64 b5, .int .i64 b6, .int .i64 b7] := e1
  simp only [List.cons.injEq, and_true] at e1'
  obtain ⟨rfl, rfl, rfl, rfl, rfl, rfl, rfl, rfl⟩ := e1'
  subst e0 e2 e3
  exact ⟨[a0, b0, b1, b2, b3, b4, b5, b6, b7, a2, a3], rfl, rfl⟩
set_option maxRecDepth 100000 in
theorem open_command {r : Reach} {b0 : Nat} {v : Value} {d : DataW H} {ps : List MemPlace} (hv : Value.okWide Tryd.prog w r b0 25 v) (h : DataW.Trod enc Tryd.prog w base sp held 25 v d ps) :
    ∃ xs : List Int, xs.length = 11 ∧ v = cV xs := by
  obtain ⟨cs, rfl, hsz⟩ := okWide_struct Tryd.underlying25 hv
  obtain ⟨fuel, hf⟩ := h
  have hl : cs.toList.length = 11 := by simpa using hsz.trans cellsC
  have hf' : DataW.trod enc Tryd.prog w base sp held fuel 25 cs.toList = some (d, ps) := by simpa [Value.cells] using hf
  obtain ⟨xs, h1, h2⟩ := open_command_cells hf' hl
  exact ⟨xs, h1, by rw [cV, ← h2]⟩
set_option maxRecDepth 100000 in
/-- What a slice value of any element type that comes in is: nil, or it lies in a block of memory. -/
theorem okWide_slice_lies {r : Reach} {b0 : Nat} {t e : TypeId} {v : Value} (ht : Tryd.prog.underlying t = some (.slice e)) (hv : Value.okWide Tryd.prog w r b0 t v) :
    v = .slice none 0 0 ∨ ∃ b o len cap, v = .slice (some ⟨b, o, none⟩) len cap ∧ len ≤ cap ∧ cap ≤ 9223372036854775807 ∧ b < w.heap.size := by
  obtain ⟨a, len, cap, rfl⟩ := okWide_slice ht hv
  simp only [Value.okWide, ht, Cell.okWide] at hv
  cases a with
  | none =>
    left
    cases len with
    | zero =>
      cases cap with
      | zero => rfl
      | succ c => simp [Cell.ok, ht] at hv
    | succ l => simp [Cell.ok, ht] at hv
  | some a =>
    right
    simp only [Cell.ok, ht] at hv
    obtain ⟨h1, h2, _, h4, row, cells, h5, _⟩ := hv
    obtain ⟨b, o, s⟩ := a
    simp only at h4 h5
    subst h4
    refine ⟨b, o, len, cap, rfl, h1, ?_, ?_⟩
    · have : IntKind.i64.max = 9223372036854775807 := rfl
      rw [this] at h2
      omega
    · unfold World.shape? at h5
      split at h5
      · rename_i hh
        exact (Array.getElem?_eq_some_iff.1 hh).1
      · cases h5

set_option maxRecDepth 100000 in
theorem open_commands {r : Reach} {b0 : Nat} {v : Value} {d : DataW H} {ps : List MemPlace} (hv : Value.okWide Tryd.prog w r b0 26 v) (h : DataW.Trod enc Tryd.prog w base sp held 26 v d ps) :
    ∃ zs : List (List Int), CX w v zs := by
  rcases okWide_slice_lies Tryd.underlying26 hv with rfl | ⟨b, o, len, cap, rfl, hl, hm, hb⟩
  · exact ⟨[], by simp, .inl ⟨rfl, rfl⟩⟩
  obtain ⟨fuel, hf⟩ := h
  rcases open_slice Tryd.underlying26 hf with ⟨hcs, _⟩ | ⟨a, len', cap', m, n, D, Pl, hcs, _, hl', _, hmm, _, hx⟩
  · simp [Value.cells] at hcs
  simp [Value.cells] at hcs
  obtain ⟨rfl, rfl, rfl⟩ := hcs
  have hlm : len ≤ m := by rw [hmm]; split <;> omega
  obtain ⟨f, hf2⟩ := choose_lt (α := List Int) (n := len) (p := fun i r => r.length = 11 ∧ w.rangeAt b (o + i * 11) (iL r)) (fun i hi => by
    obtain ⟨cs', h1, h2⟩ := hx i (by omega)
    rw [cellsC] at h1
    obtain ⟨_, hlen, hcell⟩ := World.cells?_some h1
    obtain ⟨r, hr, rfl⟩ := open_command_cells h2 hlen
    refine ⟨r, hr, fun k v hk => ?_⟩
    have hk6 : k < 11 := by rw [← hr, ← iL_length]; exact (List.getElem?_eq_some_iff.1 hk).1
    have := hcell k hk6
    rw [hk, Addr.add_lit, Addr.add_lit] at this
    exact this)
  refine ⟨(List.range len).map f, ?_, .inr ⟨b, o, cap, by simp, by simpa using hl, hm, hb, ?_⟩⟩
  · intro x hx
    rw [List.mem_map] at hx
    obtain ⟨i, hi, rfl⟩ := hx
    exact (hf2 i (List.mem_range.1 hi)).1
  intro j hj
  have hj' : j < len := by simpa using hj
  rw [getW _ _ hj]
  simp only [List.getElem_map, List.getElem_range]
  exact (hf2 j hj').2
end
theorem laidOut : laidOutB Tryd.prog = true := by kernel_rfl
end Go.Proofs.YtndkabnmffgebaaDoor.wir
