/- How a book that comes in is read: a struct of two slices of levels. How an order that comes in is read. -/
import Derived.Test.YtpbbgbjgndikdaaGreatDoorSidArg
import Derived.Test.YtpbbgbjgndikdaaGreatDoorMeeOrd
namespace Go.Proofs.YtpbbgbjgndikdaaGreatDoor.bok
open Go.ChangeShapes Go.WideShapes Go.ChangeAt Go.RowKit Go.Deep Go.Proofs.YtpbbgbjgndikdaaGreatDoor.que Go.Proofs.YtpbbgbjgndikdaaGreatDoor.sid

theorem cellsB : Tryz.prog.cellsOf 24 = 2 := by kernel_rfl
theorem cellsSL : Tryz.prog.cellsOf 22 = 1 := by kernel_rfl
theorem typesB : Tryz.prog.cellTypes Tryz.prog.depth 24 = some [22, 22] := by kernel_rfl
section
variable {H : Type} {enc : TypeId × Value → H} {w : World} {base : Nat} {sp : Nat → Bool} {held : Bool}

set_option maxRecDepth 100000 in
theorem okWide_lev {r : Reach} {b0 : Nat} {v : Value} (h : Cell.okWide Tryz.prog w r b0 22 v) : Value.okWide Tryz.prog w r b0 22 v := by
  simp only [Value.okWide, Tryz.underlying22]
  exact h
theorem slice_cells {v : Value} (h : v = .slice none 0 0 ∨ ∃ b o len cap, v = .slice (some ⟨b, o, none⟩) len cap ∧ len ≤ cap ∧ cap ≤ 9223372036854775807 ∧ b < w.heap.size) : v.cells.toList = [v] ∧ ∃ q n c, v = .slice q n c := by
  rcases h with rfl | ⟨b, o, len, cap, rfl, -, -, -⟩
  · exact ⟨rfl, _, _, _, rfl⟩
  · exact ⟨rfl, _, _, _, rfl⟩
set_option maxRecDepth 100000 in
/-- A book that comes in. -/
theorem open_book {r : Reach} {b0 : Nat} {v : Value} {d : DataW H} {ps : List MemPlace} (hv : Value.okWide Tryz.prog w r b0 24 v) (h : DataW.Trod enc Tryz.prog w base sp held 24 v d ps) :
    ∃ q1 q2 n1 n2 c1 c2 bs ss, v = .agg #[.slice q1 n1 c1, .slice q2 n2 c2] ∧ LS w (.slice q1 n1 c1) bs ∧ LS w (.slice q2 n2 c2) ss := by
  simp only [Value.okWide, Tryz.underlying24] at hv
  obtain ⟨cs, rfl, hsz, ts, hts, -, hrow⟩ := hv
  rw [typesB] at hts
  have hts' := (Option.some.inj hts).symm
  subst hts'
  obtain ⟨c0, c1, hcs⟩ := list2 (l := cs.toList) (by rw [Array.length_toList]; exact hsz.trans cellsB)
  have hcs2 : cs = #[c0, c1] := by rw [← Array.toArray_toList (xs := cs), hcs]
  subst hcs2
  have k0 : Cell.okWide Tryz.prog w r b0 22 c0 := by
    obtain ⟨u, hu, hc⟩ := hrow 0 c0 rfl
    have : u = 22 := by simpa using hu.symm
    rw [this] at hc; exact hc
  have k1 : Cell.okWide Tryz.prog w r b0 22 c1 := by
    obtain ⟨u, hu, hc⟩ := hrow 1 c1 rfl
    have : u = 22 := by simpa using hu.symm
    rw [this] at hc; exact hc
  have f0 := okWide_slice_lies Tryz.underlying22 (okWide_lev k0)
  have f1 := okWide_slice_lies Tryz.underlying22 (okWide_lev k1)
  obtain ⟨fuel, hf⟩ := h
  have hf' : DataW.trod enc Tryz.prog w base sp held fuel 24 [c0, c1] = some (d, ps) := hf
  obtain ⟨xs, n, _, hx, _, hlen, hF⟩ := DataW.trod_struct Tryz.underlying24 hf'
  obtain ⟨y0, y1, rfl⟩ := list2 hlen
  have h0 : DataW.trod enc Tryz.prog w base sp held n 22 (([c0, c1].drop 0).take (Tryz.prog.cellsOf 22)) = some y0 := hF 0 _ rfl
  have h1 : DataW.trod enc Tryz.prog w base sp held n 22 (([c0, c1].drop 1).take (Tryz.prog.cellsOf 22)) = some y1 := hF 1 _ rfl
  rw [cellsSL] at h0 h1
  have h0' : DataW.trod enc Tryz.prog w base sp held n 22 [c0] = some y0 := h0
  have h1' : DataW.trod enc Tryz.prog w base sp held n 22 [c1] = some y1 := h1
  obtain ⟨e0, q1, n1, d1, hc0⟩ := slice_cells f0
  obtain ⟨e1, q2, n2, d2, hc1⟩ := slice_cells f1
  obtain ⟨bs, hbs⟩ := open_levels_cell f0 (by rw [e0]; exact h0')
  obtain ⟨ss, hss⟩ := open_levels_cell f1 (by rw [e1]; exact h1')
  subst hc0
  subst hc1
  exact ⟨q1, q2, n1, n2, d1, d2, bs, ss, rfl, hbs, hss⟩
end
end Go.Proofs.YtpbbgbjgndikdaaGreatDoor.bok
namespace Go.Proofs.YtpbbgbjgndikdaaGreatDoor.mee
open Go.ChangeShapes Go.WideShapes Go.ChangeAt Go.RowKit Go.Proofs.YtpbbgbjgndikdaaGreatDoor.que

theorem list8 {α : Type} {l : List α} (h : l.length = 8) : ∃ c0 c1 c2 c3 c4 c5 c6 c7, l = [c0, c1, c2, c3, c4, c5, c6, c7] := by
  match l, h with
  | [c0, c1, c2, c3, c4, c5, c6, c7], _ => exact ⟨c0, c1, c2, c3, c4, c5, c6, c7, rfl⟩
theorem cellsO : Tryz.prog.cellsOf 60 = 8 := by kernel_rfl
section
variable {H : Type} {enc : TypeId × Value → H} {w : World} {base : Nat} {sp : Nat → Bool} {held : Bool}
set_option maxRecDepth 100000 in
theorem open_order {r : Reach} {b0 : Nat} {v : Value} {d : DataW H} {ps : List MemPlace} (hv : Value.okWide Tryz.prog w r b0 60 v) (h : DataW.Trod enc Tryz.prog w base sp held 60 v d ps) :
    ∃ a b c e p q s t : Int, v = .agg #[.int .i64 a, .int .i64 b, .int .i64 c, .int .i64 e, .int .i64 p, .int .i64 q, .int .i64 s, .int .i64 t] := by
  obtain ⟨cs, rfl, hsz⟩ := okWide_struct Tryz.underlying60 hv
  obtain ⟨fuel, hf⟩ := h
  have hl : cs.toList.length = 8 := by simpa using hsz.trans cellsO
  have hf' : DataW.trod enc Tryz.prog w base sp held fuel 60 cs.toList = some (d, ps) := by simpa [Value.cells] using hf
  obtain ⟨c0, c1, c2, c3, c4, c5, c6, c7, hcs⟩ := list8 hl
  rw [hcs] at hf'
  obtain ⟨xs, n, _, hx, _, hlen, hF⟩ := DataW.trod_struct Tryz.underlying60 hf'
  obtain ⟨y0, y1, y2, y3, y4, y5, y6, y7, rfl⟩ := list8 hlen
  have h0 : DataW.trod enc Tryz.prog w base sp held n 3 (([c0, c1, c2, c3, c4, c5, c6, c7].drop 0).take (Tryz.prog.cellsOf 3)) = some y0 := hF 0 _ rfl
  rw [cellsI] at h0
  obtain ⟨a0, e0, _, _⟩ := DataW.trod_int Tryz.underlying3 h0
  have h1 : DataW.trod enc Tryz.prog w base sp held n 3 (([c0, c1, c2, c3, c4, c5, c6, c7].drop 1).take (Tryz.prog.cellsOf 3)) = some y1 := hF 1 _ rfl
  rw [cellsI] at h1
  obtain ⟨a1, e1, _, _⟩ := DataW.trod_int Tryz.underlying3 h1
  have h2 : DataW.trod enc Tryz.prog w base sp held n 3 (([c0, c1, c2, c3, c4, c5, c6, c7].drop 2).take (Tryz.prog.cellsOf 3)) = some y2 := hF 2 _ rfl
  rw [cellsI] at h2
  obtain ⟨a2, e2, _, _⟩ := DataW.trod_int Tryz.underlying3 h2
  have h3 : DataW.trod enc Tryz.prog w base sp held n 3 (([c0, c1, c2, c3, c4, c5, c6, c7].drop 3).take (Tryz.prog.cellsOf 3)) = some y3 := hF 3 _ rfl
  rw [cellsI] at h3
  obtain ⟨a3, e3, _, _⟩ := DataW.trod_int Tryz.underlying3 h3
  have h4 : DataW.trod enc Tryz.prog w base sp held n 3 (([c0, c1, c2, c3, c4, c5, c6, c7].drop 4).take (Tryz.prog.cellsOf 3)) = some y4 := hF 4 _ rfl
  rw [cellsI] at h4
  obtain ⟨a4, e4, _, _⟩ := DataW.trod_int Tryz.underlying3 h4
  have h5 : DataW.trod enc Tryz.prog w base sp held n 3 (([c0, c1, c2, c3, c4, c5, c6, c7].drop 5).take (Tryz.prog.cellsOf 3)) = some y5 := hF 5 _ rfl
  rw [cellsI] at h5
  obtain ⟨a5, e5, _, _⟩ := DataW.trod_int Tryz.underlying3 h5
  have h6 : DataW.trod enc Tryz.prog w base sp held n 3 (([c0, c1, c2, c3, c4, c5, c6, c7].drop 6).take (Tryz.prog.cellsOf 3)) = some y6 := hF 6 _ rfl
  rw [cellsI] at h6
  obtain ⟨a6, e6, _, _⟩ := DataW.trod_int Tryz.underlying3 h6
  have h7 : DataW.trod enc Tryz.prog w base sp held n 3 (([c0, c1, c2, c3, c4, c5, c6, c7].drop 7).take (Tryz.prog.cellsOf 3)) = some y7 := hF 7 _ rfl
  rw [cellsI] at h7
  obtain ⟨a7, e7, _, _⟩ := DataW.trod_int Tryz.underlying3 h7
  simp at e0 e1 e2 e3 e4 e5 e6 e7
  subst e0 e1 e2 e3 e4 e5 e6 e7
  refine ⟨a0, a1, a2, a3, a4, a5, a6, a7, ?_⟩
  have : cs = ([.int .i64 a0, .int .i64 a1, .int .i64 a2, .int .i64 a3, .int .i64 a4, .int .i64 a5, .int .i64 a6, .int .i64 a7] : List Value).toArray := by rw [← hcs]
  rw [this]
end
end Go.Proofs.YtpbbgbjgndikdaaGreatDoor.mee
