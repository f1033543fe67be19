/- How an order that comes in is read. -/
import Derived.Test.YtnjpjieedgmffaaQueArg
import Derived.Test.YtnjpjieedgmffaaMeeOrd
namespace Go.Proofs.Ytnjpjieedgmffaa.mee
open Go.ChangeShapes Go.WideShapes Go.ChangeAt Go.RowKit Go.Proofs.Ytnjpjieedgmffaa.que

theorem list8 {α : Type} {l : List α} (h : l.length = 8) : ∃ c0 c1 c2 c3 c4 c5 c6 c7, l = [c0, c1, c2, c3, c4, c5, c6, c7] := by
  match l, h with
  | [c0, c1, c2, c3, c4, c5, c6, c7], _ => exact ⟨c0, c1, c2, c3, c4, c5, c6, c7, rfl⟩
theorem cellsO : Try.prog.cellsOf 26 = 8 := by kernel_rfl
section
variable {H : Type} {enc : TypeId × Value → H} {w : World} {base : Nat} {sp : Nat → Bool} {held : Bool}
set_option maxRecDepth 100000 in
theorem open_order {r : Reach} {b0 : Nat} {v : Value} {d : DataW H} {ps : List MemPlace} (hv : Value.okWide Try.prog w r b0 26 v) (h : DataW.Trod enc Try.prog w base sp held 26 v d ps) :
    ∃ a b c e p q s t : Int, v = .agg #[.int .i64 a, .int .i64 b, .int .i64 c, .int .i64 e, .int .i64 p, .int .i64 q, .int .i64 s, .int .i64 t] := by
  obtain ⟨cs, rfl, hsz⟩ := okWide_struct Try.underlying26 hv
  obtain ⟨fuel, hf⟩ := h
  have hl : cs.toList.length = 8 := by simpa using hsz.trans cellsO
  have hf' : DataW.trod enc Try.prog w base sp held fuel 26 cs.toList = some (d, ps) := by simpa [Value.cells] using hf
  obtain ⟨c0, c1, c2, c3, c4, c5, c6, c7, hcs⟩ := list8 hl
  rw [hcs] at hf'
  obtain ⟨xs, n, _, hx, _, hlen, hF⟩ := DataW.trod_struct Try.underlying26 hf'
  obtain ⟨y0, y1, y2, y3, y4, y5, y6, y7, rfl⟩ := list8 hlen
  have h0 : DataW.trod enc Try.prog w base sp held n 3 (([c0, c1, c2, c3, c4, c5, c6, c7].drop 0).take (Try.prog.cellsOf 3)) = some y0 := hF 0 _ rfl
  rw [cellsI] at h0
  obtain ⟨a0, e0, _, _⟩ := DataW.trod_int Try.underlying3 h0
  have h1 : DataW.trod enc Try.prog w base sp held n 3 (([c0, c1, c2, c3, c4, c5, c6, c7].drop 1).take (Try.prog.cellsOf 3)) = some y1 := hF 1 _ rfl
  rw [cellsI] at h1
  obtain ⟨a1, e1, _, _⟩ := DataW.trod_int Try.underlying3 h1
  have h2 : DataW.trod enc Try.prog w base sp held n 3 (([c0, c1, c2, c3, c4, c5, c6, c7].drop 2).take (Try.prog.cellsOf 3)) = some y2 := hF 2 _ rfl
  rw [cellsI] at h2
  obtain ⟨a2, e2, _, _⟩ := DataW.trod_int Try.underlying3 h2
  have h3 : DataW.trod enc Try.prog w base sp held n 3 (([c0, c1, c2, c3, c4, c5, c6, c7].drop 3).take (Try.prog.cellsOf 3)) = some y3 := hF 3 _ rfl
  rw [cellsI] at h3
  obtain ⟨a3, e3, _, _⟩ := DataW.trod_int Try.underlying3 h3
  have h4 : DataW.trod enc Try.prog w base sp held n 3 (([c0, c1, c2, c3, c4, c5, c6, c7].drop 4).take (Try.prog.cellsOf 3)) = some y4 := hF 4 _ rfl
  rw [cellsI] at h4
  obtain ⟨a4, e4, _, _⟩ := DataW.trod_int Try.underlying3 h4
  have h5 : DataW.trod enc Try.prog w base sp held n 3 (([c0, c1, c2, c3, c4, c5, c6, c7].drop 5).take (Try.prog.cellsOf 3)) = some y5 := hF 5 _ rfl
  rw [cellsI] at h5
  obtain ⟨a5, e5, _, _⟩ := DataW.trod_int Try.underlying3 h5
  have h6 : DataW.trod enc Try.prog w base sp held n 3 (([c0, c1, c2, c3, c4, c5, c6, c7].drop 6).take (Try.prog.cellsOf 3)) = some y6 := hF 6 _ rfl
  rw [cellsI] at h6
  obtain ⟨a6, e6, _, _⟩ := DataW.trod_int Try.underlying3 h6
  have h7 : DataW.trod enc Try.prog w base sp held n 3 (([c0, c1, c2, c3, c4, c5, c6, c7].drop 7).take (Try.prog.cellsOf 3)) = some y7 := hF 7 _ rfl
  rw [cellsI] at h7
  obtain ⟨a7, e7, _, _⟩ := DataW.trod_int Try.underlying3 h7
  simp at e0 e1 e2 e3 e4 e5 e6 e7
  subst e0 e1 e2 e3 e4 e5 e6 e7
  refine ⟨a0, a1, a2, a3, a4, a5, a6, a7, ?_⟩
  have : cs = ([.int .i64 a0, .int .i64 a1, .int .i64 a2, .int .i64 a3, .int .i64 a4, .int .i64 a5, .int .i64 a6, .int .i64 a7] : List Value).toArray := by rw [← hcs]
  rw [this]
end
end Go.Proofs.Ytnjpjieedgmffaa.mee
