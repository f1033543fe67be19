/- BookTells, whatever comes in. How a slice of rests that comes in is read. How a side that comes in is read: a slice of levels, each with a slice of rests. How a book that comes in is read: a struct of two slices of levels. -/
import Derived.Test.YtmgodofnhjmbfaaGreatDoorBTBad
import Derived.Test.YtmgodofnhjmbfaaGreatDoorBTGood
import Derived.Test.YtmgodofnhjmbfaaGreatDoorRows
import Derived.Test.YtmgodofnhjmbfaaGreatDoorQueFind
import Derived.OpenShut
import Derived.Deep.Slices
import Derived.Carry
import Derived.Test.YtmgodofnhjmbfaaGreatDoorSidMap
namespace Go.Proofs.YtmgodofnhjmbfaaGreatDoor.bookTells
open Go.RowKit Go.Proofs.YtmgodofnhjmbfaaGreatDoor.sid Go.Proofs.YtmgodofnhjmbfaaGreatDoor.bok

theorem walk {w : World} (q1 q2 : Option Addr) (n1 n2 c1 c2 : Nat) (bs ss : List L) (h1 : LS w (.slice q1 n1 c1) bs) (h2 : LS w (.slice q2 n2 c2) ss) (s p r1 r2 r3 r4 r5 id : Int) (hid : (Lit.int .i64 id).wf = true) (B : World) (hI : told.Inv B w) (hT : bld.Tab w) :
    Calls Tryz.prog 3 #[.agg #[.slice q1 n1 c1, .slice q2 n2 c2], .int .i64 s, .int .i64 p, .agg #[.int .i64 r1, .int .i64 r2, .int .i64 r3, .int .i64 r4, .int .i64 r5], .int .i64 id] w fun e w' => e = .returned (.bool true) ∧ told.Inv B w' := by
  by_cases h0 : bookE bs ss = 0
  · exact (bokt.bt_good q1 q2 n1 n2 c1 c2 bs ss s p r1 r2 r3 r4 r5 id w hI.laid h1 h2 hT h0 hid).mono fun _ _ h => ⟨h.1, hI.on h.2⟩
  · exact (bokt.bt_bad q1 q2 n1 n2 c1 c2 bs ss s p r1 r2 r3 r4 r5 id w hI.laid h1 h2 h0).mono fun _ _ h => ⟨h.1, hI.on h.2⟩

end Go.Proofs.YtmgodofnhjmbfaaGreatDoor.bookTells
namespace Go.Proofs.YtmgodofnhjmbfaaGreatDoor.que
open Go.ChangeShapes Go.WideShapes Go.ChangeAt Go.RowKit Go.Deep

theorem list5 {α : Type} {l : List α} (h : l.length = 5) : ∃ c0 c1 c2 c3 c4, l = [c0, c1, c2, c3, c4] := by
  match l, h with
  | [c0, c1, c2, c3, c4], _ => exact ⟨c0, c1, c2, c3, c4, rfl⟩

theorem cellsR : Tryz.prog.cellsOf 26 = 5 := by kernel_rfl
theorem cellsI : Tryz.prog.cellsOf 3 = 1 := by kernel_rfl

section
variable {H : Type} {enc : TypeId × Value → H} {w : World} {base : Nat} {sp : Nat → Bool} {held : Bool}

set_option maxRecDepth 100000 in
theorem open_rest_cells {n : Nat} {cs : List Value} {x : DataW H × List MemPlace} (h : DataW.trod enc Tryz.prog w base sp held n 26 cs = some x) (hl : cs.length = 5) :
    ∃ r : R, cs = rV r := by
  obtain ⟨c0, c1, c2, c3, c4, rfl⟩ := list5 hl
  obtain ⟨xs, n, _, hx, _, hlen, hF⟩ := DataW.trod_struct Tryz.underlying26 h
  obtain ⟨y0, y1, y2, y3, y4, rfl⟩ := list5 hlen
  have h0 : DataW.trod enc Tryz.prog w base sp held n 3 (([c0, c1, c2, c3, c4].drop 0).take (Tryz.prog.cellsOf 3)) = some y0 := hF 0 _ rfl
  rw [cellsI] at h0
  obtain ⟨a0, e0, _, _⟩ := DataW.trod_int Tryz.underlying3 h0
  have h1 : DataW.trod enc Tryz.prog w base sp held n 3 (([c0, c1, c2, c3, c4].drop 1).take (Tryz.prog.cellsOf 3)) = some y1 := hF 1 _ rfl
  rw [cellsI] at h1
  obtain ⟨a1, e1, _, _⟩ := DataW.trod_int Tryz.underlying3 h1
  have h2 : DataW.trod enc Tryz.prog w base sp held n 3 (([c0, c1, c2, c3, c4].drop 2).take (Tryz.prog.cellsOf 3)) = some y2 := hF 2 _ rfl
  rw [cellsI] at h2
  obtain ⟨a2, e2, _, _⟩ := DataW.trod_int Tryz.underlying3 h2
  have h3 : DataW.trod enc Tryz.prog w base sp held n 3 (([c0, c1, c2, c3, c4].drop 3).take (Tryz.prog.cellsOf 3)) = some y3 := hF 3 _ rfl
  rw [cellsI] at h3
  obtain ⟨a3, e3, _, _⟩ := DataW.trod_int Tryz.underlying3 h3
  have h4 : DataW.trod enc Tryz.prog w base sp held n 3 (([c0, c1, c2, c3, c4].drop 4).take (Tryz.prog.cellsOf 3)) = some y4 := hF 4 _ rfl
  rw [cellsI] at h4
  obtain ⟨a4, e4, _, _⟩ := DataW.trod_int Tryz.underlying3 h4
  simp at e0 e1 e2 e3 e4
  subst e0 e1 e2 e3 e4
  exact ⟨⟨a0, a1, a2, a3, a4⟩, rfl⟩

set_option maxRecDepth 100000 in
/-- A rest that comes in. -/
theorem open_rest {r : Reach} {b0 : Nat} {v : Value} {d : DataW H} {ps : List MemPlace} (hv : Value.okWide Tryz.prog w r b0 26 v) (h : DataW.Trod enc Tryz.prog w base sp held 26 v d ps) :
    ∃ r : R, v = .agg #[.int .i64 r.id, .int .i64 r.who, .int .i64 r.qty, .int .i64 r.hid, .int .i64 r.shw] := by
  obtain ⟨cs, rfl, hsz⟩ := okWide_struct Tryz.underlying26 hv
  obtain ⟨fuel, hf⟩ := h
  obtain ⟨r, hr⟩ := open_rest_cells hf (by simpa [Value.cells] using hsz.trans cellsR)
  refine ⟨r, ?_⟩
  have : cs.toList = rV r := by simpa [Value.cells] using hr
  rw [show cs = (rV r).toArray from by rw [← this]]
  rfl

set_option maxRecDepth 100000 in
/-- What a slice value of any element type that comes in is: nil, or it lies in a block of memory. -/
theorem okWide_slice_lies {r : Reach} {b0 : Nat} {t e : TypeId} {v : Value} (ht : Tryz.prog.underlying t = some (.slice e)) (hv : Value.okWide Tryz.prog w r b0 t v) :
    v = .slice none 0 0 ∨ ∃ b o len cap, v = .slice (some ⟨b, o, none⟩) len cap ∧ len ≤ cap ∧ cap ≤ 9223372036854775807 ∧ b < w.heap.size := by
  obtain ⟨a, len, cap, rfl⟩ := okWide_slice ht hv
  simp only [Value.okWide, ht, Cell.okWide] at hv
  cases a with
  | none =>
    left
    cases len with
    | zero =>
      cases cap with
      | zero => rfl
      | succ c => simp [Cell.ok, ht] at hv
    | succ l => simp [Cell.ok, ht] at hv
  | some a =>
    right
    simp only [Cell.ok, ht] at hv
    obtain ⟨h1, h2, _, h4, row, cells, h5, _⟩ := hv
    obtain ⟨b, o, s⟩ := a
    simp only at h4 h5
    subst h4
    refine ⟨b, o, len, cap, rfl, h1, ?_, ?_⟩
    · have : IntKind.i64.max = 9223372036854775807 := rfl
      rw [this] at h2
      omega
    · unfold World.shape? at h5
      split at h5
      · rename_i hh
        exact (Array.getElem?_eq_some_iff.1 hh).1
      · cases h5

set_option maxRecDepth 100000 in
theorem open_rests {r : Reach} {b0 : Nat} {v : Value} {d : DataW H} {ps : List MemPlace} (hv : Value.okWide Tryz.prog w r b0 32 v) (h : DataW.Trod enc Tryz.prog w base sp held 32 v d ps) :
    ∃ zs : List R, SL w v zs := by
  rcases okWide_slice_lies Tryz.underlying32 hv with rfl | ⟨b, o, len, cap, rfl, hl, hm, hb⟩
  · exact ⟨[], .inl ⟨rfl, rfl⟩⟩
  obtain ⟨fuel, hf⟩ := h
  rcases open_slice Tryz.underlying32 hf with ⟨hcs, _⟩ | ⟨a, len', cap', m, n, D, Pl, hcs, _, hl', _, hmm, _, hx⟩
  · simp [Value.cells] at hcs
  simp [Value.cells] at hcs
  obtain ⟨rfl, rfl, rfl⟩ := hcs
  have hlm : len ≤ m := by rw [hmm]; split <;> omega
  obtain ⟨f, hf2⟩ := choose_lt (α := R) (n := len) (p := fun i r => ∀ k v, (rV r)[k]? = some v → w.cell? ⟨b, o + i * 5 + k, none⟩ = some v) (fun i hi => by
    obtain ⟨cs', h1, h2⟩ := hx i (by omega)
    rw [cellsR] at h1
    obtain ⟨_, hlen, hcell⟩ := World.cells?_some h1
    obtain ⟨r, rfl⟩ := open_rest_cells h2 hlen
    refine ⟨r, fun k v hk => ?_⟩
    have hk5 : k < 5 := (List.getElem?_eq_some_iff.1 hk).1
    have := hcell k hk5
    rw [hk, Addr.add_lit, Addr.add_lit] at this
    exact this)
  refine ⟨(List.range len).map f, .inr ⟨b, o, cap, by simp, by simpa using hl, hm, hb, ?_⟩⟩
  intro j hj k v hk
  have hj' : j < len := by simpa using hj
  rw [getE _ _ hj] at hk
  simp only [List.getElem_map, List.getElem_range] at hk
  exact hf2 j hj' k v hk
end

theorem laidOut : laidOutB Tryz.prog = true := by kernel_rfl

end Go.Proofs.YtmgodofnhjmbfaaGreatDoor.que
namespace Go.Proofs.YtmgodofnhjmbfaaGreatDoor.sid
open Go.ChangeShapes Go.WideShapes Go.ChangeAt Go.RowKit Go.Deep Go.Proofs.YtmgodofnhjmbfaaGreatDoor.que

theorem cellsL : Tryz.prog.cellsOf 34 = 2 := by kernel_rfl
theorem cellsS : Tryz.prog.cellsOf 32 = 1 := by kernel_rfl
theorem list2 {α : Type} {l : List α} (h : l.length = 2) : ∃ c0 c1, l = [c0, c1] := by
  match l, h with
  | [c0, c1], _ => exact ⟨c0, c1, rfl⟩
/-- An address at which a cell is read is one of a block. -/
theorem addr_plain {w : World} {a : Addr} {v : Value} (h : w.cell? a = some v) : a.spot = none ∧ a.block < w.heap.size := by
  refine ⟨?_, World.block_lt_of_cell? w a h⟩
  obtain ⟨b, o, s⟩ := a
  cases s with
  | none => rfl
  | some s =>
    exfalso
    simp only [World.cell?] at h
    split at h
    · simp at h
    · cases h

section
variable {H : Type} {enc : TypeId × Value → H} {w : World} {base : Nat} {sp : Nat → Bool} {held : Bool}

set_option maxRecDepth 100000 in
/-- Rests within a level. -/
theorem open_rests_in {n : Nat} {v : Value} {x : DataW H × List MemPlace} (h : DataW.trod enc Tryz.prog w base sp held n 32 [v] = some x) : ∃ zs : List R, SLe w v zs := by
  rcases open_slice Tryz.underlying32 h with ⟨hcs, _⟩ | ⟨a, len, cap, m, n, D, Pl, hcs, _, hl, hcap, hmm, _, hx⟩
  · simp at hcs
    exact ⟨[], .inl (.inl ⟨hcs, rfl⟩)⟩
  simp at hcs
  subst hcs
  by_cases hz : len = 0
  · subst hz
    exact ⟨[], .inr ⟨rfl, _, _, rfl⟩⟩
  have hlm : len ≤ m := by rw [hmm]; split <;> omega
  obtain ⟨hspot, hb⟩ : a.spot = none ∧ a.block < w.heap.size := by
    obtain ⟨cs', h1, h2⟩ := hx 0 (by omega)
    rw [cellsR] at h1
    obtain ⟨_, hlen, hcell⟩ := World.cells?_some h1
    have := hcell 0 (by omega)
    rw [List.getElem?_eq_getElem (by omega)] at this
    rw [Nat.zero_mul, show (a.add 0).add 0 = a from rfl] at this
    exact addr_plain this
  obtain ⟨b, o, s⟩ := a
  simp only at hspot hb
  subst hspot
  obtain ⟨f, hf2⟩ := choose_lt (α := R) (n := len) (p := fun i r => ∀ k v, (rV r)[k]? = some v → w.cell? ⟨b, o + i * 5 + k, none⟩ = some v) (fun i hi => by
    obtain ⟨cs', h1, h2⟩ := hx i (by omega)
    rw [cellsR] at h1
    obtain ⟨_, hlen, hcell⟩ := World.cells?_some h1
    obtain ⟨r, rfl⟩ := open_rest_cells h2 hlen
    refine ⟨r, fun k v hk => ?_⟩
    have hk5 : k < 5 := (List.getElem?_eq_some_iff.1 hk).1
    have := hcell k hk5
    rw [hk, Addr.add_lit, Addr.add_lit] at this
    exact this)
  refine ⟨(List.range len).map f, .inl (.inr ⟨b, o, cap, by simp, by simpa using hl, by simpa [maxLen] using hcap, hb, ?_⟩)⟩
  intro j hj k v hk
  have hj' : j < len := by simpa using hj
  rw [getE _ _ hj] at hk
  simp only [List.getElem_map, List.getElem_range] at hk
  exact hf2 j hj' k v hk

set_option maxRecDepth 100000 in
theorem open_level_cells {n : Nat} {cs : List Value} {x : DataW H × List MemPlace} (h : DataW.trod enc Tryz.prog w base sp held n 34 cs = some x) (hl : cs.length = 2) :
    ∃ (l : L) (v : Value), cs = [.int .i64 l.price, v] ∧ SLe w v l.rests := by
  obtain ⟨c0, c1, rfl⟩ := list2 hl
  obtain ⟨xs, n, _, hx, _, hlen, hF⟩ := DataW.trod_struct Tryz.underlying34 h
  obtain ⟨y0, y1, rfl⟩ := list2 hlen
  have h0 : DataW.trod enc Tryz.prog w base sp held n 3 (([c0, c1].drop 0).take (Tryz.prog.cellsOf 3)) = some y0 := hF 0 _ rfl
  rw [cellsI] at h0
  obtain ⟨a0, e0, _, _⟩ := DataW.trod_int Tryz.underlying3 h0
  have h1 : DataW.trod enc Tryz.prog w base sp held n 32 (([c0, c1].drop 1).take (Tryz.prog.cellsOf 32)) = some y1 := hF 1 _ rfl
  rw [cellsS] at h1
  have h1' : DataW.trod enc Tryz.prog w base sp held n 32 [c1] = some y1 := h1
  obtain ⟨zs, hzs⟩ := open_rests_in h1'
  simp at e0
  subst e0
  exact ⟨⟨a0, zs⟩, c1, rfl, hzs⟩

set_option maxRecDepth 100000 in
/-- A side that comes in. -/
theorem open_levels_cell {n : Nat} {v : Value} {x : DataW H × List MemPlace} (hv : v = .slice none 0 0 ∨ ∃ b o len cap, v = .slice (some ⟨b, o, none⟩) len cap ∧ len ≤ cap ∧ cap ≤ 9223372036854775807 ∧ b < w.heap.size) (hf : DataW.trod enc Tryz.prog w base sp held n 22 v.cells.toList = some x) :
    ∃ ls : List L, LS w v ls := by
  rcases hv with rfl | ⟨b, o, len, cap, rfl, hl, hm, hb⟩
  · exact ⟨[], .inl ⟨rfl, rfl⟩⟩
  rcases open_slice Tryz.underlying22 hf with ⟨hcs, _⟩ | ⟨a, len', cap', m, n, D, Pl, hcs, _, hl', _, hmm, _, hx⟩
  · simp [Value.cells] at hcs
  simp [Value.cells] at hcs
  obtain ⟨rfl, rfl, rfl⟩ := hcs
  have hlm : len ≤ m := by rw [hmm]; split <;> omega
  obtain ⟨f, hf2⟩ := choose_lt (α := L) (n := len) (p := fun i l => w.cell? ⟨b, o + i * 2, none⟩ = some (.int .i64 l.price) ∧ ∃ v, w.cell? ⟨b, o + i * 2 + 1, none⟩ = some v ∧ SLe w v l.rests) (fun i hi => by
    obtain ⟨cs', h1, h2⟩ := hx i (by omega)
    rw [cellsL] at h1
    obtain ⟨_, hlen, hcell⟩ := World.cells?_some h1
    obtain ⟨l, v, rfl, hv⟩ := open_level_cells h2 hlen
    have g0 := hcell 0 (by omega)
    have g1 := hcell 1 (by omega)
    rw [Addr.add_lit, Addr.add_lit] at g0 g1
    exact ⟨l, by simpa using g0, v, by simpa using g1, hv⟩)
  refine ⟨(List.range len).map f, .inr ⟨b, o, cap, by simp, by simpa using hl, hm, hb, ?_⟩⟩
  intro j hj
  have hj' : j < len := by simpa using hj
  rw [getE _ _ hj]
  simp only [List.getElem_map, List.getElem_range]
  exact hf2 j hj'
set_option maxRecDepth 100000 in
theorem open_levels {r : Reach} {b0 : Nat} {v : Value} {d : DataW H} {ps : List MemPlace} (hv : Value.okWide Tryz.prog w r b0 22 v) (h : DataW.Trod enc Tryz.prog w base sp held 22 v d ps) : ∃ ls : List L, LS w v ls := by
  obtain ⟨fuel, hf⟩ := h
  exact open_levels_cell (okWide_slice_lies Tryz.underlying22 hv) hf
end
end Go.Proofs.YtmgodofnhjmbfaaGreatDoor.sid
namespace Go.Proofs.YtmgodofnhjmbfaaGreatDoor.bok
open Go.ChangeShapes Go.WideShapes Go.ChangeAt Go.RowKit Go.Deep Go.Proofs.YtmgodofnhjmbfaaGreatDoor.que Go.Proofs.YtmgodofnhjmbfaaGreatDoor.sid

theorem cellsB : Tryz.prog.cellsOf 24 = 2 := by kernel_rfl
theorem cellsSL : Tryz.prog.cellsOf 22 = 1 := by kernel_rfl
theorem typesB : Tryz.prog.cellTypes Tryz.prog.depth 24 = some [22, 22] := by kernel_rfl
section
variable {H : Type} {enc : TypeId × Value → H} {w : World} {base : Nat} {sp : Nat → Bool} {held : Bool}

set_option maxRecDepth 100000 in
theorem okWide_lev {r : Reach} {b0 : Nat} {v : Value} (h : Cell.okWide Tryz.prog w r b0 22 v) : Value.okWide Tryz.prog w r b0 22 v := by
  simp only [Value.okWide, Tryz.underlying22]
  exact h
theorem slice_cells {v : Value} (h : v = .slice none 0 0 ∨ ∃ b o len cap, v = .slice (some ⟨b, o, none⟩) len cap ∧ len ≤ cap ∧ cap ≤ 9223372036854775807 ∧ b < w.heap.size) : v.cells.toList = [v] ∧ ∃ q n c, v = .slice q n c := by
  rcases h with rfl | ⟨b, o, len, cap, rfl, -, -, -⟩
  · exact ⟨rfl, _, _, _, rfl⟩
  · exact ⟨rfl, _, _, _, rfl⟩
set_option maxRecDepth 100000 in
/-- A book that comes in. -/
theorem open_book {r : Reach} {b0 : Nat} {v : Value} {d : DataW H} {ps : List MemPlace} (hv : Value.okWide Tryz.prog w r b0 24 v) (h : DataW.Trod enc Tryz.prog w base sp held 24 v d ps) :
    ∃ q1 q2 n1 n2 c1 c2 bs ss, v = .agg #[.slice q1 n1 c1, .slice q2 n2 c2] ∧ LS w (.slice q1 n1 c1) bs ∧ LS w (.slice q2 n2 c2) ss := by
  simp only [Value.okWide, Tryz.underlying24] at hv
  obtain ⟨cs, rfl, hsz, ts, hts, -, hrow⟩ := hv
  rw [typesB] at hts
  have hts' := (Option.some.inj hts).symm
  subst hts'
  obtain ⟨c0, c1, hcs⟩ := list2 (l := cs.toList) (by rw [Array.length_toList]; exact hsz.trans cellsB)
  have hcs2 : cs = #[c0, c1] := by rw [← Array.toArray_toList (xs := cs), hcs]
  subst hcs2
  have k0 : Cell.okWide Tryz.prog w r b0 22 c0 := by
    obtain ⟨u, hu, hc⟩ := hrow 0 c0 rfl
    have : u = 22 := by simpa using hu.symm
    rw [this] at hc; exact hc
  have k1 : Cell.okWide Tryz.prog w r b0 22 c1 := by
    obtain ⟨u, hu, hc⟩ := hrow 1 c1 rfl
    have : u = 22 := by simpa using hu.symm
    rw [this] at hc; exact hc
  have f0 := okWide_slice_lies Tryz.underlying22 (okWide_lev k0)
  have f1 := okWide_slice_lies Tryz.underlying22 (okWide_lev k1)
  obtain ⟨fuel, hf⟩ := h
  have hf' : DataW.trod enc Tryz.prog w base sp held fuel 24 [c0, c1] = some (d, ps) := hf
  obtain ⟨xs, n, _, hx, _, hlen, hF⟩ := DataW.trod_struct Tryz.underlying24 hf'
  obtain ⟨y0, y1, rfl⟩ := list2 hlen
  have h0 : DataW.trod enc Tryz.prog w base sp held n 22 (([c0, c1].drop 0).take (Tryz.prog.cellsOf 22)) = some y0 := hF 0 _ rfl
  have h1 : DataW.trod enc Tryz.prog w base sp held n 22 (([c0, c1].drop 1).take (Tryz.prog.cellsOf 22)) = some y1 := hF 1 _ rfl
  rw [cellsSL] at h0 h1
  have h0' : DataW.trod enc Tryz.prog w base sp held n 22 [c0] = some y0 := h0
  have h1' : DataW.trod enc Tryz.prog w base sp held n 22 [c1] = some y1 := h1
  obtain ⟨e0, q1, n1, d1, hc0⟩ := slice_cells f0
  obtain ⟨e1, q2, n2, d2, hc1⟩ := slice_cells f1
  obtain ⟨bs, hbs⟩ := open_levels_cell f0 (by rw [e0]; exact h0')
  obtain ⟨ss, hss⟩ := open_levels_cell f1 (by rw [e1]; exact h1')
  subst hc0
  subst hc1
  exact ⟨q1, q2, n1, n2, d1, d2, bs, ss, rfl, hbs, hss⟩
end
end Go.Proofs.YtmgodofnhjmbfaaGreatDoor.bok
