/- How a side that comes in is read: a slice of levels, each with a slice of rests. How a book that comes in is read: a struct of two slices of levels. Plain facts on the map of places: what it holds behind some stores. No walk. -/
import Derived.Test.YtjphhieloicdeaaQueArg
import Derived.Test.YtjphhieloicdeaaSidCnt
import Derived.Maps.OwnSet
namespace Go.Proofs.Ytjphhieloicdeaa.sid
open Go.ChangeShapes Go.WideShapes Go.ChangeAt Go.RowKit Go.Deep Go.Proofs.Ytjphhieloicdeaa.que

theorem cellsL : Try.prog.cellsOf 29 = 2 := by kernel_rfl
theorem cellsS : Try.prog.cellsOf 27 = 1 := by kernel_rfl
theorem list2 {α : Type} {l : List α} (h : l.length = 2) : ∃ c0 c1, l = [c0, c1] := by
  match l, h with
  | [c0, c1], _ => exact ⟨c0, c1, rfl⟩
/-- An address at which a cell is read is one of a block. -/
theorem addr_plain {w : World} {a : Addr} {v : Value} (h : w.cell? a = some v) : a.spot = none ∧ a.block < w.heap.size := by
  refine ⟨?_, World.block_lt_of_cell? w a h⟩
  obtain ⟨b, o, s⟩ := a
  cases s with
  | none => rfl
  | some s =>
    exfalso
    simp only [World.cell?] at h
    split at h
    · simp at h
    · cases h

section
variable {H : Type} {enc : TypeId × Value → H} {w : World} {base : Nat} {sp : Nat → Bool} {held : Bool}

set_option maxRecDepth 100000 in
/-- Rests within a level. -/
theorem open_rests_in {n : Nat} {v : Value} {x : DataW H × List MemPlace} (h : DataW.trod enc Try.prog w base sp held n 27 [v] = some x) : ∃ zs : List R, SLe w v zs := by
  rcases open_slice Try.underlying27 h with ⟨hcs, _⟩ | ⟨a, len, cap, m, n, D, Pl, hcs, _, hl, hcap, hmm, _, hx⟩
  · simp at hcs
    exact ⟨[], .inl (.inl ⟨hcs, rfl⟩)⟩
  simp at hcs
  subst hcs
  by_cases hz : len = 0
  · subst hz
    exact ⟨[], .inr ⟨rfl, _, _, rfl⟩⟩
  have hlm : len ≤ m := by rw [hmm]; split <;> omega
  obtain ⟨hspot, hb⟩ : a.spot = none ∧ a.block < w.heap.size := by
    obtain ⟨cs', h1, h2⟩ := hx 0 (by omega)
    rw [cellsR] at h1
    obtain ⟨_, hlen, hcell⟩ := World.cells?_some h1
    have := hcell 0 (by omega)
    rw [List.getElem?_eq_getElem (by omega)] at this
    rw [Nat.zero_mul, show (a.add 0).add 0 = a from rfl] at this
    exact addr_plain this
  obtain ⟨b, o, s⟩ := a
  simp only at hspot hb
  subst hspot
  obtain ⟨f, hf2⟩ := choose_lt (α := R) (n := len) (p := fun i r => ∀ k v, (rV r)[k]? = some v → w.cell? ⟨b, o + i * 5 + k, none⟩ = some v) (fun i hi => by
    obtain ⟨cs', h1, h2⟩ := hx i (by omega)
    rw [cellsR] at h1
    obtain ⟨_, hlen, hcell⟩ := World.cells?_some h1
    obtain ⟨r, rfl⟩ := open_rest_cells h2 hlen
    refine ⟨r, fun k v hk => ?_⟩
    have hk5 : k < 5 := (List.getElem?_eq_some_iff.1 hk).1
    have := hcell k hk5
    rw [hk, Addr.add_lit, Addr.add_lit] at this
    exact this)
  refine ⟨(List.range len).map f, .inl (.inr ⟨b, o, cap, by simp, by simpa using hl, by simpa [maxLen] using hcap, hb, ?_⟩)⟩
  intro j hj k v hk
  have hj' : j < len := by simpa using hj
  rw [getE _ _ hj] at hk
  simp only [List.getElem_map, List.getElem_range] at hk
  exact hf2 j hj' k v hk

set_option maxRecDepth 100000 in
theorem open_level_cells {n : Nat} {cs : List Value} {x : DataW H × List MemPlace} (h : DataW.trod enc Try.prog w base sp held n 29 cs = some x) (hl : cs.length = 2) :
    ∃ (l : L) (v : Value), cs = [.int .i64 l.price, v] ∧ SLe w v l.rests := by
  obtain ⟨c0, c1, rfl⟩ := list2 hl
  obtain ⟨xs, n, _, hx, _, hlen, hF⟩ := DataW.trod_struct Try.underlying29 h
  obtain ⟨y0, y1, rfl⟩ := list2 hlen
  have h0 : DataW.trod enc Try.prog w base sp held n 3 (([c0, c1].drop 0).take (Try.prog.cellsOf 3)) = some y0 := hF 0 _ rfl
  rw [cellsI] at h0
  obtain ⟨a0, e0, _, _⟩ := DataW.trod_int Try.underlying3 h0
  have h1 : DataW.trod enc Try.prog w base sp held n 27 (([c0, c1].drop 1).take (Try.prog.cellsOf 27)) = some y1 := hF 1 _ rfl
  rw [cellsS] at h1
  have h1' : DataW.trod enc Try.prog w base sp held n 27 [c1] = some y1 := h1
  obtain ⟨zs, hzs⟩ := open_rests_in h1'
  simp at e0
  subst e0
  exact ⟨⟨a0, zs⟩, c1, rfl, hzs⟩

set_option maxRecDepth 100000 in
/-- A side that comes in. -/
theorem open_levels_cell {n : Nat} {v : Value} {x : DataW H × List MemPlace} (hv : v = .slice none 0 0 ∨ ∃ b o len cap, v = .slice (some ⟨b, o, none⟩) len cap ∧ len ≤ cap ∧ cap ≤ 9223372036854775807 ∧ b < w.heap.size) (hf : DataW.trod enc Try.prog w base sp held n 22 v.cells.toList = some x) :
    ∃ ls : List L, LS w v ls := by
  rcases hv with rfl | ⟨b, o, len, cap, rfl, hl, hm, hb⟩
  · exact ⟨[], .inl ⟨rfl, rfl⟩⟩
  rcases open_slice Try.underlying22 hf with ⟨hcs, _⟩ | ⟨a, len', cap', m, n, D, Pl, hcs, _, hl', _, hmm, _, hx⟩
  · simp [Value.cells] at hcs
  simp [Value.cells] at hcs
  obtain ⟨rfl, rfl, rfl⟩ := hcs
  have hlm : len ≤ m := by rw [hmm]; split <;> omega
  obtain ⟨f, hf2⟩ := choose_lt (α := L) (n := len) (p := fun i l => w.cell? ⟨b, o + i * 2, none⟩ = some (.int .i64 l.price) ∧ ∃ v, w.cell? ⟨b, o + i * 2 + 1, none⟩ = some v ∧ SLe w v l.rests) (fun i hi => by
    obtain ⟨cs', h1, h2⟩ := hx i (by omega)
    rw [cellsL] at h1
    obtain ⟨_, hlen, hcell⟩ := World.cells?_some h1
    obtain ⟨l, v, rfl, hv⟩ := open_level_cells h2 hlen
    have g0 := hcell 0 (by omega)
    have g1 := hcell 1 (by omega)
    rw [Addr.add_lit, Addr.add_lit] at g0 g1
    exact ⟨l, by simpa using g0, v, by simpa using g1, hv⟩)
  refine ⟨(List.range len).map f, .inr ⟨b, o, cap, by simp, by simpa using hl, hm, hb, ?_⟩⟩
  intro j hj
  have hj' : j < len := by simpa using hj
  rw [getE _ _ hj]
  simp only [List.getElem_map, List.getElem_range]
  exact hf2 j hj'
set_option maxRecDepth 100000 in
theorem open_levels {r : Reach} {b0 : Nat} {v : Value} {d : DataW H} {ps : List MemPlace} (hv : Value.okWide Try.prog w r b0 22 v) (h : DataW.Trod enc Try.prog w base sp held 22 v d ps) : ∃ ls : List L, LS w v ls := by
  obtain ⟨fuel, hf⟩ := h
  exact open_levels_cell (okWide_slice_lies Try.underlying22 hv) hf
end
end Go.Proofs.Ytjphhieloicdeaa.sid
namespace Go.Proofs.Ytjphhieloicdeaa.bok
open Go.ChangeShapes Go.WideShapes Go.ChangeAt Go.RowKit Go.Deep Go.Proofs.Ytjphhieloicdeaa.que Go.Proofs.Ytjphhieloicdeaa.sid

theorem cellsB : Try.prog.cellsOf 24 = 2 := by kernel_rfl
theorem cellsSL : Try.prog.cellsOf 22 = 1 := by kernel_rfl
theorem typesB : Try.prog.cellTypes Try.prog.depth 24 = some [22, 22] := by kernel_rfl
section
variable {H : Type} {enc : TypeId × Value → H} {w : World} {base : Nat} {sp : Nat → Bool} {held : Bool}

set_option maxRecDepth 100000 in
theorem okWide_lev {r : Reach} {b0 : Nat} {v : Value} (h : Cell.okWide Try.prog w r b0 22 v) : Value.okWide Try.prog w r b0 22 v := by
  simp only [Value.okWide, Try.underlying22]
  exact h
theorem slice_cells {v : Value} (h : v = .slice none 0 0 ∨ ∃ b o len cap, v = .slice (some ⟨b, o, none⟩) len cap ∧ len ≤ cap ∧ cap ≤ 9223372036854775807 ∧ b < w.heap.size) : v.cells.toList = [v] ∧ ∃ q n c, v = .slice q n c := by
  rcases h with rfl | ⟨b, o, len, cap, rfl, -, -, -⟩
  · exact ⟨rfl, _, _, _, rfl⟩
  · exact ⟨rfl, _, _, _, rfl⟩
set_option maxRecDepth 100000 in
/-- A book that comes in. -/
theorem open_book {r : Reach} {b0 : Nat} {v : Value} {d : DataW H} {ps : List MemPlace} (hv : Value.okWide Try.prog w r b0 24 v) (h : DataW.Trod enc Try.prog w base sp held 24 v d ps) :
    ∃ q1 q2 n1 n2 c1 c2 bs ss, v = .agg #[.slice q1 n1 c1, .slice q2 n2 c2] ∧ LS w (.slice q1 n1 c1) bs ∧ LS w (.slice q2 n2 c2) ss := by
  simp only [Value.okWide, Try.underlying24] at hv
  obtain ⟨cs, rfl, hsz, ts, hts, -, hrow⟩ := hv
  rw [typesB] at hts
  have hts' := (Option.some.inj hts).symm
  subst hts'
  obtain ⟨c0, c1, hcs⟩ := list2 (l := cs.toList) (by rw [Array.length_toList]; exact hsz.trans cellsB)
  have hcs2 : cs = #[c0, c1] := by rw [← Array.toArray_toList (xs := cs), hcs]
  subst hcs2
  have k0 : Cell.okWide Try.prog w r b0 22 c0 := by
    obtain ⟨u, hu, hc⟩ := hrow 0 c0 rfl
    have : u = 22 := by simpa using hu.symm
    rw [this] at hc; exact hc
  have k1 : Cell.okWide Try.prog w r b0 22 c1 := by
    obtain ⟨u, hu, hc⟩ := hrow 1 c1 rfl
    have : u = 22 := by simpa using hu.symm
    rw [this] at hc; exact hc
  have f0 := okWide_slice_lies Try.underlying22 (okWide_lev k0)
  have f1 := okWide_slice_lies Try.underlying22 (okWide_lev k1)
  obtain ⟨fuel, hf⟩ := h
  have hf' : DataW.trod enc Try.prog w base sp held fuel 24 [c0, c1] = some (d, ps) := hf
  obtain ⟨xs, n, _, hx, _, hlen, hF⟩ := DataW.trod_struct Try.underlying24 hf'
  obtain ⟨y0, y1, rfl⟩ := list2 hlen
  have h0 : DataW.trod enc Try.prog w base sp held n 22 (([c0, c1].drop 0).take (Try.prog.cellsOf 22)) = some y0 := hF 0 _ rfl
  have h1 : DataW.trod enc Try.prog w base sp held n 22 (([c0, c1].drop 1).take (Try.prog.cellsOf 22)) = some y1 := hF 1 _ rfl
  rw [cellsSL] at h0 h1
  have h0' : DataW.trod enc Try.prog w base sp held n 22 [c0] = some y0 := h0
  have h1' : DataW.trod enc Try.prog w base sp held n 22 [c1] = some y1 := h1
  obtain ⟨e0, q1, n1, d1, hc0⟩ := slice_cells f0
  obtain ⟨e1, q2, n2, d2, hc1⟩ := slice_cells f1
  obtain ⟨bs, hbs⟩ := open_levels_cell f0 (by rw [e0]; exact h0')
  obtain ⟨ss, hss⟩ := open_levels_cell f1 (by rw [e1]; exact h1')
  subst hc0
  subst hc1
  exact ⟨q1, q2, n1, n2, d1, d2, bs, ss, rfl, hbs, hss⟩
end
end Go.Proofs.Ytjphhieloicdeaa.bok
namespace Go.Proofs.Ytjphhieloicdeaa.sid
open Go.RowKit Go.Proofs.Ytjphhieloicdeaa.spn Go.Proofs.Ytjphhieloicdeaa.que Go.Maps

theorem snocRec {α : Type} {p : List α → Prop} (nil : p []) (snoc : ∀ l x, p l → p (l ++ [x])) (l : List α) : p l := by
  have h : ∀ r : List α, p r.reverse := by
    intro r
    induction r with
    | nil => exact nil
    | cons x t ih => rw [List.reverse_cons]; exact snoc _ _ ih
  have := h l.reverse
  rwa [List.reverse_reverse] at this
/-- A place as the program holds it, and how it reads. -/
def plV (i k : Int) : Value := .agg #[.int .i64 i, .int .i64 k]
def plD (i k : Int) : DataW Unit := .agg [.lit (.int .i64 i), .lit (.int .i64 k)]
def plR (v : Value) : Option (DataW Unit × List MemPlace) :=
  match v with
  | .agg a => match a.toList with
    | [.int .i64 x, .int .i64 y] => some (plD x y, [])
    | _ => none
  | _ => none
theorem plR_mk (i k : Int) : plR (.agg #[.int .i64 i, .int .i64 k]) = some (plD i k, []) := rfl
theorem plR_inv {v : Value} {i k : Int} {ps : List MemPlace} (h : plR v = some (plD i k, ps)) : v = .agg #[.int .i64 i, .int .i64 k] := by
  unfold plR at h
  split at h
  · rename_i a
    split at h
    · rename_i x y e
      simp only [plD, Option.some.injEq, Prod.mk.injEq, DataW.agg.injEq, List.cons.injEq, DataW.lit.injEq, Lit.int.injEq, true_and, and_true] at h
      obtain ⟨⟨rfl, rfl⟩, -⟩ := h
      rw [show a = #[.int .i64 x, .int .i64 y] from by rw [← Array.toArray_toList (xs := a), e]]
    · cases h
  · cases h

/-- The stores, in their order: an id, a level, a place there. -/
abbrev P3 := Int × Int × Int
def mapD (ps : List P3) : DataW Unit := ps.foldl (fun D x => D.put (.int .i64 x.1) (plD x.2.1 x.2.2)) (.map [])
theorem mapD_nil : mapD [] = .map [] := rfl
theorem mapD_snoc (ps : List P3) (x : P3) : mapD (ps ++ [x]) = (mapD ps).put (.int .i64 x.1) (plD x.2.1 x.2.2) := by
  unfold mapD; rw [List.foldl_append]; rfl
theorem isKey (n : Int) : WideAt.IsKeyLit (.int .i64 n) := by simp [WideAt.IsKeyLit]
theorem mapD_tidy (ps : List P3) : Tidy (mapD ps) := by
  induction ps using snocRec with
  | nil => exact tidy_empty
  | snoc ps x ih => rw [mapD_snoc]; exact ih.put (isKey _) _
theorem mapD_has (ps : List P3) (id : Int) : Maps.has (mapD ps) (.int .i64 id) = ps.any (fun x => decide (x.1 = id)) := by
  induction ps using snocRec with
  | nil => rfl
  | snoc ps x ih =>
    rw [mapD_snoc, List.any_append]
    by_cases h : x.1 = id
    · rw [← h, has_put_same (mapD_tidy ps).isMap (isKey _)]; simp
    · rw [has_put_other (by simp; exact fun e => h e.symm), ih]; simp [h]
/-- The last store at an id. -/
def lastAt (ps : List P3) (id : Int) : Option P3 := ps.reverse.find? (fun x => decide (x.1 = id))
theorem mapD_at (ps : List P3) (id : Int) (z : DataW Unit) : (mapD ps).atKey (.int .i64 id) z = match lastAt ps id with | some x => plD x.2.1 x.2.2 | none => z := by
  induction ps using snocRec with
  | nil => rfl
  | snoc ps x ih =>
    rw [mapD_snoc]
    unfold lastAt
    rw [List.reverse_append]
    by_cases h : x.1 = id
    · rw [← h, atKey_put_same (mapD_tidy ps).isMap (isKey _)]; simp
    · rw [atKey_put_other (by simp; exact fun e => h e.symm), ih]; simp [h, lastAt]
theorem mapD_le (ps : List P3) : Maps.size (mapD ps) ≤ ps.length := by
  induction ps using snocRec with
  | nil => exact Nat.le_refl _
  | snoc ps x ih => rw [mapD_snoc, size_put (mapD_tidy ps)]; simp; split <;> omega
/-- As many entries as stores just where no id was stored twice. -/
theorem mapD_size (ps : List P3) : Maps.size (mapD ps) = ps.length ↔ (ps.map (·.1)).Nodup := by
  induction ps using snocRec with
  | nil => simp [mapD, Maps.size]
  | snoc ps x ih =>
    rw [mapD_snoc, size_put (mapD_tidy ps), mapD_has]
    have hle := mapD_le ps
    rw [List.map_append, List.nodup_append, List.length_append]
    by_cases h : ps.any (fun y => decide (y.1 = x.1)) = true
    · rw [if_pos h]
      constructor
      · intro e; simp at e; omega
      · rintro ⟨-, -, h3⟩
        obtain ⟨y, hy, e⟩ := List.any_eq_true.1 h
        exact absurd (of_decide_eq_true e) (h3 y.1 (List.mem_map.2 ⟨y, hy, rfl⟩) x.1 (by simp))
    · rw [if_neg h]
      constructor
      · intro e
        refine ⟨ih.1 (by simp at e; omega), by simp, ?_⟩
        intro a ha b hb e2
        obtain ⟨y, hy, rfl⟩ := List.mem_map.1 ha
        simp at hb
        exact h (List.any_eq_true.2 ⟨y, hy, by simp [e2, hb]⟩)
      · rintro ⟨h1, -, -⟩
        rw [ih.2 h1]; simp

/-- The stores of a level, and of levels. -/
def rowP (i : Int) (k : Int) : List R → List P3
  | [] => []
  | r :: t => (r.id, i, k) :: rowP i (k + 1) t
def flatP (i : Int) : List L → List P3
  | [] => []
  | l :: t => rowP i 0 l.rests ++ flatP (i + 1) t
theorem rowP_snoc (i k : Int) (zs : List R) (r : R) : rowP i k (zs ++ [r]) = rowP i k zs ++ [(r.id, i, k + zs.length)] := by
  induction zs generalizing k with
  | nil => simp [rowP]
  | cons x t ih =>
    simp only [List.cons_append, rowP, ih, List.length_cons]
    rw [show k + 1 + (t.length : Int) = k + ((t.length + 1 : Nat) : Int) by omega]
theorem flatP_snoc (i : Int) (ls : List L) (l : L) : flatP i (ls ++ [l]) = flatP i ls ++ rowP (i + ls.length) 0 l.rests := by
  induction ls generalizing i with
  | nil => simp [flatP]
  | cons x t ih =>
    simp only [List.cons_append, flatP, ih, List.length_cons, List.append_assoc]
    rw [show i + 1 + (t.length : Int) = i + ((t.length + 1 : Nat) : Int) by omega]
theorem rowP_len (i k : Int) (zs : List R) : (rowP i k zs).length = zs.length := by
  induction zs generalizing k with
  | nil => rfl
  | cons x t ih => simp [rowP, ih]
theorem flatP_len (i : Int) (ls : List L) : ((flatP i ls).length : Int) = cnt ls := by
  induction ls generalizing i with
  | nil => rfl
  | cons x t ih => simp only [flatP, List.length_append, rowP_len, cnt, ← ih (i + 1)]; omega
theorem rowP_ids (i k : Int) (zs : List R) : (rowP i k zs).map (·.1) = zs.map (·.id) := by
  induction zs generalizing k with
  | nil => rfl
  | cons x t ih => simp [rowP, ih]
theorem flatP_ids (i : Int) (ls : List L) : (flatP i ls).map (·.1) = (ls.flatMap (·.rests)).map (·.id) := by
  induction ls generalizing i with
  | nil => rfl
  | cons x t ih => simp only [flatP, List.map_append, rowP_ids, ih, List.flatMap_cons]
end Go.Proofs.Ytjphhieloicdeaa.sid
