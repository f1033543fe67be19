/- Contracts over this seat's translation: queue.find and queue.behind. How a rest that comes in is read. How a slice of rests that comes in is read. -/
import Derived.Test.YtnjpjieedgmffaaQueRest
import Derived.Test.YtnjpjieedgmffaaRows
import Derived.OpenShut
import Derived.Deep.Slices
import Derived.Carry
namespace Go.Proofs.Ytnjpjieedgmffaa.que
open Go.RowKit Go.Proofs.Ytnjpjieedgmffaa.spn

/-- Rests lie in a block from an offset on. -/
def Lies (w : World) (b o : Nat) (zs : List R) : Prop := ∀ j, j < zs.length → ∀ i v, (rV zs[j]!)[i]? = some v → w.cell? ⟨b, o + j * 5 + i, none⟩ = some v
/-- A slice value that reads as a list of rests. -/
def SL (w : World) (v : Value) (zs : List R) : Prop :=
  (v = .slice none 0 0 ∧ zs = []) ∨ ∃ b o c, v = .slice (some ⟨b, o, none⟩) zs.length c ∧ zs.length ≤ c ∧ c ≤ 9223372036854775807 ∧ b < w.heap.size ∧ Lies w b o zs

theorem Lies.below {w w' : World} {b o : Nat} {zs : List R} (h : Lies w b o zs) (hb : b < w.heap.size) (hB : Below w.heap.size w w') : Lies w' b o zs :=
  fun j hj i v hv => (hB.cell (p := ⟨b, o + j * 5 + i, none⟩) hb).trans (h j hj i v hv)
theorem SL.below {w w' : World} {v : Value} {zs : List R} (h : SL w v zs) (hB : Below w.heap.size w w') : SL w' v zs := by
  rcases h with h | ⟨b, o, c, h1, h2, h3, h4, h5⟩
  · exact .inl h
  · exact .inr ⟨b, o, c, h1, h2, h3, Nat.lt_of_lt_of_le h4 hB.size, h5.below h4 hB⟩
theorem getE {α : Type} [Inhabited α] (l : List α) (j : Nat) (h : j < l.length) : l[j]! = l[j] := by simp [h]
theorem Lies.take {w : World} {b o : Nat} {zs : List R} (h : Lies w b o zs) (n : Nat) : Lies w b o (zs.take n) := by
  intro j hj i v hv
  have hj2 : j < n ∧ j < zs.length := by rw [List.length_take] at hj; omega
  have e : (zs.take n)[j]! = zs[j]! := by
    rw [getE _ _ hj, getE _ _ hj2.2, List.getElem_take]
  rw [e] at hv
  exact h j hj2.2 i v hv

theorem idxFrom (id : Int) (x : R) (zs : List R) : ∀ i, Lib.idxByFrom (fun _ y => decide (y.id = id)) x zs i = if idx id zs < 0 then -1 else (i : Int) + idx id zs := by
  induction zs with
  | nil => intro i; rfl
  | cons r t ih =>
    intro i
    have := idx_ge id t
    show (if decide (r.id = id) = true then (i : Int) else Lib.idxByFrom (fun _ y => decide (y.id = id)) x t (i + 1)) = _
    rw [ih, idx_cons]
    by_cases h : r.id = id
    · rw [if_pos (decide_eq_true h), if_pos h, if_neg (by omega), Int.add_zero]
    · rw [if_neg (by simpa using h), if_neg h]
      by_cases h2 : idx id t < 0
      · rw [if_pos h2, if_pos h2, if_pos (by omega)]
      · rw [if_neg h2, if_neg h2, if_neg (by omega)]; omega
theorem idxBy_is (id : Int) (x : R) (zs : List R) : Lib.idxBy (fun _ y => decide (y.id = id)) zs x = idx id zs := by
  have := idx_ge id zs
  unfold Lib.idxBy
  rw [idxFrom]
  split <;> omega

theorem find_pred (id : Int) (B : Nat) (w : World) (hB : B < w.heap.size) (hc : w.cell? ⟨B, 0, none⟩ = some (.int .i64 id)) :
    PredBelow Try.prog 88 #[.pointer (some ⟨B, 0, none⟩)] (fun x => .agg (rV x).toArray) (fun x => decide (x.id = id)) w := by
  intro W x hb
  obtain ⟨a, b, c, d, e⟩ := x
  show Calls Try.prog 88 #[.agg #[.int .i64 a, .int .i64 b, .int .i64 c, .int .i64 d, .int .i64 e], .pointer (some ⟨B, 0, none⟩)] W _
  have hc2 := keeps hb hc
  have hz : B < W.heap.size := Nat.lt_of_lt_of_le hB hb.size
  go_enter Try.func88, Try.ntmps88
  go_wp2
  go_ret
  exact ⟨rfl, hb.alloc hb.size _⟩

theorem find_nil (id : Int) (w : World) :
    Calls Try.prog 84 #[.slice none 0 0, .int .i64 id] w fun e w' => e = .returned (.int .i64 (-1)) ∧ Below w.heap.size w w' := by
  have h0 : ∀ (B : Nat) (W : World), Calls Try.prog 38 #[.slice none 0 0, .func (.func 88) #[] #[.pointer (some ⟨B, 0, none⟩)]] W fun e w' => e = .returned (.int .i64 (-1)) ∧ w' = W := by
    intro B W
    go_enter Try.func38, Try.ntmps38
    go_wp2
    go_loopg [5, 8] 0 (fun _ _ s8 wr => s8 = .int .i64 0 ∧ wr = W)
    case atStart => exact ⟨rfl, rfl⟩
    case round =>
      obtain ⟨rfl, rfl⟩ := hrel
      go_wp2
      go_ret
      exact ⟨rfl, rfl⟩
  go_enter Try.func84, Try.ntmps84
  go_wp2_with (go_at_call 38; refine (h0 _ _).mono ?_; rintro e w' ⟨rfl, rfl⟩)
  go_ret
  exact ⟨rfl, (Below.refl _ _).alloc (Nat.le_refl _) _⟩

theorem find_some (id : Int) (b o c : Nat) (zs : List R) (w : World) (hb : b < w.heap.size) (hn : zs.length ≤ 9223372036854775807) (hl : Lies w b o zs) :
    Calls Try.prog 84 #[.slice (some ⟨b, o, none⟩) zs.length c, .int .i64 id] w fun e w' => e = .returned (.int .i64 (idx id zs)) ∧ Below w.heap.size w w' := by
  have eg : ∀ args w, (callFunc 88 args).run Try.prog w = .ok (.enter 88 args) w := enters_of Try.func88 (by kernel_rfl) rfl
  have hB : Below w.heap.size w (w.alloc (.cells #[.int .i64 id] 3)) := (Below.refl _ _).alloc (Nat.le_refl _) _
  have hcon := AnyQ.slices_IndexFunc Try.lq6 5 Try.isAgg28 Try.sizeOf28 rV (fun x => rfl) (fun x => decide (x.id = id)) 88 #[.pointer (some ⟨w.heap.size, 0, none⟩)] eg b o zs.length c zs
    (w.alloc (.cells #[.int .i64 id] 3)) (find_pred id w.heap.size _ (by simp) (by simp [go_sem])) (Nat.le_refl _) hn (by simp; omega) (hl.below hb hB)
  change Calls Try.prog 38 _ _ _ at hcon
  rw [List.take_length, idxBy_is] at hcon
  generalize idx id zs = k at *
  clear hl
  generalize zs.length = n at *
  go_enter Try.func84, Try.ntmps84
  go_wp2_with (go_at_call 38; refine hcon.mono ?_; rintro e w' ⟨rfl, hb'⟩)
  go_ret
  exact ⟨rfl, hB.trans (hb'.mono (by simp))⟩

theorem find_any (id : Int) (v : Value) (zs : List R) (w : World) (h : SL w v zs) :
    Calls Try.prog 84 #[v, .int .i64 id] w fun e w' => e = .returned (.int .i64 (idx id zs)) ∧ Below w.heap.size w w' := by
  rcases h with ⟨rfl, rfl⟩ | ⟨b, o, c, rfl, h2, h3, h4, h5⟩
  · exact find_nil id w
  · exact find_some id b o c zs w h4 (by omega) h5

/-- behind. -/
theorem behind_any (v : Value) (zs : List R) (a b c d e : Int) (w : World) (h : SL w v zs) :
    Calls Try.prog 71 #[v, .agg #[.int .i64 a, .int .i64 b, .int .i64 c, .int .i64 d, .int .i64 e]] w fun x w' => x = .returned (errV (bchk zs ⟨a, b, c, d, e⟩)) ∧ Below w.heap.size w w' := by
  have hr := rest_any a b c d e
  have e1 : bchk zs ⟨a, b, c, d, e⟩ = if rchk ⟨a, b, c, d, e⟩ = 0 then (if 0 ≤ idx a zs then 7 else 0) else rchk ⟨a, b, c, d, e⟩ := by
    unfold bchk
    rw [has_idx]
    simp only [decide_eq_true_eq]
  rw [e1]
  clear e1
  generalize rchk ⟨a, b, c, d, e⟩ = k at *
  have HF := fun W hW => find_any a v zs W hW
  have H : Hid (∀ W, SL W v zs → Calls Try.prog 84 #[v, .int .i64 a] W fun e w' => e = .returned (.int .i64 (idx a zs)) ∧ Below W.heap.size W w') := HF
  clear HF
  have HS : Hid (SL w v zs) := h
  clear h
  generalize idx a zs = m at *
  by_cases hk : k = 0
  · subst hk
    rw [if_pos rfl]
    rw [errV_zero] at hr
    by_cases hm : 0 ≤ m
    · rw [if_pos hm]
      go_enter Try.func71, Try.ntmps71
      go_wp2_with fail
      refine (hr _).mono ?_
      rintro x w1 ⟨rfl, hb1⟩
      have hB : Below w.heap.size w w1 := ((Below.refl _ _).alloc (Nat.le_refl _) _).trans (hb1.mono (by simp))
      obtain ⟨hc1, hf1⟩ := bcell hb1
      clear hr
      go_wp2_with fail
      refine (H.out _ (HS.out.below hB)).mono ?_
      rintro x w2 ⟨rfl, hb2⟩
      clear hc1 hf1
      go_wp2_with fail
      go_ret
      exact ⟨rfl, hB.trans (hb2.mono hB.size)⟩
    · rw [if_neg hm]
      go_enter Try.func71, Try.ntmps71
      go_wp2_with fail
      refine (hr _).mono ?_
      rintro x w1 ⟨rfl, hb1⟩
      have hB : Below w.heap.size w w1 := ((Below.refl _ _).alloc (Nat.le_refl _) _).trans (hb1.mono (by simp))
      obtain ⟨hc1, hf1⟩ := bcell hb1
      clear hr
      go_wp2_with fail
      refine (H.out _ (HS.out.below hB)).mono ?_
      rintro x w2 ⟨rfl, hb2⟩
      clear hc1 hf1
      go_wp2_with fail
      go_ret
      exact ⟨rfl, hB.trans (hb2.mono hB.size)⟩
  · rw [if_neg hk]
    rw [errV_of hk] at hr ⊢
    go_enter Try.func71, Try.ntmps71
    go_wp2_with fail
    refine (hr _).mono ?_
    rintro x w1 ⟨rfl, hb1⟩
    have hB : Below w.heap.size w w1 := ((Below.refl _ _).alloc (Nat.le_refl _) _).trans (hb1.mono (by simp))
    clear hr
    go_wp2_with fail
    go_ret
    exact ⟨rfl, hB⟩

end Go.Proofs.Ytnjpjieedgmffaa.que
namespace Go.Proofs.Ytnjpjieedgmffaa.que
open Go.ChangeShapes Go.WideShapes Go.ChangeAt Go.RowKit Go.Deep

theorem list5 {α : Type} {l : List α} (h : l.length = 5) : ∃ c0 c1 c2 c3 c4, l = [c0, c1, c2, c3, c4] := by
  match l, h with
  | [c0, c1, c2, c3, c4], _ => exact ⟨c0, c1, c2, c3, c4, rfl⟩

theorem cellsR : Try.prog.cellsOf 28 = 5 := by kernel_rfl
theorem cellsI : Try.prog.cellsOf 3 = 1 := by kernel_rfl

section
variable {H : Type} {enc : TypeId × Value → H} {w : World} {base : Nat} {sp : Nat → Bool} {held : Bool}

set_option maxRecDepth 100000 in
theorem open_rest_cells {n : Nat} {cs : List Value} {x : DataW H × List MemPlace} (h : DataW.trod enc Try.prog w base sp held n 28 cs = some x) (hl : cs.length = 5) :
    ∃ r : R, cs = rV r := by
  obtain ⟨c0, c1, c2, c3, c4, rfl⟩ := list5 hl
  obtain ⟨xs, n, _, hx, _, hlen, hF⟩ := DataW.trod_struct Try.underlying28 h
  obtain ⟨y0, y1, y2, y3, y4, rfl⟩ := list5 hlen
  have h0 : DataW.trod enc Try.prog w base sp held n 3 (([c0, c1, c2, c3, c4].drop 0).take (Try.prog.cellsOf 3)) = some y0 := hF 0 _ rfl
  rw [cellsI] at h0
  obtain ⟨a0, e0, _, _⟩ := DataW.trod_int Try.underlying3 h0
  have h1 : DataW.trod enc Try.prog w base sp held n 3 (([c0, c1, c2, c3, c4].drop 1).take (Try.prog.cellsOf 3)) = some y1 := hF 1 _ rfl
  rw [cellsI] at h1
  obtain ⟨a1, e1, _, _⟩ := DataW.trod_int Try.underlying3 h1
  have h2 : DataW.trod enc Try.prog w base sp held n 3 (([c0, c1, c2, c3, c4].drop 2).take (Try.prog.cellsOf 3)) = some y2 := hF 2 _ rfl
  rw [cellsI] at h2
  obtain ⟨a2, e2, _, _⟩ := DataW.trod_int Try.underlying3 h2
  have h3 : DataW.trod enc Try.prog w base sp held n 3 (([c0, c1, c2, c3, c4].drop 3).take (Try.prog.cellsOf 3)) = some y3 := hF 3 _ rfl
  rw [cellsI] at h3
  obtain ⟨a3, e3, _, _⟩ := DataW.trod_int Try.underlying3 h3
  have h4 : DataW.trod enc Try.prog w base sp held n 3 (([c0, c1, c2, c3, c4].drop 4).take (Try.prog.cellsOf 3)) = some y4 := hF 4 _ rfl
  rw [cellsI] at h4
  obtain ⟨a4, e4, _, _⟩ := DataW.trod_int Try.underlying3 h4
  simp at e0 e1 e2 e3 e4
  subst e0 e1 e2 e3 e4
  exact ⟨⟨a0, a1, a2, a3, a4⟩, rfl⟩

set_option maxRecDepth 100000 in
/-- A rest that comes in. -/
theorem open_rest {r : Reach} {b0 : Nat} {v : Value} {d : DataW H} {ps : List MemPlace} (hv : Value.okWide Try.prog w r b0 28 v) (h : DataW.Trod enc Try.prog w base sp held 28 v d ps) :
    ∃ r : R, v = .agg #[.int .i64 r.id, .int .i64 r.who, .int .i64 r.qty, .int .i64 r.hid, .int .i64 r.shw] := by
  obtain ⟨cs, rfl, hsz⟩ := okWide_struct Try.underlying28 hv
  obtain ⟨fuel, hf⟩ := h
  obtain ⟨r, hr⟩ := open_rest_cells hf (by simpa [Value.cells] using hsz.trans cellsR)
  refine ⟨r, ?_⟩
  have : cs.toList = rV r := by simpa [Value.cells] using hr
  rw [show cs = (rV r).toArray from by rw [← this]]
  rfl

end
end Go.Proofs.Ytnjpjieedgmffaa.que
namespace Go.Proofs.Ytnjpjieedgmffaa.que
open Go.ChangeShapes Go.WideShapes Go.ChangeAt Go.RowKit Go.Deep

section
variable {H : Type} {enc : TypeId × Value → H} {w : World} {base : Nat} {sp : Nat → Bool} {held : Bool}

set_option maxRecDepth 100000 in
/-- What a slice value of any element type that comes in is: nil, or it lies in a block of memory. -/
theorem okWide_slice_lies {r : Reach} {b0 : Nat} {t e : TypeId} {v : Value} (ht : Try.prog.underlying t = some (.slice e)) (hv : Value.okWide Try.prog w r b0 t v) :
    v = .slice none 0 0 ∨ ∃ b o len cap, v = .slice (some ⟨b, o, none⟩) len cap ∧ len ≤ cap ∧ cap ≤ 9223372036854775807 ∧ b < w.heap.size := by
  obtain ⟨a, len, cap, rfl⟩ := okWide_slice ht hv
  simp only [Value.okWide, ht, Cell.okWide] at hv
  cases a with
  | none =>
    left
    cases len with
    | zero =>
      cases cap with
      | zero => rfl
      | succ c => simp [Cell.ok, ht] at hv
    | succ l => simp [Cell.ok, ht] at hv
  | some a =>
    right
    simp only [Cell.ok, ht] at hv
    obtain ⟨h1, h2, _, h4, row, cells, h5, _⟩ := hv
    obtain ⟨b, o, s⟩ := a
    simp only at h4 h5
    subst h4
    refine ⟨b, o, len, cap, rfl, h1, ?_, ?_⟩
    · have : IntKind.i64.max = 9223372036854775807 := rfl
      rw [this] at h2
      omega
    · unfold World.shape? at h5
      split at h5
      · rename_i hh
        exact (Array.getElem?_eq_some_iff.1 hh).1
      · cases h5

set_option maxRecDepth 100000 in
theorem open_rests {r : Reach} {b0 : Nat} {v : Value} {d : DataW H} {ps : List MemPlace} (hv : Value.okWide Try.prog w r b0 29 v) (h : DataW.Trod enc Try.prog w base sp held 29 v d ps) :
    ∃ zs : List R, SL w v zs := by
  rcases okWide_slice_lies Try.underlying29 hv with rfl | ⟨b, o, len, cap, rfl, hl, hm, hb⟩
  · exact ⟨[], .inl ⟨rfl, rfl⟩⟩
  obtain ⟨fuel, hf⟩ := h
  rcases open_slice Try.underlying29 hf with ⟨hcs, _⟩ | ⟨a, len', cap', m, n, D, Pl, hcs, _, hl', _, hmm, _, hx⟩
  · simp [Value.cells] at hcs
  simp [Value.cells] at hcs
  obtain ⟨rfl, rfl, rfl⟩ := hcs
  have hlm : len ≤ m := by rw [hmm]; split <;> omega
  obtain ⟨f, hf2⟩ := choose_lt (α := R) (n := len) (p := fun i r => ∀ k v, (rV r)[k]? = some v → w.cell? ⟨b, o + i * 5 + k, none⟩ = some v) (fun i hi => by
    obtain ⟨cs', h1, h2⟩ := hx i (by omega)
    rw [cellsR] at h1
    obtain ⟨_, hlen, hcell⟩ := World.cells?_some h1
    obtain ⟨r, rfl⟩ := open_rest_cells h2 hlen
    refine ⟨r, fun k v hk => ?_⟩
    have hk5 : k < 5 := (List.getElem?_eq_some_iff.1 hk).1
    have := hcell k hk5
    rw [hk, Addr.add_lit, Addr.add_lit] at this
    exact this)
  refine ⟨(List.range len).map f, .inr ⟨b, o, cap, by simp, by simpa using hl, hm, hb, ?_⟩⟩
  intro j hj k v hk
  have hj' : j < len := by simpa using hj
  rw [getE _ _ hj] at hk
  simp only [List.getElem_map, List.getElem_range] at hk
  exact hf2 j hj' k v hk
end

theorem laidOut : laidOutB Try.prog = true := by kernel_rfl

end Go.Proofs.Ytnjpjieedgmffaa.que
