/- Orders as they lie in memory. How a slice of orders that comes in is read. Plain facts: what is wrong with a call, and how much would be traded at a price. -/
import Derived.Test.YtbdhfbfebcblkaaOwnGen
import Derived.Test.YtbdhfbfebcblkaaRows
import Derived.OpenShut
import Derived.Deep.Slices
import Derived.Carry
namespace Go.Proofs.Ytbdhfbfebcblkaa.wak
open Go.RowKit Go.Proofs.Ytbdhfbfebcblkaa.spn Go.Proofs.Ytbdhfbfebcblkaa.ord

instance : Inhabited O := ⟨zeroO⟩
/-- The eight cells of an order. -/
def oL (o : O) : List Value := [.int .i64 o.id, .int .i64 o.who, .int .i64 o.side, .int .i64 o.kind, .int .i64 o.price, .int .i64 o.qty, .int .i64 o.shw, .int .i64 o.stop]
theorem oL_agg (o : O) : oV o = .agg (oL o).toArray := rfl
/-- Rests lie in a block from an offset on. -/
def Lies (w : World) (b o : Nat) (zs : List O) : Prop := ∀ j, j < zs.length → ∀ i v, (oL zs[j]!)[i]? = some v → w.cell? ⟨b, o + j * 8 + i, none⟩ = some v
/-- A slice value that reads as a list of rests. -/
def SL (w : World) (v : Value) (zs : List O) : Prop :=
  (v = .slice none 0 0 ∧ zs = []) ∨ ∃ b o c, v = .slice (some ⟨b, o, none⟩) zs.length c ∧ zs.length ≤ c ∧ c ≤ 9223372036854775807 ∧ b < w.heap.size ∧ Lies w b o zs

theorem Lies.below {w w' : World} {b o : Nat} {zs : List O} (h : Lies w b o zs) (hb : b < w.heap.size) (hB : Below w.heap.size w w') : Lies w' b o zs :=
  fun j hj i v hv => (hB.cell (p := ⟨b, o + j * 8 + i, none⟩) hb).trans (h j hj i v hv)
theorem SL.below {w w' : World} {v : Value} {zs : List O} (h : SL w v zs) (hB : Below w.heap.size w w') : SL w' v zs := by
  rcases h with h | ⟨b, o, c, h1, h2, h3, h4, h5⟩
  · exact .inl h
  · exact .inr ⟨b, o, c, h1, h2, h3, Nat.lt_of_lt_of_le h4 hB.size, h5.below h4 hB⟩
theorem getE {α : Type} [Inhabited α] (l : List α) (j : Nat) (h : j < l.length) : l[j]! = l[j] := by simp [h]
theorem Lies.take {w : World} {b o : Nat} {zs : List O} (h : Lies w b o zs) (n : Nat) : Lies w b o (zs.take n) := by
  intro j hj i v hv
  have hj2 : j < n ∧ j < zs.length := by rw [List.length_take] at hj; omega
  have e : (zs.take n)[j]! = zs[j]! := by
    rw [getE _ _ hj, getE _ _ hj2.2, List.getElem_take]
  rw [e] at hv
  exact h j hj2.2 i v hv

/-- The cells of a queue. -/
def flat (zs : List O) : List Value := zs.flatMap oL
theorem flat_cons (r : O) (t : List O) : flat (r :: t) = oL r ++ flat t := rfl
theorem flat_append (a b : List O) : flat (a ++ b) = flat a ++ flat b := by unfold flat; rw [List.flatMap_append]
theorem flat_len (zs : List O) : (flat zs).length = zs.length * 8 := by
  induction zs with
  | nil => rfl
  | cons r t ih => rw [flat_cons, List.length_append, ih, List.length_cons]; show 8 + t.length * 8 = _; omega
theorem flat_get (zs : List O) : ∀ j, j < zs.length → ∀ i, i < 8 → (flat zs)[j * 8 + i]? = (oL zs[j]!)[i]? := by
  induction zs with
  | nil => intro j hj; simp at hj
  | cons r t ih =>
    intro j hj i hi
    rw [flat_cons]
    cases j with
    | zero => rw [Nat.zero_mul, Nat.zero_add, List.getElem?_append_left (by show i < 8; exact hi)]; rfl
    | succ j =>
      rw [List.getElem?_append_right (by show 8 ≤ _; omega)]
      have : (j + 1) * 8 + i - (oL r).length = j * 8 + i := by show (j + 1) * 8 + i - 8 = _; omega
      rw [this, ih j (by simpa using hj) i hi]
      rfl
theorem flat_one (zs : List O) : ∀ u ∈ flat zs, u.oneCell' = true := by
  intro u hu
  obtain ⟨r, _, hr⟩ := List.mem_flatMap.1 hu
  simp only [oL, List.mem_cons, List.not_mem_nil, or_false] at hr
  rcases hr with rfl | rfl | rfl | rfl | rfl | rfl | rfl | rfl <;> rfl
theorem lies_flat {w : World} {b o : Nat} {zs : List O} (h : Lies w b o zs) : ∀ j u, (flat zs)[j]? = some u → w.cell? ((⟨b, o, none⟩ : Addr).add j) = some u := by
  intro j u hu
  have hj : j < zs.length * 8 := by rw [← flat_len]; exact (List.getElem?_eq_some_iff.1 hu).1
  rw [Addr.add_lit]
  have e : j = j / 8 * 8 + j % 8 := by omega
  rw [e, flat_get zs (j / 8) (by omega) (j % 8) (by omega)] at hu
  have := h (j / 8) (by omega) (j % 8) u hu
  rw [← this]
  congr 2
  omega
theorem flat_lies {w : World} {b o : Nat} {zs : List O} (h : ∀ j u, (flat zs)[j]? = some u → w.cell? ⟨b, o + j, none⟩ = some u) : Lies w b o zs := by
  intro j hj i v hv
  have hi : i < 8 := (List.getElem?_eq_some_iff.1 hv).1
  have := h (j * 8 + i) v (by rw [flat_get zs j hj i hi]; exact hv)
  rw [← this, Nat.add_assoc]

/-- A queue of the call's own. -/
abbrev OwnQ (w : World) (base : Nat) (v : Value) (zs : List O) : Prop := OwnM w base 35 8 v zs.length (flat zs)
theorem OwnQ.sl {w : World} {base : Nat} {v : Value} {zs : List O} (h : OwnQ w base v zs) : SL w v zs := by
  rcases h.2 with ⟨rfl, hn⟩ | ⟨g, off, cap, cur, rfl, hb, hg, hnc, hcm, hcs, htake⟩
  · exact .inl ⟨rfl, List.eq_nil_of_length_eq_zero hn⟩
  · refine .inr ⟨g, off, cap, rfl, hnc, by simpa [maxLen] using hcm, (Array.getElem?_eq_some_iff.1 hg).1, flat_lies ?_⟩
    intro j u hu
    rw [cell_of_row w g (off + j) cur _ (0, 0) hg]
    rw [← htake, List.getElem?_take] at hu
    split at hu
    · rw [List.getElem?_drop] at hu; simpa using hu
    · cases hu

def zeroR : Value := .agg #[.int .i64 0, .int .i64 0, .int .i64 0, .int .i64 0, .int .i64 0, .int .i64 0, .int .i64 0, .int .i64 0]
theorem infoR : (Try.prog.info? 35).map (fun i => (i.zero, i.size, i.bytes)) = some (some zeroR, 8, 64) := by kernel_rfl
theorem infoR' : ∃ i, Try.prog.info? 35 = some i ∧ i.zero = some zeroR ∧ i.size = 8 ∧ i.bytes = 64 := by
  have h := infoR
  cases hq : Try.prog.info? 35 with
  | none => rw [hq] at h; simp at h
  | some i =>
    rw [hq] at h
    simp only [Option.map_some, Option.some.injEq, Prod.mk.injEq] at h
    exact ⟨i, rfl, h.1, h.2.1, h.2.2⟩


end Go.Proofs.Ytbdhfbfebcblkaa.wak
namespace Go.Proofs.Ytbdhfbfebcblkaa.wak
open Go.ChangeShapes Go.WideShapes Go.ChangeAt Go.RowKit Go.Deep Go.Proofs.Ytbdhfbfebcblkaa.ord

theorem list8 {α : Type} {l : List α} (h : l.length = 8) : ∃ c0 c1 c2 c3 c4 c5 c6 c7, l = [c0, c1, c2, c3, c4, c5, c6, c7] := by
  match l, h with
  | [c0, c1, c2, c3, c4, c5, c6, c7], _ => exact ⟨c0, c1, c2, c3, c4, c5, c6, c7, rfl⟩
theorem cellsO : Try.prog.cellsOf 35 = 8 := by kernel_rfl
theorem cellsI : Try.prog.cellsOf 3 = 1 := by kernel_rfl

section
variable {H : Type} {enc : TypeId × Value → H} {w : World} {base : Nat} {sp : Nat → Bool} {held : Bool}

set_option maxRecDepth 100000 in
theorem open_order_cells {n : Nat} {cs : List Value} {x : DataW H × List MemPlace} (h : DataW.trod enc Try.prog w base sp held n 35 cs = some x) (hl : cs.length = 8) :
    ∃ r : O, cs = oL r := by
  obtain ⟨c0, c1, c2, c3, c4, c5, c6, c7, rfl⟩ := list8 hl
  obtain ⟨xs, n, _, hx, _, hlen, hF⟩ := DataW.trod_struct Try.underlying35 h
  obtain ⟨y0, y1, y2, y3, y4, y5, y6, y7, rfl⟩ := list8 hlen
  have h0 : DataW.trod enc Try.prog w base sp held n 3 (([c0, c1, c2, c3, c4, c5, c6, c7].drop 0).take (Try.prog.cellsOf 3)) = some y0 := hF 0 _ rfl
  rw [cellsI] at h0
  obtain ⟨a0, e0, _, _⟩ := DataW.trod_int Try.underlying3 h0
  have h1 : DataW.trod enc Try.prog w base sp held n 3 (([c0, c1, c2, c3, c4, c5, c6, c7].drop 1).take (Try.prog.cellsOf 3)) = some y1 := hF 1 _ rfl
  rw [cellsI] at h1
  obtain ⟨a1, e1, _, _⟩ := DataW.trod_int Try.underlying3 h1
  have h2 : DataW.trod enc Try.prog w base sp held n 3 (([c0, c1, c2, c3, c4, c5, c6, c7].drop 2).take (Try.prog.cellsOf 3)) = some y2 := hF 2 _ rfl
  rw [cellsI] at h2
  obtain ⟨a2, e2, _, _⟩ := DataW.trod_int Try.underlying3 h2
  have h3 : DataW.trod enc Try.prog w base sp held n 3 (([c0, c1, c2, c3, c4, c5, c6, c7].drop 3).take (Try.prog.cellsOf 3)) = some y3 := hF 3 _ rfl
  rw [cellsI] at h3
  obtain ⟨a3, e3, _, _⟩ := DataW.trod_int Try.underlying3 h3
  have h4 : DataW.trod enc Try.prog w base sp held n 3 (([c0, c1, c2, c3, c4, c5, c6, c7].drop 4).take (Try.prog.cellsOf 3)) = some y4 := hF 4 _ rfl
  rw [cellsI] at h4
  obtain ⟨a4, e4, _, _⟩ := DataW.trod_int Try.underlying3 h4
  have h5 : DataW.trod enc Try.prog w base sp held n 3 (([c0, c1, c2, c3, c4, c5, c6, c7].drop 5).take (Try.prog.cellsOf 3)) = some y5 := hF 5 _ rfl
  rw [cellsI] at h5
  obtain ⟨a5, e5, _, _⟩ := DataW.trod_int Try.underlying3 h5
  have h6 : DataW.trod enc Try.prog w base sp held n 3 (([c0, c1, c2, c3, c4, c5, c6, c7].drop 6).take (Try.prog.cellsOf 3)) = some y6 := hF 6 _ rfl
  rw [cellsI] at h6
  obtain ⟨a6, e6, _, _⟩ := DataW.trod_int Try.underlying3 h6
  have h7 : DataW.trod enc Try.prog w base sp held n 3 (([c0, c1, c2, c3, c4, c5, c6, c7].drop 7).take (Try.prog.cellsOf 3)) = some y7 := hF 7 _ rfl
  rw [cellsI] at h7
  obtain ⟨a7, e7, _, _⟩ := DataW.trod_int Try.underlying3 h7
  simp at e0 e1 e2 e3 e4 e5 e6 e7
  subst e0 e1 e2 e3 e4 e5 e6 e7
  exact ⟨⟨a0, a1, a2, a3, a4, a5, a6, a7⟩, rfl⟩

set_option maxRecDepth 100000 in
/-- What a slice value of any element type that comes in is: nil, or it lies in a block of memory. -/
theorem okWide_slice_lies {r : Reach} {b0 : Nat} {t e : TypeId} {v : Value} (ht : Try.prog.underlying t = some (.slice e)) (hv : Value.okWide Try.prog w r b0 t v) :
    v = .slice none 0 0 ∨ ∃ b o len cap, v = .slice (some ⟨b, o, none⟩) len cap ∧ len ≤ cap ∧ cap ≤ 9223372036854775807 ∧ b < w.heap.size := by
  obtain ⟨a, len, cap, rfl⟩ := okWide_slice ht hv
  simp only [Value.okWide, ht, Cell.okWide] at hv
  cases a with
  | none =>
    left
    cases len with
    | zero =>
      cases cap with
      | zero => rfl
      | succ c => simp [Cell.ok, ht] at hv
    | succ l => simp [Cell.ok, ht] at hv
  | some a =>
    right
    simp only [Cell.ok, ht] at hv
    obtain ⟨h1, h2, _, h4, row, cells, h5, _⟩ := hv
    obtain ⟨b, o, s⟩ := a
    simp only at h4 h5
    subst h4
    refine ⟨b, o, len, cap, rfl, h1, ?_, ?_⟩
    · have : IntKind.i64.max = 9223372036854775807 := rfl
      rw [this] at h2
      omega
    · unfold World.shape? at h5
      split at h5
      · rename_i hh
        exact (Array.getElem?_eq_some_iff.1 hh).1
      · cases h5

set_option maxRecDepth 100000 in
theorem open_orders {r : Reach} {b0 : Nat} {v : Value} {d : DataW H} {ps : List MemPlace} (hv : Value.okWide Try.prog w r b0 22 v) (h : DataW.Trod enc Try.prog w base sp held 22 v d ps) :
    ∃ zs : List O, SL w v zs := by
  rcases okWide_slice_lies Try.underlying22 hv with rfl | ⟨b, o, len, cap, rfl, hl, hm, hb⟩
  · exact ⟨[], .inl ⟨rfl, rfl⟩⟩
  obtain ⟨fuel, hf⟩ := h
  rcases open_slice Try.underlying22 hf with ⟨hcs, _⟩ | ⟨a, len', cap', m, n, D, Pl, hcs, _, hl', _, hmm, _, hx⟩
  · simp [Value.cells] at hcs
  simp [Value.cells] at hcs
  obtain ⟨rfl, rfl, rfl⟩ := hcs
  have hlm : len ≤ m := by rw [hmm]; split <;> omega
  obtain ⟨f, hf2⟩ := choose_lt (α := O) (n := len) (p := fun i r => ∀ k v, (oL r)[k]? = some v → w.cell? ⟨b, o + i * 8 + k, none⟩ = some v) (fun i hi => by
    obtain ⟨cs', h1, h2⟩ := hx i (by omega)
    rw [cellsO] at h1
    obtain ⟨_, hlen, hcell⟩ := World.cells?_some h1
    obtain ⟨r, rfl⟩ := open_order_cells h2 hlen
    refine ⟨r, fun k v hk => ?_⟩
    have hk8 : k < 8 := (List.getElem?_eq_some_iff.1 hk).1
    have := hcell k hk8
    rw [hk, Addr.add_lit, Addr.add_lit] at this
    exact this)
  refine ⟨(List.range len).map f, .inr ⟨b, o, cap, by simp, by simpa using hl, hm, hb, ?_⟩⟩
  intro j hj k v hk
  have hj' : j < len := by simpa using hj
  rw [getE _ _ hj] at hk
  simp only [List.getElem_map, List.getElem_range] at hk
  exact hf2 j hj' k v hk
end

theorem laidOut : laidOutB Try.prog = true := by kernel_rfl
end Go.Proofs.Ytbdhfbfebcblkaa.wak
namespace Go.Proofs.Ytbdhfbfebcblkaa.cal
open Go.Proofs.Ytbdhfbfebcblkaa.ord
open Go.Proofs.Ytbdhfbfebcblkaa.wak (getE)

def has (id : Int) (zs : List O) : Bool := zs.any (fun r => decide (r.id = id))
/-- What is wrong with an order that comes behind others. -/
def behE (pre : List O) (o : O) : Int := if chk o = 0 then (if o.kind = 1 ∧ o.shw = 0 ∧ o.stop = 0 then (if has o.id pre = true then 7 else 0) else 3) else chk o
def ckF (pre : List O) : List O → Int
  | [] => 0
  | o :: t => if behE pre o = 0 then ckF (pre ++ [o]) t else behE pre o
/-- What is wrong with a call. -/
def cE (zs : List O) : Int := if 60 < zs.length then 4 else ckF [] zs

theorem ckF_step (zs : List O) (k : Nat) (h : k < zs.length) : ckF (zs.take k) (zs.drop k) = if behE (zs.take k) zs[k]! = 0 then ckF (zs.take (k + 1)) (zs.drop (k + 1)) else behE (zs.take k) zs[k]! := by
  have hk : zs[k]! = zs[k] := getE zs k h
  rw [hk]
  conv => lhs; rw [List.drop_eq_getElem_cons h]
  rw [ckF, List.take_succ_eq_append_getElem h]
theorem ckF_end (zs : List O) : ckF (zs.take zs.length) (zs.drop zs.length) = 0 := by simp [ckF]

/-- An order of a call. -/
structure Fine (o : O) : Prop where
  ok : chk o = 0
  kind : o.kind = 1
  shw : o.shw = 0
  stop : o.stop = 0
theorem beh_zero {pre : List O} {o : O} (h : behE pre o = 0) : Fine o ∧ has o.id pre = false := by
  unfold behE at h
  by_cases h0 : chk o = 0
  · rw [if_pos h0] at h
    by_cases h1 : o.kind = 1 ∧ o.shw = 0 ∧ o.stop = 0
    · rw [if_pos h1] at h
      refine ⟨⟨h0, h1.1, h1.2.1, h1.2.2⟩, ?_⟩
      cases hh : has o.id pre with
      | false => rfl
      | true => rw [hh] at h; simp at h
    · rw [if_neg h1] at h; simp at h
  · rw [if_neg h0] at h; exact absurd h h0
theorem ckF_zero : ∀ (zs pre : List O), ckF pre zs = 0 → (∀ o ∈ zs, Fine o) ∧ (∀ o ∈ zs, ∀ r ∈ pre, ¬ r.id = o.id) ∧ zs.Pairwise (fun a b => ¬ a.id = b.id)
  | [], _, _ => ⟨by simp, by simp, List.Pairwise.nil⟩
  | o :: t, pre, h => by
    rw [ckF] at h
    by_cases hb : behE pre o = 0
    · rw [if_pos hb] at h
      obtain ⟨h1, h2, h3⟩ := ckF_zero t _ h
      obtain ⟨b1, b2⟩ := beh_zero hb
      have hp : ∀ r ∈ pre, ¬ r.id = o.id := by
        intro r hr e
        unfold has at b2
        rw [List.any_eq_false] at b2
        exact b2 r hr (decide_eq_true e)
      refine ⟨fun x hx => ?_, fun x hx r hr => ?_, List.pairwise_cons.2 ⟨fun x hx => ?_, h3⟩⟩
      · rcases List.mem_cons.1 hx with rfl | hx
        · exact b1
        · exact h1 x hx
      · rcases List.mem_cons.1 hx with rfl | hx
        · exact hp r hr
        · exact h2 x hx r (List.mem_append_left _ hr)
      · exact h2 x hx o (List.mem_append_right _ (List.mem_singleton.2 rfl))
    · rw [if_neg hb] at h; exact absurd h hb
/-- A call with which nothing is wrong. -/
structure Good (zs : List O) : Prop where
  few : zs.length ≤ 60
  fine : ∀ o ∈ zs, Fine o
  apart : zs.Pairwise (fun a b => ¬ a.id = b.id)
theorem good_of {zs : List O} (h : cE zs = 0) : Good zs := by
  unfold cE at h
  by_cases h1 : 60 < zs.length
  · rw [if_pos h1] at h; simp at h
  · rw [if_neg h1] at h
    obtain ⟨a, -, c⟩ := ckF_zero zs [] h
    exact ⟨by omega, a, c⟩
theorem ckF_of : ∀ (zs pre : List O), (∀ o ∈ zs, Fine o) → (∀ o ∈ zs, ∀ r ∈ pre, ¬ r.id = o.id) → zs.Pairwise (fun a b => ¬ a.id = b.id) → ckF pre zs = 0
  | [], _, _, _, _ => rfl
  | o :: t, pre, h1, h2, h3 => by
    have hf := h1 o List.mem_cons_self
    have hh : has o.id pre = false := by
      unfold has
      rw [List.any_eq_false]
      intro r hr e
      exact h2 o List.mem_cons_self r hr (of_decide_eq_true e)
    have hb : behE pre o = 0 := by
      unfold behE
      rw [if_pos hf.ok, if_pos ⟨hf.kind, hf.shw, hf.stop⟩, hh]
      rfl
    rw [ckF, if_pos hb]
    rw [List.pairwise_cons] at h3
    refine ckF_of t _ (fun x hx => h1 x (List.mem_cons_of_mem _ hx)) (fun x hx r hr => ?_) h3.2
    rcases List.mem_append.1 hr with hr | hr
    · exact h2 x (List.mem_cons_of_mem _ hx) r hr
    · rw [List.mem_singleton.1 hr]; exact h3.1 x hx
theorem cE_of {zs : List O} (h : Good zs) : cE zs = 0 := by
  unfold cE
  rw [if_neg (by have := h.few; omega)]
  exact ckF_of zs [] h.fine (fun _ _ _ hr => by simp at hr) h.apart

theorem Fine.bounds {o : O} (h : Fine o) : (o.side = 1 ∨ o.side = 2) ∧ 1 ≤ o.price ∧ o.price ≤ 10000 ∧ 1 ≤ o.qty ∧ o.qty ≤ 10000 ∧ 1 ≤ o.id ∧ o.id ≤ 9999 ∧ 1 ≤ o.who ∧ o.who ≤ 9 := by
  obtain ⟨h1, h2, h3, -, -⟩ := chk_zero h.ok
  have hk := h.kind
  unfold headB at h1
  unfold priceOkB at h2
  unfold qtyB at h3
  rw [hk, if_neg (by decide)] at h2
  unfold prB at h2
  simp only [Bool.and_eq_true, decide_eq_true_eq] at h1 h2 h3
  omega
theorem Fine.pr {o : O} (h : Fine o) : prB o.price = true := by
  have := h.bounds
  unfold prB
  simp only [Bool.and_eq_true, decide_eq_true_eq]
  omega
theorem Fine.meets {o : O} (h : Fine o) (x : Int) (hx : prB x = true) : mE o x = 0 := by
  unfold mE
  rw [if_pos h.ok, hx]
  rfl
/-- Whether an order would trade at a price. -/
def at_ (o : O) (p : Int) : Bool := if o.side = 1 then decide (p ≤ o.price) else decide (o.price ≤ p)
theorem Fine.mB {o : O} (h : Fine o) (x : Int) : mB o x = at_ o x := by
  unfold ord.mB at_
  rw [show decide (o.kind = 2) = false from by rw [h.kind]; rfl, Bool.false_or]

/-- What all of a side who may trade at a price want. -/
def ws (side p : Int) : List O → Int
  | [] => 0
  | o :: t => (if o.side = side ∧ at_ o p = true then o.qty else 0) + ws side p t
theorem ws_append (side p : Int) (a b : List O) : ws side p (a ++ b) = ws side p a + ws side p b := by
  induction a with
  | nil => simp [ws]
  | cons o t ih => rw [List.cons_append, ws, ws, ih]; omega
theorem ws_take (side p : Int) (zs : List O) (k : Nat) (h : k < zs.length) : ws side p (zs.take (k + 1)) = ws side p (zs.take k) + (if (zs[k]!).side = side ∧ at_ zs[k]! p = true then (zs[k]!).qty else 0) := by
  rw [List.take_succ_eq_append_getElem h, ws_append, getE zs k h]
  simp [ws]
theorem ws_bounds (side p : Int) : ∀ (zs : List O), (∀ o ∈ zs, 0 ≤ o.qty ∧ o.qty ≤ 10000) → 0 ≤ ws side p zs ∧ ws side p zs ≤ 10000 * zs.length
  | [], _ => by simp [ws]
  | o :: t, h => by
    have ih := ws_bounds side p t (fun x hx => h x (List.mem_cons_of_mem _ hx))
    have := h o List.mem_cons_self
    rw [ws, List.length_cons]
    split <;> omega
theorem ws_small {zs : List O} (h : Good zs) (side p : Int) (k : Nat) : 0 ≤ ws side p (zs.take k) ∧ ws side p (zs.take k) ≤ 600000 := by
  have := ws_bounds side p (zs.take k) (fun o ho => by have := (h.fine o (List.mem_of_mem_take ho)).bounds; omega)
  have h2 := h.few
  have h3 : (zs.take k).length ≤ zs.length := by rw [List.length_take]; omega
  omega

/-- An offer: its price, its volume, what is left over. -/
structure Of where
  price : Int
  vol : Int
  over : Int
instance : Inhabited Of := ⟨⟨0, 0, 0⟩⟩
def ofAt (zs : List O) (p : Int) : Of := ⟨p, min (ws 1 p zs) (ws 2 p zs), ws 1 p zs - ws 2 p zs⟩
def ap (a : Of) : Int := max a.over (- a.over)
def bet (a b : Of) : Bool := if a.vol = b.vol then (if ap a = ap b then decide (a.price < b.price) else decide (ap a < ap b)) else decide (b.vol < a.vol)
def bestF (zs : List O) : List O → Of → Of
  | [], b => b
  | o :: t, b => bestF zs t (if bet (ofAt zs o.price) b = true then ofAt zs o.price else b)
/-- The offer at which a call trades. -/
def best (zs : List O) : Of := bestF zs zs ⟨0, 0, 0⟩
theorem bestF_step (zs : List O) (k : Nat) (b : Of) (h : k < zs.length) : bestF zs (zs.drop k) b = bestF zs (zs.drop (k + 1)) (if bet (ofAt zs (zs[k]!).price) b = true then ofAt zs (zs[k]!).price else b) := by
  conv => lhs; rw [List.drop_eq_getElem_cons h]
  rw [bestF, getE zs k h]
/-- Price's error. -/
def pE (zs : List O) : Int := if cE zs = 0 then (if (best zs).vol = 0 then 5 else 0) else cE zs
end Go.Proofs.Ytbdhfbfebcblkaa.cal
