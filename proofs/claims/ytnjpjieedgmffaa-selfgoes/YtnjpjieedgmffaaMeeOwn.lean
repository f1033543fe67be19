/- Plain facts: a book of which something is gone on one side is a book. No walk. Trades of the call's own, place by place. -/
import Derived.Test.YtnjpjieedgmffaaSelPure
import Derived.Test.YtnjpjieedgmffaaMeeLvl
namespace Go.Proofs.Ytnjpjieedgmffaa.slf
open Go.RowKit Go.Proofs.Ytnjpjieedgmffaa.spn Go.Proofs.Ytnjpjieedgmffaa.que Go.Proofs.Ytnjpjieedgmffaa.sid Go.Proofs.Ytnjpjieedgmffaa.bok Go.Proofs.Ytnjpjieedgmffaa.mee
open Go.Proofs.Ytnjpjieedgmffaa.ord (O mB chk)
open Go.Proofs.Ytnjpjieedgmffaa.tickP (priceB sideB betOk betR)

/-- A part of an order. -/
def part (o : O) (k : Int) : O := ⟨o.id, o.who, o.side, o.kind, o.price, k, 0, o.stop⟩
theorem tkl_part (o : O) (k : Int) : ∀ (ls : List L) (q : Int), tkl (part o k) ls q = tkl o ls q := by
  intro ls
  induction ls with
  | nil => intro q; rfl
  | cons l t ih =>
    intro q
    have e1 : trd (part o k) l.price = trd o l.price := rfl
    have e2 : mB (part o k) l.price = mB o l.price := rfl
    rw [tkl, tkl, e1, e2, ih]
theorem chk_part {o : O} {k : Int} (h : chk o = 0) (h1 : 1 ≤ k) (h2 : k ≤ o.qty) : chk (part o k) = 0 := by
  obtain ⟨a, b, c, d, e⟩ := ord.chk_zero h
  have a' : ord.headB (part o k) = true := a
  have b' : ord.priceOkB (part o k) = true := b
  have e' : ord.stopB (part o k) = true := e
  have c' : ord.qtyB (part o k) = true := by
    simp [ord.qtyB] at c
    obtain ⟨⟨⟨c1, c2⟩, c3⟩, c4⟩ := c
    show (decide (1 ≤ k) && decide (k ≤ 10000) && decide ((0 : Int) ≤ 0) && decide ((0 : Int) ≤ k)) = true
    simp only [Bool.and_eq_true, decide_eq_true_eq]
    omega
  have d' : ord.shapeB (part o k) = true := by simp [ord.shapeB, part]
  unfold chk
  rw [a', b', c', d', e']
  rfl
/-- The sides of a book whose other side, as seen from an order, is another one. -/
def repB (o : O) (bs X : List L) : List L := if o.side = 1 then bs else X
def repS (o : O) (ss X : List L) : List L := if o.side = 1 then X else ss
/-- A side of which something is gone. -/
structure Less (ls X : List L) : Prop where
  ids : ∀ i ∈ (allR X).map (·.id), i ∈ (allR ls).map (·.id)
  two : ((allR ls).map (·.id)).Nodup → ((allR X).map (·.id)).Nodup
  len : (allR X).length ≤ (allR ls).length
  price : ∀ x ∈ X, ∃ l ∈ ls, l.price = x.price
  sgo : ∀ s prev, sideB s = true → sid.sgo s prev ls = 0 → sid.sgo s prev X = 0
theorem Less.refl (ls : List L) : Less ls ls := ⟨fun _ h => h, fun h => h, Nat.le_refl _, fun x hx => ⟨x, hx, rfl⟩, fun _ _ _ h => h⟩
theorem Less.trans {a b c : List L} (h : Less a b) (k : Less b c) : Less a c :=
  ⟨fun i hi => h.ids i (k.ids i hi), fun x => k.two (h.two x), Nat.le_trans k.len h.len, fun x hx => by
    obtain ⟨y, hy, e⟩ := k.price x hx
    obtain ⟨z, hz, e2⟩ := h.price y hy
    exact ⟨z, hz, e2.trans e⟩, fun s prev hs hp => k.sgo s prev hs (h.sgo s prev hs hp)⟩
theorem less_tkl {o : O} {ls : List L} {q : Int} (hq : 0 ≤ q) (hl : ∀ l ∈ ls, lchk l = 0) : Less ls (tkl o ls q).1 := by
  obtain ⟨i1, i2, i3, i4⟩ := tkl_ids (o := o) ls q hq hl
  exact ⟨i1, i2, i3, i4, fun s prev hs h => tkl_sgo hs ls q prev hq h⟩
theorem tkl_good {o : O} {q : Int} (hq : 0 ≤ q) : ∀ {ls : List L}, (∀ l ∈ ls, lchk l = 0) → ∀ l ∈ (tkl o ls q).1, lchk l = 0 := by
  intro ls
  induction ls generalizing q with
  | nil => intro _ l hl; simp [tkl] at hl
  | cons x t ih =>
    intro hg l hl
    by_cases hc : 0 < q ∧ mB o x.price = true
    · have hx := hg x (by simp)
      obtain ⟨f1, f2, f3, f4, f5, f6, f7⟩ := take_all (lchk_zero hx).2.2 (q := q) (by omega)
      rcases tkl_step (t := t) hc.1 hc.2 hx with ⟨he, e⟩ | ⟨he, hz, e⟩
      · rw [e] at hl
        exact ih (by omega) (fun y hy => hg y (by simp [hy])) l hl
      · rw [e] at hl
        rcases List.mem_cons.1 hl with rfl | hl
        · exact lchk_of (price_of hx) he f4
        · exact hg l (by simp [hl])
    · rw [tkl_done hc] at hl; exact hg l hl
theorem less_out {p : Int} {r : R} {rs : List R} {t : List L} (hl : ∀ l ∈ (⟨p, r :: rs⟩ :: t : List L), lchk l = 0) : Less (⟨p, r :: rs⟩ :: t) (stepL p rs t) := by
  have ha : allR (stepL p rs t) = rs ++ allR t := by
    unfold stepL
    by_cases e : rs = []
    · rw [if_pos e, e]; rfl
    · rw [if_neg e, allR_cons]
  have hb : allR (⟨p, r :: rs⟩ :: t) = r :: (rs ++ allR t) := by rw [allR_cons]; rfl
  refine ⟨fun i hi => ?_, fun h => ?_, ?_, fun x hx => ?_, fun s prev hs h => ?_⟩
  · rw [ha] at hi; rw [hb, List.map_cons]; exact List.mem_cons_of_mem _ hi
  · rw [hb, List.map_cons] at h; rw [ha]; exact (List.nodup_cons.1 h).2
  · rw [ha, hb, List.length_cons]; omega
  · unfold stepL at hx
    by_cases e : rs = []
    · rw [if_pos e] at hx; exact ⟨x, by simp [hx], rfl⟩
    · rw [if_neg e] at hx
      rcases List.mem_cons.1 hx with rfl | hx
      · exact ⟨⟨p, r :: rs⟩, by simp, rfl⟩
      · exact ⟨x, by simp [hx], rfl⟩
  · obtain ⟨h1, h2, h3⟩ := sgo_cons h
    have hg := out_good hl
    unfold stepL at hg ⊢
    by_cases e : rs = []
    · rw [if_pos e]; exact sgo_weak hs h3 h2
    · rw [if_neg e] at hg ⊢; exact sgo_mk (hg _ (by simp)) h2 h3
theorem less_schk {s : Int} {ls X : List L} (h : schk s ls = 0) (hl : Less ls X) : schk s X = 0 := by
  obtain ⟨z1, z2, z3, z4⟩ := schk_zero h
  have hlen := hl.len
  refine schk_ok z1 (hl.sgo s none z1 z2) ?_ (by rw [ids_allR] at *; exact hl.two z4)
  rw [cnt_allR] at *
  omega
theorem rep_book {bs ss X : List L} {o : O} (hb : bookE bs ss = 0) (hl : Less (otherL bs ss o) X) : bookE (repB o bs X) (repS o ss X) = 0 := by
  obtain ⟨e1, e2, e3, e4, e5⟩ := book_zero hb
  have hp1 := (sgo_ahd (schk_zero e1).1 bs none (schk_zero e1).2.1).1
  have hp2 := (sgo_ahd (schk_zero e2).1 ss none (schk_zero e2).2.1).1
  unfold twiceB at e4
  simp only [decide_eq_false_iff_not, Classical.not_not] at e4
  rw [List.map_append] at e4
  obtain ⟨n1, n2, n3⟩ := List.nodup_append.1 e4
  rw [List.length_append] at e5
  unfold repB repS
  unfold otherL at hl
  by_cases hs : o.side = 1
  · simp only [if_pos hs] at hl ⊢
    have k2 := less_schk e2 hl
    have hlen := hl.len
    unfold bookE
    rw [if_pos e1, if_pos k2, if_neg, if_neg, if_neg]
    · rw [List.length_append]; omega
    · unfold twiceB
      simp only [decide_eq_true_eq, Classical.not_not]
      rw [List.map_append]
      exact List.nodup_append.2 ⟨n1, hl.two n2, fun a ha b hb => n3 a ha b (hl.ids b hb)⟩
    · intro hx
      unfold crossB at hx e3
      simp only [Bool.and_eq_true, Bool.not_eq_true', List.isEmpty_eq_false_iff, decide_eq_true_eq] at hx
      obtain ⟨x1, x2, x3⟩ := hx
      obtain ⟨l', hl', e'⟩ := best_mem x2
      obtain ⟨l, hl2, el⟩ := hl.price l' hl'
      have hne : ss ≠ [] := fun e => by rw [e] at hl2; cases hl2
      have hb2 := best_first hp2 hl2
      simp only [Bool.and_eq_false_iff, Bool.not_eq_false', List.isEmpty_iff, decide_eq_false_iff_not] at e3
      rcases e3 with e | e | e
      · exact x1 e
      · exact hne e
      · unfold ahd at hb2
        simp at hb2
        omega
  · simp only [if_neg hs] at hl ⊢
    have k1 := less_schk e1 hl
    have hlen := hl.len
    unfold bookE
    rw [if_pos k1, if_pos e2, if_neg, if_neg, if_neg]
    · rw [List.length_append]; omega
    · unfold twiceB
      simp only [decide_eq_true_eq, Classical.not_not]
      rw [List.map_append]
      exact List.nodup_append.2 ⟨hl.two n1, n2, fun a ha b hb => n3 a (hl.ids a ha) b hb⟩
    · intro hx
      unfold crossB at hx e3
      simp only [Bool.and_eq_true, Bool.not_eq_true', List.isEmpty_eq_false_iff, decide_eq_true_eq] at hx
      obtain ⟨x1, x2, x3⟩ := hx
      obtain ⟨l', hl', e'⟩ := best_mem x1
      obtain ⟨l, hl2, el⟩ := hl.price l' hl'
      have hne : bs ≠ [] := fun e => by rw [e] at hl2; cases hl2
      have hb2 := best_first hp1 hl2
      simp only [Bool.and_eq_false_iff, Bool.not_eq_false', List.isEmpty_iff, decide_eq_false_iff_not] at e3
      rcases e3 with e | e | e
      · exact hne e
      · exact x2 e
      · unfold ahd at hb2
        simp at hb2
        omega
theorem rep_come {bs ss X : List L} {o : O} {k : Int} (h : comeE bs ss o = 0) (hl : Less (otherL bs ss o) X) (h1 : 1 ≤ k) (h2 : k ≤ o.qty) : comeE (repB o bs X) (repS o ss X) (part o k) = 0 := by
  obtain ⟨hb, hc, hst, hin⟩ := come_zero h
  have hk := rep_book hb hl
  unfold comeE
  rw [if_pos hk, if_pos (chk_part hc h1 h2), if_pos (show (part o k).stop = 0 from hst), if_neg]
  intro hx
  unfold inBook at hx hin
  simp only [decide_eq_true_eq, decide_eq_false_iff_not] at hx hin
  apply hin
  rw [ids_allR, ids_allR] at hx ⊢
  have hid : (part o k).id = o.id := rfl
  rw [hid] at hx
  unfold repB repS at hx
  unfold otherL at hl
  by_cases hs : o.side = 1
  · simp only [if_pos hs] at hx hl
    rcases hx with hx | hx
    · exact .inl hx
    · exact .inr (hl.ids _ hx)
  · simp only [if_neg hs] at hx hl
    rcases hx with hx | hx
    · exact .inl (hl.ids _ hx)
    · exact .inr hx
theorem rep_other (o : O) (bs ss X : List L) (k : Int) : otherL (repB o bs X) (repS o ss X) (part o k) = X := by
  unfold otherL repB repS
  have e : (part o k).side = o.side := rfl
  rw [e]
  by_cases hs : o.side = 1
  · rw [if_pos hs, if_pos hs]
  · rw [if_neg hs, if_neg hs]
theorem rep_metR (o : O) (bs ss X : List L) (k : Int) : metR (repB o bs X) (repS o ss X) (part o k) = tkl o X k := by
  unfold metR
  rw [rep_other, tkl_part]
  rfl
theorem rep_metB (o : O) (bs ss X : List L) (k : Int) : metB (repB o bs X) (repS o ss X) (part o k) = repB o bs (tkl o X k).1 := by
  unfold metB
  rw [rep_metR]
  have e : (part o k).side = o.side := rfl
  rw [e]
  unfold repB
  by_cases hs : o.side = 1
  · simp only [if_pos hs]
  · simp only [if_neg hs]
theorem rep_metS (o : O) (bs ss X : List L) (k : Int) : metS (repB o bs X) (repS o ss X) (part o k) = repS o ss (tkl o X k).1 := by
  unfold metS
  rw [rep_metR]
  have e : (part o k).side = o.side := rfl
  rw [e]
  unfold repS
  by_cases hs : o.side = 1
  · simp only [if_pos hs]
  · simp only [if_neg hs]
theorem rep_self (o : O) (bs ss : List L) : repB o bs (otherL bs ss o) = bs ∧ repS o ss (otherL bs ss o) = ss := by
  unfold repB repS otherL
  by_cases hs : o.side = 1
  · rw [if_pos hs, if_pos hs, if_pos hs]; exact ⟨rfl, rfl⟩
  · rw [if_neg hs, if_neg hs, if_neg hs]; exact ⟨rfl, rfl⟩
/-- Where the first rest of a side is found, and what is left without it. -/
theorem first_find {s : Int} {p : Int} {r : R} {rs : List R} {t : List L} (h : schk s (⟨p, r :: rs⟩ :: t) = 0) : findE s (⟨p, r :: rs⟩ :: t) r.id = 0 ∧ findP s (⟨p, r :: rs⟩ :: t) r.id = (((0 : Nat) : Int), ((0 : Nat) : Int)) := by
  have hn := (schk_zero h).2.2.2
  have h1 := last_at hn (i := 0) (k := 0) (by simp) (by simp)
  have h2 : lastAt (flatP 0 (⟨p, r :: rs⟩ :: t)) r.id = some (r.id, ((0 : Nat) : Int), ((0 : Nat) : Int)) := h1
  have hE : findE s (⟨p, r :: rs⟩ :: t) r.id = 0 := by
    unfold findE
    rw [if_pos h, h2]
    rfl
  refine ⟨hE, ?_⟩
  unfold findP
  rw [if_pos hE, h2]
  rfl
theorem first_drop {p : Int} {r : R} {rs : List R} {t : List L} : dropL (⟨p, r :: rs⟩ :: t) 0 0 = stepL p rs t := by
  unfold dropL stepL
  show (if (r :: rs).length = 1 then _ else _) = _
  by_cases e : rs = []
  · subst e
    rw [if_pos (show [r].length = 1 from rfl), if_pos rfl]
    rfl
  · have hl : ¬ (r :: rs).length = 1 := fun h => e (List.length_eq_zero_iff.1 (by simp at h; exact congrArg List.length h))
    rw [if_neg hl, if_neg e]
    rfl
theorem first_not {bs ss : List L} {p : Int} {r : R} {rs : List R} {t : List L} (h : bookE bs ss = 0) (hs : ss = ⟨p, r :: rs⟩ :: t) : findE 1 bs r.id = 5 := by
  obtain ⟨h1, -, -, ht, -⟩ := book_zero h
  unfold twiceB at ht
  simp only [decide_eq_false_iff_not, Classical.not_not] at ht
  rw [List.map_append, List.nodup_append] at ht
  have hm : r ∈ allR ss := by rw [hs, allR_cons]; simp
  have hn : r.id ∉ ids bs := fun e => by
    rw [ids_allR] at e
    exact ht.2.2 _ e _ (List.mem_map.2 ⟨_, hm, rfl⟩) rfl
  exact findE_out h1 hn
end Go.Proofs.Ytnjpjieedgmffaa.slf
namespace Go.Proofs.Ytnjpjieedgmffaa.mee
open Go.RowKit Go.Proofs.Ytnjpjieedgmffaa.spn Go.Proofs.Ytnjpjieedgmffaa.que Go.Proofs.Ytnjpjieedgmffaa.sid

theorem flatT_get (ts : List T) : ∀ j, j < ts.length → ∀ i, i < 6 → (flatT ts)[j * 6 + i]? = (tV ts[j]!)[i]? := by
  induction ts with
  | nil => intro j hj; simp at hj
  | cons r t ih =>
    intro j hj i hi
    have e : flatT (r :: t) = tV r ++ flatT t := rfl
    rw [e]
    cases j with
    | zero => rw [Nat.zero_mul, Nat.zero_add, List.getElem?_append_left (by show i < 6; exact hi)]; rfl
    | succ j =>
      rw [List.getElem?_append_right (by show 6 ≤ _; omega)]
      have : (j + 1) * 6 + i - (tV r).length = j * 6 + i := by show (j + 1) * 6 + i - 6 = _; omega
      rw [this, ih j (by simpa using hj) i hi]
      rfl
/-- Trades of the call's own, place by place. -/
theorem OwnT.at {w : World} {base : Nat} {q : Option Addr} {n c : Nat} {ts : List T} (h : OwnT w base (.slice q n c) ts) {k : Nat} (hk : k < ts.length) : ∃ g off, q = some ⟨g, off, none⟩ ∧ g < w.heap.size ∧ w.cell? ⟨g, off + k * 6, none⟩ = some (.int .i64 ts[k]!.maker) ∧ w.cell? ⟨g, off + k * 6 + 1, none⟩ = some (.int .i64 ts[k]!.taker) ∧ w.cell? ⟨g, off + k * 6 + 2, none⟩ = some (.int .i64 ts[k]!.frm) ∧ w.cell? ⟨g, off + k * 6 + 3, none⟩ = some (.int .i64 ts[k]!.into) ∧ w.cell? ⟨g, off + k * 6 + 4, none⟩ = some (.int .i64 ts[k]!.price) ∧ w.cell? ⟨g, off + k * 6 + 5, none⟩ = some (.int .i64 ts[k]!.qty) := by
  have hn : n = ts.length := by obtain ⟨q', c', e⟩ := OwnM.form h; cases e; rfl
  subst hn
  cases q with
  | none =>
    rcases h.2 with ⟨e, hn⟩ | ⟨g, off, cap, cur, e, _⟩
    · rw [hn] at hk; exact absurd hk (Nat.not_lt_zero _)
    · cases e
  | some a =>
    rcases h.2 with ⟨e, hn⟩ | ⟨g, off, cap, cur, e, _⟩
    · cases e
    · cases e
      obtain ⟨hc, -, -, hlt⟩ := OwnM.cells h
      have hh : ∀ i u, i < 6 → (tV ts[k]!)[i]? = some u → w.cell? ⟨g, off + (k * 6 + i), none⟩ = some u := fun i u hi hu => hc (k * 6 + i) u (by rw [flatT_get ts k hk i hi]; exact hu)
      exact ⟨g, off, rfl, hlt, hh 0 _ (by omega) rfl, hh 1 _ (by omega) rfl, hh 2 _ (by omega) rfl, hh 3 _ (by omega) rfl, hh 4 _ (by omega) rfl, hh 5 _ (by omega) rfl⟩

end Go.Proofs.Ytnjpjieedgmffaa.mee
