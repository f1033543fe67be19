/- Plain facts: what an Add that went well gives. Plain facts on a book behind a Put that went well. No walk. Plain facts: orders that do not meet come into a book one by one. -/
import Derived.Test.YtbdhfbfebcblkaaSidAdd
import Derived.Test.YtbdhfbfebcblkaaSidFind2
import Derived.Test.YtbdhfbfebcblkaaSidDL
import Derived.Test.YtbdhfbfebcblkaaBokPut2
import Derived.Test.YtbdhfbfebcblkaaBokFind
import Derived.Test.YtbdhfbfebcblkaaTCNc
import Derived.Test.YtbdhfbfebcblkaaKinDo
namespace Go.Proofs.Ytbdhfbfebcblkaa.sid
open Go.RowKit Go.Proofs.Ytbdhfbfebcblkaa.spn Go.Proofs.Ytbdhfbfebcblkaa.que Go.Maps
open Go.Proofs.Ytbdhfbfebcblkaa.tickP (priceB sideB)

theorem add_zero {s : Int} {ls : List L} {p : Int} {r : R} (h : addE s ls p r = 0) : schk s ls = 0 ∧ priceB p = true ∧ rchk r = 0 ∧ r.id ∉ ids ls ∧ cnt ls ≠ 60 := by
  unfold addE at h
  by_cases h0 : schk s ls = 0
  · rw [if_pos h0] at h
    by_cases h1 : priceB p = true
    · rw [if_pos h1] at h
      by_cases h2 : rchk r = 0
      · rw [if_pos h2] at h
        by_cases h3 : r.id ∈ ids ls
        · rw [if_pos h3] at h; cases h
        · rw [if_neg h3] at h
          by_cases h4 : cnt ls = 60
          · rw [if_pos h4] at h; cases h
          · exact ⟨h0, h1, h2, h3, h4⟩
      · rw [if_neg h2] at h; exact absurd h h2
    · rw [if_neg h1] at h; cases h
  · rw [if_neg h0] at h; exact absurd h h0
/-- What an Add that went well gives. -/
theorem add_facts {s : Int} {ls : List L} {p : Int} {r : R} (h : addE s ls p r = 0) : schk s (putL s p r ls) = 0 ∧ ∃ i k : Nat, i < (putL s p r ls).length ∧ (putL s p r ls)[i]!.price = p ∧ k + 1 = (putL s p r ls)[i]!.rests.length ∧ (putL s p r ls)[i]!.rests[k]! = r ∧
    findE s (putL s p r ls) r.id = 0 ∧ findP s (putL s p r ls) r.id = ((i : Int), (k : Int)) ∧ dropL (putL s p r ls) i k = ls := by
  obtain ⟨h0, h1, h2, h3, h4⟩ := add_zero h
  obtain ⟨z1, z2, z3, z4⟩ := schk_zero h0
  have hs := schk_put h0 h1 h2 h3 (by omega)
  obtain ⟨y1, y2, y3, y4⟩ := schk_zero hs
  obtain ⟨i, k, hi, hk, e1, e2, e3, e4⟩ := drop_put (s := s) (p := p) (r := r) (ls := ls) (sgo_each z2)
  have hl := last_at y4 hi hk
  rw [e2] at hl
  have hf : findE s (putL s p r ls) r.id = 0 := by unfold findE; rw [if_pos hs, hl]; rfl
  refine ⟨hs, i, k, hi, by rw [getE _ _ hi]; exact e1, by rw [getE _ _ hi]; exact e3, by rw [getE _ _ hi, getE _ _ hk]; exact e2, hf, ?_, e4⟩
  unfold findP; rw [if_pos hf, hl]; rfl
end Go.Proofs.Ytbdhfbfebcblkaa.sid
namespace Go.Proofs.Ytbdhfbfebcblkaa.bok
open Go.RowKit Go.Proofs.Ytbdhfbfebcblkaa.spn Go.Proofs.Ytbdhfbfebcblkaa.que Go.Proofs.Ytbdhfbfebcblkaa.sid
open Go.Proofs.Ytbdhfbfebcblkaa.tickP (priceB sideB)

theorem put_zero {bs ss : List L} {s p : Int} {r : R} (h : putE bs ss s p r = 0) : bookE bs ss = 0 ∧ addE s (if s = 1 then bs else ss) p r = 0 ∧ bookE (put1 bs s p r) (put2 ss s p r) = 0 := by
  unfold putE at h
  by_cases h0 : bookE bs ss = 0
  · rw [if_pos h0] at h
    by_cases h1 : addE s (if s = 1 then bs else ss) p r = 0
    · rw [if_pos h1] at h; exact ⟨h0, h1, h⟩
    · rw [if_neg h1] at h; exact absurd h h1
  · rw [if_neg h0] at h; exact absurd h h0
theorem put_side {bs ss : List L} {s p : Int} {r : R} (h : putE bs ss s p r = 0) : s = 1 ∨ s = 2 := by
  have := (schk_zero (add_zero (put_zero h).2.1).1).1
  simpa [sideB] using this
theorem top_apart {bs ss : List L} (h : bookE bs ss = 0) : bestI bs = 0 ∨ bestI ss = 0 ∨ bestI bs < bestI ss := by
  obtain ⟨-, -, hx, -, -⟩ := book_zero h
  cases bs with
  | nil => exact .inl rfl
  | cons x t =>
    cases ss with
    | nil => exact .inr (.inl rfl)
    | cons y u =>
      right; right
      unfold crossB at hx
      simp at hx
      omega
/-- What is known of a book behind a Put that went well, on the side at which it came. -/
structure Held (S : Int) (X bs : List L) (p : Int) (r : R) (i k : Nat) : Prop where
  hi : i < X.length
  hk : k < X[i].rests.length
  price : X[i].price = p
  rest : X[i].rests[k] = r
  fe : findE S X r.id = 0
  fp : findP S X r.id = ((i : Int), (k : Int))
  drop : dropL X i k = bs
theorem held_of {s p : Int} {r : R} {ls : List L} (h : addE s ls p r = 0) : ∃ i k, Held s (putL s p r ls) ls p r i k := by
  obtain ⟨hs, i, k, hi, e1, e2, e3, e4, e5, e6⟩ := add_facts h
  have hk : k < (putL s p r ls)[i].rests.length := by rw [getE _ _ hi] at e2; omega
  refine ⟨i, k, hi, hk, by rw [getE _ _ hi] at e1; exact e1, ?_, e4, e5, e6⟩
  rw [getE _ _ hi, getE _ _ hk] at e3
  exact e3
theorem count_put (s p : Int) (r : R) (a ls : List L) : (allR a ++ allR (putL s p r ls)).length = (allR a ++ allR ls).length + 1 ∧ (allR (putL s p r ls) ++ allR a).length = (allR ls ++ allR a).length + 1 := by
  have := (put_perm s p r ls).length_eq
  simp only [List.length_append, this, List.length_cons]
  omega
/-- An id that is among the Sells is not among the Buys. -/
theorem not_buy {bs ss : List L} (h : bookE bs ss = 0) {i k : Nat} (hi : i < ss.length) (hk : k < ss[i].rests.length) : findE 1 bs ss[i].rests[k].id = 5 := by
  obtain ⟨h1, -, -, ht, -⟩ := book_zero h
  unfold twiceB at ht
  simp only [decide_eq_false_iff_not, Classical.not_not] at ht
  rw [List.map_append, List.nodup_append] at ht
  have hm : ss[i].rests[k] ∈ allR ss := List.mem_flatMap.2 ⟨ss[i], List.getElem_mem hi, List.getElem_mem hk⟩
  have hn : ss[i].rests[k].id ∉ ids bs := fun e => by
    rw [ids_allR] at e
    exact ht.2.2 _ e _ (List.mem_map.2 ⟨_, hm, rfl⟩) rfl
  have : lastAt (flatP 0 bs) ss[i].rests[k].id = none := by
    cases hl : lastAt (flatP 0 bs) ss[i].rests[k].id with
    | none => rfl
    | some t => exact absurd (id_ids.2 (by rw [hl]; simp)) hn
  unfold findE
  rw [if_pos h1, this]
  rfl
end Go.Proofs.Ytbdhfbfebcblkaa.bok
namespace Go.Proofs.Ytbdhfbfebcblkaa.cal
open Go.Proofs.Ytbdhfbfebcblkaa.ord (O chk mB prB)
open Go.Proofs.Ytbdhfbfebcblkaa.sid Go.Proofs.Ytbdhfbfebcblkaa.bok Go.Proofs.Ytbdhfbfebcblkaa.mee Go.Proofs.Ytbdhfbfebcblkaa.kin Go.Proofs.Ytbdhfbfebcblkaa.que
open Go.Proofs.Ytbdhfbfebcblkaa.tickP (priceB sideB)

/-- Orders of which none meets another one. -/
structure Apt (rs : List O) : Prop where
  good : Good rs
  far : ∀ a ∈ rs, ∀ c ∈ rs, a.side = 1 → c.side = 2 → a.price < c.price

/-- What rests of an order. -/
def rsO (o : O) : R := ⟨o.id, o.who, o.qty, 0, 0⟩
theorem kept_is {o : O} (h : o.shw = 0) : keptR o o.qty = rsO o := by
  unfold keptR shownK rsO
  rw [if_pos h, h, Int.sub_self]
theorem rsO_chk {o : O} (h : Fine o) : rchk (rsO o) = 0 := by
  have b := h.bounds
  have h1 : que.rangeB (rsO o) = true := by
    unfold que.rangeB rsO que.inB
    simp only [Bool.and_eq_true, decide_eq_true_eq]
    omega
  have h2 : que.shapeB (rsO o) = true := by
    unfold que.shapeB rsO
    simp
  unfold rchk
  rw [if_pos h1, if_pos h2]

/-- A book of the first orders. -/
structure BkI (rs : List O) (k : Nat) (bs ss : List L) : Prop where
  b : schk 1 bs = 0
  s : schk 2 ss = 0
  ids : ((allR bs ++ allR ss).map (·.id)).Perm ((rs.take k).map (·.id))
  pb : ∀ l ∈ bs, ∃ o ∈ rs, o.side = 1 ∧ o.price = l.price
  ps : ∀ l ∈ ss, ∃ o ∈ rs, o.side = 2 ∧ o.price = l.price
theorem BkI.start (rs : List O) : BkI rs 0 [] [] := ⟨schk_none (by decide), schk_none (by decide), by simp [allR], by simp, by simp⟩
theorem BkI.len {rs : List O} {k : Nat} {bs ss : List L} (h : BkI rs k bs ss) (hk : k ≤ rs.length) : (allR bs ++ allR ss).length = k := by
  have := h.ids.length_eq
  rw [List.length_map, List.length_map, List.length_take] at this
  omega
theorem BkI.book {rs : List O} {k : Nat} {bs ss : List L} (ha : Apt rs) (h : BkI rs k bs ss) (hk : k ≤ rs.length) : bookE bs ss = 0 := by
  have hl := h.len hk
  have hf := ha.good.few
  have hx : crossB bs ss = false := by
    cases bs with
    | nil => rfl
    | cons x t =>
      cases ss with
      | nil => rfl
      | cons y u =>
        obtain ⟨o, ho, o1, o2⟩ := h.pb x List.mem_cons_self
        obtain ⟨c, hc, c1, c2⟩ := h.ps y List.mem_cons_self
        have := ha.far o ho c hc o1 c1
        unfold crossB bestI
        simp only [List.isEmpty_cons, Bool.not_false, Bool.true_and]
        exact decide_eq_false (by omega)
  have ht : twiceB (allR bs ++ allR ss) = false := by
    unfold twiceB
    refine decide_eq_false (fun hn => hn ?_)
    rw [h.ids.nodup_iff, List.Nodup, List.pairwise_map]
    exact ha.good.apart.sublist (List.take_sublist _ _)
  unfold bookE
  rw [if_pos h.b, if_pos h.s, hx, ht, if_neg (by decide), if_neg (by decide), if_neg (by omega)]
theorem putL_prices {s p : Int} {r : R} : ∀ (ls : List L), ∀ l ∈ putL s p r ls, l.price = p ∨ ∃ x ∈ ls, x.price = l.price
  | [], l, hl => by
    unfold putL at hl
    rw [List.mem_singleton.1 hl]
    exact .inl rfl
  | x :: t, l, hl => by
    unfold putL at hl
    by_cases h1 : leadB s x.price p = true
    · rw [if_pos h1] at hl
      rcases List.mem_cons.1 hl with rfl | hl
      · exact .inr ⟨l, List.mem_cons_self, rfl⟩
      · rcases putL_prices t l hl with e | ⟨y, hy, e⟩
        · exact .inl e
        · exact .inr ⟨y, List.mem_cons_of_mem _ hy, e⟩
    · rw [if_neg h1] at hl
      by_cases h2 : x.price = p
      · rw [if_pos h2] at hl
        rcases List.mem_cons.1 hl with rfl | hl
        · exact .inl rfl
        · exact .inr ⟨l, List.mem_cons_of_mem _ hl, rfl⟩
      · rw [if_neg h2] at hl
        rcases List.mem_cons.1 hl with rfl | hl
        · exact .inl rfl
        · exact .inr ⟨l, hl, rfl⟩
theorem take_ids (rs : List O) (k : Nat) (h : k < rs.length) : (rs.take (k + 1)).map (·.id) = (rs.take k).map (·.id) ++ [(rs[k]!).id] := by
  rw [List.take_succ_eq_append_getElem h, List.map_append, wak.getE rs k h]
  rfl
theorem BkI.fresh {rs : List O} {k : Nat} {bs ss : List L} (ha : Apt rs) (h : BkI rs k bs ss) (hk : k < rs.length) : (rs[k]!).id ∉ sid.ids bs ∧ (rs[k]!).id ∉ sid.ids ss := by
  have hn : (rs[k]!).id ∉ (allR bs ++ allR ss).map (·.id) := by
    rw [h.ids.mem_iff]
    intro hm
    obtain ⟨o, ho, e⟩ := List.mem_map.1 hm
    obtain ⟨j, hj, rfl⟩ := List.mem_iff_getElem.1 ho
    rw [List.length_take] at hj
    rw [List.getElem_take] at e
    have := List.pairwise_iff_getElem.1 ha.good.apart j k (by omega) hk (by omega)
    rw [wak.getE rs k hk] at e
    exact this e
  rw [List.map_append, List.mem_append] at hn
  rw [ids_allR, ids_allR]
  exact ⟨fun x => hn (.inl x), fun x => hn (.inr x)⟩
/-- One order more. -/
theorem BkI.next {rs : List O} {k : Nat} {bs ss : List L} (ha : Apt rs) (h : BkI rs k bs ss) (hk : k < rs.length) : BkI rs (k + 1) (put1 bs (rs[k]!).side (rs[k]!).price (rsO rs[k]!)) (put2 ss (rs[k]!).side (rs[k]!).price (rsO rs[k]!)) := by
  have hm : rs[k]! ∈ rs := by rw [wak.getE rs k hk]; exact List.getElem_mem _
  have hf := ha.good.fine _ hm
  have hb := hf.bounds
  obtain ⟨f1, f2⟩ := h.fresh ha hk
  have hl := h.len (by omega)
  have hfew := ha.good.few
  rw [List.length_append] at hl
  have c1 : cnt bs < 60 := by rw [cnt_allR]; omega
  have c2 : cnt ss < 60 := by rw [cnt_allR]; omega
  have hpr : priceB (rs[k]!).price = true := hf.pr
  have hr := rsO_chk hf
  have hti := take_ids rs k hk
  unfold put1 put2
  rcases hb.1 with e | e
  · rw [e, if_pos rfl, if_pos rfl]
    refine ⟨schk_put h.b hpr hr f1 c1, h.s, ?_, fun l hl' => ?_, h.ps⟩
    · rw [hti, List.map_append]
      have p1 := (put_perm 1 (rs[k]!).price (rsO rs[k]!) bs).map (·.id)
      rw [List.map_cons] at p1
      refine (p1.append_right _).trans ?_
      rw [List.cons_append, ← List.map_append]
      exact (h.ids.cons _).trans (List.perm_append_singleton _ _).symm
    · rcases putL_prices bs l hl' with e1 | ⟨x, hx, e1⟩
      · exact ⟨_, hm, e, e1.symm⟩
      · obtain ⟨o, o1, o2, o3⟩ := h.pb x hx
        exact ⟨o, o1, o2, o3.trans e1⟩
  · rw [e, if_neg (by decide), if_neg (by decide)]
    refine ⟨h.b, schk_put h.s hpr hr f2 c2, ?_, h.pb, fun l hl' => ?_⟩
    · rw [hti, List.map_append]
      have p1 := (put_perm 2 (rs[k]!).price (rsO rs[k]!) ss).map (·.id)
      rw [List.map_cons] at p1
      refine (p1.append_left _).trans ?_
      refine List.perm_middle.trans ?_
      rw [← List.map_append]
      exact (h.ids.cons _).trans (List.perm_append_singleton _ _).symm
    · rcases putL_prices ss l hl' with e1 | ⟨x, hx, e1⟩
      · exact ⟨_, hm, e, e1.symm⟩
      · obtain ⟨o, o1, o2, o3⟩ := h.ps x hx
        exact ⟨o, o1, o2, o3.trans e1⟩
/-- What becomes of it: it rests, whole. -/
theorem BkI.does {rs : List O} {k : Nat} {bs ss : List L} (ha : Apt rs) (h : BkI rs k bs ss) (hk : k < rs.length) :
    kdoE bs ss rs[k]! = 0 ∧ kdoB bs ss rs[k]! = put1 bs (rs[k]!).side (rs[k]!).price (rsO rs[k]!) ∧ kdoS bs ss rs[k]! = put2 ss (rs[k]!).side (rs[k]!).price (rsO rs[k]!) ∧ kdoG bs ss rs[k]! = 0 ∧ (metR bs ss rs[k]!).2.1 = [] := by
  have hm : rs[k]! ∈ rs := by rw [wak.getE rs k hk]; exact List.getElem_mem _
  have hf := ha.good.fine _ hm
  have hb := hf.bounds
  obtain ⟨f1, f2⟩ := h.fresh ha hk
  have hbk := h.book ha (by omega)
  have hnx := (h.next ha hk).book ha (by omega)
  have hl := h.len (by omega)
  have hfew := ha.good.few
  rw [List.length_append] at hl
  have hpr : priceB (rs[k]!).price = true := hf.pr
  have hr := rsO_chk hf
  have hst : ∀ ls : List L, (∀ l ∈ ls, mB rs[k]! l.price = false) → tkl rs[k]! ls (rs[k]!).qty = (ls, [], (rs[k]!).qty) := by
    intro ls hls
    cases ls with
    | nil => rfl
    | cons l t => exact tkl_stop (hls l List.mem_cons_self)
  have hmet : metR bs ss rs[k]! = (otherL bs ss rs[k]!, [], (rs[k]!).qty) := by
    unfold metR
    refine hst _ fun l hl' => ?_
    rw [hf.mB]
    unfold otherL at hl'
    rcases hb.1 with e | e
    · rw [if_pos e] at hl'
      obtain ⟨c, hc, c1, c2⟩ := h.ps l hl'
      have := ha.far _ hm c hc e c1
      rw [at_buy e]
      exact decide_eq_false (by omega)
    · rw [if_neg (by rw [e]; decide)] at hl'
      obtain ⟨c, hc, c1, c2⟩ := h.pb l hl'
      have := ha.far c hc _ hm c1 e
      rw [at_sell e]
      exact decide_eq_false (by omega)
  have hmb : metB bs ss rs[k]! = bs := by
    unfold metB
    by_cases e : (rs[k]!).side = 1
    · rw [if_pos e]
    · rw [if_neg e, hmet]; unfold otherL; rw [if_neg e]
  have hms : metS bs ss rs[k]! = ss := by
    unfold metS
    by_cases e : (rs[k]!).side = 1
    · rw [if_pos e, hmet]; unfold otherL; rw [if_pos e]
    · rw [if_neg e]
  have hce : comeE bs ss rs[k]! = 0 := by
    have hin : inBook bs ss (rs[k]!).id = false := decide_eq_false (fun x => x.elim f1 f2)
    unfold comeE
    rw [if_pos hbk, if_pos hf.ok, if_pos hf.stop, hin]
    rfl
  have hdo : doE bs ss rs[k]! = 0 := by
    unfold doE
    rw [if_pos hce, hmet]
    rfl
  have hstay : stayB rs[k]! (rs[k]!).qty = true := by
    unfold stayB mayK
    rw [hf.kind]
    have : ((rs[k]!).qty == 0) = false := beq_eq_false_iff_ne.2 (by omega)
    rw [this]
    rfl
  have href : refE rs[k]! (rs[k]!).qty = 0 := by
    unfold refE
    rw [hf.kind, if_neg (fun x => absurd x.1 (by decide)), if_neg (fun x => absurd x.1 (by decide))]
  have hre : restE rs[k]! (rs[k]!).qty = 0 := by
    unfold restE
    rw [if_pos hf.ok, if_pos ⟨by omega, Int.le_refl _⟩]
  have hadd : addE (rs[k]!).side (if (rs[k]!).side = 1 then bs else ss) (rs[k]!).price (rsO rs[k]!) = 0 := by
    have g1 : (rsO rs[k]!).id ∉ sid.ids bs := f1
    have g2 : (rsO rs[k]!).id ∉ sid.ids ss := f2
    rcases hb.1 with e | e
    · rw [if_pos e, e]
      unfold addE
      rw [if_pos h.b, if_pos hpr, if_pos hr, if_neg g1, if_neg (by rw [cnt_allR]; omega)]
    · rw [if_neg (by rw [e]; decide), e]
      unfold addE
      rw [if_pos h.s, if_pos hpr, if_pos hr, if_neg g2, if_neg (by rw [cnt_allR]; omega)]
  have hput : putE bs ss (rs[k]!).side (rs[k]!).price (rsO rs[k]!) = 0 := by
    unfold putE
    rw [if_pos hbk, if_pos hadd]
    exact hnx
  refine ⟨?_, ?_, ?_, ?_, by rw [hmet]⟩
  · unfold kdoE setE
    rw [if_pos hdo, hmb, hms, hmet]
    simp only
    rw [if_pos href, if_pos hstay, if_pos hre, kept_is hf.shw]
    exact hput
  · unfold kdoB setB
    rw [hmb, hmet]
    simp only
    rw [if_pos hstay, kept_is hf.shw]
  · unfold kdoS setS
    rw [hms, hmet]
    simp only
    rw [if_pos hstay, kept_is hf.shw]
  · unfold kdoG setG
    rw [hmet]
    simp only
    rw [if_pos hstay]
end Go.Proofs.Ytbdhfbfebcblkaa.cal
