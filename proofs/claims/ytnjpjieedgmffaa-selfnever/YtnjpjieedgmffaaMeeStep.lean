/- Plain facts: what is left of a book of which an order took is a book. No walk. Plain facts on who comes and who rests: the document goes fill by fill, the program level by level; both take the same. No walk. -/
import Derived.Test.YtnjpjieedgmffaaMeeDo2
import Derived.Test.YtnjpjieedgmffaaSidMap
import Derived.Test.YtnjpjieedgmffaaSidPut
namespace Go.Proofs.Ytnjpjieedgmffaa.mee
open Go.RowKit Go.Proofs.Ytnjpjieedgmffaa.spn Go.Proofs.Ytnjpjieedgmffaa.que Go.Proofs.Ytnjpjieedgmffaa.sid Go.Proofs.Ytnjpjieedgmffaa.bok
open Go.Proofs.Ytnjpjieedgmffaa.ord (O oV mB mE chk meets_any)
open Go.Proofs.Ytnjpjieedgmffaa.tickP (priceB sideB betOk betR)

theorem lead_iff {s a b : Int} (hs : sideB s = true) : leadB s a b = true ↔ (priceB a = true ∧ priceB b = true) ∧ ahd s a b := by
  simp [sideB] at hs
  unfold leadB betR betOk ahd
  rcases hs with rfl | rfl
  · have e : wrap64 (3 - 1) = 2 := by unfold wrap64; omega
    rw [e]
    simp [sideB]
  · have e : wrap64 (3 - 2) = 1 := by unfold wrap64; omega
    rw [e]
    simp [sideB]
theorem lead_trans {s a b c : Int} (hs : sideB s = true) (h1 : leadB s a b = true) (h2 : leadB s b c = true) : leadB s a c = true := by
  rw [lead_iff hs] at *
  exact ⟨⟨h1.1.1, h2.1.2⟩, ahd_trans h1.2 h2.2⟩
theorem sgo_weak {s a : Int} {prev : Option Int} {t : List L} (hs : sideB s = true) (h : sgo s (some a) t = 0) (hp : behindB s prev a = true) : sgo s prev t = 0 := by
  cases t with
  | nil => cases prev <;> rfl
  | cons x t =>
    obtain ⟨h1, h2, h3⟩ := sgo_cons h
    refine sgo_mk h1 ?_ h3
    cases prev with
    | none => rfl
    | some y => exact lead_trans hs hp h2
theorem tkl_sgo {o : O} {s : Int} (hs : sideB s = true) : ∀ (ls : List L) (q : Int) (prev : Option Int), 0 ≤ q → sgo s prev ls = 0 → sgo s prev (tkl o ls q).1 = 0 := by
  intro ls
  induction ls with
  | nil => intro q prev _ h; exact h
  | cons l t ih =>
    intro q prev hq h
    obtain ⟨h1, h2, h3⟩ := sgo_cons h
    by_cases hc : 0 < q ∧ mB o l.price = true
    · obtain ⟨f1, f2, f3, f4, f5, f6, f7⟩ := take_all (lchk_zero h1).2.2 (q := q) (by omega)
      rcases tkl_step (t := t) hc.1 hc.2 h1 with ⟨he, e⟩ | ⟨he, hz, e⟩
      · rw [e]
        exact ih _ prev (by omega) (sgo_weak hs h3 h2)
      · rw [e]
        exact sgo_mk (lchk_of (price_of h1) he f4) h2 h3
    · rw [tkl_done hc]; exact h
theorem tk1_ids {k : Int} {r : R} {t : List R} : ∀ x ∈ tk1 k r t, x.id = r.id ∨ x ∈ t := by
  intro x hx
  unfold tk1 at hx
  split at hx
  · rcases List.mem_cons.1 hx with rfl | hx
    · exact .inl rfl
    · exact .inr hx
  · split at hx
    · exact .inr hx
    · rcases List.mem_append.1 hx with hx | hx
      · exact .inr hx
      · simp at hx; subst hx; exact .inl rfl
theorem take_ids (m : Nat) : ∀ (n : Int) (zs : List R), n ≤ m → que.Good zs → 0 ≤ n → ∀ x ∈ (take n zs).2, x.id ∈ zs.map (·.id) := by
  induction m with
  | zero =>
    intro n zs hn _ h0 x hx
    rw [take_done n zs (by omega)] at hx
    exact List.mem_map.2 ⟨x, hx, rfl⟩
  | succ m ih =>
    intro n zs hn hg h0 x hx
    by_cases hn0 : n ≤ 0
    · rw [take_done n zs hn0] at hx
      exact List.mem_map.2 ⟨x, hx, rfl⟩
    · cases zs with
      | nil => rw [take_nil] at hx; cases hx
      | cons r t =>
        have hr := rchk_zero (hg.1 r (by simp))
        rw [take_cons n r t (by omega) hg] at hx
        simp only [] at hx
        have hg2 := (tk1_good (k := min n r.qty) hg (by omega) (by omega)).1
        have h := ih (n - min n r.qty) _ (by omega) hg2 (by omega) x hx
        obtain ⟨y, hy, e⟩ := List.mem_map.1 h
        rw [← e]
        rcases tk1_ids y hy with h1 | h1
        · rw [h1]; simp
        · exact List.mem_map.2 ⟨y, by simp [h1], rfl⟩
theorem tkl_ids {o : O} : ∀ (ls : List L) (q : Int), 0 ≤ q → (∀ l ∈ ls, lchk l = 0) → (∀ i ∈ (allR (tkl o ls q).1).map (·.id), i ∈ (allR ls).map (·.id)) ∧ (((allR ls).map (·.id)).Nodup → ((allR (tkl o ls q).1).map (·.id)).Nodup) ∧ (allR (tkl o ls q).1).length ≤ (allR ls).length ∧ (∀ x ∈ (tkl o ls q).1, ∃ l ∈ ls, l.price = x.price) := by
  intro ls
  induction ls with
  | nil => intro q _ _; exact ⟨fun i hi => hi, fun h => h, Nat.le_refl _, fun x hx => by cases hx⟩
  | cons l t ih =>
    intro q hq hg
    by_cases hc : 0 < q ∧ mB o l.price = true
    · have hl := hg l (by simp)
      obtain ⟨f1, f2, f3, f4, f5, f6, f7⟩ := take_all (lchk_zero hl).2.2 (q := q) (by omega)
      obtain ⟨h60, hgd⟩ := (qchk_zero l.rests).1 (lchk_zero hl).2.2
      rcases tkl_step (t := t) hc.1 hc.2 hl with ⟨he, e⟩ | ⟨he, hz, e⟩
      · obtain ⟨i1, i2, i3, i4⟩ := ih (q - sum (take q l.rests).1) (by omega) (fun x hx => hg x (by simp [hx]))
        rw [e, allR_cons]
        simp only [List.map_append, List.length_append]
        refine ⟨fun i hi => List.mem_append.2 (.inr (i1 i hi)), fun h => i2 (List.nodup_append.1 h).2.1, by omega, fun x hx => ?_⟩
        obtain ⟨l', h1, h2⟩ := i4 x hx
        exact ⟨l', by simp [h1], h2⟩
      · obtain ⟨g1, g2, -, -, -, -, -, -⟩ := take_facts q.toNat q l.rests (by omega) hgd (by omega)
        have hsub := take_ids q.toNat q l.rests (by omega) hgd (by omega)
        rw [e, allR_cons, allR_cons]
        simp only [List.map_append, List.length_append]
        refine ⟨fun i hi => ?_, fun h => ?_, by omega, fun x hx => ?_⟩
        · rcases List.mem_append.1 hi with hi | hi
          · obtain ⟨y, hy, rfl⟩ := List.mem_map.1 hi
            exact List.mem_append.2 (.inl (hsub y hy))
          · exact List.mem_append.2 (.inr hi)
        · obtain ⟨n1, n2, n3⟩ := List.nodup_append.1 h
          refine List.nodup_append.2 ⟨g1.2, n2, fun a ha b hb => ?_⟩
          obtain ⟨y, hy, rfl⟩ := List.mem_map.1 ha
          exact n3 _ (hsub y hy) b hb
        · rcases List.mem_cons.1 hx with rfl | hx
          · exact ⟨l, by simp, rfl⟩
          · exact ⟨x, by simp [hx], rfl⟩
    · rw [tkl_done hc]
      exact ⟨fun i hi => hi, fun h => h, Nat.le_refl _, fun x hx => ⟨x, hx, rfl⟩⟩

theorem best_mem {ls : List L} (h : ls ≠ []) : ∃ l ∈ ls, bestI ls = l.price := by
  cases ls with
  | nil => exact absurd rfl h
  | cons l t => exact ⟨l, by simp, rfl⟩
theorem best_first {s : Int} {ls : List L} (hp : ls.Pairwise fun a b => ahd s a.price b.price) {l : L} (hl : l ∈ ls) : bestI ls = l.price ∨ ahd s (bestI ls) l.price := by
  cases ls with
  | nil => cases hl
  | cons x t =>
    rcases List.mem_cons.1 hl with rfl | hl
    · exact .inl rfl
    · exact .inr ((List.pairwise_cons.1 hp).1 l hl)
/-- A side of which something was taken is a side. -/
theorem tkl_schk {o : O} {s : Int} {ls : List L} {q : Int} (hq : 0 ≤ q) (h : schk s ls = 0) : schk s (tkl o ls q).1 = 0 := by
  obtain ⟨z1, z2, z3, z4⟩ := schk_zero h
  have hE := sgo_each z2
  obtain ⟨i1, i2, i3, i4⟩ := tkl_ids (o := o) ls q hq hE
  refine schk_ok z1 (tkl_sgo z1 ls q none hq z2) ?_ (by rw [ids_allR] at *; exact i2 z4)
  rw [cnt_allR] at *
  omega
theorem met_book {bs ss : List L} {o : O} (h : comeE bs ss o = 0) : bookE (metB bs ss o) (metS bs ss o) = 0 := by
  obtain ⟨hb, hc, -, -⟩ := come_zero h
  obtain ⟨e1, e2, e3, e4, e5⟩ := book_zero hb
  have hq := qty_of hc
  have hE1 := sgo_each (schk_zero e1).2.1
  have hE2 := sgo_each (schk_zero e2).2.1
  have hp1 := (sgo_ahd (schk_zero e1).1 bs none (schk_zero e1).2.1).1
  have hp2 := (sgo_ahd (schk_zero e2).1 ss none (schk_zero e2).2.1).1
  unfold twiceB at e4
  simp only [decide_eq_false_iff_not, Classical.not_not] at e4
  rw [List.map_append] at e4
  obtain ⟨n1, n2, n3⟩ := List.nodup_append.1 e4
  rw [List.length_append] at e5
  unfold metB metS metR otherL
  by_cases hs : o.side = 1
  · simp only [if_pos hs]
    obtain ⟨i1, i2, i3, i4⟩ := tkl_ids (o := o) ss o.qty (by omega) hE2
    have k2 := tkl_schk (o := o) (q := o.qty) (by omega) e2
    generalize (tkl o ss o.qty).1 = S' at *
    unfold bookE
    rw [if_pos e1, if_pos k2, if_neg, if_neg, if_neg]
    · rw [List.length_append]; omega
    · unfold twiceB
      simp only [decide_eq_true_eq, Classical.not_not]
      rw [List.map_append]
      exact List.nodup_append.2 ⟨n1, i2 n2, fun a ha b hb => n3 a ha b (i1 b hb)⟩
    · intro hx
      unfold crossB at hx e3
      simp only [Bool.and_eq_true, Bool.not_eq_true', List.isEmpty_eq_false_iff, decide_eq_true_eq] at hx
      obtain ⟨x1, x2, x3⟩ := hx
      obtain ⟨l', hl', e'⟩ := best_mem x2
      obtain ⟨l, hl, el⟩ := i4 l' hl'
      have hne : ss ≠ [] := fun e => by rw [e] at hl; cases hl
      have hb2 := best_first hp2 hl
      simp only [Bool.and_eq_false_iff, Bool.not_eq_false', List.isEmpty_iff, decide_eq_false_iff_not] at e3
      rcases e3 with e | e | e
      · exact x1 e
      · exact hne e
      · unfold ahd at hb2
        simp at hb2
        omega
  · simp only [if_neg hs]
    obtain ⟨i1, i2, i3, i4⟩ := tkl_ids (o := o) bs o.qty (by omega) hE1
    have k1 := tkl_schk (o := o) (q := o.qty) (by omega) e1
    generalize (tkl o bs o.qty).1 = B' at *
    unfold bookE
    rw [if_pos k1, if_pos e2, if_neg, if_neg, if_neg]
    · rw [List.length_append]; omega
    · unfold twiceB
      simp only [decide_eq_true_eq, Classical.not_not]
      rw [List.map_append]
      exact List.nodup_append.2 ⟨i2 n1, n2, fun a ha b hb => n3 a (i1 a ha) b hb⟩
    · intro hx
      unfold crossB at hx e3
      simp only [Bool.and_eq_true, Bool.not_eq_true', List.isEmpty_eq_false_iff, decide_eq_true_eq] at hx
      obtain ⟨x1, x2, x3⟩ := hx
      obtain ⟨l', hl', e'⟩ := best_mem x1
      obtain ⟨l, hl, el⟩ := i4 l' hl'
      have hne : bs ≠ [] := fun e => by rw [e] at hl; cases hl
      have hb2 := best_first hp1 hl
      simp only [Bool.and_eq_false_iff, Bool.not_eq_false', List.isEmpty_iff, decide_eq_false_iff_not] at e3
      rcases e3 with e | e | e
      · exact hne e
      · exact x2 e
      · unfold ahd at hb2
        simp at hb2
        omega
theorem met_come {bs ss : List L} {o : O} (h : comeE bs ss o = 0) : comeE (metB bs ss o) (metS bs ss o) o = 0 := by
  have hk := met_book h
  obtain ⟨hb, hc, hst, hin⟩ := come_zero h
  obtain ⟨e1, e2, e3, e4, e5⟩ := book_zero hb
  have hq := qty_of hc
  have hE1 := sgo_each (schk_zero e1).2.1
  have hE2 := sgo_each (schk_zero e2).2.1
  unfold comeE
  rw [if_pos hk, if_pos hc, if_pos hst, if_neg]
  intro hx
  unfold inBook at hx hin
  simp only [decide_eq_true_eq, decide_eq_false_iff_not] at hx hin
  apply hin
  rw [ids_allR, ids_allR] at hx ⊢
  unfold metB metS metR otherL at hx
  by_cases hs : o.side = 1
  · simp only [if_pos hs] at hx
    rcases hx with hx | hx
    · exact .inl hx
    · exact .inr ((tkl_ids (o := o) ss o.qty (by omega) hE2).1 _ hx)
  · simp only [if_neg hs] at hx
    rcases hx with hx | hx
    · exact .inl ((tkl_ids (o := o) bs o.qty (by omega) hE1).1 _ hx)
    · exact .inr hx
theorem met_tot {bs ss : List L} {o : O} (h : comeE bs ss o = 0) : totL (metB bs ss o) + totL (metS bs ss o) + sumT (metR bs ss o).2.1 = totL bs + totL ss := by
  obtain ⟨hb, hc, -, -⟩ := come_zero h
  have hq := qty_of hc
  have hs := (tkl_sum (o := o) (otherL bs ss o) o.qty (by omega) (other_good hb)).2.2.2.2
  unfold metB metS metR at *
  unfold otherL at *
  by_cases h1 : o.side = 1
  · simp only [if_pos h1] at *
    omega
  · simp only [if_neg h1] at *
    omega
theorem met_more {bs ss : List L} {o : O} (h : comeE bs ss o = 0) (hl : ¬ (metR bs ss o).2.2 = 0) : sumT (metR (metB bs ss o) (metS bs ss o) o).2.1 = 0 := by
  obtain ⟨hb, hc, -, -⟩ := come_zero h
  have hq := qty_of hc
  have hr := tkl_rest (o := o) (otherL bs ss o) o.qty (by omega) (other_good hb) hl o.qty
  have e : otherL (metB bs ss o) (metS bs ss o) o = (metR bs ss o).1 := by
    unfold otherL metB metS
    by_cases h1 : o.side = 1
    · simp only [if_pos h1]
    · simp only [if_neg h1]
  have e2 : metR (metB bs ss o) (metS bs ss o) o = tkl o (metR bs ss o).1 o.qty := by
    show tkl o (otherL _ _ o) o.qty = _
    rw [e]
  rw [e2]
  unfold metR at hr ⊢
  rw [hr]
  rfl
end Go.Proofs.Ytnjpjieedgmffaa.mee
namespace Go.Proofs.Ytnjpjieedgmffaa.mee
open Go.RowKit Go.Proofs.Ytnjpjieedgmffaa.spn Go.Proofs.Ytnjpjieedgmffaa.que Go.Proofs.Ytnjpjieedgmffaa.sid
open Go.Proofs.Ytnjpjieedgmffaa.ord (O mB chk)

/-- The levels behind one fill of the first rest. -/
def stepL (p : Int) (z : List R) (t : List L) : List L := if z = [] then t else ⟨p, z⟩ :: t
theorem rest_pos {r : R} {rs : List R} (h : qchk (r :: rs) = 0) : 1 ≤ r.qty ∧ r.qty ≤ 10000 := by
  obtain ⟨-, hg⟩ := (qchk_zero _).1 h
  exact (rchk_zero (hg.1 r (by simp))).1
theorem step_queue {q : Int} {r : R} {rs : List R} (h : 0 < q) (hg : qchk (r :: rs) = 0) : qchk (tk1 (min q r.qty) r rs) = 0 ∧ tot (tk1 (min q r.qty) r rs) = tot (r :: rs) - min q r.qty := by
  have hp := rest_pos hg
  obtain ⟨h60, hgg⟩ := (qchk_zero _).1 hg
  obtain ⟨a, b, c⟩ := tk1_good hgg (show 1 ≤ min q r.qty by omega) (by omega)
  exact ⟨(qchk_zero _).2 ⟨by omega, a⟩, b⟩
theorem step_good {q p : Int} {r : R} {rs : List R} {t : List L} (h : 0 < q) (hl : ∀ l ∈ (⟨p, r :: rs⟩ :: t : List L), lchk l = 0) : ∀ l ∈ stepL p (tk1 (min q r.qty) r rs) t, lchk l = 0 := by
  have h1 : lchk ⟨p, r :: rs⟩ = 0 := hl _ (by simp)
  obtain ⟨hp, -, hq⟩ := lchk_zero h1
  have hz := (step_queue h hq).1
  intro l hm
  unfold stepL at hm
  by_cases e : tk1 (min q r.qty) r rs = []
  · rw [if_pos e] at hm; exact hl l (by simp [hm])
  · rw [if_neg e] at hm
    rcases List.mem_cons.1 hm with rfl | hm
    · exact lchk_of (by show (decide _ && decide _) = true; simp; exact hp) e hz
    · exact hl l (by simp [hm])
theorem tkl_fill {o : O} {p q : Int} {r : R} {rs : List R} {t : List L} (h : 0 < q) (hm : mB o p = true) (hg : qchk (r :: rs) = 0) :
    tkl o (⟨p, r :: rs⟩ :: t) q = ((tkl o (stepL p (tk1 (min q r.qty) r rs) t) (q - min q r.qty)).1, trd o p ⟨r.id, r.who, min q r.qty⟩ :: (tkl o (stepL p (tk1 (min q r.qty) r rs) t) (q - min q r.qty)).2.1, (tkl o (stepL p (tk1 (min q r.qty) r rs) t) (q - min q r.qty)).2.2) := by
  have hp := rest_pos hg
  have hgg := ((qchk_zero _).1 hg).2
  have hc := take_cons q r rs h hgg
  generalize hk : min q r.qty = k at *
  have hkp : 1 ≤ k ∧ k ≤ q := by omega
  generalize tk1 k r rs = z at *
  unfold stepL
  by_cases hz : z = []
  · subst hz
    rw [take_nil] at hc
    rw [if_pos rfl, tkl_gone h hm (by rw [hc])]
    simp only [hc]
    have e : q - sum [⟨r.id, r.who, k⟩] = q - k := by simp [sum]
    rw [e]
    rfl
  · rw [if_neg hz]
    by_cases h0 : q - k ≤ 0
    · rw [take_done _ _ h0] at hc
      rw [tkl_last h hm (by rw [hc]; exact hz), tkl_zero h0]
      simp only [hc]
      have e : q - sum [⟨r.id, r.who, k⟩] = q - k := by simp [sum]
      rw [e]
      rfl
    · have hs : ∀ S : List F, q - sum (⟨r.id, r.who, k⟩ :: S) = q - k - sum S := fun S => by simp only [sum]; omega
      by_cases he : (take (q - k) z).2 = []
      · rw [tkl_gone (l := ⟨p, z⟩) (by omega) hm he, tkl_gone h hm (by rw [hc]; exact he)]
        simp only [hc, hs]
        rfl
      · rw [tkl_last (l := ⟨p, z⟩) (by omega) hm he, tkl_last h hm (by rw [hc]; exact he)]
        simp only [hc, hs]
        rfl
end Go.Proofs.Ytnjpjieedgmffaa.mee
