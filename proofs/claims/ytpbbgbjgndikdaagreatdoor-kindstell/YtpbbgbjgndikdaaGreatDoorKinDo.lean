/- Plain facts: what is left of a book of which an order took is a book. No walk. Plain facts: what becomes of what is left of an order. No walk. Contracts over this seat's translation: kinds.Rest, kinds.refuse. Contracts over this seat's translation: kinds.settle, kinds.Do. -/
import Derived.Test.YtpbbgbjgndikdaaGreatDoorMeeDo2
import Derived.Test.YtpbbgbjgndikdaaGreatDoorBokFact
namespace Go.Proofs.YtpbbgbjgndikdaaGreatDoor.mee
open Go.RowKit Go.Proofs.YtpbbgbjgndikdaaGreatDoor.spn Go.Proofs.YtpbbgbjgndikdaaGreatDoor.que Go.Proofs.YtpbbgbjgndikdaaGreatDoor.sid Go.Proofs.YtpbbgbjgndikdaaGreatDoor.bok
open Go.Proofs.YtpbbgbjgndikdaaGreatDoor.ord (O oV mB mE chk meets_any)
open Go.Proofs.YtpbbgbjgndikdaaGreatDoor.tickP (priceB sideB betOk betR)

theorem lead_iff {s a b : Int} (hs : sideB s = true) : leadB s a b = true ↔ (priceB a = true ∧ priceB b = true) ∧ ahd s a b := by
  simp [sideB] at hs
  unfold leadB betR betOk ahd
  rcases hs with rfl | rfl
  · have e : wrap64 (3 - 1) = 2 := by unfold wrap64; omega
    rw [e]
    simp [sideB]
  · have e : wrap64 (3 - 2) = 1 := by unfold wrap64; omega
    rw [e]
    simp [sideB]
theorem lead_trans {s a b c : Int} (hs : sideB s = true) (h1 : leadB s a b = true) (h2 : leadB s b c = true) : leadB s a c = true := by
  rw [lead_iff hs] at *
  exact ⟨⟨h1.1.1, h2.1.2⟩, ahd_trans h1.2 h2.2⟩
theorem sgo_weak {s a : Int} {prev : Option Int} {t : List L} (hs : sideB s = true) (h : sgo s (some a) t = 0) (hp : behindB s prev a = true) : sgo s prev t = 0 := by
  cases t with
  | nil => cases prev <;> rfl
  | cons x t =>
    obtain ⟨h1, h2, h3⟩ := sgo_cons h
    refine sgo_mk h1 ?_ h3
    cases prev with
    | none => rfl
    | some y => exact lead_trans hs hp h2
theorem tkl_sgo {o : O} {s : Int} (hs : sideB s = true) : ∀ (ls : List L) (q : Int) (prev : Option Int), 0 ≤ q → sgo s prev ls = 0 → sgo s prev (tkl o ls q).1 = 0 := by
  intro ls
  induction ls with
  | nil => intro q prev _ h; exact h
  | cons l t ih =>
    intro q prev hq h
    obtain ⟨h1, h2, h3⟩ := sgo_cons h
    by_cases hc : 0 < q ∧ mB o l.price = true
    · obtain ⟨f1, f2, f3, f4, f5, f6, f7⟩ := take_all (lchk_zero h1).2.2 (q := q) (by omega)
      rcases tkl_step (t := t) hc.1 hc.2 h1 with ⟨he, e⟩ | ⟨he, hz, e⟩
      · rw [e]
        exact ih _ prev (by omega) (sgo_weak hs h3 h2)
      · rw [e]
        exact sgo_mk (lchk_of (price_of h1) he f4) h2 h3
    · rw [tkl_done hc]; exact h
theorem tk1_ids {k : Int} {r : R} {t : List R} : ∀ x ∈ tk1 k r t, x.id = r.id ∨ x ∈ t := by
  intro x hx
  unfold tk1 at hx
  split at hx
  · rcases List.mem_cons.1 hx with rfl | hx
    · exact .inl rfl
    · exact .inr hx
  · split at hx
    · exact .inr hx
    · rcases List.mem_append.1 hx with hx | hx
      · exact .inr hx
      · simp at hx; subst hx; exact .inl rfl
theorem take_ids (m : Nat) : ∀ (n : Int) (zs : List R), n ≤ m → que.Good zs → 0 ≤ n → ∀ x ∈ (take n zs).2, x.id ∈ zs.map (·.id) := by
  induction m with
  | zero =>
    intro n zs hn _ h0 x hx
    rw [take_done n zs (by omega)] at hx
    exact List.mem_map.2 ⟨x, hx, rfl⟩
  | succ m ih =>
    intro n zs hn hg h0 x hx
    by_cases hn0 : n ≤ 0
    · rw [take_done n zs hn0] at hx
      exact List.mem_map.2 ⟨x, hx, rfl⟩
    · cases zs with
      | nil => rw [take_nil] at hx; cases hx
      | cons r t =>
        have hr := rchk_zero (hg.1 r (by simp))
        rw [take_cons n r t (by omega) hg] at hx
        simp only [] at hx
        have hg2 := (tk1_good (k := min n r.qty) hg (by omega) (by omega)).1
        have h := ih (n - min n r.qty) _ (by omega) hg2 (by omega) x hx
        obtain ⟨y, hy, e⟩ := List.mem_map.1 h
        rw [← e]
        rcases tk1_ids y hy with h1 | h1
        · rw [h1]; simp
        · exact List.mem_map.2 ⟨y, by simp [h1], rfl⟩
theorem tkl_ids {o : O} : ∀ (ls : List L) (q : Int), 0 ≤ q → (∀ l ∈ ls, lchk l = 0) → (∀ i ∈ (allR (tkl o ls q).1).map (·.id), i ∈ (allR ls).map (·.id)) ∧ (((allR ls).map (·.id)).Nodup → ((allR (tkl o ls q).1).map (·.id)).Nodup) ∧ (allR (tkl o ls q).1).length ≤ (allR ls).length ∧ (∀ x ∈ (tkl o ls q).1, ∃ l ∈ ls, l.price = x.price) := by
  intro ls
  induction ls with
  | nil => intro q _ _; exact ⟨fun i hi => hi, fun h => h, Nat.le_refl _, fun x hx => by cases hx⟩
  | cons l t ih =>
    intro q hq hg
    by_cases hc : 0 < q ∧ mB o l.price = true
    · have hl := hg l (by simp)
      obtain ⟨f1, f2, f3, f4, f5, f6, f7⟩ := take_all (lchk_zero hl).2.2 (q := q) (by omega)
      obtain ⟨h60, hgd⟩ := (qchk_zero l.rests).1 (lchk_zero hl).2.2
      rcases tkl_step (t := t) hc.1 hc.2 hl with ⟨he, e⟩ | ⟨he, hz, e⟩
      · obtain ⟨i1, i2, i3, i4⟩ := ih (q - sum (take q l.rests).1) (by omega) (fun x hx => hg x (by simp [hx]))
        rw [e, allR_cons]
        simp only [List.map_append, List.length_append]
        refine ⟨fun i hi => List.mem_append.2 (.inr (i1 i hi)), fun h => i2 (List.nodup_append.1 h).2.1, by omega, fun x hx => ?_⟩
        obtain ⟨l', h1, h2⟩ := i4 x hx
        exact ⟨l', by simp [h1], h2⟩
      · obtain ⟨g1, g2, -, -, -, -, -, -⟩ := take_facts q.toNat q l.rests (by omega) hgd (by omega)
        have hsub := take_ids q.toNat q l.rests (by omega) hgd (by omega)
        rw [e, allR_cons, allR_cons]
        simp only [List.map_append, List.length_append]
        refine ⟨fun i hi => ?_, fun h => ?_, by omega, fun x hx => ?_⟩
        · rcases List.mem_append.1 hi with hi | hi
          · obtain ⟨y, hy, rfl⟩ := List.mem_map.1 hi
            exact List.mem_append.2 (.inl (hsub y hy))
          · exact List.mem_append.2 (.inr hi)
        · obtain ⟨n1, n2, n3⟩ := List.nodup_append.1 h
          refine List.nodup_append.2 ⟨g1.2, n2, fun a ha b hb => ?_⟩
          obtain ⟨y, hy, rfl⟩ := List.mem_map.1 ha
          exact n3 _ (hsub y hy) b hb
        · rcases List.mem_cons.1 hx with rfl | hx
          · exact ⟨l, by simp, rfl⟩
          · exact ⟨x, by simp [hx], rfl⟩
    · rw [tkl_done hc]
      exact ⟨fun i hi => hi, fun h => h, Nat.le_refl _, fun x hx => ⟨x, hx, rfl⟩⟩

theorem best_mem {ls : List L} (h : ls ≠ []) : ∃ l ∈ ls, bestI ls = l.price := by
  cases ls with
  | nil => exact absurd rfl h
  | cons l t => exact ⟨l, by simp, rfl⟩
theorem best_first {s : Int} {ls : List L} (hp : ls.Pairwise fun a b => ahd s a.price b.price) {l : L} (hl : l ∈ ls) : bestI ls = l.price ∨ ahd s (bestI ls) l.price := by
  cases ls with
  | nil => cases hl
  | cons x t =>
    rcases List.mem_cons.1 hl with rfl | hl
    · exact .inl rfl
    · exact .inr ((List.pairwise_cons.1 hp).1 l hl)
/-- A side of which something was taken is a side. -/
theorem tkl_schk {o : O} {s : Int} {ls : List L} {q : Int} (hq : 0 ≤ q) (h : schk s ls = 0) : schk s (tkl o ls q).1 = 0 := by
  obtain ⟨z1, z2, z3, z4⟩ := schk_zero h
  have hE := sgo_each z2
  obtain ⟨i1, i2, i3, i4⟩ := tkl_ids (o := o) ls q hq hE
  refine schk_ok z1 (tkl_sgo z1 ls q none hq z2) ?_ (by rw [ids_allR] at *; exact i2 z4)
  rw [cnt_allR] at *
  omega
theorem met_book {bs ss : List L} {o : O} (h : comeE bs ss o = 0) : bookE (metB bs ss o) (metS bs ss o) = 0 := by
  obtain ⟨hb, hc, -, -⟩ := come_zero h
  obtain ⟨e1, e2, e3, e4, e5⟩ := book_zero hb
  have hq := qty_of hc
  have hE1 := sgo_each (schk_zero e1).2.1
  have hE2 := sgo_each (schk_zero e2).2.1
  have hp1 := (sgo_ahd (schk_zero e1).1 bs none (schk_zero e1).2.1).1
  have hp2 := (sgo_ahd (schk_zero e2).1 ss none (schk_zero e2).2.1).1
  unfold twiceB at e4
  simp only [decide_eq_false_iff_not, Classical.not_not] at e4
  rw [List.map_append] at e4
  obtain ⟨n1, n2, n3⟩ := List.nodup_append.1 e4
  rw [List.length_append] at e5
  unfold metB metS metR otherL
  by_cases hs : o.side = 1
  · simp only [if_pos hs]
    obtain ⟨i1, i2, i3, i4⟩ := tkl_ids (o := o) ss o.qty (by omega) hE2
    have k2 := tkl_schk (o := o) (q := o.qty) (by omega) e2
    generalize (tkl o ss o.qty).1 = S' at *
    unfold bookE
    rw [if_pos e1, if_pos k2, if_neg, if_neg, if_neg]
    · rw [List.length_append]; omega
    · unfold twiceB
      simp only [decide_eq_true_eq, Classical.not_not]
      rw [List.map_append]
      exact List.nodup_append.2 ⟨n1, i2 n2, fun a ha b hb => n3 a ha b (i1 b hb)⟩
    · intro hx
      unfold crossB at hx e3
      simp only [Bool.and_eq_true, Bool.not_eq_true', List.isEmpty_eq_false_iff, decide_eq_true_eq] at hx
      obtain ⟨x1, x2, x3⟩ := hx
      obtain ⟨l', hl', e'⟩ := best_mem x2
      obtain ⟨l, hl, el⟩ := i4 l' hl'
      have hne : ss ≠ [] := fun e => by rw [e] at hl; cases hl
      have hb2 := best_first hp2 hl
      simp only [Bool.and_eq_false_iff, Bool.not_eq_false', List.isEmpty_iff, decide_eq_false_iff_not] at e3
      rcases e3 with e | e | e
      · exact x1 e
      · exact hne e
      · unfold ahd at hb2
        simp at hb2
        omega
  · simp only [if_neg hs]
    obtain ⟨i1, i2, i3, i4⟩ := tkl_ids (o := o) bs o.qty (by omega) hE1
    have k1 := tkl_schk (o := o) (q := o.qty) (by omega) e1
    generalize (tkl o bs o.qty).1 = B' at *
    unfold bookE
    rw [if_pos k1, if_pos e2, if_neg, if_neg, if_neg]
    · rw [List.length_append]; omega
    · unfold twiceB
      simp only [decide_eq_true_eq, Classical.not_not]
      rw [List.map_append]
      exact List.nodup_append.2 ⟨i2 n1, n2, fun a ha b hb => n3 a (i1 a ha) b hb⟩
    · intro hx
      unfold crossB at hx e3
      simp only [Bool.and_eq_true, Bool.not_eq_true', List.isEmpty_eq_false_iff, decide_eq_true_eq] at hx
      obtain ⟨x1, x2, x3⟩ := hx
      obtain ⟨l', hl', e'⟩ := best_mem x1
      obtain ⟨l, hl, el⟩ := i4 l' hl'
      have hne : bs ≠ [] := fun e => by rw [e] at hl; cases hl
      have hb2 := best_first hp1 hl
      simp only [Bool.and_eq_false_iff, Bool.not_eq_false', List.isEmpty_iff, decide_eq_false_iff_not] at e3
      rcases e3 with e | e | e
      · exact hne e
      · exact x2 e
      · unfold ahd at hb2
        simp at hb2
        omega
theorem met_come {bs ss : List L} {o : O} (h : comeE bs ss o = 0) : comeE (metB bs ss o) (metS bs ss o) o = 0 := by
  have hk := met_book h
  obtain ⟨hb, hc, hst, hin⟩ := come_zero h
  obtain ⟨e1, e2, e3, e4, e5⟩ := book_zero hb
  have hq := qty_of hc
  have hE1 := sgo_each (schk_zero e1).2.1
  have hE2 := sgo_each (schk_zero e2).2.1
  unfold comeE
  rw [if_pos hk, if_pos hc, if_pos hst, if_neg]
  intro hx
  unfold inBook at hx hin
  simp only [decide_eq_true_eq, decide_eq_false_iff_not] at hx hin
  apply hin
  rw [ids_allR, ids_allR] at hx ⊢
  unfold metB metS metR otherL at hx
  by_cases hs : o.side = 1
  · simp only [if_pos hs] at hx
    rcases hx with hx | hx
    · exact .inl hx
    · exact .inr ((tkl_ids (o := o) ss o.qty (by omega) hE2).1 _ hx)
  · simp only [if_neg hs] at hx
    rcases hx with hx | hx
    · exact .inl ((tkl_ids (o := o) bs o.qty (by omega) hE1).1 _ hx)
    · exact .inr hx
theorem met_tot {bs ss : List L} {o : O} (h : comeE bs ss o = 0) : totL (metB bs ss o) + totL (metS bs ss o) + sumT (metR bs ss o).2.1 = totL bs + totL ss := by
  obtain ⟨hb, hc, -, -⟩ := come_zero h
  have hq := qty_of hc
  have hs := (tkl_sum (o := o) (otherL bs ss o) o.qty (by omega) (other_good hb)).2.2.2.2
  unfold metB metS metR at *
  unfold otherL at *
  by_cases h1 : o.side = 1
  · simp only [if_pos h1] at *
    omega
  · simp only [if_neg h1] at *
    omega
theorem met_more {bs ss : List L} {o : O} (h : comeE bs ss o = 0) (hl : ¬ (metR bs ss o).2.2 = 0) : sumT (metR (metB bs ss o) (metS bs ss o) o).2.1 = 0 := by
  obtain ⟨hb, hc, -, -⟩ := come_zero h
  have hq := qty_of hc
  have hr := tkl_rest (o := o) (otherL bs ss o) o.qty (by omega) (other_good hb) hl o.qty
  have e : otherL (metB bs ss o) (metS bs ss o) o = (metR bs ss o).1 := by
    unfold otherL metB metS
    by_cases h1 : o.side = 1
    · simp only [if_pos h1]
    · simp only [if_neg h1]
  have e2 : metR (metB bs ss o) (metS bs ss o) o = tkl o (metR bs ss o).1 o.qty := by
    show tkl o (otherL _ _ o) o.qty = _
    rw [e]
  rw [e2]
  unfold metR at hr ⊢
  rw [hr]
  rfl
end Go.Proofs.YtpbbgbjgndikdaaGreatDoor.mee
namespace Go.Proofs.YtpbbgbjgndikdaaGreatDoor.kin
open Go.RowKit Go.Proofs.YtpbbgbjgndikdaaGreatDoor.spn Go.Proofs.YtpbbgbjgndikdaaGreatDoor.que Go.Proofs.YtpbbgbjgndikdaaGreatDoor.sid Go.Proofs.YtpbbgbjgndikdaaGreatDoor.bok Go.Proofs.YtpbbgbjgndikdaaGreatDoor.mee
open Go.Proofs.YtpbbgbjgndikdaaGreatDoor.ord (O oV mB mE chk meets_any)
open Go.Proofs.YtpbbgbjgndikdaaGreatDoor.tickP (priceB sideB betOk betR)

theorem hidK {P : Prop} (h : P) : Hid P := h
/-- How much is shown. -/
def shownK (o : O) (k : Int) : Int := if o.shw = 0 then k else min o.shw k
/-- What rests of an order. -/
def keptR (o : O) (k : Int) : R := ⟨o.id, o.who, shownK o k, k - shownK o k, o.shw⟩
/-- What is wrong with that. -/
def restE (o : O) (k : Int) : Int := if chk o = 0 then (if 1 ≤ k ∧ k ≤ o.qty then 0 else 1) else chk o
def zeroR : R := ⟨0, 0, 0, 0, 0⟩
def restV (o : O) (k : Int) : R := if restE o k = 0 then keptR o k else zeroR
/-- Does what is left of a kind rest? -/
def mayK (o : O) : Bool := o.kind == 1 || o.kind == 5
/-- What a kind refuses. -/
def refE (o : O) (left : Int) : Int := if o.kind = 4 ∧ 0 < left then 9 else if o.kind = 5 ∧ left < o.qty then 8 else 0
/-- Does something rest? -/
def stayB (o : O) (left : Int) : Bool := !(left == 0) && mayK o
def setE (bs ss : List L) (o : O) (left : Int) : Int := if stayB o left = true then (if restE o left = 0 then putE bs ss o.side o.price (keptR o left) else restE o left) else 0
def setB (bs : List L) (o : O) (left : Int) : List L := if stayB o left = true then put1 bs o.side o.price (keptR o left) else bs
def setS (ss : List L) (o : O) (left : Int) : List L := if stayB o left = true then put2 ss o.side o.price (keptR o left) else ss
def setG (o : O) (left : Int) : Int := if stayB o left = true then 0 else left
def kdoE (bs ss : List L) (o : O) : Int :=
  if doE bs ss o = 0 then (if refE o (metR bs ss o).2.2 = 0 then setE (metB bs ss o) (metS bs ss o) o (metR bs ss o).2.2 else refE o (metR bs ss o).2.2) else doE bs ss o
def kdoB (bs ss : List L) (o : O) : List L := setB (metB bs ss o) o (metR bs ss o).2.2
def kdoS (bs ss : List L) (o : O) : List L := setS (metS bs ss o) o (metR bs ss o).2.2
def kdoG (bs ss : List L) (o : O) : Int := setG o (metR bs ss o).2.2

theorem rest_zero {o : O} {k : Int} (h : restE o k = 0) : chk o = 0 ∧ 1 ≤ k ∧ k ≤ o.qty := by
  unfold restE at h
  by_cases h1 : chk o = 0
  · rw [if_pos h1] at h
    by_cases h2 : 1 ≤ k ∧ k ≤ o.qty
    · exact ⟨h1, h2⟩
    · rw [if_neg h2] at h; omega
  · rw [if_neg h1] at h; exact absurd h h1
theorem shown_le {o : O} {k : Int} (h1 : 1 ≤ k) (h2 : 0 ≤ o.shw) : 1 ≤ shownK o k ∧ shownK o k ≤ k := by
  unfold shownK
  split <;> omega
theorem shw_of {o : O} (h : chk o = 0) : 0 ≤ o.shw ∧ o.shw ≤ o.qty ∧ 1 ≤ o.qty ∧ o.qty ≤ 10000 := by
  obtain ⟨-, -, h3, -, -⟩ := ord.chk_zero h
  simp [ord.qtyB] at h3
  omega
theorem doE_zero {bs ss : List L} {o : O} (h : doE bs ss o = 0) : comeE bs ss o = 0 ∧ (metR bs ss o).2.1.length ≤ 400 := by
  unfold doE at h
  by_cases hC : comeE bs ss o = 0
  · rw [if_pos hC] at h
    by_cases h4 : 400 < (metR bs ss o).2.1.length
    · rw [if_pos h4] at h; omega
    · exact ⟨hC, by omega⟩
  · rw [if_neg hC] at h; exact absurd h hC
theorem kdo_zero {bs ss : List L} {o : O} (h : kdoE bs ss o = 0) : doE bs ss o = 0 ∧ refE o (metR bs ss o).2.2 = 0 ∧ setE (metB bs ss o) (metS bs ss o) o (metR bs ss o).2.2 = 0 := by
  unfold kdoE at h
  by_cases h1 : doE bs ss o = 0
  · rw [if_pos h1] at h
    by_cases h2 : refE o (metR bs ss o).2.2 = 0
    · rw [if_pos h2] at h; exact ⟨h1, h2, h⟩
    · rw [if_neg h2] at h; exact absurd h h2
  · rw [if_neg h1] at h; exact absurd h h1
end Go.Proofs.YtpbbgbjgndikdaaGreatDoor.kin
namespace Go.Proofs.YtpbbgbjgndikdaaGreatDoor.kin
open Go.RowKit Go.Proofs.YtpbbgbjgndikdaaGreatDoor.spn Go.Proofs.YtpbbgbjgndikdaaGreatDoor.que Go.Proofs.YtpbbgbjgndikdaaGreatDoor.sid Go.Proofs.YtpbbgbjgndikdaaGreatDoor.bok Go.Proofs.YtpbbgbjgndikdaaGreatDoor.mee
open Go.Proofs.YtpbbgbjgndikdaaGreatDoor.ord (O oV mB mE chk meets_any)

theorem span_one (k lo hi : Int) : [(k, lo, hi)].any spanB = !(decide (lo ≤ k ∧ k ≤ hi)) := by
  rw [Bool.eq_iff_iff]
  simp [spanB]
/-- A rest as a value. -/
def rB (r : R) : Value := .agg #[.int .i64 r.id, .int .i64 r.who, .int .i64 r.qty, .int .i64 r.hid, .int .i64 r.shw]

set_option maxRecDepth 100000 in
set_option maxHeartbeats 2000000 in
theorem krest_any (a b c d p q s t k : Int) (w : World) :
    Calls Tryz.prog 36 #[.agg #[.int .i64 a, .int .i64 b, .int .i64 c, .int .i64 d, .int .i64 p, .int .i64 q, .int .i64 s, .int .i64 t], .int .i64 k] w fun e w' => e = .returned (.tuple #[rB (restV ⟨a, b, c, d, p, q, s, t⟩ k), errV (restE ⟨a, b, c, d, p, q, s, t⟩ k)]) ∧ Below w.heap.size w w' := by
  obtain ⟨V2, hV2⟩ : ∃ V2, V2 = w.alloc (.cells #[.int .i64 a, .int .i64 b, .int .i64 c, .int .i64 d, .int .i64 p, .int .i64 q, .int .i64 s, .int .i64 t] 60) := ⟨_, rfl⟩
  have hs2 : V2.heap.size = w.heap.size + 1 := by rw [hV2]; simp
  have hB2 : Below w.heap.size w V2 := by rw [hV2]; exact (Below.refl _ _).alloc (Nat.le_refl _) _
  have hO2 : V2.heap[w.heap.size]? = some (.cells #[.int .i64 a, .int .i64 b, .int .i64 c, .int .i64 d, .int .i64 p, .int .i64 q, .int .i64 s, .int .i64 t] 60 (0, 0)) := by rw [hV2]; exact heap_alloc_new w _
  obtain ⟨V, hV⟩ : ∃ V, V = V2.alloc (.cells #[.int .i64 0, .int .i64 0, .int .i64 0, .int .i64 0, .int .i64 0] 26) := ⟨_, rfl⟩
  have hBV : Below V2.heap.size V2 V := by rw [hV]; exact (Below.refl _ _).alloc (Nat.le_refl _) _
  have HB : Hid (Below w.heap.size w V) := hB2.trans (hBV.mono hB2.size)
  have hR0 : V.heap[V2.heap.size]? = some (.cells #[.int .i64 0, .int .i64 0, .int .i64 0, .int .i64 0, .int .i64 0] 26 (0, 0)) := by rw [hV]; exact heap_alloc_new V2 _
  have hO0 : V.heap[w.heap.size]? = some (.cells #[.int .i64 a, .int .i64 b, .int .i64 c, .int .i64 d, .int .i64 p, .int .i64 q, .int .i64 s, .int .i64 t] 60 (0, 0)) := (hBV.block _ (by omega)).trans hO2
  obtain ⟨P, hP⟩ : ∃ P, P = w.heap.size + 1 := ⟨_, rfl⟩
  rw [show V2.heap.size = P by rw [hs2, hP]] at hR0
  have HP : Hid (P = w.heap.size + 1) := hP
  have HOK : Hid (∀ W, Calls Tryz.prog 61 #[.agg #[.int .i64 a, .int .i64 b, .int .i64 c, .int .i64 d, .int .i64 p, .int .i64 q, .int .i64 s, .int .i64 t]] W fun e w' => e = .returned (errV (chk ⟨a, b, c, d, p, q, s, t⟩)) ∧ Below W.heap.size W w') := fun W => ord.check_walk a b c d p q s t W
  have hPV : P < V.heap.size := (Array.getElem?_eq_some_iff.1 hR0).1
  have hwV : w.heap.size < V.heap.size := (Array.getElem?_eq_some_iff.1 hO0).1
  have HSO : Hid (∀ W, Below V.heap.size V W → Below w.heap.size w W ∧ W.heap[P]? = some (.cells #[.int .i64 0, .int .i64 0, .int .i64 0, .int .i64 0, .int .i64 0] 26 (0, 0)) ∧ ∀ i, W.cell? ⟨w.heap.size, i, none⟩ = (#[.int .i64 a, .int .i64 b, .int .i64 c, .int .i64 d, .int .i64 p, .int .i64 q, .int .i64 s, .int .i64 t] : Array Value)[i]?) := fun W hW =>
    ⟨HB.out.trans (hW.mono HB.out.size), (hW.block P hPV).trans hR0, fun i => by have h := (hW.block w.heap.size hwV).trans hO0; simp [World.cell?, h]⟩
  have HBAD : Hid (∀ W kk, Below w.heap.size w W → restE ⟨a, b, c, d, p, q, s, t⟩ k = kk → ¬ kk = 0 → (Ending.returned (.tuple #[.agg #[.int .i64 0, .int .i64 0, .int .i64 0, .int .i64 0, .int .i64 0], .iface 83 (.int .i64 kk)]) = .returned (.tuple #[rB (restV ⟨a, b, c, d, p, q, s, t⟩ k), errV (restE ⟨a, b, c, d, p, q, s, t⟩ k)]) ∧ Below w.heap.size w W)) := fun W kk hW h1 h2 => ⟨by
      unfold restV
      rw [h1, if_neg h2, errV_of h2]
      rfl, hW⟩
  clear hs2 hB2 hBV hO2 hR0 hO0 hPV hwV
  go_enter Tryz.func36, Tryz.ntmps36
  obtain ⟨-, hR1, cel⟩ := HSO.out V (Below.refl _ _)
  have c0 := cel 0
  have c1 := cel 1
  have c2 := cel 2
  have c3 := cel 3
  have c4 := cel 4
  have c5 := cel 5
  have c6 := cel 6
  have c7 := cel 7
  simp only [List.getElem?_toArray, List.getElem?_cons_zero, List.getElem?_cons_succ] at c0 c1 c2 c3 c4 c5 c6 c7
  clear cel hR1
  go_wp2_with fail
  rw [← hV2, ← hV]
  simp only [← hP]
  clear hV2 hV hP
  refine (HOK.out V).mono ?_
  rintro e w1 ⟨rfl, b1⟩
  have HV1 : Hid (Below V.heap.size V w1) := b1
  obtain ⟨hW1, hR1, cel⟩ := HSO.out w1 b1
  clear b1 c0 c1 c2 c3 c4 c5 c6 c7
  by_cases e1 : chk ⟨a, b, c, d, p, q, s, t⟩ = 0
  rotate_left
  · have hE : restE ⟨a, b, c, d, p, q, s, t⟩ k = chk ⟨a, b, c, d, p, q, s, t⟩ := by unfold restE; rw [if_neg e1]
    rw [errV_of e1]
    obtain ⟨z0, z1, z2, z3, z4, zf⟩ := rowFive hR1
    have f0 := zf 0
    have f1 := zf 1
    have f2 := zf 2
    have f3 := zf 3
    have f4 := zf 4
    have HHX : Hid ((((((w1.setCell ⟨P, 0, none⟩ (.int .i64 0)).setCell ⟨P, 1, none⟩ (.int .i64 0)).setCell ⟨P, 2, none⟩ (.int .i64 0)).setCell ⟨P, 3, none⟩ (.int .i64 0)).setCell ⟨P, 4, none⟩ (.int .i64 0)).heap[P]? = some (.cells #[.int .i64 0, .int .i64 0, .int .i64 0, .int .i64 0, .int .i64 0] 26 (0, 0))) := setFive hR1 _ _ _ _ _
    have hg := grFive w1 P (.int .i64 0) (.int .i64 0) (.int .i64 0) (.int .i64 0) (.int .i64 0)
    have HPO := hidK (HBAD.out _ _ (hW1.grown hg hW1.size (fun k hk => by cases hk; have := HP.out; omega)) hE e1)
    generalize chk ⟨a, b, c, d, p, q, s, t⟩ = kk at *
    clear zf hg hE HBAD hR1 cel
    go_wp2_with fail
    generalize (((((w1.setCell ⟨P, 0, none⟩ (.int .i64 0)).setCell ⟨P, 1, none⟩ (.int .i64 0)).setCell ⟨P, 2, none⟩ (.int .i64 0)).setCell ⟨P, 3, none⟩ (.int .i64 0)).setCell ⟨P, 4, none⟩ (.int .i64 0)) = X at *
    obtain ⟨y0, y1, y2, y3, y4, -⟩ := rowFive HHX.out
    exact bodyPost_ret (v := .tuple #[.agg #[.int .i64 0, .int .i64 0, .int .i64 0, .int .i64 0, .int .i64 0], .iface 83 (.int .i64 kk)]) (by simp [results, Tryz.results36, go_sem, y0, y1, y2, y3, y4]) rfl HPO.out
  have HE : Hid (chk ⟨a, b, c, d, p, q, s, t⟩ = 0) := e1
  rw [e1, errV_zero]
  have c5 := cel 5
  simp only [List.getElem?_toArray, List.getElem?_cons_zero, List.getElem?_cons_succ] at c5
  clear e1 cel
  go_wp2_with fail
  refine (of_any k 1 q w1).mono ?_
  rintro e w2 ⟨rfl, b2⟩
  have HV2 : Hid (Below V.heap.size V w2) := HV1.out.trans (b2.mono HV1.out.size)
  clear b2 c5
  go_wp2_with fail
  generalize hr : [(k, 1, q)].any spanB = r
  have HR : Hid ([(k, 1, q)].any spanB = r) := hr
  clear hr
  refine (scheck1 r _ _ _ _ _ rfl HR.out).mono ?_
  rintro e w3 ⟨rfl, b3⟩
  have HV3 : Hid (Below V.heap.size V w3) := HV2.out.trans (b3.mono HV2.out.size)
  clear b3 hR1 hW1
  obtain ⟨hW3, hR3, cel⟩ := HSO.out w3 HV3.out
  have HIN : Hid ((!(decide (1 ≤ k ∧ k ≤ q))) = r) := (span_one k 1 q).symm.trans HR.out
  clear HR
  obtain ⟨z0, z1, z2, z3, z4, zf⟩ := rowFive hR3
  have f0 := zf 0
  have f1 := zf 1
  have f2 := zf 2
  have f3 := zf 3
  have f4 := zf 4
  cases r
  rotate_left
  · have hE : restE ⟨a, b, c, d, p, q, s, t⟩ k = 1 := by
      unfold restE
      have h := HIN.out
      simp at h
      rw [if_pos HE.out, if_neg (show ¬ (1 ≤ k ∧ k ≤ q) by omega)]
    rw [show spn.errV (rangeE true) = .iface 83 (.int .i64 1) from rfl]
    have HHX : Hid ((((((w3.setCell ⟨P, 0, none⟩ (.int .i64 0)).setCell ⟨P, 1, none⟩ (.int .i64 0)).setCell ⟨P, 2, none⟩ (.int .i64 0)).setCell ⟨P, 3, none⟩ (.int .i64 0)).setCell ⟨P, 4, none⟩ (.int .i64 0)).heap[P]? = some (.cells #[.int .i64 0, .int .i64 0, .int .i64 0, .int .i64 0, .int .i64 0] 26 (0, 0))) := setFive hR3 _ _ _ _ _
    have hg := grFive w3 P (.int .i64 0) (.int .i64 0) (.int .i64 0) (.int .i64 0) (.int .i64 0)
    have HPO := hidK (HBAD.out _ _ (hW3.grown hg hW3.size (fun k hk => by cases hk; have := HP.out; omega)) hE (by decide))
    clear zf hg hE HBAD hR3 cel
    go_wp2_with fail
    generalize (((((w3.setCell ⟨P, 0, none⟩ (.int .i64 0)).setCell ⟨P, 1, none⟩ (.int .i64 0)).setCell ⟨P, 2, none⟩ (.int .i64 0)).setCell ⟨P, 3, none⟩ (.int .i64 0)).setCell ⟨P, 4, none⟩ (.int .i64 0)) = X at *
    obtain ⟨y0, y1, y2, y3, y4, -⟩ := rowFive HHX.out
    exact bodyPost_ret (v := .tuple #[.agg #[.int .i64 0, .int .i64 0, .int .i64 0, .int .i64 0, .int .i64 0], .iface 83 (.int .i64 1)]) (by simp [results, Tryz.results36, go_sem, y0, y1, y2, y3, y4]) rfl HPO.out
  rw [show spn.errV (rangeE false) = .nilIface from rfl]
  have hk : 1 ≤ k ∧ k ≤ q := by have h := HIN.out; simpa using h
  have hq := shw_of HE.out
  simp only [] at hq
  have hE : restE ⟨a, b, c, d, p, q, s, t⟩ k = 0 := by
    unfold restE
    rw [if_pos HE.out, if_pos (show 1 ≤ k ∧ k ≤ q from hk)]
  have c0 := cel 0
  have c1 := cel 1
  have c6 := cel 6
  simp only [List.getElem?_toArray, List.getElem?_cons_zero, List.getElem?_cons_succ] at c0 c1 c6
  have HGO : Hid (∀ W x y, Below w.heap.size w W → shownK ⟨a, b, c, d, p, q, s, t⟩ k = x → k - x = y → (Ending.returned (.tuple #[.agg #[.int .i64 a, .int .i64 b, .int .i64 x, .int .i64 y, .int .i64 s], .nilIface]) = .returned (.tuple #[rB (restV ⟨a, b, c, d, p, q, s, t⟩ k), errV (restE ⟨a, b, c, d, p, q, s, t⟩ k)]) ∧ Below w.heap.size w W)) := fun W x y hW h1 h2 => ⟨by
      unfold restV
      rw [hE, if_pos rfl, errV_zero]
      unfold keptR
      rw [h1, h2]
      rfl, hW⟩
  have HWW : Hid (Below w.heap.size w w3) := hW3
  clear HIN HE hE zf cel hW3 HBAD HSO HOK HV1 HV2 HV3
  by_cases hs : s = 0
  · subst hs
    have E1 : Hid (wrap64 (k - k) = 0) := by show _ = _; unfold wrap64; omega
    have HHX : Hid ((((((w3.setCell ⟨P, 0, none⟩ (.int .i64 a)).setCell ⟨P, 1, none⟩ (.int .i64 b)).setCell ⟨P, 2, none⟩ (.int .i64 k)).setCell ⟨P, 3, none⟩ (.int .i64 0)).setCell ⟨P, 4, none⟩ (.int .i64 0)).heap[P]? = some (.cells #[.int .i64 a, .int .i64 b, .int .i64 k, .int .i64 0, .int .i64 0] 26 (0, 0))) := setFive hR3 _ _ _ _ _
    have hg := grFive w3 P (.int .i64 a) (.int .i64 b) (.int .i64 k) (.int .i64 0) (.int .i64 0)
    have HPO := hidK (HGO.out _ k 0 (HWW.out.grown hg HWW.out.size (fun k hk => by cases hk; have := HP.out; omega)) (by unfold shownK; rw [if_pos rfl]) (by omega))
    clear hR3 hg HGO hk hq
    have x1 := E1.out
    go_wp2_with fail
    generalize (((((w3.setCell ⟨P, 0, none⟩ (.int .i64 a)).setCell ⟨P, 1, none⟩ (.int .i64 b)).setCell ⟨P, 2, none⟩ (.int .i64 k)).setCell ⟨P, 3, none⟩ (.int .i64 0)).setCell ⟨P, 4, none⟩ (.int .i64 0)) = X at *
    obtain ⟨y0, y1, y2, y3, y4, -⟩ := rowFive HHX.out
    exact bodyPost_ret (v := .tuple #[.agg #[.int .i64 a, .int .i64 b, .int .i64 k, .int .i64 0, .int .i64 0], .nilIface]) (by simp [results, Tryz.results36, go_sem, y0, y1, y2, y3, y4]) rfl HPO.out
  · have hs1 : (s != 0) = true := by simp [hs]
    obtain ⟨m, hm⟩ : ∃ m, min s k = m := ⟨_, rfl⟩
    obtain ⟨y, hy⟩ : ∃ y, k - m = y := ⟨_, rfl⟩
    have E1 : Hid (wrap64 (k - m) = y) := by show _ = _; unfold wrap64; omega
    have HM : Hid (min s k = m) := hm
    have HHX : Hid ((((((w3.setCell ⟨P, 0, none⟩ (.int .i64 a)).setCell ⟨P, 1, none⟩ (.int .i64 b)).setCell ⟨P, 2, none⟩ (.int .i64 m)).setCell ⟨P, 3, none⟩ (.int .i64 y)).setCell ⟨P, 4, none⟩ (.int .i64 s)).heap[P]? = some (.cells #[.int .i64 a, .int .i64 b, .int .i64 m, .int .i64 y, .int .i64 s] 26 (0, 0))) := setFive hR3 _ _ _ _ _
    have hg := grFive w3 P (.int .i64 a) (.int .i64 b) (.int .i64 m) (.int .i64 y) (.int .i64 s)
    have HPO := hidK (HGO.out _ m y (HWW.out.grown hg HWW.out.size (fun k hk => by cases hk; have := HP.out; omega)) (by unfold shownK; rw [if_neg hs]; exact hm) hy)
    clear hR3 hg HGO hk hq hs hy hm
    have x1 := E1.out
    have x2 := HM.out
    go_wp2_with fail
    trace_state
    generalize (((((w3.setCell ⟨P, 0, none⟩ (.int .i64 a)).setCell ⟨P, 1, none⟩ (.int .i64 b)).setCell ⟨P, 2, none⟩ (.int .i64 m)).setCell ⟨P, 3, none⟩ (.int .i64 y)).setCell ⟨P, 4, none⟩ (.int .i64 s)) = X at *
    obtain ⟨y0, y1, y2, y3, y4, -⟩ := rowFive HHX.out
    exact bodyPost_ret (v := .tuple #[.agg #[.int .i64 a, .int .i64 b, .int .i64 m, .int .i64 y, .int .i64 s], .nilIface]) (by simp [results, Tryz.results36, go_sem, y0, y1, y2, y3, y4]) rfl HPO.out

set_option maxRecDepth 100000 in
set_option maxHeartbeats 2000000 in
theorem refuse_any (a b c d p q s t k : Int) (w : World) :
    Calls Tryz.prog 58 #[.agg #[.int .i64 a, .int .i64 b, .int .i64 c, .int .i64 d, .int .i64 p, .int .i64 q, .int .i64 s, .int .i64 t], .int .i64 k] w fun e w' => e = .returned (errV (refE ⟨a, b, c, d, p, q, s, t⟩ k)) ∧ Below w.heap.size w w' := by
  have hB : Below w.heap.size w (w.alloc (.cells #[.int .i64 a, .int .i64 b, .int .i64 c, .int .i64 d, .int .i64 p, .int .i64 q, .int .i64 s, .int .i64 t] 60)) := (Below.refl _ _).alloc (Nat.le_refl _) _
  generalize hk : refE ⟨a, b, c, d, p, q, s, t⟩ k = kk
  have HK : Hid ((if d = 4 ∧ 0 < k then 9 else if d = 5 ∧ k < q then 8 else 0) = kk) := hk
  clear hk
  by_cases h4 : d = 4
  · subst h4
    by_cases h0 : 0 < k
    · have hkk : kk = 9 := by rw [← HK.out, if_pos ⟨rfl, h0⟩]
      subst hkk
      go_enter Tryz.func58, Tryz.ntmps58
      go_wp2_with fail
      go_ret
      exact ⟨rfl, hB⟩
    · have hkk : kk = 0 := by rw [← HK.out, if_neg (fun h => h0 h.2), if_neg (by omega)]
      subst hkk
      go_enter Tryz.func58, Tryz.ntmps58
      go_wp2_with fail
      go_ret
      exact ⟨rfl, hB⟩
  · have h4b : (d == 4) = false := by simp [h4]
    by_cases h5 : d = 5
    · subst h5
      by_cases h0 : k < q
      · have hkk : kk = 8 := by rw [← HK.out, if_neg (by omega), if_pos ⟨rfl, h0⟩]
        subst hkk
        go_enter Tryz.func58, Tryz.ntmps58
        go_wp2_with fail
        go_ret
        exact ⟨rfl, hB⟩
      · have hkk : kk = 0 := by rw [← HK.out, if_neg (by omega), if_neg (fun h => h0 h.2)]
        subst hkk
        go_enter Tryz.func58, Tryz.ntmps58
        go_wp2_with fail
        go_ret
        exact ⟨rfl, hB⟩
    · have h5b : (d == 5) = false := by simp [h5]
      have hkk : kk = 0 := by rw [← HK.out, if_neg (fun h => h4 h.1), if_neg (fun h => h5 h.1)]
      subst hkk
      go_enter Tryz.func58, Tryz.ntmps58
      go_wp2_with fail
      go_ret
      exact ⟨rfl, hB⟩
end Go.Proofs.YtpbbgbjgndikdaaGreatDoor.kin
namespace Go.Proofs.YtpbbgbjgndikdaaGreatDoor.kin
open Go.RowKit Go.Proofs.YtpbbgbjgndikdaaGreatDoor.spn Go.Proofs.YtpbbgbjgndikdaaGreatDoor.que Go.Proofs.YtpbbgbjgndikdaaGreatDoor.sid Go.Proofs.YtpbbgbjgndikdaaGreatDoor.bok Go.Proofs.YtpbbgbjgndikdaaGreatDoor.mee
open Go.Proofs.YtpbbgbjgndikdaaGreatDoor.ord (O oV mB mE chk meets_any mayRest_is)

/-- What 'settle' answers; its book lies from a block on. -/
def SetPost (bs ss : List L) (o : O) (left : Int) (b0 : Nat) (w : World) (e : Ending) (w' : World) : Prop :=
  (setE bs ss o left = 0 → ∃ q1 q2 n1 n2 c1 c2, e = .returned (.tuple #[.agg #[.slice q1 n1 c1, .slice q2 n2 c2], .int .i64 (setG o left), .nilIface]) ∧ DL w' b0 (.slice q1 n1 c1) (setB bs o left) ∧ DL w' b0 (.slice q2 n2 c2) (setS ss o left)) ∧
  (¬ setE bs ss o left = 0 → ∃ q1 q2 n1 n2 c1 c2, e = .returned (.tuple #[.agg #[.slice q1 n1 c1, .slice q2 n2 c2], .int .i64 0, errV (setE bs ss o left)])) ∧ Below w.heap.size w w'

set_option maxRecDepth 100000 in
set_option maxHeartbeats 4000000 in
theorem settle_any (q1 q2 : Option Addr) (n1 n2 c1 c2 : Nat) (bs ss : List L) (a b c d p q s t k : Int) (b0 : Nat) (w : World) (h1 : DL w b0 (.slice q1 n1 c1) bs) (h2 : DL w b0 (.slice q2 n2 c2) ss) (hb0 : b0 ≤ w.heap.size) :
    Calls Tryz.prog 59 #[.agg #[.slice q1 n1 c1, .slice q2 n2 c2], .agg #[.int .i64 a, .int .i64 b, .int .i64 c, .int .i64 d, .int .i64 p, .int .i64 q, .int .i64 s, .int .i64 t], .int .i64 k] w fun e w' => SetPost bs ss ⟨a, b, c, d, p, q, s, t⟩ k b0 w e w' := by
  obtain ⟨V1, hV1⟩ : ∃ V1, V1 = w.alloc (.cells #[.slice q1 n1 c1, .slice q2 n2 c2] 24) := ⟨_, rfl⟩
  have hs1 : V1.heap.size = w.heap.size + 1 := by rw [hV1]; simp
  have hb1 : Below w.heap.size w V1 := by rw [hV1]; exact (Below.refl _ _).alloc (Nat.le_refl _) _
  have hr1 : V1.heap[w.heap.size]? = some (.cells #[.slice q1 n1 c1, .slice q2 n2 c2] 24 (0, 0)) := by rw [hV1]; exact heap_alloc_new w _
  obtain ⟨V2, hV2⟩ : ∃ V2, V2 = V1.alloc (.cells #[.int .i64 a, .int .i64 b, .int .i64 c, .int .i64 d, .int .i64 p, .int .i64 q, .int .i64 s, .int .i64 t] 60) := ⟨_, rfl⟩
  have hs2 : V2.heap.size = w.heap.size + 2 := by rw [hV2]; simp [hs1]
  have hb2 : Below V1.heap.size V1 V2 := by rw [hV2]; exact (Below.refl _ _).alloc (Nat.le_refl _) _
  have hr2 : V2.heap[w.heap.size + 1]? = some (.cells #[.int .i64 a, .int .i64 b, .int .i64 c, .int .i64 d, .int .i64 p, .int .i64 q, .int .i64 s, .int .i64 t] 60 (0, 0)) := by rw [← hs1, hV2]; exact heap_alloc_new V1 _
  obtain ⟨V, hV⟩ : ∃ V, V = V2.alloc (.cells #[.slice none 0 0, .slice none 0 0] 24) := ⟨_, rfl⟩
  have hb3 : Below V2.heap.size V2 V := by rw [hV]; exact (Below.refl _ _).alloc (Nat.le_refl _) _
  have hr3 : V.heap[w.heap.size + 2]? = some (.cells #[.slice none 0 0, .slice none 0 0] 24 (0, 0)) := by rw [← hs2, hV]; exact heap_alloc_new V2 _
  have hBV : Below w.heap.size w V := by
    have h := hb1.trans (hb2.mono hb1.size)
    exact h.trans (hb3.mono h.size)
  have hB0 : V.heap[w.heap.size]? = some (.cells #[.slice q1 n1 c1, .slice q2 n2 c2] 24 (0, 0)) := by rw [hb3.block _ (by omega), hb2.block _ (by omega)]; exact hr1
  have hO0 : V.heap[w.heap.size + 1]? = some (.cells #[.int .i64 a, .int .i64 b, .int .i64 c, .int .i64 d, .int .i64 p, .int .i64 q, .int .i64 s, .int .i64 t] 60 (0, 0)) := by rw [hb3.block _ (by omega)]; exact hr2
  obtain ⟨P, hP⟩ : ∃ P, P = w.heap.size + 2 := ⟨_, rfl⟩
  obtain ⟨G, hG⟩ : ∃ G, G = w.heap.size := ⟨_, rfl⟩
  obtain ⟨Q, hQ⟩ : ∃ Q, Q = w.heap.size + 1 := ⟨_, rfl⟩
  rw [← hP] at hr3
  have hPV : P < V.heap.size := (Array.getElem?_eq_some_iff.1 hr3).1
  have HP : Hid (P = w.heap.size + 2 ∧ G = w.heap.size ∧ Q = w.heap.size + 1 ∧ P < V.heap.size) := ⟨hP, hG, hQ, hPV⟩
  have HSO : Hid (∀ W, Below V.heap.size V W → Below w.heap.size w W ∧ W.heap[P]? = some (.cells #[.slice none 0 0, .slice none 0 0] 24 (0, 0)) ∧ W.heap[G]? = some (.cells #[.slice q1 n1 c1, .slice q2 n2 c2] 24 (0, 0)) ∧ ∀ i, W.cell? ⟨Q, i, none⟩ = (#[.int .i64 a, .int .i64 b, .int .i64 c, .int .i64 d, .int .i64 p, .int .i64 q, .int .i64 s, .int .i64 t] : Array Value)[i]?) := fun W hW =>
    ⟨hBV.trans (hW.mono hBV.size), (hW.block P hPV).trans hr3, by rw [hG]; exact (hW.block _ (by omega)).trans hB0, fun i => by have h := (hW.block (w.heap.size + 1) (by omega)).trans hO0; rw [← hQ] at h; simp [World.cell?, h]⟩
  have HD : Hid (∀ W, Below w.heap.size w W → DL W b0 (.slice q1 n1 c1) bs ∧ DL W b0 (.slice q2 n2 c2) ss) := fun W hW => ⟨h1.below hW, h2.below hW⟩
  have HB0 : Hid (b0 ≤ w.heap.size) := hb0
  have HMR : Hid (∀ m W, (d == 1 || d == 5) = m → Calls Tryz.prog 88 #[.int .i64 d] W fun e w' => e = .returned (.bool m) ∧ w' = W) := fun m W h => mayRest_is m d W h
  have HRE : Hid (∀ W, Calls Tryz.prog 36 #[.agg #[.int .i64 a, .int .i64 b, .int .i64 c, .int .i64 d, .int .i64 p, .int .i64 q, .int .i64 s, .int .i64 t], .int .i64 k] W fun e w' => e = .returned (.tuple #[rB (restV ⟨a, b, c, d, p, q, s, t⟩ k), errV (restE ⟨a, b, c, d, p, q, s, t⟩ k)]) ∧ Below W.heap.size W w') := fun W => krest_any a b c d p q s t k W
  clear hs1 hs2 hb1 hb2 hb3 hr1 hr2 hr3 hB0 hO0 hBV h1 h2 hb0 hPV
  obtain ⟨-, hRP, hRG, cel⟩ := HSO.out V (Below.refl _ _)
  obtain ⟨g0, g1, -⟩ := rowTwo hRG
  obtain ⟨z0, z1, zf⟩ := rowTwo hRP
  have zf0 := zf 0
  have zf1 := zf 1
  have u0 := cel 0
  have u1 := cel 1
  have u2 := cel 2
  have u3 := cel 3
  have u4 := cel 4
  have u5 := cel 5
  have u6 := cel 6
  have u7' := cel 7
  simp only [List.getElem?_toArray, List.getElem?_cons_zero, List.getElem?_cons_succ] at u0 u1 u2 u3 u4 u5 u6 u7'
  have HBV : Hid (Below w.heap.size w V) := (HSO.out V (Below.refl _ _)).1
  -- the way in which nothing rests
  have HNO : Hid (stayB ⟨a, b, c, d, p, q, s, t⟩ k = false → SetPost bs ss ⟨a, b, c, d, p, q, s, t⟩ k b0 w (.returned (.tuple #[.agg #[.slice q1 n1 c1, .slice q2 n2 c2], .int .i64 k, .nilIface])) ((V.setCell ⟨P, 0, none⟩ (.slice q1 n1 c1)).setCell ⟨P, 1, none⟩ (.slice q2 n2 c2))) := fun hst => by
    have hE : setE bs ss ⟨a, b, c, d, p, q, s, t⟩ k = 0 := by unfold setE; rw [hst]; rfl
    have hgg := grTwo V P (.slice q1 n1 c1) (.slice q2 n2 c2)
    have hW : Below w.heap.size w ((V.setCell ⟨P, 0, none⟩ (.slice q1 n1 c1)).setCell ⟨P, 1, none⟩ (.slice q2 n2 c2)) := HBV.out.grown hgg HBV.out.size (fun k hk => by cases hk; have := HP.out.1; omega)
    obtain ⟨d1, d2⟩ := HD.out _ hW
    refine ⟨fun _ => ⟨_, _, _, _, _, _, by unfold setG; rw [hst]; rfl, ?_, ?_⟩, fun h => absurd hE h, hW⟩
    · unfold setB; rw [hst]; exact d1
    · unfold setS; rw [hst]; exact d2
  have HHX : Hid (((V.setCell ⟨P, 0, none⟩ (.slice q1 n1 c1)).setCell ⟨P, 1, none⟩ (.slice q2 n2 c2)).heap[P]? = some (.cells #[.slice q1 n1 c1, .slice q2 n2 c2] 24 (0, 0))) := setTwo hRP _ _
  clear cel zf hRP hRG
  go_enter Tryz.func59, Tryz.ntmps59
  by_cases hk0 : k = 0
  · subst hk0
    have HPO := hidK (HNO.out rfl)
    clear HNO
    go_upto_region 1 with fail
    rw [← hV1, ← hV2, ← hV]
    simp only [← hP]
    simp only [← hQ]
    simp only [← hG]
    clear hV1 hV2 hV hP hG hQ
    go_wp2_with fail
    generalize ((V.setCell ⟨P, 0, none⟩ (.slice q1 n1 c1)).setCell ⟨P, 1, none⟩ (.slice q2 n2 c2)) = Z at *
    obtain ⟨y0, y1, -⟩ := rowTwo HHX.out
    exact bodyPost_ret (v := .tuple #[.agg #[.slice q1 n1 c1, .slice q2 n2 c2], .int .i64 0, .nilIface]) (by simp [results, Tryz.results59, go_sem, y0, y1]) rfl HPO.out
  have hkb : (k == 0) = false := by simp [hk0]
  generalize hm : (d == 1 || d == 5) = m
  have HM : Hid ((d == 1 || d == 5) = m) := hm
  have HST : Hid (stayB ⟨a, b, c, d, p, q, s, t⟩ k = m) := by
    show _ = _
    unfold stayB mayK
    rw [hkb]
    exact hm
  clear hm hk0
  go_wp2_with fail
  rw [← hV1, ← hV2, ← hV]
  simp only [← hP]
  simp only [← hQ]
  simp only [← hG]
  clear hV1 hV2 hV hP hG hQ
  refine (HMR.out m V HM.out).mono ?_
  rintro e w1 ⟨rfl, rfl⟩
  cases m
  · have HPO := hidK (HNO.out HST.out)
    clear HNO
    go_wp2_with fail
    generalize ((w1.setCell ⟨P, 0, none⟩ (.slice q1 n1 c1)).setCell ⟨P, 1, none⟩ (.slice q2 n2 c2)) = Z at *
    obtain ⟨y0, y1, -⟩ := rowTwo HHX.out
    exact bodyPost_ret (v := .tuple #[.agg #[.slice q1 n1 c1, .slice q2 n2 c2], .int .i64 k, .nilIface]) (by simp [results, Tryz.results59, go_sem, y0, y1]) rfl HPO.out
  clear HNO HHX
  go_wp2_with fail
  refine (HRE.out w1).mono ?_
  rintro e w2 ⟨rfl, b2⟩
  have HW2 : Hid (Below w1.heap.size w1 w2) := b2
  clear b2 g0 g1 z0 z1 zf0 zf1 u0 u1 u2 u3 u4 u5 u6 u7'
  by_cases hE : restE ⟨a, b, c, d, p, q, s, t⟩ k = 0
  rotate_left
  · have hSE : setE bs ss ⟨a, b, c, d, p, q, s, t⟩ k = restE ⟨a, b, c, d, p, q, s, t⟩ k := by unfold setE; rw [HST.out, if_pos rfl, if_neg hE]
    rw [show restV ⟨a, b, c, d, p, q, s, t⟩ k = zeroR by unfold restV; rw [if_neg hE], errV_of hE, show rB zeroR = .agg #[.int .i64 0, .int .i64 0, .int .i64 0, .int .i64 0, .int .i64 0] from rfl]
    have hBa : Below w2.heap.size w2 (w2.alloc (.cells #[.int .i64 0, .int .i64 0, .int .i64 0, .int .i64 0, .int .i64 0] 26)) := (Below.refl _ _).alloc (Nat.le_refl _) _
    have hWa : Below w1.heap.size w1 (w2.alloc (.cells #[.int .i64 0, .int .i64 0, .int .i64 0, .int .i64 0, .int .i64 0] 26)) := HW2.out.trans (hBa.mono HW2.out.size)
    obtain ⟨hWW, hRP, hRG, cel⟩ := HSO.out _ hWa
    have HHX : Hid ((((w2.alloc (.cells #[.int .i64 0, .int .i64 0, .int .i64 0, .int .i64 0, .int .i64 0] 26)).setCell ⟨P, 0, none⟩ (.slice none 0 0)).setCell ⟨P, 1, none⟩ (.slice none 0 0)).heap[P]? = some (.cells #[.slice none 0 0, .slice none 0 0] 24 (0, 0))) := setTwo hRP _ _
    have hgg := grTwo (w2.alloc (.cells #[.int .i64 0, .int .i64 0, .int .i64 0, .int .i64 0, .int .i64 0] 26)) P (.slice none 0 0) (.slice none 0 0)
    have HPO : Hid (SetPost bs ss ⟨a, b, c, d, p, q, s, t⟩ k b0 w (.returned (.tuple #[.agg #[.slice none 0 0, .slice none 0 0], .int .i64 0, .iface 83 (.int .i64 (restE ⟨a, b, c, d, p, q, s, t⟩ k))])) (((w2.alloc (.cells #[.int .i64 0, .int .i64 0, .int .i64 0, .int .i64 0, .int .i64 0] 26)).setCell ⟨P, 0, none⟩ (.slice none 0 0)).setCell ⟨P, 1, none⟩ (.slice none 0 0))) :=
      ⟨fun h => absurd (hSE.symm.trans h) hE, fun _ => ⟨_, _, _, _, _, _, by rw [hSE, errV_of hE]⟩, hWW.grown hgg hWW.size (fun k hk => by cases hk; have := HP.out.1; omega)⟩
    obtain ⟨z0, z1, zf⟩ := rowTwo hRP
    have zf0 := zf 0
    have zf1 := zf 1
    generalize restE ⟨a, b, c, d, p, q, s, t⟩ k = kk at *
    clear zf hgg hRP hRG cel hSE hBa hWa hWW HSO HRE HMR HD
    go_upto_region 4 with fail
    generalize w2.alloc (.cells #[.int .i64 0, .int .i64 0, .int .i64 0, .int .i64 0, .int .i64 0] 26) = W at *
    go_wp2_with fail
    generalize ((W.setCell ⟨P, 0, none⟩ (.slice none 0 0)).setCell ⟨P, 1, none⟩ (.slice none 0 0)) = Z at *
    obtain ⟨y0, y1, -⟩ := rowTwo HHX.out
    exact bodyPost_ret (v := .tuple #[.agg #[.slice none 0 0, .slice none 0 0], .int .i64 0, .iface 83 (.int .i64 kk)]) (by simp [results, Tryz.results59, go_sem, y0, y1]) rfl HPO.out
  have hRV : restV ⟨a, b, c, d, p, q, s, t⟩ k = keptR ⟨a, b, c, d, p, q, s, t⟩ k := by unfold restV; rw [if_pos hE]
  rw [hRV, hE, errV_zero]
  obtain ⟨r1, r2, r3, r4, r5, hkr⟩ : ∃ r1 r2 r3 r4 r5, keptR ⟨a, b, c, d, p, q, s, t⟩ k = ⟨r1, r2, r3, r4, r5⟩ := ⟨_, _, _, _, _, rfl⟩
  rw [hkr, show rB ⟨r1, r2, r3, r4, r5⟩ = .agg #[.int .i64 r1, .int .i64 r2, .int .i64 r3, .int .i64 r4, .int .i64 r5] from rfl]
  have hBa : Below w2.heap.size w2 (w2.alloc (.cells #[.int .i64 r1, .int .i64 r2, .int .i64 r3, .int .i64 r4, .int .i64 r5] 26)) := (Below.refl _ _).alloc (Nat.le_refl _) _
  have hRR : (w2.alloc (.cells #[.int .i64 r1, .int .i64 r2, .int .i64 r3, .int .i64 r4, .int .i64 r5] 26)).heap[w2.heap.size]? = some (.cells #[.int .i64 r1, .int .i64 r2, .int .i64 r3, .int .i64 r4, .int .i64 r5] 26 (0, 0)) := heap_alloc_new w2 _
  have hWa : Below w1.heap.size w1 (w2.alloc (.cells #[.int .i64 r1, .int .i64 r2, .int .i64 r3, .int .i64 r4, .int .i64 r5] 26)) := HW2.out.trans (hBa.mono HW2.out.size)
  obtain ⟨hWW, hRP, hRG, cel⟩ := HSO.out _ hWa
  have HSE : Hid (setE bs ss ⟨a, b, c, d, p, q, s, t⟩ k = putE bs ss c p ⟨r1, r2, r3, r4, r5⟩ ∧ setB bs ⟨a, b, c, d, p, q, s, t⟩ k = put1 bs c p ⟨r1, r2, r3, r4, r5⟩ ∧ setS ss ⟨a, b, c, d, p, q, s, t⟩ k = put2 ss c p ⟨r1, r2, r3, r4, r5⟩ ∧ setG ⟨a, b, c, d, p, q, s, t⟩ k = 0) := by
    refine ⟨?_, ?_, ?_, ?_⟩
    · unfold setE; rw [HST.out, if_pos rfl, if_pos hE, hkr]
    · unfold setB; rw [HST.out, if_pos rfl, hkr]
    · unfold setS; rw [HST.out, if_pos rfl, hkr]
    · unfold setG; rw [HST.out, if_pos rfl]
  obtain ⟨g0, g1, -⟩ := rowTwo hRG
  obtain ⟨x0, x1, x2, x3, x4, -⟩ := rowFive hRR
  have u2 := cel 2
  have u4 := cel 4
  simp only [List.getElem?_toArray, List.getElem?_cons_zero, List.getElem?_cons_succ] at u2 u4
  have HWa := hidK hWa
  have HWW := hidK hWW
  clear hRV hkr hE hBa hRR hRP hRG cel hWa hWW HRE HMR
  go_upto_region 4 with fail
  generalize w2.alloc (.cells #[.int .i64 r1, .int .i64 r2, .int .i64 r3, .int .i64 r4, .int .i64 r5] 26) = W at *
  generalize w2.heap.size = RB at *
  have HPU : Hid (Calls Tryz.prog 16 #[.agg #[.slice q1 n1 c1, .slice q2 n2 c2], .int .i64 c, .int .i64 p, .agg #[.int .i64 r1, .int .i64 r2, .int .i64 r3, .int .i64 r4, .int .i64 r5]] W fun x w' => PutPostD bs ss c p ⟨r1, r2, r3, r4, r5⟩ W x w') := put_anyD c p q1 q2 n1 n2 c1 c2 r1 r2 r3 r4 r5 bs ss W (HD.out W HWW.out).1.ls (HD.out W HWW.out).2.ls
  go_wp2_with fail
  refine HPU.out.mono ?_
  rintro e w3 ⟨v1, v2, m1, m2, k1, k2, rfl, D1, D2, b3⟩
  have HW3 : Hid (Below w1.heap.size w1 w3) := HWa.out.trans (b3.mono HWa.out.size)
  obtain ⟨hw3, hRP, hRG, -⟩ := HSO.out w3 HW3.out
  obtain ⟨t0, t1, tf⟩ := rowTwo hRG
  have tf0 := tf 0
  have tf1 := tf 1
  have hG4 := setTwo hRG (.slice v1 m1 k1) (.slice v2 m2 k2)
  have hg1 := grTwo w3 G (.slice v1 m1 k1) (.slice v2 m2 k2)
  have hlt : P < w3.heap.size ∧ G ≠ P ∧ G < W.heap.size ∧ P < W.heap.size := by
    have h1 := HP.out
    have h2 := HWa.out.size
    have h3 := HW3.out.size
    omega
  have hP4 : ((w3.setCell ⟨G, 0, none⟩ (.slice v1 m1 k1)).setCell ⟨G, 1, none⟩ (.slice v2 m2 k2)).heap[P]? = some (.cells #[.slice none 0 0, .slice none 0 0] 24 (0, 0)) := (hg1.block P hlt.1 (fun e => by cases e; exact hlt.2.1 rfl)).trans hRP
  obtain ⟨s0, s1, -⟩ := rowTwo hG4
  obtain ⟨z0, z1, zf⟩ := rowTwo hP4
  have zf0 := zf 0
  have zf1 := zf 1
  have HHX := hidK (setTwo hP4 (.slice v1 m1 k1) (.slice v2 m2 k2))
  have hg2 := grTwo ((w3.setCell ⟨G, 0, none⟩ (.slice v1 m1 k1)).setCell ⟨G, 1, none⟩ (.slice v2 m2 k2)) P (.slice v1 m1 k1) (.slice v2 m2 k2)
  have HPO : Hid (SetPost bs ss ⟨a, b, c, d, p, q, s, t⟩ k b0 w (.returned (.tuple #[.agg #[.slice v1 m1 k1, .slice v2 m2 k2], .int .i64 0, errV (putE bs ss c p ⟨r1, r2, r3, r4, r5⟩)])) ((((w3.setCell ⟨G, 0, none⟩ (.slice v1 m1 k1)).setCell ⟨G, 1, none⟩ (.slice v2 m2 k2)).setCell ⟨P, 0, none⟩ (.slice v1 m1 k1)).setCell ⟨P, 1, none⟩ (.slice v2 m2 k2))) := by
    obtain ⟨e1, e2, e3, e4⟩ := HSE.out
    have hbw : b0 ≤ W.heap.size := by have h1 := HB0.out; have h2 := HWW.out.size; omega
    have hB4 : Below w.heap.size w ((w3.setCell ⟨G, 0, none⟩ (.slice v1 m1 k1)).setCell ⟨G, 1, none⟩ (.slice v2 m2 k2)) := hw3.grown hg1 hw3.size (fun k hk => by cases hk; have := HP.out; omega)
    refine ⟨fun h => ⟨v1, v2, m1, m2, k1, k2, ?_, ?_, ?_⟩, fun h => ⟨_, _, _, _, _, _, by rw [e1]⟩, hB4.grown hg2 hB4.size (fun k hk => by cases hk; have := HP.out; omega)⟩
    · rw [e1] at h; rw [h, e4]; rfl
    · rw [e1] at h; rw [if_pos h] at D1; rw [e2]
      exact ((D1.other hg1 hlt.2.2.1).other hg2 hlt.2.2.2).mono hbw
    · rw [e1] at h; rw [if_pos h] at D2; rw [e3]
      exact ((D2.other hg1 hlt.2.2.1).other hg2 hlt.2.2.2).mono hbw
  generalize errV (putE bs ss c p ⟨r1, r2, r3, r4, r5⟩) = EV at *
  clear zf tf hg1 hg2 hlt hP4 hG4 hRP hRG hw3 b3 D1 D2 HPU HSE HD HSO
  go_wp2_with fail
  generalize ((((w3.setCell ⟨G, 0, none⟩ (.slice v1 m1 k1)).setCell ⟨G, 1, none⟩ (.slice v2 m2 k2)).setCell ⟨P, 0, none⟩ (.slice v1 m1 k1)).setCell ⟨P, 1, none⟩ (.slice v2 m2 k2)) = Z at *
  obtain ⟨y0, y1, -⟩ := rowTwo HHX.out
  exact bodyPost_ret (v := .tuple #[.agg #[.slice v1 m1 k1, .slice v2 m2 k2], .int .i64 0, EV]) (by simp [results, Tryz.results59, go_sem, y0, y1]) rfl HPO.out

/-- What 'Do' answers. -/
def KDPost (bs ss : List L) (o : O) (w : World) (e : Ending) (w' : World) : Prop :=
  (kdoE bs ss o = 0 → ∃ q1 q2 n1 n2 c1 c2 tv, e = .returned (.tuple #[.agg #[.slice q1 n1 c1, .slice q2 n2 c2], tv, .int .i64 (kdoG bs ss o), .nilIface]) ∧ DL w' w.heap.size (.slice q1 n1 c1) (kdoB bs ss o) ∧ DL w' w.heap.size (.slice q2 n2 c2) (kdoS bs ss o) ∧ OwnT w' w.heap.size tv (metR bs ss o).2.1) ∧
  (¬ kdoE bs ss o = 0 → e = .returned (.tuple #[.agg #[.slice none 0 0, .slice none 0 0], .slice none 0 0, .int .i64 0, errV (kdoE bs ss o)])) ∧ Below w.heap.size w w'

set_option maxRecDepth 100000 in
set_option maxHeartbeats 4000000 in
theorem kdo_any (q1 q2 : Option Addr) (n1 n2 c1 c2 : Nat) (bs ss : List L) (a b c d p q s t : Int) (w : World) (h1 : LS w (.slice q1 n1 c1) bs) (h2 : LS w (.slice q2 n2 c2) ss) :
    Calls Tryz.prog 33 #[.agg #[.slice q1 n1 c1, .slice q2 n2 c2], .agg #[.int .i64 a, .int .i64 b, .int .i64 c, .int .i64 d, .int .i64 p, .int .i64 q, .int .i64 s, .int .i64 t]] w fun e w' => KDPost bs ss ⟨a, b, c, d, p, q, s, t⟩ w e w' := by
  obtain ⟨V1, hV1⟩ : ∃ V1, V1 = w.alloc (.cells #[.slice q1 n1 c1, .slice q2 n2 c2] 24) := ⟨_, rfl⟩
  have hs1 : V1.heap.size = w.heap.size + 1 := by rw [hV1]; simp
  have hb1 : Below w.heap.size w V1 := by rw [hV1]; exact (Below.refl _ _).alloc (Nat.le_refl _) _
  have hr1 : V1.heap[w.heap.size]? = some (.cells #[.slice q1 n1 c1, .slice q2 n2 c2] 24 (0, 0)) := by rw [hV1]; exact heap_alloc_new w _
  obtain ⟨V2, hV2⟩ : ∃ V2, V2 = V1.alloc (.cells #[.int .i64 a, .int .i64 b, .int .i64 c, .int .i64 d, .int .i64 p, .int .i64 q, .int .i64 s, .int .i64 t] 60) := ⟨_, rfl⟩
  have hs2 : V2.heap.size = w.heap.size + 2 := by rw [hV2]; simp [hs1]
  have hb2 : Below V1.heap.size V1 V2 := by rw [hV2]; exact (Below.refl _ _).alloc (Nat.le_refl _) _
  have hr2 : V2.heap[w.heap.size + 1]? = some (.cells #[.int .i64 a, .int .i64 b, .int .i64 c, .int .i64 d, .int .i64 p, .int .i64 q, .int .i64 s, .int .i64 t] 60 (0, 0)) := by rw [← hs1, hV2]; exact heap_alloc_new V1 _
  obtain ⟨V, hV⟩ : ∃ V, V = V2.alloc (.cells #[.slice none 0 0, .slice none 0 0] 24) := ⟨_, rfl⟩
  have hb3 : Below V2.heap.size V2 V := by rw [hV]; exact (Below.refl _ _).alloc (Nat.le_refl _) _
  have hr3 : V.heap[w.heap.size + 2]? = some (.cells #[.slice none 0 0, .slice none 0 0] 24 (0, 0)) := by rw [← hs2, hV]; exact heap_alloc_new V2 _
  have hBV : Below w.heap.size w V := by
    have h := hb1.trans (hb2.mono hb1.size)
    exact h.trans (hb3.mono h.size)
  have hB0 : V.heap[w.heap.size]? = some (.cells #[.slice q1 n1 c1, .slice q2 n2 c2] 24 (0, 0)) := by rw [hb3.block _ (by omega), hb2.block _ (by omega)]; exact hr1
  have hO0 : V.heap[w.heap.size + 1]? = some (.cells #[.int .i64 a, .int .i64 b, .int .i64 c, .int .i64 d, .int .i64 p, .int .i64 q, .int .i64 s, .int .i64 t] 60 (0, 0)) := by rw [hb3.block _ (by omega)]; exact hr2
  obtain ⟨P, hP⟩ : ∃ P, P = w.heap.size + 2 := ⟨_, rfl⟩
  obtain ⟨G, hG⟩ : ∃ G, G = w.heap.size := ⟨_, rfl⟩
  obtain ⟨Q, hQ⟩ : ∃ Q, Q = w.heap.size + 1 := ⟨_, rfl⟩
  rw [← hP] at hr3
  have hPV : P < V.heap.size := (Array.getElem?_eq_some_iff.1 hr3).1
  have HP : Hid (P = w.heap.size + 2 ∧ G = w.heap.size ∧ Q = w.heap.size + 1 ∧ P < V.heap.size) := ⟨hP, hG, hQ, hPV⟩
  have HSO : Hid (∀ W, Below V.heap.size V W → Below w.heap.size w W ∧ W.heap[P]? = some (.cells #[.slice none 0 0, .slice none 0 0] 24 (0, 0)) ∧ W.heap[G]? = some (.cells #[.slice q1 n1 c1, .slice q2 n2 c2] 24 (0, 0)) ∧ ∀ i, W.cell? ⟨Q, i, none⟩ = (#[.int .i64 a, .int .i64 b, .int .i64 c, .int .i64 d, .int .i64 p, .int .i64 q, .int .i64 s, .int .i64 t] : Array Value)[i]?) := fun W hW =>
    ⟨hBV.trans (hW.mono hBV.size), (hW.block P hPV).trans hr3, by rw [hG]; exact (hW.block _ (by omega)).trans hB0, fun i => by have h := (hW.block (w.heap.size + 1) (by omega)).trans hO0; rw [← hQ] at h; simp [World.cell?, h]⟩
  have HDO : Hid (Calls Tryz.prog 26 #[.agg #[.slice q1 n1 c1, .slice q2 n2 c2], .agg #[.int .i64 a, .int .i64 b, .int .i64 c, .int .i64 d, .int .i64 p, .int .i64 q, .int .i64 s, .int .i64 t]] V fun e w' => DoPostD bs ss ⟨a, b, c, d, p, q, s, t⟩ V e w') := do_anyD q1 q2 n1 n2 c1 c2 bs ss a b c d p q s t V (h1.below hBV) (h2.below hBV)
  -- every way that ends in an error
  have HERR : Hid (∀ W kk, Below V.heap.size V W → kdoE bs ss ⟨a, b, c, d, p, q, s, t⟩ = kk → ¬ kk = 0 → KDPost bs ss ⟨a, b, c, d, p, q, s, t⟩ w (.returned (.tuple #[.agg #[.slice none 0 0, .slice none 0 0], .slice none 0 0, .int .i64 0, .iface 83 (.int .i64 kk)])) ((W.setCell ⟨P, 0, none⟩ (.slice none 0 0)).setCell ⟨P, 1, none⟩ (.slice none 0 0)) ∧
      ((W.setCell ⟨P, 0, none⟩ (.slice none 0 0)).setCell ⟨P, 1, none⟩ (.slice none 0 0)).heap[P]? = some (.cells #[.slice none 0 0, .slice none 0 0] 24 (0, 0))) := fun W kk hW hE hk => by
    obtain ⟨hw, hRP, -, -⟩ := HSO.out W hW
    have hgg := grTwo W P (.slice none 0 0) (.slice none 0 0)
    exact ⟨⟨fun h => absurd (hE.symm.trans h) hk, fun _ => by rw [hE, errV_of hk], hw.grown hgg hw.size (fun k hk => by cases hk; have := HP.out.1; omega)⟩, setTwo hRP _ _⟩
  clear hs1 hs2 hb1 hb2 hb3 hr1 hr2 hr3 hB0 hO0 hBV h1 h2 hPV
  obtain ⟨-, hRP, hRG, cel⟩ := HSO.out V (Below.refl _ _)
  obtain ⟨g0, g1, -⟩ := rowTwo hRG
  have u0 := cel 0
  have u1 := cel 1
  have u2 := cel 2
  have u3 := cel 3
  have u4 := cel 4
  have u5 := cel 5
  have u6 := cel 6
  have u7' := cel 7
  simp only [List.getElem?_toArray, List.getElem?_cons_zero, List.getElem?_cons_succ] at u0 u1 u2 u3 u4 u5 u6 u7'
  clear cel hRP hRG
  go_enter Tryz.func33, Tryz.ntmps33
  go_wp2_with fail
  rw [← hV1, ← hV2, ← hV]
  simp only [← hP]
  simp only [← hQ]
  simp only [← hG]
  clear hV1 hV2 hV hP hG hQ
  refine HDO.out.mono ?_
  rintro e w1 ⟨i1, i2, b1⟩
  have HW1 := hidK b1
  clear g0 g1 u0 u1 u2 u3 u4 u5 u6 u7' b1 HDO
  by_cases hD : doE bs ss ⟨a, b, c, d, p, q, s, t⟩ = 0
  rotate_left
  · have e2 := i2 hD
    subst e2
    have hKE : kdoE bs ss ⟨a, b, c, d, p, q, s, t⟩ = doE bs ss ⟨a, b, c, d, p, q, s, t⟩ := by unfold kdoE; rw [if_neg hD]
    rw [errV_of hD]
    have hBa : Below w1.heap.size w1 (w1.alloc (.cells #[.slice none 0 0, .slice none 0 0] 24)) := (Below.refl _ _).alloc (Nat.le_refl _) _
    have HWa := hidK (HW1.out.trans (hBa.mono HW1.out.size))
    obtain ⟨hPO, hHX⟩ := HERR.out _ _ HWa.out hKE hD
    have HPO := hidK hPO
    have HHX := hidK hHX
    obtain ⟨-, hRP, -, -⟩ := HSO.out _ HWa.out
    obtain ⟨z0, z1, zf⟩ := rowTwo hRP
    have zf0 := zf 0
    have zf1 := zf 1
    generalize doE bs ss ⟨a, b, c, d, p, q, s, t⟩ = kk at *
    clear i1 i2 hPO hHX HERR hRP zf hBa hKE HSO
    go_upto_region 2 with fail
    generalize w1.alloc (.cells #[.slice none 0 0, .slice none 0 0] 24) = W at *
    go_wp2_with fail
    generalize ((W.setCell ⟨P, 0, none⟩ (.slice none 0 0)).setCell ⟨P, 1, none⟩ (.slice none 0 0)) = Z at *
    obtain ⟨y0, y1, -⟩ := rowTwo HHX.out
    exact bodyPost_ret (v := .tuple #[.agg #[.slice none 0 0, .slice none 0 0], .slice none 0 0, .int .i64 0, .iface 83 (.int .i64 kk)]) (by simp [results, Tryz.results33, go_sem, y0, y1]) rfl HPO.out
  obtain ⟨v1, v2, m1, m2, k1, k2, tv, rfl, D1, D2, OT⟩ := i1 hD
  obtain ⟨tq, tc, htv⟩ := OwnM.form OT
  subst htv
  obtain ⟨BM, hBM⟩ : ∃ BM, metB bs ss ⟨a, b, c, d, p, q, s, t⟩ = BM := ⟨_, rfl⟩
  obtain ⟨SM, hSM⟩ : ∃ SM, metS bs ss ⟨a, b, c, d, p, q, s, t⟩ = SM := ⟨_, rfl⟩
  obtain ⟨TT, hTT⟩ : ∃ TT, (metR bs ss ⟨a, b, c, d, p, q, s, t⟩).2.1 = TT := ⟨_, rfl⟩
  obtain ⟨lf, hlf⟩ : ∃ lf, (metR bs ss ⟨a, b, c, d, p, q, s, t⟩).2.2 = lf := ⟨_, rfl⟩
  have HKD : Hid (kdoE bs ss ⟨a, b, c, d, p, q, s, t⟩ = (if refE ⟨a, b, c, d, p, q, s, t⟩ lf = 0 then setE BM SM ⟨a, b, c, d, p, q, s, t⟩ lf else refE ⟨a, b, c, d, p, q, s, t⟩ lf) ∧ kdoB bs ss ⟨a, b, c, d, p, q, s, t⟩ = setB BM ⟨a, b, c, d, p, q, s, t⟩ lf ∧ kdoS bs ss ⟨a, b, c, d, p, q, s, t⟩ = setS SM ⟨a, b, c, d, p, q, s, t⟩ lf ∧ kdoG bs ss ⟨a, b, c, d, p, q, s, t⟩ = setG ⟨a, b, c, d, p, q, s, t⟩ lf) := by
    unfold kdoE kdoB kdoS kdoG
    rw [if_pos hD, hBM, hSM, hlf]
    exact ⟨rfl, rfl, rfl, rfl⟩
  rw [hBM] at D1
  rw [hSM] at D2
  rw [hTT] at OT
  rw [hTT, hlf]
  have HTT := hidK hTT
  have hBa : Below w1.heap.size w1 (w1.alloc (.cells #[.slice v1 m1 k1, .slice v2 m2 k2] 24)) := (Below.refl _ _).alloc (Nat.le_refl _) _
  have hRG1 : (w1.alloc (.cells #[.slice v1 m1 k1, .slice v2 m2 k2] 24)).heap[w1.heap.size]? = some (.cells #[.slice v1 m1 k1, .slice v2 m2 k2] 24 (0, 0)) := heap_alloc_new w1 _
  have HWa := hidK (HW1.out.trans (hBa.mono HW1.out.size))
  have HD1 := hidK (D1.below hBa)
  have HD2 := hidK (D2.below hBa)
  have HOT := hidK (OwnM.below OT hBa)
  clear i1 i2 D1 D2 OT hBa hBM hSM hTT hlf hD
  go_upto_region 2 with fail
  generalize w1.alloc (.cells #[.slice v1 m1 k1, .slice v2 m2 k2] 24) = W at *
  generalize w1.heap.size = G1 at *
  obtain ⟨-, -, -, cel⟩ := HSO.out W HWa.out
  have u0 := cel 0
  have u1 := cel 1
  have u2 := cel 2
  have u3 := cel 3
  have u4 := cel 4
  have u5 := cel 5
  have u6 := cel 6
  have u7' := cel 7
  simp only [List.getElem?_toArray, List.getElem?_cons_zero, List.getElem?_cons_succ] at u0 u1 u2 u3 u4 u5 u6 u7'
  have hG1 : G1 < W.heap.size := (Array.getElem?_eq_some_iff.1 hRG1).1
  clear cel
  go_wp2_with fail
  refine (refuse_any a b c d p q s t lf W).mono ?_
  rintro e w2 ⟨rfl, b2⟩
  have HW2 := hidK (HWa.out.trans (b2.mono HWa.out.size))
  have HE1 := hidK (HD1.out.below b2)
  have HE2 := hidK (HD2.out.below b2)
  have HOT2 := hidK (OwnM.below HOT.out b2)
  have hRG2 := (b2.block G1 hG1).trans hRG1
  clear b2 hRG1 u0 u1 u2 u3 u4 u5 u6 u7' HD1 HD2 HOT
  by_cases hF : refE ⟨a, b, c, d, p, q, s, t⟩ lf = 0
  rotate_left
  · rw [errV_of hF]
    obtain ⟨hPO, hHX⟩ := HERR.out w2 _ HW2.out (by rw [HKD.out.1, if_neg hF]) hF
    have HPO := hidK hPO
    have HHX := hidK hHX
    obtain ⟨-, hRP, -, -⟩ := HSO.out _ HW2.out
    obtain ⟨z0, z1, zf⟩ := rowTwo hRP
    have zf0 := zf 0
    have zf1 := zf 1
    generalize refE ⟨a, b, c, d, p, q, s, t⟩ lf = kk at *
    clear hPO hHX HERR hRP zf HSO hRG2
    go_wp2_with fail
    generalize ((w2.setCell ⟨P, 0, none⟩ (.slice none 0 0)).setCell ⟨P, 1, none⟩ (.slice none 0 0)) = Z at *
    obtain ⟨y0, y1, -⟩ := rowTwo HHX.out
    exact bodyPost_ret (v := .tuple #[.agg #[.slice none 0 0, .slice none 0 0], .slice none 0 0, .int .i64 0, .iface 83 (.int .i64 kk)]) (by simp [results, Tryz.results33, go_sem, y0, y1]) rfl HPO.out
  rw [hF, errV_zero]
  have HKE : Hid (kdoE bs ss ⟨a, b, c, d, p, q, s, t⟩ = setE BM SM ⟨a, b, c, d, p, q, s, t⟩ lf) := by show _ = _; rw [HKD.out.1, if_pos hF]
  have HSE := hidK (settle_any v1 v2 m1 m2 k1 k2 BM SM a b c d p q s t lf V.heap.size w2 HE1.out HE2.out HW2.out.size)
  obtain ⟨-, -, -, cel⟩ := HSO.out w2 HW2.out
  have u0 := cel 0
  have u1 := cel 1
  have u2 := cel 2
  have u3 := cel 3
  have u4 := cel 4
  have u5 := cel 5
  have u6 := cel 6
  have u7' := cel 7
  simp only [List.getElem?_toArray, List.getElem?_cons_zero, List.getElem?_cons_succ] at u0 u1 u2 u3 u4 u5 u6 u7'
  obtain ⟨g0, g1, -⟩ := rowTwo hRG2
  clear cel hRG2 hF HE1 HE2
  go_wp2_with fail
  refine HSE.out.mono ?_
  rintro e w3 ⟨j1, j2, b3⟩
  have HW3 := hidK (HW2.out.trans (b3.mono HW2.out.size))
  have HOT3 := hidK (OwnM.below HOT2.out b3)
  clear b3 u0 u1 u2 u3 u4 u5 u6 u7' g0 g1 HSE HOT2
  by_cases hS : setE BM SM ⟨a, b, c, d, p, q, s, t⟩ lf = 0
  rotate_left
  · obtain ⟨x1, x2, y1, y2, l1, l2, rfl⟩ := j2 hS
    rw [errV_of hS]
    have hBa : Below w3.heap.size w3 (w3.alloc (.cells #[.slice x1 y1 l1, .slice x2 y2 l2] 24)) := (Below.refl _ _).alloc (Nat.le_refl _) _
    have HW4 := hidK (HW3.out.trans (hBa.mono HW3.out.size))
    obtain ⟨hPO, hHX⟩ := HERR.out _ _ HW4.out HKE.out hS
    have HPO := hidK hPO
    have HHX := hidK hHX
    obtain ⟨-, hRP, -, -⟩ := HSO.out _ HW4.out
    obtain ⟨z0, z1, zf⟩ := rowTwo hRP
    have zf0 := zf 0
    have zf1 := zf 1
    generalize setE BM SM ⟨a, b, c, d, p, q, s, t⟩ lf = kk at *
    clear hPO hHX HERR hRP zf HSO j1 j2 hBa
    go_upto_region 8 with fail
    generalize w3.alloc (.cells #[.slice x1 y1 l1, .slice x2 y2 l2] 24) = W4 at *
    go_wp2_with fail
    generalize ((W4.setCell ⟨P, 0, none⟩ (.slice none 0 0)).setCell ⟨P, 1, none⟩ (.slice none 0 0)) = Z at *
    obtain ⟨y0, y1, -⟩ := rowTwo HHX.out
    exact bodyPost_ret (v := .tuple #[.agg #[.slice none 0 0, .slice none 0 0], .slice none 0 0, .int .i64 0, .iface 83 (.int .i64 kk)]) (by simp [results, Tryz.results33, go_sem, y0, y1]) rfl HPO.out
  obtain ⟨x1, x2, y1, y2, l1, l2, rfl, F1, F2⟩ := j1 hS
  have hBa : Below w3.heap.size w3 (w3.alloc (.cells #[.slice x1 y1 l1, .slice x2 y2 l2] 24)) := (Below.refl _ _).alloc (Nat.le_refl _) _
  have HW4 := hidK (HW3.out.trans (hBa.mono HW3.out.size))
  have hRG3 : (w3.alloc (.cells #[.slice x1 y1 l1, .slice x2 y2 l2] 24)).heap[w3.heap.size]? = some (.cells #[.slice x1 y1 l1, .slice x2 y2 l2] 24 (0, 0)) := heap_alloc_new w3 _
  have HF1 := hidK (F1.below hBa)
  have HF2 := hidK (F2.below hBa)
  have HOT4 := hidK (OwnM.below HOT3.out hBa)
  clear hBa F1 F2 HOT3 j1 j2
  go_upto_region 8 with fail
  generalize w3.alloc (.cells #[.slice x1 y1 l1, .slice x2 y2 l2] 24) = W4 at *
  generalize w3.heap.size = G3 at *
  obtain ⟨hw4, hRP, -, -⟩ := HSO.out _ HW4.out
  obtain ⟨z0, z1, zf⟩ := rowTwo hRP
  have zf0 := zf 0
  have zf1 := zf 1
  obtain ⟨g0, g1, -⟩ := rowTwo hRG3
  have HHX := hidK (setTwo hRP (.slice x1 y1 l1) (.slice x2 y2 l2))
  have hgg := grTwo W4 P (.slice x1 y1 l1) (.slice x2 y2 l2)
  have hsw : w.heap.size ≤ V.heap.size := by have := HP.out; omega
  have hPV : P < V.heap.size := HP.out.2.2.2
  have HPO : Hid (KDPost bs ss ⟨a, b, c, d, p, q, s, t⟩ w (.returned (.tuple #[.agg #[.slice x1 y1 l1, .slice x2 y2 l2], .slice tq TT.length tc, .int .i64 (setG ⟨a, b, c, d, p, q, s, t⟩ lf), .nilIface])) ((W4.setCell ⟨P, 0, none⟩ (.slice x1 y1 l1)).setCell ⟨P, 1, none⟩ (.slice x2 y2 l2))) := by
    obtain ⟨e1, e2, e3, e4⟩ := HKD.out
    refine ⟨fun _ => ⟨_, _, _, _, _, _, _, by rw [e4], ?_, ?_, ?_⟩, fun h => absurd (HKE.out.trans hS) h, hw4.grown hgg hw4.size (fun k hk => by cases hk; have := HP.out.1; omega)⟩
    · rw [e2]; exact (HF1.out.other hgg hPV).mono hsw
    · rw [e3]; exact (HF2.out.other hgg hPV).mono hsw
    · rw [HTT.out]; exact OwnM.mono (kept_of HOT4.out hgg (fun z hz e => by cases e; have := (OwnM.lt HOT4.out P hz).1; omega)) hsw
  generalize setG ⟨a, b, c, d, p, q, s, t⟩ lf = GG at *
  generalize TT.length = tl at *
  clear zf hgg hRP hRG3 hw4 HSO HERR HKD HKE hS HOT4 HF1 HF2 hsw hPV
  go_wp2_with fail
  generalize ((W4.setCell ⟨P, 0, none⟩ (.slice x1 y1 l1)).setCell ⟨P, 1, none⟩ (.slice x2 y2 l2)) = Z at *
  obtain ⟨y0, y1, -⟩ := rowTwo HHX.out
  exact bodyPost_ret (v := .tuple #[.agg #[.slice x1 _ l1, .slice x2 _ l2], .slice tq tl tc, .int .i64 GG, .nilIface]) (by simp [results, Tryz.results33, go_sem, y0, y1]) rfl HPO.out
end Go.Proofs.YtpbbgbjgndikdaaGreatDoor.kin
