/- Plain facts: who wakes at a price, and in which order; an insertion sort is a stable one. -/
import Derived.Test.YtcfeailakljpnaaDoorWakFind
namespace Go.Proofs.YtcfeailakljpnaaDoor.wak
open Go.Proofs.YtcfeailakljpnaaDoor.ord Go.Sort

section
variable {α : Type} (lt : α → α → Bool)
/-- One more, into a row that stands backwards. -/
def insR (x : α) : List α → List α
  | [] => [x]
  | y :: t => if lt x y = true then y :: insR x t else x :: y :: t
def isort (l : List α) : List α := (l.foldl (fun a x => insR lt x a) []).reverse

theorem insR_len (x : α) (l : List α) : (insR lt x l).length = l.length + 1 := by
  induction l with
  | nil => rfl
  | cons y t ih =>
    unfold insR
    split
    · simp [ih]
    · simp
theorem insR_perm (x : α) (l : List α) : (insR lt x l).Perm (x :: l) := by
  induction l with
  | nil => exact List.Perm.refl _
  | cons y t ih =>
    unfold insR
    split
    · exact (ih.cons y).trans (List.Perm.swap x y t)
    · exact List.Perm.refl _
theorem fold_perm (q acc : List α) : (q.foldl (fun a x => insR lt x a) acc).Perm (acc ++ q) := by
  induction q generalizing acc with
  | nil => simp
  | cons x q ih =>
    rw [List.foldl_cons]
    refine (ih _).trans ?_
    refine ((insR_perm lt x acc).append_right q).trans ?_
    exact List.perm_middle.symm
theorem isort_perm (l : List α) : (isort lt l).Perm l := by
  unfold isort
  refine (List.reverse_perm _).trans ?_
  simpa using fold_perm lt l []
theorem isort_len (l : List α) : (isort lt l).length = l.length := (isort_perm lt l).length_eq

section
variable [Inhabited α]
theorem get_at (p : List α) (y : α) (q : List α) : (p ++ y :: q).toArray[p.length]! = y := by simp
theorem get_next (p : List α) (y x : α) (q : List α) : (p ++ y :: x :: q).toArray[p.length + 1]! = x := by
  simp
theorem swp_list (p : List α) (y x : α) (q : List α) : swp (p ++ y :: x :: q).toArray (p.length + 1) p.length = (p ++ x :: y :: q).toArray := by
  unfold swp
  rw [get_at, get_next]
  apply Array.toList_inj.1
  simp only [Array.toList_setIfInBounds]
  rw [List.set_append_right _ _ (by omega), List.set_append_right _ _ (by omega)]
  simp
theorem inner_list (acc : List α) (x : α) (q : List α) : insInner lt 0 acc.length (acc.reverse ++ x :: q).toArray = ((insR lt x acc).reverse ++ q).toArray := by
  induction acc generalizing q with
  | nil => simp [insInner, insR]
  | cons y t ih =>
    have e : ((y :: t).reverse ++ x :: q) = t.reverse ++ y :: x :: q := by simp
    rw [e, List.length_cons]
    unfold insInner
    have h1 := get_next t.reverse y x q
    have h2 := get_at t.reverse y (x :: q)
    have h3 := swp_list t.reverse y x q
    rw [List.length_reverse] at h1 h2 h3
    rw [h1, h2, h3]
    unfold insR
    by_cases h : lt x y = true
    · have hd : (decide (t.length + 1 > 0) && lt x y) = true := by simp [h]
      rw [if_pos hd, if_pos h, ih]
      simp
    · have hd : ¬ (decide (t.length + 1 > 0) && lt x y) = true := by simpa using h
      rw [if_neg hd, if_neg h]
      simp
theorem outer_list (q acc : List α) : insOuter lt 0 (acc.length + q.length) acc.length (acc.reverse ++ q).toArray = ((q.foldl (fun a x => insR lt x a) acc).reverse).toArray := by
  induction q generalizing acc with
  | nil => unfold insOuter; simp
  | cons x q ih =>
    unfold insOuter
    rw [if_pos (by simp), inner_list, List.foldl_cons]
    have := ih (insR lt x acc)
    rw [insR_len] at this
    rw [List.length_cons, show acc.length + (q.length + 1) = acc.length + 1 + q.length by omega]
    exact this
theorem sort_list (l : List α) : insertionSort lt l.toArray 0 l.length = (isort lt l).toArray := by
  unfold insertionSort isort
  cases l with
  | nil => unfold insOuter; simp
  | cons x q =>
    have := outer_list lt q [x]
    simp only [List.length_cons, List.length_nil, Nat.zero_add, List.reverse_cons, List.reverse_nil, List.nil_append, List.cons_append] at this
    rw [List.foldl_cons, List.length_cons, show q.length + 1 = 1 + q.length by omega]
    exact this

end
/-- Ahead, or as much and ahead by another order. -/
def Rr (T : α → α → Prop) (x y : α) : Prop := lt x y = true ∨ (lt y x = false ∧ T x y)
variable {lt}
theorem insR_pw (hlt : SWO lt) (T : α → α → Prop) (x : α) (acc : List α) (h : acc.Pairwise (fun a b => Rr lt T b a)) (hT : ∀ y ∈ acc, T y x) : (insR lt x acc).Pairwise (fun a b => Rr lt T b a) := by
  induction acc with
  | nil => simp [insR]
  | cons y t ih =>
    rw [List.pairwise_cons] at h
    unfold insR
    by_cases hl : lt x y = true
    · rw [if_pos hl, List.pairwise_cons]
      refine ⟨fun z hz => ?_, ih h.2 (fun z hz => hT z (List.mem_cons_of_mem _ hz))⟩
      rcases List.mem_cons.1 ((insR_perm lt x t).mem_iff.1 hz) with rfl | hz
      · exact .inl hl
      · exact h.1 z hz
    · rw [if_neg hl, List.pairwise_cons]
      have hf : lt x y = false := by simpa using hl
      refine ⟨fun z hz => ?_, List.pairwise_cons.2 h⟩
      rcases List.mem_cons.1 hz with rfl | hz'
      · exact .inr ⟨hf, hT _ List.mem_cons_self⟩
      · refine .inr ⟨?_, hT z hz⟩
        rcases h.1 z hz' with h1 | ⟨h1, -⟩
        · cases hxz : lt x z with
          | false => rfl
          | true => have := hlt.trans x z y hxz h1; rw [hf] at this; cases this
        · exact hlt.ntrans x y z hf h1
theorem fold_pw (hlt : SWO lt) (T : α → α → Prop) (q acc : List α) (h : acc.Pairwise (fun a b => Rr lt T b a)) (hq : q.Pairwise T) (hT : ∀ y ∈ acc, ∀ x ∈ q, T y x) : (q.foldl (fun a x => insR lt x a) acc).Pairwise (fun a b => Rr lt T b a) := by
  induction q generalizing acc with
  | nil => exact h
  | cons x q ih =>
    rw [List.pairwise_cons] at hq
    rw [List.foldl_cons]
    refine ih _ (insR_pw hlt T x acc h (fun y hy => hT y hy x List.mem_cons_self)) hq.2 fun y hy z hz => ?_
    rcases List.mem_cons.1 ((insR_perm lt x acc).mem_iff.1 hy) with rfl | hy
    · exact hq.1 z hz
    · exact hT y hy z (List.mem_cons_of_mem _ hz)
theorem isort_pw (hlt : SWO lt) (T : α → α → Prop) (l : List α) (h : l.Pairwise T) : (isort lt l).Pairwise (Rr lt T) := by
  unfold isort
  rw [List.pairwise_reverse]
  exact fold_pw hlt T l [] List.Pairwise.nil h (fun y hy => by cases hy)
end

/-- The comparison of those that woke. -/
def cf (a b : O) : Int := if a.side = b.side then (if a.side = 1 then Lib.compareInt a.stop b.stop else Lib.compareInt b.stop a.stop) else Lib.compareInt a.side b.side
theorem cmp_lt (x y : Int) : Lib.compareInt x y < 0 ↔ x < y := by unfold Lib.compareInt; split <;> (try split) <;> omega
theorem lt_iff (a b : O) : ltOf cf a b = true ↔ (a.side < b.side ∨ (a.side = b.side ∧ ((a.side = 1 ∧ a.stop < b.stop) ∨ (a.side ≠ 1 ∧ b.stop < a.stop)))) := by
  unfold ltOf cf
  rw [decide_eq_true_iff]
  by_cases h : a.side = b.side
  · rw [if_pos h]
    by_cases h1 : a.side = 1
    · rw [if_pos h1, cmp_lt]; omega
    · rw [if_neg h1, cmp_lt]; omega
  · rw [if_neg h, cmp_lt]; omega
theorem lt_no (a b : O) : ltOf cf a b = false ↔ ¬ (a.side < b.side ∨ (a.side = b.side ∧ ((a.side = 1 ∧ a.stop < b.stop) ∨ (a.side ≠ 1 ∧ b.stop < a.stop)))) := by
  rw [← lt_iff]; simp
theorem cf_swo : SWO (ltOf cf) := by
  refine ⟨fun x => ?_, fun x y z h1 h2 => ?_, fun x y z h1 h2 => ?_⟩
  · rw [lt_no]; omega
  · rw [lt_iff] at *; omega
  · rw [lt_no] at *; omega

/-- Who wakes at a price. -/
def wkB (p : Int) (o : O) : Bool := if o.side = 1 then decide (o.stop ≤ p) else decide (p ≤ o.stop)
def zst (o : O) : O := { o with stop := 0 }
def srt (p : Int) (os : List O) : List O := isort (ltOf cf) (os.filter (wkB p))
def woke (p : Int) (os : List O) : List O := (srt p os).map zst
def left (p : Int) (os : List O) : List O := os.filter (fun o => !wkB p o)
theorem srt_len (p : Int) (os : List O) : (srt p os).length = (os.filter (wkB p)).length := isort_len _ _
theorem woke_len (p : Int) (os : List O) : (woke p os).length = (os.filter (wkB p)).length := by unfold woke; rw [List.length_map, srt_len]
theorem part_len (p : Int) (os : List O) : (woke p os).length + (left p os).length = os.length := by
  rw [woke_len, left]
  induction os with
  | nil => rfl
  | cons o t ih =>
    cases h : wkB p o
    · rw [List.filter_cons_of_neg (by simp [h]), List.filter_cons_of_pos (by simp [h]), List.length_cons, List.length_cons]; omega
    · rw [List.filter_cons_of_pos (by simp [h]), List.filter_cons_of_neg (by simp [h]), List.length_cons, List.length_cons]; omega
end Go.Proofs.YtcfeailakljpnaaDoor.wak
