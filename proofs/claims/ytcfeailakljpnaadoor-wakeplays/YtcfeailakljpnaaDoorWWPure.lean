/- Plain facts: who sleeps lightest, taken out one by one, come as they are sorted. -/
import Derived.Test.YtcfeailakljpnaaDoorWakRef
namespace Go.Proofs.YtcfeailakljpnaaDoor.wak
open Go.Proofs.YtcfeailakljpnaaDoor.ord Go.Sort

theorem perm_unique {α : Type} {R : α → α → Prop} : ∀ (l1 l2 : List α), l1.Perm l2 → l1.Pairwise R → l2.Pairwise R → (∀ x ∈ l1, ∀ y ∈ l1, R x y → R y x → x = y) → l1 = l2
  | [], l2, hp, _, _, _ => (List.Perm.eq_nil hp.symm).symm ▸ rfl
  | a :: t, [], hp, _, _, _ => absurd (List.Perm.eq_nil hp) (by simp)
  | a :: t, b :: s, hp, h1, h2, hA => by
    have hab : a = b := by
      have ha : a ∈ b :: s := hp.mem_iff.1 List.mem_cons_self
      have hb : b ∈ a :: t := hp.mem_iff.2 List.mem_cons_self
      rcases List.mem_cons.1 ha with e | ha'
      · exact e
      rcases List.mem_cons.1 hb with e | hb'
      · exact e.symm
      exact hA a List.mem_cons_self b hb ((List.pairwise_cons.1 h1).1 b hb') ((List.pairwise_cons.1 h2).1 a ha')
    subst hab
    rw [perm_unique t s (List.Perm.cons_inv hp) (List.pairwise_cons.1 h1).2 (List.pairwise_cons.1 h2).2 fun x hx y hy => hA x (List.mem_cons_of_mem _ hx) y (List.mem_cons_of_mem _ hy)]

/-- The best of the first k. -/
def BP (p : Int) (l : List O) (k : Nat) (b : Int) : Prop :=
  (b = -1 ∧ ∀ j, j < k → wkB p l[j]! = false) ∨ (∃ n : Nat, b = (n : Int) ∧ n < k ∧ wkB p l[n]! = true ∧ ∀ j, j < k → wkB p l[j]! = true → j ≠ n → (ltOf cf l[n]! l[j]! = true ∨ (ltOf cf l[j]! l[n]! = false ∧ n < j)))
theorem bp_zero (p : Int) (l : List O) : BP p l 0 (-1) := .inl ⟨rfl, fun j hj => by omega⟩
theorem bp_skip {p : Int} {l : List O} {k : Nat} {b : Int} (h : BP p l k b) (hw : wkB p l[k]! = false) : BP p l (k + 1) b := by
  rcases h with ⟨h1, h2⟩ | ⟨n, h1, h2, h3, h4⟩
  · refine .inl ⟨h1, fun j hj => ?_⟩
    by_cases e : j = k
    · rw [e]; exact hw
    · exact h2 j (by omega)
  · refine .inr ⟨n, h1, by omega, h3, fun j hj hwj hne => ?_⟩
    by_cases e : j = k
    · rw [e, hw] at hwj; cases hwj
    · exact h4 j (by omega) hwj hne
theorem bp_first {p : Int} {l : List O} {k : Nat} (h : BP p l k (-1)) (hw : wkB p l[k]! = true) : BP p l (k + 1) (k : Int) := by
  rcases h with ⟨h1, h2⟩ | ⟨n, h1, _⟩
  · refine .inr ⟨k, rfl, by omega, hw, fun j hj hwj hne => ?_⟩
    rw [h2 j (by omega)] at hwj; cases hwj
  · omega
theorem bp_less {p : Int} {l : List O} {k n : Nat} (h : BP p l k (n : Int)) (hw : wkB p l[k]! = true) (hl : ltOf cf l[k]! l[n]! = true) : BP p l (k + 1) (k : Int) := by
  rcases h with ⟨h1, _⟩ | ⟨m, h1, h2, h3, h4⟩
  · omega
  · obtain rfl : n = m := by omega
    refine .inr ⟨k, rfl, by omega, hw, fun j hj hwj hne => .inl ?_⟩
    by_cases e : j = n
    · rw [e]; exact hl
    · rcases h4 j (by omega) hwj e with h5 | ⟨h5, -⟩
      · exact cf_swo.trans _ _ _ hl h5
      · cases hc : ltOf cf l[k]! l[j]! with
        | true => rfl
        | false => have := cf_swo.ntrans _ _ _ hc h5; rw [hl] at this; cases this
theorem bp_keep {p : Int} {l : List O} {k n : Nat} (h : BP p l k (n : Int)) (hl : ltOf cf l[k]! l[n]! = false) : BP p l (k + 1) (n : Int) := by
  rcases h with ⟨h1, _⟩ | ⟨m, h1, h2, h3, h4⟩
  · omega
  · obtain rfl : n = m := by omega
    refine .inr ⟨n, rfl, by omega, h3, fun j hj hwj hne => ?_⟩
    by_cases e : j = k
    · rw [e]; exact .inr ⟨hl, h2⟩
    · exact h4 j (by omega) hwj hne
theorem bp_lt {p : Int} {l : List O} {k n : Nat} (h : BP p l k (n : Int)) : n < k := by
  rcases h with ⟨h1, _⟩ | ⟨m, h1, h2, _⟩
  · omega
  · omega
theorem bp_form {p : Int} {l : List O} {k : Nat} {b : Int} (h : BP p l k b) : b = -1 ∨ ∃ n : Nat, b = (n : Int) ∧ n < k := by
  rcases h with ⟨h1, _⟩ | ⟨m, h1, h2, _⟩
  · exact .inl h1
  · exact .inr ⟨m, h1, h2⟩

theorem idx_none' {id : Int} {zs : List O} (h : ∀ o ∈ zs, o.id ≠ id) : idx id zs < 0 := by
  induction zs with
  | nil => show (-1 : Int) < 0; omega
  | cons r t ih =>
    rw [idx_cons, if_neg (h r List.mem_cons_self), if_pos (ih fun o ho => h o (List.mem_cons_of_mem _ ho))]
    omega
theorem take_get {l : List O} {k j : Nat} (h : j < k) : (l.take k)[j]! = l[j]! := by
  by_cases hj : j < l.length
  · rw [getE _ _ (by rw [List.length_take]; omega), getE _ _ hj, List.getElem_take]
  · rw [List.take_of_length_le (by omega)]
theorem idx_self {l : List O} (h : l.Pairwise (fun a b => a.id ≠ b.id)) {i : Nat} (hi : i < l.length) : idx l[i]!.id l = (i : Int) := by
  refine idx_take hi ?_ rfl
  refine idx_none' fun o ho => ?_
  obtain ⟨j, hj, rfl⟩ := List.getElem_of_mem ho
  have hj2 : j < i := by rw [List.length_take] at hj; omega
  rw [List.getElem_take, ← getE l j (by omega)]
  exact ids_at h hj2 hi
theorem idx_pw {l : List O} (h : l.Pairwise (fun a b => a.id ≠ b.id)) : l.Pairwise (fun a b => idx a.id l < idx b.id l) := by
  rw [List.pairwise_iff_getElem]
  intro i j hi hj hij
  have h1 := idx_self h hi
  have h2 := idx_self h hj
  rw [getE _ _ hi] at h1
  rw [getE _ _ hj] at h2
  omega

/-- Without the n-th one. -/
def wo (l : List O) (n : Nat) : List O := l.take n ++ l.drop (n + 1)
theorem wo_sub (l : List O) (n : Nat) : (wo l n).Sublist l := by
  unfold wo
  conv => rhs; rw [← List.take_append_drop n l]
  exact (List.Sublist.refl _).append (by rw [List.drop_add_one_eq_tail_drop]; exact List.tail_sublist _)
theorem wo_split {l : List O} {n : Nat} (h : n < l.length) : l = l.take n ++ l[n]! :: l.drop (n + 1) := by
  rw [getE _ _ h, ← List.drop_eq_getElem_cons h, List.take_append_drop]
theorem wo_good {l : List O} (n : Nat) (h : Good l) : Good (wo l n) := by
  have hs := wo_sub l n
  exact ⟨fun o ho => h.1 o (hs.subset ho), h.2.1.sublist hs, Nat.le_trans hs.length_le h.2.2⟩
theorem wo_len {l : List O} {n : Nat} (h : n < l.length) : (wo l n).length + 1 = l.length := by
  unfold wo; rw [List.length_append, List.length_take, List.length_drop]; omega
theorem wo_filter {l : List O} {n : Nat} (p : Int) (h : n < l.length) (hw : wkB p l[n]! = true) : (l.filter (wkB p)).Perm (l[n]! :: (wo l n).filter (wkB p)) := by
  conv => lhs; rw [wo_split h]
  unfold wo
  rw [List.filter_append, List.filter_cons_of_pos hw, List.filter_append]
  exact List.perm_middle
theorem wo_left {l : List O} {n : Nat} (p : Int) (h : n < l.length) (hw : wkB p l[n]! = true) : left p (wo l n) = left p l := by
  unfold left
  conv => rhs; rw [wo_split h]
  unfold wo
  rw [List.filter_append, List.filter_append, List.filter_cons_of_neg (by rw [hw]; decide)]

/-- The best one comes first. -/
theorem srt_step {p : Int} {l : List O} {n : Nat} (hg : Good l) (h : BP p l l.length (n : Int)) : srt p l = l[n]! :: srt p (wo l n) := by
  have hn := bp_lt h
  rcases h with ⟨h1, _⟩ | ⟨m, h1, h2, h3, h4⟩
  · omega
  obtain rfl : n = m := by omega
  have hT := idx_pw hg.2.1
  have hid : ∀ x ∈ l, ∃ i, i < l.length ∧ x = l[i]! := fun x hx => by
    obtain ⟨i, hi, e⟩ := List.getElem_of_mem hx
    exact ⟨i, hi, by rw [getE _ _ hi, e]⟩
  refine perm_unique (R := Rr (ltOf cf) (fun a b => idx a.id l < idx b.id l)) _ _ ?_ ?_ ?_ ?_
  · refine (isort_perm _ _).trans ((wo_filter p hn h3).trans ?_)
    exact List.Perm.cons _ (isort_perm _ _).symm
  · exact isort_pw cf_swo _ _ (hT.filter _)
  · rw [List.pairwise_cons]
    refine ⟨fun y hy => ?_, isort_pw cf_swo _ _ ((hT.sublist (wo_sub l n)).filter _)⟩
    obtain ⟨hy1, hy2⟩ := srt_mem hy
    obtain ⟨j, hj, rfl⟩ := hid y ((wo_sub l n).subset hy1)
    have hne : j ≠ n := fun e => by
      subst e
      unfold wo at hy1
      have hp := hg.2.1
      rw [wo_split hn] at hp
      rw [List.pairwise_append, List.pairwise_cons] at hp
      rcases List.mem_append.1 hy1 with hm | hm
      · exact hp.2.2 _ hm _ List.mem_cons_self rfl
      · exact hp.2.1.1 _ hm rfl
    rcases h4 j hj hy2 hne with h5 | ⟨h5, h6⟩
    · exact .inl h5
    · refine .inr ⟨h5, ?_⟩
      show idx l[n]!.id l < idx l[j]!.id l
      rw [idx_self hg.2.1 hn, idx_self hg.2.1 hj]
      omega
  · intro x hx y hy h5 h6
    obtain ⟨i, hi, rfl⟩ := hid x (srt_mem hx).1
    obtain ⟨j, hj, rfl⟩ := hid y (srt_mem hy).1
    rcases h5 with h5 | ⟨h5, h5'⟩
    · rcases h6 with h6 | ⟨h6, -⟩
      · have := cf_swo.trans _ _ _ h5 h6
        rw [cf_swo.irrefl] at this; cases this
      · rw [h5] at h6; cases h6
    · rcases h6 with h6 | ⟨-, h6'⟩
      · rw [h6] at h5; cases h5
      · have h7 : idx l[i]!.id l < idx l[j]!.id l := h5'
        have h8 : idx l[j]!.id l < idx l[i]!.id l := h6'
        omega
theorem woke_step {p : Int} {l : List O} {n : Nat} (hg : Good l) (h : BP p l l.length (n : Int)) : woke p l = zst l[n]! :: woke p (wo l n) := by
  unfold woke; rw [srt_step hg h]; rfl
theorem bp_wk {p : Int} {l : List O} {k n : Nat} (h : BP p l k (n : Int)) : wkB p l[n]! = true := by
  rcases h with ⟨h1, _⟩ | ⟨m, h1, h2, h3, h4⟩
  · omega
  · obtain rfl : n = m := by omega
    exact h3
theorem bp_none {p : Int} {l : List O} (h : BP p l l.length (-1)) : woke p l = [] ∧ left p l = l := by
  rcases h with ⟨_, h2⟩ | ⟨n, h1, _⟩
  · have hw : ∀ o ∈ l, wkB p o = false := fun o ho => by
      obtain ⟨i, hi, e⟩ := List.getElem_of_mem ho
      rw [← e, ← getE l i hi]; exact h2 i hi
    refine ⟨?_, ?_⟩
    · unfold woke srt
      rw [List.filter_eq_nil_iff.2 (fun o ho => by rw [hw o ho]; decide)]
      rfl
    · unfold left
      exact List.filter_eq_self.2 fun o ho => by rw [hw o ho]; rfl
  · omega
end Go.Proofs.YtcfeailakljpnaaDoor.wak
