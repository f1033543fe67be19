/- Plain facts, no program: what is taken of a queue. -/
import Derived.Test.YtgadjgnmhldfmaaDoorQuePure
namespace Go.Proofs.YtgadjgnmhldfmaaDoor.que

theorem good_tail {r : R} {t : List R} (h : Good (r :: t)) : Good t := ⟨fun x hx => h.1 x (by simp [hx]), by have := h.2; simp at this; simpa using this.2⟩
theorem good_swap {r r' : R} {t : List R} (h : Good (r :: t)) (hi : r'.id = r.id) (hr : rchk r' = 0) : Good (r' :: t) := by
  refine ⟨?_, ?_⟩
  · intro x hx
    rcases List.mem_cons.1 hx with rfl | hx
    · exact hr
    · exact h.1 x (by simp [hx])
  · have := h.2
    rw [List.map_cons] at this ⊢
    rw [hi]; exact this
theorem good_back {r : R} {t : List R} (h : Good (r :: t)) : Good (t ++ [r]) := by
  refine ⟨?_, ?_⟩
  · intro x hx
    rcases List.mem_append.1 hx with hx | hx
    · exact h.1 x (by simp [hx])
    · rw [List.mem_singleton] at hx; rw [hx]; exact h.1 r (by simp)
  · have := h.2
    rw [List.map_cons, List.nodup_cons] at this
    rw [List.map_append, List.nodup_append]
    refine ⟨this.2, by simp, ?_⟩
    intro a ha b hb e
    simp at hb
    rw [e, hb] at ha
    exact this.1 ha

theorem tot_append (a b : List R) : tot (a ++ b) = tot a + tot b := by
  induction a with
  | nil => simp [tot]
  | cons r t ih => rw [List.cons_append]; simp only [tot]; rw [ih]; omega

theorem tk1_good {k : Int} {r : R} {t : List R} (h : Good (r :: t)) (h1 : 1 ≤ k) (h2 : k ≤ r.qty) : Good (tk1 k r t) ∧ tot (tk1 k r t) = tot (r :: t) - k ∧ (tk1 k r t).length ≤ (r :: t).length := by
  obtain ⟨a1, a2, a3, a4, a5, a6, a7⟩ := rchk_zero (h.1 r (by simp))
  unfold tk1
  by_cases c1 : k < r.qty
  · rw [if_pos c1]
    refine ⟨good_swap h rfl (rchk_of ⟨⟨?_, ?_⟩, a2, a3, a4, ?_, a6, a7⟩), ?_, ?_⟩
    · show 1 ≤ r.qty - k; omega
    · show r.qty - k ≤ 10000; omega
    · intro e; show r.qty - k ≤ r.shw; have := a5 e; omega
    · simp only [tot]; omega
    · simp
  · rw [if_neg c1]
    have e : k = r.qty := by omega
    by_cases c2 : r.hid = 0
    · rw [if_pos c2]
      refine ⟨good_tail h, ?_, by simp⟩
      simp only [tot]; omega
    · rw [if_neg c2]
      have s1 : 1 ≤ r.shw := by
        by_cases e0 : r.shw = 0
        · exact absurd (a4 e0) c2
        · omega
      have g : Good ({ r with qty := min r.shw r.hid, hid := r.hid - min r.shw r.hid } :: t) := by
        refine good_swap h rfl (rchk_of ⟨⟨?_, ?_⟩, ⟨?_, ?_⟩, a3, ?_, ?_, a6, a7⟩)
        · show 1 ≤ min r.shw r.hid; omega
        · show min r.shw r.hid ≤ 10000; omega
        · show 0 ≤ r.hid - min r.shw r.hid; omega
        · show r.hid - min r.shw r.hid ≤ 10000; omega
        · intro e0; have e1 : r.shw = 0 := e0; omega
        · intro _; show min r.shw r.hid ≤ r.shw; omega
      refine ⟨good_back g, ?_, by simp⟩
      rw [tot_append]; simp only [tot]; omega

theorem tk_done (f : Nat) (n : Int) (zs : List R) (h : n ≤ 0) : tk f n zs = ([], zs) := by
  cases f with
  | zero => rfl
  | succ f =>
    cases zs with
    | nil => rfl
    | cons r t => show (if n ≤ 0 then _ else _) = _; rw [if_pos h]
theorem tk_nil (f : Nat) (n : Int) : tk f n [] = ([], []) := by cases f <;> rfl
theorem tk_step (f : Nat) (n : Int) (r : R) (t : List R) (h : 0 < n) : tk (f + 1) n (r :: t) =
    (⟨r.id, r.who, min n r.qty⟩ :: (tk f (n - min n r.qty) (tk1 (min n r.qty) r t)).1, (tk f (n - min n r.qty) (tk1 (min n r.qty) r t)).2) := by
  show (if n ≤ 0 then _ else _) = _; rw [if_neg (by omega)]

theorem tk_fuel (f : Nat) : ∀ (g : Nat) (n : Int) (zs : List R), n ≤ f → n ≤ g → Good zs → tk f n zs = tk g n zs := by
  induction f with
  | zero => intro g n zs h1 _ _; rw [tk_done _ _ _ (by omega), tk_done _ _ _ (by omega)]
  | succ f ih =>
    intro g n zs h1 h2 hg
    by_cases h : n ≤ 0
    · rw [tk_done _ _ _ h, tk_done _ _ _ h]
    cases zs with
    | nil => rw [tk_nil, tk_nil]
    | cons r t =>
      obtain ⟨g, rfl⟩ : ∃ g', g = g' + 1 := ⟨g - 1, by omega⟩
      have hq := (rchk_zero (hg.1 r (by simp))).1
      rw [tk_step f n r t (by omega), tk_step g n r t (by omega), ih g _ _ (by omega) (by omega) (tk1_good hg (by omega) (by omega)).1]

theorem take_done (n : Int) (zs : List R) (h : n ≤ 0) : take n zs = ([], zs) := tk_done _ _ _ h
theorem take_nil (n : Int) : take n [] = ([], []) := tk_nil _ _
theorem take_cons (n : Int) (r : R) (t : List R) (h : 0 < n) (hg : Good (r :: t)) : take n (r :: t) =
    (⟨r.id, r.who, min n r.qty⟩ :: (take (n - min n r.qty) (tk1 (min n r.qty) r t)).1, (take (n - min n r.qty) (tk1 (min n r.qty) r t)).2) := by
  have hq := (rchk_zero (hg.1 r (by simp))).1
  have e : take n (r :: t) = tk (n.toNat - 1 + 1) n (r :: t) := by unfold take; rw [show n.toNat - 1 + 1 = n.toNat by omega]
  rw [e, tk_step _ _ _ _ h]
  have e2 := tk_fuel (n.toNat - 1) (n - min n r.qty).toNat (n - min n r.qty) _ (by omega) (by omega) (tk1_good hg (show 1 ≤ min n r.qty by omega) (by omega)).1
  rw [e2]; rfl

/-- What is taken, all together. -/
def sum : List F → Int
  | [] => 0
  | f :: t => f.qty + sum t

theorem take_facts (m : Nat) : ∀ (n : Int) (zs : List R), n ≤ m → Good zs → 0 ≤ n →
    Good (take n zs).2 ∧ (take n zs).2.length ≤ zs.length ∧ sum (take n zs).1 + tot (take n zs).2 = tot zs ∧ sum (take n zs).1 ≤ n ∧ (∀ f ∈ (take n zs).1, 1 ≤ f.qty ∧ f.qty ≤ n) ∧
    (sum (take n zs).1 < n → (take n zs).2 = []) ∧ (take n zs).1.length ≤ n.toNat ∧ 0 ≤ sum (take n zs).1 := by
  induction m with
  | zero =>
    intro n zs h hg h0
    rw [take_done _ _ (by omega)]
    exact ⟨hg, Nat.le_refl _, by simp [sum], by simp [sum]; omega, by simp, by simp [sum]; omega, by simp, by simp [sum]⟩
  | succ m ih =>
    intro n zs h hg h0
    by_cases hn : n ≤ 0
    · rw [take_done _ _ (by omega)]
      exact ⟨hg, Nat.le_refl _, by simp [sum], by simp [sum]; omega, by simp, by simp [sum]; omega, by simp, by simp [sum]⟩
    cases zs with
    | nil =>
      rw [take_nil]
      exact ⟨hg, Nat.le_refl _, by simp [sum], by simp [sum]; omega, by simp, by simp, by simp, by simp [sum]⟩
    | cons r t =>
      have hq := (rchk_zero (hg.1 r (by simp))).1
      obtain ⟨g1, g2, g3⟩ := tk1_good hg (show 1 ≤ min n r.qty by omega) (by omega)
      obtain ⟨i1, i2, i3, i4, i5, i6, i7, i8⟩ := ih (n - min n r.qty) _ (by omega) g1 (by omega)
      rw [take_cons n r t (by omega) hg]
      refine ⟨i1, Nat.le_trans i2 g3, ?_, ?_, ?_, ?_, ?_, ?_⟩
      · simp only [sum]; omega
      · simp only [sum]; omega
      · intro f hf
        rcases List.mem_cons.1 hf with rfl | hf
        · show 1 ≤ min n r.qty ∧ min n r.qty ≤ n; omega
        · have := i5 f hf; omega
      · simp only [sum]; intro hs; exact i6 (by omega)
      · simp only [List.length_cons]; omega
      · simp only [sum]; omega

/-- Taken in two goes it comes to the same. -/
theorem take_two (m : Nat) : ∀ (c d : Int) (zs : List R), c ≤ m → 0 ≤ c → 0 ≤ d → Good zs → (take d (take c zs).2).2 = (take (c + d) zs).2 := by
  induction m with
  | zero =>
    intro c d zs h1 h2 _ _
    have : c = 0 := by omega
    rw [take_done c _ (by omega), this, Int.zero_add]
  | succ m ih =>
    intro c d zs h1 h2 h3 hg
    by_cases hc : c ≤ 0
    · have : c = 0 := by omega
      rw [take_done c _ (by omega), this, Int.zero_add]
    by_cases hd : d ≤ 0
    · have : d = 0 := by omega
      rw [take_done d _ (by omega), this, Int.add_zero]
    cases zs with
    | nil => rw [take_nil, take_nil, take_nil]
    | cons r t =>
      have hq := (rchk_zero (hg.1 r (by simp))).1
      have g1 := (tk1_good hg (show 1 ≤ min c r.qty by omega) (by omega)).1
      rw [take_cons c r t (by omega) hg, take_cons (c + d) r t (by omega) hg]
      by_cases hl : c < r.qty
      · have e1 : min c r.qty = c := by omega
        have e2 : tk1 c r t = { r with qty := r.qty - c } :: t := by unfold tk1; rw [if_pos hl]
        rw [e1, e2] at g1 ⊢
        rw [take_done (c - c) _ (by omega)]
        rw [take_cons d _ t (by omega) g1]
        show (take (d - min d (r.qty - c)) (tk1 (min d (r.qty - c)) { r with qty := r.qty - c } t)).2 = _
        have e3 : min (c + d) r.qty = c + min d (r.qty - c) := by omega
        have e4 : tk1 (min d (r.qty - c)) { r with qty := r.qty - c } t = tk1 (c + min d (r.qty - c)) r t := by
          obtain ⟨ri, rw_, rq, rh, rs⟩ := r
          show (if min d (rq - c) < rq - c then _ else _) = (if c + min d (rq - c) < rq then _ else _)
          by_cases h5 : min d (rq - c) < rq - c
          · rw [if_pos h5, if_pos (by omega)]
            show (⟨ri, rw_, rq - c - min d (rq - c), rh, rs⟩ : R) :: t = ⟨ri, rw_, rq - (c + min d (rq - c)), rh, rs⟩ :: t
            rw [show rq - c - min d (rq - c) = rq - (c + min d (rq - c)) by omega]
          · have hl2 : c < rq := hl
            rw [if_neg h5, if_neg (show ¬ (c + min d (rq - c) < rq) by omega)]
        rw [e4, e3]
        have e5 : d - min d (r.qty - c) = c + d - (c + min d (r.qty - c)) := by omega
        rw [e5]
      · have e1 : min c r.qty = r.qty := by omega
        have e2 : min (c + d) r.qty = r.qty := by omega
        rw [e1] at g1
        rw [e1, e2, ih (c - r.qty) d _ (by omega) (by omega) h3 g1]
        have : c - r.qty + d = c + d - r.qty := by omega
        rw [this]

theorem tot_le (zs : List R) (h : ∀ r ∈ zs, rchk r = 0) : 0 ≤ tot zs ∧ tot zs ≤ 20000 * (zs.length : Int) := by
  induction zs with
  | nil => simp [tot]
  | cons r t ih =>
    obtain ⟨i1, i2⟩ := ih (fun x hx => h x (by simp [hx]))
    obtain ⟨a1, a2, _⟩ := rchk_zero (h r (by simp))
    simp only [tot, List.length_cons]
    omega

end Go.Proofs.YtgadjgnmhldfmaaDoor.que
