/- Plain facts, no program: a queue of rests, what is wrong with one, and what is taken of it. Plain facts, no program: what is taken of a queue. -/
import Derived.Test.YtnjpjieedgmffaaProg
namespace Go.Proofs.Ytnjpjieedgmffaa.que

/-- A rest. -/
structure R where
  id : Int
  who : Int
  qty : Int
  hid : Int
  shw : Int
deriving DecidableEq, Inhabited
/-- A fill. -/
structure F where
  id : Int
  who : Int
  qty : Int
deriving DecidableEq, Inhabited

def inB (n lo hi : Int) : Bool := decide (lo ≤ n) && decide (n ≤ hi)
def rangeB (r : R) : Bool := inB r.id 1 9999 && inB r.who 1 9 && inB r.qty 1 10000 && inB r.hid 0 10000 && inB r.shw 0 10000
def shapeB (r : R) : Bool := (!(decide (r.shw = 0) && !decide (r.hid = 0))) && (!((!decide (r.shw = 0)) && decide (r.shw < r.qty)))
def rchk (r : R) : Int := if rangeB r = true then (if shapeB r = true then 0 else 3) else 1

/-- Where an id stands, -1 if nowhere. -/
def idx (id : Int) : List R → Int
  | [] => -1
  | r :: t => if r.id = id then 0 else if idx id t < 0 then -1 else idx id t + 1
def has (id : Int) (zs : List R) : Bool := zs.any (fun r => decide (r.id = id))

/-- What is wrong with one behind others. -/
def bchk (ahead : List R) (r : R) : Int := if rchk r = 0 then (if has r.id ahead = true then 7 else 0) else rchk r
def qgo (ahead : List R) : List R → Int
  | [] => 0
  | r :: t => if bchk ahead r = 0 then qgo (ahead ++ [r]) t else bchk ahead r
def qchk (zs : List R) : Int := if 60 < zs.length then 4 else qgo [] zs

def tot : List R → Int
  | [] => 0
  | r :: t => r.qty + r.hid + tot t

/-- What is left behind so much is taken of the first one. -/
def tk1 (k : Int) (r : R) (t : List R) : List R :=
  if k < r.qty then { r with qty := r.qty - k } :: t
  else if r.hid = 0 then t
  else t ++ [{ r with qty := min r.shw r.hid, hid := r.hid - min r.shw r.hid }]
def tk : Nat → Int → List R → List F × List R
  | 0, _, zs => ([], zs)
  | _ + 1, _, [] => ([], [])
  | f + 1, n, r :: t => if n ≤ 0 then ([], r :: t) else
      (⟨r.id, r.who, min n r.qty⟩ :: (tk f (n - min n r.qty) (tk1 (min n r.qty) r t)).1, (tk f (n - min n r.qty) (tk1 (min n r.qty) r t)).2)
def take (n : Int) (zs : List R) : List F × List R := tk n.toNat n zs

theorem idx_ge (id : Int) (zs : List R) : -1 ≤ idx id zs := by
  induction zs with
  | nil => simp [idx]
  | cons r t ih => unfold idx; split; omega; split <;> omega
theorem idx_lt (id : Int) (zs : List R) : idx id zs < zs.length := by
  induction zs with
  | nil => simp [idx]
  | cons r t ih => unfold idx; rw [List.length_cons]; split; omega; split <;> omega
theorem idx_cons (id : Int) (r : R) (t : List R) : idx id (r :: t) = if r.id = id then 0 else if idx id t < 0 then -1 else idx id t + 1 := rfl
theorem has_idx (id : Int) (zs : List R) : has id zs = decide (0 ≤ idx id zs) := by
  induction zs with
  | nil => rfl
  | cons r t ih =>
    have e : has id (r :: t) = (decide (r.id = id) || has id t) := rfl
    have := idx_ge id t
    rw [e, ih, idx_cons]
    by_cases h : r.id = id
    · rw [if_pos h, decide_eq_true h]; rfl
    · rw [if_neg h, decide_eq_false h, Bool.false_or]
      by_cases h2 : idx id t < 0
      · rw [if_pos h2, decide_eq_false (by omega)]; rfl
      · rw [if_neg h2, decide_eq_true (show 0 ≤ idx id t by omega), decide_eq_true (show 0 ≤ idx id t + 1 by omega)]

/-! ### What Check gives -/
theorem inB_iff (n lo hi : Int) : inB n lo hi = true ↔ lo ≤ n ∧ n ≤ hi := by simp [inB]
theorem rchk_zero {r : R} (h : rchk r = 0) : (1 ≤ r.qty ∧ r.qty ≤ 10000) ∧ (0 ≤ r.hid ∧ r.hid ≤ 10000) ∧ (0 ≤ r.shw ∧ r.shw ≤ 10000) ∧ (r.shw = 0 → r.hid = 0) ∧ (r.shw ≠ 0 → r.qty ≤ r.shw) ∧ (1 ≤ r.id ∧ r.id ≤ 9999) ∧ (1 ≤ r.who ∧ r.who ≤ 9) := by
  unfold rchk at h
  by_cases h1 : rangeB r = true
  · rw [if_pos h1] at h
    by_cases h2 : shapeB r = true
    · simp only [rangeB, Bool.and_eq_true, inB_iff] at h1
      simp only [shapeB, Bool.and_eq_true, Bool.not_eq_true', Bool.and_eq_false_iff, decide_eq_false_iff_not, Bool.not_eq_false', decide_eq_true_eq] at h2
      obtain ⟨⟨⟨⟨h3, h4⟩, h5⟩, h6⟩, h7⟩ := h1
      obtain ⟨h8, h9⟩ := h2
      refine ⟨h5, h6, h7, ?_, ?_, h3, h4⟩
      · intro e; rcases h8 with h8 | h8; exact absurd e h8; exact h8
      · intro e; rcases h9 with h9 | h9; exact absurd h9 e; omega
    · rw [if_neg h2] at h; cases h
  · rw [if_neg h1] at h; cases h
theorem rchk_of {r : R} (h : (1 ≤ r.qty ∧ r.qty ≤ 10000) ∧ (0 ≤ r.hid ∧ r.hid ≤ 10000) ∧ (0 ≤ r.shw ∧ r.shw ≤ 10000) ∧ (r.shw = 0 → r.hid = 0) ∧ (r.shw ≠ 0 → r.qty ≤ r.shw) ∧ (1 ≤ r.id ∧ r.id ≤ 9999) ∧ (1 ≤ r.who ∧ r.who ≤ 9)) : rchk r = 0 := by
  obtain ⟨h5, h6, h7, ha, hb, h3, h4⟩ := h
  have h1 : rangeB r = true := by
    simp only [rangeB, Bool.and_eq_true, inB_iff]
    exact ⟨⟨⟨⟨h3, h4⟩, h5⟩, h6⟩, h7⟩
  have h2 : shapeB r = true := by
    simp only [shapeB, Bool.and_eq_true, Bool.not_eq_true', Bool.and_eq_false_iff, decide_eq_false_iff_not, Bool.not_eq_false', decide_eq_true_eq]
    constructor
    · by_cases e : r.shw = 0
      · right; exact ha e
      · left; exact e
    · by_cases e : r.shw = 0
      · left; exact e
      · right; have := hb e; omega
  unfold rchk; rw [if_pos h1, if_pos h2]

theorem bchk_zero {ahead : List R} {r : R} : bchk ahead r = 0 ↔ rchk r = 0 ∧ has r.id ahead = false := by
  unfold bchk
  by_cases h : rchk r = 0
  · rw [if_pos h]
    cases h2 : has r.id ahead <;> simp [h]
  · rw [if_neg h]
    constructor
    · intro e; exact absurd e h
    · intro e; exact absurd e.1 h

/-- Good: each is right, and no id is there twice. -/
def Good (zs : List R) : Prop := (∀ r ∈ zs, rchk r = 0) ∧ (zs.map (·.id)).Nodup

theorem has_false (id : Int) (zs : List R) : has id zs = false ↔ id ∉ zs.map (·.id) := by
  unfold has
  rw [List.any_eq_false]
  simp only [decide_eq_true_eq, List.mem_map, not_exists, not_and]
theorem qgo_zero (t ahead : List R) (h : Good ahead) : qgo ahead t = 0 ↔ Good (ahead ++ t) := by
  induction t generalizing ahead with
  | nil => simp [qgo, h]
  | cons r t ih =>
    unfold qgo
    by_cases hb : bchk ahead r = 0
    · rw [if_pos hb]
      obtain ⟨h1, h2⟩ := bchk_zero.1 hb
      rw [has_false] at h2
      have hg : Good (ahead ++ [r]) := by
        refine ⟨?_, ?_⟩
        · intro x hx
          rcases List.mem_append.1 hx with hx | hx
          · exact h.1 x hx
          · rw [List.mem_singleton] at hx; rw [hx]; exact h1
        · rw [List.map_append, List.nodup_append]
          refine ⟨h.2, by simp, ?_⟩
          intro a ha b hb e
          simp at hb
          rw [e, hb] at ha
          exact h2 ha
      rw [ih _ hg, List.append_assoc]
      rfl
    · rw [if_neg hb]
      constructor
      · intro e; exact absurd e hb
      · intro hg
        exfalso
        apply hb
        rw [bchk_zero, has_false]
        refine ⟨hg.1 r (by simp), ?_⟩
        have := hg.2
        rw [List.map_append, List.nodup_append] at this
        intro hm
        exact this.2.2 r.id hm r.id (by simp) rfl
theorem qchk_zero (zs : List R) : qchk zs = 0 ↔ zs.length ≤ 60 ∧ Good zs := by
  unfold qchk
  by_cases h : 60 < zs.length
  · rw [if_pos h]
    constructor
    · intro e; cases e
    · intro e; omega
  · rw [if_neg h, qgo_zero zs [] ⟨by simp, by simp⟩]
    rw [List.nil_append]
    exact ⟨fun e => ⟨by omega, e⟩, fun e => e.2⟩

end Go.Proofs.Ytnjpjieedgmffaa.que
namespace Go.Proofs.Ytnjpjieedgmffaa.que

theorem good_tail {r : R} {t : List R} (h : Good (r :: t)) : Good t := ⟨fun x hx => h.1 x (by simp [hx]), by have := h.2; simp at this; simpa using this.2⟩
theorem good_swap {r r' : R} {t : List R} (h : Good (r :: t)) (hi : r'.id = r.id) (hr : rchk r' = 0) : Good (r' :: t) := by
  refine ⟨?_, ?_⟩
  · intro x hx
    rcases List.mem_cons.1 hx with rfl | hx
    · exact hr
    · exact h.1 x (by simp [hx])
  · have := h.2
    rw [List.map_cons] at this ⊢
    rw [hi]; exact this
theorem good_back {r : R} {t : List R} (h : Good (r :: t)) : Good (t ++ [r]) := by
  refine ⟨?_, ?_⟩
  · intro x hx
    rcases List.mem_append.1 hx with hx | hx
    · exact h.1 x (by simp [hx])
    · rw [List.mem_singleton] at hx; rw [hx]; exact h.1 r (by simp)
  · have := h.2
    rw [List.map_cons, List.nodup_cons] at this
    rw [List.map_append, List.nodup_append]
    refine ⟨this.2, by simp, ?_⟩
    intro a ha b hb e
    simp at hb
    rw [e, hb] at ha
    exact this.1 ha

theorem tot_append (a b : List R) : tot (a ++ b) = tot a + tot b := by
  induction a with
  | nil => simp [tot]
  | cons r t ih => rw [List.cons_append]; simp only [tot]; rw [ih]; omega

theorem tk1_good {k : Int} {r : R} {t : List R} (h : Good (r :: t)) (h1 : 1 ≤ k) (h2 : k ≤ r.qty) : Good (tk1 k r t) ∧ tot (tk1 k r t) = tot (r :: t) - k ∧ (tk1 k r t).length ≤ (r :: t).length := by
  obtain ⟨a1, a2, a3, a4, a5, a6, a7⟩ := rchk_zero (h.1 r (by simp))
  unfold tk1
  by_cases c1 : k < r.qty
  · rw [if_pos c1]
    refine ⟨good_swap h rfl (rchk_of ⟨⟨?_, ?_⟩, a2, a3, a4, ?_, a6, a7⟩), ?_, ?_⟩
    · show 1 ≤ r.qty - k; omega
    · show r.qty - k ≤ 10000; omega
    · intro e; show r.qty - k ≤ r.shw; have := a5 e; omega
    · simp only [tot]; omega
    · simp
  · rw [if_neg c1]
    have e : k = r.qty := by omega
    by_cases c2 : r.hid = 0
    · rw [if_pos c2]
      refine ⟨good_tail h, ?_, by simp⟩
      simp only [tot]; omega
    · rw [if_neg c2]
      have s1 : 1 ≤ r.shw := by
        by_cases e0 : r.shw = 0
        · exact absurd (a4 e0) c2
        · omega
      have g : Good ({ r with qty := min r.shw r.hid, hid := r.hid - min r.shw r.hid } :: t) := by
        refine good_swap h rfl (rchk_of ⟨⟨?_, ?_⟩, ⟨?_, ?_⟩, a3, ?_, ?_, a6, a7⟩)
        · show 1 ≤ min r.shw r.hid; omega
        · show min r.shw r.hid ≤ 10000; omega
        · show 0 ≤ r.hid - min r.shw r.hid; omega
        · show r.hid - min r.shw r.hid ≤ 10000; omega
        · intro e0; have e1 : r.shw = 0 := e0; omega
        · intro _; show min r.shw r.hid ≤ r.shw; omega
      refine ⟨good_back g, ?_, by simp⟩
      rw [tot_append]; simp only [tot]; omega

theorem tk_done (f : Nat) (n : Int) (zs : List R) (h : n ≤ 0) : tk f n zs = ([], zs) := by
  cases f with
  | zero => rfl
  | succ f =>
    cases zs with
    | nil => rfl
    | cons r t => show (if n ≤ 0 then _ else _) = _; rw [if_pos h]
theorem tk_nil (f : Nat) (n : Int) : tk f n [] = ([], []) := by cases f <;> rfl
theorem tk_step (f : Nat) (n : Int) (r : R) (t : List R) (h : 0 < n) : tk (f + 1) n (r :: t) =
    (⟨r.id, r.who, min n r.qty⟩ :: (tk f (n - min n r.qty) (tk1 (min n r.qty) r t)).1, (tk f (n - min n r.qty) (tk1 (min n r.qty) r t)).2) := by
  show (if n ≤ 0 then _ else _) = _; rw [if_neg (by omega)]

theorem tk_fuel (f : Nat) : ∀ (g : Nat) (n : Int) (zs : List R), n ≤ f → n ≤ g → Good zs → tk f n zs = tk g n zs := by
  induction f with
  | zero => intro g n zs h1 _ _; rw [tk_done _ _ _ (by omega), tk_done _ _ _ (by omega)]
  | succ f ih =>
    intro g n zs h1 h2 hg
    by_cases h : n ≤ 0
    · rw [tk_done _ _ _ h, tk_done _ _ _ h]
    cases zs with
    | nil => rw [tk_nil, tk_nil]
    | cons r t =>
      obtain ⟨g, rfl⟩ : ∃ g', g = g' + 1 := ⟨g - 1, by omega⟩
      have hq := (rchk_zero (hg.1 r (by simp))).1
      rw [tk_step f n r t (by omega), tk_step g n r t (by omega), ih g _ _ (by omega) (by omega) (tk1_good hg (by omega) (by omega)).1]

theorem take_done (n : Int) (zs : List R) (h : n ≤ 0) : take n zs = ([], zs) := tk_done _ _ _ h
theorem take_nil (n : Int) : take n [] = ([], []) := tk_nil _ _
theorem take_cons (n : Int) (r : R) (t : List R) (h : 0 < n) (hg : Good (r :: t)) : take n (r :: t) =
    (⟨r.id, r.who, min n r.qty⟩ :: (take (n - min n r.qty) (tk1 (min n r.qty) r t)).1, (take (n - min n r.qty) (tk1 (min n r.qty) r t)).2) := by
  have hq := (rchk_zero (hg.1 r (by simp))).1
  have e : take n (r :: t) = tk (n.toNat - 1 + 1) n (r :: t) := by unfold take; rw [show n.toNat - 1 + 1 = n.toNat by omega]
  rw [e, tk_step _ _ _ _ h]
  have e2 := tk_fuel (n.toNat - 1) (n - min n r.qty).toNat (n - min n r.qty) _ (by omega) (by omega) (tk1_good hg (show 1 ≤ min n r.qty by omega) (by omega)).1
  rw [e2]; rfl

/-- What is taken, all together. -/
def sum : List F → Int
  | [] => 0
  | f :: t => f.qty + sum t

theorem take_facts (m : Nat) : ∀ (n : Int) (zs : List R), n ≤ m → Good zs → 0 ≤ n →
    Good (take n zs).2 ∧ (take n zs).2.length ≤ zs.length ∧ sum (take n zs).1 + tot (take n zs).2 = tot zs ∧ sum (take n zs).1 ≤ n ∧ (∀ f ∈ (take n zs).1, 1 ≤ f.qty ∧ f.qty ≤ n) ∧
    (sum (take n zs).1 < n → (take n zs).2 = []) ∧ (take n zs).1.length ≤ n.toNat ∧ 0 ≤ sum (take n zs).1 := by
  induction m with
  | zero =>
    intro n zs h hg h0
    rw [take_done _ _ (by omega)]
    exact ⟨hg, Nat.le_refl _, by simp [sum], by simp [sum]; omega, by simp, by simp [sum]; omega, by simp, by simp [sum]⟩
  | succ m ih =>
    intro n zs h hg h0
    by_cases hn : n ≤ 0
    · rw [take_done _ _ (by omega)]
      exact ⟨hg, Nat.le_refl _, by simp [sum], by simp [sum]; omega, by simp, by simp [sum]; omega, by simp, by simp [sum]⟩
    cases zs with
    | nil =>
      rw [take_nil]
      exact ⟨hg, Nat.le_refl _, by simp [sum], by simp [sum]; omega, by simp, by simp, by simp, by simp [sum]⟩
    | cons r t =>
      have hq := (rchk_zero (hg.1 r (by simp))).1
      obtain ⟨g1, g2, g3⟩ := tk1_good hg (show 1 ≤ min n r.qty by omega) (by omega)
      obtain ⟨i1, i2, i3, i4, i5, i6, i7, i8⟩ := ih (n - min n r.qty) _ (by omega) g1 (by omega)
      rw [take_cons n r t (by omega) hg]
      refine ⟨i1, Nat.le_trans i2 g3, ?_, ?_, ?_, ?_, ?_, ?_⟩
      · simp only [sum]; omega
      · simp only [sum]; omega
      · intro f hf
        rcases List.mem_cons.1 hf with rfl | hf
        · show 1 ≤ min n r.qty ∧ min n r.qty ≤ n; omega
        · have := i5 f hf; omega
      · simp only [sum]; intro hs; exact i6 (by omega)
      · simp only [List.length_cons]; omega
      · simp only [sum]; omega

/-- Taken in two goes it comes to the same. -/
theorem take_two (m : Nat) : ∀ (c d : Int) (zs : List R), c ≤ m → 0 ≤ c → 0 ≤ d → Good zs → (take d (take c zs).2).2 = (take (c + d) zs).2 := by
  induction m with
  | zero =>
    intro c d zs h1 h2 _ _
    have : c = 0 := by omega
    rw [take_done c _ (by omega), this, Int.zero_add]
  | succ m ih =>
    intro c d zs h1 h2 h3 hg
    by_cases hc : c ≤ 0
    · have : c = 0 := by omega
      rw [take_done c _ (by omega), this, Int.zero_add]
    by_cases hd : d ≤ 0
    · have : d = 0 := by omega
      rw [take_done d _ (by omega), this, Int.add_zero]
    cases zs with
    | nil => rw [take_nil, take_nil, take_nil]
    | cons r t =>
      have hq := (rchk_zero (hg.1 r (by simp))).1
      have g1 := (tk1_good hg (show 1 ≤ min c r.qty by omega) (by omega)).1
      rw [take_cons c r t (by omega) hg, take_cons (c + d) r t (by omega) hg]
      by_cases hl : c < r.qty
      · have e1 : min c r.qty = c := by omega
        have e2 : tk1 c r t = { r with qty := r.qty - c } :: t := by unfold tk1; rw [if_pos hl]
        rw [e1, e2] at g1 ⊢
        rw [take_done (c - c) _ (by omega)]
        rw [take_cons d _ t (by omega) g1]
        show (take (d - min d (r.qty - c)) (tk1 (min d (r.qty - c)) { r with qty := r.qty - c } t)).2 = _
        have e3 : min (c + d) r.qty = c + min d (r.qty - c) := by omega
        have e4 : tk1 (min d (r.qty - c)) { r with qty := r.qty - c } t = tk1 (c + min d (r.qty - c)) r t := by
          obtain ⟨ri, rw_, rq, rh, rs⟩ := r
          show (if min d (rq - c) < rq - c then _ else _) = (if c + min d (rq - c) < rq then _ else _)
          by_cases h5 : min d (rq - c) < rq - c
          · rw [if_pos h5, if_pos (by omega)]
            show (⟨ri, rw_, rq - c - min d (rq - c), rh, rs⟩ : R) :: t = ⟨ri, rw_, rq - (c + min d (rq - c)), rh, rs⟩ :: t
            rw [show rq - c - min d (rq - c) = rq - (c + min d (rq - c)) by omega]
          · have hl2 : c < rq := hl
            rw [if_neg h5, if_neg (show ¬ (c + min d (rq - c) < rq) by omega)]
        rw [e4, e3]
        have e5 : d - min d (r.qty - c) = c + d - (c + min d (r.qty - c)) := by omega
        rw [e5]
      · have e1 : min c r.qty = r.qty := by omega
        have e2 : min (c + d) r.qty = r.qty := by omega
        rw [e1] at g1
        rw [e1, e2, ih (c - r.qty) d _ (by omega) (by omega) h3 g1]
        have : c - r.qty + d = c + d - r.qty := by omega
        rw [this]

theorem tot_le (zs : List R) (h : ∀ r ∈ zs, rchk r = 0) : 0 ≤ tot zs ∧ tot zs ≤ 20000 * (zs.length : Int) := by
  induction zs with
  | nil => simp [tot]
  | cons r t ih =>
    obtain ⟨i1, i2⟩ := ih (fun x hx => h x (by simp [hx]))
    obtain ⟨a1, a2, _⟩ := rchk_zero (h r (by simp))
    simp only [tot, List.length_cons]
    omega

end Go.Proofs.Ytnjpjieedgmffaa.que
