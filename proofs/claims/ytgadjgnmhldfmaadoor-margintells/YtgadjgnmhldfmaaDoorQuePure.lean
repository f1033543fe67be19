/- Plain facts, no program: a queue of rests, what is wrong with one, and what is taken of it. -/
import Derived.Test.YtgadjgnmhldfmaaDoorProg
namespace Go.Proofs.YtgadjgnmhldfmaaDoor.que

/-- A rest. -/
structure R where
  id : Int
  who : Int
  qty : Int
  hid : Int
  shw : Int
deriving DecidableEq, Inhabited
/-- A fill. -/
structure F where
  id : Int
  who : Int
  qty : Int
deriving DecidableEq, Inhabited

def inB (n lo hi : Int) : Bool := decide (lo ≤ n) && decide (n ≤ hi)
def rangeB (r : R) : Bool := inB r.id 1 9999 && inB r.who 1 9 && inB r.qty 1 10000 && inB r.hid 0 10000 && inB r.shw 0 10000
def shapeB (r : R) : Bool := (!(decide (r.shw = 0) && !decide (r.hid = 0))) && (!((!decide (r.shw = 0)) && decide (r.shw < r.qty)))
def rchk (r : R) : Int := if rangeB r = true then (if shapeB r = true then 0 else 3) else 1

/-- Where an id stands, -1 if nowhere. -/
def idx (id : Int) : List R → Int
  | [] => -1
  | r :: t => if r.id = id then 0 else if idx id t < 0 then -1 else idx id t + 1
def has (id : Int) (zs : List R) : Bool := zs.any (fun r => decide (r.id = id))

/-- What is wrong with one behind others. -/
def bchk (ahead : List R) (r : R) : Int := if rchk r = 0 then (if has r.id ahead = true then 7 else 0) else rchk r
def qgo (ahead : List R) : List R → Int
  | [] => 0
  | r :: t => if bchk ahead r = 0 then qgo (ahead ++ [r]) t else bchk ahead r
def qchk (zs : List R) : Int := if 60 < zs.length then 4 else qgo [] zs

def tot : List R → Int
  | [] => 0
  | r :: t => r.qty + r.hid + tot t

/-- What is left behind so much is taken of the first one. -/
def tk1 (k : Int) (r : R) (t : List R) : List R :=
  if k < r.qty then { r with qty := r.qty - k } :: t
  else if r.hid = 0 then t
  else t ++ [{ r with qty := min r.shw r.hid, hid := r.hid - min r.shw r.hid }]
def tk : Nat → Int → List R → List F × List R
  | 0, _, zs => ([], zs)
  | _ + 1, _, [] => ([], [])
  | f + 1, n, r :: t => if n ≤ 0 then ([], r :: t) else
      (⟨r.id, r.who, min n r.qty⟩ :: (tk f (n - min n r.qty) (tk1 (min n r.qty) r t)).1, (tk f (n - min n r.qty) (tk1 (min n r.qty) r t)).2)
def take (n : Int) (zs : List R) : List F × List R := tk n.toNat n zs

theorem idx_ge (id : Int) (zs : List R) : -1 ≤ idx id zs := by
  induction zs with
  | nil => simp [idx]
  | cons r t ih => unfold idx; split; omega; split <;> omega
theorem idx_lt (id : Int) (zs : List R) : idx id zs < zs.length := by
  induction zs with
  | nil => simp [idx]
  | cons r t ih => unfold idx; rw [List.length_cons]; split; omega; split <;> omega
theorem idx_cons (id : Int) (r : R) (t : List R) : idx id (r :: t) = if r.id = id then 0 else if idx id t < 0 then -1 else idx id t + 1 := rfl
theorem has_idx (id : Int) (zs : List R) : has id zs = decide (0 ≤ idx id zs) := by
  induction zs with
  | nil => rfl
  | cons r t ih =>
    have e : has id (r :: t) = (decide (r.id = id) || has id t) := rfl
    have := idx_ge id t
    rw [e, ih, idx_cons]
    by_cases h : r.id = id
    · rw [if_pos h, decide_eq_true h]; rfl
    · rw [if_neg h, decide_eq_false h, Bool.false_or]
      by_cases h2 : idx id t < 0
      · rw [if_pos h2, decide_eq_false (by omega)]; rfl
      · rw [if_neg h2, decide_eq_true (show 0 ≤ idx id t by omega), decide_eq_true (show 0 ≤ idx id t + 1 by omega)]

/-! ### What Check gives -/
theorem inB_iff (n lo hi : Int) : inB n lo hi = true ↔ lo ≤ n ∧ n ≤ hi := by simp [inB]
theorem rchk_zero {r : R} (h : rchk r = 0) : (1 ≤ r.qty ∧ r.qty ≤ 10000) ∧ (0 ≤ r.hid ∧ r.hid ≤ 10000) ∧ (0 ≤ r.shw ∧ r.shw ≤ 10000) ∧ (r.shw = 0 → r.hid = 0) ∧ (r.shw ≠ 0 → r.qty ≤ r.shw) ∧ (1 ≤ r.id ∧ r.id ≤ 9999) ∧ (1 ≤ r.who ∧ r.who ≤ 9) := by
  unfold rchk at h
  by_cases h1 : rangeB r = true
  · rw [if_pos h1] at h
    by_cases h2 : shapeB r = true
    · simp only [rangeB, Bool.and_eq_true, inB_iff] at h1
      simp only [shapeB, Bool.and_eq_true, Bool.not_eq_true', Bool.and_eq_false_iff, decide_eq_false_iff_not, Bool.not_eq_false', decide_eq_true_eq] at h2
      obtain ⟨⟨⟨⟨h3, h4⟩, h5⟩, h6⟩, h7⟩ := h1
      obtain ⟨h8, h9⟩ := h2
      refine ⟨h5, h6, h7, ?_, ?_, h3, h4⟩
      · intro e; rcases h8 with h8 | h8; exact absurd e h8; exact h8
      · intro e; rcases h9 with h9 | h9; exact absurd h9 e; omega
    · rw [if_neg h2] at h; cases h
  · rw [if_neg h1] at h; cases h
theorem rchk_of {r : R} (h : (1 ≤ r.qty ∧ r.qty ≤ 10000) ∧ (0 ≤ r.hid ∧ r.hid ≤ 10000) ∧ (0 ≤ r.shw ∧ r.shw ≤ 10000) ∧ (r.shw = 0 → r.hid = 0) ∧ (r.shw ≠ 0 → r.qty ≤ r.shw) ∧ (1 ≤ r.id ∧ r.id ≤ 9999) ∧ (1 ≤ r.who ∧ r.who ≤ 9)) : rchk r = 0 := by
  obtain ⟨h5, h6, h7, ha, hb, h3, h4⟩ := h
  have h1 : rangeB r = true := by
    simp only [rangeB, Bool.and_eq_true, inB_iff]
    exact ⟨⟨⟨⟨h3, h4⟩, h5⟩, h6⟩, h7⟩
  have h2 : shapeB r = true := by
    simp only [shapeB, Bool.and_eq_true, Bool.not_eq_true', Bool.and_eq_false_iff, decide_eq_false_iff_not, Bool.not_eq_false', decide_eq_true_eq]
    constructor
    · by_cases e : r.shw = 0
      · right; exact ha e
      · left; exact e
    · by_cases e : r.shw = 0
      · left; exact e
      · right; have := hb e; omega
  unfold rchk; rw [if_pos h1, if_pos h2]

theorem bchk_zero {ahead : List R} {r : R} : bchk ahead r = 0 ↔ rchk r = 0 ∧ has r.id ahead = false := by
  unfold bchk
  by_cases h : rchk r = 0
  · rw [if_pos h]
    cases h2 : has r.id ahead <;> simp [h]
  · rw [if_neg h]
    constructor
    · intro e; exact absurd e h
    · intro e; exact absurd e.1 h

/-- Good: each is right, and no id is there twice. -/
def Good (zs : List R) : Prop := (∀ r ∈ zs, rchk r = 0) ∧ (zs.map (·.id)).Nodup

theorem has_false (id : Int) (zs : List R) : has id zs = false ↔ id ∉ zs.map (·.id) := by
  unfold has
  rw [List.any_eq_false]
  simp only [decide_eq_true_eq, List.mem_map, not_exists, not_and]
theorem qgo_zero (t ahead : List R) (h : Good ahead) : qgo ahead t = 0 ↔ Good (ahead ++ t) := by
  induction t generalizing ahead with
  | nil => simp [qgo, h]
  | cons r t ih =>
    unfold qgo
    by_cases hb : bchk ahead r = 0
    · rw [if_pos hb]
      obtain ⟨h1, h2⟩ := bchk_zero.1 hb
      rw [has_false] at h2
      have hg : Good (ahead ++ [r]) := by
        refine ⟨?_, ?_⟩
        · intro x hx
          rcases List.mem_append.1 hx with hx | hx
          · exact h.1 x hx
          · rw [List.mem_singleton] at hx; rw [hx]; exact h1
        · rw [List.map_append, List.nodup_append]
          refine ⟨h.2, by simp, ?_⟩
          intro a ha b hb e
          simp at hb
          rw [e, hb] at ha
          exact h2 ha
      rw [ih _ hg, List.append_assoc]
      rfl
    · rw [if_neg hb]
      constructor
      · intro e; exact absurd e hb
      · intro hg
        exfalso
        apply hb
        rw [bchk_zero, has_false]
        refine ⟨hg.1 r (by simp), ?_⟩
        have := hg.2
        rw [List.map_append, List.nodup_append] at this
        intro hm
        exact this.2.2 r.id hm r.id (by simp) rfl
theorem qchk_zero (zs : List R) : qchk zs = 0 ↔ zs.length ≤ 60 ∧ Good zs := by
  unfold qchk
  by_cases h : 60 < zs.length
  · rw [if_pos h]
    constructor
    · intro e; cases e
    · intro e; omega
  · rw [if_neg h, qgo_zero zs [] ⟨by simp, by simp⟩]
    rw [List.nil_append]
    exact ⟨fun e => ⟨by omega, e⟩, fun e => e.2⟩

end Go.Proofs.YtgadjgnmhldfmaaDoor.que
