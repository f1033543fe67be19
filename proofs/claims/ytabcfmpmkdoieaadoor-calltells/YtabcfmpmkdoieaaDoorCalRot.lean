/- Plain facts: a row as a function of its places; blocks that change places; two sorted blocks made one. -/
import Derived.Test.YtabcfmpmkdoieaaDoorShelfQ
import Derived.Sort.WalkA
namespace Go.Proofs.YtabcfmpmkdoieaaDoor.cal
open Go.Sort

/-- A row of n elements reads as F. -/
def Fn (d : Array Nat) (n : Nat) (F : Nat → Nat) : Prop := d.size = n ∧ ∀ j, j < n → d[j]! = F j

/-- Two places exchanged. -/
def sw (F : Nat → Nat) (i j : Nat) : Nat → Nat := fun k => if k = j then F i else if k = i then F j else F k
theorem Fn.swp {d : Array Nat} {n : Nat} {F : Nat → Nat} {i j : Nat} (h : Fn d n F) (hi : i < n) (hj : j < n) : Fn (Sort.swp d i j) n (sw F i j) := by
  obtain ⟨h1, h2⟩ := h
  refine ⟨(size_swp d i j).trans h1, fun k hk => ?_⟩
  unfold sw
  by_cases e1 : k = j
  · subst e1; rw [if_pos rfl, swp_right d i k (by omega)]; exact h2 i hi
  · rw [if_neg e1]
    by_cases e2 : k = i
    · subst e2; rw [if_pos rfl, swp_left d k j (by omega) e1]; exact h2 j hj
    · rw [if_neg e2, swp_other d i j k e2 e1]; exact h2 k hk
theorem Fn.eq {d : Array Nat} {n : Nat} {F G : Nat → Nat} (h : Fn d n F) (e : F = G) : Fn d n G := e ▸ h

/-- Two ranges of n places exchanged. -/
def swr (F : Nat → Nat) (a b n : Nat) : Nat → Nat := fun k => if a ≤ k ∧ k < a + n then F (k - a + b) else if b ≤ k ∧ k < b + n then F (k - b + a) else F k
theorem swr_zero (F : Nat → Nat) (a b : Nat) : swr F a b 0 = F := by
  funext k; unfold swr; rw [if_neg (by omega), if_neg (by omega)]
theorem congF (F : Nat → Nat) {i j : Nat} (h : i = j) : F i = F j := by rw [h]
theorem swr_step (F : Nat → Nat) (a b i : Nat) (h : a + (i + 1) ≤ b) : sw (swr F a b i) (a + i) (b + i) = swr F a b (i + 1) := by
  funext k
  simp only [sw, swr]
  repeat' split
  all_goals first | (exfalso; omega) | (refine congF F ?_; omega)

/-- The block from s to m and that from m to e have changed places. -/
def rot (F : Nat → Nat) (s m e : Nat) : Nat → Nat := fun k => if s ≤ k ∧ k < s + (e - m) then F (k - s + m) else if s + (e - m) ≤ k ∧ k < e then F (k - (e - m)) else F k
theorem rot_left (F : Nat → Nat) (m e : Nat) : rot F m m e = F := by
  funext k
  simp only [rot]
  repeat' split
  all_goals first | (exfalso; omega) | (refine congF F ?_; omega)
theorem rot_right (F : Nat → Nat) (s m : Nat) : rot F s m m = F := by
  funext k
  simp only [rot]
  repeat' split
  all_goals first | (exfalso; omega) | (refine congF F ?_; omega)
theorem rot_more (G : Nat → Nat) (a i j : Nat) (h : j < i) : rot (swr G a (a + i) j) (a + j) (a + i) (a + i + j) = rot G a (a + i) (a + i + j) := by
  funext k
  simp only [rot, swr]
  repeat' split
  all_goals first | (exfalso; omega) | (refine congF G ?_; omega)
theorem rot_less (G : Nat → Nat) (a i j : Nat) (h : i < j) : rot (swr G a (a + j) i) a (a + i) (a + j) = rot G a (a + i) (a + i + j) := by
  funext k
  simp only [rot, swr]
  repeat' split
  all_goals first | (exfalso; omega) | (refine congF G ?_; omega)
theorem rot_same (G : Nat → Nat) (a i : Nat) : swr G a (a + i) i = rot G a (a + i) (a + i + i) := by
  funext k
  simp only [rot, swr]
  repeat' split
  all_goals first | (exfalso; omega) | (refine congF G ?_; omega)
/-- One step of what goes to the right, and of what goes to the left. -/
theorem rot_up (F : Nat → Nat) (a k : Nat) (h : a ≤ k) : sw (rot F a (a + 1) (k + 1)) k (k + 1) = rot F a (a + 1) (k + 2) := by
  funext j
  simp only [rot, sw]
  repeat' split
  all_goals first | (exfalso; omega) | (refine congF F ?_; omega)
theorem rot_down (F : Nat → Nat) (m k : Nat) (h : k + 1 ≤ m) : sw (rot F (k + 1) m (m + 1)) (k + 1) k = rot F k m (m + 1) := by
  funext j
  simp only [rot, sw]
  repeat' split
  all_goals first | (exfalso; omega) | (refine congF F ?_; omega)

section
variable (key : Nat → Int)
/-- Ahead by the key; of equal keys who has the lower number. -/
def lt2 (x y : Nat) : Prop := key x < key y ∨ (key x = key y ∧ x < y)
def Srt (F : Nat → Nat) (a b : Nat) : Prop := ∀ i j, a ≤ i → i < j → j < b → lt2 key (F i) (F j)
/-- Of equal keys who stands ahead has the lower number. -/
def TG (F : Nat → Nat) (n : Nat) : Prop := ∀ i j, i < j → j < n → key (F i) = key (F j) → F i < F j
def TT (F : Nat → Nat) (a m b : Nat) : Prop := ∀ i j, a ≤ i → i < m → m ≤ j → j < b → key (F i) = key (F j) → F i < F j
/-- The same elements from a to b. -/
def Sm (F G : Nat → Nat) (a b : Nat) : Prop := (∀ i, a ≤ i → i < b → ∃ j, a ≤ j ∧ j < b ∧ G i = F j) ∧ (∀ j, a ≤ j → j < b → ∃ i, a ≤ i ∧ i < b ∧ G i = F j)
def Mg (F G : Nat → Nat) (a b : Nat) : Prop := Srt key G a b ∧ Sm F G a b ∧ ∀ j, (j < a ∨ b ≤ j) → G j = F j

variable {key}
theorem lt2_trans {x y z : Nat} (h : lt2 key x y) (k : lt2 key y z) : lt2 key x z := by
  rcases h with h | ⟨h1, h2⟩ <;> rcases k with k | ⟨k1, k2⟩
  · exact .inl (by omega)
  · exact .inl (by omega)
  · exact .inl (by omega)
  · exact .inr ⟨by omega, by omega⟩
theorem Srt.le {F : Nat → Nat} {a b : Nat} (h : Srt key F a b) {i j : Nat} (hi : a ≤ i) (hij : i ≤ j) (hj : j < b) : key (F i) ≤ key (F j) := by
  rcases Nat.lt_or_eq_of_le hij with hl | rfl
  · rcases h i j hi hl hj with h1 | ⟨h1, -⟩ <;> omega
  · exact Int.le_refl _
theorem Srt.sub {F : Nat → Nat} {a b a' b' : Nat} (h : Srt key F a b) (h1 : a ≤ a') (h2 : b' ≤ b) : Srt key F a' b' := fun i j hi hij hj => h i j (by omega) hij (by omega)
theorem Sm.refl (F : Nat → Nat) (a b : Nat) : Sm F F a b := ⟨fun i h1 h2 => ⟨i, h1, h2, rfl⟩, fun i h1 h2 => ⟨i, h1, h2, rfl⟩⟩
theorem Sm.trans {F G H : Nat → Nat} {a b : Nat} (h : Sm F G a b) (k : Sm G H a b) : Sm F H a b := by
  refine ⟨fun i h1 h2 => ?_, fun j h1 h2 => ?_⟩
  · obtain ⟨j, j1, j2, j3⟩ := k.1 i h1 h2
    obtain ⟨l, l1, l2, l3⟩ := h.1 j j1 j2
    exact ⟨l, l1, l2, j3.trans l3⟩
  · obtain ⟨i, i1, i2, i3⟩ := h.2 j h1 h2
    obtain ⟨l, l1, l2, l3⟩ := k.2 i i1 i2
    exact ⟨l, l1, l2, l3.trans i3⟩
theorem Sm.wide {F G : Nat → Nat} {a b a' b' : Nat} (h : Sm F G a b) (ho : ∀ j, (j < a ∨ b ≤ j) → G j = F j) (h1 : a' ≤ a) (h2 : b ≤ b') : Sm F G a' b' := by
  refine ⟨fun i hi hj => ?_, fun j hi hj => ?_⟩
  · by_cases hc : a ≤ i ∧ i < b
    · obtain ⟨j, j1, j2, j3⟩ := h.1 i hc.1 hc.2
      exact ⟨j, by omega, by omega, j3⟩
    · exact ⟨i, hi, hj, ho i (by omega)⟩
  · by_cases hc : a ≤ j ∧ j < b
    · obtain ⟨i, j1, j2, j3⟩ := h.2 j hc.1 hc.2
      exact ⟨i, by omega, by omega, j3⟩
    · exact ⟨j, hi, hj, ho j (by omega)⟩
theorem Mg.refl {F : Nat → Nat} {a b : Nat} (h : Srt key F a b) : Mg key F F a b := ⟨h, Sm.refl F a b, fun _ _ => rfl⟩

theorem rot_sm (F : Nat → Nat) (s m e a b : Nat) (h1 : a ≤ s) (h2 : s ≤ m) (h3 : m ≤ e) (h4 : e ≤ b) : Sm F (rot F s m e) a b := by
  refine ⟨fun i hi hj => ?_, fun j hi hj => ?_⟩
  · simp only [rot]
    repeat' split
    · exact ⟨i - s + m, by omega, by omega, rfl⟩
    · exact ⟨i - (e - m), by omega, by omega, rfl⟩
    · exact ⟨i, hi, hj, rfl⟩
  · by_cases c1 : s ≤ j ∧ j < m
    · refine ⟨j + (e - m), by omega, by omega, ?_⟩
      simp only [rot]
      rw [if_neg (by omega), if_pos (by omega)]
      exact congF F (by omega)
    · by_cases c2 : m ≤ j ∧ j < e
      · refine ⟨j - m + s, by omega, by omega, ?_⟩
        simp only [rot]
        rw [if_pos (by omega)]
        exact congF F (by omega)
      · refine ⟨j, hi, hj, ?_⟩
        simp only [rot]
        rw [if_neg (by omega), if_neg (by omega)]
theorem rot_out (F : Nat → Nat) (s m e j : Nat) (h2 : s ≤ m) (h3 : m ≤ e) (h : j < s ∨ e ≤ j) : rot F s m e j = F j := by
  simp only [rot]
  rw [if_neg (by omega), if_neg (by omega)]
theorem rot_one (F : Nat → Nat) (s m e j : Nat) (h : s ≤ j) (h2 : j < s + (e - m)) : rot F s m e j = F (j - s + m) := by
  simp only [rot]
  rw [if_pos (by omega)]
theorem rot_two (F : Nat → Nat) (s m e j : Nat) (h : s + (e - m) ≤ j) (h2 : j < e) : rot F s m e j = F (j - (e - m)) := by
  simp only [rot]
  rw [if_neg (by omega), if_pos (by omega)]

/-- Blocks that are put together: what stood in four parts, the middle ones exchanged, is sorted where each pair is. -/
theorem srt_rot {F : Nat → Nat} {a s m e b : Nat} (h1 : a ≤ s) (h2 : s ≤ m) (h3 : m ≤ e) (h4 : e ≤ b) (hL : Srt key F a m) (hR : Srt key F m b)
    (hMid : ∀ i j, s ≤ i → i < m → m ≤ j → j < e → lt2 key (F j) (F i)) (hA : ∀ i j, a ≤ i → i < s → m ≤ j → j < e → lt2 key (F i) (F j))
    (hC : ∀ i j, s ≤ i → i < m → e ≤ j → j < b → lt2 key (F i) (F j)) (hB : ∀ i j, a ≤ i → i < s → e ≤ j → j < b → lt2 key (F i) (F j)) : Srt key (rot F s m e) a b := by
  intro i j hi hij hj
  have cl : ∀ k, a ≤ k → k < b → (k < s ∧ rot F s m e k = F k) ∨ (s ≤ k ∧ k < s + (e - m) ∧ rot F s m e k = F (k - s + m)) ∨ (s + (e - m) ≤ k ∧ k < e ∧ rot F s m e k = F (k - (e - m))) ∨ (e ≤ k ∧ rot F s m e k = F k) := by
    intro k _ _
    by_cases c1 : k < s
    · exact .inl ⟨c1, rot_out F s m e k h2 h3 (.inl c1)⟩
    · by_cases c2 : k < s + (e - m)
      · exact .inr (.inl ⟨by omega, c2, rot_one F s m e k (by omega) c2⟩)
      · by_cases c3 : k < e
        · exact .inr (.inr (.inl ⟨by omega, c3, rot_two F s m e k (by omega) c3⟩))
        · exact .inr (.inr (.inr ⟨by omega, rot_out F s m e k h2 h3 (.inr (by omega))⟩))
  rcases cl i hi (by omega) with ⟨c, e1⟩ | ⟨c, c', e1⟩ | ⟨c, c', e1⟩ | ⟨c, e1⟩ <;> rcases cl j (by omega) hj with ⟨d, e2⟩ | ⟨d, d', e2⟩ | ⟨d, d', e2⟩ | ⟨d, e2⟩ <;> rw [e1, e2] <;> try (exfalso; omega)
  · exact hL _ _ (by omega) (by omega) (by omega)
  · exact hA _ _ (by omega) (by omega) (by omega) (by omega)
  · exact hL _ _ (by omega) (by omega) (by omega)
  · exact hB _ _ (by omega) (by omega) (by omega) (by omega)
  · exact hR _ _ (by omega) (by omega) (by omega)
  · exact hMid _ _ (by omega) (by omega) (by omega) (by omega)
  · exact hR _ _ (by omega) (by omega) (by omega)
  · exact hL _ _ (by omega) (by omega) (by omega)
  · exact hC _ _ (by omega) (by omega) (by omega) (by omega)
  · exact hR _ _ (by omega) (by omega) (by omega)

/-- One element goes into a sorted block behind it. -/
theorem mg_right {F : Nat → Nat} {a i b : Nat} (hR : Srt key F (a + 1) b) (hT : TT key F a (a + 1) b) (h1 : a + 1 ≤ i) (h2 : i ≤ b) (hl : i = a + 1 ∨ key (F (i - 1)) < key (F a)) (hr : i = b ∨ ¬ key (F i) < key (F a)) : Mg key F (rot F a (a + 1) i) a b := by
  refine ⟨srt_rot (Nat.le_refl _) (by omega) h1 h2 (fun x y hx hxy hy => by omega) hR ?_ (fun x y hx hy => by omega) ?_ (fun x y hx hy => by omega), rot_sm F a (a + 1) i a b (Nat.le_refl _) (by omega) h1 h2, fun j hj => rot_out F a (a + 1) i j (by omega) h1 (by omega)⟩
  · intro x y hx hx2 hy hy2
    have : x = a := by omega
    subst this
    rcases hl with hl | hl
    · omega
    · have := hR.le (i := y) (j := i - 1) (by omega) (by omega) (by omega)
      exact .inl (by omega)
  · intro x y hx hx2 hy hy2
    have : x = a := by omega
    subst this
    rcases hr with hr | hr
    · omega
    · have h3 := hR.le (i := i) (j := y) (by omega) (by omega) (by omega)
      by_cases hk : key (F x) = key (F y)
      · exact .inr ⟨hk, hT x y (Nat.le_refl _) (by omega) (by omega) hy2 hk⟩
      · exact .inl (by omega)
/-- One element goes into a sorted block ahead of it. -/
theorem mg_left {F : Nat → Nat} {a i m : Nat} (hL : Srt key F a m) (hT : TT key F a m (m + 1)) (h1 : a ≤ i) (h2 : i ≤ m) (hl : i = a ∨ ¬ key (F m) < key (F (i - 1))) (hr : i = m ∨ key (F m) < key (F i)) : Mg key F (rot F i m (m + 1)) a (m + 1) := by
  refine ⟨srt_rot h1 h2 (by omega) (Nat.le_refl _) hL (fun x y hx hxy hy => by omega) ?_ ?_ (fun x y hx hy => by omega) (fun x y hx hy => by omega), rot_sm F i m (m + 1) a (m + 1) h1 h2 (by omega) (Nat.le_refl _), fun j hj => rot_out F i m (m + 1) j h2 (by omega) (by omega)⟩
  · intro x y hx hx2 hy hy2
    have : y = m := by omega
    subst this
    rcases hr with hr | hr
    · omega
    · have := hL.le (i := i) (j := x) (by omega) (by omega) (by omega)
      exact .inl (by omega)
  · intro x y hx hx2 hy hy2
    have : y = m := by omega
    subst this
    rcases hl with hl | hl
    · omega
    · have h3 := hL.le (i := x) (j := i - 1) (by omega) (by omega) (by omega)
      by_cases hk : key (F x) = key (F y)
      · exact .inr ⟨hk, hT x y hx (by omega) (Nat.le_refl _) (by omega) hk⟩
      · exact .inl (by omega)

/-- Where two sorted blocks are cut, so that what is ahead in both is ahead of what is behind in both. -/
structure Cut (key : Nat → Int) (F : Nat → Nat) (a m b mid s e : Nat) : Prop where
  am : a < m
  mb : m < b
  amid : a ≤ mid
  midb : mid ≤ b
  se : s + e = mid + m
  sa : a ≤ s
  sm : s ≤ m
  me : m ≤ e
  eb : e ≤ b
  one : s = m ∨ e = m ∨ key (F (e - 1)) < key (F s)
  two : s = a ∨ e = b ∨ ¬ key (F e) < key (F (s - 1))

theorem Cut.mids {F : Nat → Nat} {a m b mid s e : Nat} (c : Cut key F a m b mid s e) (hL : Srt key F a m) (hR : Srt key F m b) : ∀ i j, s ≤ i → i < m → m ≤ j → j < e → lt2 key (F j) (F i) := by
  intro i j h1 h2 h3 h4
  have := c.sa; have := c.eb; have := c.sm; have := c.me
  rcases c.one with h | h | h
  · omega
  · omega
  · have k1 := hL.le (i := s) (j := i) (by omega) (by omega) (by omega)
    have k2 := hR.le (i := j) (j := e - 1) (by omega) (by omega) (by omega)
    exact .inl (by omega)
theorem Cut.outs {F : Nat → Nat} {a m b mid s e : Nat} (c : Cut key F a m b mid s e) (hL : Srt key F a m) (hR : Srt key F m b) (hT : TT key F a m b) : ∀ i j, a ≤ i → i < s → e ≤ j → j < b → lt2 key (F i) (F j) := by
  intro i j h1 h2 h3 h4
  have := c.sa; have := c.eb; have := c.sm; have := c.me
  rcases c.two with h | h | h
  · omega
  · omega
  · have k1 := hL.le (i := i) (j := s - 1) (by omega) (by omega) (by omega)
    have k2 := hR.le (i := e) (j := j) (by omega) (by omega) (by omega)
    by_cases hk : key (F i) = key (F j)
    · exact .inr ⟨hk, hT i j h1 (by omega) (by omega) h4 hk⟩
    · exact .inl (by omega)

/-- What lies where behind the rotation. -/
theorem Cut.cross {F : Nat → Nat} {a m b mid s e : Nat} (c : Cut key F a m b mid s e) (hL : Srt key F a m) (hR : Srt key F m b) (hT : TT key F a m b) : ∀ i j, a ≤ i → i < mid → mid ≤ j → j < b → lt2 key (rot F s m e i) (rot F s m e j) := by
  intro i j h1 h2 h3 h4
  have c0 := c
  obtain ⟨q1, q2, q3, q4, q5, q6, q7, q8, q9, -, -⟩ := c
  have hi : (i < s ∧ rot F s m e i = F i) ∨ (s ≤ i ∧ rot F s m e i = F (i - s + m)) := by
    by_cases c1 : i < s
    · exact .inl ⟨c1, rot_out F s m e i q7 q8 (.inl c1)⟩
    · exact .inr ⟨by omega, rot_one F s m e i (by omega) (by omega)⟩
  have hj : (j < e ∧ rot F s m e j = F (j - (e - m))) ∨ (e ≤ j ∧ rot F s m e j = F j) := by
    by_cases c1 : j < e
    · exact .inl ⟨c1, rot_two F s m e j (by omega) c1⟩
    · exact .inr ⟨by omega, rot_out F s m e j q7 q8 (.inr (by omega))⟩
  rcases hi with ⟨x, e1⟩ | ⟨x, e1⟩ <;> rcases hj with ⟨y, e2⟩ | ⟨y, e2⟩ <;> rw [e1, e2]
  · exact hL _ _ (by omega) (by omega) (by omega)
  · exact c0.outs hL hR hT _ _ (by omega) (by omega) (by omega) (by omega)
  · exact c0.mids hL hR _ _ (by omega) (by omega) (by omega) (by omega)
  · exact hR _ _ (by omega) (by omega) (by omega)
theorem Cut.left {F : Nat → Nat} {a m b mid s e : Nat} (c : Cut key F a m b mid s e) (hL : Srt key F a m) (hR : Srt key F m b) (hT : TT key F a m b) :
    Srt key (rot F s m e) a s ∧ Srt key (rot F s m e) s mid ∧ TT key (rot F s m e) a s mid := by
  obtain ⟨q1, q2, q3, q4, q5, q6, q7, q8, q9, -, -⟩ := c
  refine ⟨fun i j hi hij hj => ?_, fun i j hi hij hj => ?_, fun i j hi hi2 hj hj2 hk => ?_⟩
  · rw [rot_out F s m e i q7 q8 (.inl (by omega)), rot_out F s m e j q7 q8 (.inl (by omega))]
    exact hL _ _ (by omega) (by omega) (by omega)
  · rw [rot_one F s m e i (by omega) (by omega), rot_one F s m e j (by omega) (by omega)]
    exact hR _ _ (by omega) (by omega) (by omega)
  · rw [rot_out F s m e i q7 q8 (.inl (by omega)), rot_one F s m e j (by omega) (by omega)] at hk ⊢
    exact hT _ _ (by omega) (by omega) (by omega) (by omega) hk
theorem Cut.right {F : Nat → Nat} {a m b mid s e : Nat} (c : Cut key F a m b mid s e) (hL : Srt key F a m) (hR : Srt key F m b) (hT : TT key F a m b) :
    Srt key (rot F s m e) mid e ∧ Srt key (rot F s m e) e b ∧ TT key (rot F s m e) mid e b := by
  obtain ⟨q1, q2, q3, q4, q5, q6, q7, q8, q9, -, -⟩ := c
  refine ⟨fun i j hi hij hj => ?_, fun i j hi hij hj => ?_, fun i j hi hi2 hj hj2 hk => ?_⟩
  · rw [rot_two F s m e i (by omega) (by omega), rot_two F s m e j (by omega) (by omega)]
    exact hL _ _ (by omega) (by omega) (by omega)
  · rw [rot_out F s m e i q7 q8 (.inr (by omega)), rot_out F s m e j q7 q8 (.inr (by omega))]
    exact hR _ _ (by omega) (by omega) (by omega)
  · rw [rot_two F s m e i (by omega) (by omega), rot_out F s m e j q7 q8 (.inr (by omega))] at hk ⊢
    exact hT _ _ (by omega) (by omega) (by omega) (by omega) hk
theorem srt_cong {F G : Nat → Nat} {a b : Nat} (h : Srt key F a b) (e : ∀ j, a ≤ j → j < b → G j = F j) : Srt key G a b := by
  intro i j hi hij hj
  rw [e i (by omega) (by omega), e j (by omega) (by omega)]
  exact h i j hi hij hj
theorem tt_cong {F G : Nat → Nat} {a m b : Nat} (h : TT key F a m b) (e : ∀ j, a ≤ j → j < b → G j = F j) : TT key G a m b := by
  intro i j hi hi2 hj hj2
  rw [e i (by omega) (by omega), e j (by omega) (by omega)]
  exact h i j hi hi2 hj hj2
/-- Both halves sorted: the whole is. -/
theorem mg_both {F G H K : Nat → Nat} {a mid b : Nat} (h1 : a ≤ mid) (h2 : mid ≤ b) (hS : Sm F G a b) (hO : ∀ j, (j < a ∨ b ≤ j) → G j = F j) (hX : ∀ i j, a ≤ i → i < mid → mid ≤ j → j < b → lt2 key (G i) (G j)) (hA : Mg key G H a mid) (hB : Mg key H K mid b) : Mg key F K a b := by
  obtain ⟨a1, a2, a3⟩ := hA
  obtain ⟨b1, b2, b3⟩ := hB
  refine ⟨?_, ?_, ?_⟩
  · intro i j hi hij hj
    by_cases c1 : j < mid
    · rw [b3 i (.inl (by omega)), b3 j (.inl c1)]
      exact a1 i j hi hij c1
    · by_cases c2 : mid ≤ i
      · exact b1 i j c2 hij hj
      · rw [b3 i (.inl (by omega))]
        obtain ⟨i', x1, x2, x3⟩ := a2.1 i hi (by omega)
        obtain ⟨j', y1, y2, y3⟩ := b2.1 j (by omega) hj
        rw [x3, y3, a3 j' (.inr y1)]
        exact hX i' j' x1 x2 y1 y2
  · exact hS.trans ((a2.wide a3 (Nat.le_refl _) h2).trans (b2.wide b3 h1 (Nat.le_refl _)))
  · intro j hj
    rw [b3 j (by omega), a3 j (by omega), hO j hj]

/-- Of equal keys who stands ahead has the lower number, also behind a merge. -/
theorem tg_mg {F G : Nat → Nat} {a b n : Nat} (h : TG key F n) (hb : b ≤ n) (hM : Mg key F G a b) : TG key G n := by
  obtain ⟨m1, m2, m3⟩ := hM
  intro i j hij hj hk
  by_cases c1 : a ≤ i ∧ i < b
  · by_cases c2 : j < b
    · rcases m1 i j c1.1 hij c2 with h1 | h1
      · omega
      · exact h1.2
    · obtain ⟨i', x1, x2, x3⟩ := m2.1 i c1.1 c1.2
      rw [m3 j (by omega), x3] at hk ⊢
      exact h i' j (by omega) hj hk
  · by_cases c2 : a ≤ j ∧ j < b
    · obtain ⟨j', x1, x2, x3⟩ := m2.1 j c2.1 c2.2
      rw [m3 i (by omega), x3] at hk ⊢
      exact h i j' (by omega) (by omega) hk
    · rw [m3 i (by omega), m3 j (by omega)] at hk ⊢
      exact h i j hij hj hk
theorem tg_tt {F : Nat → Nat} {n a m b : Nat} (h : TG key F n) (hb : b ≤ n) : TT key F a m b := fun i j h1 h2 h3 h4 => h i j (by omega) (by omega)
end
end Go.Proofs.YtabcfmpmkdoieaaDoor.cal
