/- Package wire in plain words: what is wrong with a command. -/
import Derived.Test.YtndkabnmffgebaaDoorMeeOrd
import Derived.Test.YtndkabnmffgebaaDoorWirPure0
namespace Go.Proofs.YtndkabnmffgebaaDoor.wir
open Go.RowKit
open Go.Proofs.YtndkabnmffgebaaDoor.ord (O chk)

/-- Does a number lie between these? -/
def inB (n lo hi : Int) : Bool := decide (lo ≤ n) && decide (n ≤ hi)
/-- What is wrong with what is written of a command. -/
def wchk (xs : List Int) : Int :=
  if xs[0]! = 1 then chk ⟨xs[1]!, xs[2]!, xs[3]!, xs[4]!, xs[5]!, xs[6]!, xs[7]!, xs[8]!⟩
  else if xs[0]! = 2 then (if inB xs[1]! 1 9999 then 0 else 1)
  else if xs[0]! = 3 then (if inB xs[1]! 1 9999 && inB xs[5]! 1 10000 && inB xs[6]! 1 10000 then 0 else 1)
  else if xs[0]! = 4 ∨ xs[0]! = 5 then (if inB xs[9]! 1 9 && inB xs[10]! 1 1000000000 then 0 else 1)
  else 1
/-- Fields at naught. -/
def zap (xs : List Int) (fs : List (Nat × Nat)) : List Int := fs.foldl (fun l f => l.set f.1 0) xs
/-- What is wrong with a command. -/
def cchk (xs : List Int) : Int :=
  if wchk xs = 0 then (if zap xs (offs (xs[0]!)) = zero11 then 0 else 3) else wchk xs

theorem list11 {l : List Int} (h : l.length = 11) : ∃ c0 c1 c2 c3 c4 c5 c6 c7 c8 c9 c10, l = [c0, c1, c2, c3, c4, c5, c6, c7, c8, c9, c10] := by
  match l, h with
  | [c0, c1, c2, c3, c4, c5, c6, c7, c8, c9, c10], _ => exact ⟨c0, c1, c2, c3, c4, c5, c6, c7, c8, c9, c10, rfl⟩

/-- A command with which nothing is wrong, kind by kind. -/
theorem good_form {xs : List Int} (hl : xs.length = 11) (h : cchk xs = 0) :
    (∃ a b c d p q s t, xs = [1, a, b, c, d, p, q, s, t, 0, 0] ∧ chk ⟨a, b, c, d, p, q, s, t⟩ = 0) ∨
    (∃ a, xs = [2, a, 0, 0, 0, 0, 0, 0, 0, 0, 0] ∧ 1 ≤ a ∧ a ≤ 9999) ∨
    (∃ a p q, xs = [3, a, 0, 0, 0, p, q, 0, 0, 0, 0] ∧ 1 ≤ a ∧ a ≤ 9999 ∧ 1 ≤ p ∧ p ≤ 10000 ∧ 1 ≤ q ∧ q ≤ 10000) ∨
    (∃ k w n, xs = [k, 0, 0, 0, 0, 0, 0, 0, 0, w, n] ∧ (k = 4 ∨ k = 5) ∧ 1 ≤ w ∧ w ≤ 9 ∧ 1 ≤ n ∧ n ≤ 1000000000) := by
  obtain ⟨c0, c1, c2, c3, c4, c5, c6, c7, c8, c9, c10, rfl⟩ := list11 hl
  have hw : wchk [c0, c1, c2, c3, c4, c5, c6, c7, c8, c9, c10] = 0 := by
    unfold cchk at h
    split at h
    · assumption
    · exact h
  have hz : zap [c0, c1, c2, c3, c4, c5, c6, c7, c8, c9, c10] (offs c0) = zero11 := by
    unfold cchk at h
    rw [if_pos hw] at h
    have h' : (if zap [c0, c1, c2, c3, c4, c5, c6, c7, c8, c9, c10] (offs c0) = zero11 then (0 : Int) else 3) = 0 := h
    split at h'
    · assumption
    · cases h'
  clear h
  have hw2 : (if c0 = 1 then chk ⟨c1, c2, c3, c4, c5, c6, c7, c8⟩
    else if c0 = 2 then (if inB c1 1 9999 then 0 else 1)
    else if c0 = 3 then (if inB c1 1 9999 && inB c5 1 10000 && inB c6 1 10000 then 0 else 1)
    else if c0 = 4 ∨ c0 = 5 then (if inB c9 1 9 && inB c10 1 1000000000 then 0 else 1)
    else 1) = 0 := hw
  clear hw
  by_cases h1 : c0 = 1
  · subst h1
    rw [if_pos rfl] at hw2
    have : [(0 : Int), 0, 0, 0, 0, 0, 0, 0, 0, c9, c10] = zero11 := hz
    simp only [zero11, List.cons.injEq, and_true, true_and] at this
    obtain ⟨rfl, rfl⟩ := this
    exact .inl ⟨c1, c2, c3, c4, c5, c6, c7, c8, rfl, hw2⟩
  by_cases h2 : c0 = 2
  · subst h2
    have : [(0 : Int), 0, c2, c3, c4, c5, c6, c7, c8, c9, c10] = zero11 := hz
    simp only [zero11, List.cons.injEq, and_true, true_and] at this
    obtain ⟨rfl, rfl, rfl, rfl, rfl, rfl, rfl, rfl, rfl⟩ := this
    simp [inB] at hw2
    exact .inr (.inl ⟨c1, rfl, hw2.1, hw2.2⟩)
  by_cases h3 : c0 = 3
  · subst h3
    have : [(0 : Int), 0, c2, c3, c4, 0, 0, c7, c8, c9, c10] = zero11 := hz
    simp only [zero11, List.cons.injEq, and_true, true_and] at this
    obtain ⟨rfl, rfl, rfl, rfl, rfl, rfl, rfl⟩ := this
    simp [inB] at hw2
    exact .inr (.inr (.inl ⟨c1, c5, c6, rfl, by omega, by omega, by omega, by omega, by omega, by omega⟩))
  by_cases h4 : c0 = 4 ∨ c0 = 5
  · rw [if_neg h1, if_neg h2, if_neg h3, if_pos h4] at hw2
    have : [(0 : Int), c1, c2, c3, c4, c5, c6, c7, c8, 0, 0] = zero11 := by
      rw [← hz]
      simp only [offs, if_neg h1, if_neg h2, if_neg h3, if_pos h4, zap, List.foldl, List.set]
    simp only [zero11, List.cons.injEq, and_true, true_and] at this
    obtain ⟨rfl, rfl, rfl, rfl, rfl, rfl, rfl, rfl⟩ := this
    simp [inB] at hw2
    exact .inr (.inr (.inr ⟨c0, c9, c10, rfl, h4, by omega, by omega, by omega, by omega⟩))
  · rw [if_neg h1, if_neg h2, if_neg h3, if_neg h4] at hw2
    cases hw2

theorem chk_bounds {a b c d p q s t : Int} (h : chk ⟨a, b, c, d, p, q, s, t⟩ = 0) : (1 ≤ a ∧ a ≤ 9999) ∧ (1 ≤ b ∧ b ≤ 9) ∧ (1 ≤ c ∧ c ≤ 2) ∧ (1 ≤ d ∧ d ≤ 5) ∧ (0 ≤ p ∧ p ≤ 10000) ∧ (1 ≤ q ∧ q ≤ 10000) ∧ (0 ≤ s ∧ s ≤ 10000) ∧ (0 ≤ t ∧ t ≤ 10000) := by
  obtain ⟨h1, h2, h3, h4, h5⟩ := ord.chk_zero h
  simp only [ord.headB, Bool.and_eq_true, decide_eq_true_eq] at h1
  simp only [ord.priceOkB, ord.prB] at h2
  simp only [ord.qtyB, Bool.and_eq_true, decide_eq_true_eq] at h3
  simp only [ord.stopB, ord.prB, Bool.or_eq_true, Bool.and_eq_true, decide_eq_true_eq] at h5
  have hp : 0 ≤ p ∧ p ≤ 10000 := by
    split at h2
    · simp only [decide_eq_true_eq] at h2; omega
    · simp only [Bool.and_eq_true, decide_eq_true_eq] at h2; omega
  omega

/-- The bytes of a command say that command. -/
theorem rd_enc {xs : List Int} (hl : xs.length = 11) (h : cchk xs = 0) : rd (enc xs) = xs := by
  rcases good_form hl h with ⟨a, b, c, d, p, q, s, t, rfl, hc⟩ | ⟨a, rfl, h1, h2⟩ | ⟨a, p, q, rfl, h1, h2, h3, h4, h5, h6⟩ | ⟨k, w, n, rfl, hk, h1, h2, h3, h4⟩
  · obtain ⟨⟨a1, a2⟩, ⟨b1, b2⟩, ⟨c1, c2⟩, ⟨d1, d2⟩, ⟨p1, p2⟩, ⟨q1, q2⟩, ⟨s1, s2⟩, ⟨t1, t2⟩⟩ := chk_bounds hc
    clear hc hl h
    generalize hL : lastB (wrs [1, a, b, c, d, p, q, s, t, 0, 0] (offs 1)) = L
    have e : enc [1, a, b, c, d, p, q, s, t, 0, 0] = wrt 1 1 ++ (wrt a 2 ++ (wrt b 2 ++ (wrt c 2 ++ (wrt d 2 ++ (wrt p 2 ++ (wrt q 2 ++ (wrt s 2 ++ (wrt t 2 ++ [L])))))))) := by
      rw [← hL]; rfl
    rw [e]
    show rdl (zero11.set 0 ((bt 1 0).toNat : Int)) (wrt 1 1 ++ (wrt a 2 ++ (wrt b 2 ++ (wrt c 2 ++ (wrt d 2 ++ (wrt p 2 ++ (wrt q 2 ++ (wrt s 2 ++ (wrt t 2 ++ [L]))))))))) (offs ((bt 1 0).toNat : Int)) = _
    rw [bt_head 1 (by decide) (by decide)]
    show rdl _ _ [(0, 1), (1, 2), (2, 2), (3, 2), (4, 2), (5, 2), (6, 2), (7, 2), (8, 2)] = _
    rw [rdl_step (vl1 (by decide) (by decide)), rdl_step (vl2 (by omega) (by omega)), rdl_step (vl2 (by omega) (by omega)), rdl_step (vl2 (by omega) (by omega)), rdl_step (vl2 (by omega) (by omega)), rdl_step (vl2 (by omega) (by omega)), rdl_step (vl2 (by omega) (by omega)), rdl_step (vl2 (by omega) (by omega)), rdl_step (vl2 (by omega) (by omega))]
    rfl
  · generalize hL : lastB (wrs [2, a, 0, 0, 0, 0, 0, 0, 0, 0, 0] (offs 2)) = L
    have e : enc [2, a, 0, 0, 0, 0, 0, 0, 0, 0, 0] = wrt 2 1 ++ (wrt a 2 ++ [L]) := by rw [← hL]; rfl
    rw [e]
    show rdl (zero11.set 0 ((bt 2 0).toNat : Int)) (wrt 2 1 ++ (wrt a 2 ++ [L])) (offs ((bt 2 0).toNat : Int)) = _
    rw [bt_head 2 (by decide) (by decide)]
    show rdl _ _ [(0, 1), (1, 2)] = _
    rw [rdl_step (vl1 (by decide) (by decide)), rdl_step (vl2 (by omega) (by omega))]
    rfl
  · generalize hL : lastB (wrs [3, a, 0, 0, 0, p, q, 0, 0, 0, 0] (offs 3)) = L
    have e : enc [3, a, 0, 0, 0, p, q, 0, 0, 0, 0] = wrt 3 1 ++ (wrt a 2 ++ (wrt p 2 ++ (wrt q 2 ++ [L]))) := by rw [← hL]; rfl
    rw [e]
    show rdl (zero11.set 0 ((bt 3 0).toNat : Int)) (wrt 3 1 ++ (wrt a 2 ++ (wrt p 2 ++ (wrt q 2 ++ [L])))) (offs ((bt 3 0).toNat : Int)) = _
    rw [bt_head 3 (by decide) (by decide)]
    show rdl _ _ [(0, 1), (1, 2), (5, 2), (6, 2)] = _
    rw [rdl_step (vl1 (by decide) (by decide)), rdl_step (vl2 (by omega) (by omega)), rdl_step (vl2 (by omega) (by omega)), rdl_step (vl2 (by omega) (by omega))]
    rfl
  · have ho : offs k = [(0, 1), (9, 1), (10, 4)] := by rcases hk with rfl | rfl <;> rfl
    generalize hL : lastB (wrs [k, 0, 0, 0, 0, 0, 0, 0, 0, w, n] (offs k)) = L
    have e : enc [k, 0, 0, 0, 0, 0, 0, 0, 0, w, n] = wrt k 1 ++ (wrt w 1 ++ (wrt n 4 ++ [L])) := by
      show wrs [k, 0, 0, 0, 0, 0, 0, 0, 0, w, n] (offs k) ++ [lastB (wrs [k, 0, 0, 0, 0, 0, 0, 0, 0, w, n] (offs k))] = _
      rw [hL, ho]; rfl
    rw [e]
    show rdl (zero11.set 0 ((bt k 0).toNat : Int)) (wrt k 1 ++ (wrt w 1 ++ (wrt n 4 ++ [L]))) (offs ((bt k 0).toNat : Int)) = _
    rw [bt_head k (by omega) (by omega), ho, rdl_step (vl1 (by omega) (by omega)), rdl_step (vl1 (by omega) (by omega)), rdl_step (vl4 (by omega) (by omega))]
    rfl
/-- How many bytes a command has. -/
def lenE (k : Int) : Nat := if k = 1 then 18 else if k = 2 then 4 else if k = 3 then 8 else 7
theorem enc_length {xs : List Int} (hl : xs.length = 11) (h : cchk xs = 0) : (enc xs).length = lenE (xs[0]!) := by
  rcases good_form hl h with ⟨a, b, c, d, p, q, s, t, rfl, hc⟩ | ⟨a, rfl, h1, h2⟩ | ⟨a, p, q, rfl, h1, h2, h3, h4, h5, h6⟩ | ⟨k, w, n, rfl, hk, h1, h2, h3, h4⟩
  · rfl
  · rfl
  · rfl
  · rcases hk with rfl | rfl <;> rfl
end Go.Proofs.YtndkabnmffgebaaDoor.wir
