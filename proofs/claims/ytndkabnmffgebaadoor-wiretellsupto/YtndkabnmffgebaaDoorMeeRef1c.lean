/- Contracts over this seat's translation: the document's Order, at every order; Text, at every one that is right. -/
import Derived.Test.YtndkabnmffgebaaDoorMeeRef1a
import Derived.Test.YtndkabnmffgebaaDoorMeeRef1b
namespace Go.Proofs.YtndkabnmffgebaaDoor.ord
open Go.RowKit

theorem sdB_true {c : Int} (h : 1 ≤ c ∧ c ≤ 2) : sdB c = true := by
  unfold sdB
  have : c = 1 ∨ c = 2 := by omega
  rcases this with rfl | rfl <;> rfl
theorem sdB_false {c : Int} (h : ¬ (1 ≤ c ∧ c ≤ 2)) : sdB c = false := by
  unfold sdB
  simp only [Bool.or_eq_false_iff, decide_eq_false_iff_not]
  omega
theorem head_iff (a b c d p q s t : Int) : headB ⟨a, b, c, d, p, q, s, t⟩ = true ↔ (1 ≤ a ∧ a ≤ 9999 ∧ 1 ≤ b ∧ b ≤ 9 ∧ 1 ≤ c ∧ c ≤ 2 ∧ 1 ≤ d ∧ d ≤ 5) := by
  unfold headB
  simp only [Bool.and_eq_true, decide_eq_true_eq]
  omega
theorem qty_iff (a b c d p q s t : Int) : qtyB ⟨a, b, c, d, p, q, s, t⟩ = true ↔ (1 ≤ q ∧ q ≤ 10000 ∧ 0 ≤ s ∧ s ≤ q) := by
  unfold qtyB
  simp only [Bool.and_eq_true, decide_eq_true_eq]
  omega
theorem shape_iff (a b c d p q s t : Int) : shapeB ⟨a, b, c, d, p, q, s, t⟩ = true ↔ (s = 0 ∨ d = 1 ∨ d = 5) := by
  unfold shapeB
  simp only [Bool.or_eq_true, decide_eq_true_eq]
  omega
theorem beq_no {x k : Int} (h : ¬ x = k) : (x == k) = false := beq_eq_false_iff_ne.2 h

/-- Order, at every order. -/
theorem rord_any (o : O) (w : World) :
    Calls Tryd.prog 15 #[oV o] w fun e w' => e = .returned (.int .i64 (chk o)) ∧ Below w.heap.size w w' := by
  obtain ⟨a, b, c, d, p, q, s, t⟩ := o
  unfold chk
  cases h1 : headB ⟨a, b, c, d, p, q, s, t⟩
  · have hn : ¬ (1 ≤ a ∧ a ≤ 9999 ∧ 1 ≤ b ∧ b ≤ 9 ∧ 1 ≤ c ∧ c ≤ 2 ∧ 1 ≤ d ∧ d ≤ 5) := by rw [← head_iff a b c d p q s t, h1]; simp
    show Calls _ _ _ _ fun e w' => e = .returned (.int .i64 1) ∧ _
    by_cases a1 : a < 1
    · exact rord_h0 a b c d p q s t w a1
    by_cases a2 : 9999 < a
    · exact rord_h1 a b c d p q s t w (by omega) a2
    by_cases b1 : b < 1
    · exact rord_h2 a b c d p q s t w (by omega) (by omega) b1
    by_cases b2 : 9 < b
    · exact rord_h3 a b c d p q s t w (by omega) (by omega) (by omega) b2
    by_cases c1 : 1 ≤ c ∧ c ≤ 2
    · by_cases d1 : d < 1
      · exact rord_h5 a b c d p q s t w (by omega) (by omega) (by omega) (by omega) (sdB_true c1) d1
      · exact rord_h6 a b c d p q s t w (by omega) (by omega) (by omega) (by omega) (sdB_true c1) (by omega) (by omega)
    · exact rord_h4 a b c d p q s t w (by omega) (by omega) (by omega) (by omega) (sdB_false c1)
  obtain ⟨a1, a2, b1, b2, c1, c2, d1, d2⟩ := (head_iff a b c d p q s t).1 h1
  have cs := sdB_true ⟨c1, c2⟩
  have eP : priceOkB ⟨a, b, c, d, p, q, s, t⟩ = (if d = 2 then decide (p = 0) else prB p) := rfl
  cases h2 : priceOkB ⟨a, b, c, d, p, q, s, t⟩
  · show Calls _ _ _ _ fun e w' => e = .returned (.int .i64 1) ∧ _
    by_cases k : d = 2
    · subst k
      rw [h2, if_pos rfl] at eP
      exact rord_p0 a b c p q s t w a1 a2 b1 b2 cs (of_decide_eq_false eP.symm)
    · rw [h2, if_neg k] at eP
      exact rord_p1 a b c d p q s t w a1 a2 b1 b2 cs d1 d2 k (beq_no k) eP.symm
  rw [h2] at eP
  cases h3 : qtyB ⟨a, b, c, d, p, q, s, t⟩
  · have hn : ¬ (1 ≤ q ∧ q ≤ 10000 ∧ 0 ≤ s ∧ s ≤ q) := by rw [← qty_iff a b c d p q s t, h3]; simp
    show Calls _ _ _ _ fun e w' => e = .returned (.int .i64 1) ∧ _
    by_cases k : d = 2
    · subst k
      rw [if_pos rfl] at eP
      have := of_decide_eq_true eP.symm
      subst this
      by_cases q1 : q < 1
      · exact rord_q10 a b c q s t w a1 a2 b1 b2 cs q1
      by_cases q2 : 10000 < q
      · exact rord_q11 a b c q s t w a1 a2 b1 b2 cs (by omega) q2
      by_cases s1 : s < 0
      · exact rord_q12 a b c q s t w a1 a2 b1 b2 cs (by omega) (by omega) s1
      · exact rord_q13 a b c q s t w a1 a2 b1 b2 cs (by omega) (by omega) (by omega) (by omega)
    · rw [if_neg k] at eP
      by_cases q1 : q < 1
      · exact rord_q20 a b c d p q s t w a1 a2 b1 b2 cs d1 d2 k (beq_no k) eP.symm q1
      by_cases q2 : 10000 < q
      · exact rord_q21 a b c d p q s t w a1 a2 b1 b2 cs d1 d2 k (beq_no k) eP.symm (by omega) q2
      by_cases s1 : s < 0
      · exact rord_q22 a b c d p q s t w a1 a2 b1 b2 cs d1 d2 k (beq_no k) eP.symm (by omega) (by omega) s1
      · exact rord_q23 a b c d p q s t w a1 a2 b1 b2 cs d1 d2 k (beq_no k) eP.symm (by omega) (by omega) (by omega) (by omega)
  obtain ⟨q1, q2, s1, s2⟩ := (qty_iff a b c d p q s t).1 h3
  cases h4 : shapeB ⟨a, b, c, d, p, q, s, t⟩
  · have hn : ¬ (s = 0 ∨ d = 1 ∨ d = 5) := by rw [← shape_iff a b c d p q s t, h4]; simp
    show Calls _ _ _ _ fun e w' => e = .returned (.int .i64 3) ∧ _
    have k0 : ¬ s = 0 := by omega
    have : d = 2 ∨ d = 3 ∨ d = 4 := by omega
    rcases this with rfl | rfl | rfl
    · rw [if_pos rfl] at eP
      have := of_decide_eq_true eP.symm
      subst this
      exact rord_s1 a b c q s t w a1 a2 b1 b2 cs q1 q2 s1 s2 k0 (beq_no k0)
    · rw [if_neg (by omega)] at eP
      exact rord_s3 a b c p q s t w a1 a2 b1 b2 cs eP.symm q1 q2 s1 s2 k0 (beq_no k0)
    · rw [if_neg (by omega)] at eP
      exact rord_s4 a b c p q s t w a1 a2 b1 b2 cs eP.symm q1 q2 s1 s2 k0 (beq_no k0)
  have hs := (shape_iff a b c d p q s t).1 h4
  by_cases t0 : t = 0
  · subst t0
    have h5 : stopB ⟨a, b, c, d, p, q, s, 0⟩ = true := by unfold stopB; simp
    rw [h5]
    show Calls _ _ _ _ fun e w' => e = .returned (.int .i64 0) ∧ _
    by_cases k0 : s = 0
    · subst k0
      by_cases k : d = 2
      · subst k
        rw [if_pos rfl] at eP
        have := of_decide_eq_true eP.symm
        subst this
        exact rord_t0a a b c q w a1 a2 b1 b2 cs q1 q2
      · rw [if_neg k] at eP
        exact rord_t0b a b c d p q w a1 a2 b1 b2 cs d1 d2 k (beq_no k) eP.symm q1 q2
    · have : d = 1 ∨ d = 5 := by omega
      rcases this with rfl | rfl
      · rw [if_neg (by omega)] at eP
        exact rord_t0c a b c p q s w a1 a2 b1 b2 cs eP.symm q1 q2 s1 s2 k0 (beq_no k0)
      · rw [if_neg (by omega)] at eP
        exact rord_t0d a b c p q s w a1 a2 b1 b2 cs eP.symm q1 q2 s1 s2 k0 (beq_no k0)
  · have e5 : stopB ⟨a, b, c, d, p, q, s, t⟩ = prB t := by unfold stopB; simp [t0]
    rw [e5]
    cases h5 : prB t
    · show Calls _ _ _ _ fun e w' => e = .returned (.int .i64 1) ∧ _
      by_cases k0 : s = 0
      · subst k0
        by_cases k : d = 2
        · subst k
          rw [if_pos rfl] at eP
          have := of_decide_eq_true eP.symm
          subst this
          exact rord_t1a a b c q t w a1 a2 b1 b2 cs q1 q2 t0 (beq_no t0) h5
        · rw [if_neg k] at eP
          exact rord_t1b a b c d p q t w a1 a2 b1 b2 cs d1 d2 k (beq_no k) eP.symm q1 q2 t0 (beq_no t0) h5
      · have : d = 1 ∨ d = 5 := by omega
        rcases this with rfl | rfl
        · rw [if_neg (by omega)] at eP
          exact rord_t1c a b c p q s t w a1 a2 b1 b2 cs eP.symm q1 q2 s1 s2 k0 (beq_no k0) t0 (beq_no t0) h5
        · rw [if_neg (by omega)] at eP
          exact rord_t1d a b c p q s t w a1 a2 b1 b2 cs eP.symm q1 q2 s1 s2 k0 (beq_no k0) t0 (beq_no t0) h5
    · show Calls _ _ _ _ fun e w' => e = .returned (.int .i64 0) ∧ _
      by_cases k0 : s = 0
      · subst k0
        by_cases k : d = 2
        · subst k
          rw [if_pos rfl] at eP
          have := of_decide_eq_true eP.symm
          subst this
          exact rord_t2a a b c q t w a1 a2 b1 b2 cs q1 q2 t0 (beq_no t0) h5
        · rw [if_neg k] at eP
          exact rord_t2b a b c d p q t w a1 a2 b1 b2 cs d1 d2 k (beq_no k) eP.symm q1 q2 t0 (beq_no t0) h5
      · have : d = 1 ∨ d = 5 := by omega
        rcases this with rfl | rfl
        · rw [if_neg (by omega)] at eP
          exact rord_t2c a b c p q s t w a1 a2 b1 b2 cs eP.symm q1 q2 s1 s2 k0 (beq_no k0) t0 (beq_no t0) h5
        · rw [if_neg (by omega)] at eP
          exact rord_t2d a b c p q s t w a1 a2 b1 b2 cs eP.symm q1 q2 s1 s2 k0 (beq_no k0) t0 (beq_no t0) h5
end Go.Proofs.YtndkabnmffgebaaDoor.ord
