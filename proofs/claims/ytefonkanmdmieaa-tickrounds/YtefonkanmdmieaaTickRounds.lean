/-
  Proved: 'Rows.TickRoundsSaid': the call of 'pitfloor/pitlaw1.TickRounds' returns true at every four numbers: what is rounded stands on its tick, is no worse, within a tick, and rounded twice the same; of two prices one is better, or they are the same. No conditions.
  The frame is the proof skeleton's; the walk is ours.
-/
import Derived.Test.YtefonkanmdmieaaRows
import Derived.WalkKit
import Derived.ProofKit
import Derived.OpenShut
import Derived.Test.YtefonkanmdmieaaTickS2
namespace Go.Proofs.Ytefonkanmdmieaa.tickRounds
open Go.ChangeShapes Go.WideShapes Go.ChangeAt Go.RowKit
set_option linter.unusedVariables false      -- a walk need not use every 'w<i>' (that an integer argument fits its kind)

theorem own : ownKnob Try.prog.godebug = none := by kernel_rfl

/-! ### STEP 1: THE WALK: the Go text returns true. Part the cases AHEAD of 'go_enter' where a test parts the walk; take each callee by a contract of your own. -/
open tickS

theorem bet_ok_swap (s p q : Int) : betOk s q p = betOk s p q := by unfold betOk; rw [Bool.and_comm (priceB q)]
/-- Of two prices not both are better, and where neither is they are the same. -/
theorem bet_two {s p q : Int} (h : betOk s p q = true) : (betR s p q = true ∧ betR s q p = false) ∨ (betR s p q = false ∧ betR s q p = true) ∨ (betR s p q = false ∧ betR s q p = false ∧ p = q) := by
  have h' : betOk s q p = true := by rw [bet_ok_swap]; exact h
  unfold betR
  rw [h, h']
  by_cases hs : s = 1
  · simp only [if_pos hs, Bool.true_and, decide_eq_true_eq, decide_eq_false_iff_not]; omega
  · simp only [if_neg hs, Bool.true_and, decide_eq_true_eq, decide_eq_false_iff_not]; omega

theorem emod_low (p t : Int) : (p - p % t) % t = 0 := by
  have h := Int.mul_ediv_add_emod p t
  have e : p - p % t = t * (p / t) := by omega
  rw [e]; exact Int.mul_emod_right t (p / t)
theorem emod_high (p t : Int) : (p - p % t + t) % t = 0 := by
  rw [Int.add_emod_right]; exact emod_low p t

/-- What Round comes to where it comes to a price. -/
theorem rnd_facts {p t s : Int} (h : rndOk p t s = true) :
    ∃ k, rndR p t s = k ∧ 1 ≤ k ∧ k ≤ 10000 ∧ 1 ≤ p ∧ p ≤ 10000 ∧ 1 ≤ t ∧ t ≤ 100 ∧ k - p < t ∧ p - k < t ∧ onR k t = true ∧ onOk k t = true ∧ betR s p k = false ∧ betOk s p k = true ∧ rndR k t s = k ∧ rndOk k t s = true := by
  have hv : rndR p t s = roundI p t s := by unfold rndR; rw [if_pos h]
  have h' := h
  simp only [rndOk, onOk, priceB, tickB, sideB, Bool.and_eq_true, Bool.or_eq_true, decide_eq_true_eq] at h'
  obtain ⟨⟨⟨⟨p1, p2⟩, t1, t2⟩, hs⟩, k1, k2⟩ := h'
  have m0 : 0 ≤ p % t := Int.emod_nonneg _ (by omega)
  have m1 : p % t < t := Int.emod_lt_of_pos _ (by omega)
  have key : ∃ k, roundI p t s = k ∧ k - p < t ∧ p - k < t ∧ k % t = 0 ∧ (s = 1 → k ≤ p) ∧ (s = 2 → p ≤ k) := by
    refine ⟨_, rfl, ?_⟩
    unfold roundI
    by_cases hm : s = 2 ∧ 0 < p % t
    · rw [if_pos hm]; exact ⟨by omega, by omega, emod_high p t, by omega, by omega⟩
    · rw [if_neg hm]; exact ⟨by omega, by omega, emod_low p t, by omega, by omega⟩
  obtain ⟨k, hk, n1, n2, n3, n4, n5⟩ := key
  rw [hk] at k1 k2 hv
  have hpk : priceB k = true := by simp [priceB, k1, k2]
  have hpp : priceB p = true := by simp [priceB, p1, p2]
  have htt : tickB t = true := by simp [tickB, t1, t2]
  have hss : sideB s = true := by simpa [sideB] using hs
  have hon : onOk k t = true := by simp [onOk, hpk, htt]
  have hbo : betOk s p k = true := by simp [betOk, hss, hpp, hpk]
  have hrk : roundI k t s = k := by unfold roundI; rw [if_neg (by omega)]; omega
  have hro : rndOk k t s = true := by simp [rndOk, hon, hss, hrk, hpk]
  refine ⟨k, hv, k1, k2, p1, p2, t1, t2, n1, n2, ?_, hon, ?_, hbo, ?_, hro⟩
  · simp [onR, hon, n3]
  · unfold betR; rw [hbo, Bool.true_and]
    rcases hs with rfl | rfl
    · have := n4 rfl; simp; omega
    · have := n5 rfl; simp; omega
  · unfold rndR; rw [if_pos hro, hrk]

theorem walk (a0 : Int) (a1 : Int) (a2 : Int) (a3 : Int) (w0 : (Lit.int .i64 a0).wf = true) (w1 : (Lit.int .i64 a1).wf = true) (w2 : (Lit.int .i64 a2).wf = true) (w3 : (Lit.int .i64 a3).wf = true) (w : World) :
    Calls Try.prog 4 #[.int .i64 a0, .int .i64 a1, .int .i64 a2, .int .i64 a3] w fun e w' => e = .returned (.bool true) ∧ Below w.heap.size w w' := by
  clear w0 w1 w2 w3
  have f1 : rndR 17 5 2 = 20 := by decide
  have f2 : errB (rndOk 17 5 2) = .nilIface := by rfl
  have first : (∃ u, errB (betOk a3 a0 a1) = .iface 23 u) ∨ (errB (betOk a3 a0 a1) = .nilIface ∧ errB (betOk a3 a1 a0) = .nilIface ∧ ((betR a3 a0 a1 = true ∧ betR a3 a1 a0 = false) ∨ (betR a3 a0 a1 = false ∧ betR a3 a1 a0 = true) ∨ (betR a3 a0 a1 = false ∧ betR a3 a1 a0 = false ∧ a0 = a1))) := by
    cases h : betOk a3 a0 a1
    · exact Or.inl ⟨_, rfl⟩
    · have h' : betOk a3 a1 a0 = true := by rw [bet_ok_swap]; exact h
      rw [h']; exact Or.inr ⟨rfl, rfl, bet_two h⟩
  have last : (∃ u, errB (rndOk a0 a2 a3) = .iface 23 u) ∨ (errB (rndOk a0 a2 a3) = .nilIface ∧ ∃ k, rndR a0 a2 a3 = k ∧ 1 ≤ k ∧ k ≤ 10000 ∧ 1 ≤ a0 ∧ a0 ≤ 10000 ∧ 1 ≤ a2 ∧ a2 ≤ 100 ∧ k - a0 < a2 ∧ a0 - k < a2 ∧ onR k a2 = true ∧ errB (onOk k a2) = .nilIface ∧ betR a3 a0 k = false ∧ errB (betOk a3 a0 k) = .nilIface ∧ rndR k a2 a3 = k ∧ errB (rndOk k a2 a3) = .nilIface) := by
    cases h : rndOk a0 a2 a3
    · exact Or.inl ⟨_, rfl⟩
    · obtain ⟨k, e1, e2, e3, e4, e5, e6, e7, e8, e9, e10, e11, e12, e13, e14, e15⟩ := rnd_facts h
      exact Or.inr ⟨rfl, k, e1, e2, e3, e4, e5, e6, e7, e8, e9, e10, by rw [e11]; rfl, e12, by rw [e13]; rfl, e14, by rw [e15]; rfl⟩
  rcases first with ⟨u, g1⟩ | ⟨g1, g2, ⟨x, y⟩ | ⟨x, y⟩ | ⟨x, y, rfl⟩⟩
  all_goals rcases last with ⟨u, l1⟩ | ⟨l1, k, l2, l3, l4, l5, l6, l7, l8, l9, l10, l11, l12, l13, l14, l15, l16⟩
  all_goals
    go_enter Try.func4, Try.ntmps4
    go_wp2_with (first | (go_at_call 7; refine (tickS.round_V w _ _ _ _ (by first | exact Below.refl _ _ | assumption)).mono ?_; rintro e w' ⟨rfl, hb0⟩) | (go_at_call 8; refine (tickS.better_V w _ _ _ _ (by first | exact Below.refl _ _ | assumption)).mono ?_; rintro e w' ⟨rfl, hb0⟩) | (go_at_call 9; refine (tickS.on_V w _ _ _ (by first | exact Below.refl _ _ | assumption)).mono ?_; rintro e w' ⟨rfl, hb0⟩))
    go_ret
    exact ⟨rfl, by assumption⟩

/-! ### THE ROW's STEP: WRITTEN OUT: LEAVE IT -/
set_option maxRecDepth 100000 in
theorem lifted (os : Os) (started : os.Started) (H : Type) (enc : TypeId × Value → H) :
    ReturnsInHanded {} Try.checked os 4 .any (Rows.tickRoundsSpec.pre6 enc Try.prog Try.f4 Rows.tickRoundsRow.domain false) (Rows.tickRoundsSpec.post enc Try.prog Try.f4 false true false false) := by
  refine returnsInHanded_of_change (C := Try.checked) own started (by kernel_rfl) Try.func4
    (ChangeSpec.witness6 (enc := enc) (C := Try.checked) false ⟨#[], #[.int .i64 0, .int .i64 0, .int .i64 0, .int .i64 0], []⟩ 8 (by kernel_rfl) (by kernel_rfl) (by kernel_rfl) (by kernel_rfl)) ?_
  intro W base args ds gs before hval0 hW hcnd _
  have hval : ∀ (j : Nat) t v, Try.f4.params[j]? = some t → args[j]? = some v → Value.okWide Try.prog W .any base t v := hval0
  have hW' := hW
  obtain ⟨p, q, hA0, hV, rfl, hfz, hnd⟩ := hW
  have hA : DataW.TrodAll enc Try.prog W 0 (fun _ => true) true Try.f4.params.toList args.toList ds p := hA0
  rw [Try.params4] at hA hval
  obtain ⟨v0, vs0, d0, ds0, p0, q0, hargs, rfl, rfl, h0, r0⟩ := trodAll_cons hA
  obtain ⟨v1, vs1, d1, ds1, p1, q1, rfl, rfl, rfl, h1, r1⟩ := trodAll_cons r0
  obtain ⟨v2, vs2, d2, ds2, p2, q2, rfl, rfl, rfl, h2, r2⟩ := trodAll_cons r1
  obtain ⟨v3, vs3, d3, ds3, p3, q3, rfl, rfl, rfl, h3, r3⟩ := trodAll_cons r2
  obtain ⟨rfl, rfl, rfl⟩ := trodAll_nil r3
  obtain rfl : args = #[v0, v1, v2, v3] := by cases args; simp_all
  obtain ⟨rfl, rfl⟩ := trodVars_none hV
  obtain ⟨a0, rfl, rfl, rfl, w0⟩ := open_int Try.underlying3 (hval 0 3 v0 rfl rfl) h0
  obtain ⟨a1, rfl, rfl, rfl, w1⟩ := open_int Try.underlying3 (hval 1 3 v1 rfl rfl) h1
  obtain ⟨a2, rfl, rfl, rfl, w2⟩ := open_int Try.underlying3 (hval 2 3 v2 rfl rfl) h2
  obtain ⟨a3, rfl, rfl, rfl, w3⟩ := open_int Try.underlying3 (hval 3 3 v3 rfl rfl) h3
  clear hA0 hval0
  simp only [List.append_nil] at hW'
  have e1 : Rows.tickRoundsSpec.fn H ([.lit (.int .i64 a0), .lit (.int .i64 a1), .lit (.int .i64 a2), .lit (.int .i64 a3)] ++ []) = { results := [.lit (.bool true)], args := [.lit (.int .i64 a0), .lit (.int .i64 a1), .lit (.int .i64 a2), .lit (.int .i64 a3)] } := by simp [Rows.tickRoundsSpec]
  refine (walk a0 a1 a2 a3 w0 w1 w2 w3 W).mono fun e W' ⟨he, hI⟩ => ?_
  subst he
  refine ⟨_, rfl, _, _, _, [], [], [], hW', ?_, ?_, ?_, hI.frame _, fun h => by cases h⟩
  · rw [e1]; exact trodAll_mk1 (shut_bool Try.underlying4 true)
  · rw [e1]; exact trodAll_cons_mk (shut_int Try.underlying3 w0) (trodAll_cons_mk (shut_int Try.underlying3 w1) (trodAll_cons_mk (shut_int Try.underlying3 w2) (trodAll_cons_mk (shut_int Try.underlying3 w3) trodAll_mk0)))
  · rw [e1]; rfl

theorem over : Rows.tickRoundsRow.holds Try.pinned (OpenSpec.ofChange Rows.tickRoundsSpec) :=
  OpenClaim.holds_of_wide 4 Try.f4 rfl rfl rfl rfl rfl rfl rfl ⟨rfl, rfl, rfl, rfl, rfl⟩ rfl rfl rfl rfl rfl (by kernel_rfl) Try.func4 (by kernel_rfl)
    (of_decide_eq_true (by kernel_rfl)) (by unfold Func.isWrapper; first | (rw [if_pos (by decide +kernel)]; kernel_rfl) | (rw [if_neg (by decide +kernel)]; exact ⟨rfl, rfl⟩))
    (fun os started H enc _ => lifted os started H enc)

/-- ████ THE STATEMENT ████ -/
theorem proved : Rows.TickRoundsSaid :=
  over
#print axioms proved
end Go.Proofs.Ytefonkanmdmieaa.tickRounds
namespace Go.Proofs.Ytefonkanmdmieaa
theorem tickRounds_holds : Rows.TickRoundsSaid := tickRounds.proved
end Go.Proofs.Ytefonkanmdmieaa
