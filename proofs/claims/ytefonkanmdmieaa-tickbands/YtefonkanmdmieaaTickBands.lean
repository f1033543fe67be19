/-
  Proved: 'Rows.TickBandsSaid': the call of 'pitfloor/pitlaw4.TickBands' returns true at every four numbers: who is inside a band is inside each wider one. No conditions.
  The frame is the proof skeleton's; the walk is ours.
-/
import Derived.Test.YtefonkanmdmieaaRows
import Derived.WalkKit
import Derived.ProofKit
import Derived.OpenShut
import Derived.Test.YtefonkanmdmieaaTickS
namespace Go.Proofs.Ytefonkanmdmieaa.tickBands
open Go.ChangeShapes Go.WideShapes Go.ChangeAt Go.RowKit
set_option linter.unusedVariables false      -- a walk need not use every 'w<i>' (that an integer argument fits its kind)

theorem own : ownKnob Try.prog.godebug = none := by kernel_rfl

/-! ### STEP 1: THE WALK: the Go text returns true. Part the cases AHEAD of 'go_enter' where a test parts the walk; take each callee by a contract of your own. -/
theorem band_mono {p q a b : Int} (h : a ≤ b) (hb : tickS.bandOk p q b = true) (hx : tickS.bandR p q a = true) : tickS.bandR p q b = true := by
  unfold tickS.bandR at *
  rw [hb]
  have hq := hb
  simp [tickS.bandOk, tickS.priceB] at hq
  simp at hx
  obtain ⟨-, hx⟩ := hx
  unfold tickS.bandB at *
  have := Int.mul_le_mul_of_nonneg_right h (show 0 ≤ q by omega)
  simp only [decide_eq_true_eq, Bool.true_and] at *
  omega

theorem walk (a0 : Int) (a1 : Int) (a2 : Int) (a3 : Int) (w0 : (Lit.int .i64 a0).wf = true) (w1 : (Lit.int .i64 a1).wf = true) (w2 : (Lit.int .i64 a2).wf = true) (w3 : (Lit.int .i64 a3).wf = true) (w : World) :
    Calls Try.prog 5 #[.int .i64 a0, .int .i64 a1, .int .i64 a2, .int .i64 a3] w fun e w' => e = .returned (.bool true) ∧ Below w.heap.size w w' := by
  clear w0 w1 w2 w3
  have f1 : tickS.bandR 105 100 5 = true := by decide
  have f2 : tickS.errB (tickS.bandOk 105 100 5) = .nilIface := by rfl
  cases ha : tickS.bandOk a0 a1 a2
  · have g1 : tickS.errB (tickS.bandOk a0 a1 a2) = .iface 23 (.int .i64 1) := by rw [ha]; rfl
    clear ha
    go_enter Try.func5, Try.ntmps5
    go_wp2_with (go_at_call 10; refine (tickS.band_V w _ _ _ _ (by first | exact Below.refl _ _ | assumption)).mono ?_; rintro e w' ⟨rfl, hb0⟩)
    go_ret
    exact ⟨rfl, by assumption⟩
  · have g1 : tickS.errB (tickS.bandOk a0 a1 a2) = .nilIface := by rw [ha]; rfl
    clear ha
    cases hb : tickS.bandOk a0 a1 a3
    · have g2 : tickS.errB (tickS.bandOk a0 a1 a3) = .iface 23 (.int .i64 1) := by rw [hb]; rfl
      clear hb
      go_enter Try.func5, Try.ntmps5
      go_wp2_with (go_at_call 10; refine (tickS.band_V w _ _ _ _ (by first | exact Below.refl _ _ | assumption)).mono ?_; rintro e w' ⟨rfl, hb0⟩)
      go_ret
      exact ⟨rfl, by assumption⟩
    · have g2 : tickS.errB (tickS.bandOk a0 a1 a3) = .nilIface := by rw [hb]; rfl
      by_cases hab : a3 < a2
      · clear hb
        go_enter Try.func5, Try.ntmps5
        go_wp2_with (go_at_call 10; refine (tickS.band_V w _ _ _ _ (by first | exact Below.refl _ _ | assumption)).mono ?_; rintro e w' ⟨rfl, hb0⟩)
        go_ret
        exact ⟨rfl, by assumption⟩
      · have hle : a2 ≤ a3 := by omega
        clear hab
        cases hx : tickS.bandR a0 a1 a2
        · clear hb
          go_enter Try.func5, Try.ntmps5
          go_wp2_with (go_at_call 10; refine (tickS.band_V w _ _ _ _ (by first | exact Below.refl _ _ | assumption)).mono ?_; rintro e w' ⟨rfl, hb0⟩)
          go_ret
          exact ⟨rfl, by assumption⟩
        · have hy := band_mono hle hb hx
          clear hb
          go_enter Try.func5, Try.ntmps5
          go_wp2_with (go_at_call 10; refine (tickS.band_V w _ _ _ _ (by first | exact Below.refl _ _ | assumption)).mono ?_; rintro e w' ⟨rfl, hb0⟩)
          go_ret
          exact ⟨rfl, by assumption⟩

/-! ### THE ROW's STEP: WRITTEN OUT: LEAVE IT -/
set_option maxRecDepth 100000 in
theorem lifted (os : Os) (started : os.Started) (H : Type) (enc : TypeId × Value → H) :
    ReturnsInHanded {} Try.checked os 5 .any (Rows.tickBandsSpec.pre6 enc Try.prog Try.f5 Rows.tickBandsRow.domain false) (Rows.tickBandsSpec.post enc Try.prog Try.f5 false true false false) := by
  refine returnsInHanded_of_change (C := Try.checked) own started (by kernel_rfl) Try.func5
    (ChangeSpec.witness6 (enc := enc) (C := Try.checked) false ⟨#[], #[.int .i64 0, .int .i64 0, .int .i64 0, .int .i64 0], []⟩ 8 (by kernel_rfl) (by kernel_rfl) (by kernel_rfl) (by kernel_rfl)) ?_
  intro W base args ds gs before hval0 hW hcnd _
  have hval : ∀ (j : Nat) t v, Try.f5.params[j]? = some t → args[j]? = some v → Value.okWide Try.prog W .any base t v := hval0
  have hW' := hW
  obtain ⟨p, q, hA0, hV, rfl, hfz, hnd⟩ := hW
  have hA : DataW.TrodAll enc Try.prog W 0 (fun _ => true) true Try.f5.params.toList args.toList ds p := hA0
  rw [Try.params5] at hA hval
  obtain ⟨v0, vs0, d0, ds0, p0, q0, hargs, rfl, rfl, h0, r0⟩ := trodAll_cons hA
  obtain ⟨v1, vs1, d1, ds1, p1, q1, rfl, rfl, rfl, h1, r1⟩ := trodAll_cons r0
  obtain ⟨v2, vs2, d2, ds2, p2, q2, rfl, rfl, rfl, h2, r2⟩ := trodAll_cons r1
  obtain ⟨v3, vs3, d3, ds3, p3, q3, rfl, rfl, rfl, h3, r3⟩ := trodAll_cons r2
  obtain ⟨rfl, rfl, rfl⟩ := trodAll_nil r3
  obtain rfl : args = #[v0, v1, v2, v3] := by cases args; simp_all
  obtain ⟨rfl, rfl⟩ := trodVars_none hV
  obtain ⟨a0, rfl, rfl, rfl, w0⟩ := open_int Try.underlying3 (hval 0 3 v0 rfl rfl) h0
  obtain ⟨a1, rfl, rfl, rfl, w1⟩ := open_int Try.underlying3 (hval 1 3 v1 rfl rfl) h1
  obtain ⟨a2, rfl, rfl, rfl, w2⟩ := open_int Try.underlying3 (hval 2 3 v2 rfl rfl) h2
  obtain ⟨a3, rfl, rfl, rfl, w3⟩ := open_int Try.underlying3 (hval 3 3 v3 rfl rfl) h3
  clear hA0 hval0
  simp only [List.append_nil] at hW'
  have e1 : Rows.tickBandsSpec.fn H ([.lit (.int .i64 a0), .lit (.int .i64 a1), .lit (.int .i64 a2), .lit (.int .i64 a3)] ++ []) = { results := [.lit (.bool true)], args := [.lit (.int .i64 a0), .lit (.int .i64 a1), .lit (.int .i64 a2), .lit (.int .i64 a3)] } := by simp [Rows.tickBandsSpec]
  refine (walk a0 a1 a2 a3 w0 w1 w2 w3 W).mono fun e W' ⟨he, hI⟩ => ?_
  subst he
  refine ⟨_, rfl, _, _, _, [], [], [], hW', ?_, ?_, ?_, hI.frame _, fun h => by cases h⟩
  · rw [e1]; exact trodAll_mk1 (shut_bool Try.underlying4 true)
  · rw [e1]; exact trodAll_cons_mk (shut_int Try.underlying3 w0) (trodAll_cons_mk (shut_int Try.underlying3 w1) (trodAll_cons_mk (shut_int Try.underlying3 w2) (trodAll_cons_mk (shut_int Try.underlying3 w3) trodAll_mk0)))
  · rw [e1]; rfl

theorem over : Rows.tickBandsRow.holds Try.pinned (OpenSpec.ofChange Rows.tickBandsSpec) :=
  OpenClaim.holds_of_wide 5 Try.f5 rfl rfl rfl rfl rfl rfl rfl ⟨rfl, rfl, rfl, rfl, rfl⟩ rfl rfl rfl rfl rfl (by kernel_rfl) Try.func5 (by kernel_rfl)
    (of_decide_eq_true (by kernel_rfl)) (by unfold Func.isWrapper; first | (rw [if_pos (by decide +kernel)]; kernel_rfl) | (rw [if_neg (by decide +kernel)]; exact ⟨rfl, rfl⟩))
    (fun os started H enc _ => lifted os started H enc)

/-- ████ THE STATEMENT ████ -/
theorem proved : Rows.TickBandsSaid :=
  over
#print axioms proved
end Go.Proofs.Ytefonkanmdmieaa.tickBands
namespace Go.Proofs.Ytefonkanmdmieaa
theorem tickBands_holds : Rows.TickBandsSaid := tickBands.proved
end Go.Proofs.Ytefonkanmdmieaa
