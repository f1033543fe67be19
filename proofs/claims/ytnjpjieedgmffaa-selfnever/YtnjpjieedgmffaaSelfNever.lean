/-
  Proved: 'Rows.SelfNeverSaid': the call of 'pitfloor/pitlaw1.SelfNever' returns true at every book, order and mode: in no mode but Allow does anybody trade with oneself; with nothing of one's own on the other side all modes are the same. No condition.
-/
import Derived.Test.YtnjpjieedgmffaaRows
import Derived.WalkKit
import Derived.ProofKit
import Derived.OpenShut
import Derived.Test.YtnjpjieedgmffaaBokArg
import Derived.Test.YtnjpjieedgmffaaSNWalk
import Derived.Test.YtnjpjieedgmffaaMeeArg
namespace Go.Proofs.Ytnjpjieedgmffaa.selfNever
open Go.ChangeShapes Go.WideShapes Go.ChangeAt Go.RowKit

theorem own : ownKnob Try.prog.godebug = none := by kernel_rfl

set_option maxRecDepth 100000 in
theorem lifted (os : Os) (started : os.Started) (H : Type) (enc : TypeId × Value → H) :
    ReturnsInHanded {} Try.checked os 3 .any (Rows.selfNeverSpec.pre6 enc Try.prog Try.f3 Rows.selfNeverRow.domain false) (Rows.selfNeverSpec.post enc Try.prog Try.f3 false true false false) := by
  refine returnsInHanded_of_change (C := Try.checked) own started (by kernel_rfl) Try.func3
    (ChangeSpec.witness6 (enc := enc) (C := Try.checked) false ⟨#[], #[.agg #[.slice none 0 0, .slice none 0 0], .agg #[.int .i64 0, .int .i64 0, .int .i64 0, .int .i64 0, .int .i64 0, .int .i64 0, .int .i64 0, .int .i64 0], .int .i64 0], []⟩ 8 (by kernel_rfl) (by kernel_rfl) (by kernel_rfl) (by kernel_rfl)) ?_
  intro W base args ds gs before hval0 hW hcnd _
  have hval : ∀ (j : Nat) t v, Try.f3.params[j]? = some t → args[j]? = some v → Value.okWide Try.prog W .any base t v := hval0
  have hW' := hW
  obtain ⟨p, q, hA0, hV, rfl, hfz, hnd⟩ := hW
  have hA : DataW.TrodAll enc Try.prog W 0 (fun _ => true) true Try.f3.params.toList args.toList ds p := hA0
  rw [Try.params3] at hA hval
  obtain ⟨v0, vs0, d0, ds0, p0, q0, hargs, rfl, rfl, h0, r0⟩ := trodAll_cons hA
  obtain ⟨v1, vs1, d1, ds1, p1, q1, rfl, rfl, rfl, h1, r1⟩ := trodAll_cons r0
  obtain ⟨v2, vs2, d2, ds2, p2, q2', rfl, rfl, rfl, h2, r2⟩ := trodAll_cons r1
  obtain ⟨rfl, rfl, rfl⟩ := trodAll_nil r2
  obtain rfl : args = #[v0, v1, v2] := by cases args; simp_all
  obtain ⟨rfl, rfl⟩ := trodVars_none hV
  obtain ⟨q1, q2, n1, n2, c1, c2, bs, ss, rfl, hL1, hL2⟩ := bok.open_book (hval 0 24 v0 rfl rfl) h0
  obtain ⟨oa, ob, oc, od, op, oq, os', ot, rfl⟩ := mee.open_order (hval 1 26 v1 rfl rfl) h1
  obtain ⟨a2, rfl, rfl, rfl, w2⟩ := open_int Try.underlying3 (hval 2 3 v2 rfl rfl) h2
  clear hA0 hval0
  have hlt : ∀ x ∈ p0 ++ p1, x.block < W.heap.size := fun x hx => by simpa using hW'.lt x (by simpa using hx)
  have e1 : Rows.selfNeverSpec.fn H ([d0, d1, .lit (.int .i64 a2)] ++ []) = { results := [.lit (.bool true)], args := [d0, d1, .lit (.int .i64 a2)] } := by simp [Rows.selfNeverSpec]
  refine (slf.never_walk a2 q1 q2 n1 n2 c1 c2 bs ss oa ob oc od op oq os' ot W hL1 hL2).mono fun e W' ⟨he, hI⟩ => ?_
  subst he
  refine ⟨_, rfl, _, _, _, [], p0 ++ (p1 ++ []), [], hW', ?_, ?_, ?_, hI.frame _, fun h => by cases h⟩
  · rw [e1]; exact trodAll_mk1 (shut_bool Try.underlying4 true)
  · rw [e1]
    exact trodAll_cons_mk (Below.trod que.laidOut (by kernel_rfl) (of_decide_eq_true (by kernel_rfl)) h0 hI (fun x hx => hlt x (by simp [hx]))) (trodAll_cons_mk (Below.trod que.laidOut (by kernel_rfl) (of_decide_eq_true (by kernel_rfl)) h1 hI (fun x hx => hlt x (by simp [hx]))) (trodAll_cons_mk (shut_int Try.underlying3 w2) trodAll_mk0))
  · rw [e1]; rfl

theorem proved : Rows.SelfNeverSaid :=
  OpenClaim.holds_of_wide 3 Try.f3 rfl rfl rfl rfl rfl rfl rfl ⟨rfl, rfl, rfl, rfl, rfl⟩ rfl rfl rfl rfl rfl (by kernel_rfl) Try.func3 (by kernel_rfl)
    (of_decide_eq_true (by kernel_rfl)) (by unfold Func.isWrapper; first | (rw [if_pos (by decide +kernel)]; kernel_rfl) | (rw [if_neg (by decide +kernel)]; exact ⟨rfl, rfl⟩))
    (fun os started H enc _ => lifted os started H enc)
#print axioms proved
end Go.Proofs.Ytnjpjieedgmffaa.selfNever
namespace Go.Proofs.Ytnjpjieedgmffaa
theorem selfNever_holds : Rows.SelfNeverSaid := selfNever.proved
end Go.Proofs.Ytnjpjieedgmffaa
