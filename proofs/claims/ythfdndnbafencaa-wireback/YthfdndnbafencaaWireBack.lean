/-
  Proved: 'Rows.WireBackSaid': the call of 'pitfloor/pitlaw3.WireBack' returns true at every command, list of commands, text, place and byte: what is written is read as it was, and of what is read the same is written. No condition.
-/
import Derived.Test.YthfdndnbafencaaRows
import Derived.WalkKit
import Derived.ProofKit
import Derived.OpenShut
import Derived.Test.YthfdndnbafencaaWBWalk
import Derived.Test.YthfdndnbafencaaWirArg2
namespace Go.Proofs.Ythfdndnbafencaa.wireBack
open Go.ChangeShapes Go.WideShapes Go.ChangeAt Go.RowKit

theorem own : ownKnob Try.prog.godebug = none := by kernel_rfl

set_option maxRecDepth 100000 in
theorem lifted (os : Os) (started : os.Started) (H : Type) (enc : TypeId × Value → H) :
    ReturnsInHanded {} Try.checked os 3 .any (Rows.wireBackSpec.pre6 enc Try.prog Try.f3 Rows.wireBackRow.domain false) (Rows.wireBackSpec.post enc Try.prog Try.f3 false true false false) := by
  refine returnsInHanded_of_change (C := Try.checked) own started (by kernel_rfl) Try.func3
    (ChangeSpec.witness6 (enc := enc) (C := Try.checked) false ⟨#[], #[.agg #[.int .i64 0, .int .i64 0, .int .i64 0, .int .i64 0, .int .i64 0, .int .i64 0, .int .i64 0, .int .i64 0, .int .i64 0, .int .i64 0, .int .i64 0], .slice none 0 0, .string ⟨#[]⟩, .int .i64 0, .int .u8 0], []⟩ 8 (by kernel_rfl) (by kernel_rfl) (by kernel_rfl) (by kernel_rfl)) ?_
  intro W base args ds gs before hval0 hW hcnd _
  have hval : ∀ (j : Nat) t v, Try.f3.params[j]? = some t → args[j]? = some v → Value.okWide Try.prog W .any base t v := hval0
  have hW' := hW
  obtain ⟨p, q, hA0, hV, rfl, hfz, hnd⟩ := hW
  have hA : DataW.TrodAll enc Try.prog W 0 (fun _ => true) true Try.f3.params.toList args.toList ds p := hA0
  rw [Try.params3] at hA hval
  obtain ⟨v0, vs0, d0, ds0, p0, q0, hargs, rfl, rfl, h0, r0⟩ := trodAll_cons hA
  obtain ⟨v1, vs1, d1, ds1, p1, q1, rfl, rfl, rfl, h1, r1⟩ := trodAll_cons r0
  obtain ⟨v2, vs2, d2, ds2, p2, q2, rfl, rfl, rfl, h2, r2⟩ := trodAll_cons r1
  obtain ⟨v3, vs3, d3, ds3, p3, q3, rfl, rfl, rfl, h3, r3⟩ := trodAll_cons r2
  obtain ⟨v4, vs4, d4, ds4, p4, q4, rfl, rfl, rfl, h4, r4⟩ := trodAll_cons r3
  obtain ⟨rfl, rfl, rfl⟩ := trodAll_nil r4
  obtain rfl : args = #[v0, v1, v2, v3, v4] := by cases args; simp_all
  obtain ⟨rfl, rfl⟩ := trodVars_none hV
  obtain ⟨xs0, hl0, rfl⟩ := wir.open_command (hval 0 25 v0 rfl rfl) h0
  obtain ⟨zs1, hS1⟩ := wir.open_commands (hval 1 26 v1 rfl rfl) h1
  obtain ⟨s2, hs2, rfl⟩ := wir.open_text (hval 2 9 v2 rfl rfl) h2
  obtain ⟨a3, rfl⟩ := wir.open_number (hval 3 3 v3 rfl rfl) h3
  obtain ⟨a4, hw4, rfl⟩ := wir.open_byte (hval 4 5 v4 rfl rfl) h4
  clear hA0 hval0
  have hlt : ∀ x ∈ p0 ++ p1 ++ p2 ++ p3 ++ p4, x.block < W.heap.size := fun x hx => by simpa using hW'.lt x (by simpa using hx)
  have e1 : Rows.wireBackSpec.fn H ([d0, d1, d2, d3, d4] ++ []) = { results := [.lit (.bool true)], args := [d0, d1, d2, d3, d4] } := by simp [Rows.wireBackSpec]
  refine (wir.back_walk xs0 hl0 v1 zs1 s2 hs2 a3 a4 hw4 W hS1).mono fun e W' ⟨he, hI⟩ => ?_
  subst he
  refine ⟨_, rfl, _, _, _, [], p0 ++ (p1 ++ (p2 ++ (p3 ++ (p4 ++ [])))), [], hW', ?_, ?_, ?_, hI.frame _, fun h => by cases h⟩
  · rw [e1]; exact trodAll_mk1 (shut_bool Try.underlying4 true)
  · rw [e1]
    exact trodAll_cons_mk (Below.trod wir.laidOut (by kernel_rfl) (of_decide_eq_true (by kernel_rfl)) h0 hI (fun x hx => hlt x (by simp [hx]))) (trodAll_cons_mk (Below.trod wir.laidOut (by kernel_rfl) (of_decide_eq_true (by kernel_rfl)) h1 hI (fun x hx => hlt x (by simp [hx]))) (trodAll_cons_mk (Below.trod wir.laidOut (by kernel_rfl) (of_decide_eq_true (by kernel_rfl)) h2 hI (fun x hx => hlt x (by simp [hx]))) (trodAll_cons_mk (Below.trod wir.laidOut (by kernel_rfl) (of_decide_eq_true (by kernel_rfl)) h3 hI (fun x hx => hlt x (by simp [hx]))) (trodAll_cons_mk (Below.trod wir.laidOut (by kernel_rfl) (of_decide_eq_true (by kernel_rfl)) h4 hI (fun x hx => hlt x (by simp [hx]))) (trodAll_mk0)))))
  · rw [e1]; rfl

theorem proved : Rows.WireBackSaid :=
  OpenClaim.holds_of_wide 3 Try.f3 rfl rfl rfl rfl rfl rfl rfl ⟨rfl, rfl, rfl, rfl, rfl⟩ rfl rfl rfl rfl rfl (by kernel_rfl) Try.func3 (by kernel_rfl)
    (of_decide_eq_true (by kernel_rfl)) (by unfold Func.isWrapper; first | (rw [if_pos (by decide +kernel)]; kernel_rfl) | (rw [if_neg (by decide +kernel)]; exact ⟨rfl, rfl⟩))
    (fun os started H enc _ => lifted os started H enc)
#print axioms proved
end Go.Proofs.Ythfdndnbafencaa.wireBack
namespace Go.Proofs.Ythfdndnbafencaa
theorem wireBack_holds : Rows.WireBackSaid := wireBack.proved
end Go.Proofs.Ythfdndnbafencaa
