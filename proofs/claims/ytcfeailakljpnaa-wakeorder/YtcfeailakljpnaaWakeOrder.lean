/-
  Proved: 'Rows.WakeOrderSaid': the call of 'pitfloor/pitlaw4.WakeOrder' returns true at every slice of numbers: orders of Buy wake with the lowest Stop first, of one Stop as they came. No condition.
-/
import Derived.Test.YtcfeailakljpnaaRows
import Derived.WalkKit
import Derived.ProofKit
import Derived.OpenShut
import Derived.Test.YtcfeailakljpnaaWakArg
import Derived.Test.YtcfeailakljpnaaWRWalk
namespace Go.Proofs.Ytcfeailakljpnaa.wakeOrder
open Go.ChangeShapes Go.WideShapes Go.ChangeAt Go.RowKit

theorem own : ownKnob Try.prog.godebug = none := by kernel_rfl

set_option maxRecDepth 100000 in
theorem lifted (os : Os) (started : os.Started) (H : Type) (enc : TypeId × Value → H) :
    ReturnsInHanded {} Try.checked os 4 .any (Rows.wakeOrderSpec.pre6 enc Try.prog Try.f4 Rows.wakeOrderRow.domain false) (Rows.wakeOrderSpec.post enc Try.prog Try.f4 false true false false) := by
  refine returnsInHanded_of_change (C := Try.checked) own started (by kernel_rfl) Try.func4
    (ChangeSpec.witness6 (enc := enc) (C := Try.checked) false ⟨#[], #[.slice none 0 0], []⟩ 8 (by kernel_rfl) (by kernel_rfl) (by kernel_rfl) (by kernel_rfl)) ?_
  intro W base args ds gs before hval0 hW hcnd _
  have hval : ∀ (j : Nat) t v, Try.f4.params[j]? = some t → args[j]? = some v → Value.okWide Try.prog W .any base t v := hval0
  have hW' := hW
  obtain ⟨p, q, hA0, hV, rfl, hfz, hnd⟩ := hW
  have hA : DataW.TrodAll enc Try.prog W 0 (fun _ => true) true Try.f4.params.toList args.toList ds p := hA0
  rw [Try.params4] at hA hval
  obtain ⟨v0, vs0, d0, ds0, p0, q0, hargs, rfl, rfl, h0, r0⟩ := trodAll_cons hA
  obtain ⟨rfl, rfl, rfl⟩ := trodAll_nil r0
  obtain rfl : args = #[v0] := by cases args; simp_all
  obtain ⟨rfl, rfl⟩ := trodVars_none hV
  obtain ⟨zs, hS⟩ := wak.open_nums (hval 0 34 v0 rfl rfl) h0
  have hbig : zs.length ≤ 9223372036854775807 := by
    rcases hS with ⟨_, h2⟩ | ⟨_, _, c, _, h2, h3, _⟩
    · rw [h2]; decide
    · omega
  obtain ⟨sq, sc, rfl⟩ := hS.form
  clear hA0 hval0
  simp only [List.append_nil] at hW'
  have hlt : ∀ x ∈ p0, x.block < W.heap.size := fun x hx => by simpa using hW'.lt x hx
  have e1 : Rows.wakeOrderSpec.fn H ([d0] ++ []) = { results := [.lit (.bool true)], args := [d0] } := by simp [Rows.wakeOrderSpec]
  refine (wak.order_walk sq _ sc zs W rfl hS hbig).mono fun e W' ⟨he, hI⟩ => ?_
  subst he
  refine ⟨_, rfl, _, _, _, [], p0 ++ [], [], hW', ?_, ?_, ?_, hI.frame _, fun h => by cases h⟩
  · rw [e1]; exact trodAll_mk1 (shut_bool Try.underlying4 true)
  · rw [e1]; exact trodAll_cons_mk (Below.trod wak.laidOut (by kernel_rfl) (of_decide_eq_true (by kernel_rfl)) h0 hI hlt) trodAll_mk0
  · rw [e1]; rfl

theorem proved : Rows.WakeOrderSaid :=
  OpenClaim.holds_of_wide 4 Try.f4 rfl rfl rfl rfl rfl rfl rfl ⟨rfl, rfl, rfl, rfl, rfl⟩ rfl rfl rfl rfl rfl (by kernel_rfl) Try.func4 (by kernel_rfl)
    (of_decide_eq_true (by kernel_rfl)) (by unfold Func.isWrapper; first | (rw [if_pos (by decide +kernel)]; kernel_rfl) | (rw [if_neg (by decide +kernel)]; exact ⟨rfl, rfl⟩))
    (fun os started H enc _ => lifted os started H enc)
#print axioms proved
end Go.Proofs.Ytcfeailakljpnaa.wakeOrder
namespace Go.Proofs.Ytcfeailakljpnaa
theorem wakeOrder_holds : Rows.WakeOrderSaid := wakeOrder.proved
end Go.Proofs.Ytcfeailakljpnaa
