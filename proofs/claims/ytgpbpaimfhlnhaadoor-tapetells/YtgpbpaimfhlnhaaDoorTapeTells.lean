/-
  Proved: 'Rows.TapeTellsCardSaid': the call of 'pitfloor/pitlaw3.TapeTells' returns true at every list of events: what a tape answers of them is the document's. No condition on the input; the package-level variables that the row lists are tied to the program's text.
  The card ties those variables to the pruned copy of the project that this seat's roots load; it says nothing of the project's other packages. That nothing else writes them is the translator's report.
-/
import Derived.Test.YtgpbpaimfhlnhaaDoorRows
import Derived.Test.YtgpbpaimfhlnhaaDoorTie
import Derived.Test.YtgpbpaimfhlnhaaDoorCards
import Derived.Test.YtgpbpaimfhlnhaaDoorTLTie
import Derived.Test.YtgpbpaimfhlnhaaDoorTapArg
import Derived.WalkKit
import Derived.ProofKit
import Derived.OpenShut
import Derived.LaidLaws
import Derived.LaidHandle
import Derived.LaidMore
import Derived.SevenTiedAt
namespace Go.Proofs.YtgpbpaimfhlnhaaDoor.tapeTells
open Go.ChangeShapes Go.WideShapes Go.ChangeAt Go.RowKit

theorem own : ownKnob Tryd.prog.godebug = none := by kernel_rfl
theorem oneRow : ((List.range 180).filter fun t => Tryd.prog.rowNamed t [101, 114, 114, 111, 114]) = [26] := by kernel_rfl
theorem tsize : Tryd.prog.types.size = 180 := by kernel_rfl
theorem gvar : Tryd.prog.globalNamed "errors.errorType" = some 1 := by kernel_rfl

/-- The listed variables that hold plain data. -/
abbrev lb : List (String × DataW Unit) := [("math/bits.deBruijn32tab", Rows.laid_math_bits_deBruijn32tab), ("math/bits.deBruijn64tab", Rows.laid_math_bits_deBruijn64tab), ("internal/strconv.uint64pow10", Rows.laid_internal_strconv_uint64pow10), ("pitfloor/tape.words", Rows.laid_pitfloor_tape_words)]

/-- What the listed variables' condition gives a walk. -/
theorem laid_of {W : World} (h : laidMetH Tryd.prog Rows.tapeTellsRow.laid W) : told.Laid W ∧ bld.Tab W ∧ tap.Wds W := by
  have h' : laidMet Tryd.prog lb W ∧ handlesMet Tryd.prog [("errors.errorType", Rows.laid_errors_errorType)] W := h
  refine ⟨?_, ?_, ?_⟩
  · obtain ⟨name, u, ty, e1, e2, e3, e4, e5⟩ := h'.2 _ (List.mem_singleton.2 rfl)
    have en : name = [101, 114, 114, 111, 114] := (Option.some.inj e1).symm
    subst en
    have hu : some u = some 108 := e2.symm.trans (by kernel_rfl)
    obtain rfl := Option.some.inj hu
    have hm : ty ∈ (List.range 180).filter fun t => Tryd.prog.rowNamed t [101, 114, 114, 111, 114] := List.mem_filter.2 ⟨List.mem_range.2 (by rw [← tsize]; exact e3), e4⟩
    rw [oneRow] at hm
    obtain rfl := List.mem_singleton.1 hm
    have hh : typeHandle Tryd.prog 26 = .pointer (some ⟨5, 26, none⟩) := by kernel_rfl
    rw [hh] at e5
    simpa [told.Laid] using World.var?_cell gvar e5 0
  · obtain ⟨ps, hv, _⟩ := h'.1
    exact tap.tab_of hv (List.Mem.tail _ (List.Mem.tail _ (List.Mem.head _)))
  · obtain ⟨ps, hv, _⟩ := h'.1
    exact tap.wds_of hv (List.Mem.tail _ (List.Mem.tail _ (List.Mem.tail _ (List.Mem.head _))))

theorem door_met (os : Os) (args : Array Value) : laidMetH Tryd.prog Rows.tapeTellsRow.laid ((World.doorLaid Tryd.prog 400 os).forCall (fun _ _ => 0) ⟨#[], args, []⟩).memory :=
  laidMetH_of_parts3 (fuel := 8) (laidMet_of_run' 8 (by kernel_rfl) (by kernel_rfl)) (by kernel_rfl) (by kernel_rfl)

set_option maxRecDepth 100000 in
theorem lifted (os : Os) (started : os.Started) (H : Type) (enc : TypeId × Value → H) :
    ReturnsInHanded {} Tryd.checked os 3 .any (fun w args => (Rows.tapeTellsSpec.pre enc Tryd.prog Tryd.f3 [] false w args ∧ laidMetH Tryd.prog Rows.tapeTellsRow.laid w) ∧ sizedMet enc Tryd.prog Tryd.f3 (OpenSpec.ofChange Rows.tapeTellsSpec) false w args)
      (Rows.tapeTellsSpec.post enc Tryd.prog Tryd.f3 false true false false) := by
  refine returnsInHanded_of_change_and (C := Tryd.checked) (X := fun w _ => laidMetH Tryd.prog Rows.tapeTellsRow.laid w) (fun _ _ _ hh h => h.of_heap hh) own started (by kernel_rfl) Tryd.func3
    (ChangeSpec.witness_shaped (enc := enc) (C := Tryd.checked) (os := os) (X := fun w _ => laidMetH Tryd.prog Rows.tapeTellsRow.laid w) false (World.doorLaid Tryd.prog 400 os) #[.slice none 0 0] 8 rfl (World.shaped_of_RefB (by kernel_rfl) (by kernel_rfl)) (by kernel_rfl) (by kernel_rfl) (by kernel_rfl) (door_met os _)) ?_
  intro W base args ds gs before hval0 hW _ _ hL _
  have hval : ∀ (j : Nat) t v, Tryd.f3.params[j]? = some t → args[j]? = some v → Value.okWide Tryd.prog W .any base t v := hval0
  have hW' := hW
  obtain ⟨p, q, hA0, hV, rfl, hfz, hnd⟩ := hW
  have hA : DataW.TrodAll enc Tryd.prog W 0 (fun _ => true) true Tryd.f3.params.toList args.toList ds p := hA0
  rw [Tryd.params3] at hA hval
  obtain ⟨v0, vs0, d0, ds0, p0, q0, hargs, rfl, rfl, h0, r0⟩ := trodAll_cons hA
  obtain ⟨rfl, rfl, rfl⟩ := trodAll_nil r0
  obtain rfl : args = #[v0] := by cases args; simp_all
  obtain ⟨rfl, rfl⟩ := trodVars_none hV
  obtain ⟨zs0, hS0⟩ := tap.open_events (hval 0 22 v0 rfl rfl) h0
  clear hA0 hval0
  simp only [List.append_nil] at hW'
  have e1 : Rows.tapeTellsSpec.fn H ([d0] ++ []) = { results := [.lit (.bool true)], args := [d0] } := by simp [Rows.tapeTellsSpec]
  refine (walk v0 zs0 hS0 W (told.Inv.start (laid_of hL).1) (laid_of hL).2.1 (laid_of hL).2.2).mono fun e W' ⟨he, hI⟩ => ?_
  subst he
  refine ⟨_, rfl, _, _, _, [], (p0 ++ []), [], hW', ?_, ?_, ?_, hI.2.frame _, fun h => by cases h⟩
  · rw [e1]; exact trodAll_mk1 (shut_bool Tryd.underlying4 true)
  · rw [e1]; exact (trodAll_cons_mk (Below.trod tap.laidOut (by kernel_rfl) (of_decide_eq_true (by kernel_rfl)) h0 hI.2 (fun x hx => by simpa using hW'.lt x (by simp [hx]))) trodAll_mk0)
  · rw [e1]; rfl

theorem row_holds : Rows.TapeTellsSaid :=
  OpenClaim.holds_of_wide 3 Tryd.f3 rfl rfl rfl rfl rfl rfl rfl ⟨rfl, rfl, rfl, rfl, rfl⟩ rfl rfl rfl rfl rfl (by kernel_rfl) Tryd.func3 (by kernel_rfl)
    (of_decide_eq_true (by kernel_rfl)) (by unfold Func.isWrapper; rw [if_neg (of_decide_eq_false (by kernel_rfl))]; exact ⟨rfl, rfl⟩)
    (fun os started H enc _ => lifted os started H enc)
end Go.Proofs.YtgpbpaimfhlnhaaDoor.tapeTells
namespace Go.Proofs.YtgpbpaimfhlnhaaDoor
set_option maxRecDepth 100000 in
set_option maxHeartbeats 2000000 in
theorem tapeTells_holds : Rows.TapeTellsCardSaid :=
  Claim7.holds_tied_plain_at .later [] [.data, .data, .data, .handle, .data] true (true, "50ba266b369ad4c0aa7063e9cdcc8cb2f0665d0cda88a0cba13de3e40a45e171") true
    tapeTells.row_holds (fun _ h => by cases h) (by kernel_rfl) (fun _ h => by cases h) tapeTells_row_tie rfl ⟨rfl, rfl⟩ (by kernel_rfl) rfl
    (fun f fn hf hfn => by
      obtain rfl : f = 3 := Option.some.inj ((show Tryd.prog.funcNamed Tryd.f3.name = some 3 by kernel_rfl).symm.trans hf) |>.symm
      obtain rfl : fn = Tryd.f3 := (Option.some.inj (Tryd.func3.symm.trans hfn)).symm
      exact ⟨by kernel_rfl, fun j t ht => by
        rw [Tryd.params3] at ht
        rcases j with _ | j
        · obtain rfl : t = 22 := by simpa using ht.symm
          exact (show Tryd.prog.wantsStandIn 22 = false by kernel_rfl)
        simp at ht⟩)
    (by kernel_rfl)
#print axioms tapeTells_holds
end Go.Proofs.YtgpbpaimfhlnhaaDoor
