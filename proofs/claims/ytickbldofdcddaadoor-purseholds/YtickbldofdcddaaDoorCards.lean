/-
  DERIVED. GIVEN WITH THE SEED: THE CARDS: each row of YtickbldofdcddaaDoorRows.lean that lists a variable, with what it lists TIED to the program's text (the seventh form; the later family's looks); each row that meets fmt, with fmt's text TOLD by the authors' own Lean function (tested against real Go, not proved from fmt's source: count such statements apart). THE CARD IS WHAT COUNTS. Prove the row's statement (the work); the ties are given (YtickbldofdcddaaDoorTie.lean); close each card by the builder's one call (the guide's Derived/Test/ToyasCard.lean, 'card_holds'). Laid BY PROGRAM, IN A SANDBOX (cutbox-door.mjs). By AI agents, Wed Nov 11 2026. No macro, syntax, notation, axiom, sorry.
-/
import Derived.Test.YtickbldofdcddaaDoorRows
import GoSem.ClaimSeven
namespace Go.Proofs.YtickbldofdcddaaDoor
namespace Rows

/-- THE TIED CARD OF 'pitlaw4.PurseHolds'. -/
def purseHoldsCard : Claim7 := { stood := { row := purseHoldsRow, standIns := [], harness := (true, "e3f32f6b7836a969a17038d49b6ea3b406c12b0e20a617f73562c27792c59351"), looks := true }, kinds := [], alts := [], laidByText := true, laidKinds := [.handle], laidTests := true, laidLooks := .later }
def PurseHoldsCardSaid : Prop := Claim7.holds Tryd.pinned (.plain (OpenSpec.ofChange purseHoldsSpec)) purseHoldsCard

/-- THE SECOND FORM's CARD OF 'pitlaw4.PurseHolds'. -/
def purseHoldsUptoCard : Claim7 := { stood := { row := purseHoldsUptoRow, standIns := [], harness := (true, "e3f32f6b7836a969a17038d49b6ea3b406c12b0e20a617f73562c27792c59351"), looks := true }, kinds := [], alts := [], laidByText := true, laidKinds := [.handle], laidTests := true, laidLooks := .later }
def PurseHoldsUptoCardSaid : Prop := Claim7.holds Tryd.pinned (.plain (OpenSpec.upto purseHoldsSpec)) purseHoldsUptoCard
end Rows
end Go.Proofs.YtickbldofdcddaaDoor
