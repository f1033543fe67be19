/-
  DERIVED. GIVEN WITH THE SEED: THE CARDS: each row of YtefonkanmdmieaaDoorRows.lean that lists a variable, with what it lists TIED to the program's text (the seventh form; the later family's looks); each row that meets fmt, with fmt's text TOLD by the authors' own Lean function (tested against real Go, not proved from fmt's source: count such statements apart). THE CARD IS WHAT COUNTS. Prove the row's statement (the work); the ties are given (YtefonkanmdmieaaDoorTie.lean); close each card by the builder's one call (the guide's Derived/Test/ToyasCard.lean, 'card_holds'). Laid BY PROGRAM, IN A SANDBOX (cutbox-door.mjs). By AI agents, Wed Nov 11 2026. No macro, syntax, notation, axiom, sorry.
-/
import Derived.Test.YtefonkanmdmieaaDoorRows
import GoSem.ClaimSeven
namespace Go.Proofs.YtefonkanmdmieaaDoor
namespace Rows

/-- THE TIED CARD OF 'pitlaw1.TickTells'. -/
def tickTellsCard : Claim7 := { stood := { row := tickTellsRow, standIns := [], harness := (true, "cbe9509c6a66836e2f38e1d2a908de3b44e21449826591422920b271cc83756e"), looks := true }, kinds := [], alts := [], laidByText := true, laidKinds := [.handle], laidTests := true, laidLooks := .later }
def TickTellsCardSaid : Prop := Claim7.holds Tryd.pinned (.plain (OpenSpec.ofChange tickTellsSpec)) tickTellsCard

/-- THE TIED CARD OF 'pitlaw1.OrderBack'. -/
def orderBackCard : Claim7 := { stood := { row := orderBackRow, standIns := [], harness := (true, "cbe9509c6a66836e2f38e1d2a908de3b44e21449826591422920b271cc83756e"), looks := true }, kinds := [], alts := [], laidByText := true, laidKinds := [.data, .data, .data, .data, .sentinel, .sentinel, .data, .data, .pinned], laidTests := true, laidLooks := .later }
def OrderBackCardSaid : Prop := Claim7.holds Tryd.pinned (.plain (OpenSpec.ofChange orderBackSpec)) orderBackCard

/-- THE SECOND FORM's CARD OF 'pitlaw1.TickTells'. -/
def tickTellsUptoCard : Claim7 := { stood := { row := tickTellsUptoRow, standIns := [], harness := (true, "cbe9509c6a66836e2f38e1d2a908de3b44e21449826591422920b271cc83756e"), looks := true }, kinds := [], alts := [], laidByText := true, laidKinds := [.handle], laidTests := true, laidLooks := .later }
def TickTellsUptoCardSaid : Prop := Claim7.holds Tryd.pinned (.plain (OpenSpec.upto tickTellsSpec)) tickTellsUptoCard

/-- THE SECOND FORM's CARD OF 'pitlaw1.OrderBack'. -/
def orderBackUptoCard : Claim7 := { stood := { row := orderBackUptoRow, standIns := [], harness := (true, "cbe9509c6a66836e2f38e1d2a908de3b44e21449826591422920b271cc83756e"), looks := true }, kinds := [], alts := [], laidByText := true, laidKinds := [.data, .data, .data, .data, .sentinel, .sentinel, .data, .data, .pinned], laidTests := true, laidLooks := .later }
def OrderBackUptoCardSaid : Prop := Claim7.holds Tryd.pinned (.plain (OpenSpec.upto orderBackSpec)) orderBackUptoCard
end Rows
end Go.Proofs.YtefonkanmdmieaaDoor
