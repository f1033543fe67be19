/-
  DERIVED. GIVEN WITH THE SEED: THE CARDS: each row of YtmhcghgfpfainaaGreatDoorRows.lean that lists a variable, with what it lists TIED to the program's text (the seventh form; the later family's looks); each row that meets fmt, with fmt's text TOLD by the authors' own Lean function (tested against real Go, not proved from fmt's source: count such statements apart). THE CARD IS WHAT COUNTS. Prove the row's statement (the work); the ties are given (YtmhcghgfpfainaaGreatDoorTie.lean); close each card by the builder's one call (the guide's Derived/Test/ToyasCard.lean, 'card_holds'). Laid BY PROGRAM, IN A SANDBOX (cutbox-door.mjs). By AI agents, Wed Nov 11 2026. No macro, syntax, notation, axiom, sorry.
-/
import Derived.Test.YtmhcghgfpfainaaGreatDoorRows
import GoSem.ClaimSeven
namespace Go.Proofs.YtmhcghgfpfainaaGreatDoor
namespace Rows

/-- THE TIED CARD OF 'pitlaw3.TapeFollows'. -/
def tapeFollowsCard : Claim7 := { stood := { row := tapeFollowsRow, standIns := [], harness := (true, "b0f3f1c485cd5e60a482e5b4b76751b2baf529e5b3a9ea25b12b781476a165be"), looks := true }, kinds := [], alts := [], laidByText := true, laidKinds := [.handle], laidTests := true, laidLooks := .later }
def TapeFollowsCardSaid : Prop := Claim7.holds Tryz.pinned (.plain (OpenSpec.ofChange tapeFollowsSpec)) tapeFollowsCard

/-- THE SECOND FORM's CARD OF 'pitlaw3.TapeFollows'. -/
def tapeFollowsUptoCard : Claim7 := { stood := { row := tapeFollowsUptoRow, standIns := [], harness := (true, "b0f3f1c485cd5e60a482e5b4b76751b2baf529e5b3a9ea25b12b781476a165be"), looks := true }, kinds := [], alts := [], laidByText := true, laidKinds := [.handle], laidTests := true, laidLooks := .later }
def TapeFollowsUptoCardSaid : Prop := Claim7.holds Tryz.pinned (.plain (OpenSpec.upto tapeFollowsSpec)) tapeFollowsUptoCard
end Rows
end Go.Proofs.YtmhcghgfpfainaaGreatDoor
