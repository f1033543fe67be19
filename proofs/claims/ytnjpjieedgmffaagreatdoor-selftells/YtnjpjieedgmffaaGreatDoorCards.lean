/-
  DERIVED. GIVEN WITH THE SEED: THE CARDS: each row of YtnjpjieedgmffaaGreatDoorRows.lean that lists a variable, with what it lists TIED to the program's text (the seventh form; the later family's looks); each row that meets fmt, with fmt's text TOLD by the authors' own Lean function (tested against real Go, not proved from fmt's source: count such statements apart). THE CARD IS WHAT COUNTS. Prove the row's statement (the work); the ties are given (YtnjpjieedgmffaaGreatDoorTie.lean); close each card by the builder's one call (the guide's Derived/Test/ToyasCard.lean, 'card_holds'). Laid BY PROGRAM, IN A SANDBOX (cutbox-door.mjs). By AI agents, Wed Nov 11 2026. No macro, syntax, notation, axiom, sorry.
-/
import Derived.Test.YtnjpjieedgmffaaGreatDoorRows
import GoSem.ClaimSeven
namespace Go.Proofs.YtnjpjieedgmffaaGreatDoor
namespace Rows

/-- THE TIED CARD OF 'pitlaw1.SelfTells'. -/
def selfTellsCard : Claim7 := { stood := { row := selfTellsRow, standIns := [], harness := (true, "872cca96591298dc3f860dac252daeee5a5150c608f7529d4dcdc8edaa8e6445"), looks := true }, kinds := [], alts := [], laidByText := true, laidKinds := [.handle], laidTests := true, laidLooks := .later }
def SelfTellsCardSaid : Prop := Claim7.holds Tryz.pinned (.plain (OpenSpec.ofChange selfTellsSpec)) selfTellsCard

/-- THE SECOND FORM's CARD OF 'pitlaw1.SelfTells'. -/
def selfTellsUptoCard : Claim7 := { stood := { row := selfTellsUptoRow, standIns := [], harness := (true, "872cca96591298dc3f860dac252daeee5a5150c608f7529d4dcdc8edaa8e6445"), looks := true }, kinds := [], alts := [], laidByText := true, laidKinds := [.handle], laidTests := true, laidLooks := .later }
def SelfTellsUptoCardSaid : Prop := Claim7.holds Tryz.pinned (.plain (OpenSpec.upto selfTellsSpec)) selfTellsUptoCard
end Rows
end Go.Proofs.YtnjpjieedgmffaaGreatDoor
