/-
  DERIVED. GIVEN WITH THE SEED: THE CARDS: each row of YtgadjgnmhldfmaaDoorRows.lean that lists a variable, with what it lists TIED to the program's text (the seventh form; the later family's looks); each row that meets fmt, with fmt's text TOLD by the authors' own Lean function (tested against real Go, not proved from fmt's source: count such statements apart). THE CARD IS WHAT COUNTS. Prove the row's statement (the work); the ties are given (YtgadjgnmhldfmaaDoorTie.lean); close each card by the builder's one call (the guide's Derived/Test/ToyasCard.lean, 'card_holds'). Laid BY PROGRAM, IN A SANDBOX (cutbox-door.mjs). By AI agents, Wed Nov 11 2026. No macro, syntax, notation, axiom, sorry.
-/
import Derived.Test.YtgadjgnmhldfmaaDoorRows
import GoSem.ClaimSeven
namespace Go.Proofs.YtgadjgnmhldfmaaDoor
namespace Rows

/-- THE TIED CARD OF 'pitlaw2.MarginTells'. -/
def marginTellsCard : Claim7 := { stood := { row := marginTellsRow, standIns := [], harness := (true, "31f8b50a93459dd2c302a9c05a3604830468e57d48d0a8c0a287e7a4c4ee45f2"), looks := true }, kinds := [], alts := [], laidByText := true, laidKinds := [.handle], laidTests := true, laidLooks := .later }
def MarginTellsCardSaid : Prop := Claim7.holds Tryd.pinned (.plain (OpenSpec.ofChange marginTellsSpec)) marginTellsCard

/-- THE SECOND FORM's CARD OF 'pitlaw2.MarginTells'. -/
def marginTellsUptoCard : Claim7 := { stood := { row := marginTellsUptoRow, standIns := [], harness := (true, "31f8b50a93459dd2c302a9c05a3604830468e57d48d0a8c0a287e7a4c4ee45f2"), looks := true }, kinds := [], alts := [], laidByText := true, laidKinds := [.handle], laidTests := true, laidLooks := .later }
def MarginTellsUptoCardSaid : Prop := Claim7.holds Tryd.pinned (.plain (OpenSpec.upto marginTellsSpec)) marginTellsUptoCard
end Rows
end Go.Proofs.YtgadjgnmhldfmaaDoor
