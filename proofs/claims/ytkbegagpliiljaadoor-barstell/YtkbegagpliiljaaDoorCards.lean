/-
  DERIVED. GIVEN WITH THE SEED: THE CARDS: each row of YtkbegagpliiljaaDoorRows.lean that lists a variable, with what it lists TIED to the program's text (the seventh form; the later family's looks); each row that meets fmt, with fmt's text TOLD by the authors' own Lean function (tested against real Go, not proved from fmt's source: count such statements apart). THE CARD IS WHAT COUNTS. Prove the row's statement (the work); the ties are given (YtkbegagpliiljaaDoorTie.lean); close each card by the builder's one call (the guide's Derived/Test/ToyasCard.lean, 'card_holds'). Laid BY PROGRAM, IN A SANDBOX (cutbox-door.mjs). By AI agents, Wed Nov 11 2026. No macro, syntax, notation, axiom, sorry.
-/
import Derived.Test.YtkbegagpliiljaaDoorRows
import GoSem.ClaimSeven
namespace Go.Proofs.YtkbegagpliiljaaDoor
namespace Rows

/-- THE TIED CARD OF 'pitlaw3.BarsTell'. -/
def barsTellCard : Claim7 := { stood := { row := barsTellRow, standIns := [], harness := (true, "4835db57792ca8462a3da974431a446c0696040bd18663d18c21f45728c7163d"), looks := true }, kinds := [], alts := [], laidByText := true, laidKinds := [.handle], laidTests := true, laidLooks := .later }
def BarsTellCardSaid : Prop := Claim7.holds Tryd.pinned (.plain (OpenSpec.ofChange barsTellSpec)) barsTellCard

/-- THE SECOND FORM's CARD OF 'pitlaw3.BarsTell'. -/
def barsTellUptoCard : Claim7 := { stood := { row := barsTellUptoRow, standIns := [], harness := (true, "4835db57792ca8462a3da974431a446c0696040bd18663d18c21f45728c7163d"), looks := true }, kinds := [], alts := [], laidByText := true, laidKinds := [.handle], laidTests := true, laidLooks := .later }
def BarsTellUptoCardSaid : Prop := Claim7.holds Tryd.pinned (.plain (OpenSpec.upto barsTellSpec)) barsTellUptoCard
end Rows
end Go.Proofs.YtkbegagpliiljaaDoor
