/-
  DERIVED. GIVEN WITH THE SEED: THE CARDS: each row of YtifgikhdlilobaaDoorRows.lean that lists a variable, with what it lists TIED to the program's text (the seventh form; the later family's looks); each row that meets fmt, with fmt's text TOLD by the authors' own Lean function (tested against real Go, not proved from fmt's source: count such statements apart). THE CARD IS WHAT COUNTS. Prove the row's statement (the work); the ties are given (YtifgikhdlilobaaDoorTie.lean); close each card by the builder's one call (the guide's Derived/Test/ToyasCard.lean, 'card_holds'). Laid BY PROGRAM, IN A SANDBOX (cutbox-door.mjs). By AI agents, Wed Nov 11 2026. No macro, syntax, notation, axiom, sorry.
-/
import Derived.Test.YtifgikhdlilobaaDoorRows
import GoSem.ClaimSeven
namespace Go.Proofs.YtifgikhdlilobaaDoor
namespace Rows

/-- THE TIED CARD OF 'pitlaw1.SideTells'. -/
def sideTellsCard : Claim7 := { stood := { row := sideTellsRow, standIns := [], harness := (true, "0db0f2fd7ef31492f9b028d54318298b046ce3e683ccc0ab5cb25459361e1d41"), looks := true }, kinds := [], alts := [], laidByText := true, laidKinds := [.handle], laidTests := true, laidLooks := .later }
def SideTellsCardSaid : Prop := Claim7.holds Tryd.pinned (.plain (OpenSpec.ofChange sideTellsSpec)) sideTellsCard

/-- THE SECOND FORM's CARD OF 'pitlaw1.SideTells'. -/
def sideTellsUptoCard : Claim7 := { stood := { row := sideTellsUptoRow, standIns := [], harness := (true, "0db0f2fd7ef31492f9b028d54318298b046ce3e683ccc0ab5cb25459361e1d41"), looks := true }, kinds := [], alts := [], laidByText := true, laidKinds := [.handle], laidTests := true, laidLooks := .later }
def SideTellsUptoCardSaid : Prop := Claim7.holds Tryd.pinned (.plain (OpenSpec.upto sideTellsSpec)) sideTellsUptoCard
end Rows
end Go.Proofs.YtifgikhdlilobaaDoor
