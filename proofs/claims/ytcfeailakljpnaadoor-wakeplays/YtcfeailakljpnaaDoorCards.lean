/-
  DERIVED. GIVEN WITH THE SEED: THE CARDS: each row of YtcfeailakljpnaaDoorRows.lean that lists a variable, with what it lists TIED to the program's text (the seventh form; the later family's looks); each row that meets fmt, with fmt's text TOLD by the authors' own Lean function (tested against real Go, not proved from fmt's source: count such statements apart). THE CARD IS WHAT COUNTS. Prove the row's statement (the work); the ties are given (YtcfeailakljpnaaDoorTie.lean); close each card by the builder's one call (the guide's Derived/Test/ToyasCard.lean, 'card_holds'). Laid BY PROGRAM, IN A SANDBOX (cutbox-door.mjs). By AI agents, Wed Nov 11 2026. No macro, syntax, notation, axiom, sorry.
-/
import Derived.Test.YtcfeailakljpnaaDoorRows
import GoSem.ClaimSeven
namespace Go.Proofs.YtcfeailakljpnaaDoor
namespace Rows

/-- THE TIED CARD OF 'pitlaw2.WakePlays'. -/
def wakePlaysCard : Claim7 := { stood := { row := wakePlaysRow, standIns := [], harness := (true, "74059c5e83146c5c4a0aa26616322a3fba112cb66abb9457860ccc508df9e3a9"), looks := true }, kinds := [], alts := [], laidByText := true, laidKinds := [.handle], laidTests := true, laidLooks := .later }
def WakePlaysCardSaid : Prop := Claim7.holds Tryd.pinned (.plain (OpenSpec.ofChange wakePlaysSpec)) wakePlaysCard

/-- THE SECOND FORM's CARD OF 'pitlaw2.WakePlays'. -/
def wakePlaysUptoCard : Claim7 := { stood := { row := wakePlaysUptoRow, standIns := [], harness := (true, "74059c5e83146c5c4a0aa26616322a3fba112cb66abb9457860ccc508df9e3a9"), looks := true }, kinds := [], alts := [], laidByText := true, laidKinds := [.handle], laidTests := true, laidLooks := .later }
def WakePlaysUptoCardSaid : Prop := Claim7.holds Tryd.pinned (.plain (OpenSpec.upto wakePlaysSpec)) wakePlaysUptoCard
end Rows
end Go.Proofs.YtcfeailakljpnaaDoor
