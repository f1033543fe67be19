/-
  DERIVED. GIVEN WITH THE SEED: THE CARDS: each row of YtabcfmpmkdoieaaDoorRows.lean that lists a variable, with what it lists TIED to the program's text (the seventh form; the later family's looks); each row that meets fmt, with fmt's text TOLD by the authors' own Lean function (tested against real Go, not proved from fmt's source: count such statements apart). THE CARD IS WHAT COUNTS. Prove the row's statement (the work); the ties are given (YtabcfmpmkdoieaaDoorTie.lean); close each card by the builder's one call (the guide's Derived/Test/ToyasCard.lean, 'card_holds'). Laid BY PROGRAM, IN A SANDBOX (cutbox-door.mjs). By AI agents, Wed Nov 11 2026. No macro, syntax, notation, axiom, sorry.
-/
import Derived.Test.YtabcfmpmkdoieaaDoorRows
import GoSem.ClaimSeven
namespace Go.Proofs.YtabcfmpmkdoieaaDoor
namespace Rows

/-- THE TIED CARD OF 'pitlaw2.CallTells'. -/
def callTellsCard : Claim7 := { stood := { row := callTellsRow, standIns := [], harness := (true, "554d6cbf34dfcf95b1e553a97c942b32be7abb900724b42a12dadf8e7b8901c1"), looks := true }, kinds := [], alts := [], laidByText := true, laidKinds := [.handle], laidTests := true, laidLooks := .later }
def CallTellsCardSaid : Prop := Claim7.holds Tryd.pinned (.plain (OpenSpec.ofChange callTellsSpec)) callTellsCard

/-- THE SECOND FORM's CARD OF 'pitlaw2.CallTells'. -/
def callTellsUptoCard : Claim7 := { stood := { row := callTellsUptoRow, standIns := [], harness := (true, "554d6cbf34dfcf95b1e553a97c942b32be7abb900724b42a12dadf8e7b8901c1"), looks := true }, kinds := [], alts := [], laidByText := true, laidKinds := [.handle], laidTests := true, laidLooks := .later }
def CallTellsUptoCardSaid : Prop := Claim7.holds Tryd.pinned (.plain (OpenSpec.upto callTellsSpec)) callTellsUptoCard
end Rows
end Go.Proofs.YtabcfmpmkdoieaaDoor
