/-
  DERIVED. GIVEN WITH THE SEED: THE CARDS: each row of YtgpbpaimfhlnhaaDoorRows.lean that lists a variable, with what it lists TIED to the program's text (the seventh form; the later family's looks); each row that meets fmt, with fmt's text TOLD by the authors' own Lean function (tested against real Go, not proved from fmt's source: count such statements apart). THE CARD IS WHAT COUNTS. Prove the row's statement (the work); the ties are given (YtgpbpaimfhlnhaaDoorTie.lean); close each card by the builder's one call (the guide's Derived/Test/ToyasCard.lean, 'card_holds'). Laid BY PROGRAM, IN A SANDBOX (cutbox-door.mjs). By AI agents, Wed Nov 11 2026. No macro, syntax, notation, axiom, sorry.
-/
import Derived.Test.YtgpbpaimfhlnhaaDoorRows
import GoSem.ClaimSeven
namespace Go.Proofs.YtgpbpaimfhlnhaaDoor
namespace Rows

/-- THE TIED CARD OF 'pitlaw3.TapeTells'. -/
def tapeTellsCard : Claim7 := { stood := { row := tapeTellsRow, standIns := [], harness := (true, "50ba266b369ad4c0aa7063e9cdcc8cb2f0665d0cda88a0cba13de3e40a45e171"), looks := true }, kinds := [], alts := [], laidByText := true, laidKinds := [.data, .data, .data, .handle, .data], laidTests := true, laidLooks := .later }
def TapeTellsCardSaid : Prop := Claim7.holds Tryd.pinned (.plain (OpenSpec.ofChange tapeTellsSpec)) tapeTellsCard

/-- THE TIED CARD OF 'pitlaw4.TapeCounts'. -/
def tapeCountsCard : Claim7 := { stood := { row := tapeCountsRow, standIns := [], harness := (true, "50ba266b369ad4c0aa7063e9cdcc8cb2f0665d0cda88a0cba13de3e40a45e171"), looks := true }, kinds := [], alts := [], laidByText := true, laidKinds := [.data, .data, .data, .data], laidTests := true, laidLooks := .later }
def TapeCountsCardSaid : Prop := Claim7.holds Tryd.pinned (.plain (OpenSpec.ofChange tapeCountsSpec)) tapeCountsCard

/-- THE SECOND FORM's CARD OF 'pitlaw3.TapeTells'. -/
def tapeTellsUptoCard : Claim7 := { stood := { row := tapeTellsUptoRow, standIns := [], harness := (true, "50ba266b369ad4c0aa7063e9cdcc8cb2f0665d0cda88a0cba13de3e40a45e171"), looks := true }, kinds := [], alts := [], laidByText := true, laidKinds := [.data, .data, .data, .handle, .data], laidTests := true, laidLooks := .later }
def TapeTellsUptoCardSaid : Prop := Claim7.holds Tryd.pinned (.plain (OpenSpec.upto tapeTellsSpec)) tapeTellsUptoCard

/-- THE SECOND FORM's CARD OF 'pitlaw4.TapeCounts'. -/
def tapeCountsUptoCard : Claim7 := { stood := { row := tapeCountsUptoRow, standIns := [], harness := (true, "50ba266b369ad4c0aa7063e9cdcc8cb2f0665d0cda88a0cba13de3e40a45e171"), looks := true }, kinds := [], alts := [], laidByText := true, laidKinds := [.data, .data, .data, .data], laidTests := true, laidLooks := .later }
def TapeCountsUptoCardSaid : Prop := Claim7.holds Tryd.pinned (.plain (OpenSpec.upto tapeCountsSpec)) tapeCountsUptoCard
end Rows
end Go.Proofs.YtgpbpaimfhlnhaaDoor
