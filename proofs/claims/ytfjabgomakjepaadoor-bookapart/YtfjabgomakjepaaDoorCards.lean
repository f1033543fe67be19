/-
  DERIVED. GIVEN WITH THE SEED: THE CARDS: each row of YtfjabgomakjepaaDoorRows.lean that lists a variable, with what it lists TIED to the program's text (the seventh form; the later family's looks); each row that meets fmt, with fmt's text TOLD by the authors' own Lean function (tested against real Go, not proved from fmt's source: count such statements apart). THE CARD IS WHAT COUNTS. Prove the row's statement (the work); the ties are given (YtfjabgomakjepaaDoorTie.lean); close each card by the builder's one call (the guide's Derived/Test/ToyasCard.lean, 'card_holds'). Laid BY PROGRAM, IN A SANDBOX (cutbox-door.mjs). By AI agents, Wed Nov 11 2026. No macro, syntax, notation, axiom, sorry.
-/
import Derived.Test.YtfjabgomakjepaaDoorRows
import GoSem.ClaimSeven
namespace Go.Proofs.YtfjabgomakjepaaDoor
namespace Rows

/-- THE TIED CARD OF 'pitlaw1.SideTells'. -/
def sideTellsCard : Claim7 := { stood := { row := sideTellsRow, standIns := [], harness := (true, "4da8cc6c4d12ec3fcc758f79843d8c21f694dbea7fd255ec0abb0896f2a6ed8e"), looks := true }, kinds := [], alts := [], laidByText := true, laidKinds := [.handle], laidTests := true, laidLooks := .later }
def SideTellsCardSaid : Prop := Claim7.holds Tryd.pinned (.plain (OpenSpec.ofChange sideTellsSpec)) sideTellsCard

/-- THE TIED CARD OF 'pitlaw4.SideSorts'. -/
def sideSortsCard : Claim7 := { stood := { row := sideSortsRow, standIns := [], harness := (true, "4da8cc6c4d12ec3fcc758f79843d8c21f694dbea7fd255ec0abb0896f2a6ed8e"), looks := true }, kinds := [], alts := [], laidByText := true, laidKinds := [.handle], laidTests := true, laidLooks := .later }
def SideSortsCardSaid : Prop := Claim7.holds Tryd.pinned (.plain (OpenSpec.ofChange sideSortsSpec)) sideSortsCard

/-- THE TIED CARD OF 'pitlaw4.BookApart'. -/
def bookApartCard : Claim7 := { stood := { row := bookApartRow, standIns := [], harness := (true, "4da8cc6c4d12ec3fcc758f79843d8c21f694dbea7fd255ec0abb0896f2a6ed8e"), looks := true }, kinds := [], alts := [], laidByText := true, laidKinds := [.handle], laidTests := true, laidLooks := .later }
def BookApartCardSaid : Prop := Claim7.holds Tryd.pinned (.plain (OpenSpec.ofChange bookApartSpec)) bookApartCard

/-- THE SECOND FORM's CARD OF 'pitlaw1.SideTells'. -/
def sideTellsUptoCard : Claim7 := { stood := { row := sideTellsUptoRow, standIns := [], harness := (true, "4da8cc6c4d12ec3fcc758f79843d8c21f694dbea7fd255ec0abb0896f2a6ed8e"), looks := true }, kinds := [], alts := [], laidByText := true, laidKinds := [.handle], laidTests := true, laidLooks := .later }
def SideTellsUptoCardSaid : Prop := Claim7.holds Tryd.pinned (.plain (OpenSpec.upto sideTellsSpec)) sideTellsUptoCard

/-- THE SECOND FORM's CARD OF 'pitlaw4.SideSorts'. -/
def sideSortsUptoCard : Claim7 := { stood := { row := sideSortsUptoRow, standIns := [], harness := (true, "4da8cc6c4d12ec3fcc758f79843d8c21f694dbea7fd255ec0abb0896f2a6ed8e"), looks := true }, kinds := [], alts := [], laidByText := true, laidKinds := [.handle], laidTests := true, laidLooks := .later }
def SideSortsUptoCardSaid : Prop := Claim7.holds Tryd.pinned (.plain (OpenSpec.upto sideSortsSpec)) sideSortsUptoCard

/-- THE SECOND FORM's CARD OF 'pitlaw4.BookApart'. -/
def bookApartUptoCard : Claim7 := { stood := { row := bookApartUptoRow, standIns := [], harness := (true, "4da8cc6c4d12ec3fcc758f79843d8c21f694dbea7fd255ec0abb0896f2a6ed8e"), looks := true }, kinds := [], alts := [], laidByText := true, laidKinds := [.handle], laidTests := true, laidLooks := .later }
def BookApartUptoCardSaid : Prop := Claim7.holds Tryd.pinned (.plain (OpenSpec.upto bookApartSpec)) bookApartUptoCard
end Rows
end Go.Proofs.YtfjabgomakjepaaDoor
