/-
  DERIVED. GIVEN WITH THE SEED: THE CARDS: each row of YtalhdjlopkdnbaaGreatDoorRows.lean that lists a variable, with what it lists TIED to the program's text (the seventh form; the later family's looks); each row that meets fmt, with fmt's text TOLD by the authors' own Lean function (tested against real Go, not proved from fmt's source: count such statements apart). THE CARD IS WHAT COUNTS. Prove the row's statement (the work); the ties are given (YtalhdjlopkdnbaaGreatDoorTie.lean); close each card by the builder's one call (the guide's Derived/Test/ToyasCard.lean, 'card_holds'). Laid BY PROGRAM, IN A SANDBOX (cutbox-door.mjs). By AI agents, Wed Nov 11 2026. No macro, syntax, notation, axiom, sorry.
-/
import Derived.Test.YtalhdjlopkdnbaaGreatDoorRows
import GoSem.ClaimSeven
namespace Go.Proofs.YtalhdjlopkdnbaaGreatDoor
namespace Rows

/-- THE TIED CARD OF 'pitlaw1.BookTells'. -/
def bookTellsCard : Claim7 := { stood := { row := bookTellsRow, standIns := [], harness := (true, "74d91026d87842d072f57218834e1a4315ff3c8dc9f695a9fe6ed394a881e6e9"), looks := true }, kinds := [], alts := [], laidByText := true, laidKinds := [.data, .data, .data, .handle], laidTests := true, laidLooks := .later }
def BookTellsCardSaid : Prop := Claim7.holds Tryz.pinned (.plain (OpenSpec.ofChange bookTellsSpec)) bookTellsCard

/-- THE TIED CARD OF 'pitlaw1.MeetTells'. -/
def meetTellsCard : Claim7 := { stood := { row := meetTellsRow, standIns := [], harness := (true, "74d91026d87842d072f57218834e1a4315ff3c8dc9f695a9fe6ed394a881e6e9"), looks := true }, kinds := [], alts := [], laidByText := true, laidKinds := [.handle], laidTests := true, laidLooks := .later }
def MeetTellsCardSaid : Prop := Claim7.holds Tryz.pinned (.plain (OpenSpec.ofChange meetTellsSpec)) meetTellsCard

/-- THE TIED CARD OF 'pitlaw1.KindsTell'. -/
def kindsTellCard : Claim7 := { stood := { row := kindsTellRow, standIns := [], harness := (true, "74d91026d87842d072f57218834e1a4315ff3c8dc9f695a9fe6ed394a881e6e9"), looks := true }, kinds := [], alts := [], laidByText := true, laidKinds := [.handle], laidTests := true, laidLooks := .later }
def KindsTellCardSaid : Prop := Claim7.holds Tryz.pinned (.plain (OpenSpec.ofChange kindsTellSpec)) kindsTellCard

/-- THE TIED CARD OF 'pitlaw1.SelfTells'. -/
def selfTellsCard : Claim7 := { stood := { row := selfTellsRow, standIns := [], harness := (true, "74d91026d87842d072f57218834e1a4315ff3c8dc9f695a9fe6ed394a881e6e9"), looks := true }, kinds := [], alts := [], laidByText := true, laidKinds := [.handle], laidTests := true, laidLooks := .later }
def SelfTellsCardSaid : Prop := Claim7.holds Tryz.pinned (.plain (OpenSpec.ofChange selfTellsSpec)) selfTellsCard

/-- THE SECOND FORM's CARD OF 'pitlaw1.BookTells'. -/
def bookTellsUptoCard : Claim7 := { stood := { row := bookTellsUptoRow, standIns := [], harness := (true, "74d91026d87842d072f57218834e1a4315ff3c8dc9f695a9fe6ed394a881e6e9"), looks := true }, kinds := [], alts := [], laidByText := true, laidKinds := [.data, .data, .data, .handle], laidTests := true, laidLooks := .later }
def BookTellsUptoCardSaid : Prop := Claim7.holds Tryz.pinned (.plain (OpenSpec.upto bookTellsSpec)) bookTellsUptoCard

/-- THE SECOND FORM's CARD OF 'pitlaw1.MeetTells'. -/
def meetTellsUptoCard : Claim7 := { stood := { row := meetTellsUptoRow, standIns := [], harness := (true, "74d91026d87842d072f57218834e1a4315ff3c8dc9f695a9fe6ed394a881e6e9"), looks := true }, kinds := [], alts := [], laidByText := true, laidKinds := [.handle], laidTests := true, laidLooks := .later }
def MeetTellsUptoCardSaid : Prop := Claim7.holds Tryz.pinned (.plain (OpenSpec.upto meetTellsSpec)) meetTellsUptoCard

/-- THE SECOND FORM's CARD OF 'pitlaw1.KindsTell'. -/
def kindsTellUptoCard : Claim7 := { stood := { row := kindsTellUptoRow, standIns := [], harness := (true, "74d91026d87842d072f57218834e1a4315ff3c8dc9f695a9fe6ed394a881e6e9"), looks := true }, kinds := [], alts := [], laidByText := true, laidKinds := [.handle], laidTests := true, laidLooks := .later }
def KindsTellUptoCardSaid : Prop := Claim7.holds Tryz.pinned (.plain (OpenSpec.upto kindsTellSpec)) kindsTellUptoCard

/-- THE SECOND FORM's CARD OF 'pitlaw1.SelfTells'. -/
def selfTellsUptoCard : Claim7 := { stood := { row := selfTellsUptoRow, standIns := [], harness := (true, "74d91026d87842d072f57218834e1a4315ff3c8dc9f695a9fe6ed394a881e6e9"), looks := true }, kinds := [], alts := [], laidByText := true, laidKinds := [.handle], laidTests := true, laidLooks := .later }
def SelfTellsUptoCardSaid : Prop := Claim7.holds Tryz.pinned (.plain (OpenSpec.upto selfTellsSpec)) selfTellsUptoCard
end Rows
end Go.Proofs.YtalhdjlopkdnbaaGreatDoor
