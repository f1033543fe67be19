/-
  DERIVED. GIVEN WITH THE SEED: THE CARDS: each row of YtpcomgnglidhhaaDoorRows.lean that lists a variable, with what it lists TIED to the program's text (the seventh form; the later family's looks); each row that meets fmt, with fmt's text TOLD by the authors' own Lean function (tested against real Go, not proved from fmt's source: count such statements apart). THE CARD IS WHAT COUNTS. Prove the row's statement (the work); the ties are given (YtpcomgnglidhhaaDoorTie.lean); close each card by the builder's one call (the guide's Derived/Test/ToyasCard.lean, 'card_holds'). Laid BY PROGRAM, IN A SANDBOX (cutbox-door.mjs). By AI agents, Wed Nov 11 2026. No macro, syntax, notation, axiom, sorry.
-/
import Derived.Test.YtpcomgnglidhhaaDoorRows
import GoSem.ClaimSeven
namespace Go.Proofs.YtpcomgnglidhhaaDoor
namespace Rows

/-- THE TIED CARD OF 'pitlaw1.OrderBack'. -/
def orderBackCard : Claim7 := { stood := { row := orderBackRow, standIns := [], harness := (true, "11f656e69eb3ba572591a56a40363b7782940a9bc33208a23abee8767cc32d52"), looks := true }, kinds := [], alts := [], laidByText := true, laidKinds := [.data, .data, .data, .data, .sentinel, .sentinel, .data, .data, .pinned], laidTests := true, laidLooks := .later }
def OrderBackCardSaid : Prop := Claim7.holds Tryd.pinned (.plain (OpenSpec.ofChange orderBackSpec)) orderBackCard

/-- THE TIED CARD OF 'pitlaw4.OrderWords'. -/
def orderWordsCard : Claim7 := { stood := { row := orderWordsRow, standIns := [], harness := (true, "11f656e69eb3ba572591a56a40363b7782940a9bc33208a23abee8767cc32d52"), looks := true }, kinds := [], alts := [], laidByText := true, laidKinds := [.data, .data, .data, .data, .data], laidTests := true, laidLooks := .later }
def OrderWordsCardSaid : Prop := Claim7.holds Tryd.pinned (.plain (OpenSpec.ofChange orderWordsSpec)) orderWordsCard

/-- THE SECOND FORM's CARD OF 'pitlaw1.OrderBack'. -/
def orderBackUptoCard : Claim7 := { stood := { row := orderBackUptoRow, standIns := [], harness := (true, "11f656e69eb3ba572591a56a40363b7782940a9bc33208a23abee8767cc32d52"), looks := true }, kinds := [], alts := [], laidByText := true, laidKinds := [.data, .data, .data, .data, .sentinel, .sentinel, .data, .data, .pinned], laidTests := true, laidLooks := .later }
def OrderBackUptoCardSaid : Prop := Claim7.holds Tryd.pinned (.plain (OpenSpec.upto orderBackSpec)) orderBackUptoCard

/-- THE SECOND FORM's CARD OF 'pitlaw4.OrderWords'. -/
def orderWordsUptoCard : Claim7 := { stood := { row := orderWordsUptoRow, standIns := [], harness := (true, "11f656e69eb3ba572591a56a40363b7782940a9bc33208a23abee8767cc32d52"), looks := true }, kinds := [], alts := [], laidByText := true, laidKinds := [.data, .data, .data, .data, .data], laidTests := true, laidLooks := .later }
def OrderWordsUptoCardSaid : Prop := Claim7.holds Tryd.pinned (.plain (OpenSpec.upto orderWordsSpec)) orderWordsUptoCard
end Rows
end Go.Proofs.YtpcomgnglidhhaaDoor
