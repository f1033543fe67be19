/-
  DERIVED. GIVEN WITH THE SEED: THE CARDS: each row of YtegbicmfgblphaaDoorRows.lean that lists a variable, with what it lists TIED to the program's text (the seventh form; the later family's looks); each row that meets fmt, with fmt's text TOLD by the authors' own Lean function (tested against real Go, not proved from fmt's source: count such statements apart). THE CARD IS WHAT COUNTS. Prove the row's statement (the work); the ties are given (YtegbicmfgblphaaDoorTie.lean); close each card by the builder's one call (the guide's Derived/Test/ToyasCard.lean, 'card_holds'). Laid BY PROGRAM, IN A SANDBOX (cutbox-door.mjs). By AI agents, Wed Nov 11 2026. No macro, syntax, notation, axiom, sorry.
-/
import Derived.Test.YtegbicmfgblphaaDoorRows
import GoSem.ClaimSeven
namespace Go.Proofs.YtegbicmfgblphaaDoor
namespace Rows

/-- THE TIED CARD OF 'pitlaw4.KindsWhole'. -/
def kindsWholeCard : Claim7 := { stood := { row := kindsWholeRow, standIns := [], harness := (true, "fbead47dc7f2cfe18d662563871408868c4362e99b649a1e4d3fecd57e7a8349"), looks := true }, kinds := [], alts := [], laidByText := true, laidKinds := [.handle], laidTests := true, laidLooks := .later }
def KindsWholeCardSaid : Prop := Claim7.holds Tryd.pinned (.plain (OpenSpec.ofChange kindsWholeSpec)) kindsWholeCard

/-- THE SECOND FORM's CARD OF 'pitlaw4.KindsWhole'. -/
def kindsWholeUptoCard : Claim7 := { stood := { row := kindsWholeUptoRow, standIns := [], harness := (true, "fbead47dc7f2cfe18d662563871408868c4362e99b649a1e4d3fecd57e7a8349"), looks := true }, kinds := [], alts := [], laidByText := true, laidKinds := [.handle], laidTests := true, laidLooks := .later }
def KindsWholeUptoCardSaid : Prop := Claim7.holds Tryd.pinned (.plain (OpenSpec.upto kindsWholeSpec)) kindsWholeUptoCard
end Rows
end Go.Proofs.YtegbicmfgblphaaDoor
