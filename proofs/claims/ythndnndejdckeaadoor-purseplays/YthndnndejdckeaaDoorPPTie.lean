/- The walk of PursePlays, as its card takes it. -/
import Derived.Test.YthndnndejdckeaaDoorPPWalk
namespace Go.Proofs.YthndnndejdckeaaDoor.pursePlays
open Go.RowKit

theorem walk {w : World} (sq : Option Addr) (sn sc : Nat) (hst : wak.ST w sq sn) (B : World) (hI : told.Inv B w) :
    Calls Tryd.prog 3 #[.slice sq sn sc] w fun e w' => e = .returned (.bool true) ∧ told.Inv B w' :=
  pur.plays_walk sq sn sc B w hI hst
end Go.Proofs.YthndnndejdckeaaDoor.pursePlays
