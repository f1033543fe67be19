/- TapeTells, whatever comes in. -/
import Derived.Test.YtgpbpaimfhlnhaaDoorTLWalk
import Derived.Test.YtgpbpaimfhlnhaaDoorTapLaid
namespace Go.Proofs.YtgpbpaimfhlnhaaDoor.tapeTells
open Go.RowKit Go.Proofs.YtgpbpaimfhlnhaaDoor.flr

theorem walk {w : World} (v : Value) (zs : List Ev) (h : tap.EL w v zs) (B : World) (hI : told.Inv B w) (hT : bld.Tab w) (hD : tap.Wds w) :
    Calls Tryd.prog 3 #[v] w fun e w' => e = .returned (.bool true) ∧ told.Inv B w' :=
  (tap.tells_any v zs h (told.Inv.start hI.laid) hT hD).mono fun _ _ x => ⟨x.1, hI.on x.2.2⟩
end Go.Proofs.YtgpbpaimfhlnhaaDoor.tapeTells
