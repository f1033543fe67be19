/- BarsTell, whatever comes in. -/
import Derived.Test.YtkbegagpliiljaaDoorBTWalk2
namespace Go.Proofs.YtkbegagpliiljaaDoor.barsTell
open Go.RowKit Go.Proofs.YtkbegagpliiljaaDoor.mee

theorem walk {w : World} (v : Value) (zs : List T) (h : bar.TL w v zs) (n : Int) (vb : Value) (bs : List bar.B) (hb : bar.BL w vb bs) (B : World) (hI : told.Inv B w) :
    Calls Tryd.prog 3 #[v, .int .i64 n, vb] w fun e w' => e = .returned (.bool true) ∧ told.Inv B w' :=
  (bar.tell_any v zs n vb bs w h hb hI.laid).mono fun _ _ x => ⟨x.1, hI.on x.2⟩
end Go.Proofs.YtkbegagpliiljaaDoor.barsTell
