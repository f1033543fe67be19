/- The walk of WakePlays, as its card takes it. -/
import Derived.Test.YtcfeailakljpnaaDoorWPWalk
namespace Go.Proofs.YtcfeailakljpnaaDoor.wakePlays
open Go.RowKit Go.Proofs.YtcfeailakljpnaaDoor.ord

theorem walk {w : World} (v : Value) (l : List O) (hS : wak.SL w v l) (sq : Option Addr) (sn sc : Nat) (hst : wak.ST w sq sn) (B : World) (hI : told.Inv B w) :
    Calls Tryd.prog 3 #[v, .slice sq sn sc] w fun e w' => e = .returned (.bool true) ∧ told.Inv B w' := by
  have hbig : l.length ≤ 9223372036854775807 := by
    rcases hS with ⟨_, h2⟩ | ⟨_, _, c, _, h2, h3, _⟩
    · rw [h2]; decide
    · omega
  obtain ⟨q, c, rfl⟩ := hS.form
  exact (wak.plays_walk q _ c l sq sn sc w hI.laid hS rfl hbig hst).mono fun e w' h => ⟨h.1, hI.on h.2⟩
end Go.Proofs.YtcfeailakljpnaaDoor.wakePlays
