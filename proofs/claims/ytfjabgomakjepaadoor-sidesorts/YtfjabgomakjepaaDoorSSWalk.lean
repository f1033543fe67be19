/- The walk of the law SideSorts. -/
import Derived.Test.YtfjabgomakjepaaDoorSSWalk1
import Derived.Test.YtfjabgomakjepaaDoorSSWalk2
namespace Go.Proofs.YtfjabgomakjepaaDoor.sideSorts
open Go.RowKit Go.Proofs.YtfjabgomakjepaaDoor.spn Go.Proofs.YtfjabgomakjepaaDoor.que Go.Proofs.YtfjabgomakjepaaDoor.sid
open Go.Proofs.YtfjabgomakjepaaDoor.tickP (priceB sideB)


theorem walk (s : Int) (v : Value) (zs : List Int) {B : World} (hv : IL B v zs) (w : World) (h : told.Inv B w) :
    Calls Tryd.prog 4 #[.int .i64 s, v] w fun e w' => e = .returned (.bool true) ∧ told.Inv B w' := by
  replace hv : IL w v zs := hv.below h.2
  cases hs : sideB s
  · exact walk_side s v B w hs h
  · have h2 : s = 1 ∨ s = 2 := by simpa [sideB] using hs
    rcases hv with ⟨rfl, rfl⟩ | ⟨b, o, c, rfl, -, -, h5, h6⟩
    · rcases h2 with rfl | rfl
      · exact walk_1n B w h
      · exact walk_2n B w h
    · rcases h2 with rfl | rfl
      · exact walk_1 b o c zs B w h5 h6 h
      · exact walk_2 b o c zs B w h5 h6 h
end Go.Proofs.YtfjabgomakjepaaDoor.sideSorts
