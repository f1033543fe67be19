/- The walk of MarginTells. -/
import Derived.Test.YtgadjgnmhldfmaaDoorMTWays2
namespace Go.Proofs.YtgadjgnmhldfmaaDoor.marginTells
open Go.RowKit Go.Proofs.YtgadjgnmhldfmaaDoor.mee Go.Proofs.YtgadjgnmhldfmaaDoor.mrg
open Go.Proofs.YtgadjgnmhldfmaaDoor.ord (chk prB)
open Go.Proofs.YtgadjgnmhldfmaaDoor.que (R rchk)

theorem walk {w : World} (a b c d p q s t r1 r2 r3 r4 r5 sd pr : Int) (v : Value) (ts : List T) (hL : TL w v ts) (g : Int) (B : World) (hI : told.Inv B w) :
    Calls Tryd.prog 3 #[.agg #[.int .i64 a, .int .i64 b, .int .i64 c, .int .i64 d, .int .i64 p, .int .i64 q, .int .i64 s, .int .i64 t], .agg #[.int .i64 r1, .int .i64 r2, .int .i64 r3, .int .i64 r4, .int .i64 r5], .int .i64 sd, .int .i64 pr, v, .int .i64 g] w fun e w' => e = .returned (.bool true) ∧ told.Inv B w' := by
  by_cases h0 : chk ⟨a, b, c, d, p, q, s, t⟩ = 0
  · by_cases hr : rchk ⟨r1, r2, r3, r4, r5⟩ = 0
    · cases hs : sidB sd
      · exact way_12 a b c d p q s t r1 r2 r3 r4 r5 sd pr v ts g B w hI hL h0 hr hs
      · cases hp : prB pr
        · exact way_13 a b c d p q s t r1 r2 r3 r4 r5 sd pr v ts g B w hI hL h0 hr hs hp
        · exact way_14 a b c d p q s t r1 r2 r3 r4 r5 sd pr v ts g B w hI hL h0 hr hs hp
    · exact way_11 a b c d p q s t r1 r2 r3 r4 r5 sd pr v ts g B w hI hL h0 hr
  · by_cases hr : rchk ⟨r1, r2, r3, r4, r5⟩ = 0
    · cases hs : sidB sd
      · exact way_02 a b c d p q s t r1 r2 r3 r4 r5 sd pr v ts g B w hI hL h0 hr hs
      · cases hp : prB pr
        · exact way_03 a b c d p q s t r1 r2 r3 r4 r5 sd pr v ts g B w hI hL h0 hr hs hp
        · exact way_04 a b c d p q s t r1 r2 r3 r4 r5 sd pr v ts g B w hI hL h0 hr hs hp
    · exact way_01 a b c d p q s t r1 r2 r3 r4 r5 sd pr v ts g B w hI hL h0 hr
end Go.Proofs.YtgadjgnmhldfmaaDoor.marginTells
