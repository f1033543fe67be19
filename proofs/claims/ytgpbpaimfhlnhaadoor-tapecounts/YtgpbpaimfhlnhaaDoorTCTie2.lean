/- TapeCounts, whatever comes in. -/
import Derived.Test.YtgpbpaimfhlnhaaDoorTCWalk2
import Derived.Test.YtgpbpaimfhlnhaaDoorTapLaid
namespace Go.Proofs.YtgpbpaimfhlnhaaDoor.tapeCounts
open Go.RowKit

theorem walk (a b : Int) (w : World) (hT : bld.Tab w) (hD : tap.Wds w) :
    Calls Tryd.prog 4 #[.int .i64 a, .int .i64 b] w fun e w' => e = .returned (.bool true) ∧ Below w.heap.size w w' := tap.counts_any a b w hT hD
end Go.Proofs.YtgpbpaimfhlnhaaDoor.tapeCounts
