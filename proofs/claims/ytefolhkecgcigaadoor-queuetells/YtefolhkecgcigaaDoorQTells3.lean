/- The walk of QueueTells, at whatever comes in. -/
import Derived.Test.YtefolhkecgcigaaDoorQTells2
namespace Go.Proofs.YtefolhkecgcigaaDoor.queueTells
open Go.RowKit
theorem walk {w : World} (v : Value) (zs : List que.R) (hS : que.SL w v zs) (r1 r2 r3 r4 r5 id n : Int) (B : World) (hI : told.Inv B w) :
    Calls Tryd.prog 3 #[v, .agg #[.int .i64 r1, .int .i64 r2, .int .i64 r3, .int .i64 r4, .int .i64 r5], .int .i64 id, .int .i64 n] w fun e w' => e = .returned (.bool true) ∧ told.Inv B w' := by
  obtain ⟨p, c, rfl⟩ := hS.form
  exact que.tells_walk p zs.length c zs r1 r2 r3 r4 r5 id n B w hI rfl hS
end Go.Proofs.YtefolhkecgcigaaDoor.queueTells
