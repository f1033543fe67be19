/- A trade, and its cells. -/
import Derived.Test.YtkbegagpliiljaaDoorSpan
namespace Go.Proofs.YtkbegagpliiljaaDoor.mee
open Go.RowKit

/-- A trade. -/
structure T where
  maker : Int
  taker : Int
  frm : Int
  into : Int
  price : Int
  qty : Int
deriving DecidableEq, Inhabited
/-- The six cells of a trade. -/
def tV (t : T) : List Value := [.int .i64 t.maker, .int .i64 t.taker, .int .i64 t.frm, .int .i64 t.into, .int .i64 t.price, .int .i64 t.qty]
end Go.Proofs.YtkbegagpliiljaaDoor.mee
