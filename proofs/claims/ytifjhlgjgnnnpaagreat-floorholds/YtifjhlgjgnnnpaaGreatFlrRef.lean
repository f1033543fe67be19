import Derived.Test.YtifjhlgjgnnnpaaGreatSidCat
import Derived.Test.YtifjhlgjgnnnpaaGreatQueOwn
import Derived.Test.YtifjhlgjgnnnpaaGreatSidPut
import Derived.Test.YtifjhlgjgnnnpaaGreatQueFil
import Derived.Test.YtifjhlgjgnnnpaaGreatBokFind
import Derived.Deep.AppendLies
import Derived.Deep.QuietTactic
import Derived.BigQuiet
namespace Go.Proofs.YtifjhlgjgnnnpaaGreat
namespace sid
open Go.RowKit spn que
end sid
namespace bok
open Go.RowKit
theorem rof_any(s:Int)(q1 q2:Option Addr)(n1 n2 c1 c2:Nat)(w:World) :
  Calls Tryz.prog 12 #[.agg #[.slice q1 n1 c1,.slice q2 n2 c2],.int .i64 s] w fun e w'=>e=.returned (if s=1 then .slice q1 n1 c1 else .slice q2 n2 c2)∧Below w.heap.size w w':=by
 by_cases hs:s=1
 ·rw[if_pos hs]
  subst hs
  go_enter Tryz.func12,Tryz.ntmps12
  go_wp2
  go_ret
  exact⟨rfl,(bzR _ _).alloc (nzR _) _⟩
 ·rw[if_neg hs]
  have h1:(s == 1)=false:=by simpa using hs
  go_enter Tryz.func12,Tryz.ntmps12
  go_wp2
  go_ret
  exact⟨rfl,(bzR _ _).alloc (nzR _) _⟩
end bok
end Go.Proofs.YtifjhlgjgnnnpaaGreat
