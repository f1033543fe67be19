/- The document's ReadBytes, whatever bytes come. -/
import Derived.Test.YtndkabnmffgebaaDoorWTRead0
import Derived.Test.YtndkabnmffgebaaDoorWTRead1
import Derived.Test.YtndkabnmffgebaaDoorWTRead2
import Derived.Test.YtndkabnmffgebaaDoorWTRead3
import Derived.Test.YtndkabnmffgebaaDoorWTRead4
import Derived.Test.YtndkabnmffgebaaDoorWTRead5
namespace Go.Proofs.YtndkabnmffgebaaDoor.wir
open Go.RowKit
open Go.Proofs.YtndkabnmffgebaaDoor.wak (OwnM step_append_mid)

theorem rread_any (s : ByteArray) (hs : s.size ≤ 2000000) (w : World) :
    Calls Tryd.prog 9 #[.string s] w fun e w' => e = .returned (rrV (rdC (bl s))) ∧ Below w.heap.size w w' := by
  by_cases h2 : s.size < 2
  · exact rread_0 s hs (.inl h2) w
  by_cases h : (((bl s)[0]!).toNat : Int) = 1
  · exact rread_1 s hs h2 h w
  by_cases h' : (((bl s)[0]!).toNat : Int) = 2
  · exact rread_2 s hs h2 h' w
  by_cases h3 : (((bl s)[0]!).toNat : Int) = 3
  · exact rread_3 s hs h2 h3 w
  by_cases h4 : (((bl s)[0]!).toNat : Int) = 4
  · exact rread_4 s hs h2 h4 w
  by_cases h5 : (((bl s)[0]!).toNat : Int) = 5
  · exact rread_5 s hs h2 h5 w
  exact rread_0 s hs (.inr ⟨h, h', h3, h4, h5⟩) w
end Go.Proofs.YtndkabnmffgebaaDoor.wir
