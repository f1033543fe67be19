/- Contracts over this seat's translation: the document's Meet at every order that comes. -/
import Derived.Test.YtalhdjlopkdnbaaGreatDoorMeeRef3
import Derived.Test.YtalhdjlopkdnbaaGreatDoorMeeRef3b
namespace Go.Proofs.YtalhdjlopkdnbaaGreatDoor.mee
open Go.RowKit Go.Proofs.YtalhdjlopkdnbaaGreatDoor.spn Go.Proofs.YtalhdjlopkdnbaaGreatDoor.que Go.Proofs.YtalhdjlopkdnbaaGreatDoor.sid Go.Proofs.YtalhdjlopkdnbaaGreatDoor.bok
open Go.Proofs.YtalhdjlopkdnbaaGreatDoor.ord (O oV mB mE chk rord_any ref_may)

theorem rmeet_any (b0 : Nat) (q1 q2 : Option Addr) (n1 n2 c1 c2 : Nat) (bs ss : List L) (a b c d p q s t : Int) (w : World) (hb0 : b0 ≤ w.heap.size) (h1 : LS (hide b0 w) (.slice q1 n1 c1) bs) (h2 : LS (hide b0 w) (.slice q2 n2 c2) ss) (hC : comeE bs ss ⟨a, b, c, d, p, q, s, t⟩ = 0) :
    Calls Tryz.prog 26 #[.agg #[.slice q1 n1 c1, .slice q2 n2 c2], .agg #[.int .i64 a, .int .i64 b, .int .i64 c, .int .i64 d, .int .i64 p, .int .i64 q, .int .i64 s, .int .i64 t], .int .i64 0] w fun e w' => MeetPost b0 bs ss ⟨a, b, c, d, p, q, s, t⟩ w e w' := by
  have hs : c = 1 ∨ c = 2 := by
    have h := (ord.chk_zero (come_zero hC).2.1).1
    simp [ord.headB] at h
    omega
  rcases hs with rfl | rfl
  · exact rmeet_buy b0 q1 q2 n1 n2 c1 c2 bs ss a b d p q s t w hb0 h1 h2 hC
  · exact rmeet_sell b0 q1 q2 n1 n2 c1 c2 bs ss a b d p q s t w hb0 h1 h2 hC
end Go.Proofs.YtalhdjlopkdnbaaGreatDoor.mee
