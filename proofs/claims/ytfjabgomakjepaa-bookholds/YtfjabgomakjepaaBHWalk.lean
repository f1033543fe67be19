/- The walk of the law BookHolds. -/
import Derived.Test.YtfjabgomakjepaaBHWalk0
import Derived.Test.YtfjabgomakjepaaBHWalk1
import Derived.Test.YtfjabgomakjepaaBHWalk2
namespace Go.Proofs.Ytfjabgomakjepaa.bok
open Go.RowKit Go.Proofs.Ytfjabgomakjepaa.spn Go.Proofs.Ytfjabgomakjepaa.que Go.Proofs.Ytfjabgomakjepaa.sid

theorem holds_walk (s : Int) (p : Int) (q1 q2 : Option Addr) (n1 n2 c1 c2 : Nat) (a b c d e : Int) (bs ss : List L) (w : World) (h1 : LS w (.slice q1 n1 c1) bs) (h2 : LS w (.slice q2 n2 c2) ss) :
    Calls Try.prog 4 #[.agg #[.slice q1 n1 c1, .slice q2 n2 c2], .int .i64 s, .int .i64 p, .agg #[.int .i64 a, .int .i64 b, .int .i64 c, .int .i64 d, .int .i64 e]] w fun x w' => x = .returned (.bool true) ∧ Below w.heap.size w w' := by
  by_cases h0 : putE bs ss s p ⟨a, b, c, d, e⟩ = 0
  · rcases put_side h0 with rfl | rfl
    · exact holds_1 p q1 q2 n1 n2 c1 c2 a b c d e bs ss w h1 h2 h0
    · exact holds_2 p q1 q2 n1 n2 c1 c2 a b c d e bs ss w h1 h2 h0
  · exact holds_err s p q1 q2 n1 n2 c1 c2 a b c d e bs ss w h1 h2 h0
end Go.Proofs.Ytfjabgomakjepaa.bok
