/- Contracts over this seat's translation: pitsame.Trades at two that are the same. -/
import Derived.Test.YtabcfmpmkdoieaaDoorCalNam
import Derived.Test.YtabcfmpmkdoieaaDoorWakSame
namespace Go.Proofs.YtabcfmpmkdoieaaDoor.cal
open Go.RowKit Go.Proofs.YtabcfmpmkdoieaaDoor.ord
open Go.Proofs.YtabcfmpmkdoieaaDoor.wak (Lies SL oL OwnM)
open Go.Proofs.YtabcfmpmkdoieaaDoor.spn (keeps bcell)

theorem trades_none (p q : Option Addr) (c d : Nat) (w : World) :
    Calls Tryd.prog 13 #[.slice p 0 c, .slice q 0 d] w fun e w' => e = .returned (.bool true) ∧ Below w.heap.size w w' := by
  go_enter Tryd.func13, Tryd.ntmps13
  go_wp2_with fail
  go_loopg [5] 0 (fun _ s5 wr => s5 = .int .i64 0 ∧ wr = w)
  case atStart => exact ⟨rfl, rfl⟩
  case round =>
    obtain ⟨rfl, rfl⟩ := hrel
    go_wp2_with fail
    go_ret
    exact ⟨rfl, Below.refl _ _⟩

set_option maxRecDepth 100000 in
set_option maxHeartbeats 1000000 in
theorem trades_same (q1 q2 : Option Addr) (n c1 c2 B1 B2 : Nat) (ts : List T) (w : World) (hl : n = ts.length) (hn : n ≤ 1000) (h1 : OwnM w B1 58 6 (.slice q1 n c1) n (flatT ts)) (h2 : OwnM w B2 58 6 (.slice q2 n c2) n (flatT ts)) :
    Calls Tryd.prog 13 #[.slice q1 n c1, .slice q2 n c2] w fun e w' => e = .returned (.bool true) ∧ Below w.heap.size w w' := by
  by_cases hz : n = 0
  · subst hz
    exact trades_none q1 q2 c1 c2 w
  obtain ⟨b, o, rfl, -, hb, hA⟩ := trades_some h1 hl (by omega)
  obtain ⟨b', o', rfl, -, hb', hB⟩ := trades_some h2 hl (by omega)
  have HA := hidC hA
  have HB := hidC hB
  clear h1 h2 hz hA hB hl
  go_enter Tryd.func13, Tryd.ntmps13
  go_wp2_with fail
  go_loopg [5] n (fun gg s5 wr => ∃ kk : Nat, kk ≤ n ∧ n - kk ≤ gg ∧ s5 = .int .i64 kk ∧ Aside (Below w.heap.size w wr))
  case atStart => exact ⟨0, Nat.zero_le _, by omega, rfl, Below.refl _ w⟩
  case round =>
    obtain ⟨kk, hkk, hg, rfl, BW⟩ := hrel
    by_cases hlt : kk < n
    · have hltz : (kk : Int) < (n : Int) := by omega
      have a := HA.out kk hlt
      have b := HB.out kk hlt
      obtain ⟨r, hr⟩ : ∃ r, ts[kk]! = r := ⟨_, rfl⟩
      rw [hr] at a b
      obtain ⟨r1, r2, r3, r4, r5, r6⟩ := r
      have c0 := keeps BW.out (a 0 _ rfl)
      have c1' := keeps BW.out (a 1 _ rfl)
      have c2' := keeps BW.out (a 2 _ rfl)
      have c3 := keeps BW.out (a 3 _ rfl)
      have c4 := keeps BW.out (a 4 _ rfl)
      have c5 := keeps BW.out (a 5 _ rfl)
      have d0 := keeps BW.out (b 0 _ rfl)
      have d1 := keeps BW.out (b 1 _ rfl)
      have d2 := keeps BW.out (b 2 _ rfl)
      have d3 := keeps BW.out (b 3 _ rfl)
      have d4 := keeps BW.out (b 4 _ rfl)
      have d5 := keeps BW.out (b 5 _ rfl)
      simp only [Nat.add_zero] at c0 d0
      have hin1 : ¬ ((kk : Int) < 0) := by omega
      have HM : Hid (kk < n ∧ n - kk ≤ gk ∧ kk ≤ 5000) := ⟨hlt, hg, by omega⟩
      have e1 := succW kk HM.out.2.2
      clear hr a b
      go_wp2_with fail
      go_quiet (fail)
      go_wp2_with fail
      go_roundg (n - (kk + 1))
      case measure => have := HM.out; clear e1; omega
      case rel => exact ⟨kk + 1, hlt, Nat.le_refl _, by first | rfl | exact congrArg (Value.int .i64) e1, wak.below_drewN BW.out _⟩
    · have hltz : ¬ (kk : Int) < (n : Int) := by omega
      go_wp2_with fail
      go_ret
      exact ⟨rfl, BW.out⟩
end Go.Proofs.YtabcfmpmkdoieaaDoor.cal
