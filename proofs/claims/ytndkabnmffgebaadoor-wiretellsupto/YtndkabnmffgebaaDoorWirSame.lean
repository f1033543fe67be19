/- Contracts over this seat's translation: pitsame.Commands at two lists that are the same. -/
import Derived.Test.YtndkabnmffgebaaDoorWirArg
import Derived.Test.YtndkabnmffgebaaDoorWirEq
import Derived.Deep.QuietTactic
import Derived.BigQuiet
namespace Go.Proofs.YtndkabnmffgebaaDoor.wir
open Go.RowKit

theorem below_drewN {B : Nat} {a w : World} (h : Below B a w) (n : Nat) : Below B a (w.drewN n) := ⟨h.os, h.tape, h.output, h.size, h.block⟩
set_option maxRecDepth 100000 in
set_option maxHeartbeats 1000000 in
theorem commands_same (v v' : Value) (zs : List (List Int)) (w : World) (h : CX w v zs) (h' : CX w v' zs) :
    Calls Tryd.prog 14 #[v, v'] w fun e w' => e = .returned (.bool true) ∧ Below w.heap.size w w' := by
  obtain ⟨q, c, rfl, hm⟩ := h.form
  obtain ⟨q', c', rfl, -⟩ := h'.form
  have HH := hidW (And.intro h h')
  obtain ⟨n, hn⟩ : ∃ n, n = zs.length := ⟨_, rfl⟩
  have HN := hidW (And.intro hn hm)
  rw [← hn]
  clear h h' hm hn
  go_enter Tryd.func14, Tryd.ntmps14
  go_wp2_with fail
  go_loopg [5] n (fun gg s5 wx => ∃ k : Nat, k ≤ n ∧ n - k ≤ gg ∧ s5 = .int .i64 k ∧ Aside (Below w.heap.size w wx))
  case atStart => exact ⟨0, Nat.zero_le _, by omega, rfl, Below.refl _ w⟩
  case round =>
    obtain ⟨k, hk, hg, rfl, BW⟩ := hrel
    by_cases hlt : k < n
    · have hltz : (k : Int) < (n : Int) := by omega
      have hin1 : ¬ ((k : Int) < 0) := by omega
      have hlz : k < zs.length := by rw [← HN.out.1]; exact hlt
      obtain ⟨g, off, rfl, hgl, hrg, hx11⟩ := (HH.out.1.below BW.out).at hlz
      obtain ⟨g', off', rfl, hgl', hrg', -⟩ := (HH.out.2.below BW.out).at hlz
      obtain ⟨x, hx⟩ : ∃ x, x = zs[k]! := ⟨_, rfl⟩
      rw [← hx] at hrg hrg' hx11
      have heqq : ∀ W, (binOp .neq 25 (cV x) (cV x)).run Tryd.prog W = .ok (.bool false) W := fun W => (run_neq_cmd x x hx11 hx11 W).trans (by simp)
      obtain ⟨c0, c1, c2, c3, c4, c5, c6, c7, c8, c9, c10, hxx⟩ := list11' hx11
      rw [hxx] at hrg hrg' heqq
      have heq : ∀ W, (binOp .neq 25 (.agg #[.int .i64 c0, .int .i64 c1, .int .i64 c2, .int .i64 c3, .int .i64 c4, .int .i64 c5, .int .i64 c6, .int .i64 c7, .int .i64 c8, .int .i64 c9, .int .i64 c10]) (.agg #[.int .i64 c0, .int .i64 c1, .int .i64 c2, .int .i64 c3, .int .i64 c4, .int .i64 c5, .int .i64 c6, .int .i64 c7, .int .i64 c8, .int .i64 c9, .int .i64 c10])).run Tryd.prog W = .ok (.bool false) W := heqq
      have d0 := hrg 0 _ rfl
      have d1 := hrg 1 _ rfl
      have d2 := hrg 2 _ rfl
      have d3 := hrg 3 _ rfl
      have d4 := hrg 4 _ rfl
      have d5 := hrg 5 _ rfl
      have d6 := hrg 6 _ rfl
      have d7 := hrg 7 _ rfl
      have d8 := hrg 8 _ rfl
      have d9 := hrg 9 _ rfl
      have d10 := hrg 10 _ rfl
      have b0 := hrg' 0 _ rfl
      have b1 := hrg' 1 _ rfl
      have b2 := hrg' 2 _ rfl
      have b3 := hrg' 3 _ rfl
      have b4 := hrg' 4 _ rfl
      have b5 := hrg' 5 _ rfl
      have b6 := hrg' 6 _ rfl
      have b7 := hrg' 7 _ rfl
      have b8 := hrg' 8 _ rfl
      have b9 := hrg' 9 _ rfl
      have b10 := hrg' 10 _ rfl
      simp only [Nat.add_zero] at d0 b0
      have hwk : wrap64 ((k : Int) + 1) = ((k + 1 : Nat) : Int) := by have := HN.out; unfold wrap64; omega
      have HK := hidW (And.intro hwk (And.intro hlt hg))
      clear hx hx11 hxx hrg hrg' hwk hg hk heqq
      go_upto_region 6 with fail
      go_quiet (fail)
      clear d0 d1 d2 d3 d4 d5 d6 d7 d8 d9 d10 b0 b1 b2 b3 b4 b5 b6 b7 b8 b9 b10
      go_wp2_with fail
      go_roundg (n - (k + 1))
      case measure => have := HK.out; omega
      case rel => exact ⟨k + 1, HK.out.2.1, Nat.le_refl _, by first | exact congrArg (Value.int .i64) HK.out.1 | go_num, below_drewN BW.out _⟩
    · have hltz : ¬ (k : Int) < (n : Int) := by omega
      go_wp2_with fail
      go_ret
      exact ⟨rfl, BW.out⟩
end Go.Proofs.YtndkabnmffgebaaDoor.wir
