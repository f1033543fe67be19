/- Contracts over this seat's translation: the document's For and LeftFor. -/
import Derived.Test.YtgadjgnmhldfmaaDoorMrgBack
import Derived.Test.YtgadjgnmhldfmaaDoorMrgLeft
import Derived.Deep.QuietTactic
import Derived.BigQuiet
namespace Go.Proofs.YtgadjgnmhldfmaaDoor.mrg
open Go.RowKit Go.Proofs.YtgadjgnmhldfmaaDoor.mee
open Go.Proofs.YtgadjgnmhldfmaaDoor.spn (keeps bcell)
open Go.Proofs.YtgadjgnmhldfmaaDoor.ord (O oV chk mB bal prB)

theorem belD {w w1 : World} (h : Below w.heap.size w w1) (n : Nat) : Below w.heap.size w (w1.drewN n) := ⟨h.os, h.tape, h.output, h.size, h.block⟩

set_option maxHeartbeats 1000000 in
theorem rfor_any (a b c d p q s t : Int) (w : World) (hc : c = 1 ∨ c = 2) :
    Calls Tryd.prog 5 #[.agg #[.int .i64 a, .int .i64 b, .int .i64 c, .int .i64 d, .int .i64 p, .int .i64 q, .int .i64 s, .int .i64 t]] w fun e w' => e = .returned (.tuple #[.int .i64 (putC c (resv ⟨a, b, c, d, p, q, s, t⟩) q), .int .i64 (putS c q)]) ∧ Below w.heap.size w w' := by
  have hA : Below w.heap.size w (w.alloc (.cells #[.int .i64 a, .int .i64 b, .int .i64 c, .int .i64 d, .int .i64 p, .int .i64 q, .int .i64 s, .int .i64 t] 23)) := (Below.refl _ _).alloc (Nat.le_refl _) _
  rcases hc with rfl | rfl
  · by_cases hd : d = 2
    · have e1 : putC 1 (resv ⟨a, b, 1, d, p, q, s, t⟩) q = wrap64 (10000 * q) := by unfold putC resv; rw [if_pos rfl, if_pos hd]
      rw [e1]
      subst hd
      clear e1
      go_enter Tryd.func5, Tryd.ntmps5
      go_wp2_with fail
      go_ret2
      exact ⟨rfl, hA⟩
    · have e1 : putC 1 (resv ⟨a, b, 1, d, p, q, s, t⟩) q = wrap64 (p * q) := by unfold putC resv; rw [if_pos rfl, if_neg hd]
      have hd1 : (d == 2) = false := by simp [hd]
      rw [e1]
      clear e1
      go_enter Tryd.func5, Tryd.ntmps5
      go_wp2_with fail
      go_ret2
      exact ⟨rfl, hA⟩
  · obtain ⟨V, hV⟩ : ∃ V, V = w.alloc (.cells #[.int .i64 a, .int .i64 b, .int .i64 2, .int .i64 d, .int .i64 p, .int .i64 q, .int .i64 s, .int .i64 t] 23) := ⟨_, rfl⟩
    have c5 : V.cell? ⟨w.heap.size, 5, none⟩ = some (.int .i64 q) := by rw [hV]; simp
    rw [← hV] at hA
    go_enter Tryd.func5, Tryd.ntmps5
    go_upto_region 2 with fail
    rw [← hV]
    clear hV
    generalize w.heap.size = X at c5 ⊢
    go_quiet (fail)
    go_wp2_with fail
    go_ret2
    exact ⟨rfl, belD hA _⟩

set_option maxHeartbeats 1000000 in
theorem rleft_any (a b c d e s p : Int) (w : World) (hs : s = 1 ∨ s = 2) (hr : que.rchk ⟨a, b, c, d, e⟩ = 0) :
    Calls Tryd.prog 13 #[.agg #[.int .i64 a, .int .i64 b, .int .i64 c, .int .i64 d, .int .i64 e], .int .i64 s, .int .i64 p] w fun e w' => e = .returned (.tuple #[.int .i64 (putC s p (c + d)), .int .i64 (putS s (c + d))]) ∧ Below w.heap.size w w' := by
  have hA : Below w.heap.size w (w.alloc (.cells #[.int .i64 a, .int .i64 b, .int .i64 c, .int .i64 d, .int .i64 e] 25)) := (Below.refl _ _).alloc (Nat.le_refl _) _
  have hsm : wrap64 (c + d) = c + d := by
    have h1 : 1 ≤ c ∧ c ≤ 10000 ∧ 0 ≤ d ∧ d ≤ 10000 := rest_small hr
    unfold wrap64
    omega
  clear hr
  rcases hs with rfl | rfl
  · have e1 : putC 1 p (c + d) = wrap64 ((c + d) * p) := by unfold putC; rw [if_pos rfl, Int.mul_comm]
    rw [e1]
    clear e1
    go_enter Tryd.func13, Tryd.ntmps13
    go_wp2_with fail
    go_ret2
    exact ⟨rfl, hA⟩
  · go_enter Tryd.func13, Tryd.ntmps13
    go_wp2_with fail
    go_ret2
    refine ⟨?_, hA⟩
    show Ending.returned (.tuple #[.int .i64 0, .int .i64 (wrap64 (c + d))]) = _
    rw [hsm]
    rfl
end Go.Proofs.YtgadjgnmhldfmaaDoor.mrg
