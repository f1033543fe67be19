/- Plain facts: two pairs of numbers are the same. -/
import Derived.Test.YtifgikhdlilobaaDoorSidDepth
import Derived.ChangeKeysEq
namespace Go.Proofs.YtifgikhdlilobaaDoor.sid
open Go.RowKit Go.Proofs.YtifgikhdlilobaaDoor.spn Go.Proofs.YtifgikhdlilobaaDoor.que

theorem infoI : (Tryd.prog.info? 3).map (fun i => i.size) = some 1 := by kernel_rfl
theorem infoI' : ∃ i, Tryd.prog.info? 3 = some i := by
  have h := infoI
  cases hq : Tryd.prog.info? 3 with
  | none => rw [hq] at h; simp at h
  | some i => exact ⟨i, rfl⟩
theorem cellsInt : Tryd.prog.cellsOf 3 = 1 := by kernel_rfl
theorem guardP : Tryd.prog.eqGuardType Tryd.prog.depth 36 = false := by kernel_rfl
theorem eq_pair (z1 z2 : Int) (w : World) : (Op.equalIn 10000 36 (.agg #[.int .i64 z1, .int .i64 z2]) (.agg #[.int .i64 z1, .int .i64 z2])).run Tryd.prog w = .ok true w := by
  obtain ⟨i, hi⟩ := infoI'
  rw [run_equalIn_array w 9999 _ _ Tryd.underlying36 hi, cellsInt]
  simp [List.range, List.range.loop, Op.eqItems, go_sem, part, Tryd.isAgg3]
end Go.Proofs.YtifgikhdlilobaaDoor.sid
