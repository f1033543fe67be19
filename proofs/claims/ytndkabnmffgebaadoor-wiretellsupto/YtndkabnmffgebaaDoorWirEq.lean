/- Two commands held against each other. -/
import Derived.Test.YtndkabnmffgebaaDoorWirRow
namespace Go.Proofs.YtndkabnmffgebaaDoor.wir
open Go.RowKit

theorem eq_int (x y : Int) (d : Nat) (W : World) : (Op.equalIn (d + 1) 3 (.int .i64 x) (.int .i64 y)).run Tryd.prog W = .ok (x == y) W := run_equalIn_int W d 3 .i64 .i64 x y Tryd.underlying3
set_option maxHeartbeats 1000000 in
theorem eq_walk (a0 a1 a2 a3 a4 a5 a6 a7 a8 a9 a10 b0 b1 b2 b3 b4 b5 b6 b7 b8 b9 b10 : Int) (W : World) :
    (Op.equalIn 10000 25 (.agg #[.int .i64 a0, .int .i64 a1, .int .i64 a2, .int .i64 a3, .int .i64 a4, .int .i64 a5, .int .i64 a6, .int .i64 a7, .int .i64 a8, .int .i64 a9, .int .i64 a10]) (.agg #[.int .i64 b0, .int .i64 b1, .int .i64 b2, .int .i64 b3, .int .i64 b4, .int .i64 b5, .int .i64 b6, .int .i64 b7, .int .i64 b8, .int .i64 b9, .int .i64 b10])).run Tryd.prog W
      = .ok (a0 == b0 && ((a1 == b1 && (a2 == b2 && (a3 == b3 && (a4 == b4 && (a5 == b5 && (a6 == b6 && (a7 == b7 && a8 == b8))))))) && (a9 == b9 && a10 == b10))) W := by
  rw [show (10000 : Nat) = 9999 + 1 from rfl, run_equalIn_struct W 9999 25 _ _ (by kernel_rfl) (by kernel_rfl)]
  simp only [Program.fieldsOf, Tryd.underlying25]
  simp only [Op.eqFields]
  by_cases h0 : a0 = b0
  rotate_left
  · simp [go_sem, h0]
  subst h0
  by_cases h1 : a1 = b1
  rotate_left
  · simp [go_sem, h1]
  subst h1
  by_cases h2 : a2 = b2
  rotate_left
  · simp [go_sem, h2]
  subst h2
  by_cases h3 : a3 = b3
  rotate_left
  · simp [go_sem, h3]
  subst h3
  by_cases h4 : a4 = b4
  rotate_left
  · simp [go_sem, h4]
  subst h4
  by_cases h5 : a5 = b5
  rotate_left
  · simp [go_sem, h5]
  subst h5
  by_cases h6 : a6 = b6
  rotate_left
  · simp [go_sem, h6]
  subst h6
  by_cases h7 : a7 = b7
  rotate_left
  · simp [go_sem, h7]
  subst h7
  by_cases h8 : a8 = b8
  rotate_left
  · simp [go_sem, h8]
  subst h8
  by_cases h9 : a9 = b9
  rotate_left
  · simp [go_sem, h9]
  subst h9
  by_cases h10 : a10 = b10
  rotate_left
  · simp [go_sem, h10]
  subst h10
  simp [go_sem]
/-- Two commands are the same, or not. -/
theorem eq_cmd (xs ys : List Int) (hx : xs.length = 11) (hy : ys.length = 11) (W : World) :
    (Op.equalIn 10000 25 (cV xs) (cV ys)).run Tryd.prog W = .ok (decide (xs = ys)) W := by
  obtain ⟨a0, a1, a2, a3, a4, a5, a6, a7, a8, a9, a10, rfl⟩ := list11' hx
  obtain ⟨b0, b1, b2, b3, b4, b5, b6, b7, b8, b9, b10, rfl⟩ := list11' hy
  refine (eq_walk a0 a1 a2 a3 a4 a5 a6 a7 a8 a9 a10 b0 b1 b2 b3 b4 b5 b6 b7 b8 b9 b10 W).trans ?_
  congr 1
  rw [Bool.eq_iff_iff]
  simp only [Bool.and_eq_true, beq_iff_eq, decide_eq_true_eq, List.cons.injEq, and_true]
  constructor
  · rintro ⟨h0, ⟨h1, h2, h3, h4, h5, h6, h7, h8⟩, h9, h10⟩
    exact ⟨h0, h1, h2, h3, h4, h5, h6, h7, h8, h9, h10⟩
  · rintro ⟨h0, h1, h2, h3, h4, h5, h6, h7, h8, h9, h10⟩
    exact ⟨h0, ⟨h1, h2, h3, h4, h5, h6, h7, h8⟩, h9, h10⟩
/-- Two commands held against each other, as an operation. -/
theorem run_neq_cmd (xs ys : List Int) (hx : xs.length = 11) (hy : ys.length = 11) (W : World) :
    (binOp .neq 25 (cV xs) (cV ys)).run Tryd.prog W = .ok (.bool (!decide (xs = ys))) W := by
  refine (run_neq_struct W 25 _ _).trans ?_
  have := eq_cmd xs ys hx hy W
  unfold cV at this
  rw [this]
  rfl
theorem run_eql_cmd (xs ys : List Int) (hx : xs.length = 11) (hy : ys.length = 11) (W : World) :
    (binOp .eql 25 (cV xs) (cV ys)).run Tryd.prog W = .ok (.bool (decide (xs = ys))) W := by
  refine (run_eql_struct W 25 _ _).trans ?_
  have := eq_cmd xs ys hx hy W
  unfold cV at this
  rw [this]
  rfl
end Go.Proofs.YtndkabnmffgebaaDoor.wir
