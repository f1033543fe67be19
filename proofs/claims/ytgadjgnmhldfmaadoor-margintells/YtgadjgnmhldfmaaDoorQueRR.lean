/- Contracts over this seat's translation: the document's Rest. -/
import Derived.Test.YtgadjgnmhldfmaaDoorQueRest
namespace Go.Proofs.YtgadjgnmhldfmaaDoor.que
open Go.RowKit Go.Proofs.YtgadjgnmhldfmaaDoor.spn

theorem ret_int {a b : Int} (h : a = b) : Ending.returned (.int .i64 a) = .returned (.int .i64 b) := by rw [h]

theorem rchk_out {r : R} (h : ¬ ((1 ≤ r.id ∧ r.id ≤ 9999) ∧ (1 ≤ r.who ∧ r.who ≤ 9) ∧ (1 ≤ r.qty ∧ r.qty ≤ 10000) ∧ (0 ≤ r.hid ∧ r.hid ≤ 10000) ∧ (0 ≤ r.shw ∧ r.shw ≤ 10000))) : rchk r = 1 := by
  unfold rchk
  rw [if_neg]
  intro h1
  simp only [rangeB, Bool.and_eq_true, inB_iff] at h1
  exact h ⟨h1.1.1.1.1, h1.1.1.1.2, h1.1.1.2, h1.1.2, h1.2⟩
theorem rchk_in {r : R} (h : (1 ≤ r.id ∧ r.id ≤ 9999) ∧ (1 ≤ r.who ∧ r.who ≤ 9) ∧ (1 ≤ r.qty ∧ r.qty ≤ 10000) ∧ (0 ≤ r.hid ∧ r.hid ≤ 10000) ∧ (0 ≤ r.shw ∧ r.shw ≤ 10000)) (h2 : (r.shw = 0 ∧ r.hid ≠ 0) ∨ (r.shw ≠ 0 ∧ r.shw < r.qty)) : rchk r = 3 := by
  have h1 : rangeB r = true := by
    simp only [rangeB, Bool.and_eq_true, inB_iff]
    exact ⟨⟨⟨⟨h.1, h.2.1⟩, h.2.2.1⟩, h.2.2.2.1⟩, h.2.2.2.2⟩
  unfold rchk
  rw [if_pos h1, if_neg]
  intro hs
  simp only [shapeB, Bool.and_eq_true, Bool.not_eq_true', Bool.and_eq_false_iff, decide_eq_false_iff_not, Bool.not_eq_false', decide_eq_true_eq] at hs
  omega

set_option maxHeartbeats 1000000 in
theorem rrest_any (a b c d e : Int) (w : World) :
    Calls Tryd.prog 10 #[.agg #[.int .i64 a, .int .i64 b, .int .i64 c, .int .i64 d, .int .i64 e]] w fun x w' => x = .returned (.int .i64 (rchk ⟨a, b, c, d, e⟩)) ∧ Below w.heap.size w w' := by
  by_cases g1 : a < 1
  · rw [rchk_out (r := ⟨a, b, c, d, e⟩) (by simp only []; omega)]
    go_enter Tryd.func10, Tryd.ntmps10
    go_wp2
    go_ret
    exact ⟨rfl, (Below.refl _ _).alloc (Nat.le_refl _) _⟩
  by_cases g2 : 9999 < a
  · rw [rchk_out (r := ⟨a, b, c, d, e⟩) (by simp only []; omega)]
    go_enter Tryd.func10, Tryd.ntmps10
    go_wp2
    go_ret
    exact ⟨rfl, (Below.refl _ _).alloc (Nat.le_refl _) _⟩
  by_cases g3 : b < 1
  · rw [rchk_out (r := ⟨a, b, c, d, e⟩) (by simp only []; omega)]
    go_enter Tryd.func10, Tryd.ntmps10
    go_wp2
    go_ret
    exact ⟨rfl, (Below.refl _ _).alloc (Nat.le_refl _) _⟩
  by_cases g4 : 9 < b
  · rw [rchk_out (r := ⟨a, b, c, d, e⟩) (by simp only []; omega)]
    go_enter Tryd.func10, Tryd.ntmps10
    go_wp2
    go_ret
    exact ⟨rfl, (Below.refl _ _).alloc (Nat.le_refl _) _⟩
  by_cases g5 : c < 1
  · rw [rchk_out (r := ⟨a, b, c, d, e⟩) (by simp only []; omega)]
    go_enter Tryd.func10, Tryd.ntmps10
    go_wp2
    go_ret
    exact ⟨rfl, (Below.refl _ _).alloc (Nat.le_refl _) _⟩
  by_cases g6 : 10000 < c
  · rw [rchk_out (r := ⟨a, b, c, d, e⟩) (by simp only []; omega)]
    go_enter Tryd.func10, Tryd.ntmps10
    go_wp2
    go_ret
    exact ⟨rfl, (Below.refl _ _).alloc (Nat.le_refl _) _⟩
  by_cases g7 : d < 0
  · rw [rchk_out (r := ⟨a, b, c, d, e⟩) (by simp only []; omega)]
    go_enter Tryd.func10, Tryd.ntmps10
    go_wp2
    go_ret
    exact ⟨rfl, (Below.refl _ _).alloc (Nat.le_refl _) _⟩
  by_cases g8 : 10000 < d
  · rw [rchk_out (r := ⟨a, b, c, d, e⟩) (by simp only []; omega)]
    go_enter Tryd.func10, Tryd.ntmps10
    go_wp2
    go_ret
    exact ⟨rfl, (Below.refl _ _).alloc (Nat.le_refl _) _⟩
  by_cases g9 : e < 0
  · rw [rchk_out (r := ⟨a, b, c, d, e⟩) (by simp only []; omega)]
    go_enter Tryd.func10, Tryd.ntmps10
    go_wp2
    go_ret
    exact ⟨rfl, (Below.refl _ _).alloc (Nat.le_refl _) _⟩
  by_cases g10 : 10000 < e
  · rw [rchk_out (r := ⟨a, b, c, d, e⟩) (by simp only []; omega)]
    go_enter Tryd.func10, Tryd.ntmps10
    go_wp2
    go_ret
    exact ⟨rfl, (Below.refl _ _).alloc (Nat.le_refl _) _⟩
  by_cases g11 : e = 0
  · subst g11
    by_cases g12 : d = 0
    · subst g12
      rw [rchk_of (r := ⟨a, b, c, 0, 0⟩) ⟨by simp only []; omega, by simp only []; omega, by simp only []; omega, fun _ => rfl, fun h => absurd rfl h, by simp only []; omega, by simp only []; omega⟩]
      go_enter Tryd.func10, Tryd.ntmps10
      go_wp2
      go_ret
      exact ⟨rfl, (Below.refl _ _).alloc (Nat.le_refl _) _⟩
    · rw [rchk_in (r := ⟨a, b, c, d, 0⟩) (by simp only []; omega) (.inl ⟨rfl, g12⟩)]
      have g13 : (d != 0) = true := by simp [g12]
      go_enter Tryd.func10, Tryd.ntmps10
      go_wp2
      go_ret
      exact ⟨rfl, (Below.refl _ _).alloc (Nat.le_refl _) _⟩
  · have g14 : (e == 0) = false := by simp [g11]
    have g15 : (e != 0) = true := by simp [g11]
    by_cases g16 : e < c
    · rw [rchk_in (r := ⟨a, b, c, d, e⟩) (by simp only []; omega) (.inr ⟨g11, g16⟩)]
      go_enter Tryd.func10, Tryd.ntmps10
      go_wp2
      go_ret
      exact ⟨rfl, (Below.refl _ _).alloc (Nat.le_refl _) _⟩
    · rw [rchk_of (r := ⟨a, b, c, d, e⟩) ⟨by simp only []; omega, by simp only []; omega, by simp only []; omega, fun h => absurd h g11, fun _ => (by simp only []; omega), by simp only []; omega, by simp only []; omega⟩]
      go_enter Tryd.func10, Tryd.ntmps10
      go_wp2
      go_ret
      exact ⟨rfl, (Below.refl _ _).alloc (Nat.le_refl _) _⟩

/-! ### In -/

end Go.Proofs.YtgadjgnmhldfmaaDoor.que
