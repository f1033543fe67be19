/- Plain facts, no program: two rests that show as much at a time take turns. -/
import Derived.Test.YtefolhkecgcigaaQuePure2
namespace Go.Proofs.Ytefolhkecgcigaa.que

def alt (s : Int) : Nat → List F
  | 0 => []
  | j + 1 => ⟨1, 1, s⟩ :: ⟨2, 2, s⟩ :: alt s j
theorem alt_len (s : Int) (j : Nat) : (alt s j).length = 2 * j := by
  induction j with
  | zero => rfl
  | succ j ih => show (alt s j).length + 1 + 1 = _; omega
theorem alt_get (s : Int) (j : Nat) : ∀ i, i < 2 * j → (alt s j)[i]? = some ⟨1 + ((i % 2 : Nat) : Int), 1 + ((i % 2 : Nat) : Int), s⟩ := by
  induction j with
  | zero => intro i hi; omega
  | succ j ih =>
    intro i hi
    rcases i with _ | _ | i
    · rfl
    · rfl
    · show (alt s j)[i]? = _
      rw [ih i (by omega)]
      rw [show (i + 1 + 1) % 2 = i % 2 by omega]

theorem two_good (s h : Int) (h1 : 1 ≤ s) (h2 : s ≤ 50) (h3 : 0 ≤ h) (h4 : h ≤ 2500) (h' : Int) (h5 : 0 ≤ h') (h6 : h' ≤ 2500) : Good [⟨1, 1, s, h, s⟩, ⟨2, 2, s, h', s⟩] ∧ Good [⟨2, 2, s, h', s⟩, ⟨1, 1, s, h, s⟩] := by
  have g1 : rchk ⟨1, 1, s, h, s⟩ = 0 := rchk_of ⟨⟨h1, by show s ≤ 10000; omega⟩, ⟨h3, by show h ≤ 10000; omega⟩, ⟨by show 0 ≤ s; omega, by show s ≤ 10000; omega⟩, by intro e; have e2 : s = 0 := e; omega, by intro _; exact Int.le_refl _, ⟨show (1 : Int) ≤ 1 by decide, show (1 : Int) ≤ 9999 by decide⟩, ⟨show (1 : Int) ≤ 1 by decide, show (1 : Int) ≤ 9 by decide⟩⟩
  have g2 : rchk ⟨2, 2, s, h', s⟩ = 0 := rchk_of ⟨⟨h1, by show s ≤ 10000; omega⟩, ⟨h5, by show h' ≤ 10000; omega⟩, ⟨by show 0 ≤ s; omega, by show s ≤ 10000; omega⟩, by intro e; have e2 : s = 0 := e; omega, by intro _; exact Int.le_refl _, ⟨show (1 : Int) ≤ 2 by decide, show (2 : Int) ≤ 9999 by decide⟩, ⟨show (1 : Int) ≤ 2 by decide, show (2 : Int) ≤ 9 by decide⟩⟩
  refine ⟨⟨?_, show ([1, 2] : List Int).Nodup by decide⟩, ⟨?_, show ([2, 1] : List Int).Nodup by decide⟩⟩
  · intro x hx
    simp only [List.mem_cons, List.not_mem_nil, or_false] at hx
    rcases hx with rfl | rfl
    · exact g1
    · exact g2
  · intro x hx
    simp only [List.mem_cons, List.not_mem_nil, or_false] at hx
    rcases hx with rfl | rfl
    · exact g2
    · exact g1

theorem take_alt (s : Int) (h1 : 1 ≤ s) (h2 : s ≤ 50) (j : Nat) : j ≤ 50 → take (2 * s * j) [⟨1, 1, s, s * j, s⟩, ⟨2, 2, s, s * j, s⟩] = (alt s j, [⟨1, 1, s, 0, s⟩, ⟨2, 2, s, 0, s⟩]) := by
  induction j with
  | zero =>
    intro _
    rw [take_done _ _ (by simp)]
    simp [alt]
  | succ j ih =>
    intro hj
    have b1 : 0 ≤ s * (j : Int) := Int.mul_nonneg (by omega) (by omega)
    have b2 : s * (j : Int) ≤ 50 * 50 := Int.mul_le_mul h2 (by omega) (by omega) (by omega)
    have b3 : s * ((j + 1 : Nat) : Int) = s * j + s := by rw [Int.natCast_add, Int.mul_add]; simp
    have b4 : 2 * s * ((j + 1 : Nat) : Int) = 2 * s * j + 2 * s := by rw [Int.natCast_add, Int.mul_add]; simp
    have b5 : 2 * s * (j : Int) = 2 * (s * j) := by rw [Int.mul_assoc]
    have b6 : s * (j : Int) + s ≤ 2500 := by
      have : s * ((j + 1 : Nat) : Int) ≤ 50 * 50 := Int.mul_le_mul h2 (by omega) (by omega) (by omega)
      rw [b3] at this; omega
    rw [b3, b4]
    have t1 : tk1 s ⟨1, 1, s, s * j + s, s⟩ [⟨2, 2, s, s * j + s, s⟩] = [⟨2, 2, s, s * j + s, s⟩, ⟨1, 1, s, s * j, s⟩] := by
      unfold tk1
      rw [if_neg (by simp), if_neg (by show ¬ (s * j + s = 0); omega)]
      show [(⟨2, 2, s, s * j + s, s⟩ : R), ⟨1, 1, min s (s * j + s), s * j + s - min s (s * j + s), s⟩] = _
      rw [show min s (s * j + s) = s by omega, show s * j + s - s = s * j by omega]
    have t2 : tk1 s ⟨2, 2, s, s * j + s, s⟩ [⟨1, 1, s, s * j, s⟩] = [⟨1, 1, s, s * j, s⟩, ⟨2, 2, s, s * j, s⟩] := by
      unfold tk1
      rw [if_neg (by simp), if_neg (by show ¬ (s * j + s = 0); omega)]
      show [(⟨1, 1, s, s * j, s⟩ : R), ⟨2, 2, min s (s * j + s), s * j + s - min s (s * j + s), s⟩] = _
      rw [show min s (s * j + s) = s by omega, show s * j + s - s = s * j by omega]
    rw [take_cons _ _ _ (by omega) (two_good s (s * j + s) h1 h2 (by omega) (by omega) (s * j + s) (by omega) (by omega)).1]
    simp only [show min (2 * s * (j : Int) + 2 * s) s = s by omega, t1]
    rw [take_cons _ _ _ (by omega) (two_good s (s * j) h1 h2 (by omega) (by omega) (s * j + s) (by omega) (by omega)).2]
    simp only [show min (2 * s * (j : Int) + 2 * s - s) s = s by omega, t2]
    rw [show 2 * s * (j : Int) + 2 * s - s - s = 2 * s * j by omega, ih (by omega)]
    rfl

end Go.Proofs.Ytefolhkecgcigaa.que
