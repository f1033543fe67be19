/- Trades that rise by one each, and their bars. -/
import Derived.Test.YtnfilcpnneckkaaBarBars
namespace Go.Proofs.Ytnfilcpnneckkaa.bar
open Go.RowKit Go.Proofs.Ytnfilcpnneckkaa.mee

def risT (i : Nat) : T := ⟨0, 0, 0, 0, 1 + (i : Int), 1⟩
def ris (n : Nat) : List T := (List.range n).map risT
theorem ris_len (n : Nat) : (ris n).length = n := by simp [ris]
theorem ris_succ (n : Nat) : ris (n + 1) = ris n ++ [risT n] := by simp [ris, List.range_succ]
theorem ris_chk {n : Nat} (h : n ≤ 400) : bchk (ris n) = 0 := by
  unfold bchk
  rw [if_neg (by rw [ris_len]; omega), if_neg]
  intro hh
  rw [List.any_eq_true] at hh
  obtain ⟨t, ht, hb⟩ := hh
  simp only [ris, List.mem_map, List.mem_range] at ht
  obtain ⟨i, hi, rfl⟩ := ht
  have h1 : (1 : Int) ≤ 1 + (i : Int) := by omega
  have h2 : 1 + (i : Int) ≤ 10000 := by omega
  have h3 : badT (risT i) = false := by
    show (!(decide ((1 : Int) ≤ 1 + (i : Int)) && decide (1 + (i : Int) ≤ 10000) && decide ((1 : Int) ≤ 1) && decide ((1 : Int) ≤ 10000))) = false
    rw [decide_eq_true h1, decide_eq_true h2]
    rfl
  rw [h3] at hb
  cases hb
theorem ris_part (k n o : Nat) : partL k (ris n) o = (List.range' o (min k (n - o))).map risT := by
  unfold partL ris
  rw [← List.map_drop, ← List.map_take]
  congr 1
  apply List.ext_getElem
  · simp
  · intro i h1 h2
    simp
theorem barF_append (a : B) (r : List T) (t : T) : barF a (r ++ [t]) = bhd (barF a r) (sgl t) := by
  unfold barF
  rw [List.foldl_append]
  rfl
theorem ris_bar (o : Nat) : ∀ m : Nat, m ≤ 399 → barOf ((List.range' o (m + 1)).map risT) = ⟨1 + (o : Int), 1 + (o : Int) + m, 1 + (o : Int), 1 + (o : Int) + m, (m : Int) + 1⟩
  | 0, _ => by
    simp [List.range', barOf, barF, sgl, risT]
  | m + 1, h => by
    have ih := ris_bar o m (by omega)
    rw [List.range'_concat, List.map_append]
    rw [show o + 1 * (m + 1) = o + m + 1 by omega]
    have e : (List.range' o (m + 1)).map risT = risT o :: (List.range' (o + 1) m).map risT := by rw [List.range'_succ]; simp
    rw [e] at ih ⊢
    rw [List.cons_append]
    show barF (sgl (risT o)) _ = _
    rw [List.map_singleton, barF_append]
    have ih' : barF (sgl (risT o)) ((List.range' (o + 1) m).map risT) = _ := ih
    rw [ih']
    simp only [bhd, sgl, risT, B.mk.injEq]
    refine ⟨trivial, by omega, by omega, by omega, ?_⟩
    unfold wrap64
    omega
theorem cnt_lt {n k j : Nat} (hn : 1 ≤ n) (h : j < cnt n k) : j * n < k := by
  unfold cnt at h
  have h1 : (j + 1) * n ≤ k + n - 1 := by
    have := (Nat.le_div_iff_mul_le (by omega)).1 (show j + 1 ≤ (k + n - 1) / n from h)
    exact this
  rw [Nat.add_mul] at h1
  omega
theorem bars_len (zs : List T) (n : Nat) : (barsOf zs n).length = cnt n zs.length := by simp [barsOf, barsAt, parts]
theorem bars_at (zs : List T) (n j : Nat) (h : j < cnt n zs.length) : (barsOf zs n)[j]! = barOf (partL n zs (j * n)) := by
  rw [getE _ _ (by rw [bars_len]; exact h)]
  simp [barsOf, barsAt, parts]
/-- What a bar of them is. -/
theorem ris_at {n k j : Nat} (hk : 1 ≤ k) (hn : n ≤ 400) (h : j < cnt k n) : ∃ m : Nat, 1 ≤ m ∧ m ≤ 400 ∧ j * k < 400 ∧ (barsOf (ris n) k)[j]! = ⟨1 + ((j * k : Nat) : Int), ((j * k : Nat) : Int) + m, 1 + ((j * k : Nat) : Int), ((j * k : Nat) : Int) + m, (m : Int)⟩ := by
  have hlt := cnt_lt hk h
  refine ⟨min k (n - j * k), by omega, by omega, by omega, ?_⟩
  rw [bars_at _ _ _ (by rw [ris_len]; exact h), ris_part]
  obtain ⟨m, hm⟩ : ∃ m, min k (n - j * k) = m + 1 := ⟨min k (n - j * k) - 1, by omega⟩
  rw [hm, ris_bar (j * k) m (by omega), B.mk.injEq]
  refine ⟨rfl, by omega, rfl, by omega, by omega⟩
end Go.Proofs.Ytnfilcpnneckkaa.bar
