/- The walk of QueueTurns. -/
import Derived.Test.YtefolhkecgcigaaQueTake2
import Derived.Test.YtefolhkecgcigaaQueAlt
namespace Go.Proofs.Ytefolhkecgcigaa.que
open Go.RowKit Go.Proofs.Ytefolhkecgcigaa.spn

theorem fill_at {w : World} {base : Nat} {v : Value} {fs : List F} (h : OwnF w base v fs) (hn : 0 < fs.length) : ∃ g off cap, v = .slice (some ⟨g, off, none⟩) fs.length cap ∧ ∀ i a b c, fs[i]? = some ⟨a, b, c⟩ → w.cell? ⟨g, off + i * 3, none⟩ = some (.int .i64 a) ∧ w.cell? ⟨g, off + i * 3 + 1, none⟩ = some (.int .i64 b) ∧ w.cell? ⟨g, off + i * 3 + 2, none⟩ = some (.int .i64 c) := by
  rcases h.2 with ⟨_, hz⟩ | ⟨g, off, cap, cur, rfl, hb, hg, hnc, hcm, hcs, htake⟩
  · omega
  refine ⟨g, off, cap, rfl, ?_⟩
  have hcel : ∀ j u, (flatF fs)[j]? = some u → w.cell? ⟨g, off + j, none⟩ = some u := by
    intro j u hu
    rw [cell_of_row w g (off + j) cur _ (0, 0) hg]
    rw [← htake, List.getElem?_take] at hu
    split at hu
    · rw [List.getElem?_drop] at hu; simpa using hu
    · cases hu
  have hget : ∀ (l : List F) i a b c, l[i]? = some ⟨a, b, c⟩ → (flatF l)[i * 3]? = some (.int .i64 a) ∧ (flatF l)[i * 3 + 1]? = some (.int .i64 b) ∧ (flatF l)[i * 3 + 2]? = some (.int .i64 c) := by
    intro l
    induction l with
    | nil => intro i a b c h; simp at h
    | cons f t ih =>
      intro i a b c h
      have e : flatF (f :: t) = fV f ++ flatF t := rfl
      cases i with
      | zero =>
        simp only [List.getElem?_cons_zero, Option.some.injEq] at h
        subst h
        exact ⟨rfl, rfl, rfl⟩
      | succ i =>
        simp only [List.getElem?_cons_succ] at h
        obtain ⟨h1, h2, h3⟩ := ih i a b c h
        have l3 : (fV f).length = 3 := rfl
        rw [e]
        refine ⟨?_, ?_, ?_⟩
        · rw [List.getElem?_append_right (by rw [l3]; omega), l3, show (i + 1) * 3 - 3 = i * 3 by omega]; exact h1
        · rw [List.getElem?_append_right (by rw [l3]; omega), l3, show (i + 1) * 3 + 1 - 3 = i * 3 + 1 by omega]; exact h2
        · rw [List.getElem?_append_right (by rw [l3]; omega), l3, show (i + 1) * 3 + 2 - 3 = i * 3 + 2 by omega]; exact h3
  intro i a b c h
  obtain ⟨h1, h2, h3⟩ := hget fs i a b c h
  exact ⟨hcel _ _ h1, by rw [Nat.add_assoc]; exact hcel _ _ h2, by rw [Nat.add_assoc]; exact hcel _ _ h3⟩

theorem two_sl (w : World) (a b c d e a' b' c' d' e' : Int) : SL (w.alloc (.cells #[.int .i64 a, .int .i64 b, .int .i64 c, .int .i64 d, .int .i64 e, .int .i64 a', .int .i64 b', .int .i64 c', .int .i64 d', .int .i64 e'] 24)) (.slice (some ⟨w.heap.size, 0, none⟩) 2 2) [⟨a, b, c, d, e⟩, ⟨a', b', c', d', e'⟩] := by
  refine .inr ⟨w.heap.size, 0, 2, rfl, by simp, by decide, by simp, flat_lies ?_⟩
  intro j u hu
  rw [Nat.zero_add, World.cell?_alloc_at _ _ _ _ rfl]
  simpa [flat, rV] using hu

theorem a1 (i : Nat) : 1 + ((i % 2 : Nat) : Int) = 1 + (i : Int) % 2 := by omega
theorem a2 (i : Nat) : wrap64 (1 + (i : Int) % 2) = 1 + (i : Int) % 2 := by unfold wrap64; omega
theorem a3 (i : Nat) : wrap64 ((i : Int) % 2) = (i : Int) % 2 := by unfold wrap64; omega
theorem a4 (i : Nat) (h : i ≤ 100) : wrap64 ((i : Int) + 1) = ((i + 1 : Nat) : Int) := by unfold wrap64; omega
theorem a5 (i : Nat) : 0 ≤ (i : Int) % 2 ∧ (i : Int) % 2 < 2 := by omega

set_option maxRecDepth 100000 in
set_option maxHeartbeats 1000000 in
theorem turns_walk (s : Int) (T : Nat) (w : World) (h1 : 1 ≤ s) (h2 : s ≤ 50) (h3 : 1 ≤ T) (h4 : T ≤ 50) :
    Calls Try.prog 4 #[.int .i64 s, .int .i64 (T : Int)] w fun e w' => e = .returned (.bool true) ∧ Below w.heap.size w w' := by
  have b1 : 1 ≤ s * (T : Int) := by
    have : 1 * 1 ≤ s * (T : Int) := Int.mul_le_mul h1 (by omega) (by omega) (by omega)
    omega
  have b2 : s * (T : Int) ≤ 2500 := by
    have : s * (T : Int) ≤ 50 * 50 := Int.mul_le_mul h2 (by omega) (by omega) (by omega)
    omega
  have b5 : 2 * s * (T : Int) = 2 * (s * T) := by rw [Int.mul_assoc]
  have hta := take_alt s h1 h2 T h4
  have hgood := (two_good s (s * T) h1 h2 (by omega) (by omega) (s * T) (by omega) (by omega)).1
  have hcon := fun W hW => take_good (.slice (some ⟨w.heap.size, 0, none⟩) 2 2) [⟨1, 1, s, s * T, s⟩, ⟨2, 2, s, s * T, s⟩] (2 * s * T) W hW ((qchk_zero _).2 ⟨by simp, hgood⟩) (by omega) (by omega)
  rw [hta] at hcon
  have HC : Hid (∀ W, SL W (.slice (some ⟨w.heap.size, 0, none⟩) 2 2) [⟨1, 1, s, s * T, s⟩, ⟨2, 2, s, s * T, s⟩] → Calls Try.prog 5 #[.slice (some ⟨w.heap.size, 0, none⟩) 2 2, .int .i64 (2 * s * T)] W fun e w' => ∃ fv lv, e = .returned (.tuple #[fv, lv, .nilIface]) ∧ OwnF w' W.heap.size fv (alt s T) ∧ OwnQ w' W.heap.size lv [⟨1, 1, s, 0, s⟩, ⟨2, 2, s, 0, s⟩] ∧ Below W.heap.size W w') := hcon
  clear hcon hta hgood
  have e1 : wrap64 (s * (T : Int)) = s * T := by unfold wrap64; omega
  have e2 : wrap64 (2 * s) = 2 * s := by unfold wrap64; omega
  have e3 : wrap64 (2 * s * (T : Int)) = 2 * s * T := by unfold wrap64; omega
  have e4 : wrap64 (2 * (T : Int)) = 2 * T := by unfold wrap64; omega
  have g1 : ¬ (s < 1) := by omega
  have g2 : ¬ (50 < s) := by omega
  have g3 : ¬ ((T : Int) < 1) := by omega
  have g4 : ¬ (50 < (T : Int)) := by omega
  clear b1 b2 b5
  go_enter Try.func4, Try.ntmps4
  go_wp2_with fail
  refine (HC.out _ (two_sl w 1 1 s (s * T) s 2 2 s (s * T) s)).mono ?_
  rintro e w1 ⟨fv, lv, rfl, hF, hQ, hb1⟩
  have hB : Below w.heap.size w w1 := ((Below.refl _ _).alloc (Nat.le_refl _) _).trans (hb1.mono (by simp))
  obtain ⟨gf, of, cf, rfl, hcel⟩ := fill_at hF (by rw [alt_len]; omega)
  obtain ⟨gq, oq, cq, rfl, -, -, -, -, ⟨c0, -, c2, c3, -⟩, -, -, -, -⟩ := hQ.form
  simp only [] at c0 c2 c3
  have HCel : Hid (∀ i a b c, (alt s T)[i]? = some ⟨a, b, c⟩ → w1.cell? ⟨gf, of + i * 3, none⟩ = some (.int .i64 a) ∧ w1.cell? ⟨gf, of + i * 3 + 1, none⟩ = some (.int .i64 b) ∧ w1.cell? ⟨gf, of + i * 3 + 2, none⟩ = some (.int .i64 c)) := hcel
  rw [alt_len]
  have HB : Hid (Below w.heap.size w w1) := hB
  clear hF hQ hb1 hcel hB HC
  obtain ⟨L, hL⟩ : ∃ L, L = 2 * T := ⟨_, rfl⟩
  rw [← hL]
  have hL2 : ((L : Int) != 2 * (T : Int)) = false := by simp; omega
  have HL : Hid (L = 2 * T) := hL
  clear hL
  simp only [List.length_cons, List.length_nil, Nat.zero_add, Nat.reduceAdd]
  go_wp2_with fail
  clear e1 e2 e3 e4 g1 g2 g3 g4 hL2
  have HT : Hid (1 ≤ s ∧ s ≤ 50 ∧ 1 ≤ T ∧ T ≤ 50) := ⟨h1, h2, h3, h4⟩
  clear h1 h2 h3 h4
  go_loopg [9] L (fun gg s9 wr => ∃ i : Nat, i ≤ L ∧ L - i ≤ gg ∧ s9 = .int .i64 i ∧ wr = w1)
  case atStart => exact ⟨0, Nat.zero_le _, by omega, rfl, rfl⟩
  case round =>
    obtain ⟨i, hi, hg, rfl, rfl⟩ := hrel
    by_cases hlt : i < L
    · have hltz : (i : Int) < (L : Int) := by omega
      have hin : ¬ ((i : Int) < 0) := by omega
      obtain ⟨x0, -, x2⟩ := HCel.out i _ _ _ (alt_get s T i (by have := HL.out; omega))
      have hL100 : i ≤ 100 := by have := HL.out; have := HT.out; omega
      rw [a1 i] at x0
      have h0i : 0 ≤ (i : Int) := Int.natCast_nonneg i
      obtain ⟨m0, m1⟩ := a5 i
      have e5 := a2 i
      have e7 := a3 i
      have e6 := a4 i hL100
      clear hL100
      clear m0 m1
      go_wp2_with fail
      go_roundg (L - (i + 1))
      case measure => clear e5 e6 e7 x0 x2; omega
      case rel => exact ⟨i + 1, hlt, Nat.le_refl _, by go_num, rfl⟩
    · have hltz : ¬ (i : Int) < (L : Int) := by omega
      go_wp2_with fail
      go_ret
      exact ⟨rfl, HB.out⟩

end Go.Proofs.Ytefolhkecgcigaa.que
