/- Contracts over this seat's translation: the document's Fill. -/
import Derived.Test.YtalhdjlopkdnbaaGreatDoorSidRef7
import Derived.Test.YtalhdjlopkdnbaaGreatDoorQueTake1
namespace Go.Proofs.YtalhdjlopkdnbaaGreatDoor.que
open Go.RowKit Go.Proofs.YtalhdjlopkdnbaaGreatDoor.spn

theorem cells_new {w w1 : World} {a b c d e : Int} (hb1 : Below (w.alloc (.cells #[.int .i64 a, .int .i64 b, .int .i64 c, .int .i64 d, .int .i64 e] 26)).heap.size (w.alloc (.cells #[.int .i64 a, .int .i64 b, .int .i64 c, .int .i64 d, .int .i64 e] 26)) w1) :
    w1.heap[w.heap.size]? = some (.cells #[.int .i64 a, .int .i64 b, .int .i64 c, .int .i64 d, .int .i64 e] 26 (0, 0)) := by
  rw [hb1.block w.heap.size (by simp)]
  exact heap_alloc_new w _
set_option maxRecDepth 100000 in
set_option maxHeartbeats 1000000 in
theorem fill_good (b o c L : Nat) (a1 b1 q d e : Int) (t : List R) (n : Int) (w : World) (hL : t.length + 1 = L) (hb : b < w.heap.size) (hc : L ≤ c) (hm : c ≤ 9223372036854775807) (h60 : L ≤ 60) (hl : Lies w b o (⟨a1, b1, q, d, e⟩ :: t))
    (hq1 : 1 ≤ q) (hq2 : q ≤ 10000) (hd1 : 0 ≤ d) (hd2 : d ≤ 10000) (he1 : 0 ≤ e) (he2 : e ≤ 10000) (hn1 : 1 ≤ n) (hn2 : n ≤ 10000) :
    Calls Tryz.prog 59 #[.slice (some ⟨b, o, none⟩) L c, .int .i64 n] w fun x w' => ∃ v, x = .returned (.tuple #[.int .i64 (min n q), v]) ∧ OwnQ w' w.heap.size v (tk1 (min n q) ⟨a1, b1, q, d, e⟩ t) ∧ Below w.heap.size w w' := by
  obtain ⟨c0, c1, c2, c3, c4⟩ := lies_at hl (show 0 < (⟨a1, b1, q, d, e⟩ :: t : List R).length by simp) rfl
  rw [Nat.zero_mul, Nat.add_zero] at c0 c1 c2 c3 c4
  have HL : Hid (Lies w b o (⟨a1, b1, q, d, e⟩ :: t)) := hl
  have HN : Hid (t.length + 1 = L) := hL
  clear hl hL
  have hL0 : (0 : Int) < (L : Int) := by have := HN.out; omega
  have HW : Hid (Calls Tryz.prog 56 #[.slice (some ⟨b, o, none⟩) L c, .int .i64 0] (w.alloc (.cells #[.int .i64 a1, .int .i64 b1, .int .i64 q, .int .i64 d, .int .i64 e] 26)) fun x w' => ∃ v, x = .returned v ∧ OwnQ w' (w.alloc (.cells #[.int .i64 a1, .int .i64 b1, .int .i64 q, .int .i64 d, .int .i64 e] 26)).heap.size v t ∧ Below (w.alloc (.cells #[.int .i64 a1, .int .i64 b1, .int .i64 q, .int .i64 d, .int .i64 e] 26)).heap.size (w.alloc (.cells #[.int .i64 a1, .int .i64 b1, .int .i64 q, .int .i64 d, .int .i64 e] 26)) w') := by
    have := without_some b o c L (⟨a1, b1, q, d, e⟩ :: t) 0 (w.alloc (.cells #[.int .i64 a1, .int .i64 b1, .int .i64 q, .int .i64 d, .int .i64 e] 26)) HN.out (by simp; omega) hc hm (by omega) (HL.out.below hb ((Below.refl _ _).alloc (Nat.le_refl _) _)) (by have := HN.out; omega)
    exact this
  have e1 : wrap64 (q - n) = q - n := by unfold wrap64; omega
  go_enter Tryz.func59, Tryz.ntmps59
  go_wp2_with fail
  refine HW.out.mono ?_
  rintro x w1 ⟨v1, rfl, hO1, hb1⟩
  have hR := cells_new hb1
  have HB1 : Hid (Below w.heap.size w w1) := ((Below.refl _ _).alloc (Nat.le_refl _) _).trans (hb1.mono (by simp))
  have HO1 : Hid (OwnQ w1 (w.heap.size + 1) v1 t) := by
    have h := hO1
    rw [show (w.alloc (.cells #[.int .i64 a1, .int .i64 b1, .int .i64 q, .int .i64 d, .int .i64 e] 26)).heap.size = w.heap.size + 1 by simp] at h
    exact h
  have hz : w.heap.size < w1.heap.size := by have := hb1.size; simp at this; omega
  clear hb1 hO1 HW c0 c1 c2 c3 c4
  have d0 : w1.cell? ⟨w.heap.size, 0, none⟩ = some (.int .i64 a1) := by simp [World.cell?, hR]
  have d1 : w1.cell? ⟨w.heap.size, 1, none⟩ = some (.int .i64 b1) := by simp [World.cell?, hR]
  have d2 : w1.cell? ⟨w.heap.size, 2, none⟩ = some (.int .i64 q) := by simp [World.cell?, hR]
  have d3 : w1.cell? ⟨w.heap.size, 3, none⟩ = some (.int .i64 d) := by simp [World.cell?, hR]
  have d4 : w1.cell? ⟨w.heap.size, 4, none⟩ = some (.int .i64 e) := by simp [World.cell?, hR]
  have hf : ∀ j, w1.frozen? ⟨w.heap.size, j, none⟩ = false := fun j => frozen_of_row w1 _ j _ _ hR
  have f2 := hf 2
  have f3 := hf 3
  clear hf hR
  have HNE : Hid (v1.ownBlock = none ∨ v1.ownBlock ≠ some w.heap.size) := by
    cases h : v1.ownBlock with
    | none => exact .inl rfl
    | some k =>
      right
      intro he
      have := (HO1.out.lt k h).1
      simp only [Option.some.injEq] at he
      omega
  by_cases hk : n < q
  · have hX : w1.grownBy (w1.setCell ⟨w.heap.size, 2, none⟩ (.int .i64 (q - n))) (some w.heap.size) := grown_set _ _ _ _
    have hOX := HO1.out.kept hX HNE.out
    have hBX : Below w.heap.size w (w1.setCell ⟨w.heap.size, 2, none⟩ (.int .i64 (q - n))) := HB1.out.setCell (Nat.le_refl _) _
    have hown := one_own (w1.setCell ⟨w.heap.size, 2, none⟩ (.int .i64 (q - n))) w.heap.size a1 b1 (q - n) d e hBX.size
    rw [show (w1.setCell ⟨w.heap.size, 2, none⟩ (.int .i64 (q - n))).heap.size = w1.heap.size by simp] at hown
    have hBW : Below w.heap.size w ((w1.setCell ⟨w.heap.size, 2, none⟩ (.int .i64 (q - n))).alloc (.cells #[.int .i64 a1, .int .i64 b1, .int .i64 (q - n), .int .i64 d, .int .i64 e] 26)) := hBX.alloc hBX.size _
    obtain ⟨v2, w2, hR, hO2, hgr, hat⟩ := run_append_q _ w.heap.size _ v1 [⟨a1, b1, q - n, d, e⟩] t hown (OwnQ.sl (hOX.below ((Below.refl _ _).alloc (Nat.le_refl _) _))) (by have := HN.out; simp; omega) hBW.size
    have HR : Hid ((Builtin.append_ #[32, 32] 32 #[.slice (some ⟨w1.heap.size, 0, none⟩) 1 1, v1]).run Tryz.prog ((w1.setCell ⟨w.heap.size, 2, none⟩ (.int .i64 (q - n))).alloc (.cells #[.int .i64 a1, .int .i64 b1, .int .i64 (q - n), .int .i64 d, .int .i64 e] 26)) = .ok v2 w2) := hR
    have HO2 : Hid (OwnQ w2 w.heap.size v2 (tk1 (min n q) ⟨a1, b1, q, d, e⟩ t)) := by
      show OwnQ _ _ _ _
      rw [Int.min_eq_left (Int.le_of_lt hk), tk1_less hk]
      exact hO2
    have HB2 : Hid (Below w.heap.size w w2) := hBW.grown hgr hBW.size (fun k hk => (hown.lt k hk).1)
    have hmin : min n q = n := Int.min_eq_left (Int.le_of_lt hk)
    clear hX hOX hBX hown hBW hR hO2 hgr hat
    go_wp2_with (at_builtin; refine Lib.wpList_append_run _ rfl _ _ _ _ rfl _ _ rfl rfl _ _ HR.out ?_)
    go_ret2
    exact ⟨_, by rw [hmin]; rfl, HO2.out, HB2.out⟩
  · by_cases hd0 : d = 0
    · subst hd0
      have HO2 : Hid (OwnQ w1 w.heap.size v1 (tk1 (min n q) ⟨a1, b1, q, 0, e⟩ t)) := by
        show OwnQ _ _ _ _
        rw [Int.min_eq_right (by omega), tk1_gone]
        exact HO1.out.up' (by omega)
      have hmin : min n q = q := Int.min_eq_right (by omega)
      go_wp2_with fail
      go_ret2
      exact ⟨_, by rw [hmin]; rfl, HO2.out, HB1.out⟩
    · have hd3 : (d == 0) = false := by simp [hd0]
      have e2 : wrap64 (d - e) = d - e := by unfold wrap64; omega
      by_cases hde : d < e
      · have hX : w1.grownBy (((w1.setCell ⟨w.heap.size, 2, none⟩ (.int .i64 e)).setCell ⟨w.heap.size, 2, none⟩ (.int .i64 d)).setCell ⟨w.heap.size, 3, none⟩ (.int .i64 0)) (some w.heap.size) := grown_trans (grown_trans (grown_set _ _ _ _) (grown_set _ _ _ _)) (grown_set _ _ _ _)
        have hOX := HO1.out.kept hX HNE.out
        have hBX : Below w.heap.size w (((w1.setCell ⟨w.heap.size, 2, none⟩ (.int .i64 e)).setCell ⟨w.heap.size, 2, none⟩ (.int .i64 d)).setCell ⟨w.heap.size, 3, none⟩ (.int .i64 0)) := ((HB1.out.setCell (Nat.le_refl _) _).setCell (Nat.le_refl _) _).setCell (Nat.le_refl _) _
        have hsl := OwnQ.sl (one_own (((w1.setCell ⟨w.heap.size, 2, none⟩ (.int .i64 e)).setCell ⟨w.heap.size, 2, none⟩ (.int .i64 d)).setCell ⟨w.heap.size, 3, none⟩ (.int .i64 0)) w.heap.size a1 b1 d 0 e hBX.size)
        rw [show (((w1.setCell ⟨w.heap.size, 2, none⟩ (.int .i64 e)).setCell ⟨w.heap.size, 2, none⟩ (.int .i64 d)).setCell ⟨w.heap.size, 3, none⟩ (.int .i64 0)).heap.size = w1.heap.size by simp] at hsl
        have hBW : Below w.heap.size w ((((w1.setCell ⟨w.heap.size, 2, none⟩ (.int .i64 e)).setCell ⟨w.heap.size, 2, none⟩ (.int .i64 d)).setCell ⟨w.heap.size, 3, none⟩ (.int .i64 0)).alloc (.cells #[.int .i64 a1, .int .i64 b1, .int .i64 d, .int .i64 0, .int .i64 e] 26)) := hBX.alloc hBX.size _
        have hown := hOX.below ((Below.refl _ _).alloc (Nat.le_refl _) (.cells #[.int .i64 a1, .int .i64 b1, .int .i64 d, .int .i64 0, .int .i64 e] 26))
        obtain ⟨v2, w2, hR, hO2, hgr, hat⟩ := run_append_q _ (w.heap.size + 1) v1 _ t [⟨a1, b1, d, 0, e⟩] hown hsl (by have := HN.out; simp; omega) (by simp; omega)
        have HR : Hid ((Builtin.append_ #[32, 32] 32 #[v1, .slice (some ⟨w1.heap.size, 0, none⟩) 1 1]).run Tryz.prog ((((w1.setCell ⟨w.heap.size, 2, none⟩ (.int .i64 e)).setCell ⟨w.heap.size, 2, none⟩ (.int .i64 d)).setCell ⟨w.heap.size, 3, none⟩ (.int .i64 0)).alloc (.cells #[.int .i64 a1, .int .i64 b1, .int .i64 d, .int .i64 0, .int .i64 e] 26)) = .ok v2 w2) := hR
        have HO2 : Hid (OwnQ w2 w.heap.size v2 (tk1 (min n q) ⟨a1, b1, q, d, e⟩ t)) := by
          show OwnQ _ _ _ _
          rw [Int.min_eq_right (by omega), tk1_back hd0, show min e d = d by omega, Int.sub_self]
          exact hO2.up' (by omega)
        have HB2 : Hid (Below w.heap.size w w2) := hBW.grown hgr hBW.size (fun k hk => by have := (hown.lt k hk).1; omega)
        have hmin : min n q = q := Int.min_eq_right (by omega)
        clear hX hOX hBX hown hBW hR hO2 hgr hat hsl
        go_wp2_with (at_builtin; refine Lib.wpList_append_run _ rfl _ _ _ _ rfl _ _ rfl rfl _ _ HR.out ?_)
        go_ret2
        exact ⟨_, by rw [hmin]; rfl, HO2.out, HB2.out⟩
      · have hX : w1.grownBy ((w1.setCell ⟨w.heap.size, 2, none⟩ (.int .i64 e)).setCell ⟨w.heap.size, 3, none⟩ (.int .i64 (d - e))) (some w.heap.size) := grown_trans (grown_set _ _ _ _) (grown_set _ _ _ _)
        have hOX := HO1.out.kept hX HNE.out
        have hBX : Below w.heap.size w ((w1.setCell ⟨w.heap.size, 2, none⟩ (.int .i64 e)).setCell ⟨w.heap.size, 3, none⟩ (.int .i64 (d - e))) := (HB1.out.setCell (Nat.le_refl _) _).setCell (Nat.le_refl _) _
        have hsl := OwnQ.sl (one_own ((w1.setCell ⟨w.heap.size, 2, none⟩ (.int .i64 e)).setCell ⟨w.heap.size, 3, none⟩ (.int .i64 (d - e))) w.heap.size a1 b1 e (d - e) e hBX.size)
        rw [show ((w1.setCell ⟨w.heap.size, 2, none⟩ (.int .i64 e)).setCell ⟨w.heap.size, 3, none⟩ (.int .i64 (d - e))).heap.size = w1.heap.size by simp] at hsl
        have hBW : Below w.heap.size w (((w1.setCell ⟨w.heap.size, 2, none⟩ (.int .i64 e)).setCell ⟨w.heap.size, 3, none⟩ (.int .i64 (d - e))).alloc (.cells #[.int .i64 a1, .int .i64 b1, .int .i64 e, .int .i64 (d - e), .int .i64 e] 26)) := hBX.alloc hBX.size _
        have hown := hOX.below ((Below.refl _ _).alloc (Nat.le_refl _) (.cells #[.int .i64 a1, .int .i64 b1, .int .i64 e, .int .i64 (d - e), .int .i64 e] 26))
        obtain ⟨v2, w2, hR, hO2, hgr, hat⟩ := run_append_q _ (w.heap.size + 1) v1 _ t [⟨a1, b1, e, (d - e), e⟩] hown hsl (by have := HN.out; simp; omega) (by simp; omega)
        have HR : Hid ((Builtin.append_ #[32, 32] 32 #[v1, .slice (some ⟨w1.heap.size, 0, none⟩) 1 1]).run Tryz.prog (((w1.setCell ⟨w.heap.size, 2, none⟩ (.int .i64 e)).setCell ⟨w.heap.size, 3, none⟩ (.int .i64 (d - e))).alloc (.cells #[.int .i64 a1, .int .i64 b1, .int .i64 e, .int .i64 (d - e), .int .i64 e] 26)) = .ok v2 w2) := hR
        have HO2 : Hid (OwnQ w2 w.heap.size v2 (tk1 (min n q) ⟨a1, b1, q, d, e⟩ t)) := by
          show OwnQ _ _ _ _
          rw [Int.min_eq_right (by omega), tk1_back hd0, show min e d = e by omega]
          exact hO2.up' (by omega)
        have HB2 : Hid (Below w.heap.size w w2) := hBW.grown hgr hBW.size (fun k hk => by have := (hown.lt k hk).1; omega)
        have hmin : min n q = q := Int.min_eq_right (by omega)
        clear hX hOX hBX hown hBW hR hO2 hgr hat hsl
        go_wp2_with (at_builtin; refine Lib.wpList_append_run _ rfl _ _ _ _ rfl _ _ rfl rfl _ _ HR.out ?_)
        go_ret2
        exact ⟨_, by rw [hmin]; rfl, HO2.out, HB2.out⟩
end Go.Proofs.YtalhdjlopkdnbaaGreatDoor.que
