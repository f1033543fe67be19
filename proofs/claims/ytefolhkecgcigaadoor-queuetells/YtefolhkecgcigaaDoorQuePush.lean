/- Contracts over this seat's translation: queue.Push at every queue and rest. -/
import Derived.Test.YtefolhkecgcigaaDoorQueCat
import Derived.Test.YtefolhkecgcigaaDoorQueChk
namespace Go.Proofs.YtefolhkecgcigaaDoor.que
open Go.RowKit Go.Proofs.YtefolhkecgcigaaDoor.spn

/-- What is wrong with one more. -/
def pchk (zs : List R) (r : R) : Int := if qchk zs = 0 then (if bchk zs r = 0 then (if zs.length = 60 then 4 else 0) else bchk zs r) else qchk zs

theorem push_bad (v : Value) (zs : List R) (a b c d e : Int) (w : World) (h : SL w v zs) (h0 : ¬ qchk zs = 0) :
    Calls Tryd.prog 12 #[v, .agg #[.int .i64 a, .int .i64 b, .int .i64 c, .int .i64 d, .int .i64 e]] w fun x w' => x = .returned (.tuple #[.slice none 0 0, errV (qchk zs)]) ∧ Below w.heap.size w w' := by
  have HC : Hid (∀ W, SL W v zs → Calls Tryd.prog 7 #[v] W fun e w' => e = .returned (.iface 48 (.int .i64 (qchk zs))) ∧ Below W.heap.size W w') := by
    intro W hW
    have := qcheck_any v zs W hW
    rwa [errV_of h0] at this
  rw [errV_of h0]
  generalize qchk zs = k at *
  have HS : Hid (SL w v zs) := h
  clear h
  go_enter Tryd.func12, Tryd.ntmps12
  go_wp2_with fail
  refine (HC.out _ (HS.out.below ((Below.refl _ _).alloc (Nat.le_refl _) _))).mono ?_
  rintro x w1 ⟨rfl, hb1⟩
  have hB : Below w.heap.size w w1 := ((Below.refl _ _).alloc (Nat.le_refl _) _).trans (hb1.mono (by simp))
  clear hb1
  go_wp2_with fail
  go_ret2
  exact ⟨rfl, hB⟩

theorem push_behind (v : Value) (zs : List R) (a b c d e : Int) (w : World) (h : SL w v zs) (h0 : qchk zs = 0) (h1 : ¬ bchk zs ⟨a, b, c, d, e⟩ = 0) :
    Calls Tryd.prog 12 #[v, .agg #[.int .i64 a, .int .i64 b, .int .i64 c, .int .i64 d, .int .i64 e]] w fun x w' => x = .returned (.tuple #[.slice none 0 0, errV (bchk zs ⟨a, b, c, d, e⟩)]) ∧ Below w.heap.size w w' := by
  have HC : Hid (∀ W, SL W v zs → Calls Tryd.prog 7 #[v] W fun e w' => e = .returned .nilIface ∧ Below W.heap.size W w') := by
    intro W hW
    have := qcheck_any v zs W hW
    rwa [h0, errV_zero] at this
  have HH : Hid (∀ W, SL W v zs → Calls Tryd.prog 20 #[v, .agg #[.int .i64 a, .int .i64 b, .int .i64 c, .int .i64 d, .int .i64 e]] W fun x w' => x = .returned (.iface 48 (.int .i64 (bchk zs ⟨a, b, c, d, e⟩))) ∧ Below W.heap.size W w') := by
    intro W hW
    have := behind_any v zs a b c d e W hW
    rwa [errV_of h1] at this
  rw [errV_of h1]
  generalize bchk zs ⟨a, b, c, d, e⟩ = k at *
  have HS : Hid (SL w v zs) := h
  clear h h0
  go_enter Tryd.func12, Tryd.ntmps12
  go_wp2_with fail
  refine (HC.out _ (HS.out.below ((Below.refl _ _).alloc (Nat.le_refl _) _))).mono ?_
  rintro x w1 ⟨rfl, hb1⟩
  obtain ⟨hc1, hf1⟩ := bcell hb1
  have hB : Below w.heap.size w w1 := ((Below.refl _ _).alloc (Nat.le_refl _) _).trans (hb1.mono (by simp))
  clear hb1
  go_wp2_with fail
  refine (HH.out _ (HS.out.below hB)).mono ?_
  rintro x w2 ⟨rfl, hb2⟩
  have hB2 : Below w.heap.size w w2 := hB.trans (hb2.mono hB.size)
  clear hb2 hc1 hf1
  go_wp2_with fail
  go_ret2
  exact ⟨rfl, hB2⟩

theorem one_sl (w : World) (a b c d e : Int) : SL (w.alloc (.cells #[.int .i64 a, .int .i64 b, .int .i64 c, .int .i64 d, .int .i64 e] 24)) (.slice (some ⟨w.heap.size, 0, none⟩) 1 1) [⟨a, b, c, d, e⟩] := by
  refine .inr ⟨w.heap.size, 0, 1, rfl, by simp, by decide, by simp, flat_lies ?_⟩
  intro j u hu
  rw [Nat.zero_add, World.cell?_alloc_at _ _ _ _ rfl]
  simpa [flat, rV] using hu

theorem push_fine (p : Option Addr) (Z cap : Nat) (zs : List R) (a b c d e : Int) (w : World) (hZ : zs.length = Z) (h : SL w (.slice p Z cap) zs) (h0 : qchk zs = 0) (h1 : bchk zs ⟨a, b, c, d, e⟩ = 0) :
    Calls Tryd.prog 12 #[.slice p Z cap, .agg #[.int .i64 a, .int .i64 b, .int .i64 c, .int .i64 d, .int .i64 e]] w fun x w' => ∃ lv, x = .returned (.tuple #[lv, errV (if Z = 60 then 4 else 0)]) ∧ (Z ≠ 60 → OwnQ w' w.heap.size lv (zs ++ [⟨a, b, c, d, e⟩])) ∧ (Z = 60 → lv = .slice none 0 0) ∧ Below w.heap.size w w' := by
  obtain ⟨h60, -⟩ := (qchk_zero zs).1 h0
  have HC : Hid (∀ W, SL W (.slice p Z cap) zs → Calls Tryd.prog 7 #[.slice p Z cap] W fun e w' => e = .returned .nilIface ∧ Below W.heap.size W w') := by
    intro W hW
    have := qcheck_any _ zs W hW
    rwa [h0, errV_zero] at this
  have HH : Hid (∀ W, SL W (.slice p Z cap) zs → Calls Tryd.prog 20 #[.slice p Z cap, .agg #[.int .i64 a, .int .i64 b, .int .i64 c, .int .i64 d, .int .i64 e]] W fun x w' => x = .returned .nilIface ∧ Below W.heap.size W w') := by
    intro W hW
    have := behind_any _ zs a b c d e W hW
    rwa [h1, errV_zero] at this
  have HS : Hid (SL w (.slice p Z cap) zs) := h
  have HZ : Hid (zs.length = Z ∧ zs.length ≤ 60) := ⟨hZ, h60⟩
  clear h h0 h1 hZ h60
  by_cases hz : Z = 60
  · rw [if_pos hz]
    subst hz
    go_enter Tryd.func12, Tryd.ntmps12
    go_wp2_with fail
    refine (HC.out _ (HS.out.below ((Below.refl _ _).alloc (Nat.le_refl _) _))).mono ?_
    rintro x w1 ⟨rfl, hb1⟩
    obtain ⟨hc1, hf1⟩ := bcell hb1
    have hB : Below w.heap.size w w1 := ((Below.refl _ _).alloc (Nat.le_refl _) _).trans (hb1.mono (by simp))
    clear hb1
    go_wp2_with fail
    refine (HH.out _ (HS.out.below hB)).mono ?_
    rintro x w2 ⟨rfl, hb2⟩
    have hB2 : Below w.heap.size w w2 := hB.trans (hb2.mono hB.size)
    clear hb2 hc1 hf1
    go_wp2_with fail
    go_ret2
    exact ⟨_, rfl, fun hh => absurd rfl hh, fun _ => rfl, hB2⟩
  · rw [if_neg hz]
    have hz1 : ((Z : Int) == 60) = false := by simp; omega
    have hz2 : ¬ ((Z : Int) = 60) := by omega
    go_enter Tryd.func12, Tryd.ntmps12
    go_wp2_with fail
    refine (HC.out _ (HS.out.below ((Below.refl _ _).alloc (Nat.le_refl _) _))).mono ?_
    rintro x w1 ⟨rfl, hb1⟩
    obtain ⟨hc1, hf1⟩ := bcell hb1
    have hB : Below w.heap.size w w1 := ((Below.refl _ _).alloc (Nat.le_refl _) _).trans (hb1.mono (by simp))
    have hz3 : w.heap.size < w1.heap.size := by have := hb1.size; simp at this; omega
    clear hb1
    go_wp2_with fail
    refine (HH.out _ (HS.out.below hB)).mono ?_
    rintro x w2 ⟨rfl, hb2⟩
    obtain ⟨hc2, hf2⟩ := bcell hb2
    have HB2 : Hid (Below w.heap.size w w2) := hB.trans (hb2.mono hB.size)
    clear hb2 hB
    go_wp2_with fail
    have hV : Below w2.heap.size w2 ((w2.alloc (.cells #[.int .i64 a, .int .i64 b, .int .i64 c, .int .i64 d, .int .i64 e] 24)).alloc (.cells #[.slice p Z cap, .slice (some ⟨w2.heap.size, 0, none⟩) 1 1] 22)) := ((Below.refl _ _).alloc (Nat.le_refl _) _).alloc (by simp) _
    have hB4 : Below w.heap.size w ((w2.alloc (.cells #[.int .i64 a, .int .i64 b, .int .i64 c, .int .i64 d, .int .i64 e] 24)).alloc (.cells #[.slice p Z cap, .slice (some ⟨w2.heap.size, 0, none⟩) 1 1] 22)) := HB2.out.trans (hV.mono HB2.out.size)
    refine (concat_any (w2.heap.size + 1) 2 2 (fun j => if j = 0 then .slice p Z cap else .slice (some ⟨w2.heap.size, 0, none⟩) 1 1) (fun j => if j = 0 then zs else [⟨a, b, c, d, e⟩]) _ (by omega) ?hc ?hs ?hl).mono ?_
    case hc =>
      intro j hj
      have : j = 0 ∨ j = 1 := by omega
      rcases this with rfl | rfl <;> simp [go_sem]
    case hs =>
      intro j hj
      have : j = 0 ∨ j = 1 := by omega
      rcases this with rfl | rfl
      · exact (HS.out.below HB2.out).below hV
      · exact (one_sl w2 a b c d e).below ((Below.refl _ _).alloc (Nat.le_refl _) _)
    case hl =>
      show (([] ++ zs) ++ [_]).length ≤ 1000
      have := HZ.out.2
      simp; omega
    rintro x w3 ⟨lv, rfl, hO, hb3⟩
    have hO2 : OwnQ w3 w.heap.size lv (zs ++ [⟨a, b, c, d, e⟩]) := by
      have hO' : OwnQ w3 ((w2.alloc (.cells #[.int .i64 a, .int .i64 b, .int .i64 c, .int .i64 d, .int .i64 e] 24)).alloc (.cells #[.slice p Z cap, .slice (some ⟨w2.heap.size, 0, none⟩) 1 1] 22)).heap.size lv (zs ++ [⟨a, b, c, d, e⟩]) := hO
      refine ⟨hO'.1, ?_⟩
      rcases hO'.2 with hh | ⟨g, off, cap', cur, e1, e2, e3⟩
      · exact .inl hh
      · exact .inr ⟨g, off, cap', cur, e1, Nat.le_trans hB4.size e2, e3⟩
    have HO : Hid (OwnQ w3 w.heap.size lv (zs ++ [⟨a, b, c, d, e⟩])) := hO2
    have HB5 : Hid (Below w.heap.size w w3) := hB4.trans (hb3.mono hB4.size)
    clear hO hO2 hb3 hB4 hV hc1 hf1 hc2 hf2
    go_wp2_with fail
    go_ret2
    exact ⟨_, rfl, fun _ => HO.out, fun hh => absurd hh hz, HB5.out⟩

/-- Push, at every queue and every rest. -/
theorem push_any (v : Value) (zs : List R) (a b c d e : Int) (w : World) (h : SL w v zs) :
    Calls Tryd.prog 12 #[v, .agg #[.int .i64 a, .int .i64 b, .int .i64 c, .int .i64 d, .int .i64 e]] w fun x w' => ∃ lv, x = .returned (.tuple #[lv, errV (pchk zs ⟨a, b, c, d, e⟩)]) ∧ (pchk zs ⟨a, b, c, d, e⟩ = 0 → OwnQ w' w.heap.size lv (zs ++ [⟨a, b, c, d, e⟩])) ∧ (pchk zs ⟨a, b, c, d, e⟩ ≠ 0 → lv = .slice none 0 0) ∧ Below w.heap.size w w' := by
  unfold pchk
  by_cases h0 : qchk zs = 0
  · rw [if_pos h0]
    by_cases h1 : bchk zs ⟨a, b, c, d, e⟩ = 0
    · rw [if_pos h1]
      obtain ⟨p, cap, rfl⟩ := h.form
      refine (push_fine p zs.length cap zs a b c d e w rfl h h0 h1).mono ?_
      rintro x w' ⟨lv, rfl, i1, i2, i3⟩
      refine ⟨lv, rfl, fun hh => i1 ?_, fun hh => i2 ?_, i3⟩
      · intro hz; rw [if_pos hz] at hh; cases hh
      · apply Classical.byContradiction
        intro hz
        rw [if_neg hz] at hh
        exact hh rfl
    · rw [if_neg h1]
      refine (push_behind v zs a b c d e w h h0 h1).mono ?_
      rintro x w' ⟨rfl, hB⟩
      exact ⟨_, rfl, fun hh => absurd hh h1, fun _ => rfl, hB⟩
  · rw [if_neg h0]
    refine (push_bad v zs a b c d e w h h0).mono ?_
    rintro x w' ⟨rfl, hB⟩
    exact ⟨_, rfl, fun hh => absurd hh h0, fun _ => rfl, hB⟩

end Go.Proofs.YtefolhkecgcigaaDoor.que
