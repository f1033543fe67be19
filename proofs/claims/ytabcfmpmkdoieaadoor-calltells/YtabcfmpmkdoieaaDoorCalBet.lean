/- Contracts over this seat's translation: (offer).better. -/
import Derived.Test.YtabcfmpmkdoieaaDoorCalOff
namespace Go.Proofs.YtabcfmpmkdoieaaDoor.cal
open Go.RowKit Go.Proofs.YtabcfmpmkdoieaaDoor.ord

section
variable (p1 v1 x1 p2 v2 x2 : Int) (w : World)
set_option maxHeartbeats 1000000 in
theorem better_vol (h : ¬ v1 = v2) : Calls Tryd.prog 23 #[.agg #[.int .i64 p1, .int .i64 v1, .int .i64 x1], .agg #[.int .i64 p2, .int .i64 v2, .int .i64 x2]] w fun e w' => e = .returned (.bool (decide (v2 < v1))) ∧ Below w.heap.size w w' := by
  have hne : (v1 != v2) = true := by simpa using h
  have HB : Hid (Below w.heap.size w ((w.alloc (.cells #[.int .i64 p1, .int .i64 v1, .int .i64 x1] 50)).alloc (.cells #[.int .i64 p2, .int .i64 v2, .int .i64 x2] 50))) := ((Below.refl _ _).alloc (Nat.le_refl _) _).alloc (by simp) _
  go_enter Tryd.func23, Tryd.ntmps23
  go_wp2_with fail
  go_ret
  exact ⟨rfl, HB.out⟩

set_option maxHeartbeats 1000000 in
theorem better_same (h : v1 = v2) (h1 : -1000000 ≤ x1 ∧ x1 ≤ 1000000) (h2 : -1000000 ≤ x2 ∧ x2 ≤ 1000000) : Calls Tryd.prog 23 #[.agg #[.int .i64 p1, .int .i64 v1, .int .i64 x1], .agg #[.int .i64 p2, .int .i64 v2, .int .i64 x2]] w fun e w' => e = .returned (.bool (if max x1 (-x1) = max x2 (-x2) then decide (p1 < p2) else decide (max x1 (-x1) < max x2 (-x2)))) ∧ Below w.heap.size w w' := by
  subst h
  have HA1 : Hid (∀ V, Calls Tryd.prog 36 #[.agg #[.int .i64 p1, .int .i64 v1, .int .i64 x1]] V fun e w' => e = .returned (.int .i64 (max x1 (-x1))) ∧ Below V.heap.size V w') := fun V => apart_any p1 v1 x1 V h1
  have HA2 : Hid (∀ V, Calls Tryd.prog 36 #[.agg #[.int .i64 p2, .int .i64 v1, .int .i64 x2]] V fun e w' => e = .returned (.int .i64 (max x2 (-x2))) ∧ Below V.heap.size V w') := fun V => apart_any p2 v1 x2 V h2
  have HB : Hid (Below w.heap.size w ((w.alloc (.cells #[.int .i64 p1, .int .i64 v1, .int .i64 x1] 50)).alloc (.cells #[.int .i64 p2, .int .i64 v1, .int .i64 x2] 50))) := ((Below.refl _ _).alloc (Nat.le_refl _) _).alloc (by simp) _
  generalize max x1 (-x1) = A at *
  generalize max x2 (-x2) = B at *
  obtain ⟨X, hX⟩ : ∃ x, x = w.heap.size := ⟨_, rfl⟩
  have HR1 : Hid (((w.alloc (.cells #[.int .i64 p1, .int .i64 v1, .int .i64 x1] 50)).alloc (.cells #[.int .i64 p2, .int .i64 v1, .int .i64 x2] 50)).heap[X]? = some (.cells #[.int .i64 p1, .int .i64 v1, .int .i64 x1] 50 (0, 0))) := by
    rw [hX]; exact (Below.heap_alloc (w.alloc _) _ _ (by simp)).trans (heap_alloc_new w _)
  have HR2 : Hid (((w.alloc (.cells #[.int .i64 p1, .int .i64 v1, .int .i64 x1] 50)).alloc (.cells #[.int .i64 p2, .int .i64 v1, .int .i64 x2] 50)).heap[X + 1]? = some (.cells #[.int .i64 p2, .int .i64 v1, .int .i64 x2] 50 (0, 0))) := by
    have e := heap_alloc_new (w.alloc (.cells #[.int .i64 p1, .int .i64 v1, .int .i64 x1] 50)) (.cells #[.int .i64 p2, .int .i64 v1, .int .i64 x2] 50)
    rw [World.size_alloc] at e
    rw [hX]; exact e
  clear h1 h2
  go_enter Tryd.func23, Tryd.ntmps23
  go_upto_region 3 with fail
  simp only [← hX]
  generalize ((w.alloc (.cells #[.int .i64 p1, .int .i64 v1, .int .i64 x1] 50)).alloc (.cells #[.int .i64 p2, .int .i64 v1, .int .i64 x2] 50)) = W0 at HB HR1 HR2 ⊢
  clear hX
  have HO : Hid (∀ V, Below W0.heap.size W0 V → V.cell? ⟨X, 0, none⟩ = some (.int .i64 p1) ∧ V.cell? ⟨X, 1, none⟩ = some (.int .i64 v1) ∧ V.cell? ⟨X, 2, none⟩ = some (.int .i64 x1) ∧ V.cell? ⟨X + 1, 0, none⟩ = some (.int .i64 p2) ∧ V.cell? ⟨X + 1, 1, none⟩ = some (.int .i64 v1) ∧ V.cell? ⟨X + 1, 2, none⟩ = some (.int .i64 x2)) := fun V hV => by
    obtain ⟨a, b, c, -⟩ := rowThree ((hV.block X (Array.getElem?_eq_some_iff.1 HR1.out).1).trans HR1.out)
    obtain ⟨a', b', c', -⟩ := rowThree ((hV.block (X + 1) (Array.getElem?_eq_some_iff.1 HR2.out).1).trans HR2.out)
    exact ⟨a, b, c, a', b', c'⟩
  obtain ⟨k0, k1, k2, l0, l1, l2⟩ := HO.out W0 (Below.refl _ _)
  go_cut [16] from 17 to 21 (fun s16 wx => s16 = .bool (A != B) ∧ Aside (Below W0.heap.size W0 wx))
  case first =>
    go_region_with (first | (go_at_call 36; first | (with_reducible refine (HA1.out _).mono ?_; rintro e V1 ⟨rfl, hv1⟩; have GB1 : Below W0.heap.size W0 V1 := (by first | exact hv1 | exact (Below.refl _ W0).drew.trans (hv1.mono (Below.refl W0.heap.size W0).drew.size) | exact GB2.trans (hv1.mono GB2.size) | exact GB2.drew.trans (hv1.mono GB2.drew.size)); clear hv1; obtain ⟨q10, q11, q12, r10, r11, r12⟩ := HO.out V1 GB1) | (with_reducible refine (HA2.out _).mono ?_; rintro e V2 ⟨rfl, hv2⟩; have GB2 : Below W0.heap.size W0 V2 := (by first | exact hv2 | exact (Below.refl _ W0).drew.trans (hv2.mono (Below.refl W0.heap.size W0).drew.size) | exact GB1.trans (hv2.mono GB1.size) | exact GB1.drew.trans (hv2.mono GB1.drew.size)); clear hv2; obtain ⟨q20, q21, q22, r20, r21, r22⟩ := HO.out V2 GB2)))
    all_goals (go_wp2_with fail; go_meet; first | exact ⟨rfl, GB2⟩ | exact ⟨rfl, GB1⟩ | exact ⟨rfl, GB2.drew⟩ | exact ⟨rfl, GB1.drew⟩)
  case rest =>
    obtain ⟨rfl, hw⟩ := hcut
    have HW := hidC hw.out
    clear hw k0 k1 k2 l0 l1 l2
    by_cases hab : A = B
    · subst hab
      have hne : (A != A) = false := by simp
      obtain ⟨k0, k1, k2, l0, l1, l2⟩ := HO.out wc HW.out
      have HF := hidC (HB.out.trans (HW.out.mono HB.out.size))
      clear HA1 HA2 HO HW
      go_wp2_with fail
      go_ret
      first | exact ⟨rfl, HF.out⟩ | exact ⟨by rw [if_pos rfl]; rfl, HF.out⟩
    · have hne : (A != B) = true := by simpa using hab
      have HAB := hidC hab
      go_upto_region 4 with fail
      simp only [hne]
      obtain ⟨k0, k1, k2, l0, l1, l2⟩ := HO.out wc HW.out
      have HO2 : Hid (∀ V, Below wc.heap.size wc V → _) := fun V hV => HO.out V (HW.out.trans (hV.mono HW.out.size))
      go_cut [4] from 22 to 26 (fun s4 wx => s4 = .bool (decide (A < B)) ∧ Aside (Below wc.heap.size wc wx))
      case first =>
        clear HO HW hab hne
        go_region_with (first | (go_at_call 36; first | (with_reducible refine (HA1.out _).mono ?_; rintro e V1 ⟨rfl, hv1⟩; have GB1 : Below wc.heap.size wc V1 := (by first | exact hv1 | exact (Below.refl _ wc).drew.trans (hv1.mono (Below.refl wc.heap.size wc).drew.size) | exact GB2.trans (hv1.mono GB2.size) | exact GB2.drew.trans (hv1.mono GB2.drew.size)); clear hv1; obtain ⟨q10, q11, q12, r10, r11, r12⟩ := HO2.out V1 GB1) | (with_reducible refine (HA2.out _).mono ?_; rintro e V2 ⟨rfl, hv2⟩; have GB2 : Below wc.heap.size wc V2 := (by first | exact hv2 | exact (Below.refl _ wc).drew.trans (hv2.mono (Below.refl wc.heap.size wc).drew.size) | exact GB1.trans (hv2.mono GB1.size) | exact GB1.drew.trans (hv2.mono GB1.drew.size)); clear hv2; obtain ⟨q20, q21, q22, r20, r21, r22⟩ := HO2.out V2 GB2)))
        all_goals (go_wp2_with fail; go_simp; go_meet; first | exact ⟨rfl, GB2⟩ | exact ⟨rfl, GB1⟩ | exact ⟨rfl, GB2.drew⟩ | exact ⟨rfl, GB1.drew⟩)
      case rest =>
        obtain ⟨rfl, hw⟩ := hcut
        have HF := hidC (HB.out.trans ((HW.out.trans (hw.out.mono HW.out.size)).mono HB.out.size))
        clear hw k0 k1 k2 l0 l1 l2 HO HO2 HW HA1 HA2 hab hne
        go_wp2_with fail
        go_ret
        first | exact ⟨rfl, HF.out⟩ | exact ⟨by rw [if_neg HAB.out]; rfl, HF.out⟩
end
theorem better_any (a b : Of) (w : World) (h1 : -1000000 ≤ a.over ∧ a.over ≤ 1000000) (h2 : -1000000 ≤ b.over ∧ b.over ≤ 1000000) : Calls Tryd.prog 23 #[ofV a, ofV b] w fun e w' => e = .returned (.bool (bet a b)) ∧ Below w.heap.size w w' := by
  obtain ⟨p1, v1, x1⟩ := a
  obtain ⟨p2, v2, x2⟩ := b
  unfold bet ap ofV
  simp only at *
  by_cases h : v1 = v2
  · rw [if_pos h]
    exact better_same p1 v1 x1 p2 v2 x2 w h h1 h2
  · rw [if_neg h]
    exact better_vol p1 v1 x1 p2 v2 x2 w h
end Go.Proofs.YtabcfmpmkdoieaaDoor.cal
