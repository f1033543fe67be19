/- What the document's Bar answers. -/
import Derived.Test.YtkbegagpliiljaaDoorBarJo
namespace Go.Proofs.YtkbegagpliiljaaDoor.bar
open Go.RowKit Go.Proofs.YtkbegagpliiljaaDoor.mee
open Go.Proofs.YtkbegagpliiljaaDoor.spn (keeps spanB)

theorem fine_of {o h l c q : Int} (g : 1 ≤ l ∧ l ≤ h ∧ l ≤ o ∧ o ≤ h ∧ l ≤ c ∧ c ≤ h ∧ 1 ≤ q ∧ q ≤ 4000000) : (!badB ⟨o, h, l, c, q⟩) = true := by
  have hb : badB ⟨o, h, l, c, q⟩ = false := by
    unfold badB
    simp only [List.any_cons, List.any_nil, Bool.or_eq_false_iff, Bool.or_false]
    simp only [spanB]
    refine ⟨?_, ?_, ?_, ?_⟩ <;> (simp; omega)
  rw [hb]
  rfl
theorem foul_of {o h l c q : Int} (g : ¬ (1 ≤ l ∧ l ≤ h ∧ l ≤ o ∧ o ≤ h ∧ l ≤ c ∧ c ≤ h ∧ 1 ≤ q ∧ q ≤ 4000000)) : (!badB ⟨o, h, l, c, q⟩) = false := by
  have hb : badB ⟨o, h, l, c, q⟩ = true := by
    cases hq : badB ⟨o, h, l, c, q⟩
    · exfalso
      apply g
      unfold badB at hq
      simp only [List.any_cons, List.any_nil, Bool.or_eq_false_iff, Bool.or_false] at hq
      simp [spanB] at hq
      omega
    · rfl
  rw [hb]
  rfl
set_option maxHeartbeats 1000000 in
theorem rbar_any (o h l c q : Int) (w : World) : Calls Tryd.prog 10 #[.agg #[.int .i64 o, .int .i64 h, .int .i64 l, .int .i64 c, .int .i64 q]] w fun e w' => e = .returned (.bool (!badB ⟨o, h, l, c, q⟩)) ∧ Below w.heap.size w w' := by
  have HV := hidT ((Below.refl w.heap.size w).alloc (Nat.le_refl _) (.cells #[.int .i64 o, .int .i64 h, .int .i64 l, .int .i64 c, .int .i64 q] 26))
  have hR := heap_alloc_new w (.cells #[.int .i64 o, .int .i64 h, .int .i64 l, .int .i64 c, .int .i64 q] 26)
  obtain ⟨r0, r1, r2, r3, r4⟩ := row5 hR
  clear hR
  by_cases l1 : 1 ≤ l
  rotate_left
  · rw [foul_of (by omega)]
    go_enter Tryd.func10, Tryd.ntmps10
    go_upto_region 1 with fail
    generalize w.alloc (.cells #[.int .i64 o, .int .i64 h, .int .i64 l, .int .i64 c, .int .i64 q] 26) = V at *
    go_wp2_with fail
    go_ret
    exact ⟨rfl, HV.out⟩
  by_cases l2 : l ≤ h
  rotate_left
  · rw [foul_of (by omega)]
    go_enter Tryd.func10, Tryd.ntmps10
    go_upto_region 1 with fail
    generalize w.alloc (.cells #[.int .i64 o, .int .i64 h, .int .i64 l, .int .i64 c, .int .i64 q] 26) = V at *
    go_wp2_with fail
    go_ret
    exact ⟨rfl, HV.out⟩
  by_cases l3 : l ≤ o
  rotate_left
  · rw [foul_of (by omega)]
    go_enter Tryd.func10, Tryd.ntmps10
    go_upto_region 1 with fail
    generalize w.alloc (.cells #[.int .i64 o, .int .i64 h, .int .i64 l, .int .i64 c, .int .i64 q] 26) = V at *
    go_wp2_with fail
    go_ret
    exact ⟨rfl, HV.out⟩
  by_cases l4 : o ≤ h
  rotate_left
  · rw [foul_of (by omega)]
    go_enter Tryd.func10, Tryd.ntmps10
    go_upto_region 1 with fail
    generalize w.alloc (.cells #[.int .i64 o, .int .i64 h, .int .i64 l, .int .i64 c, .int .i64 q] 26) = V at *
    go_wp2_with fail
    go_ret
    exact ⟨rfl, HV.out⟩
  by_cases l5 : l ≤ c
  rotate_left
  · rw [foul_of (by omega)]
    go_enter Tryd.func10, Tryd.ntmps10
    go_upto_region 1 with fail
    generalize w.alloc (.cells #[.int .i64 o, .int .i64 h, .int .i64 l, .int .i64 c, .int .i64 q] 26) = V at *
    go_wp2_with fail
    go_ret
    exact ⟨rfl, HV.out⟩
  by_cases l6 : c ≤ h
  rotate_left
  · rw [foul_of (by omega)]
    go_enter Tryd.func10, Tryd.ntmps10
    go_upto_region 1 with fail
    generalize w.alloc (.cells #[.int .i64 o, .int .i64 h, .int .i64 l, .int .i64 c, .int .i64 q] 26) = V at *
    go_wp2_with fail
    go_ret
    exact ⟨rfl, HV.out⟩
  by_cases l7 : 1 ≤ q
  rotate_left
  · rw [foul_of (by omega)]
    go_enter Tryd.func10, Tryd.ntmps10
    go_upto_region 1 with fail
    generalize w.alloc (.cells #[.int .i64 o, .int .i64 h, .int .i64 l, .int .i64 c, .int .i64 q] 26) = V at *
    go_wp2_with fail
    go_ret
    exact ⟨rfl, HV.out⟩
  by_cases l8 : q ≤ 4000000
  rotate_left
  · rw [foul_of (by omega)]
    go_enter Tryd.func10, Tryd.ntmps10
    go_upto_region 1 with fail
    generalize w.alloc (.cells #[.int .i64 o, .int .i64 h, .int .i64 l, .int .i64 c, .int .i64 q] 26) = V at *
    go_wp2_with fail
    go_ret
    exact ⟨rfl, HV.out⟩
  rw [fine_of ⟨l1, l2, l3, l4, l5, l6, l7, l8⟩]
  go_enter Tryd.func10, Tryd.ntmps10
  go_upto_region 1 with fail
  generalize w.alloc (.cells #[.int .i64 o, .int .i64 h, .int .i64 l, .int .i64 c, .int .i64 q] 26) = V at *
  go_wp2_with fail
  go_ret
  exact ⟨rfl, HV.out⟩
end Go.Proofs.YtkbegagpliiljaaDoor.bar
