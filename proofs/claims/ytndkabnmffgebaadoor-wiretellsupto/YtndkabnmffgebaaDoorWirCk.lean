/- Contracts over this seat's translation: package wire's Check. -/
import Derived.Test.YtndkabnmffgebaaDoorWirChk
import Derived.Test.YtndkabnmffgebaaDoorWirEq
namespace Go.Proofs.YtndkabnmffgebaaDoor.wir
open Go.RowKit
open Go.Proofs.YtndkabnmffgebaaDoor.ord (errV errV_zero errV_of)

set_option maxRecDepth 100000 in
set_option maxHeartbeats 1000000 in
theorem check_any (xs : List Int) (hl : xs.length = 11) (w : World) :
    Calls Tryd.prog 6 #[cV xs] w fun e w' => e = .returned (errV (cchk xs)) ∧ Below w.heap.size w w' := by
  obtain ⟨X, hX⟩ : ∃ X, X = w.heap.size := ⟨_, rfl⟩
  obtain ⟨V, hV⟩ : ∃ V, V = w.alloc (.cells (iL xs).toArray 25) := ⟨_, rfl⟩
  have HV : Hid (Below X w V ∧ Cmd V X xs) := by
    subst hV hX
    exact ⟨(Below.refl _ _).alloc (Nat.le_refl _) _, heap_alloc_new _ _⟩
  have HX := hidW hX
  obtain ⟨E, hE⟩ : ∃ E, E = cchk xs := ⟨_, rfl⟩
  obtain ⟨F, hF⟩ : ∃ F, F = wchk xs := ⟨_, rfl⟩
  obtain ⟨zs, hzs⟩ : ∃ zs, zs = zap xs (offs (xs[0]!)) := ⟨_, rfl⟩
  have hzl : zs.length = 11 := by rw [hzs, zap_length]; exact hl
  have HZ := hidW hzl
  have hE2 : E = if F = 0 then (if zs = zero11 then 0 else 3) else F := by rw [hE, hF, hzs]; unfold cchk; rfl
  have HE := hidW hE2
  have HWR : Hid (∀ W, Calls Tryd.prog 19 #[cV xs] W fun e w' => e = .returned (errV F) ∧ Below W.heap.size W w') := fun W => by rw [hF]; exact written_any xs hl W
  have HUN : Hid (∀ W, Calls Tryd.prog 20 #[cV xs] W fun e w' => e = .returned (cV zs) ∧ Below W.heap.size W w') := fun W => by rw [hzs]; exact unwritten_any xs hl W
  rw [← hE, ← hX]
  clear hE hF hzs hE2 hzl
  obtain ⟨c0, c1, c2, c3, c4, c5, c6, c7, c8, c9, c10, hxs⟩ := list11' hl
  have hcv : cV xs = .agg #[.int .i64 c0, .int .i64 c1, .int .i64 c2, .int .i64 c3, .int .i64 c4, .int .i64 c5, .int .i64 c6, .int .i64 c7, .int .i64 c8, .int .i64 c9, .int .i64 c10] := by rw [hxs]; rfl
  have hiv : (iL xs).toArray = #[.int .i64 c0, .int .i64 c1, .int .i64 c2, .int .i64 c3, .int .i64 c4, .int .i64 c5, .int .i64 c6, .int .i64 c7, .int .i64 c8, .int .i64 c9, .int .i64 c10] := by rw [hxs]; rfl
  rw [hiv] at hV
  rw [hcv] at HWR HUN ⊢
  have HCM := hidW HV.out.2
  rw [hxs] at HCM
  obtain ⟨a0, a1, a2, a3, a4, a5, a6, a7, a8, a9, a10⟩ := HCM.out.row
  clear hxs hcv hiv hl
  have HB : Hid (∀ w1, Below V.heap.size V w1 → (Below X w w1 ∧ w1.cell? ⟨X, 0, none⟩ = some (.int .i64 c0) ∧ w1.cell? ⟨X, 1, none⟩ = some (.int .i64 c1) ∧ w1.cell? ⟨X, 2, none⟩ = some (.int .i64 c2) ∧ w1.cell? ⟨X, 3, none⟩ = some (.int .i64 c3) ∧ w1.cell? ⟨X, 4, none⟩ = some (.int .i64 c4) ∧ w1.cell? ⟨X, 5, none⟩ = some (.int .i64 c5) ∧ w1.cell? ⟨X, 6, none⟩ = some (.int .i64 c6) ∧ w1.cell? ⟨X, 7, none⟩ = some (.int .i64 c7) ∧ w1.cell? ⟨X, 8, none⟩ = some (.int .i64 c8) ∧ w1.cell? ⟨X, 9, none⟩ = some (.int .i64 c9) ∧ w1.cell? ⟨X, 10, none⟩ = some (.int .i64 c10))) :=
    fun w1 h => ⟨HV.out.1.trans (h.mono (by have := HCM.out.lt; omega)), (HCM.out.below h).row⟩
  go_enter Tryd.func6, Tryd.ntmps6
  go_upto_region 1 with fail
  simp only [← hX]
  simp only [← hV]
  clear hX hV
  by_cases h0 : F = 0
  · have hnil : errV F = .nilIface := by rw [h0]; exact errV_zero
    have HE1 : Hid (E = if zs = zero11 then 0 else 3) := hidW (by rw [HE.out, if_pos h0])
    simp only [hnil] at HWR
    clear HE hnil h0
    go_upto_region 4 with (go_at_call 19; refine (HWR.out _).mono ?_; rintro e w1 ⟨rfl, hb1⟩)
    obtain ⟨g, b0, b1, b2, b3, b4, b5, b6, b7, b8, b9, b10⟩ := HB.out _ hb1
    have HG := hidW g
    clear g a0 a1 a2 a3 a4 a5 a6 a7 a8 a9 a10
    by_cases hz : zs = zero11
    · subst hz
      rw [if_pos rfl] at HE1
      have HU2 : Hid (∀ W, Calls Tryd.prog 20 #[.agg #[.int .i64 c0, .int .i64 c1, .int .i64 c2, .int .i64 c3, .int .i64 c4, .int .i64 c5, .int .i64 c6, .int .i64 c7, .int .i64 c8, .int .i64 c9, .int .i64 c10]] W fun e w' => e = .returned (.agg #[.int .i64 0, .int .i64 0, .int .i64 0, .int .i64 0, .int .i64 0, .int .i64 0, .int .i64 0, .int .i64 0, .int .i64 0, .int .i64 0, .int .i64 0]) ∧ Below W.heap.size W w') := HUN.out
      have heq : ∀ W, (binOp .neq 25 (.agg #[.int .i64 0, .int .i64 0, .int .i64 0, .int .i64 0, .int .i64 0, .int .i64 0, .int .i64 0, .int .i64 0, .int .i64 0, .int .i64 0, .int .i64 0]) (.agg #[.int .i64 0, .int .i64 0, .int .i64 0, .int .i64 0, .int .i64 0, .int .i64 0, .int .i64 0, .int .i64 0, .int .i64 0, .int .i64 0, .int .i64 0])).run Tryd.prog W = .ok (.bool false) W := fun W => (run_neq_cmd zero11 zero11 rfl rfl W).trans (by simp)
      clear HUN HZ
      go_wp2_with (go_at_call 20; refine (HU2.out _).mono ?_; rintro e w2 ⟨rfl, hb2⟩)
      go_ret
      exact ⟨by rw [HE1.out]; rfl, HG.out.trans (hb2.mono (by rw [HX.out]; exact HG.out.size))⟩
    · rw [if_neg hz] at HE1
      have hqq : ∀ W, (binOp .neq 25 (cV zs) (cV zero11)).run Tryd.prog W = .ok (.bool true) W := fun W => (run_neq_cmd zs zero11 HZ.out rfl W).trans (by simp [hz])
      obtain ⟨z0, z1, z2, z3, z4, z5, z6, z7, z8, z9, z10, rfl⟩ := list11' HZ.out
      have HU2 : Hid (∀ W, Calls Tryd.prog 20 #[.agg #[.int .i64 c0, .int .i64 c1, .int .i64 c2, .int .i64 c3, .int .i64 c4, .int .i64 c5, .int .i64 c6, .int .i64 c7, .int .i64 c8, .int .i64 c9, .int .i64 c10]] W fun e w' => e = .returned (.agg #[.int .i64 z0, .int .i64 z1, .int .i64 z2, .int .i64 z3, .int .i64 z4, .int .i64 z5, .int .i64 z6, .int .i64 z7, .int .i64 z8, .int .i64 z9, .int .i64 z10]) ∧ Below W.heap.size W w') := HUN.out
      have heq : ∀ W, (binOp .neq 25 (.agg #[.int .i64 z0, .int .i64 z1, .int .i64 z2, .int .i64 z3, .int .i64 z4, .int .i64 z5, .int .i64 z6, .int .i64 z7, .int .i64 z8, .int .i64 z9, .int .i64 z10]) (.agg #[.int .i64 0, .int .i64 0, .int .i64 0, .int .i64 0, .int .i64 0, .int .i64 0, .int .i64 0, .int .i64 0, .int .i64 0, .int .i64 0, .int .i64 0])).run Tryd.prog W = .ok (.bool true) W := hqq
      clear HUN hqq hz HZ
      go_wp2_with (go_at_call 20; refine (HU2.out _).mono ?_; rintro e w2 ⟨rfl, hb2⟩)
      go_ret
      exact ⟨by rw [HE1.out]; rfl, HG.out.trans (hb2.mono (by rw [HX.out]; exact HG.out.size))⟩
  · have hne : errV F = .iface 49 (.int .i64 F) := errV_of h0
    have HE1 : Hid (E = F) := hidW (by rw [HE.out, if_neg h0])
    have HEV : Hid (errV F = .iface 49 (.int .i64 F)) := hne
    simp only [hne] at HWR
    clear HE hne
    go_wp2_with (go_at_call 19; refine (HWR.out _).mono ?_; rintro e w1 ⟨rfl, hb1⟩)
    go_ret
    exact ⟨by rw [HE1.out, HEV.out]; rfl, (HB.out _ hb1).1⟩
end Go.Proofs.YtndkabnmffgebaaDoor.wir
