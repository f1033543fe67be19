/- Contracts over this seat's translation: purse.New. -/
import Derived.Test.YthndnndejdckeaaDoorPurPure
namespace Go.Proofs.YthndnndejdckeaaDoor.pur
open Go.RowKit Go.Proofs.YthndnndejdckeaaDoor.spn

/-- Empty purses, of which so many have their number. -/
def newL (k : Nat) : List Pz := (List.range 9).map fun i => ⟨if i < k then (i : Int) + 1 else 0, 0, 0, 0, 0⟩
theorem newL_len (k : Nat) : (newL k).length = 9 := by unfold newL; simp
theorem newL_at (k i : Nat) (h : i < 9) : (newL k)[i]! = ⟨if i < k then (i : Int) + 1 else 0, 0, 0, 0, 0⟩ := by
  rw [getP _ i (by rw [newL_len]; exact h)]
  unfold newL
  rw [List.getElem_map, List.getElem_range]
theorem newL_next (k : Nat) (h : k < 9) : (newL k).set k ⟨(k : Int) + 1, 0, 0, 0, 0⟩ = newL (k + 1) := by
  refine ext9 (n := 9) (by rw [List.length_set, newL_len]) (newL_len _) (fun i hi => ?_)
  rw [newL_at _ i hi, getP _ i (by rw [List.length_set, newL_len]; exact hi)]
  by_cases e : i = k
  · subst e
    rw [List.getElem_set_self, if_pos (by omega)]
  · rw [List.getElem_set_ne (fun x => e x.symm), ← getP _ i (by rw [newL_len]; exact hi), newL_at k i hi]
    by_cases h1 : i < k
    · rw [if_pos h1, if_pos (by omega)]
    · rw [if_neg h1, if_neg (by omega)]
theorem newL_ok : Ok (newL 9) := by
  refine ⟨newL_len 9, fun i hi => ?_⟩
  rw [newL_at 9 i hi, if_pos hi]
  exact ⟨rfl, Int.le_refl 0, Int.le_refl 0, (by show (0 : Int) ≤ 1000000000; decide), Int.le_refl 0, Int.le_refl 0, (by show (0 : Int) ≤ 1000000000; decide)⟩
theorem succP (i : Nat) (h : i ≤ 5000) : wrap64 ((i : Int) + 1) = ((i + 1 : Nat) : Int) := by unfold wrap64; omega

theorem zero45 : (flatP (newL 0)).toArray = #[.int .i64 0, .int .i64 0, .int .i64 0, .int .i64 0, .int .i64 0, .int .i64 0, .int .i64 0, .int .i64 0, .int .i64 0, .int .i64 0, .int .i64 0, .int .i64 0, .int .i64 0, .int .i64 0, .int .i64 0, .int .i64 0, .int .i64 0, .int .i64 0, .int .i64 0, .int .i64 0, .int .i64 0, .int .i64 0, .int .i64 0, .int .i64 0, .int .i64 0, .int .i64 0, .int .i64 0, .int .i64 0, .int .i64 0, .int .i64 0, .int .i64 0, .int .i64 0, .int .i64 0, .int .i64 0, .int .i64 0, .int .i64 0, .int .i64 0, .int .i64 0, .int .i64 0, .int .i64 0, .int .i64 0, .int .i64 0, .int .i64 0, .int .i64 0, .int .i64 0] := rfl
set_option maxRecDepth 100000 in
set_option maxHeartbeats 2000000 in
theorem new_any (w : World) :
    Calls Tryd.prog 4 #[] w fun e w' => e = .returned (.pointer (some ⟨w.heap.size, 0, none⟩)) ∧ Pu 52 9 w' w.heap.size (newL 9) ∧ Below w.heap.size w w' := by
  have HB0 := hidU ((Below.refl _ w).alloc (Nat.le_refl _) (.cells #[.int .i64 0, .int .i64 0, .int .i64 0, .int .i64 0, .int .i64 0, .int .i64 0, .int .i64 0, .int .i64 0, .int .i64 0, .int .i64 0, .int .i64 0, .int .i64 0, .int .i64 0, .int .i64 0, .int .i64 0, .int .i64 0, .int .i64 0, .int .i64 0, .int .i64 0, .int .i64 0, .int .i64 0, .int .i64 0, .int .i64 0, .int .i64 0, .int .i64 0, .int .i64 0, .int .i64 0, .int .i64 0, .int .i64 0, .int .i64 0, .int .i64 0, .int .i64 0, .int .i64 0, .int .i64 0, .int .i64 0, .int .i64 0, .int .i64 0, .int .i64 0, .int .i64 0, .int .i64 0, .int .i64 0, .int .i64 0, .int .i64 0, .int .i64 0, .int .i64 0] 52))
  have HP0 : Hid (Pu 52 9 (w.alloc (.cells #[.int .i64 0, .int .i64 0, .int .i64 0, .int .i64 0, .int .i64 0, .int .i64 0, .int .i64 0, .int .i64 0, .int .i64 0, .int .i64 0, .int .i64 0, .int .i64 0, .int .i64 0, .int .i64 0, .int .i64 0, .int .i64 0, .int .i64 0, .int .i64 0, .int .i64 0, .int .i64 0, .int .i64 0, .int .i64 0, .int .i64 0, .int .i64 0, .int .i64 0, .int .i64 0, .int .i64 0, .int .i64 0, .int .i64 0, .int .i64 0, .int .i64 0, .int .i64 0, .int .i64 0, .int .i64 0, .int .i64 0, .int .i64 0, .int .i64 0, .int .i64 0, .int .i64 0, .int .i64 0, .int .i64 0, .int .i64 0, .int .i64 0, .int .i64 0, .int .i64 0] 52)) w.heap.size (newL 0)) := ⟨newL_len 0, by rw [zero45]; exact heap_alloc_new w _⟩
  obtain ⟨P, hP⟩ : ∃ P, P = w.heap.size := ⟨_, rfl⟩
  have HP : Hid (w.heap.size ≤ P) := Nat.le_of_eq hP.symm
  rw [← hP] at HP0
  go_enter Tryd.func4, Tryd.ntmps4
  go_wp2_with fail
  simp only [← hP]
  generalize w.alloc (.cells #[.int .i64 0, .int .i64 0, .int .i64 0, .int .i64 0, .int .i64 0, .int .i64 0, .int .i64 0, .int .i64 0, .int .i64 0, .int .i64 0, .int .i64 0, .int .i64 0, .int .i64 0, .int .i64 0, .int .i64 0, .int .i64 0, .int .i64 0, .int .i64 0, .int .i64 0, .int .i64 0, .int .i64 0, .int .i64 0, .int .i64 0, .int .i64 0, .int .i64 0, .int .i64 0, .int .i64 0, .int .i64 0, .int .i64 0, .int .i64 0, .int .i64 0, .int .i64 0, .int .i64 0, .int .i64 0, .int .i64 0, .int .i64 0, .int .i64 0, .int .i64 0, .int .i64 0, .int .i64 0, .int .i64 0, .int .i64 0, .int .i64 0, .int .i64 0, .int .i64 0] 52) = w0 at *
  have HQ : Hid (w.heap.size = P) := hP.symm
  clear hP
  go_loopg [2, 5] 9 (fun gg _ s5 wr => ∃ kk : Nat, kk ≤ 9 ∧ 9 - kk ≤ gg ∧ s5 = .int .i64 kk ∧ Aside (Pu 52 9 wr P (newL kk) ∧ Below w.heap.size w wr))
  case atStart => exact ⟨0, Nat.zero_le _, by omega, rfl, HP0.out, HB0.out⟩
  case round =>
    obtain ⟨kk, hkk, hg, rfl, HA⟩ := hrel
    by_cases hlt : kk < 9
    · have hltz : (kk : Int) < 9 := by omega
      have h0 : (0 : Int) ≤ (kk : Int) := by omega
      have hc := HA.out.1.cell kk hlt 0 _ rfl
      have hf := HA.out.1.froz (kk * 5)
      simp only [Nat.add_zero] at hc
      generalize ((newL kk)[kk]!).who = x at hc
      have HN : Hid (Pu 52 9 (wr.setCell ⟨P, kk * 5, none⟩ (.int .i64 ((kk : Int) + 1))) P (newL (kk + 1))) := by
        have := HA.out.1.put kk 0 (.int .i64 ((kk : Int) + 1)) ⟨(kk : Int) + 1, 0, 0, 0, 0⟩ hlt (by omega) (by rw [newL_at kk kk hlt]; rfl)
        rw [newL_next kk hlt] at this
        exact this
      have HBN := hidU (belG HA.out.2 (grC wr P (kk * 5) (.int .i64 ((kk : Int) + 1))) HA.out.2.size HP.out)
      have HM : Hid (kk < 9 ∧ 9 - kk ≤ gk) := ⟨hlt, hg⟩
      have es := succP kk (by omega)
      have es2 : wrap64 ((kk : Int) + 1) = (kk : Int) + 1 := wrapP _ (by clear es; omega) (by clear es; omega)
      clear HA hkk hg hlt es
      go_wp2_with fail
      go_roundg (9 - (kk + 1))
      case measure => have := HM.out; clear es2; omega
      case rel => exact ⟨kk + 1, HM.out.1, Nat.le_refl _, by first | rfl | exact congrArg (Value.int .i64) es2, HN.out, HBN.out⟩
    · obtain rfl : kk = 9 := by omega
      have hltz : ¬ ((9 : Nat) : Int) < 9 := by omega
      have HA1 := hidU HA.out
      clear HA hkk hg hlt
      go_wp2_with fail
      go_ret
      have hq := HQ.out
      subst hq
      exact ⟨rfl, HA1.out.1, HA1.out.2⟩
end Go.Proofs.YthndnndejdckeaaDoor.pur
