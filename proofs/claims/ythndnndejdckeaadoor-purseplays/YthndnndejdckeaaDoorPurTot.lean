/- Contracts over this seat's translation: purse's Total. -/
import Derived.Test.YthndnndejdckeaaDoorPurGet
import Derived.Test.YthndnndejdckeaaDoorPurNew
import Derived.Deep.MidRow
namespace Go.Proofs.YthndnndejdckeaaDoor.pur
open Go.RowKit Go.Proofs.YthndnndejdckeaaDoor.spn

theorem sumC_take (ps : List Pz) (k : Nat) (h : k < ps.length) : sumC (ps.take (k + 1)) = sumC (ps.take k) + (ps[k]!).cash := by
  unfold sumC
  rw [List.take_succ_eq_append_getElem h, List.map_append, List.sum_append, getP ps k h]
  simp
theorem sumS_take (ps : List Pz) (k : Nat) (h : k < ps.length) : sumS (ps.take (k + 1)) = sumS (ps.take k) + (ps[k]!).stock := by
  unfold sumS
  rw [List.take_succ_eq_append_getElem h, List.map_append, List.sum_append, getP ps k h]
  simp
theorem sum_small {ps : List Pz} (h : Ok ps) : ∀ k, k ≤ 9 → 0 ≤ sumC (ps.take k) ∧ sumC (ps.take k) ≤ 1000000000 * k ∧ 0 ≤ sumS (ps.take k) ∧ sumS (ps.take k) ≤ 1000000000 * k
  | 0, _ => ⟨Int.le_refl 0, Int.le_refl 0, Int.le_refl 0, Int.le_refl 0⟩
  | k + 1, hk => by
    have ih := sum_small h k (by omega)
    have z := h.all k (by omega)
    rw [sumC_take ps k (by rw [h.len]; omega), sumS_take ps k (by rw [h.len]; omega)]
    have h1 := z.h0
    have h2 := z.hc
    have h3 := z.cm
    have h4 := z.t0
    have h5 := z.ts
    have h6 := z.sm
    omega
/-- One purse of all, by value. -/
theorem idx_purse (ps : List Pz) (k : Nat) (h9 : ps.length = 9) (hk : k < 9) : ∀ W, (Instr.index 50 (.agg (flatP ps).toArray) (.int .i64 (k : Int))).run Tryd.prog W = .ok (.agg (pL ps[k]!).toArray) W := by
  intro W
  have e : List.take 5 (List.drop (k * 5) (flatP ps)) = pL ps[k]! := by
    apply List.ext_getElem?
    intro i
    rw [List.getElem?_take]
    by_cases hi : i < 5
    · rw [if_pos hi, List.getElem?_drop, flatP_get ps k (by omega) i hi]
    · rw [if_neg hi, List.getElem?_eq_none (by show 5 ≤ i; omega)]
  simp [Instr.index, run_underlying Tryd.underlying50, asIntOf, go_sem, part, Tryd.isAgg26, Tryd.sizeOf26, hk, e]

theorem infoA : (Tryd.prog.info? 50).map (·.size) = some 45 := by kernel_rfl

set_option maxRecDepth 100000 in
set_option maxHeartbeats 4000000 in
theorem total_any (P : Nat) (ps : List Pz) (w : World) (h : Pu 52 9 w P ps) (ho : Ok ps) :
    Calls Tryd.prog 16 #[.pointer (some ⟨P, 0, none⟩)] w fun e w' => e = .returned (.tuple #[.int .i64 (sumC ps), .int .i64 (sumS ps)]) ∧ Below w.heap.size w w' := by
  have HI : Hid (∀ k : Nat, k < 9 → ∀ W, (Instr.index 50 (.agg (flatP ps).toArray) (.int .i64 (k : Int))).run Tryd.prog W = .ok (.agg #[.int .i64 (ps[k]!).who, .int .i64 (ps[k]!).cash, .int .i64 (ps[k]!).held, .int .i64 (ps[k]!).stock, .int .i64 (ps[k]!).hs]) W) := fun k hk => idx_purse ps k ho.len hk
  have HRG := hidU h.range
  have HLN : Hid ((flatP ps).length = 45) := by show _ = _; rw [flatP_len, ho.len]
  have HT : Hid (∀ k : Nat, k < 9 → sumC (ps.take (k + 1)) = sumC (ps.take k) + (ps[k]!).cash ∧ sumS (ps.take (k + 1)) = sumS (ps.take k) + (ps[k]!).stock) := fun k hk => ⟨sumC_take ps k (by rw [ho.len]; exact hk), sumS_take ps k (by rw [ho.len]; exact hk)⟩
  have HSM := hidU (sum_small ho)
  have HZ : Hid (∀ k : Nat, k < 9 → -1000000000 ≤ (ps[k]!).cash ∧ (ps[k]!).cash ≤ 1000000000 ∧ -1000000000 ≤ (ps[k]!).stock ∧ (ps[k]!).stock ≤ 1000000000) := fun k hk => by
    have z := ho.all k hk
    have h1 := z.h0
    have h2 := z.hc
    have h3 := z.cm
    have h4 := z.t0
    have h5 := z.ts
    have h6 := z.sm
    omega
  have HE : Hid (sumC (ps.take 9) = sumC ps ∧ sumS (ps.take 9) = sumS ps) := by
    show _ ∧ _
    rw [List.take_of_length_le (by rw [ho.len]; exact Nat.le_refl _)]
    exact ⟨rfl, rfl⟩
  clear h ho
  generalize hCS : flatP ps = cs at *
  clear hCS
  go_enter Tryd.func16, Tryd.ntmps16
  go_upto_region 2 with fail
  refine wp_region_lit ?_
  iterate 3 (refine wpList_step fun K hK => ?_; go_simp; refine hK _ _ ?_; clear hK K; try simp only [Act.put, List.setIfInBounds_toArray, List.set_cons_zero, List.set_cons_succ])
  refine wpList_load_mid rfl 50 (.tmp 10) rfl P 0 rfl cs _ HRG.out Tryd.underlying50 rfl (by rw [HLN.out]; exact infoA) ?_
  go_wp2_with fail
  go_loopg [4, 5, 7, 12] 9 (fun gg s4 s5 _ s12 wr => ∃ (kk : Nat) (a b : Int), kk ≤ 9 ∧ 9 - kk ≤ gg ∧ s12 = .int .i64 kk ∧ s4 = .int .i64 a ∧ s5 = .int .i64 b ∧ Aside (sumC (ps.take kk) = a ∧ sumS (ps.take kk) = b ∧ Below w.heap.size w wr))
  case atStart => exact ⟨0, 0, 0, Nat.zero_le _, by omega, rfl, rfl, rfl, rfl, rfl, Below.refl _ _⟩
  case round =>
    obtain ⟨kk, a, b, hkk, hg, rfl, rfl, rfl, HA⟩ := hrel
    by_cases hlt : kk < 9
    · have hltz : (kk : Int) < 9 := by omega
      have hix := HI.out kk hlt
      have HNX := hidU (HT.out kk hlt)
      rw [HA.out.1, HA.out.2.1] at HNX
      have hsm := HSM.out kk hkk
      rw [HA.out.1, HA.out.2.1] at hsm
      have hz := HZ.out kk hlt
      generalize (ps[kk]!).who = x0 at *
      generalize (ps[kk]!).cash = x1 at *
      generalize (ps[kk]!).held = x2 at *
      generalize (ps[kk]!).stock = x3 at *
      generalize (ps[kk]!).hs = x4 at *
      have w1 : wrap64 (a + x1) = a + x1 := wrapP _ (by omega) (by omega)
      have w2 : wrap64 (b + x3) = b + x3 := wrapP _ (by clear w1; omega) (by clear w1; omega)
      have es := succP kk (by clear w1 w2; omega)
      have HM : Hid (kk < 9 ∧ 9 - kk ≤ gk) := ⟨hlt, hg⟩
      have hR := heap_alloc_new wr (.cells #[.int .i64 0, .int .i64 0, .int .i64 0, .int .i64 0, .int .i64 0] 26)
      have HB := hidU HA.out.2.2
      have HBA := hidU (HA.out.2.2.alloc HA.out.2.2.size (.cells #[.int .i64 x0, .int .i64 x1, .int .i64 x2, .int .i64 x3, .int .i64 x4] 26))
      clear HA hkk hg hlt hsm hz
      go_wp2_with fail
      go_roundg (9 - (kk + 1))
      case measure => have := HM.out; clear es w1 w2; omega
      case rel => exact ⟨kk + 1, a + x1, b + x3, HM.out.1, Nat.le_refl _, by first | rfl | exact congrArg (Value.int .i64) es, by first | rfl | exact congrArg (Value.int .i64) w1, by first | rfl | exact congrArg (Value.int .i64) w2, HNX.out.1, HNX.out.2, HBA.out⟩
    · obtain rfl : kk = 9 := by omega
      have hltz : ¬ ((9 : Nat) : Int) < 9 := by omega
      have HA1 := hidU HA.out
      clear HA hkk hg hlt
      go_wp2_with fail
      go_ret2
      have h1 := HA1.out
      rw [HE.out.1, HE.out.2] at h1
      obtain ⟨rfl, rfl, h3⟩ := h1
      exact ⟨rfl, h3⟩
end Go.Proofs.YthndnndejdckeaaDoor.pur
