/- Plain facts: what all purses have together. -/
import Derived.Test.YthndnndejdckeaaDoorPurTot
import Derived.Test.YthndnndejdckeaaDoorPurTrd
import Derived.Test.YthndnndejdckeaaDoorPurPay
namespace Go.Proofs.YthndnndejdckeaaDoor.pur
open Go.RowKit Go.Proofs.YthndnndejdckeaaDoor.spn

theorem sum_set (g : Pz → Int) : ∀ (ps : List Pz) (k : Nat) (z : Pz), k < ps.length → ((ps.set k z).map g).sum = (ps.map g).sum + (g z - g ps[k]!)
  | [], k, z, h => by simp at h
  | o :: t, 0, z, _ => by
    have e : (o :: t)[0]! = o := rfl
    rw [e, List.set_cons_zero, List.map_cons, List.map_cons, List.sum_cons, List.sum_cons]
    omega
  | o :: t, k + 1, z, h => by
    have hi : k < t.length := by simpa using h
    have e : (o :: t)[k + 1]! = t[k]! := rfl
    rw [e, List.set_cons_succ, List.map_cons, List.map_cons, List.sum_cons, List.sum_cons, sum_set g t k z hi]
    omega
section
variable {ps : List Pz} {k : Nat}
theorem sumC_C (d : Int) (h : k < ps.length) : sumC (on (adC d) k ps) = sumC ps + d := by
  unfold sumC on; rw [sum_set _ ps k _ h]; simp only [adC]; omega
theorem sumC_H (d : Int) (h : k < ps.length) : sumC (on (adH d) k ps) = sumC ps := by
  unfold sumC on; rw [sum_set _ ps k _ h]; simp only [adH]; omega
theorem sumC_S (d : Int) (h : k < ps.length) : sumC (on (adS d) k ps) = sumC ps := by
  unfold sumC on; rw [sum_set _ ps k _ h]; simp only [adS]; omega
theorem sumC_T (d : Int) (h : k < ps.length) : sumC (on (adT d) k ps) = sumC ps := by
  unfold sumC on; rw [sum_set _ ps k _ h]; simp only [adT]; omega
theorem sumS_C (d : Int) (h : k < ps.length) : sumS (on (adC d) k ps) = sumS ps := by
  unfold sumS on; rw [sum_set _ ps k _ h]; simp only [adC]; omega
theorem sumS_H (d : Int) (h : k < ps.length) : sumS (on (adH d) k ps) = sumS ps := by
  unfold sumS on; rw [sum_set _ ps k _ h]; simp only [adH]; omega
theorem sumS_S (d : Int) (h : k < ps.length) : sumS (on (adS d) k ps) = sumS ps + d := by
  unfold sumS on; rw [sum_set _ ps k _ h]; simp only [adS]; omega
theorem sumS_T (d : Int) (h : k < ps.length) : sumS (on (adT d) k ps) = sumS ps := by
  unfold sumS on; rw [sum_set _ ps k _ h]; simp only [adT]; omega
end
theorem ixlt {ps : List Pz} (h : Ok ps) {who : Int} (h1 : 1 ≤ who) (h2 : who ≤ 9) : ix who < ps.length := by rw [h.len]; unfold ix; omega
theorem pay_sum {ps : List Pz} (h : Ok ps) (who n : Int) : sumC (payP ps who n) = sumC ps + (if payE ps who n = 0 then n else 0) ∧ sumS (payP ps who n) = sumS ps := by
  unfold payP
  by_cases e : payE ps who n = 0
  · rw [if_pos e, if_pos e]
    have hb : badG who n = false := by
      unfold payE at e
      by_cases hb : badG who n = true
      · rw [if_pos hb] at e; omega
      · simpa using hb
    have hk := ixlt h (badG_no hb).1 (badG_no hb).2.1
    exact ⟨sumC_C n hk, sumS_C n hk⟩
  · rw [if_neg e, if_neg e]; exact ⟨(Int.add_zero _).symm, rfl⟩
theorem give_sum {ps : List Pz} (h : Ok ps) (who n : Int) : sumC (giveP ps who n) = sumC ps ∧ sumS (giveP ps who n) = sumS ps + (if giveE ps who n = 0 then n else 0) := by
  unfold giveP
  by_cases e : giveE ps who n = 0
  · rw [if_pos e, if_pos e]
    have hb : badG who n = false := by
      unfold giveE at e
      by_cases hb : badG who n = true
      · rw [if_pos hb] at e; omega
      · simpa using hb
    have hk := ixlt h (badG_no hb).1 (badG_no hb).2.1
    exact ⟨sumC_S n hk, sumS_S n hk⟩
  · rw [if_neg e, if_neg e]; exact ⟨rfl, (Int.add_zero _).symm⟩
theorem hold_sum {ps : List Pz} (h : Ok ps) (who c s : Int) : sumC (holdP ps who c s) = sumC ps ∧ sumS (holdP ps who c s) = sumS ps := by
  unfold holdP
  by_cases e : holdE ps who c s = 0
  · rw [if_pos e]
    have hb : badH who c s = false := by
      unfold holdE at e
      by_cases hb : badH who c s = true
      · rw [if_pos hb] at e; omega
      · simpa using hb
    have hk := ixlt h (badH_no hb).1 (badH_no hb).2.1
    have hk2 : ix who < (on (adH c) (ix who) ps).length := by rw [on_len]; exact hk
    rw [sumC_T _ hk2, sumC_H _ hk, sumS_T _ hk2, sumS_H _ hk]
    exact ⟨rfl, rfl⟩
  · rw [if_neg e]; exact ⟨rfl, rfl⟩
theorem free_sum {ps : List Pz} (h : Ok ps) (who c s : Int) : sumC (freeP ps who c s) = sumC ps ∧ sumS (freeP ps who c s) = sumS ps := by
  unfold freeP
  by_cases e : freeE ps who c s = 0
  · rw [if_pos e]
    have hb : badH who c s = false := by
      unfold freeE at e
      by_cases hb : badH who c s = true
      · rw [if_pos hb] at e; omega
      · simpa using hb
    have hk := ixlt h (badH_no hb).1 (badH_no hb).2.1
    have hk2 : ix who < (on (adH (-c)) (ix who) ps).length := by rw [on_len]; exact hk
    rw [sumC_T _ hk2, sumC_H _ hk, sumS_T _ hk2, sumS_H _ hk]
    exact ⟨rfl, rfl⟩
  · rw [if_neg e]; exact ⟨rfl, rfl⟩
theorem trade_sum {ps : List Pz} (h : Ok ps) (f t p q : Int) : sumC (tradeP ps f t p q) = sumC ps ∧ sumS (tradeP ps f t p q) = sumS ps := by
  unfold tradeP
  by_cases e : tradeE ps f t p q = 0
  · rw [if_pos e]
    have hb := badT_no (trade_facts e).1
    have ha := ixlt h hb.1 hb.2.1
    have hb' := ixlt h hb.2.2.1 hb.2.2.2.1
    unfold tradeL
    rw [sumC_C _ (by simp only [on_len]; exact ha), sumC_C _ (by simp only [on_len]; exact hb'), sumC_H _ (by simp only [on_len]; exact hb'), sumC_S _ (by simp only [on_len]; exact hb'), sumC_S _ (by simp only [on_len]; exact ha), sumC_T _ ha]
    rw [sumS_C _ (by simp only [on_len]; exact ha), sumS_C _ (by simp only [on_len]; exact hb'), sumS_H _ (by simp only [on_len]; exact hb'), sumS_S _ (by simp only [on_len]; exact hb'), sumS_S _ (by simp only [on_len]; exact ha), sumS_T _ ha]
    constructor <;> omega
  · rw [if_neg e]; exact ⟨rfl, rfl⟩
theorem sum_all {ps : List Pz} (h : Ok ps) : 0 ≤ sumC ps ∧ sumC ps ≤ 9000000000 ∧ 0 ≤ sumS ps ∧ sumS ps ≤ 9000000000 := by
  have := sum_small h 9 (Nat.le_refl _)
  rw [List.take_of_length_le (by rw [h.len]; exact Nat.le_refl _)] at this
  omega
theorem sum_new : sumC (newL 9) = 0 ∧ sumS (newL 9) = 0 := ⟨rfl, rfl⟩

/-- The first few steps of the law, all told. -/
def one1 : List Pz := payP (newL 9) 1 100
def one2 : List Pz := giveP one1 2 5
def one3 : List Pz := holdP one2 1 60 0
def one4 : List Pz := holdP one3 2 0 3
def one5 : List Pz := tradeP one4 2 1 20 3
theorem one_facts : payE (newL 9) 1 100 = 0 ∧ giveE one1 2 5 = 0 ∧ holdE one2 1 60 0 = 0 ∧ holdE one3 2 0 3 = 0 ∧ tradeE one4 2 1 20 3 = 0 ∧ getZ one5 1 = ⟨1, 40, 0, 3, 0⟩ := by
  refine ⟨by decide, by decide, by decide, by decide, by decide, rfl⟩

/-- Five numbers in a block. -/
def Five (t : TypeId) (w : World) (X : Nat) (vs : List Int) : Prop := vs.length = 5 ∧ w.heap[X]? = some (.cells (vs.map (fun x => Value.int .i64 x)).toArray t (0, 0))
section
variable {t : TypeId} {w w' : World} {X : Nat} {vs : List Int}
theorem Five.cell (h : Five t w X vs) (j : Nat) (hj : j < 5) : w.cell? ⟨X, j, none⟩ = some (.int .i64 vs[j]!) ∧ w.frozen? ⟨X, j, none⟩ = false := by
  refine ⟨?_, frozen_of_row w _ j _ _ h.2⟩
  rw [cell_of_row w X j _ _ (0, 0) h.2, List.getElem?_toArray, List.getElem?_map, List.getElem?_eq_getElem (by rw [h.1]; exact hj), getP vs j (by rw [h.1]; exact hj)]
  rfl
theorem Five.set (h : Five t w X vs) (j : Nat) (x : Int) : Five t (w.setCell ⟨X, j, none⟩ (.int .i64 x)) X (vs.set j x) := by
  refine ⟨by rw [List.length_set]; exact h.1, ?_⟩
  rw [heap_setCell_same w X j _ _ (.int .i64 x) h.2, List.map_set]
  simp
theorem Five.same (h : Five t w X vs) (e : w'.heap[X]? = w.heap[X]?) : Five t w' X vs := ⟨h.1, e.trans h.2⟩
theorem Five.lt (h : Five t w X vs) : X < w.heap.size := (Array.getElem?_eq_some_iff.1 h.2).1
theorem Five.below (h : Five t w X vs) (hb : Below w.heap.size w w') : Five t w' X vs := h.same (hb.block X h.lt)
theorem five_of (h : vs.length = 5) : ∃ a b c d e, vs = [a, b, c, d, e] := by
  match vs, h with
  | [a, b, c, d, e], _ => exact ⟨a, b, c, d, e, rfl⟩
end
end Go.Proofs.YthndnndejdckeaaDoor.pur
