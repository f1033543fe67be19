/- Contracts over this seat's translation: package margin's checkTrade. -/
import Derived.Test.YtdeahageabacbaaMrgFor
namespace Go.Proofs.Ytdeahageabacbaa.mrg
open Go.RowKit Go.Proofs.Ytdeahageabacbaa.mee
open Go.Proofs.Ytdeahageabacbaa.spn (keeps bcell spanB spanV of_any qty_any price_any side_any scheck1 scheck2 rangeE)
open Go.Proofs.Ytdeahageabacbaa.ord (O oV chk errV errV_zero errV_of check_any mB mE meets_any bal prB)


set_option maxRecDepth 100000 in
set_option maxHeartbeats 2000000 in
theorem ctr_bad (a b c d p q s t t1 t2 t3 t4 t5 t6 : Int) (w : World) (k : Int) (hm : ∀ W, Calls Try.prog 38 #[.agg #[.int .i64 a, .int .i64 b, .int .i64 c, .int .i64 d, .int .i64 p, .int .i64 q, .int .i64 s, .int .i64 t], .int .i64 t5] W fun e w' => e = .returned (.tuple #[.bool false, .iface 63 (.int .i64 k)]) ∧ Below W.heap.size W w') :
    Calls Try.prog 19 #[.agg #[.int .i64 a, .int .i64 b, .int .i64 c, .int .i64 d, .int .i64 p, .int .i64 q, .int .i64 s, .int .i64 t], .agg #[.int .i64 t1, .int .i64 t2, .int .i64 t3, .int .i64 t4, .int .i64 t5, .int .i64 t6]] w fun e w' => e = .returned (.iface 63 (.int .i64 k)) ∧ Below w.heap.size w w' := by
  have HM := hidM hm
  clear hm
  go_enter Try.func19, Try.ntmps19
  go_wp2_with fail
  refine (HM.out _).mono ?_
  rintro e w1 ⟨rfl, hb⟩
  have hW : Below w.heap.size w w1 := (((Below.refl _ _).alloc (Nat.le_refl _) _).alloc (by simp) _).trans (hb.mono (by simp; omega))
  go_wp2_with fail
  go_ret
  exact ⟨rfl, hW⟩

set_option maxRecDepth 100000 in
set_option maxHeartbeats 2000000 in
theorem ctr_qty (a b c d p q s t t1 t2 t3 t4 t5 t6 : Int) (w : World) (m : Bool) (hm : ∀ W, Calls Try.prog 38 #[.agg #[.int .i64 a, .int .i64 b, .int .i64 c, .int .i64 d, .int .i64 p, .int .i64 q, .int .i64 s, .int .i64 t], .int .i64 t5] W fun e w' => e = .returned (.tuple #[.bool m, .nilIface]) ∧ Below W.heap.size W w') (hq : [(t6, 1, 10000)].any spanB = true) :
    Calls Try.prog 19 #[.agg #[.int .i64 a, .int .i64 b, .int .i64 c, .int .i64 d, .int .i64 p, .int .i64 q, .int .i64 s, .int .i64 t], .agg #[.int .i64 t1, .int .i64 t2, .int .i64 t3, .int .i64 t4, .int .i64 t5, .int .i64 t6]] w fun e w' => e = .returned (.iface 63 (.int .i64 1)) ∧ Below w.heap.size w w' := by
  have HM := hidM hm
  have HQ := hidM hq
  clear hm hq
  go_enter Try.func19, Try.ntmps19
  go_wp2_with fail
  refine (HM.out _).mono ?_
  rintro e w1 ⟨rfl, hb⟩
  have hW : Below w.heap.size w w1 := (((Below.refl _ _).alloc (Nat.le_refl _) _).alloc (by simp) _).trans (hb.mono (by simp; omega))
  have d0 : w1.cell? ⟨w.heap.size, 0, none⟩ = some (.int .i64 a) := keeps hb (by simp)
  have d1 : w1.cell? ⟨w.heap.size + 1, 1, none⟩ = some (.int .i64 t2) := keeps hb (by simp)
  have d5 : w1.cell? ⟨w.heap.size + 1, 5, none⟩ = some (.int .i64 t6) := keeps hb (by simp)
  clear hb
  go_wp2_with fail
  refine (qty_any t6 _).mono ?_
  rintro x w2 ⟨rfl, hb2⟩
  have hW2 := hW.trans (hb2.mono hW.size)
  have c0 := keeps hb2 d0
  have c1 := keeps hb2 d1
  clear hb2 d0 d1 d5
  go_wp2_with fail
  refine (scheck1 true _ _ _ _ _ rfl HQ.out).mono ?_
  rintro x w3 ⟨rfl, hb3⟩
  have hW3 := hW2.trans (hb3.mono hW2.size)
  have d0 := keeps hb3 c0
  have d1 := keeps hb3 c1
  clear hb3 c0 c1
  simp only [show spn.errV (rangeE true) = .iface 63 (.int .i64 1) from rfl]
  go_wp2_with fail
  go_ret
  exact ⟨rfl, hW3⟩

set_option maxRecDepth 100000 in
set_option maxHeartbeats 2000000 in
theorem ctr_taker (a b c d p q s t t1 t2 t3 t4 t5 t6 : Int) (w : World) (m : Bool) (hm : ∀ W, Calls Try.prog 38 #[.agg #[.int .i64 a, .int .i64 b, .int .i64 c, .int .i64 d, .int .i64 p, .int .i64 q, .int .i64 s, .int .i64 t], .int .i64 t5] W fun e w' => e = .returned (.tuple #[.bool m, .nilIface]) ∧ Below W.heap.size W w') (hq : [(t6, 1, 10000)].any spanB = false) (hk : (t2 != a) = true) :
    Calls Try.prog 19 #[.agg #[.int .i64 a, .int .i64 b, .int .i64 c, .int .i64 d, .int .i64 p, .int .i64 q, .int .i64 s, .int .i64 t], .agg #[.int .i64 t1, .int .i64 t2, .int .i64 t3, .int .i64 t4, .int .i64 t5, .int .i64 t6]] w fun e w' => e = .returned (.iface 63 (.int .i64 3)) ∧ Below w.heap.size w w' := by
  have HM := hidM hm
  have HQ := hidM hq
  clear hm hq
  go_enter Try.func19, Try.ntmps19
  go_wp2_with fail
  refine (HM.out _).mono ?_
  rintro e w1 ⟨rfl, hb⟩
  have hW : Below w.heap.size w w1 := (((Below.refl _ _).alloc (Nat.le_refl _) _).alloc (by simp) _).trans (hb.mono (by simp; omega))
  have d0 : w1.cell? ⟨w.heap.size, 0, none⟩ = some (.int .i64 a) := keeps hb (by simp)
  have d1 : w1.cell? ⟨w.heap.size + 1, 1, none⟩ = some (.int .i64 t2) := keeps hb (by simp)
  have d5 : w1.cell? ⟨w.heap.size + 1, 5, none⟩ = some (.int .i64 t6) := keeps hb (by simp)
  clear hb
  go_wp2_with fail
  refine (qty_any t6 _).mono ?_
  rintro x w2 ⟨rfl, hb2⟩
  have hW2 := hW.trans (hb2.mono hW.size)
  have c0 := keeps hb2 d0
  have c1 := keeps hb2 d1
  clear hb2 d0 d1 d5
  go_wp2_with fail
  refine (scheck1 false _ _ _ _ _ rfl HQ.out).mono ?_
  rintro x w3 ⟨rfl, hb3⟩
  have hW3 := hW2.trans (hb3.mono hW2.size)
  have d0 := keeps hb3 c0
  have d1 := keeps hb3 c1
  clear hb3 c0 c1
  simp only [show spn.errV (rangeE false) = .nilIface from rfl]
  go_wp2_with fail
  go_ret
  exact ⟨rfl, hW3⟩

set_option maxRecDepth 100000 in
set_option maxHeartbeats 2000000 in
theorem ctr_meet (a b c d p q s t t1 t2 t3 t4 t5 t6 : Int) (w : World) (m : Bool) (hm : ∀ W, Calls Try.prog 38 #[.agg #[.int .i64 a, .int .i64 b, .int .i64 c, .int .i64 d, .int .i64 p, .int .i64 q, .int .i64 s, .int .i64 t], .int .i64 t5] W fun e w' => e = .returned (.tuple #[.bool m, .nilIface]) ∧ Below W.heap.size W w') (hq : [(t6, 1, 10000)].any spanB = false) (hk : (t2 != a) = false) (hmm : m = false) :
    Calls Try.prog 19 #[.agg #[.int .i64 a, .int .i64 b, .int .i64 c, .int .i64 d, .int .i64 p, .int .i64 q, .int .i64 s, .int .i64 t], .agg #[.int .i64 t1, .int .i64 t2, .int .i64 t3, .int .i64 t4, .int .i64 t5, .int .i64 t6]] w fun e w' => e = .returned (.iface 63 (.int .i64 3)) ∧ Below w.heap.size w w' := by
  subst hmm
  have HM := hidM hm
  have HQ := hidM hq
  clear hm hq
  go_enter Try.func19, Try.ntmps19
  go_wp2_with fail
  refine (HM.out _).mono ?_
  rintro e w1 ⟨rfl, hb⟩
  have hW : Below w.heap.size w w1 := (((Below.refl _ _).alloc (Nat.le_refl _) _).alloc (by simp) _).trans (hb.mono (by simp; omega))
  have d0 : w1.cell? ⟨w.heap.size, 0, none⟩ = some (.int .i64 a) := keeps hb (by simp)
  have d1 : w1.cell? ⟨w.heap.size + 1, 1, none⟩ = some (.int .i64 t2) := keeps hb (by simp)
  have d5 : w1.cell? ⟨w.heap.size + 1, 5, none⟩ = some (.int .i64 t6) := keeps hb (by simp)
  clear hb
  go_wp2_with fail
  refine (qty_any t6 _).mono ?_
  rintro x w2 ⟨rfl, hb2⟩
  have hW2 := hW.trans (hb2.mono hW.size)
  have c0 := keeps hb2 d0
  have c1 := keeps hb2 d1
  clear hb2 d0 d1 d5
  go_wp2_with fail
  refine (scheck1 false _ _ _ _ _ rfl HQ.out).mono ?_
  rintro x w3 ⟨rfl, hb3⟩
  have hW3 := hW2.trans (hb3.mono hW2.size)
  have d0 := keeps hb3 c0
  have d1 := keeps hb3 c1
  clear hb3 c0 c1
  simp only [show spn.errV (rangeE false) = .nilIface from rfl]
  go_wp2_with fail
  go_ret
  exact ⟨rfl, hW3⟩

set_option maxRecDepth 100000 in
set_option maxHeartbeats 2000000 in
theorem ctr_fine (a b c d p q s t t1 t2 t3 t4 t5 t6 : Int) (w : World) (m : Bool) (hm : ∀ W, Calls Try.prog 38 #[.agg #[.int .i64 a, .int .i64 b, .int .i64 c, .int .i64 d, .int .i64 p, .int .i64 q, .int .i64 s, .int .i64 t], .int .i64 t5] W fun e w' => e = .returned (.tuple #[.bool m, .nilIface]) ∧ Below W.heap.size W w') (hq : [(t6, 1, 10000)].any spanB = false) (hk : (t2 != a) = false) (hmm : m = true) :
    Calls Try.prog 19 #[.agg #[.int .i64 a, .int .i64 b, .int .i64 c, .int .i64 d, .int .i64 p, .int .i64 q, .int .i64 s, .int .i64 t], .agg #[.int .i64 t1, .int .i64 t2, .int .i64 t3, .int .i64 t4, .int .i64 t5, .int .i64 t6]] w fun e w' => e = .returned (.nilIface) ∧ Below w.heap.size w w' := by
  subst hmm
  have HM := hidM hm
  have HQ := hidM hq
  clear hm hq
  go_enter Try.func19, Try.ntmps19
  go_wp2_with fail
  refine (HM.out _).mono ?_
  rintro e w1 ⟨rfl, hb⟩
  have hW : Below w.heap.size w w1 := (((Below.refl _ _).alloc (Nat.le_refl _) _).alloc (by simp) _).trans (hb.mono (by simp; omega))
  have d0 : w1.cell? ⟨w.heap.size, 0, none⟩ = some (.int .i64 a) := keeps hb (by simp)
  have d1 : w1.cell? ⟨w.heap.size + 1, 1, none⟩ = some (.int .i64 t2) := keeps hb (by simp)
  have d5 : w1.cell? ⟨w.heap.size + 1, 5, none⟩ = some (.int .i64 t6) := keeps hb (by simp)
  clear hb
  go_wp2_with fail
  refine (qty_any t6 _).mono ?_
  rintro x w2 ⟨rfl, hb2⟩
  have hW2 := hW.trans (hb2.mono hW.size)
  have c0 := keeps hb2 d0
  have c1 := keeps hb2 d1
  clear hb2 d0 d1 d5
  go_wp2_with fail
  refine (scheck1 false _ _ _ _ _ rfl HQ.out).mono ?_
  rintro x w3 ⟨rfl, hb3⟩
  have hW3 := hW2.trans (hb3.mono hW2.size)
  have d0 := keeps hb3 c0
  have d1 := keeps hb3 c1
  clear hb3 c0 c1
  simp only [show spn.errV (rangeE false) = .nilIface from rfl]
  go_wp2_with fail
  go_ret
  exact ⟨rfl, hW3⟩

def qtB (n : Int) : Bool := decide (1 ≤ n) && decide (n ≤ 10000)
/-- What is wrong with a trade of an order that is right. -/
def ctE (o : O) (x : T) : Int := if prB x.price && qtB x.qty then (if x.taker = o.id ∧ mB o x.price = true then 0 else 3) else 1
theorem one_any (n : Int) : [(n, 1, 10000)].any spanB = !qtB n := by
  rw [Bool.eq_iff_iff]
  simp [spanB, qtB]
/-- checkTrade, at every trade of an order that is right. -/
theorem ctr_any (o : O) (x : T) (w : World) (h : chk o = 0) :
    Calls Try.prog 19 #[oV o, .agg (tV x).toArray] w fun e w' => e = .returned (errV (ctE o x)) ∧ Below w.heap.size w w' := by
  have hm := fun W => meets_any o x.price W
  have hq := one_any x.qty
  obtain ⟨a, b, c, d, p, q, s, t⟩ := o
  obtain ⟨t1, t2, t3, t4, t5, t6⟩ := x
  unfold ctE
  simp only
  simp only at hm hq
  unfold mE at hm
  rw [if_pos h] at hm
  generalize mB ⟨a, b, c, d, p, q, s, t⟩ t5 = m at *
  cases hp : prB t5
  · rw [hp] at hm
    exact ctr_bad a b c d p q s t t1 t2 t3 t4 t5 t6 w 1 hm
  · rw [hp] at hm
    simp only [if_true] at hm
    cases hqq : qtB t6
    · rw [hqq] at hq
      exact ctr_qty a b c d p q s t t1 t2 t3 t4 t5 t6 w m hm hq
    · rw [hqq] at hq
      simp only [Bool.and_self, if_true]
      by_cases hk : t2 = a
      · cases m
        · rw [if_neg (by simp)]
          exact ctr_meet a b c d p q s t t1 t2 t3 t4 t5 t6 w false hm hq (by simp [hk]) rfl
        · rw [if_pos ⟨hk, rfl⟩]
          exact ctr_fine a b c d p q s t t1 t2 t3 t4 t5 t6 w true hm hq (by simp [hk]) rfl
      · rw [if_neg (fun h => hk h.1)]
        exact ctr_taker a b c d p q s t t1 t2 t3 t4 t5 t6 w m hm hq (by simp [hk])
end Go.Proofs.Ytdeahageabacbaa.mrg
