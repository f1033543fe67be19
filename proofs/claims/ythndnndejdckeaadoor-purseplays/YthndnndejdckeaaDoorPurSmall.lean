/- Contracts over this seat's translation: package purse's own helps. -/
import Derived.Test.YthndnndejdckeaaDoorPurMem
namespace Go.Proofs.YthndnndejdckeaaDoor.pur
open Go.RowKit Go.Proofs.YthndnndejdckeaaDoor.spn

theorem of_at (P k : Nat) (who : Int) (w : World) (hw : who = (k : Int) + 1) (hk : k < 9) :
    Calls Tryd.prog 21 #[.pointer (some ⟨P, 0, none⟩), .int .i64 who] w fun e w' => e = .returned (.pointer (some ⟨P, k * 5, none⟩)) ∧ w' = w := by
  have e1 : wrap64 (who - 1) = (k : Int) := by rw [hw, show (k : Int) + 1 - 1 = (k : Int) by omega]; exact wrapP _ (by omega) (by omega)
  have h9 : (k : Int) < 9 := by omega
  have h0 : (0 : Int) ≤ (k : Int) := by omega
  clear hw
  go_enter Tryd.func21, Tryd.ntmps21
  go_wp2_with fail
  go_ret
  exact ⟨by simp, rfl⟩
theorem over_any (a b : Int) (w : World) (h : wrap64 (a + b) = a + b) :
    Calls Tryd.prog 28 #[.int .i64 a, .int .i64 b] w fun e w' => e = .returned (.bool (decide (1000000000 < a + b))) ∧ w' = w := by
  go_enter Tryd.func28, Tryd.ntmps28
  go_wp2_with fail
  go_ret
  exact ⟨rfl, rfl⟩
theorem put_full (P o : Nat) (x n : Int) (w : World) (hc : w.cell? ⟨P, o, none⟩ = some (.int .i64 x)) (h : wrap64 (x + n) = x + n) (hf : 1000000000 < x + n) :
    Calls Tryd.prog 20 #[.pointer (some ⟨P, o, none⟩), .int .i64 n] w fun e w' => e = .returned (errV 4) ∧ w' = w := by
  have HO : Hid (Calls Tryd.prog 28 #[.int .i64 x, .int .i64 n] w fun e w' => e = .returned (.bool true) ∧ w' = w) := by
    have := over_any x n w h
    rw [decide_eq_true hf] at this
    exact this
  clear hf h
  go_enter Tryd.func20, Tryd.ntmps20
  go_wp2_with fail
  refine HO.out.mono ?_
  rintro e w1 ⟨rfl, rfl⟩
  go_wp2_with fail
  go_ret
  exact ⟨rfl, rfl⟩
theorem put_ok (P o : Nat) (x n : Int) (w : World) (hc : w.cell? ⟨P, o, none⟩ = some (.int .i64 x)) (hz : w.frozen? ⟨P, o, none⟩ = false) (h : wrap64 (x + n) = x + n) (hf : ¬ 1000000000 < x + n) :
    Calls Tryd.prog 20 #[.pointer (some ⟨P, o, none⟩), .int .i64 n] w fun e w' => e = .returned (errV 0) ∧ w' = w.setCell ⟨P, o, none⟩ (.int .i64 (x + n)) := by
  have HO : Hid (Calls Tryd.prog 28 #[.int .i64 x, .int .i64 n] w fun e w' => e = .returned (.bool false) ∧ w' = w) := by
    have := over_any x n w h
    rw [decide_eq_false hf] at this
    exact this
  clear hf
  go_enter Tryd.func20, Tryd.ntmps20
  go_wp2_with fail
  refine HO.out.mono ?_
  rintro e w1 ⟨rfl, rfl⟩
  go_wp2_with fail
  go_ret
  exact ⟨rfl, rfl⟩

/-- Who is no trader, or a number that is out of its bounds. -/
def badG (who n : Int) : Bool := [(who, 1, 9), (n, 1, 1000000000)].any spanB
def badH (who c s : Int) : Bool := [(who, 1, 9), (c, 0, 1000000000), (s, 0, 1000000000)].any spanB
theorem badG_no {who n : Int} (h : badG who n = false) : 1 ≤ who ∧ who ≤ 9 ∧ 1 ≤ n ∧ n ≤ 1000000000 := by
  simp [badG, spanB] at h
  omega
theorem badH_no {who c s : Int} (h : badH who c s = false) : 1 ≤ who ∧ who ≤ 9 ∧ 0 ≤ c ∧ c ≤ 1000000000 ∧ 0 ≤ s ∧ s ≤ 1000000000 := by
  simp [badH, spanB] at h
  omega
set_option maxHeartbeats 1000000 in
theorem given_any (who n : Int) (w : World) :
    Calls Tryd.prog 19 #[.int .i64 who, .int .i64 n] w fun e w' => e = .returned (errV (rangeE (badG who n))) ∧ Below w.heap.size w w' := by
  have HR : Hid ([(who, 1, 9), (n, 1, 1000000000)].any spanB = badG who n) := rfl
  generalize badG who n = r at *
  go_enter Tryd.func19, Tryd.ntmps19
  go_wp2_with fail
  refine (who_any who _).mono ?_
  rintro e w1 ⟨rfl, hb1⟩
  have HB1 := hidU hb1
  clear hb1
  go_wp2_with fail
  refine (of_any n 1 1000000000 _).mono ?_
  rintro e w2 ⟨rfl, hb2⟩
  have HB2 := hidU (HB1.out.trans (hb2.mono HB1.out.size))
  clear hb2
  go_wp2_with fail
  refine (scheck2 r _ _ _ _ _ _ _ _ rfl HR.out).mono ?_
  rintro e w3 ⟨rfl, hb3⟩
  have HB3 := hidU (HB2.out.trans (hb3.mono HB2.out.size))
  clear hb3
  go_wp2_with fail
  go_ret
  exact ⟨rfl, HB3.out⟩
set_option maxHeartbeats 1000000 in
theorem held_any (who c s : Int) (w : World) :
    Calls Tryd.prog 22 #[.int .i64 who, .int .i64 c, .int .i64 s] w fun e w' => e = .returned (errV (rangeE (badH who c s))) ∧ Below w.heap.size w w' := by
  have HR : Hid ([(who, 1, 9), (c, 0, 1000000000), (s, 0, 1000000000)].any spanB = badH who c s) := rfl
  generalize badH who c s = r at *
  go_enter Tryd.func22, Tryd.ntmps22
  go_wp2_with fail
  refine (who_any who _).mono ?_
  rintro e w1 ⟨rfl, hb1⟩
  have HB1 := hidU hb1
  clear hb1
  go_wp2_with fail
  refine (of_any c 0 1000000000 _).mono ?_
  rintro e w2 ⟨rfl, hb2⟩
  have HB2 := hidU (HB1.out.trans (hb2.mono HB1.out.size))
  clear hb2
  go_wp2_with fail
  refine (of_any s 0 1000000000 _).mono ?_
  rintro e w3 ⟨rfl, hb3⟩
  have HB3 := hidU (HB2.out.trans (hb3.mono HB2.out.size))
  clear hb3
  go_wp2_with fail
  refine (scheck3 r _ _ _ _ _ _ _ _ _ _ _ rfl HR.out).mono ?_
  rintro e w4 ⟨rfl, hb4⟩
  have HB4 := hidU (HB3.out.trans (hb4.mono HB3.out.size))
  clear hb4
  go_wp2_with fail
  go_ret
  exact ⟨rfl, HB4.out⟩
end Go.Proofs.YthndnndejdckeaaDoor.pur
