/-
  The walk of 'pitfloor/pitlaw1.TickTells': it returns true at every five numbers, from any world in which errors.errorType is laid.
-/
import Derived.Test.YtefonkanmdmieaaDoorTickRefS
import Derived.Deep.CutRange
import Derived.Outline
namespace Go.Proofs.YtefonkanmdmieaaDoor.tickTells
open Go.RowKit tickS told

theorem int_eq {a b : Int} (h : a = b) : Value.int .i64 a = Value.int .i64 b := by rw [h]
theorem bool_eq {a b : Bool} (h : a = b) : Value.bool a = Value.bool b := by rw [h]
theorem onOk_of {p n : Int} (h : tickB n = true) : onOk p n = priceB p := by simp [onOk, h]
theorem onOk_no {p n : Int} (h : tickB n = false) : onOk p n = false := by simp [onOk, h]
theorem onR_no {p n : Int} (h : onOk p n = false) : onR p n = false := by simp [onR, h]
theorem onR_ok {p n : Int} (h : onOk p n = true) : onR p n = (p % n == 0) := by simp [onR, h]
theorem onOk_bounds {p n : Int} (h : onOk p n = true) : 1 ≤ p ∧ p ≤ 10000 ∧ 1 ≤ n ∧ n ≤ 100 := by
  simp [onOk, priceB, tickB] at h; omega
theorem rnd_no {p n s : Int} (h : (onOk p n && sideB s) = false) : rndOk p n s = false ∧ rndR p n s = 0 := by
  have : rndOk p n s = false := by simp only [rndOk, h, Bool.false_and]
  exact ⟨this, by simp [rndR, this]⟩
theorem rnd_in {p n s r : Int} (h : (onOk p n && sideB s) = true) (hr : roundI p n s = r) (h1 : 1 ≤ r) (h2 : r ≤ 10000) : rndOk p n s = true ∧ rndR p n s = r := by
  have : rndOk p n s = true := by simp only [rndOk, h, hr, priceB, Bool.true_and]; simp [h1, h2]
  exact ⟨this, by simp [rndR, this, hr]⟩
theorem rnd_out {p n s r : Int} (hr : roundI p n s = r) (h1 : r < 1 ∨ 10000 < r) : rndOk p n s = false ∧ rndR p n s = 0 := by
  have : rndOk p n s = false := by simp only [rndOk, hr, priceB]; simp; omega
  exact ⟨this, by simp [rndR, this]⟩
theorem roundI_buy (p n : Int) : roundI p n 1 = p - p % n := by simp [roundI]
theorem roundI_sell0 {p n : Int} (h : p % n ≤ 0) : roundI p n 2 = p - p % n := by unfold roundI; rw [if_neg (by omega)]
theorem roundI_sell1 {p n : Int} (h : 0 < p % n) : roundI p n 2 = p - p % n + n := by unfold roundI; rw [if_pos ⟨rfl, h⟩]
/-- How far two prices are apart, where they and the parts are right; else 0. -/
def distI (p q m : Int) : Int := if bandOk p q m = true then (if p < q then q - p else p - q) else 0
theorem distI_no {p q m : Int} (h : bandOk p q m = false) : distI p q m = 0 := by simp [distI, h]
theorem distI_lt {p q m : Int} (h : bandOk p q m = true) (h1 : p < q) : distI p q m = q - p := by simp [distI, h, h1]
theorem distI_ge {p q m : Int} (h : bandOk p q m = true) (h1 : q ≤ p) : distI p q m = p - q := by
  unfold distI; rw [if_pos h, if_neg (by omega)]
theorem bandOk_bounds {p q m : Int} (h : bandOk p q m = true) : 1 ≤ p ∧ p ≤ 10000 ∧ 1 ≤ q ∧ q ≤ 10000 ∧ 0 ≤ m ∧ m ≤ 100 := by
  simp [bandOk, priceB] at h; omega
theorem distI_bounds {p q m : Int} (h : bandOk p q m = true) : 0 ≤ distI p q m ∧ distI p q m ≤ 10000 := by
  have := bandOk_bounds h
  by_cases h1 : p < q
  · rw [distI_lt h h1]; omega
  · rw [distI_ge h (by omega)]; omega
theorem bandR_no {p q m : Int} (h : bandOk p q m = false) : bandR p q m = false := by simp [bandR, h]
theorem bandR_ok {p q m : Int} (h : bandOk p q m = true) : bandR p q m = decide (distI p q m * 100 ≤ m * q) := by
  unfold bandR; rw [h, Bool.true_and]
  by_cases h1 : p < q
  · rw [distI_lt h h1, ← bandB_lt (by omega), Int.mul_comm]
  · rw [distI_ge h (by omega), ← bandB_gt (by omega), Int.mul_comm]
theorem betR_no {s p q : Int} (h : betOk s p q = false) : betR s p q = false := by simp [betR, h]
theorem betR_ok {s p q : Int} (h : betOk s p q = true) : betR s p q = aheadB s p q := by
  unfold betR; rw [h, Bool.true_and]
  simp [betOk, sideB] at h
  unfold aheadB
  by_cases h1 : s = 1
  · rw [if_pos h1, if_pos h1]
  · rw [if_neg h1, if_neg h1, if_pos (by omega)]

theorem tick_hi {n : Int} (h : 1 ≤ n) : decide (100 < n) = !tickB n := by
  by_cases h2 : 100 < n <;> simp [tickB, h, h2] <;> omega

set_option maxRecDepth 100000 in
set_option maxHeartbeats 4000000 in
theorem walk (p q n s m : Int) (B w : World) (hI : Inv B w) :
    Calls Tryd.prog 3 #[.int .i64 p, .int .i64 q, .int .i64 n, .int .i64 s, .int .i64 m] w fun e w' => e = .returned (.bool true) ∧ Inv B w' := by
  go_enter Tryd.func3, Tryd.ntmps3
  go_upto_if 37 with (first | (go_at_call 5; refine (ref_price _ _).mono ?_; rintro e w' ⟨rfl, rfl⟩) | (go_at_call 6; refine (ref_side _ _).mono ?_; rintro e w' ⟨rfl, rfl⟩))
  go_cut [11, 14] from 30 to 37 (fun s11 s14 wx => s11 = .bool (priceB p) ∧ s14 = .int .i64 (eN (priceB p)) ∧ Inv B wx)
  case first => as_aux_lemma =>
    cases ha : priceB p
    all_goals
      go_wp2
      go_meet
      exact ⟨by rw [ha], int_eq (by simp [ha, eN]), hI⟩
  case rest =>
  clear hI
  obtain ⟨rfl, rfl, hI⟩ := hcut
  go_upto_region 8 with (first | (go_at_call 8; refine (price_num B _ _ (by assumption)).mono ?_; rintro e w' ⟨rfl, hI'⟩) | (go_at_call 7; refine (error_any B _ _ _ (by assumption)).mono ?_; rintro e w' ⟨rfl, hI'⟩))
  go_cut [47] from 38 to 47 (fun s47 wx => s47 = .bool (!tickB n) ∧ Inv B wx)
  case first => as_aux_lemma =>
    by_cases h1 : n < 1
    · go_wp2
      go_meet
      exact ⟨bool_eq (by simp [tickB]; omega), by assumption⟩
    · go_wp2
      go_meet
      exact ⟨bool_eq (tick_hi (by omega)), by assumption⟩
  case rest =>
  clear hI hI'
  obtain ⟨rfl, hI⟩ := hcut
  go_upto_if 47 with (fail)
  go_cut [14] from 47 to 47 (fun s14 wx => s14 = .int .i64 (eN (onOk p n)) ∧ Inv B wx)
  case first => as_aux_lemma =>
    cases hb : tickB n
    · go_wp2
      go_meet
      exact ⟨int_eq (by simp [onOk_no hb, eN]), by assumption⟩
    · go_wp2
      go_meet
      exact ⟨int_eq (by rw [onOk_of hb]), by assumption⟩
  case rest =>
  clear hI
  obtain ⟨rfl, hI⟩ := hcut
  go_upto_region 10 with (fail)
  go_cut [14, 16] from 48 to 55 (fun s14 s16 wx => s14 = .int .i64 (eN (onOk p n)) ∧ s16 = .bool (onR p n) ∧ Inv B wx)
  case first => as_aux_lemma =>
    have e0 : eN false = 1 := rfl
    have e1 : eN true = 0 := rfl
    cases h : onOk p n
    · go_wp2
      go_meet
      exact ⟨int_eq (by simp [h, eN]), bool_eq (by rw [onR_no h]), by assumption⟩
    · obtain ⟨b1, b2, b3, b4⟩ := onOk_bounds h
      go_wp2
      go_meet
      exact ⟨int_eq (by simp [h, eN]), bool_eq (by rw [onR_ok h]), by assumption⟩
  case rest =>
  clear hI
  obtain ⟨rfl, rfl, hI⟩ := hcut
  go_upto_if 66 with (first | (go_at_call 9; refine (on_num B _ _ _ (by assumption)).mono ?_; rintro e w' ⟨rfl, hI'⟩) | (go_at_call 7; refine (error_any B _ _ _ (by assumption)).mono ?_; rintro e w' ⟨rfl, hI'⟩))
  go_cut [13, 14] from 56 to 66 (fun s13 s14 wx => s13 = .bool (sideB s) ∧ s14 = .int .i64 (eN (onOk p n && sideB s)) ∧ Inv B wx)
  case first => as_aux_lemma =>
    cases hs : sideB s
    · go_wp2
      go_meet
      exact ⟨by rw [hs], int_eq (by simp [hs, eN]), by assumption⟩
    · go_wp2
      go_meet
      exact ⟨by rw [hs], int_eq (by rw [hs, Bool.and_true]), by assumption⟩
  case rest =>
  clear hI hI'
  obtain ⟨rfl, rfl, hI⟩ := hcut
  go_upto_if 68 with (fail)
  go_cut [14, 20] from 67 to 89 (fun s14 s20 wx => s14 = .int .i64 (eN (rndOk p n s)) ∧ s20 = .int .i64 (rndR p n s) ∧ Inv B wx)
  case first => as_aux_lemma =>
    have e0 : eN false = 1 := rfl
    have e1 : eN true = 0 := rfl
    cases h : (onOk p n && sideB s)
    · obtain ⟨r1, r2⟩ := rnd_no h
      have R1 : Hid (rndOk p n s = false) := r1
      have R2 : Hid (rndR p n s = 0) := r2
      clear r1 r2
      go_wp2
      go_meet
      exact ⟨int_eq (by simp [R1.out, eN]), int_eq R2.out.symm, by assumption⟩
    · have h' := h
      rw [Bool.and_eq_true] at h'
      obtain ⟨b1, b2, b3, b4⟩ := onOk_bounds h'.1
      have hs : s = 1 ∨ s = 2 := by simpa [sideB] using h'.2
      have m0 : 0 ≤ p % n := Int.emod_nonneg _ (by omega)
      have m1 : p % n < n := Int.emod_lt_of_pos _ (by omega)
      have H : Hid ((onOk p n && sideB s) = true) := h
      clear h h'
      rcases hs with rfl | rfl
      · by_cases hr : 1 ≤ p - p % n
        · go_wp2
          go_meet
          have f := rnd_in H.out (roundI_buy p n) (by omega) (by omega)
          exact ⟨int_eq (by simp [f.1, eN]), int_eq f.2.symm, by assumption⟩
        · go_wp2
          go_meet
          have f := rnd_out (roundI_buy p n) (by omega)
          exact ⟨int_eq (by simp [f.1, eN]), int_eq f.2.symm, by assumption⟩
      · by_cases hm : 0 < p % n
        · by_cases hr : p - p % n + n ≤ 10000
          · go_wp2
            go_meet
            have f := rnd_in H.out (roundI_sell1 (by omega)) (by omega) (by omega)
            exact ⟨int_eq (by simp [f.1, eN]), int_eq f.2.symm, by assumption⟩
          · go_wp2
            go_meet
            have f := rnd_out (roundI_sell1 (by omega)) (by omega)
            exact ⟨int_eq (by simp [f.1, eN]), int_eq f.2.symm, by assumption⟩
        · go_wp2
          go_meet
          have f := rnd_in H.out (roundI_sell0 (by omega)) (by omega) (by omega)
          exact ⟨int_eq (by simp [f.1, eN]), int_eq f.2.symm, by assumption⟩
  case rest =>
  clear hI
  obtain ⟨rfl, rfl, hI⟩ := hcut
  go_upto_region 26 with (first | (go_at_call 10; refine (round_num B _ _ _ _ (by assumption)).mono ?_; rintro e w' ⟨rfl, hI'⟩) | (go_at_call 7; refine (error_any B _ _ _ (by assumption)).mono ?_; rintro e w' ⟨rfl, hI'⟩))
  go_cut [11, 12, 113] from 90 to 113 (fun s11 s12 s113 wx => s11 = .bool (priceB p) ∧ s12 = .bool (priceB q) ∧ s113 = .bool (!bandOk p q m) ∧ Inv B wx)
  case first => as_aux_lemma =>
    cases ha : priceB p
    · go_wp2
      go_meet
      exact ⟨by rw [ha], rfl, bool_eq (by simp [bandOk, ha]), by assumption⟩
    · cases hb : priceB q
      · go_wp2
        go_meet
        exact ⟨by rw [ha], by rw [hb], bool_eq (by simp [bandOk, hb]), by assumption⟩
      · by_cases h1 : m < 0
        · go_wp2
          go_meet
          exact ⟨by rw [ha], by rw [hb], bool_eq (by simp [bandOk, ha, hb]; omega), by assumption⟩
        · by_cases h2 : 100 < m
          all_goals
            go_wp2
            go_meet
            exact ⟨by rw [ha], by rw [hb], bool_eq (by simp [bandOk, ha, hb]; omega), by assumption⟩
  case rest =>
  clear hI hI'
  obtain ⟨rfl, rfl, rfl, hI⟩ := hcut
  go_upto_if 113 with (fail)
  go_cut [14] from 113 to 113 (fun s14 wx => s14 = .int .i64 (eN (bandOk p q m)) ∧ Inv B wx)
  case first => as_aux_lemma =>
    cases hb : bandOk p q m
    all_goals
      go_wp2
      go_meet
      exact ⟨int_eq (by simp [hb, eN]), by assumption⟩
  case rest =>
  clear hI
  obtain ⟨rfl, hI⟩ := hcut
  go_upto_if 115 with (fail)
  go_cut [14, 23] from 114 to 122 (fun s14 s23 wx => s14 = .int .i64 (eN (bandOk p q m)) ∧ s23 = .int .i64 (distI p q m) ∧ Inv B wx)
  case first => as_aux_lemma =>
    have e0 : eN false = 1 := rfl
    have e1 : eN true = 0 := rfl
    cases hb : bandOk p q m
    · go_wp2
      go_meet
      exact ⟨int_eq (by simp [hb, eN]), int_eq (distI_no hb).symm, by assumption⟩
    · obtain ⟨b1, b2, b3, b4, b5, b6⟩ := bandOk_bounds hb
      by_cases hl : p < q
      · go_wp2
        go_meet
        exact ⟨int_eq (by simp [hb, eN]), int_eq (by rw [distI_lt hb (by omega)]; omega), by assumption⟩
      · go_wp2
        go_meet
        exact ⟨int_eq (by simp [hb, eN]), int_eq (by rw [distI_ge hb (by omega)]), by assumption⟩
  case rest =>
  clear hI
  obtain ⟨rfl, rfl, hI⟩ := hcut
  go_upto_region 35 with (first | (go_at_call 11; refine (band_num B _ _ _ _ (by assumption)).mono ?_; rintro e w' ⟨rfl, hI'⟩) | (go_at_call 7; refine (error_any B _ _ _ (by assumption)).mono ?_; rintro e w' ⟨rfl, hI'⟩))
  go_cut [14, 18, 23, 24, 26] from 123 to 144 (fun s14 _ _ _ s26 wx => s14 = .int .i64 (eN (bandOk p q m)) ∧ s26 = .bool true ∧ Inv B wx)
  case first => as_aux_lemma =>
    have e0 : eN false = 1 := rfl
    have e1 : eN true = 0 := rfl
    cases hb : bandOk p q m
    · have hr := bandR_no hb
      go_wp2
      go_meet
      exact ⟨int_eq (by simp [hb, eN]), rfl, by assumption⟩
    · obtain ⟨b1, b2, b3, b4, b5, b6⟩ := bandOk_bounds hb
      obtain ⟨d1, d2⟩ := distI_bounds hb
      have p1 : 0 ≤ m * q := Int.mul_nonneg b5 (by omega)
      have p2 : m * q ≤ 100 * 10000 := Int.mul_le_mul b6 b4 (by omega) (by omega)
      have hr := bandR_ok hb
      go_wp2
      go_meet
      exact ⟨int_eq (by simp [hb, eN]), rfl, by assumption⟩
  case rest =>
  clear hI hI'
  obtain ⟨rfl, rfl, hI⟩ := hcut
  go_upto_region 37 with (fail)
  go_cut [11, 12, 13, 154] from 145 to 154 (fun _ _ _ s154 wx => s154 = .bool (!betOk s p q) ∧ Inv B wx)
  case first => as_aux_lemma =>
    cases ha : priceB p
    · go_wp2
      go_meet
      exact ⟨bool_eq (by simp [betOk, ha]), by assumption⟩
    · cases hb : priceB q
      · go_wp2
        go_meet
        exact ⟨bool_eq (by simp [betOk, hb]), by assumption⟩
      · cases hc : sideB s
        all_goals
          go_wp2
          go_meet
          exact ⟨bool_eq (by simp [betOk, ha, hb, hc]), by assumption⟩
  case rest =>
  clear hI
  obtain ⟨rfl, hI⟩ := hcut
  go_upto_if 154 with (fail)
  go_cut [14] from 154 to 154 (fun s14 wx => s14 = .int .i64 (eN (betOk s p q)) ∧ Inv B wx)
  case first => as_aux_lemma =>
    cases hb : betOk s p q
    all_goals
      go_wp2
      go_meet
      exact ⟨int_eq (by simp [hb, eN]), by assumption⟩
  case rest =>
  clear hI
  obtain ⟨rfl, hI⟩ := hcut
  go_upto_region 41 with (first | (go_at_call 12; refine (better_num B _ _ _ _ (by assumption)).mono ?_; rintro e w' ⟨rfl, hI'⟩) | (go_at_call 7; refine (error_any B _ _ _ (by assumption)).mono ?_; rintro e w' ⟨rfl, hI'⟩))
  go_cut [14, 18, 27, 29] from 155 to 174 (fun _ _ _ s29 wx => s29 = .bool true ∧ Inv B wx)
  case first => as_aux_lemma =>
    have e0 : eN false = 1 := rfl
    have e1 : eN true = 0 := rfl
    cases hb : betOk s p q
    · have hr := betR_no hb
      go_wp2
      go_meet
      exact ⟨rfl, by assumption⟩
    · have hr := betR_ok hb
      go_wp2_with (go_at_call 13; refine (ref_ahead _ _ _ _).mono ?_; rintro e w' ⟨rfl, rfl⟩)
      go_meet
      exact ⟨rfl, by assumption⟩
  case rest =>
  clear hI hI'
  obtain ⟨rfl, hI⟩ := hcut
  go_wp2
  go_ret
  exact ⟨rfl, hI⟩
end Go.Proofs.YtefonkanmdmieaaDoor.tickTells
