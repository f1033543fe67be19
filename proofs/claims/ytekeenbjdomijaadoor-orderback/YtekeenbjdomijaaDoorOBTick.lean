/- Contracts over this seat's translation: tick.Better at every input; what OrderBack's first text says. -/
import Derived.Test.YtekeenbjdomijaaDoorOrdParse
namespace Go.Proofs.YtekeenbjdomijaaDoor.ord
open Go.RowKit

theorem bk_side_ok (s : Int) (w : World) (h : s = 1 ∨ s = 2) :
    Calls Tryd.prog 17 #[.int .i64 s] w fun e w' => e = .returned .nilIface ∧ w' = w := by
  rcases h with rfl | rfl
  all_goals
    go_enter Tryd.func17, Tryd.ntmps17
    go_wp2
    go_ret
    exact ⟨rfl, rfl⟩
theorem bk_side_no (s : Int) (w : World) (h1 : (s != 1) = true) (h2 : (s != 2) = true) :
    Calls Tryd.prog 17 #[.int .i64 s] w fun e w' => e = .returned (.iface 40 (.int .i64 1)) ∧ w' = w := by
  go_enter Tryd.func17, Tryd.ntmps17
  go_wp2
  go_ret
  exact ⟨rfl, rfl⟩
theorem bk_both_ok (a b : Int) (w : World) (h1 : prB a = true) (h2 : prB b = true) :
    Calls Tryd.prog 18 #[.int .i64 a, .int .i64 b] w fun e w' => e = .returned .nilIface ∧ w' = w := by
  have H1 : Hid (prB a = true) := h1
  have H2 : Hid (prB b = true) := h2
  clear h1 h2
  go_enter Tryd.func18, Tryd.ntmps18
  go_wp2_with fail
  refine (price_ok _ _ H1.out).mono ?_
  rintro e w' ⟨rfl, rfl⟩
  go_wp2_with fail
  refine (price_ok _ _ H2.out).mono ?_
  rintro e w' ⟨rfl, rfl⟩
  go_wp2_with fail
  go_ret
  exact ⟨rfl, rfl⟩
theorem bk_both_no (a b : Int) (w : World) (h : (prB a && prB b) = false) :
    Calls Tryd.prog 18 #[.int .i64 a, .int .i64 b] w fun e w' => e = .returned (.iface 40 (.int .i64 1)) ∧ w' = w := by
  cases h1 : prB a
  · have H1 : Hid (prB a = false) := h1
    clear h h1
    go_enter Tryd.func18, Tryd.ntmps18
    go_wp2_with fail
    refine (price_no _ _ H1.out).mono ?_
    rintro e w' ⟨rfl, rfl⟩
    go_wp2_with fail
    go_ret
    exact ⟨rfl, rfl⟩
  · rw [h1, Bool.true_and] at h
    have H1 : Hid (prB a = true) := h1
    have H2 : Hid (prB b = false) := h
    clear h h1
    go_enter Tryd.func18, Tryd.ntmps18
    go_wp2_with fail
    refine (price_ok _ _ H1.out).mono ?_
    rintro e w' ⟨rfl, rfl⟩
    go_wp2_with fail
    refine (price_no _ _ H2.out).mono ?_
    rintro e w' ⟨rfl, rfl⟩
    go_wp2_with fail
    go_ret
    exact ⟨rfl, rfl⟩

/-- Is it asked which of two prices is the better one as it may be? -/
def bkOk (s a b : Int) : Bool := (decide (s = 1) || decide (s = 2)) && (prB a && prB b)
def bkB (s a b : Int) : Bool := if s = 1 then decide (a < b) else decide (b < a)

theorem better_bad (s a b : Int) (w : World) (h : bkOk s a b = false) :
    Calls Tryd.prog 8 #[.int .i64 s, .int .i64 a, .int .i64 b] w fun e w' => e = .returned (.tuple #[.bool false, .iface 40 (.int .i64 1)]) ∧ w' = w := by
  by_cases hs : s = 1 ∨ s = 2
  · have hp : (prB a && prB b) = false := by
      unfold bkOk at h
      have : (decide (s = 1) || decide (s = 2)) = true := by simpa using hs
      rw [this, Bool.true_and] at h
      exact h
    have HP : Hid ((prB a && prB b) = false) := hp
    clear h hp
    go_enter Tryd.func8, Tryd.ntmps8
    go_wp2_with fail
    refine (bk_side_ok _ _ hs).mono ?_
    rintro e w' ⟨rfl, rfl⟩
    go_wp2_with fail
    refine (bk_both_no _ _ _ HP.out).mono ?_
    rintro e w' ⟨rfl, rfl⟩
    go_wp2_with fail
    go_ret2
    exact ⟨rfl, rfl⟩
  · have h1 : (s != 1) = true := by rw [bne_iff_ne]; omega
    have h2 : (s != 2) = true := by rw [bne_iff_ne]; omega
    clear h hs
    go_enter Tryd.func8, Tryd.ntmps8
    go_wp2_with fail
    refine (bk_side_no _ _ h1 h2).mono ?_
    rintro e w' ⟨rfl, rfl⟩
    go_wp2_with fail
    go_ret2
    exact ⟨rfl, rfl⟩

theorem better_fine (s a b : Int) (w : World) (h : bkOk s a b = true) :
    Calls Tryd.prog 8 #[.int .i64 s, .int .i64 a, .int .i64 b] w fun e w' => e = .returned (.tuple #[.bool (bkB s a b), .nilIface]) ∧ w' = w := by
  unfold bkOk at h
  simp only [Bool.and_eq_true, Bool.or_eq_true, decide_eq_true_eq] at h
  obtain ⟨hs, ha, hb⟩ := h
  have HA : Hid (prB a = true) := ha
  have HB : Hid (prB b = true) := hb
  clear ha hb
  rcases hs with rfl | rfl
  · show Calls _ _ _ _ fun e w' => e = .returned (.tuple #[.bool (decide (a < b)), .nilIface]) ∧ w' = w
    go_enter Tryd.func8, Tryd.ntmps8
    go_wp2_with fail
    refine (bk_side_ok _ _ (by decide)).mono ?_
    rintro e w' ⟨rfl, rfl⟩
    go_wp2_with fail
    refine (bk_both_ok _ _ _ HA.out HB.out).mono ?_
    rintro e w' ⟨rfl, rfl⟩
    go_wp2_with fail
    go_ret2
    exact ⟨rfl, rfl⟩
  · show Calls _ _ _ _ fun e w' => e = .returned (.tuple #[.bool (decide (b < a)), .nilIface]) ∧ w' = w
    go_enter Tryd.func8, Tryd.ntmps8
    go_wp2_with fail
    refine (bk_side_ok _ _ (by decide)).mono ?_
    rintro e w' ⟨rfl, rfl⟩
    go_wp2_with fail
    refine (bk_both_ok _ _ _ HA.out HB.out).mono ?_
    rintro e w' ⟨rfl, rfl⟩
    go_wp2_with fail
    go_ret2
    exact ⟨rfl, rfl⟩

theorem bk_dec {n : Nat} (h : 1 ≤ n) (l : List UInt8) (hl : numOk l = true) (hv : val l = n) : dec n = l := by
  rw [dec_pos (by omega), Int.toNat_natCast, ← hv]
  exact (numOk_val hl).1

theorem bk_txt : txt ⟨7, 1, 1, 1, 100, 20, 5, 0⟩ = [55, 32, 49, 32, 98, 117, 121, 32, 108, 105, 109, 105, 116, 32, 50, 48, 32, 97, 116, 32, 49, 48, 48, 32, 115, 104, 111, 119, 32, 53] := by
  have d7 : dec 7 = [55] := bk_dec (n := 7) (by omega) _ (by decide) (by decide)
  have d1 : dec 1 = [49] := bk_dec (n := 1) (by omega) _ (by decide) (by decide)
  have d20 : dec 20 = [50, 48] := bk_dec (n := 20) (by omega) _ (by decide) (by decide)
  have d100 : dec 100 = [49, 48, 48] := bk_dec (n := 100) (by omega) _ (by decide) (by decide)
  have d5 : dec 5 = [53] := bk_dec (n := 5) (by omega) _ (by decide) (by decide)
  unfold txt wordsOf headWs tailWs
  simp only [d7, d1, d20, more, d100, d5]
  rfl

theorem bk_fact (w : World) (hL : Laid w) (hE : ErrL w) :
    Calls Tryd.prog 5 #[.string ⟨#[55, 32, 49, 32, 98, 117, 121, 32, 108, 105, 109, 105, 116, 32, 50, 48, 32, 97, 116, 32, 49, 48, 48, 32, 115, 104, 111, 119, 32, 53]⟩] w
      fun e w' => e = .returned (.tuple #[.agg #[.int .i64 7, .int .i64 1, .int .i64 1, .int .i64 1, .int .i64 100, .int .i64 20, .int .i64 5, .int .i64 0], .nilIface]) ∧ Below w.heap.size w w' := by
  have hc : chk ⟨7, 1, 1, 1, 100, 20, 5, 0⟩ = 0 := by decide
  have h := rd_txt hc
  rw [bk_txt] at h
  have p := parse_any ⟨#[55, 32, 49, 32, 98, 117, 121, 32, 108, 105, 109, 105, 116, 32, 50, 48, 32, 97, 116, 32, 49, 48, 48, 32, 115, 104, 111, 119, 32, 53]⟩ w hL hE (by decide)
  rw [h.1, h.2] at p
  exact p

end Go.Proofs.YtekeenbjdomijaaDoor.ord
