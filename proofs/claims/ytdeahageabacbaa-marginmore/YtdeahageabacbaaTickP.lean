/- Contracts over this seat's translation: tick.Price and tick.Better, at every input. -/
import Derived.Test.YtdeahageabacbaaSpanChk
namespace Go.Proofs.Ytdeahageabacbaa.tickP
open Go.RowKit Go.Proofs.Ytdeahageabacbaa.spn

def errB (ok : Bool) : Value := if ok = true then .nilIface else .iface 63 (.int .i64 1)
def priceB (p : Int) : Bool := decide (1 ≤ p) && decide (p ≤ 10000)
def sideB (s : Int) : Bool := decide (s = 1) || decide (s = 2)
def betOk (s a b : Int) : Bool := sideB s && (priceB a && priceB b)
def betR (s a b : Int) : Bool := betOk s a b && (if s = 1 then decide (a < b) else decide (b < a))
theorem price_span (p : Int) : [(p, 1, 10000)].any spanB = !priceB p := by
  rw [Bool.eq_iff_iff]; simp [spanB, priceB]
theorem bet_span (s a b : Int) : [(s, 1, 2), (a, 1, 10000), (b, 1, 10000)].any spanB = !betOk s a b := by
  rw [Bool.eq_iff_iff]; simp [spanB, betOk, priceB, sideB]; omega

set_option maxRecDepth 100000 in
set_option maxHeartbeats 1000000 in
theorem tprice_V (V : World) (p : Int) (w : World) (hV : Below V.heap.size V w) :
    Calls Try.prog 31 #[.int .i64 p] w fun e w' => e = .returned (errB (priceB p)) ∧ Below V.heap.size V w' := by
  have HS : Hid ([(p, 1, 10000)].any spanB = !priceB p) := price_span p
  have HV : Hid (Below V.heap.size V w) := hV
  clear hV
  cases hk : priceB p
  · rw [hk] at HS
    clear hk
    go_enter Try.func31, Try.ntmps31
    go_wp2_with fail
    refine (price_any p w).mono ?_
    rintro e w1 ⟨rfl, h1⟩
    go_wp2_with fail
    refine (scheck1 true _ _ _ _ _ rfl HS.out).mono ?_
    rintro e w2 ⟨rfl, h2⟩
    simp only [show errV (rangeE true) = .iface 63 (.int .i64 1) from rfl]
    have hA0 := HV.out
    have hA1 := hA0.trans (h1.mono hA0.size)
    have hA2 := hA1.trans (h2.mono hA1.size)
    have HD : Hid (Below V.heap.size V w2) := hA2
    clear h1 h2 hA0 hA1 hA2
    go_wp2_with fail
    go_ret
    exact ⟨rfl, HD.out⟩
  · rw [hk] at HS
    clear hk
    go_enter Try.func31, Try.ntmps31
    go_wp2_with fail
    refine (price_any p w).mono ?_
    rintro e w1 ⟨rfl, h1⟩
    go_wp2_with fail
    refine (scheck1 false _ _ _ _ _ rfl HS.out).mono ?_
    rintro e w2 ⟨rfl, h2⟩
    simp only [show errV (rangeE false) = .nilIface from rfl]
    have hA0 := HV.out
    have hA1 := hA0.trans (h1.mono hA0.size)
    have hA2 := hA1.trans (h2.mono hA1.size)
    have HD : Hid (Below V.heap.size V w2) := hA2
    clear h1 h2 hA0 hA1 hA2
    go_wp2_with fail
    go_ret
    exact ⟨rfl, HD.out⟩

set_option maxRecDepth 100000 in
set_option maxHeartbeats 1000000 in
theorem better_V (V : World) (s a b : Int) (w : World) (hV : Below V.heap.size V w) :
    Calls Try.prog 62 #[.int .i64 s, .int .i64 a, .int .i64 b] w fun e w' => e = .returned (.tuple #[.bool (betR s a b), errB (betOk s a b)]) ∧ Below V.heap.size V w' := by
  have HS : Hid ([(s, 1, 2), (a, 1, 10000), (b, 1, 10000)].any spanB = !betOk s a b) := bet_span s a b
  have HV : Hid (Below V.heap.size V w) := hV
  clear hV
  cases hk : betOk s a b
  · rw [hk] at HS
    have e0 : betR s a b = false := by unfold betR; rw [hk]; rfl
    rw [e0]
    clear e0 hk
    go_enter Try.func62, Try.ntmps62
    go_wp2_with fail
    refine (side_any s w).mono ?_
    rintro e w1 ⟨rfl, h1⟩
    go_wp2_with fail
    refine (price_any a w1).mono ?_
    rintro e w2 ⟨rfl, h2⟩
    go_wp2_with fail
    refine (price_any b w2).mono ?_
    rintro e w3 ⟨rfl, h3⟩
    go_wp2_with fail
    refine (scheck3 true _ _ _ _ _ _ _ _ _ _ _ rfl HS.out).mono ?_
    rintro e w4 ⟨rfl, h4⟩
    simp only [show errV (rangeE true) = .iface 63 (.int .i64 1) from rfl]
    have hA0 := HV.out
    have hA1 := hA0.trans (h1.mono hA0.size)
    have hA2 := hA1.trans (h2.mono hA1.size)
    have hA3 := hA2.trans (h3.mono hA2.size)
    have hA4 := hA3.trans (h4.mono hA3.size)
    have HD : Hid (Below V.heap.size V w4) := hA4
    clear h1 h2 h3 h4 hA0 hA1 hA2 hA3 hA4
    go_wp2_with fail
    go_ret2
    exact ⟨rfl, HD.out⟩
  rw [hk] at HS
  by_cases hs : s = 1
  · subst hs
    have e0 : betR 1 a b = decide (a < b) := by unfold betR; rw [hk, if_pos rfl]; rfl
    rw [e0]
    clear e0 hk
    go_enter Try.func62, Try.ntmps62
    go_wp2_with fail
    refine (side_any 1 w).mono ?_
    rintro e w1 ⟨rfl, h1⟩
    go_wp2_with fail
    refine (price_any a w1).mono ?_
    rintro e w2 ⟨rfl, h2⟩
    go_wp2_with fail
    refine (price_any b w2).mono ?_
    rintro e w3 ⟨rfl, h3⟩
    go_wp2_with fail
    refine (scheck3 false _ _ _ _ _ _ _ _ _ _ _ rfl HS.out).mono ?_
    rintro e w4 ⟨rfl, h4⟩
    simp only [show errV (rangeE false) = .nilIface from rfl]
    have hA0 := HV.out
    have hA1 := hA0.trans (h1.mono hA0.size)
    have hA2 := hA1.trans (h2.mono hA1.size)
    have hA3 := hA2.trans (h3.mono hA2.size)
    have hA4 := hA3.trans (h4.mono hA3.size)
    have HD : Hid (Below V.heap.size V w4) := hA4
    clear h1 h2 h3 h4 hA0 hA1 hA2 hA3 hA4
    go_wp2_with fail
    go_ret2
    exact ⟨rfl, HD.out⟩
  · have hs1 : (s == 1) = false := by simp [hs]
    have e0 : betR s a b = decide (b < a) := by unfold betR; rw [hk, if_neg hs]; rfl
    rw [e0]
    clear e0 hk
    go_enter Try.func62, Try.ntmps62
    go_wp2_with fail
    refine (side_any s w).mono ?_
    rintro e w1 ⟨rfl, h1⟩
    go_wp2_with fail
    refine (price_any a w1).mono ?_
    rintro e w2 ⟨rfl, h2⟩
    go_wp2_with fail
    refine (price_any b w2).mono ?_
    rintro e w3 ⟨rfl, h3⟩
    go_wp2_with fail
    refine (scheck3 false _ _ _ _ _ _ _ _ _ _ _ rfl HS.out).mono ?_
    rintro e w4 ⟨rfl, h4⟩
    simp only [show errV (rangeE false) = .nilIface from rfl]
    have hA0 := HV.out
    have hA1 := hA0.trans (h1.mono hA0.size)
    have hA2 := hA1.trans (h2.mono hA1.size)
    have hA3 := hA2.trans (h3.mono hA2.size)
    have hA4 := hA3.trans (h4.mono hA3.size)
    have HD : Hid (Below V.heap.size V w4) := hA4
    clear h1 h2 h3 h4 hA0 hA1 hA2 hA3 hA4
    go_wp2_with fail
    go_ret2
    exact ⟨rfl, HD.out⟩

end Go.Proofs.Ytdeahageabacbaa.tickP
