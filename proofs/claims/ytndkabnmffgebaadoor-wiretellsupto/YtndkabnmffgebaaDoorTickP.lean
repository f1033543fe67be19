/- Contracts over this seat's translation: tick.Price and tick.Better, at every input. -/
import Derived.Test.YtndkabnmffgebaaDoorSpanChk
namespace Go.Proofs.YtndkabnmffgebaaDoor.tickP
open Go.RowKit Go.Proofs.YtndkabnmffgebaaDoor.spn

def errB (ok : Bool) : Value := if ok = true then .nilIface else .iface 49 (.int .i64 1)
def priceB (p : Int) : Bool := decide (1 ≤ p) && decide (p ≤ 10000)
def sideB (s : Int) : Bool := decide (s = 1) || decide (s = 2)
def betOk (s a b : Int) : Bool := sideB s && (priceB a && priceB b)
def betR (s a b : Int) : Bool := betOk s a b && (if s = 1 then decide (a < b) else decide (b < a))
theorem price_span (p : Int) : [(p, 1, 10000)].any spanB = !priceB p := by
  rw [Bool.eq_iff_iff]; simp [spanB, priceB]
theorem bet_span (s a b : Int) : [(s, 1, 2), (a, 1, 10000), (b, 1, 10000)].any spanB = !betOk s a b := by
  rw [Bool.eq_iff_iff]; simp [spanB, betOk, priceB, sideB]; omega

set_option maxRecDepth 100000 in
set_option maxHeartbeats 1000000 in
theorem tprice_V (V : World) (p : Int) (w : World) (hV : Below V.heap.size V w) :
    Calls Tryd.prog 49 #[.int .i64 p] w fun e w' => e = .returned (errB (priceB p)) ∧ Below V.heap.size V w' := by
  have HS : Hid ([(p, 1, 10000)].any spanB = !priceB p) := price_span p
  have HV : Hid (Below V.heap.size V w) := hV
  clear hV
  cases hk : priceB p
  · rw [hk] at HS
    clear hk
    go_enter Tryd.func49, Tryd.ntmps49
    go_wp2_with fail
    refine (price_any p w).mono ?_
    rintro e w1 ⟨rfl, h1⟩
    go_wp2_with fail
    refine (scheck1 true _ _ _ _ _ rfl HS.out).mono ?_
    rintro e w2 ⟨rfl, h2⟩
    simp only [show errV (rangeE true) = .iface 49 (.int .i64 1) from rfl]
    have hA0 := HV.out
    have hA1 := hA0.trans (h1.mono hA0.size)
    have hA2 := hA1.trans (h2.mono hA1.size)
    have HD : Hid (Below V.heap.size V w2) := hA2
    clear h1 h2 hA0 hA1 hA2
    go_wp2_with fail
    go_ret
    exact ⟨rfl, HD.out⟩
  · rw [hk] at HS
    clear hk
    go_enter Tryd.func49, Tryd.ntmps49
    go_wp2_with fail
    refine (price_any p w).mono ?_
    rintro e w1 ⟨rfl, h1⟩
    go_wp2_with fail
    refine (scheck1 false _ _ _ _ _ rfl HS.out).mono ?_
    rintro e w2 ⟨rfl, h2⟩
    simp only [show errV (rangeE false) = .nilIface from rfl]
    have hA0 := HV.out
    have hA1 := hA0.trans (h1.mono hA0.size)
    have hA2 := hA1.trans (h2.mono hA1.size)
    have HD : Hid (Below V.heap.size V w2) := hA2
    clear h1 h2 hA0 hA1 hA2
    go_wp2_with fail
    go_ret
    exact ⟨rfl, HD.out⟩

end Go.Proofs.YtndkabnmffgebaaDoor.tickP
