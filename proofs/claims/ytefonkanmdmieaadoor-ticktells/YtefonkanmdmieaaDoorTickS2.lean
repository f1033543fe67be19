/- Contracts over this seat's translation: tick.Price, On, Better, Round, at every input. Written by program (wip/tools/gen_ticks2.py). -/
import Derived.Test.YtefonkanmdmieaaDoorTickS
namespace Go.Proofs.YtefonkanmdmieaaDoor.tickS
open Go.RowKit Go.Proofs.YtefonkanmdmieaaDoor.spn

def tickB (t : Int) : Bool := decide (1 ≤ t) && decide (t ≤ 100)
def sideB (s : Int) : Bool := decide (s = 1) || decide (s = 2)
def onOk (p t : Int) : Bool := priceB p && tickB t
def onR (p t : Int) : Bool := onOk p t && (p % t == 0)
def betOk (s a b : Int) : Bool := sideB s && (priceB a && priceB b)
def betR (s a b : Int) : Bool := betOk s a b && (if s = 1 then decide (a < b) else decide (b < a))
def roundI (p t s : Int) : Int := if s = 2 ∧ 0 < p % t then p - p % t + t else p - p % t
def rndOk (p t s : Int) : Bool := (onOk p t && sideB s) && priceB (roundI p t s)
def rndR (p t s : Int) : Int := if rndOk p t s = true then roundI p t s else 0

theorem oft_any (n : Int) (w : World) :
    Calls Tryd.prog 20 #[.int .i64 n] w fun e w' => e = .returned (.agg #[.int .i64 n, .int .i64 1, .int .i64 100]) ∧ Below w.heap.size w w' := by
  go_enter Tryd.func20, Tryd.ntmps20
  go_wp2
  go_returns
  exact ⟨rfl, ((Below.refl _ _).alloc (Nat.le_refl _) _).alloc (by simp) _⟩
theorem price_span (p : Int) : [(p, 1, 10000)].any spanB = !priceB p := by
  rw [Bool.eq_iff_iff]; simp [spanB, priceB]
theorem on_span (p t : Int) : [(p, 1, 10000), (t, 1, 100)].any spanB = !onOk p t := by
  rw [Bool.eq_iff_iff]; simp [spanB, onOk, priceB, tickB]
theorem bet_span (s a b : Int) : [(s, 1, 2), (a, 1, 10000), (b, 1, 10000)].any spanB = !betOk s a b := by
  rw [Bool.eq_iff_iff]; simp [spanB, betOk, priceB, sideB]; omega
theorem rnd_span (p t s : Int) : [(p, 1, 10000), (t, 1, 100), (s, 1, 2)].any spanB = !(onOk p t && sideB s) := by
  rw [Bool.eq_iff_iff]; simp [spanB, onOk, priceB, tickB, sideB]; omega
theorem on_nums {p t : Int} (h : onOk p t = true) : (1 ≤ p ∧ p ≤ 10000 ∧ 1 ≤ t ∧ t ≤ 100) ∧ 0 ≤ p % t ∧ p % t < t ∧ wrap64 (p % t) = p % t ∧ wrap64 (p - p % t) = p - p % t ∧ wrap64 (p - p % t + t) = p - p % t + t := by
  simp only [onOk, priceB, tickB, Bool.and_eq_true, decide_eq_true_eq] at h
  obtain ⟨⟨h1, h2⟩, h3, h4⟩ := h
  have m0 : 0 ≤ p % t := Int.emod_nonneg _ (by omega)
  have m1 : p % t < t := Int.emod_lt_of_pos _ (by omega)
  generalize p % t = m at *
  refine ⟨⟨h1, h2, h3, h4⟩, m0, m1, ?_, ?_, ?_⟩ <;> (unfold wrap64; omega)

set_option maxRecDepth 100000 in
set_option maxHeartbeats 1000000 in
theorem tprice_V (V : World) (p : Int) (w : World) (hV : Below V.heap.size V w) :
    Calls Tryd.prog 8 #[.int .i64 p] w fun e w' => e = .returned (errB (priceB p)) ∧ Below V.heap.size V w' := by
  have HS : Hid ([(p, 1, 10000)].any spanB = !priceB p) := price_span p
  have HV : Hid (Below V.heap.size V w) := hV
  clear hV
  cases hk : priceB p
  · rw [hk] at HS
    clear hk
    go_enter Tryd.func8, Tryd.ntmps8
    go_wp2_with fail
    refine (price_any p w).mono ?_
    rintro e w1 ⟨rfl, h1⟩
    go_wp2_with fail
    refine (scheck1 true _ _ _ _ _ rfl HS.out).mono ?_
    rintro e w2 ⟨rfl, h2⟩
    simp only [show errV (rangeE true) = .iface 42 (.int .i64 1) from rfl]
    have hA0 := HV.out
    have hA1 := hA0.trans (h1.mono hA0.size)
    have hA2 := hA1.trans (h2.mono hA1.size)
    have HD : Hid (Below V.heap.size V w2) := hA2
    clear h1 h2 hA0 hA1 hA2
    go_wp2_with fail
    go_ret
    exact ⟨rfl, HD.out⟩
  · rw [hk] at HS
    clear hk
    go_enter Tryd.func8, Tryd.ntmps8
    go_wp2_with fail
    refine (price_any p w).mono ?_
    rintro e w1 ⟨rfl, h1⟩
    go_wp2_with fail
    refine (scheck1 false _ _ _ _ _ rfl HS.out).mono ?_
    rintro e w2 ⟨rfl, h2⟩
    simp only [show errV (rangeE false) = .nilIface from rfl]
    have hA0 := HV.out
    have hA1 := hA0.trans (h1.mono hA0.size)
    have hA2 := hA1.trans (h2.mono hA1.size)
    have HD : Hid (Below V.heap.size V w2) := hA2
    clear h1 h2 hA0 hA1 hA2
    go_wp2_with fail
    go_ret
    exact ⟨rfl, HD.out⟩

set_option maxRecDepth 100000 in
set_option maxHeartbeats 1000000 in
theorem on_V (V : World) (p t : Int) (w : World) (hV : Below V.heap.size V w) :
    Calls Tryd.prog 9 #[.int .i64 p, .int .i64 t] w fun e w' => e = .returned (.tuple #[.bool (onR p t), errB (onOk p t)]) ∧ Below V.heap.size V w' := by
  have HS : Hid ([(p, 1, 10000), (t, 1, 100)].any spanB = !onOk p t) := on_span p t
  have HV : Hid (Below V.heap.size V w) := hV
  clear hV
  cases hk : onOk p t
  · rw [hk] at HS
    have e0 : onR p t = false := by unfold onR; rw [hk]; rfl
    rw [e0]
    clear e0 hk
    go_enter Tryd.func9, Tryd.ntmps9
    go_wp2_with fail
    refine (price_any p w).mono ?_
    rintro e w1 ⟨rfl, h1⟩
    go_wp2_with fail
    refine (oft_any t w1).mono ?_
    rintro e w2 ⟨rfl, h2⟩
    go_wp2_with fail
    refine (scheck2 true _ _ _ _ _ _ _ _ rfl HS.out).mono ?_
    rintro e w3 ⟨rfl, h3⟩
    simp only [show errV (rangeE true) = .iface 42 (.int .i64 1) from rfl]
    have hA0 := HV.out
    have hA1 := hA0.trans (h1.mono hA0.size)
    have hA2 := hA1.trans (h2.mono hA1.size)
    have hA3 := hA2.trans (h3.mono hA2.size)
    have HD : Hid (Below V.heap.size V w3) := hA3
    clear h1 h2 h3 hA0 hA1 hA2 hA3
    go_wp2_with fail
    go_ret2
    exact ⟨rfl, HD.out⟩
  · rw [hk] at HS
    obtain ⟨⟨k1, k2, k3, k4⟩, m0, m1, n1, -, -⟩ := on_nums hk
    have e0 : onR p t = (p % t == 0) := by unfold onR; rw [hk]; rfl
    rw [e0]
    clear e0 hk
    go_enter Tryd.func9, Tryd.ntmps9
    go_wp2_with fail
    refine (price_any p w).mono ?_
    rintro e w1 ⟨rfl, h1⟩
    go_wp2_with fail
    refine (oft_any t w1).mono ?_
    rintro e w2 ⟨rfl, h2⟩
    go_wp2_with fail
    refine (scheck2 false _ _ _ _ _ _ _ _ rfl HS.out).mono ?_
    rintro e w3 ⟨rfl, h3⟩
    simp only [show errV (rangeE false) = .nilIface from rfl]
    have hA0 := HV.out
    have hA1 := hA0.trans (h1.mono hA0.size)
    have hA2 := hA1.trans (h2.mono hA1.size)
    have hA3 := hA2.trans (h3.mono hA2.size)
    have HD : Hid (Below V.heap.size V w3) := hA3
    clear h1 h2 h3 hA0 hA1 hA2 hA3
    go_wp2_with fail
    go_ret2
    exact ⟨rfl, HD.out⟩

set_option maxRecDepth 100000 in
set_option maxHeartbeats 1000000 in
theorem better_V (V : World) (s a b : Int) (w : World) (hV : Below V.heap.size V w) :
    Calls Tryd.prog 12 #[.int .i64 s, .int .i64 a, .int .i64 b] w fun e w' => e = .returned (.tuple #[.bool (betR s a b), errB (betOk s a b)]) ∧ Below V.heap.size V w' := by
  have HS : Hid ([(s, 1, 2), (a, 1, 10000), (b, 1, 10000)].any spanB = !betOk s a b) := bet_span s a b
  have HV : Hid (Below V.heap.size V w) := hV
  clear hV
  cases hk : betOk s a b
  · rw [hk] at HS
    have e0 : betR s a b = false := by unfold betR; rw [hk]; rfl
    rw [e0]
    clear e0 hk
    go_enter Tryd.func12, Tryd.ntmps12
    go_wp2_with fail
    refine (side_any s w).mono ?_
    rintro e w1 ⟨rfl, h1⟩
    go_wp2_with fail
    refine (price_any a w1).mono ?_
    rintro e w2 ⟨rfl, h2⟩
    go_wp2_with fail
    refine (price_any b w2).mono ?_
    rintro e w3 ⟨rfl, h3⟩
    go_wp2_with fail
    refine (scheck3 true _ _ _ _ _ _ _ _ _ _ _ rfl HS.out).mono ?_
    rintro e w4 ⟨rfl, h4⟩
    simp only [show errV (rangeE true) = .iface 42 (.int .i64 1) from rfl]
    have hA0 := HV.out
    have hA1 := hA0.trans (h1.mono hA0.size)
    have hA2 := hA1.trans (h2.mono hA1.size)
    have hA3 := hA2.trans (h3.mono hA2.size)
    have hA4 := hA3.trans (h4.mono hA3.size)
    have HD : Hid (Below V.heap.size V w4) := hA4
    clear h1 h2 h3 h4 hA0 hA1 hA2 hA3 hA4
    go_wp2_with fail
    go_ret2
    exact ⟨rfl, HD.out⟩
  rw [hk] at HS
  by_cases hs : s = 1
  · subst hs
    have e0 : betR 1 a b = decide (a < b) := by unfold betR; rw [hk, if_pos rfl]; rfl
    rw [e0]
    clear e0 hk
    go_enter Tryd.func12, Tryd.ntmps12
    go_wp2_with fail
    refine (side_any 1 w).mono ?_
    rintro e w1 ⟨rfl, h1⟩
    go_wp2_with fail
    refine (price_any a w1).mono ?_
    rintro e w2 ⟨rfl, h2⟩
    go_wp2_with fail
    refine (price_any b w2).mono ?_
    rintro e w3 ⟨rfl, h3⟩
    go_wp2_with fail
    refine (scheck3 false _ _ _ _ _ _ _ _ _ _ _ rfl HS.out).mono ?_
    rintro e w4 ⟨rfl, h4⟩
    simp only [show errV (rangeE false) = .nilIface from rfl]
    have hA0 := HV.out
    have hA1 := hA0.trans (h1.mono hA0.size)
    have hA2 := hA1.trans (h2.mono hA1.size)
    have hA3 := hA2.trans (h3.mono hA2.size)
    have hA4 := hA3.trans (h4.mono hA3.size)
    have HD : Hid (Below V.heap.size V w4) := hA4
    clear h1 h2 h3 h4 hA0 hA1 hA2 hA3 hA4
    go_wp2_with fail
    go_ret2
    exact ⟨rfl, HD.out⟩
  · have hs1 : (s == 1) = false := by simp [hs]
    have e0 : betR s a b = decide (b < a) := by unfold betR; rw [hk, if_neg hs]; rfl
    rw [e0]
    clear e0 hk
    go_enter Tryd.func12, Tryd.ntmps12
    go_wp2_with fail
    refine (side_any s w).mono ?_
    rintro e w1 ⟨rfl, h1⟩
    go_wp2_with fail
    refine (price_any a w1).mono ?_
    rintro e w2 ⟨rfl, h2⟩
    go_wp2_with fail
    refine (price_any b w2).mono ?_
    rintro e w3 ⟨rfl, h3⟩
    go_wp2_with fail
    refine (scheck3 false _ _ _ _ _ _ _ _ _ _ _ rfl HS.out).mono ?_
    rintro e w4 ⟨rfl, h4⟩
    simp only [show errV (rangeE false) = .nilIface from rfl]
    have hA0 := HV.out
    have hA1 := hA0.trans (h1.mono hA0.size)
    have hA2 := hA1.trans (h2.mono hA1.size)
    have hA3 := hA2.trans (h3.mono hA2.size)
    have hA4 := hA3.trans (h4.mono hA3.size)
    have HD : Hid (Below V.heap.size V w4) := hA4
    clear h1 h2 h3 h4 hA0 hA1 hA2 hA3 hA4
    go_wp2_with fail
    go_ret2
    exact ⟨rfl, HD.out⟩

set_option maxRecDepth 100000 in
set_option maxHeartbeats 1000000 in
theorem round_V (V : World) (p t s : Int) (w : World) (hV : Below V.heap.size V w) :
    Calls Tryd.prog 10 #[.int .i64 p, .int .i64 t, .int .i64 s] w fun e w' => e = .returned (.tuple #[.int .i64 (rndR p t s), errB (rndOk p t s)]) ∧ Below V.heap.size V w' := by
  have HS : Hid ([(p, 1, 10000), (t, 1, 100), (s, 1, 2)].any spanB = !(onOk p t && sideB s)) := rnd_span p t s
  have HV : Hid (Below V.heap.size V w) := hV
  clear hV
  cases hk : (onOk p t && sideB s)
  · rw [hk] at HS
    have e1 : rndOk p t s = false := by unfold rndOk; rw [hk]; rfl
    have e0 : rndR p t s = 0 := by unfold rndR; rw [e1]; rfl
    rw [e0, e1]
    clear e0 e1 hk
    go_enter Tryd.func10, Tryd.ntmps10
    go_wp2_with fail
    refine (price_any p w).mono ?_
    rintro e w1 ⟨rfl, h1⟩
    go_wp2_with fail
    refine (oft_any t w1).mono ?_
    rintro e w2 ⟨rfl, h2⟩
    go_wp2_with fail
    refine (side_any s w2).mono ?_
    rintro e w3 ⟨rfl, h3⟩
    go_wp2_with fail
    refine (scheck3 true _ _ _ _ _ _ _ _ _ _ _ rfl HS.out).mono ?_
    rintro e w4 ⟨rfl, h4⟩
    simp only [show errV (rangeE true) = .iface 42 (.int .i64 1) from rfl]
    have hA0 := HV.out
    have hA1 := hA0.trans (h1.mono hA0.size)
    have hA2 := hA1.trans (h2.mono hA1.size)
    have hA3 := hA2.trans (h3.mono hA2.size)
    have hA4 := hA3.trans (h4.mono hA3.size)
    have HD : Hid (Below V.heap.size V w4) := hA4
    clear h1 h2 h3 h4 hA0 hA1 hA2 hA3 hA4
    go_wp2_with fail
    go_ret2
    exact ⟨rfl, HD.out⟩
  rw [hk] at HS
  have HK : Hid ((onOk p t && sideB s) = true) := hk
  rw [Bool.and_eq_true] at hk
  obtain ⟨⟨k1, k2, k3, k4⟩, m0, m1, n1, n2, n3⟩ := on_nums hk.1
  have hs12 : s = 1 ∨ s = 2 := by have := hk.2; simpa [sideB] using this
  clear hk
  rcases hs12 with rfl | rfl
  · skip
    have HR : Hid (roundI p t 1 = p - p % t) := by
      show _ = _
      unfold roundI
      first | rw [if_pos (by omega)] | rw [if_neg (by omega)]
    go_enter Tryd.func10, Tryd.ntmps10
    go_wp2_with fail
    refine (price_any p w).mono ?_
    rintro e w1 ⟨rfl, h1⟩
    go_wp2_with fail
    refine (oft_any t w1).mono ?_
    rintro e w2 ⟨rfl, h2⟩
    go_wp2_with fail
    refine (side_any 1 w2).mono ?_
    rintro e w3 ⟨rfl, h3⟩
    go_wp2_with fail
    refine (scheck3 false _ _ _ _ _ _ _ _ _ _ _ rfl HS.out).mono ?_
    rintro e w4 ⟨rfl, h4⟩
    simp only [show errV (rangeE false) = .nilIface from rfl]
    have hA0 := HV.out
    have hA1 := hA0.trans (h1.mono hA0.size)
    have hA2 := hA1.trans (h2.mono hA1.size)
    have hA3 := hA2.trans (h3.mono hA2.size)
    have hA4 := hA3.trans (h4.mono hA3.size)
    have HD : Hid (Below V.heap.size V w4) := hA4
    clear h1 h2 h3 h4 hA0 hA1 hA2 hA3 hA4
    go_wp2_with fail
    refine (tprice_V V _ _ HD.out).mono ?_
    rintro e w5 ⟨rfl, hE⟩
    cases hq : priceB (p - p % t)
    · have e0 : rndR p t 1 = 0 := by unfold rndR rndOk; rw [HR.out, hq]; simp
      have e1 : rndOk p t 1 = false := by unfold rndOk; rw [HR.out, hq]; simp
      simp only [show errB false = .iface 42 (.int .i64 1) from rfl]
      clear hq
      go_wp2_with fail
      go_ret2
      exact ⟨by rw [e0, e1]; rfl, hE⟩
    · have e1 : rndOk p t 1 = true := by unfold rndOk; rw [HR.out, hq, HK.out]; rfl
      have e0 : rndR p t 1 = p - p % t := by unfold rndR; rw [if_pos e1, HR.out]
      simp only [show errB true = .nilIface from rfl]
      clear hq
      go_wp2_with fail
      go_ret2
      exact ⟨by rw [e0, e1]; rfl, hE⟩
  by_cases hm : 0 < p % t
  · have hlt : p - p % t < p := by omega
    have HR : Hid (roundI p t 2 = p - p % t + t) := by
      show _ = _
      unfold roundI
      first | rw [if_pos (by omega)] | rw [if_neg (by omega)]
    go_enter Tryd.func10, Tryd.ntmps10
    go_wp2_with fail
    refine (price_any p w).mono ?_
    rintro e w1 ⟨rfl, h1⟩
    go_wp2_with fail
    refine (oft_any t w1).mono ?_
    rintro e w2 ⟨rfl, h2⟩
    go_wp2_with fail
    refine (side_any 2 w2).mono ?_
    rintro e w3 ⟨rfl, h3⟩
    go_wp2_with fail
    refine (scheck3 false _ _ _ _ _ _ _ _ _ _ _ rfl HS.out).mono ?_
    rintro e w4 ⟨rfl, h4⟩
    simp only [show errV (rangeE false) = .nilIface from rfl]
    have hA0 := HV.out
    have hA1 := hA0.trans (h1.mono hA0.size)
    have hA2 := hA1.trans (h2.mono hA1.size)
    have hA3 := hA2.trans (h3.mono hA2.size)
    have hA4 := hA3.trans (h4.mono hA3.size)
    have HD : Hid (Below V.heap.size V w4) := hA4
    clear h1 h2 h3 h4 hA0 hA1 hA2 hA3 hA4
    go_wp2_with fail
    refine (tprice_V V _ _ HD.out).mono ?_
    rintro e w5 ⟨rfl, hE⟩
    cases hq : priceB (p - p % t + t)
    · have e0 : rndR p t 2 = 0 := by unfold rndR rndOk; rw [HR.out, hq]; simp
      have e1 : rndOk p t 2 = false := by unfold rndOk; rw [HR.out, hq]; simp
      simp only [show errB false = .iface 42 (.int .i64 1) from rfl]
      clear hq
      go_wp2_with fail
      go_ret2
      exact ⟨by rw [e0, e1]; rfl, hE⟩
    · have e1 : rndOk p t 2 = true := by unfold rndOk; rw [HR.out, hq, HK.out]; rfl
      have e0 : rndR p t 2 = p - p % t + t := by unfold rndR; rw [if_pos e1, HR.out]
      simp only [show errB true = .nilIface from rfl]
      clear hq
      go_wp2_with fail
      go_ret2
      exact ⟨by rw [e0, e1]; rfl, hE⟩
  · have hlt : ¬ (p - p % t < p) := by omega
    have HR : Hid (roundI p t 2 = p - p % t) := by
      show _ = _
      unfold roundI
      first | rw [if_pos (by omega)] | rw [if_neg (by omega)]
    go_enter Tryd.func10, Tryd.ntmps10
    go_wp2_with fail
    refine (price_any p w).mono ?_
    rintro e w1 ⟨rfl, h1⟩
    go_wp2_with fail
    refine (oft_any t w1).mono ?_
    rintro e w2 ⟨rfl, h2⟩
    go_wp2_with fail
    refine (side_any 2 w2).mono ?_
    rintro e w3 ⟨rfl, h3⟩
    go_wp2_with fail
    refine (scheck3 false _ _ _ _ _ _ _ _ _ _ _ rfl HS.out).mono ?_
    rintro e w4 ⟨rfl, h4⟩
    simp only [show errV (rangeE false) = .nilIface from rfl]
    have hA0 := HV.out
    have hA1 := hA0.trans (h1.mono hA0.size)
    have hA2 := hA1.trans (h2.mono hA1.size)
    have hA3 := hA2.trans (h3.mono hA2.size)
    have hA4 := hA3.trans (h4.mono hA3.size)
    have HD : Hid (Below V.heap.size V w4) := hA4
    clear h1 h2 h3 h4 hA0 hA1 hA2 hA3 hA4
    go_wp2_with fail
    refine (tprice_V V _ _ HD.out).mono ?_
    rintro e w5 ⟨rfl, hE⟩
    cases hq : priceB (p - p % t)
    · have e0 : rndR p t 2 = 0 := by unfold rndR rndOk; rw [HR.out, hq]; simp
      have e1 : rndOk p t 2 = false := by unfold rndOk; rw [HR.out, hq]; simp
      simp only [show errB false = .iface 42 (.int .i64 1) from rfl]
      clear hq
      go_wp2_with fail
      go_ret2
      exact ⟨by rw [e0, e1]; rfl, hE⟩
    · have e1 : rndOk p t 2 = true := by unfold rndOk; rw [HR.out, hq, HK.out]; rfl
      have e0 : rndR p t 2 = p - p % t := by unfold rndR; rw [if_pos e1, HR.out]
      simp only [show errB true = .nilIface from rfl]
      clear hq
      go_wp2_with fail
      go_ret2
      exact ⟨by rw [e0, e1]; rfl, hE⟩

end Go.Proofs.YtefonkanmdmieaaDoor.tickS
