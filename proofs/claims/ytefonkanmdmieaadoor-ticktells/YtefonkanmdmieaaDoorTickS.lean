/- Contracts over this seat's translation: tick.Band, at every three numbers. -/
import Derived.Test.YtefonkanmdmieaaDoorSpanChk
namespace Go.Proofs.YtefonkanmdmieaaDoor.tickS
open Go.RowKit Go.Proofs.YtefonkanmdmieaaDoor.spn

def priceB (p : Int) : Bool := decide (1 ≤ p) && decide (p ≤ 10000)
def bandOk (p q n : Int) : Bool := priceB p && priceB q && (decide (0 ≤ n) && decide (n ≤ 100))
def bandB (p q n : Int) : Bool := decide (100 * (max p q - min p q) ≤ n * q)
def bandR (p q n : Int) : Bool := bandOk p q n && bandB p q n
def errB (b : Bool) : Value := if b = true then .nilIface else .iface 42 (.int .i64 1)

theorem band_span (p q n : Int) : [(p, 1, 10000), (q, 1, 10000), (n, 0, 100)].any spanB = !bandOk p q n := by
  rw [Bool.eq_iff_iff]
  simp [spanB, bandOk, priceB]
  omega
theorem band_nums (p q n : Int) (h : bandOk p q n = true) : wrap64 (max p q - min p q) = max p q - min p q ∧ wrap64 (100 * (max p q - min p q)) = 100 * (max p q - min p q) ∧ wrap64 (n * q) = n * q := by
  simp only [bandOk, priceB, Bool.and_eq_true, decide_eq_true_eq] at h
  obtain ⟨⟨⟨h1, h2⟩, ⟨h3, h4⟩⟩, ⟨h5, h6⟩⟩ := h
  have b1 : 0 ≤ n * q := Int.mul_nonneg h5 (by omega)
  have b2 : n * q ≤ 100 * 10000 := Int.mul_le_mul h6 h4 (by omega) (by omega)
  refine ⟨?_, ?_, ?_⟩ <;> (unfold wrap64; omega)

set_option maxRecDepth 100000 in
set_option maxHeartbeats 1000000 in
theorem band_V (V : World) (p q n : Int) (w : World) (hV : Below V.heap.size V w) :
    Calls Tryd.prog 11 #[.int .i64 p, .int .i64 q, .int .i64 n] w fun e w' => e = .returned (.tuple #[.bool (bandR p q n), errB (bandOk p q n)]) ∧ Below V.heap.size V w' := by
  have HS : Hid ([(p, 1, 10000), (q, 1, 10000), (n, 0, 100)].any spanB = !bandOk p q n) := band_span p q n
  have HV : Hid (Below V.heap.size V w) := hV
  clear hV
  cases hk : bandOk p q n
  · rw [hk] at HS
    have e0 : bandR p q n = false := by unfold bandR; rw [hk]; rfl
    rw [e0]
    clear e0 hk
    go_enter Tryd.func11, Tryd.ntmps11
    go_wp2_with fail
    refine (price_any p w).mono ?_
    rintro e w1 ⟨rfl, h1⟩
    go_wp2_with fail
    refine (price_any q w1).mono ?_
    rintro e w2 ⟨rfl, h2⟩
    go_wp2_with fail
    refine (of_any n 0 100 w2).mono ?_
    rintro e w3 ⟨rfl, h3⟩
    go_wp2_with fail
    refine (scheck3 true _ _ _ _ _ _ _ _ _ _ _ rfl HS.out).mono ?_
    rintro e w4 ⟨rfl, h4⟩
    simp only [show errV (rangeE true) = .iface 42 (.int .i64 1) from rfl]
    have hA := HV.out.trans (h1.mono HV.out.size)
    have hB := hA.trans (h2.mono hA.size)
    have hC := hB.trans (h3.mono hB.size)
    have hD := hC.trans (h4.mono hC.size)
    clear h1 h2 h3 h4 hA hB hC
    go_wp2_with fail
    go_ret2
    exact ⟨rfl, hD⟩
  · rw [hk] at HS
    obtain ⟨n1, n2, n3⟩ := band_nums p q n hk
    have e0 : bandR p q n = decide (100 * (max p q - min p q) ≤ n * q) := by unfold bandR bandB; rw [hk]; rfl
    rw [e0]
    clear e0 hk
    go_enter Tryd.func11, Tryd.ntmps11
    go_wp2_with fail
    refine (price_any p w).mono ?_
    rintro e w1 ⟨rfl, h1⟩
    go_wp2_with fail
    refine (price_any q w1).mono ?_
    rintro e w2 ⟨rfl, h2⟩
    go_wp2_with fail
    refine (of_any n 0 100 w2).mono ?_
    rintro e w3 ⟨rfl, h3⟩
    go_wp2_with fail
    refine (scheck3 false _ _ _ _ _ _ _ _ _ _ _ rfl HS.out).mono ?_
    rintro e w4 ⟨rfl, h4⟩
    simp only [show errV (rangeE false) = .nilIface from rfl]
    have hA := HV.out.trans (h1.mono HV.out.size)
    have hB := hA.trans (h2.mono hA.size)
    have hC := hB.trans (h3.mono hB.size)
    have hD := hC.trans (h4.mono hC.size)
    clear h1 h2 h3 h4 hA hB hC
    go_wp2_with fail
    go_ret2
    exact ⟨rfl, hD⟩

end Go.Proofs.YtefonkanmdmieaaDoor.tickS
