/- Plain facts: what becomes of what is left of an order. No walk. -/
import Derived.Test.YtdeahageabacbaaMeeDo2
import Derived.Test.YtdeahageabacbaaMeeFact2
import Derived.Test.YtdeahageabacbaaBokPut2
namespace Go.Proofs.Ytdeahageabacbaa.kin
open Go.RowKit Go.Proofs.Ytdeahageabacbaa.spn Go.Proofs.Ytdeahageabacbaa.que Go.Proofs.Ytdeahageabacbaa.sid Go.Proofs.Ytdeahageabacbaa.bok Go.Proofs.Ytdeahageabacbaa.mee
open Go.Proofs.Ytdeahageabacbaa.ord (O oV mB mE chk meets_any)
open Go.Proofs.Ytdeahageabacbaa.tickP (priceB sideB betOk betR)

theorem hidK {P : Prop} (h : P) : Hid P := h
/-- How much is shown. -/
def shownK (o : O) (k : Int) : Int := if o.shw = 0 then k else min o.shw k
/-- What rests of an order. -/
def keptR (o : O) (k : Int) : R := ⟨o.id, o.who, shownK o k, k - shownK o k, o.shw⟩
/-- What is wrong with that. -/
def restE (o : O) (k : Int) : Int := if chk o = 0 then (if 1 ≤ k ∧ k ≤ o.qty then 0 else 1) else chk o
def zeroR : R := ⟨0, 0, 0, 0, 0⟩
def restV (o : O) (k : Int) : R := if restE o k = 0 then keptR o k else zeroR
/-- Does what is left of a kind rest? -/
def mayK (o : O) : Bool := o.kind == 1 || o.kind == 5
/-- What a kind refuses. -/
def refE (o : O) (left : Int) : Int := if o.kind = 4 ∧ 0 < left then 9 else if o.kind = 5 ∧ left < o.qty then 8 else 0
/-- Does something rest? -/
def stayB (o : O) (left : Int) : Bool := !(left == 0) && mayK o
def setE (bs ss : List L) (o : O) (left : Int) : Int := if stayB o left = true then (if restE o left = 0 then putE bs ss o.side o.price (keptR o left) else restE o left) else 0
def setB (bs : List L) (o : O) (left : Int) : List L := if stayB o left = true then put1 bs o.side o.price (keptR o left) else bs
def setS (ss : List L) (o : O) (left : Int) : List L := if stayB o left = true then put2 ss o.side o.price (keptR o left) else ss
def setG (o : O) (left : Int) : Int := if stayB o left = true then 0 else left
def kdoE (bs ss : List L) (o : O) : Int :=
  if doE bs ss o = 0 then (if refE o (metR bs ss o).2.2 = 0 then setE (metB bs ss o) (metS bs ss o) o (metR bs ss o).2.2 else refE o (metR bs ss o).2.2) else doE bs ss o
def kdoB (bs ss : List L) (o : O) : List L := setB (metB bs ss o) o (metR bs ss o).2.2
def kdoS (bs ss : List L) (o : O) : List L := setS (metS bs ss o) o (metR bs ss o).2.2
def kdoG (bs ss : List L) (o : O) : Int := setG o (metR bs ss o).2.2

theorem rest_zero {o : O} {k : Int} (h : restE o k = 0) : chk o = 0 ∧ 1 ≤ k ∧ k ≤ o.qty := by
  unfold restE at h
  by_cases h1 : chk o = 0
  · rw [if_pos h1] at h
    by_cases h2 : 1 ≤ k ∧ k ≤ o.qty
    · exact ⟨h1, h2⟩
    · rw [if_neg h2] at h; omega
  · rw [if_neg h1] at h; exact absurd h h1
theorem shown_le {o : O} {k : Int} (h1 : 1 ≤ k) (h2 : 0 ≤ o.shw) : 1 ≤ shownK o k ∧ shownK o k ≤ k := by
  unfold shownK
  split <;> omega
theorem shw_of {o : O} (h : chk o = 0) : 0 ≤ o.shw ∧ o.shw ≤ o.qty ∧ 1 ≤ o.qty ∧ o.qty ≤ 10000 := by
  obtain ⟨-, -, h3, -, -⟩ := ord.chk_zero h
  simp [ord.qtyB] at h3
  omega
theorem doE_zero {bs ss : List L} {o : O} (h : doE bs ss o = 0) : comeE bs ss o = 0 ∧ (metR bs ss o).2.1.length ≤ 400 := by
  unfold doE at h
  by_cases hC : comeE bs ss o = 0
  · rw [if_pos hC] at h
    by_cases h4 : 400 < (metR bs ss o).2.1.length
    · rw [if_pos h4] at h; omega
    · exact ⟨hC, by omega⟩
  · rw [if_neg hC] at h; exact absurd h hC
theorem kdo_zero {bs ss : List L} {o : O} (h : kdoE bs ss o = 0) : doE bs ss o = 0 ∧ refE o (metR bs ss o).2.2 = 0 ∧ setE (metB bs ss o) (metS bs ss o) o (metR bs ss o).2.2 = 0 := by
  unfold kdoE at h
  by_cases h1 : doE bs ss o = 0
  · rw [if_pos h1] at h
    by_cases h2 : refE o (metR bs ss o).2.2 = 0
    · rw [if_pos h2] at h; exact ⟨h1, h2, h⟩
    · rw [if_neg h2] at h; exact absurd h h2
  · rw [if_neg h1] at h; exact absurd h h1
end Go.Proofs.Ytdeahageabacbaa.kin
