/- Contracts over this seat's translation: tick.Price and tick.Better, at every input. Contracts over this seat's translation: side.leads, side.checkLevel, side.count. -/
import Derived.Test.YtnjpjieedgmffaaSpanChk
import Derived.Test.YtnjpjieedgmffaaQueChk
namespace Go.Proofs.Ytnjpjieedgmffaa.tickP
open Go.RowKit Go.Proofs.Ytnjpjieedgmffaa.spn

def errB (ok : Bool) : Value := if ok = true then .nilIface else .iface 64 (.int .i64 1)
def priceB (p : Int) : Bool := decide (1 ≤ p) && decide (p ≤ 10000)
def sideB (s : Int) : Bool := decide (s = 1) || decide (s = 2)
def betOk (s a b : Int) : Bool := sideB s && (priceB a && priceB b)
def betR (s a b : Int) : Bool := betOk s a b && (if s = 1 then decide (a < b) else decide (b < a))
theorem price_span (p : Int) : [(p, 1, 10000)].any spanB = !priceB p := by
  rw [Bool.eq_iff_iff]; simp [spanB, priceB]
theorem bet_span (s a b : Int) : [(s, 1, 2), (a, 1, 10000), (b, 1, 10000)].any spanB = !betOk s a b := by
  rw [Bool.eq_iff_iff]; simp [spanB, betOk, priceB, sideB]; omega

set_option maxRecDepth 100000 in
set_option maxHeartbeats 1000000 in
theorem tprice_V (V : World) (p : Int) (w : World) (hV : Below V.heap.size V w) :
    Calls Try.prog 57 #[.int .i64 p] w fun e w' => e = .returned (errB (priceB p)) ∧ Below V.heap.size V w' := by
  have HS : Hid ([(p, 1, 10000)].any spanB = !priceB p) := price_span p
  have HV : Hid (Below V.heap.size V w) := hV
  clear hV
  cases hk : priceB p
  · rw [hk] at HS
    clear hk
    go_enter Try.func57, Try.ntmps57
    go_wp2_with fail
    refine (price_any p w).mono ?_
    rintro e w1 ⟨rfl, h1⟩
    go_wp2_with fail
    refine (scheck1 true _ _ _ _ _ rfl HS.out).mono ?_
    rintro e w2 ⟨rfl, h2⟩
    simp only [show errV (rangeE true) = .iface 64 (.int .i64 1) from rfl]
    have hA0 := HV.out
    have hA1 := hA0.trans (h1.mono hA0.size)
    have hA2 := hA1.trans (h2.mono hA1.size)
    have HD : Hid (Below V.heap.size V w2) := hA2
    clear h1 h2 hA0 hA1 hA2
    go_wp2_with fail
    go_ret
    exact ⟨rfl, HD.out⟩
  · rw [hk] at HS
    clear hk
    go_enter Try.func57, Try.ntmps57
    go_wp2_with fail
    refine (price_any p w).mono ?_
    rintro e w1 ⟨rfl, h1⟩
    go_wp2_with fail
    refine (scheck1 false _ _ _ _ _ rfl HS.out).mono ?_
    rintro e w2 ⟨rfl, h2⟩
    simp only [show errV (rangeE false) = .nilIface from rfl]
    have hA0 := HV.out
    have hA1 := hA0.trans (h1.mono hA0.size)
    have hA2 := hA1.trans (h2.mono hA1.size)
    have HD : Hid (Below V.heap.size V w2) := hA2
    clear h1 h2 hA0 hA1 hA2
    go_wp2_with fail
    go_ret
    exact ⟨rfl, HD.out⟩

set_option maxRecDepth 100000 in
set_option maxHeartbeats 1000000 in
theorem better_V (V : World) (s a b : Int) (w : World) (hV : Below V.heap.size V w) :
    Calls Try.prog 85 #[.int .i64 s, .int .i64 a, .int .i64 b] w fun e w' => e = .returned (.tuple #[.bool (betR s a b), errB (betOk s a b)]) ∧ Below V.heap.size V w' := by
  have HS : Hid ([(s, 1, 2), (a, 1, 10000), (b, 1, 10000)].any spanB = !betOk s a b) := bet_span s a b
  have HV : Hid (Below V.heap.size V w) := hV
  clear hV
  cases hk : betOk s a b
  · rw [hk] at HS
    have e0 : betR s a b = false := by unfold betR; rw [hk]; rfl
    rw [e0]
    clear e0 hk
    go_enter Try.func85, Try.ntmps85
    go_wp2_with fail
    refine (side_any s w).mono ?_
    rintro e w1 ⟨rfl, h1⟩
    go_wp2_with fail
    refine (price_any a w1).mono ?_
    rintro e w2 ⟨rfl, h2⟩
    go_wp2_with fail
    refine (price_any b w2).mono ?_
    rintro e w3 ⟨rfl, h3⟩
    go_wp2_with fail
    refine (scheck3 true _ _ _ _ _ _ _ _ _ _ _ rfl HS.out).mono ?_
    rintro e w4 ⟨rfl, h4⟩
    simp only [show errV (rangeE true) = .iface 64 (.int .i64 1) from rfl]
    have hA0 := HV.out
    have hA1 := hA0.trans (h1.mono hA0.size)
    have hA2 := hA1.trans (h2.mono hA1.size)
    have hA3 := hA2.trans (h3.mono hA2.size)
    have hA4 := hA3.trans (h4.mono hA3.size)
    have HD : Hid (Below V.heap.size V w4) := hA4
    clear h1 h2 h3 h4 hA0 hA1 hA2 hA3 hA4
    go_wp2_with fail
    go_ret2
    exact ⟨rfl, HD.out⟩
  rw [hk] at HS
  by_cases hs : s = 1
  · subst hs
    have e0 : betR 1 a b = decide (a < b) := by unfold betR; rw [hk, if_pos rfl]; rfl
    rw [e0]
    clear e0 hk
    go_enter Try.func85, Try.ntmps85
    go_wp2_with fail
    refine (side_any 1 w).mono ?_
    rintro e w1 ⟨rfl, h1⟩
    go_wp2_with fail
    refine (price_any a w1).mono ?_
    rintro e w2 ⟨rfl, h2⟩
    go_wp2_with fail
    refine (price_any b w2).mono ?_
    rintro e w3 ⟨rfl, h3⟩
    go_wp2_with fail
    refine (scheck3 false _ _ _ _ _ _ _ _ _ _ _ rfl HS.out).mono ?_
    rintro e w4 ⟨rfl, h4⟩
    simp only [show errV (rangeE false) = .nilIface from rfl]
    have hA0 := HV.out
    have hA1 := hA0.trans (h1.mono hA0.size)
    have hA2 := hA1.trans (h2.mono hA1.size)
    have hA3 := hA2.trans (h3.mono hA2.size)
    have hA4 := hA3.trans (h4.mono hA3.size)
    have HD : Hid (Below V.heap.size V w4) := hA4
    clear h1 h2 h3 h4 hA0 hA1 hA2 hA3 hA4
    go_wp2_with fail
    go_ret2
    exact ⟨rfl, HD.out⟩
  · have hs1 : (s == 1) = false := by simp [hs]
    have e0 : betR s a b = decide (b < a) := by unfold betR; rw [hk, if_neg hs]; rfl
    rw [e0]
    clear e0 hk
    go_enter Try.func85, Try.ntmps85
    go_wp2_with fail
    refine (side_any s w).mono ?_
    rintro e w1 ⟨rfl, h1⟩
    go_wp2_with fail
    refine (price_any a w1).mono ?_
    rintro e w2 ⟨rfl, h2⟩
    go_wp2_with fail
    refine (price_any b w2).mono ?_
    rintro e w3 ⟨rfl, h3⟩
    go_wp2_with fail
    refine (scheck3 false _ _ _ _ _ _ _ _ _ _ _ rfl HS.out).mono ?_
    rintro e w4 ⟨rfl, h4⟩
    simp only [show errV (rangeE false) = .nilIface from rfl]
    have hA0 := HV.out
    have hA1 := hA0.trans (h1.mono hA0.size)
    have hA2 := hA1.trans (h2.mono hA1.size)
    have hA3 := hA2.trans (h3.mono hA2.size)
    have hA4 := hA3.trans (h4.mono hA3.size)
    have HD : Hid (Below V.heap.size V w4) := hA4
    clear h1 h2 h3 h4 hA0 hA1 hA2 hA3 hA4
    go_wp2_with fail
    go_ret2
    exact ⟨rfl, HD.out⟩

end Go.Proofs.Ytnjpjieedgmffaa.tickP
namespace Go.Proofs.Ytnjpjieedgmffaa.sid
open Go.RowKit Go.Proofs.Ytnjpjieedgmffaa.spn Go.Proofs.Ytnjpjieedgmffaa.que
open Go.Proofs.Ytnjpjieedgmffaa.tickP (errB priceB sideB betOk betR tprice_V better_V)

/-- A level. -/
structure L where
  price : Int
  rests : List R
deriving Inhabited

/-- Who comes from the other side meets a before b. -/
def leadB (s a b : Int) : Bool := betR (wrap64 (3 - s)) a b
/-- What is wrong with a level. -/
def lchk (l : L) : Int := if priceB l.price = true then (if l.rests = [] then 3 else qchk l.rests) else 1
/-- How many rests there are. -/
def cnt : List L → Int
  | [] => 0
  | l :: t => l.rests.length + cnt t

theorem betR_ok {s a b : Int} (h : betOk s a b = false) : betR s a b = false := by unfold betR; rw [h]; rfl
theorem leads_V (V : World) (s a b : Int) (w : World) (hV : Below V.heap.size V w) :
    Calls Try.prog 77 #[.int .i64 s, .int .i64 a, .int .i64 b] w fun e w' => e = .returned (.bool (leadB s a b)) ∧ Below V.heap.size V w' := by
  unfold leadB
  have hcon := better_V V (wrap64 (3 - s)) a b w hV
  cases hk : betOk (wrap64 (3 - s)) a b
  · rw [betR_ok hk, hk] at hcon
    rw [betR_ok hk]
    simp only [show errB false = .iface 64 (.int .i64 1) from rfl] at hcon
    clear hk hV
    go_enter Try.func77, Try.ntmps77
    go_wp2_with fail
    refine hcon.mono ?_
    rintro e w1 ⟨rfl, h1⟩
    clear hcon
    go_wp2_with fail
    go_ret
    exact ⟨rfl, h1⟩
  · rw [hk] at hcon
    simp only [show errB true = .nilIface from rfl] at hcon
    generalize betR (wrap64 (3 - s)) a b = r at *
    clear hk hV
    go_enter Try.func77, Try.ntmps77
    go_wp2_with fail
    refine hcon.mono ?_
    rintro e w1 ⟨rfl, h1⟩
    clear hcon
    go_wp2_with fail
    go_ret
    exact ⟨rfl, h1⟩

/-- .. or nothing at all, wherever it points. -/
def SLe (w : World) (v : Value) (zs : List R) : Prop := SL w v zs ∨ (zs = [] ∧ ∃ q c, v = .slice q 0 c)
theorem SLe.below {w w' : World} {v : Value} {zs : List R} (h : SLe w v zs) (hB : Below w.heap.size w w') : SLe w' v zs := h.imp (fun h => h.below hB) id
theorem SLe.sl {w : World} {v : Value} {zs : List R} (h : SLe w v zs) (hne : ¬ zs = []) : SL w v zs := h.elim id (fun h => absurd h.1 hne)
theorem sl_form {w : World} {v : Value} {zs : List R} (h : SLe w v zs) : ∃ p c, v = .slice p zs.length c := by
  rcases h with (⟨rfl, rfl⟩ | ⟨b, o, c, h1, _⟩) | ⟨rfl, q, c, h1⟩
  · exact ⟨none, 0, rfl⟩
  · exact ⟨_, c, h1⟩
  · exact ⟨q, c, h1⟩
theorem len_pos {zs : List R} (h : ¬ zs = []) : ¬ zs.length = 0 := fun e => h (List.length_eq_zero_iff.1 e)

set_option maxRecDepth 100000 in
set_option maxHeartbeats 1000000 in
theorem checkLevel_any (p : Int) (v : Value) (zs : List R) (w : World) (h : SLe w v zs) :
    Calls Try.prog 76 #[.agg #[.int .i64 p, v]] w fun e w' => e = .returned (errV (lchk ⟨p, zs⟩)) ∧ Below w.heap.size w w' := by
  obtain ⟨q, c, hv⟩ := sl_form h
  have HS : Hid (SLe w v zs) := h
  clear h
  cases hk : priceB p
  · have e : lchk ⟨p, zs⟩ = 1 := by unfold lchk; simp [hk]
    rw [e]
    subst hv
    have HC := fun V W h => tprice_V V p W h
    rw [hk] at HC
    simp only [show errB false = .iface 64 (.int .i64 1) from rfl] at HC
    clear hk e
    generalize zs.length = n at *
    go_enter Try.func76, Try.ntmps76
    go_wp2_with fail
    have hR := heap_alloc_new w (.cells #[.int .i64 p, .slice q n c] 31)
    have hV : Below w.heap.size w (w.alloc (.cells #[.int .i64 p, .slice q n c] 31)) := (Below.refl _ _).alloc (Nat.le_refl _) _
    generalize w.alloc (.cells #[.int .i64 p, .slice q n c] 31) = V at *
    have d1 : V.cell? ⟨w.heap.size, 1, none⟩ = some (.slice q n c) := by simp [World.cell?, hR]
    refine (HC V _ (Below.refl _ _)).mono ?_
    rintro e w1 ⟨rfl, h1⟩
    have e1 := keeps h1 d1
    have h2 := hV.trans (h1.mono hV.size)
    clear HC hR d1
    go_wp2_with fail
    go_ret
    exact ⟨rfl, h2⟩
  · have HC := fun V W h => tprice_V V p W h
    rw [hk] at HC
    simp only [show errB true = .nilIface from rfl] at HC
    by_cases hz : zs = []
    · have e : lchk ⟨p, zs⟩ = 3 := by unfold lchk; simp [hk, hz]
      rw [e]
      subst hv
      subst hz
      clear hk e
      go_enter Try.func76, Try.ntmps76
      go_wp2_with fail
      have hR := heap_alloc_new w (.cells #[.int .i64 p, .slice q (List.length ([] : List R)) c] 31)
      have hV : Below w.heap.size w (w.alloc (.cells #[.int .i64 p, .slice q (List.length ([] : List R)) c] 31)) := (Below.refl _ _).alloc (Nat.le_refl _) _
      generalize w.alloc (.cells #[.int .i64 p, .slice q (List.length ([] : List R)) c] 31) = V at *
      have d1 : V.cell? ⟨w.heap.size, 1, none⟩ = some (.slice q (List.length ([] : List R)) c) := by simp [World.cell?, hR]
      refine (HC V _ (Below.refl _ _)).mono ?_
      rintro e w1 ⟨rfl, h1⟩
      have e1 := keeps h1 d1
      have h2 := hV.trans (h1.mono hV.size)
      clear HC hR d1
      go_wp2_with fail
      go_ret
      exact ⟨rfl, h2⟩
    · have e : lchk ⟨p, zs⟩ = qchk zs := by unfold lchk; simp [hk, hz]
      rw [e]
      have HQ : Hid (∀ W, SL W v zs → Calls Try.prog 59 #[v] W fun e w' => e = .returned (errV (qchk zs)) ∧ Below W.heap.size W w') := fun W h => qcheck_any v zs W h
      generalize errV (qchk zs) = E at *
      have hp := len_pos hz
      have HSB : Hid (∀ W, Below w.heap.size w W → SL W v zs) := fun W hW => (HS.out.below hW).sl hz
      subst hv
      clear hk e hz HS
      go_enter Try.func76, Try.ntmps76
      go_wp2_with fail
      have hR := heap_alloc_new w (.cells #[.int .i64 p, .slice q zs.length c] 31)
      have hV : Below w.heap.size w (w.alloc (.cells #[.int .i64 p, .slice q zs.length c] 31)) := (Below.refl _ _).alloc (Nat.le_refl _) _
      generalize w.alloc (.cells #[.int .i64 p, .slice q zs.length c] 31) = V at *
      have d1 : V.cell? ⟨w.heap.size, 1, none⟩ = some (.slice q zs.length c) := by simp [World.cell?, hR]
      refine (HC V _ (Below.refl _ _)).mono ?_
      rintro e w1 ⟨rfl, h1⟩
      have e1 := keeps h1 d1
      have h2 := hV.trans (h1.mono hV.size)
      clear HC hR d1
      go_wp2_with fail
      refine (HQ.out w1 (HSB.out w1 h2)).mono ?_
      rintro e w2 ⟨rfl, h3⟩
      have h4 := h2.trans (h3.mono h2.size)
      go_wp2_with fail
      go_ret
      exact ⟨rfl, h4⟩
end Go.Proofs.Ytnjpjieedgmffaa.sid
