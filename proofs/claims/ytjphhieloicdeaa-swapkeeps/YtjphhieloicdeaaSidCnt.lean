/- Contracts over this seat's translation: tick.Price and tick.Better, at every input. Contracts over this seat's translation: side.leads, side.checkLevel, side.count. Contracts over this seat's translation: side.count. -/
import Derived.Test.YtjphhieloicdeaaSpanChk
import Derived.Test.YtjphhieloicdeaaQueChk
namespace Go.Proofs.Ytjphhieloicdeaa.tickP
open Go.RowKit Go.Proofs.Ytjphhieloicdeaa.spn

def errB (ok : Bool) : Value := if ok = true then .nilIface else .iface 64 (.int .i64 1)
def priceB (p : Int) : Bool := decide (1 ≤ p) && decide (p ≤ 10000)
def sideB (s : Int) : Bool := decide (s = 1) || decide (s = 2)
def betOk (s a b : Int) : Bool := sideB s && (priceB a && priceB b)
def betR (s a b : Int) : Bool := betOk s a b && (if s = 1 then decide (a < b) else decide (b < a))
theorem price_span (p : Int) : [(p, 1, 10000)].any spanB = !priceB p := by
  rw [Bool.eq_iff_iff]; simp [spanB, priceB]
theorem bet_span (s a b : Int) : [(s, 1, 2), (a, 1, 10000), (b, 1, 10000)].any spanB = !betOk s a b := by
  rw [Bool.eq_iff_iff]; simp [spanB, betOk, priceB, sideB]; omega

set_option maxRecDepth 100000 in
set_option maxHeartbeats 1000000 in
theorem tprice_V (V : World) (p : Int) (w : World) (hV : Below V.heap.size V w) :
    Calls Try.prog 35 #[.int .i64 p] w fun e w' => e = .returned (errB (priceB p)) ∧ Below V.heap.size V w' := by
  have HS : Hid ([(p, 1, 10000)].any spanB = !priceB p) := price_span p
  have HV : Hid (Below V.heap.size V w) := hV
  clear hV
  cases hk : priceB p
  · rw [hk] at HS
    clear hk
    go_enter Try.func35, Try.ntmps35
    go_wp2_with fail
    refine (price_any p w).mono ?_
    rintro e w1 ⟨rfl, h1⟩
    go_wp2_with fail
    refine (scheck1 true _ _ _ _ _ rfl HS.out).mono ?_
    rintro e w2 ⟨rfl, h2⟩
    simp only [show errV (rangeE true) = .iface 64 (.int .i64 1) from rfl]
    have hA0 := HV.out
    have hA1 := hA0.trans (h1.mono hA0.size)
    have hA2 := hA1.trans (h2.mono hA1.size)
    have HD : Hid (Below V.heap.size V w2) := hA2
    clear h1 h2 hA0 hA1 hA2
    go_wp2_with fail
    go_ret
    exact ⟨rfl, HD.out⟩
  · rw [hk] at HS
    clear hk
    go_enter Try.func35, Try.ntmps35
    go_wp2_with fail
    refine (price_any p w).mono ?_
    rintro e w1 ⟨rfl, h1⟩
    go_wp2_with fail
    refine (scheck1 false _ _ _ _ _ rfl HS.out).mono ?_
    rintro e w2 ⟨rfl, h2⟩
    simp only [show errV (rangeE false) = .nilIface from rfl]
    have hA0 := HV.out
    have hA1 := hA0.trans (h1.mono hA0.size)
    have hA2 := hA1.trans (h2.mono hA1.size)
    have HD : Hid (Below V.heap.size V w2) := hA2
    clear h1 h2 hA0 hA1 hA2
    go_wp2_with fail
    go_ret
    exact ⟨rfl, HD.out⟩

set_option maxRecDepth 100000 in
set_option maxHeartbeats 1000000 in
theorem better_V (V : World) (s a b : Int) (w : World) (hV : Below V.heap.size V w) :
    Calls Try.prog 67 #[.int .i64 s, .int .i64 a, .int .i64 b] w fun e w' => e = .returned (.tuple #[.bool (betR s a b), errB (betOk s a b)]) ∧ Below V.heap.size V w' := by
  have HS : Hid ([(s, 1, 2), (a, 1, 10000), (b, 1, 10000)].any spanB = !betOk s a b) := bet_span s a b
  have HV : Hid (Below V.heap.size V w) := hV
  clear hV
  cases hk : betOk s a b
  · rw [hk] at HS
    have e0 : betR s a b = false := by unfold betR; rw [hk]; rfl
    rw [e0]
    clear e0 hk
    go_enter Try.func67, Try.ntmps67
    go_wp2_with fail
    refine (side_any s w).mono ?_
    rintro e w1 ⟨rfl, h1⟩
    go_wp2_with fail
    refine (price_any a w1).mono ?_
    rintro e w2 ⟨rfl, h2⟩
    go_wp2_with fail
    refine (price_any b w2).mono ?_
    rintro e w3 ⟨rfl, h3⟩
    go_wp2_with fail
    refine (scheck3 true _ _ _ _ _ _ _ _ _ _ _ rfl HS.out).mono ?_
    rintro e w4 ⟨rfl, h4⟩
    simp only [show errV (rangeE true) = .iface 64 (.int .i64 1) from rfl]
    have hA0 := HV.out
    have hA1 := hA0.trans (h1.mono hA0.size)
    have hA2 := hA1.trans (h2.mono hA1.size)
    have hA3 := hA2.trans (h3.mono hA2.size)
    have hA4 := hA3.trans (h4.mono hA3.size)
    have HD : Hid (Below V.heap.size V w4) := hA4
    clear h1 h2 h3 h4 hA0 hA1 hA2 hA3 hA4
    go_wp2_with fail
    go_ret2
    exact ⟨rfl, HD.out⟩
  rw [hk] at HS
  by_cases hs : s = 1
  · subst hs
    have e0 : betR 1 a b = decide (a < b) := by unfold betR; rw [hk, if_pos rfl]; rfl
    rw [e0]
    clear e0 hk
    go_enter Try.func67, Try.ntmps67
    go_wp2_with fail
    refine (side_any 1 w).mono ?_
    rintro e w1 ⟨rfl, h1⟩
    go_wp2_with fail
    refine (price_any a w1).mono ?_
    rintro e w2 ⟨rfl, h2⟩
    go_wp2_with fail
    refine (price_any b w2).mono ?_
    rintro e w3 ⟨rfl, h3⟩
    go_wp2_with fail
    refine (scheck3 false _ _ _ _ _ _ _ _ _ _ _ rfl HS.out).mono ?_
    rintro e w4 ⟨rfl, h4⟩
    simp only [show errV (rangeE false) = .nilIface from rfl]
    have hA0 := HV.out
    have hA1 := hA0.trans (h1.mono hA0.size)
    have hA2 := hA1.trans (h2.mono hA1.size)
    have hA3 := hA2.trans (h3.mono hA2.size)
    have hA4 := hA3.trans (h4.mono hA3.size)
    have HD : Hid (Below V.heap.size V w4) := hA4
    clear h1 h2 h3 h4 hA0 hA1 hA2 hA3 hA4
    go_wp2_with fail
    go_ret2
    exact ⟨rfl, HD.out⟩
  · have hs1 : (s == 1) = false := by simp [hs]
    have e0 : betR s a b = decide (b < a) := by unfold betR; rw [hk, if_neg hs]; rfl
    rw [e0]
    clear e0 hk
    go_enter Try.func67, Try.ntmps67
    go_wp2_with fail
    refine (side_any s w).mono ?_
    rintro e w1 ⟨rfl, h1⟩
    go_wp2_with fail
    refine (price_any a w1).mono ?_
    rintro e w2 ⟨rfl, h2⟩
    go_wp2_with fail
    refine (price_any b w2).mono ?_
    rintro e w3 ⟨rfl, h3⟩
    go_wp2_with fail
    refine (scheck3 false _ _ _ _ _ _ _ _ _ _ _ rfl HS.out).mono ?_
    rintro e w4 ⟨rfl, h4⟩
    simp only [show errV (rangeE false) = .nilIface from rfl]
    have hA0 := HV.out
    have hA1 := hA0.trans (h1.mono hA0.size)
    have hA2 := hA1.trans (h2.mono hA1.size)
    have hA3 := hA2.trans (h3.mono hA2.size)
    have hA4 := hA3.trans (h4.mono hA3.size)
    have HD : Hid (Below V.heap.size V w4) := hA4
    clear h1 h2 h3 h4 hA0 hA1 hA2 hA3 hA4
    go_wp2_with fail
    go_ret2
    exact ⟨rfl, HD.out⟩

end Go.Proofs.Ytjphhieloicdeaa.tickP
namespace Go.Proofs.Ytjphhieloicdeaa.sid
open Go.RowKit Go.Proofs.Ytjphhieloicdeaa.spn Go.Proofs.Ytjphhieloicdeaa.que
open Go.Proofs.Ytjphhieloicdeaa.tickP (errB priceB sideB betOk betR tprice_V better_V)

/-- A level. -/
structure L where
  price : Int
  rests : List R
deriving Inhabited

/-- Who comes from the other side meets a before b. -/
def leadB (s a b : Int) : Bool := betR (wrap64 (3 - s)) a b
/-- What is wrong with a level. -/
def lchk (l : L) : Int := if priceB l.price = true then (if l.rests = [] then 3 else qchk l.rests) else 1
/-- How many rests there are. -/
def cnt : List L → Int
  | [] => 0
  | l :: t => l.rests.length + cnt t

theorem betR_ok {s a b : Int} (h : betOk s a b = false) : betR s a b = false := by unfold betR; rw [h]; rfl
theorem leads_V (V : World) (s a b : Int) (w : World) (hV : Below V.heap.size V w) :
    Calls Try.prog 58 #[.int .i64 s, .int .i64 a, .int .i64 b] w fun e w' => e = .returned (.bool (leadB s a b)) ∧ Below V.heap.size V w' := by
  unfold leadB
  have hcon := better_V V (wrap64 (3 - s)) a b w hV
  cases hk : betOk (wrap64 (3 - s)) a b
  · rw [betR_ok hk, hk] at hcon
    rw [betR_ok hk]
    simp only [show errB false = .iface 64 (.int .i64 1) from rfl] at hcon
    clear hk hV
    go_enter Try.func58, Try.ntmps58
    go_wp2_with fail
    refine hcon.mono ?_
    rintro e w1 ⟨rfl, h1⟩
    clear hcon
    go_wp2_with fail
    go_ret
    exact ⟨rfl, h1⟩
  · rw [hk] at hcon
    simp only [show errB true = .nilIface from rfl] at hcon
    generalize betR (wrap64 (3 - s)) a b = r at *
    clear hk hV
    go_enter Try.func58, Try.ntmps58
    go_wp2_with fail
    refine hcon.mono ?_
    rintro e w1 ⟨rfl, h1⟩
    clear hcon
    go_wp2_with fail
    go_ret
    exact ⟨rfl, h1⟩

/-- .. or nothing at all, wherever it points. -/
def SLe (w : World) (v : Value) (zs : List R) : Prop := SL w v zs ∨ (zs = [] ∧ ∃ q c, v = .slice q 0 c)
theorem SLe.below {w w' : World} {v : Value} {zs : List R} (h : SLe w v zs) (hB : Below w.heap.size w w') : SLe w' v zs := h.imp (fun h => h.below hB) id
theorem SLe.sl {w : World} {v : Value} {zs : List R} (h : SLe w v zs) (hne : ¬ zs = []) : SL w v zs := h.elim id (fun h => absurd h.1 hne)
theorem sl_form {w : World} {v : Value} {zs : List R} (h : SLe w v zs) : ∃ p c, v = .slice p zs.length c := by
  rcases h with (⟨rfl, rfl⟩ | ⟨b, o, c, h1, _⟩) | ⟨rfl, q, c, h1⟩
  · exact ⟨none, 0, rfl⟩
  · exact ⟨_, c, h1⟩
  · exact ⟨q, c, h1⟩
theorem len_pos {zs : List R} (h : ¬ zs = []) : ¬ zs.length = 0 := fun e => h (List.length_eq_zero_iff.1 e)

set_option maxRecDepth 100000 in
set_option maxHeartbeats 1000000 in
theorem checkLevel_any (p : Int) (v : Value) (zs : List R) (w : World) (h : SLe w v zs) :
    Calls Try.prog 57 #[.agg #[.int .i64 p, v]] w fun e w' => e = .returned (errV (lchk ⟨p, zs⟩)) ∧ Below w.heap.size w w' := by
  obtain ⟨q, c, hv⟩ := sl_form h
  have HS : Hid (SLe w v zs) := h
  clear h
  cases hk : priceB p
  · have e : lchk ⟨p, zs⟩ = 1 := by unfold lchk; simp [hk]
    rw [e]
    subst hv
    have HC := fun V W h => tprice_V V p W h
    rw [hk] at HC
    simp only [show errB false = .iface 64 (.int .i64 1) from rfl] at HC
    clear hk e
    generalize zs.length = n at *
    go_enter Try.func57, Try.ntmps57
    go_wp2_with fail
    have hR := heap_alloc_new w (.cells #[.int .i64 p, .slice q n c] 29)
    have hV : Below w.heap.size w (w.alloc (.cells #[.int .i64 p, .slice q n c] 29)) := (Below.refl _ _).alloc (Nat.le_refl _) _
    generalize w.alloc (.cells #[.int .i64 p, .slice q n c] 29) = V at *
    have d1 : V.cell? ⟨w.heap.size, 1, none⟩ = some (.slice q n c) := by simp [World.cell?, hR]
    refine (HC V _ (Below.refl _ _)).mono ?_
    rintro e w1 ⟨rfl, h1⟩
    have e1 := keeps h1 d1
    have h2 := hV.trans (h1.mono hV.size)
    clear HC hR d1
    go_wp2_with fail
    go_ret
    exact ⟨rfl, h2⟩
  · have HC := fun V W h => tprice_V V p W h
    rw [hk] at HC
    simp only [show errB true = .nilIface from rfl] at HC
    by_cases hz : zs = []
    · have e : lchk ⟨p, zs⟩ = 3 := by unfold lchk; simp [hk, hz]
      rw [e]
      subst hv
      subst hz
      clear hk e
      go_enter Try.func57, Try.ntmps57
      go_wp2_with fail
      have hR := heap_alloc_new w (.cells #[.int .i64 p, .slice q (List.length ([] : List R)) c] 29)
      have hV : Below w.heap.size w (w.alloc (.cells #[.int .i64 p, .slice q (List.length ([] : List R)) c] 29)) := (Below.refl _ _).alloc (Nat.le_refl _) _
      generalize w.alloc (.cells #[.int .i64 p, .slice q (List.length ([] : List R)) c] 29) = V at *
      have d1 : V.cell? ⟨w.heap.size, 1, none⟩ = some (.slice q (List.length ([] : List R)) c) := by simp [World.cell?, hR]
      refine (HC V _ (Below.refl _ _)).mono ?_
      rintro e w1 ⟨rfl, h1⟩
      have e1 := keeps h1 d1
      have h2 := hV.trans (h1.mono hV.size)
      clear HC hR d1
      go_wp2_with fail
      go_ret
      exact ⟨rfl, h2⟩
    · have e : lchk ⟨p, zs⟩ = qchk zs := by unfold lchk; simp [hk, hz]
      rw [e]
      have HQ : Hid (∀ W, SL W v zs → Calls Try.prog 66 #[v] W fun e w' => e = .returned (errV (qchk zs)) ∧ Below W.heap.size W w') := fun W h => qcheck_any v zs W h
      generalize errV (qchk zs) = E at *
      have hp := len_pos hz
      have HSB : Hid (∀ W, Below w.heap.size w W → SL W v zs) := fun W hW => (HS.out.below hW).sl hz
      subst hv
      clear hk e hz HS
      go_enter Try.func57, Try.ntmps57
      go_wp2_with fail
      have hR := heap_alloc_new w (.cells #[.int .i64 p, .slice q zs.length c] 29)
      have hV : Below w.heap.size w (w.alloc (.cells #[.int .i64 p, .slice q zs.length c] 29)) := (Below.refl _ _).alloc (Nat.le_refl _) _
      generalize w.alloc (.cells #[.int .i64 p, .slice q zs.length c] 29) = V at *
      have d1 : V.cell? ⟨w.heap.size, 1, none⟩ = some (.slice q zs.length c) := by simp [World.cell?, hR]
      refine (HC V _ (Below.refl _ _)).mono ?_
      rintro e w1 ⟨rfl, h1⟩
      have e1 := keeps h1 d1
      have h2 := hV.trans (h1.mono hV.size)
      clear HC hR d1
      go_wp2_with fail
      refine (HQ.out w1 (HSB.out w1 h2)).mono ?_
      rintro e w2 ⟨rfl, h3⟩
      have h4 := h2.trans (h3.mono h2.size)
      go_wp2_with fail
      go_ret
      exact ⟨rfl, h4⟩
end Go.Proofs.Ytjphhieloicdeaa.sid
namespace Go.Proofs.Ytjphhieloicdeaa.sid
open Go.RowKit Go.Proofs.Ytjphhieloicdeaa.spn Go.Proofs.Ytjphhieloicdeaa.que

/-- Levels lie there one behind the other, and the rests of each where its slice points. -/
def LL (w : World) (b o : Nat) (ls : List L) : Prop := ∀ k, k < ls.length → w.cell? ⟨b, o + k * 2, none⟩ = some (.int .i64 ls[k]!.price) ∧ ∃ v, w.cell? ⟨b, o + k * 2 + 1, none⟩ = some v ∧ SLe w v ls[k]!.rests
/-- A slice value that reads as a list of levels. -/
def LS (w : World) (v : Value) (ls : List L) : Prop :=
  (v = .slice none 0 0 ∧ ls = []) ∨ ∃ b o c, v = .slice (some ⟨b, o, none⟩) ls.length c ∧ ls.length ≤ c ∧ c ≤ 9223372036854775807 ∧ b < w.heap.size ∧ LL w b o ls
theorem LL.below {w w' : World} {b o : Nat} {ls : List L} (h : LL w b o ls) (hb : b < w.heap.size) (hB : Below w.heap.size w w') : LL w' b o ls := by
  intro k hk
  obtain ⟨h1, v, h2, h3⟩ := h k hk
  exact ⟨(hB.cell (p := ⟨b, o + k * 2, none⟩) hb).trans h1, v, (hB.cell (p := ⟨b, o + k * 2 + 1, none⟩) hb).trans h2, h3.below hB⟩
theorem LS.below {w w' : World} {v : Value} {ls : List L} (h : LS w v ls) (hB : Below w.heap.size w w') : LS w' v ls := by
  rcases h with h | ⟨b, o, c, h1, h2, h3, h4, h5⟩
  · exact .inl h
  · exact .inr ⟨b, o, c, h1, h2, h3, Nat.lt_of_lt_of_le h4 hB.size, h5.below h4 hB⟩
theorem LL.at {w : World} {b o k : Nat} {ls : List L} (h : LL w b o ls) (hk : k < ls.length) {p : Int} {zs : List R} (he : ls[k]! = ⟨p, zs⟩) :
    ∃ q c, w.cell? ⟨b, o + k * 2, none⟩ = some (.int .i64 p) ∧ w.cell? ⟨b, o + k * 2 + 1, none⟩ = some (.slice q zs.length c) ∧ SLe w (.slice q zs.length c) zs := by
  obtain ⟨h1, v, h2, h3⟩ := h k hk
  rw [he] at h1 h3
  obtain ⟨q, c, hv⟩ := sl_form h3
  subst hv
  exact ⟨q, c, h1, h2, h3⟩
theorem ldrop_at {ls : List L} {k : Nat} (hk : k < ls.length) : ls.drop k = ls[k]! :: ls.drop (k + 1) := by
  rw [List.drop_eq_getElem_cons hk, getE _ _ hk]
theorem ltake_at {ls : List L} {k : Nat} (hk : k < ls.length) : ls.take (k + 1) = ls.take k ++ [ls[k]!] := by
  rw [List.take_succ_eq_append_getElem hk, getE _ _ hk]
theorem cnt_append (a b : List L) : cnt (a ++ b) = cnt a + cnt b := by
  induction a with
  | nil => simp [cnt]
  | cons x t ih => simp only [List.cons_append, cnt, ih]; omega
theorem cnt_take (ls : List L) (k : Nat) (hk : k < ls.length) : cnt (ls.take (k + 1)) = cnt (ls.take k) + (ls[k]!.rests.length : Int) := by
  rw [ltake_at hk, cnt_append]; simp only [cnt]; omega
theorem cnt_le (ls : List L) (h : ∀ l ∈ ls, l.rests.length ≤ 60) : 0 ≤ cnt ls ∧ cnt ls ≤ 60 * (ls.length : Int) := by
  induction ls with
  | nil => simp [cnt]
  | cons x t ih =>
    have h1 := h x (by simp)
    have h2 := ih (fun l hl => h l (by simp [hl]))
    simp only [cnt, List.length_cons]
    omega

set_option maxRecDepth 100000 in
set_option maxHeartbeats 1000000 in
theorem count_some (b o c : Nat) (ls : List L) (w : World) (hb : b < w.heap.size) (hc : ls.length ≤ c) (hl : LL w b o ls) (h60 : ∀ l ∈ ls, l.rests.length ≤ 60) (h10 : ls.length ≤ 10000) :
    Calls Try.prog 59 #[.slice (some ⟨b, o, none⟩) ls.length c] w fun e w' => e = .returned (.int .i64 (cnt ls)) ∧ Below w.heap.size w w' := by
  have HG : Hid (∀ l ∈ ls, l.rests.length ≤ 60) := h60
  have HL : Hid (LL w b o ls) := hl
  clear hl h60
  generalize hT : cnt ls = T
  have HT : Hid (cnt ls = T) := hT
  clear hT
  generalize hn : ls.length = n at *
  have HN : Hid (ls.length = n) := hn
  clear hn
  go_enter Try.func59, Try.ntmps59
  go_wp2_with fail
  go_loopg [3, 5, 8] n (fun gg s5 _ s15 wr => ∃ kk : Nat, kk ≤ n ∧ n - kk ≤ gg ∧ s15 = .int .i64 kk ∧ s5 = .int .i64 (cnt (ls.take kk)) ∧ Aside (Below w.heap.size w wr))
  case atStart => exact ⟨0, Nat.zero_le _, by omega, rfl, rfl, Below.refl _ _⟩
  case round =>
    obtain ⟨kk, hkk, hg, rfl, rfl, BW⟩ := hrel
    have hA : Hid (0 ≤ cnt (ls.take kk) ∧ cnt (ls.take kk) ≤ 60 * (kk : Int)) := by
      have := cnt_le (ls.take kk) (fun r hr => HG.out r (List.mem_of_mem_take hr))
      rw [List.length_take, HN.out, Nat.min_eq_left hkk] at this
      exact this
    by_cases hlt : kk < n
    · have hltz : (kk : Int) < (n : Int) := by omega
      have hlz : kk < ls.length := by rw [HN.out]; exact hlt
      have LW : Hid (LL wr b o ls) := HL.out.below hb BW.out
      obtain ⟨r, hr⟩ : ∃ r, ls[kk]! = r := ⟨_, rfl⟩
      obtain ⟨p, zs⟩ := r
      obtain ⟨q, cc, c0, c1, hs⟩ := LW.out.at hlz hr
      have hq := HG.out ls[kk]! (by rw [getE _ _ hlz]; exact List.getElem_mem hlz)
      rw [hr] at hq
      simp only [] at hq
      have hTT : Hid (cnt (ls.take (kk + 1)) = cnt (ls.take kk) + (zs.length : Int)) := by
        have := cnt_take ls kk hlz
        rw [hr] at this
        exact this
      clear hr hs
      obtain ⟨t1, t2⟩ := hA.out
      clear hA
      generalize cnt (ls.take kk) = t at *
      generalize zs.length = m at *
      have hbw : b < wr.heap.size := Nat.lt_of_lt_of_le hb BW.out.size
      have hin1 : ¬ ((kk : Int) < 0) := by omega
      have e2 : wrap64 (t + (m : Int)) = t + (m : Int) := by unfold wrap64; omega
      go_wp2_with fail
      go_roundg (n - (kk + 1))
      case measure => omega
      case rel => exact ⟨kk + 1, by omega, by omega, by go_num, by rw [hTT.out], BW.out.alloc BW.out.size _⟩
    · have hltz : ¬ (kk : Int) < (n : Int) := by omega
      have hk : kk = n := by omega
      subst hk
      have hT2 : cnt (ls.take kk) = T := by rw [← HT.out, List.take_of_length_le (by rw [HN.out]; exact Nat.le_refl _)]
      rw [hT2]
      go_wp2_with fail
      go_ret
      exact ⟨rfl, BW.out⟩
theorem count_nil (w : World) :
    Calls Try.prog 59 #[.slice none 0 0] w fun e w' => e = .returned (.int .i64 0) ∧ Below w.heap.size w w' := by
  go_enter Try.func59, Try.ntmps59
  go_wp2_with fail
  go_loopg [3, 5, 8] 0 (fun _ s5 _ s15 wr => s15 = .int .i64 0 ∧ s5 = .int .i64 0 ∧ wr = w)
  case atStart => exact ⟨rfl, rfl, rfl⟩
  case round =>
    obtain ⟨rfl, rfl, rfl⟩ := hrel
    go_wp2_with fail
    go_ret
    exact ⟨rfl, Below.refl _ _⟩
/-- count, at a side whose levels are not too many. -/
theorem count_any (v : Value) (ls : List L) (w : World) (h : LS w v ls) (h60 : ∀ l ∈ ls, l.rests.length ≤ 60) (h10 : ls.length ≤ 10000) :
    Calls Try.prog 59 #[v] w fun e w' => e = .returned (.int .i64 (cnt ls)) ∧ Below w.heap.size w w' := by
  rcases h with ⟨rfl, rfl⟩ | ⟨b, o, c, rfl, h2, h3, h4, h5⟩
  · exact count_nil w
  · exact count_some b o c ls w h4 h2 h5 h60 h10
end Go.Proofs.Ytjphhieloicdeaa.sid
