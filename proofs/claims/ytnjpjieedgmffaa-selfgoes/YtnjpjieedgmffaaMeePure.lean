/- Contracts over this seat's translation: side.leads, side.checkLevel, side.count. Plain facts on who comes and who rests: what an order takes of the other side, level by level. No walk. -/
import Derived.Test.YtnjpjieedgmffaaQueChk
import Derived.Test.YtnjpjieedgmffaaTickP
import Derived.Test.YtnjpjieedgmffaaMeeOrd
import Derived.Test.YtnjpjieedgmffaaQuePure2
namespace Go.Proofs.Ytnjpjieedgmffaa.sid
open Go.RowKit Go.Proofs.Ytnjpjieedgmffaa.spn Go.Proofs.Ytnjpjieedgmffaa.que
open Go.Proofs.Ytnjpjieedgmffaa.tickP (errB priceB sideB betOk betR tprice_V better_V)

/-- A level. -/
structure L where
  price : Int
  rests : List R
deriving Inhabited

/-- Who comes from the other side meets a before b. -/
def leadB (s a b : Int) : Bool := betR (wrap64 (3 - s)) a b
/-- What is wrong with a level. -/
def lchk (l : L) : Int := if priceB l.price = true then (if l.rests = [] then 3 else qchk l.rests) else 1
/-- How many rests there are. -/
def cnt : List L → Int
  | [] => 0
  | l :: t => l.rests.length + cnt t

theorem betR_ok {s a b : Int} (h : betOk s a b = false) : betR s a b = false := by unfold betR; rw [h]; rfl
theorem leads_V (V : World) (s a b : Int) (w : World) (hV : Below V.heap.size V w) :
    Calls Try.prog 77 #[.int .i64 s, .int .i64 a, .int .i64 b] w fun e w' => e = .returned (.bool (leadB s a b)) ∧ Below V.heap.size V w' := by
  unfold leadB
  have hcon := better_V V (wrap64 (3 - s)) a b w hV
  cases hk : betOk (wrap64 (3 - s)) a b
  · rw [betR_ok hk, hk] at hcon
    rw [betR_ok hk]
    simp only [show errB false = .iface 64 (.int .i64 1) from rfl] at hcon
    clear hk hV
    go_enter Try.func77, Try.ntmps77
    go_wp2_with fail
    refine hcon.mono ?_
    rintro e w1 ⟨rfl, h1⟩
    clear hcon
    go_wp2_with fail
    go_ret
    exact ⟨rfl, h1⟩
  · rw [hk] at hcon
    simp only [show errB true = .nilIface from rfl] at hcon
    generalize betR (wrap64 (3 - s)) a b = r at *
    clear hk hV
    go_enter Try.func77, Try.ntmps77
    go_wp2_with fail
    refine hcon.mono ?_
    rintro e w1 ⟨rfl, h1⟩
    clear hcon
    go_wp2_with fail
    go_ret
    exact ⟨rfl, h1⟩

/-- .. or nothing at all, wherever it points. -/
def SLe (w : World) (v : Value) (zs : List R) : Prop := SL w v zs ∨ (zs = [] ∧ ∃ q c, v = .slice q 0 c)
theorem SLe.below {w w' : World} {v : Value} {zs : List R} (h : SLe w v zs) (hB : Below w.heap.size w w') : SLe w' v zs := h.imp (fun h => h.below hB) id
theorem SLe.sl {w : World} {v : Value} {zs : List R} (h : SLe w v zs) (hne : ¬ zs = []) : SL w v zs := h.elim id (fun h => absurd h.1 hne)
theorem sl_form {w : World} {v : Value} {zs : List R} (h : SLe w v zs) : ∃ p c, v = .slice p zs.length c := by
  rcases h with (⟨rfl, rfl⟩ | ⟨b, o, c, h1, _⟩) | ⟨rfl, q, c, h1⟩
  · exact ⟨none, 0, rfl⟩
  · exact ⟨_, c, h1⟩
  · exact ⟨q, c, h1⟩
theorem len_pos {zs : List R} (h : ¬ zs = []) : ¬ zs.length = 0 := fun e => h (List.length_eq_zero_iff.1 e)

set_option maxRecDepth 100000 in
set_option maxHeartbeats 1000000 in
theorem checkLevel_any (p : Int) (v : Value) (zs : List R) (w : World) (h : SLe w v zs) :
    Calls Try.prog 76 #[.agg #[.int .i64 p, v]] w fun e w' => e = .returned (errV (lchk ⟨p, zs⟩)) ∧ Below w.heap.size w w' := by
  obtain ⟨q, c, hv⟩ := sl_form h
  have HS : Hid (SLe w v zs) := h
  clear h
  cases hk : priceB p
  · have e : lchk ⟨p, zs⟩ = 1 := by unfold lchk; simp [hk]
    rw [e]
    subst hv
    have HC := fun V W h => tprice_V V p W h
    rw [hk] at HC
    simp only [show errB false = .iface 64 (.int .i64 1) from rfl] at HC
    clear hk e
    generalize zs.length = n at *
    go_enter Try.func76, Try.ntmps76
    go_wp2_with fail
    have hR := heap_alloc_new w (.cells #[.int .i64 p, .slice q n c] 31)
    have hV : Below w.heap.size w (w.alloc (.cells #[.int .i64 p, .slice q n c] 31)) := (Below.refl _ _).alloc (Nat.le_refl _) _
    generalize w.alloc (.cells #[.int .i64 p, .slice q n c] 31) = V at *
    have d1 : V.cell? ⟨w.heap.size, 1, none⟩ = some (.slice q n c) := by simp [World.cell?, hR]
    refine (HC V _ (Below.refl _ _)).mono ?_
    rintro e w1 ⟨rfl, h1⟩
    have e1 := keeps h1 d1
    have h2 := hV.trans (h1.mono hV.size)
    clear HC hR d1
    go_wp2_with fail
    go_ret
    exact ⟨rfl, h2⟩
  · have HC := fun V W h => tprice_V V p W h
    rw [hk] at HC
    simp only [show errB true = .nilIface from rfl] at HC
    by_cases hz : zs = []
    · have e : lchk ⟨p, zs⟩ = 3 := by unfold lchk; simp [hk, hz]
      rw [e]
      subst hv
      subst hz
      clear hk e
      go_enter Try.func76, Try.ntmps76
      go_wp2_with fail
      have hR := heap_alloc_new w (.cells #[.int .i64 p, .slice q (List.length ([] : List R)) c] 31)
      have hV : Below w.heap.size w (w.alloc (.cells #[.int .i64 p, .slice q (List.length ([] : List R)) c] 31)) := (Below.refl _ _).alloc (Nat.le_refl _) _
      generalize w.alloc (.cells #[.int .i64 p, .slice q (List.length ([] : List R)) c] 31) = V at *
      have d1 : V.cell? ⟨w.heap.size, 1, none⟩ = some (.slice q (List.length ([] : List R)) c) := by simp [World.cell?, hR]
      refine (HC V _ (Below.refl _ _)).mono ?_
      rintro e w1 ⟨rfl, h1⟩
      have e1 := keeps h1 d1
      have h2 := hV.trans (h1.mono hV.size)
      clear HC hR d1
      go_wp2_with fail
      go_ret
      exact ⟨rfl, h2⟩
    · have e : lchk ⟨p, zs⟩ = qchk zs := by unfold lchk; simp [hk, hz]
      rw [e]
      have HQ : Hid (∀ W, SL W v zs → Calls Try.prog 59 #[v] W fun e w' => e = .returned (errV (qchk zs)) ∧ Below W.heap.size W w') := fun W h => qcheck_any v zs W h
      generalize errV (qchk zs) = E at *
      have hp := len_pos hz
      have HSB : Hid (∀ W, Below w.heap.size w W → SL W v zs) := fun W hW => (HS.out.below hW).sl hz
      subst hv
      clear hk e hz HS
      go_enter Try.func76, Try.ntmps76
      go_wp2_with fail
      have hR := heap_alloc_new w (.cells #[.int .i64 p, .slice q zs.length c] 31)
      have hV : Below w.heap.size w (w.alloc (.cells #[.int .i64 p, .slice q zs.length c] 31)) := (Below.refl _ _).alloc (Nat.le_refl _) _
      generalize w.alloc (.cells #[.int .i64 p, .slice q zs.length c] 31) = V at *
      have d1 : V.cell? ⟨w.heap.size, 1, none⟩ = some (.slice q zs.length c) := by simp [World.cell?, hR]
      refine (HC V _ (Below.refl _ _)).mono ?_
      rintro e w1 ⟨rfl, h1⟩
      have e1 := keeps h1 d1
      have h2 := hV.trans (h1.mono hV.size)
      clear HC hR d1
      go_wp2_with fail
      refine (HQ.out w1 (HSB.out w1 h2)).mono ?_
      rintro e w2 ⟨rfl, h3⟩
      have h4 := h2.trans (h3.mono h2.size)
      go_wp2_with fail
      go_ret
      exact ⟨rfl, h4⟩
end Go.Proofs.Ytnjpjieedgmffaa.sid
namespace Go.Proofs.Ytnjpjieedgmffaa.mee
open Go.RowKit Go.Proofs.Ytnjpjieedgmffaa.spn Go.Proofs.Ytnjpjieedgmffaa.que Go.Proofs.Ytnjpjieedgmffaa.sid
open Go.Proofs.Ytnjpjieedgmffaa.ord (O mB chk)

/-- The trade of a fill. -/
def trd (o : O) (p : Int) (f : F) : T := if o.side = 1 then ⟨f.id, o.id, f.who, o.who, p, f.qty⟩ else ⟨f.id, o.id, o.who, f.who, p, f.qty⟩
/-- What an order takes of levels: what is left of them, the trades, what is left of it. -/
def tkl (o : O) : List L → Int → List L × List T × Int
  | [], q => ([], [], q)
  | l :: t, q => if q ≤ 0 then (l :: t, [], q) else if mB o l.price = false then (l :: t, [], q) else
      if (take q l.rests).2 = [] then ((tkl o t (q - sum (take q l.rests).1)).1, (take q l.rests).1.map (trd o l.price) ++ (tkl o t (q - sum (take q l.rests).1)).2.1, (tkl o t (q - sum (take q l.rests).1)).2.2)
      else (⟨l.price, (take q l.rests).2⟩ :: t, (take q l.rests).1.map (trd o l.price), q - sum (take q l.rests).1)
theorem tkl_zero {o : O} {ls : List L} {q : Int} (h : q ≤ 0) : tkl o ls q = (ls, [], q) := by
  cases ls with
  | nil => rfl
  | cons l t => unfold tkl; rw [if_pos h]
theorem tkl_stop {o : O} {l : L} {t : List L} {q : Int} (h : mB o l.price = false) : tkl o (l :: t) q = (l :: t, [], q) := by
  unfold tkl
  by_cases h0 : q ≤ 0
  · rw [if_pos h0]
  · rw [if_neg h0, if_pos h]
theorem tkl_gone {o : O} {l : L} {t : List L} {q : Int} (h : 0 < q) (hm : mB o l.price = true) (he : (take q l.rests).2 = []) :
    tkl o (l :: t) q = ((tkl o t (q - sum (take q l.rests).1)).1, (take q l.rests).1.map (trd o l.price) ++ (tkl o t (q - sum (take q l.rests).1)).2.1, (tkl o t (q - sum (take q l.rests).1)).2.2) := by
  rw [tkl, if_neg (by omega), if_neg (by rw [hm]; decide), if_pos he]
theorem tkl_last {o : O} {l : L} {t : List L} {q : Int} (h : 0 < q) (hm : mB o l.price = true) (he : ¬ (take q l.rests).2 = []) :
    tkl o (l :: t) q = (⟨l.price, (take q l.rests).2⟩ :: t, (take q l.rests).1.map (trd o l.price), q - sum (take q l.rests).1) := by
  rw [tkl, if_neg (by omega), if_neg (by rw [hm]; decide), if_neg he]

theorem sum_append (a b : List F) : sum (a ++ b) = sum a + sum b := by
  induction a with
  | nil => simp [sum]
  | cons x t ih => simp only [List.cons_append, sum, ih]; omega
theorem sum_take (fs : List F) (k : Nat) (hk : k < fs.length) : sum (fs.take (k + 1)) = sum (fs.take k) + fs[k]!.qty := by
  rw [List.take_succ_eq_append_getElem hk, sum_append, getE _ _ hk]; simp only [sum]; omega
theorem sum_len (fs : List F) (h : ∀ f ∈ fs, 1 ≤ f.qty) : (fs.length : Int) ≤ sum fs := by
  induction fs with
  | nil => simp [sum]
  | cons x t ih =>
    have h1 := h x (by simp)
    have h2 := ih (fun f hf => h f (by simp [hf]))
    simp only [sum, List.length_cons]; omega
theorem sum_pos (fs : List F) (h : ∀ f ∈ fs, 1 ≤ f.qty) : 0 ≤ sum fs := by have := sum_len fs h; omega
theorem sum_take_le (fs : List F) (k : Nat) (h : ∀ f ∈ fs, 1 ≤ f.qty) : 0 ≤ sum (fs.take k) ∧ sum (fs.take k) ≤ sum fs := by
  have h1 := sum_pos (fs.take k) (fun f hf => h f (List.mem_of_mem_take hf))
  have h2 := sum_pos (fs.drop k) (fun f hf => h f (List.mem_of_mem_drop hf))
  have h3 := sum_append (fs.take k) (fs.drop k)
  rw [List.take_append_drop] at h3
  omega
/-- What is taken of a queue that is right. -/
theorem take_all {q : Int} {zs : List R} (h0 : qchk zs = 0) (h1 : 1 ≤ q) : sum (take q zs).1 ≤ q ∧ 0 ≤ sum (take q zs).1 ∧ ((take q zs).1.length : Int) ≤ sum (take q zs).1 ∧ qchk (take q zs).2 = 0 ∧ (sum (take q zs).1 < q → (take q zs).2 = []) ∧
    (∀ f ∈ (take q zs).1, 1 ≤ f.qty ∧ f.qty ≤ q) ∧ sum (take q zs).1 + tot (take q zs).2 = tot zs := by
  obtain ⟨h60, hg⟩ := (qchk_zero zs).1 h0
  obtain ⟨f1, f2, f3, f4, f5, f6, f7, f8⟩ := take_facts q.toNat q zs (by omega) hg (by omega)
  exact ⟨f4, f8, sum_len _ (fun f hf => (f5 f hf).1), (qchk_zero _).2 ⟨by omega, f1⟩, f6, f5, f3⟩
/-- Where something is left of the rests nothing is left of what was wanted. -/
theorem take_last {q : Int} {zs : List R} (h0 : qchk zs = 0) (h1 : 1 ≤ q) (he : ¬ (take q zs).2 = []) : q - sum (take q zs).1 = 0 := by
  obtain ⟨a, b, c, d, e, f⟩ := take_all h0 h1
  by_cases h : sum (take q zs).1 < q
  · exact absurd (e h) he
  · omega
end Go.Proofs.Ytnjpjieedgmffaa.mee
