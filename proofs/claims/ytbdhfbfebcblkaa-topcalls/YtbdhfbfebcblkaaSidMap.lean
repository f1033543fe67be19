/- Contracts over this seat's translation: side.leads, side.checkLevel, side.count. Plain facts on who comes and who rests: what an order takes of the other side, level by level. No walk. Contracts over this seat's translation: side.count. Plain facts on the map of places: what it holds behind some stores. No walk. -/
import Derived.Test.YtbdhfbfebcblkaaQueChk
import Derived.Test.YtbdhfbfebcblkaaTickP
import Derived.Test.YtbdhfbfebcblkaaMeeOrd
import Derived.Test.YtbdhfbfebcblkaaQuePure2
import Derived.Maps.OwnSet
namespace Go.Proofs.Ytbdhfbfebcblkaa.sid
open Go.RowKit Go.Proofs.Ytbdhfbfebcblkaa.spn Go.Proofs.Ytbdhfbfebcblkaa.que
open Go.Proofs.Ytbdhfbfebcblkaa.tickP (errB priceB sideB betOk betR tprice_V better_V)

/-- A level. -/
structure L where
  price : Int
  rests : List R
deriving Inhabited

/-- Who comes from the other side meets a before b. -/
def leadB (s a b : Int) : Bool := betR (wrap64 (3 - s)) a b
/-- What is wrong with a level. -/
def lchk (l : L) : Int := if priceB l.price = true then (if l.rests = [] then 3 else qchk l.rests) else 1
/-- How many rests there are. -/
def cnt : List L → Int
  | [] => 0
  | l :: t => l.rests.length + cnt t

theorem betR_ok {s a b : Int} (h : betOk s a b = false) : betR s a b = false := by unfold betR; rw [h]; rfl
theorem leads_V (V : World) (s a b : Int) (w : World) (hV : Below V.heap.size V w) :
    Calls Try.prog 75 #[.int .i64 s, .int .i64 a, .int .i64 b] w fun e w' => e = .returned (.bool (leadB s a b)) ∧ Below V.heap.size V w' := by
  unfold leadB
  have hcon := better_V V (wrap64 (3 - s)) a b w hV
  cases hk : betOk (wrap64 (3 - s)) a b
  · rw [betR_ok hk, hk] at hcon
    rw [betR_ok hk]
    simp only [show errB false = .iface 64 (.int .i64 1) from rfl] at hcon
    clear hk hV
    go_enter Try.func75, Try.ntmps75
    go_wp2_with fail
    refine hcon.mono ?_
    rintro e w1 ⟨rfl, h1⟩
    clear hcon
    go_wp2_with fail
    go_ret
    exact ⟨rfl, h1⟩
  · rw [hk] at hcon
    simp only [show errB true = .nilIface from rfl] at hcon
    generalize betR (wrap64 (3 - s)) a b = r at *
    clear hk hV
    go_enter Try.func75, Try.ntmps75
    go_wp2_with fail
    refine hcon.mono ?_
    rintro e w1 ⟨rfl, h1⟩
    clear hcon
    go_wp2_with fail
    go_ret
    exact ⟨rfl, h1⟩

/-- .. or nothing at all, wherever it points. -/
def SLe (w : World) (v : Value) (zs : List R) : Prop := SL w v zs ∨ (zs = [] ∧ ∃ q c, v = .slice q 0 c)
theorem SLe.below {w w' : World} {v : Value} {zs : List R} (h : SLe w v zs) (hB : Below w.heap.size w w') : SLe w' v zs := h.imp (fun h => h.below hB) id
theorem SLe.sl {w : World} {v : Value} {zs : List R} (h : SLe w v zs) (hne : ¬ zs = []) : SL w v zs := h.elim id (fun h => absurd h.1 hne)
theorem sl_form {w : World} {v : Value} {zs : List R} (h : SLe w v zs) : ∃ p c, v = .slice p zs.length c := by
  rcases h with (⟨rfl, rfl⟩ | ⟨b, o, c, h1, _⟩) | ⟨rfl, q, c, h1⟩
  · exact ⟨none, 0, rfl⟩
  · exact ⟨_, c, h1⟩
  · exact ⟨q, c, h1⟩
theorem len_pos {zs : List R} (h : ¬ zs = []) : ¬ zs.length = 0 := fun e => h (List.length_eq_zero_iff.1 e)

set_option maxRecDepth 100000 in
set_option maxHeartbeats 1000000 in
theorem checkLevel_any (p : Int) (v : Value) (zs : List R) (w : World) (h : SLe w v zs) :
    Calls Try.prog 74 #[.agg #[.int .i64 p, v]] w fun e w' => e = .returned (errV (lchk ⟨p, zs⟩)) ∧ Below w.heap.size w w' := by
  obtain ⟨q, c, hv⟩ := sl_form h
  have HS : Hid (SLe w v zs) := h
  clear h
  cases hk : priceB p
  · have e : lchk ⟨p, zs⟩ = 1 := by unfold lchk; simp [hk]
    rw [e]
    subst hv
    have HC := fun V W h => tprice_V V p W h
    rw [hk] at HC
    simp only [show errB false = .iface 64 (.int .i64 1) from rfl] at HC
    clear hk e
    generalize zs.length = n at *
    go_enter Try.func74, Try.ntmps74
    go_wp2_with fail
    have hR := heap_alloc_new w (.cells #[.int .i64 p, .slice q n c] 44)
    have hV : Below w.heap.size w (w.alloc (.cells #[.int .i64 p, .slice q n c] 44)) := (Below.refl _ _).alloc (Nat.le_refl _) _
    generalize w.alloc (.cells #[.int .i64 p, .slice q n c] 44) = V at *
    have d1 : V.cell? ⟨w.heap.size, 1, none⟩ = some (.slice q n c) := by simp [World.cell?, hR]
    refine (HC V _ (Below.refl _ _)).mono ?_
    rintro e w1 ⟨rfl, h1⟩
    have e1 := keeps h1 d1
    have h2 := hV.trans (h1.mono hV.size)
    clear HC hR d1
    go_wp2_with fail
    go_ret
    exact ⟨rfl, h2⟩
  · have HC := fun V W h => tprice_V V p W h
    rw [hk] at HC
    simp only [show errB true = .nilIface from rfl] at HC
    by_cases hz : zs = []
    · have e : lchk ⟨p, zs⟩ = 3 := by unfold lchk; simp [hk, hz]
      rw [e]
      subst hv
      subst hz
      clear hk e
      go_enter Try.func74, Try.ntmps74
      go_wp2_with fail
      have hR := heap_alloc_new w (.cells #[.int .i64 p, .slice q (List.length ([] : List R)) c] 44)
      have hV : Below w.heap.size w (w.alloc (.cells #[.int .i64 p, .slice q (List.length ([] : List R)) c] 44)) := (Below.refl _ _).alloc (Nat.le_refl _) _
      generalize w.alloc (.cells #[.int .i64 p, .slice q (List.length ([] : List R)) c] 44) = V at *
      have d1 : V.cell? ⟨w.heap.size, 1, none⟩ = some (.slice q (List.length ([] : List R)) c) := by simp [World.cell?, hR]
      refine (HC V _ (Below.refl _ _)).mono ?_
      rintro e w1 ⟨rfl, h1⟩
      have e1 := keeps h1 d1
      have h2 := hV.trans (h1.mono hV.size)
      clear HC hR d1
      go_wp2_with fail
      go_ret
      exact ⟨rfl, h2⟩
    · have e : lchk ⟨p, zs⟩ = qchk zs := by unfold lchk; simp [hk, hz]
      rw [e]
      have HQ : Hid (∀ W, SL W v zs → Calls Try.prog 80 #[v] W fun e w' => e = .returned (errV (qchk zs)) ∧ Below W.heap.size W w') := fun W h => qcheck_any v zs W h
      generalize errV (qchk zs) = E at *
      have hp := len_pos hz
      have HSB : Hid (∀ W, Below w.heap.size w W → SL W v zs) := fun W hW => (HS.out.below hW).sl hz
      subst hv
      clear hk e hz HS
      go_enter Try.func74, Try.ntmps74
      go_wp2_with fail
      have hR := heap_alloc_new w (.cells #[.int .i64 p, .slice q zs.length c] 44)
      have hV : Below w.heap.size w (w.alloc (.cells #[.int .i64 p, .slice q zs.length c] 44)) := (Below.refl _ _).alloc (Nat.le_refl _) _
      generalize w.alloc (.cells #[.int .i64 p, .slice q zs.length c] 44) = V at *
      have d1 : V.cell? ⟨w.heap.size, 1, none⟩ = some (.slice q zs.length c) := by simp [World.cell?, hR]
      refine (HC V _ (Below.refl _ _)).mono ?_
      rintro e w1 ⟨rfl, h1⟩
      have e1 := keeps h1 d1
      have h2 := hV.trans (h1.mono hV.size)
      clear HC hR d1
      go_wp2_with fail
      refine (HQ.out w1 (HSB.out w1 h2)).mono ?_
      rintro e w2 ⟨rfl, h3⟩
      have h4 := h2.trans (h3.mono h2.size)
      go_wp2_with fail
      go_ret
      exact ⟨rfl, h4⟩
end Go.Proofs.Ytbdhfbfebcblkaa.sid
namespace Go.Proofs.Ytbdhfbfebcblkaa.mee
open Go.RowKit Go.Proofs.Ytbdhfbfebcblkaa.spn Go.Proofs.Ytbdhfbfebcblkaa.que Go.Proofs.Ytbdhfbfebcblkaa.sid
open Go.Proofs.Ytbdhfbfebcblkaa.ord (O mB chk)

/-- A trade. -/
structure T where
  maker : Int
  taker : Int
  frm : Int
  into : Int
  price : Int
  qty : Int
deriving DecidableEq, Inhabited

/-- The trade of a fill. -/
def trd (o : O) (p : Int) (f : F) : T := if o.side = 1 then ⟨f.id, o.id, f.who, o.who, p, f.qty⟩ else ⟨f.id, o.id, o.who, f.who, p, f.qty⟩
/-- What an order takes of levels: what is left of them, the trades, what is left of it. -/
def tkl (o : O) : List L → Int → List L × List T × Int
  | [], q => ([], [], q)
  | l :: t, q => if q ≤ 0 then (l :: t, [], q) else if mB o l.price = false then (l :: t, [], q) else
      if (take q l.rests).2 = [] then ((tkl o t (q - sum (take q l.rests).1)).1, (take q l.rests).1.map (trd o l.price) ++ (tkl o t (q - sum (take q l.rests).1)).2.1, (tkl o t (q - sum (take q l.rests).1)).2.2)
      else (⟨l.price, (take q l.rests).2⟩ :: t, (take q l.rests).1.map (trd o l.price), q - sum (take q l.rests).1)
theorem tkl_zero {o : O} {ls : List L} {q : Int} (h : q ≤ 0) : tkl o ls q = (ls, [], q) := by
  cases ls with
  | nil => rfl
  | cons l t => unfold tkl; rw [if_pos h]
theorem tkl_stop {o : O} {l : L} {t : List L} {q : Int} (h : mB o l.price = false) : tkl o (l :: t) q = (l :: t, [], q) := by
  unfold tkl
  by_cases h0 : q ≤ 0
  · rw [if_pos h0]
  · rw [if_neg h0, if_pos h]
theorem tkl_gone {o : O} {l : L} {t : List L} {q : Int} (h : 0 < q) (hm : mB o l.price = true) (he : (take q l.rests).2 = []) :
    tkl o (l :: t) q = ((tkl o t (q - sum (take q l.rests).1)).1, (take q l.rests).1.map (trd o l.price) ++ (tkl o t (q - sum (take q l.rests).1)).2.1, (tkl o t (q - sum (take q l.rests).1)).2.2) := by
  rw [tkl, if_neg (by omega), if_neg (by rw [hm]; decide), if_pos he]
theorem tkl_last {o : O} {l : L} {t : List L} {q : Int} (h : 0 < q) (hm : mB o l.price = true) (he : ¬ (take q l.rests).2 = []) :
    tkl o (l :: t) q = (⟨l.price, (take q l.rests).2⟩ :: t, (take q l.rests).1.map (trd o l.price), q - sum (take q l.rests).1) := by
  rw [tkl, if_neg (by omega), if_neg (by rw [hm]; decide), if_neg he]

theorem sum_append (a b : List F) : sum (a ++ b) = sum a + sum b := by
  induction a with
  | nil => simp [sum]
  | cons x t ih => simp only [List.cons_append, sum, ih]; omega
theorem sum_take (fs : List F) (k : Nat) (hk : k < fs.length) : sum (fs.take (k + 1)) = sum (fs.take k) + fs[k]!.qty := by
  rw [List.take_succ_eq_append_getElem hk, sum_append, getE _ _ hk]; simp only [sum]; omega
theorem sum_len (fs : List F) (h : ∀ f ∈ fs, 1 ≤ f.qty) : (fs.length : Int) ≤ sum fs := by
  induction fs with
  | nil => simp [sum]
  | cons x t ih =>
    have h1 := h x (by simp)
    have h2 := ih (fun f hf => h f (by simp [hf]))
    simp only [sum, List.length_cons]; omega
theorem sum_pos (fs : List F) (h : ∀ f ∈ fs, 1 ≤ f.qty) : 0 ≤ sum fs := by have := sum_len fs h; omega
theorem sum_take_le (fs : List F) (k : Nat) (h : ∀ f ∈ fs, 1 ≤ f.qty) : 0 ≤ sum (fs.take k) ∧ sum (fs.take k) ≤ sum fs := by
  have h1 := sum_pos (fs.take k) (fun f hf => h f (List.mem_of_mem_take hf))
  have h2 := sum_pos (fs.drop k) (fun f hf => h f (List.mem_of_mem_drop hf))
  have h3 := sum_append (fs.take k) (fs.drop k)
  rw [List.take_append_drop] at h3
  omega
/-- What is taken of a queue that is right. -/
theorem take_all {q : Int} {zs : List R} (h0 : qchk zs = 0) (h1 : 1 ≤ q) : sum (take q zs).1 ≤ q ∧ 0 ≤ sum (take q zs).1 ∧ ((take q zs).1.length : Int) ≤ sum (take q zs).1 ∧ qchk (take q zs).2 = 0 ∧ (sum (take q zs).1 < q → (take q zs).2 = []) ∧
    (∀ f ∈ (take q zs).1, 1 ≤ f.qty ∧ f.qty ≤ q) ∧ sum (take q zs).1 + tot (take q zs).2 = tot zs := by
  obtain ⟨h60, hg⟩ := (qchk_zero zs).1 h0
  obtain ⟨f1, f2, f3, f4, f5, f6, f7, f8⟩ := take_facts q.toNat q zs (by omega) hg (by omega)
  exact ⟨f4, f8, sum_len _ (fun f hf => (f5 f hf).1), (qchk_zero _).2 ⟨by omega, f1⟩, f6, f5, f3⟩
/-- Where something is left of the rests nothing is left of what was wanted. -/
theorem take_last {q : Int} {zs : List R} (h0 : qchk zs = 0) (h1 : 1 ≤ q) (he : ¬ (take q zs).2 = []) : q - sum (take q zs).1 = 0 := by
  obtain ⟨a, b, c, d, e, f⟩ := take_all h0 h1
  by_cases h : sum (take q zs).1 < q
  · exact absurd (e h) he
  · omega
end Go.Proofs.Ytbdhfbfebcblkaa.mee
namespace Go.Proofs.Ytbdhfbfebcblkaa.sid
open Go.RowKit Go.Proofs.Ytbdhfbfebcblkaa.spn Go.Proofs.Ytbdhfbfebcblkaa.que

/-- Levels lie there one behind the other, and the rests of each where its slice points. -/
def LL (w : World) (b o : Nat) (ls : List L) : Prop := ∀ k, k < ls.length → w.cell? ⟨b, o + k * 2, none⟩ = some (.int .i64 ls[k]!.price) ∧ ∃ v, w.cell? ⟨b, o + k * 2 + 1, none⟩ = some v ∧ SLe w v ls[k]!.rests
/-- A slice value that reads as a list of levels. -/
def LS (w : World) (v : Value) (ls : List L) : Prop :=
  (v = .slice none 0 0 ∧ ls = []) ∨ ∃ b o c, v = .slice (some ⟨b, o, none⟩) ls.length c ∧ ls.length ≤ c ∧ c ≤ 9223372036854775807 ∧ b < w.heap.size ∧ LL w b o ls
theorem LL.below {w w' : World} {b o : Nat} {ls : List L} (h : LL w b o ls) (hb : b < w.heap.size) (hB : Below w.heap.size w w') : LL w' b o ls := by
  intro k hk
  obtain ⟨h1, v, h2, h3⟩ := h k hk
  exact ⟨(hB.cell (p := ⟨b, o + k * 2, none⟩) hb).trans h1, v, (hB.cell (p := ⟨b, o + k * 2 + 1, none⟩) hb).trans h2, h3.below hB⟩
theorem LS.below {w w' : World} {v : Value} {ls : List L} (h : LS w v ls) (hB : Below w.heap.size w w') : LS w' v ls := by
  rcases h with h | ⟨b, o, c, h1, h2, h3, h4, h5⟩
  · exact .inl h
  · exact .inr ⟨b, o, c, h1, h2, h3, Nat.lt_of_lt_of_le h4 hB.size, h5.below h4 hB⟩
theorem LL.at {w : World} {b o k : Nat} {ls : List L} (h : LL w b o ls) (hk : k < ls.length) {p : Int} {zs : List R} (he : ls[k]! = ⟨p, zs⟩) :
    ∃ q c, w.cell? ⟨b, o + k * 2, none⟩ = some (.int .i64 p) ∧ w.cell? ⟨b, o + k * 2 + 1, none⟩ = some (.slice q zs.length c) ∧ SLe w (.slice q zs.length c) zs := by
  obtain ⟨h1, v, h2, h3⟩ := h k hk
  rw [he] at h1 h3
  obtain ⟨q, c, hv⟩ := sl_form h3
  subst hv
  exact ⟨q, c, h1, h2, h3⟩
theorem ldrop_at {ls : List L} {k : Nat} (hk : k < ls.length) : ls.drop k = ls[k]! :: ls.drop (k + 1) := by
  rw [List.drop_eq_getElem_cons hk, getE _ _ hk]
theorem ltake_at {ls : List L} {k : Nat} (hk : k < ls.length) : ls.take (k + 1) = ls.take k ++ [ls[k]!] := by
  rw [List.take_succ_eq_append_getElem hk, getE _ _ hk]
theorem cnt_append (a b : List L) : cnt (a ++ b) = cnt a + cnt b := by
  induction a with
  | nil => simp [cnt]
  | cons x t ih => simp only [List.cons_append, cnt, ih]; omega
theorem cnt_take (ls : List L) (k : Nat) (hk : k < ls.length) : cnt (ls.take (k + 1)) = cnt (ls.take k) + (ls[k]!.rests.length : Int) := by
  rw [ltake_at hk, cnt_append]; simp only [cnt]; omega
theorem cnt_le (ls : List L) (h : ∀ l ∈ ls, l.rests.length ≤ 60) : 0 ≤ cnt ls ∧ cnt ls ≤ 60 * (ls.length : Int) := by
  induction ls with
  | nil => simp [cnt]
  | cons x t ih =>
    have h1 := h x (by simp)
    have h2 := ih (fun l hl => h l (by simp [hl]))
    simp only [cnt, List.length_cons]
    omega

set_option maxRecDepth 100000 in
set_option maxHeartbeats 1000000 in
theorem count_some (b o c : Nat) (ls : List L) (w : World) (hb : b < w.heap.size) (hc : ls.length ≤ c) (hl : LL w b o ls) (h60 : ∀ l ∈ ls, l.rests.length ≤ 60) (h10 : ls.length ≤ 10000) :
    Calls Try.prog 76 #[.slice (some ⟨b, o, none⟩) ls.length c] w fun e w' => e = .returned (.int .i64 (cnt ls)) ∧ Below w.heap.size w w' := by
  have HG : Hid (∀ l ∈ ls, l.rests.length ≤ 60) := h60
  have HL : Hid (LL w b o ls) := hl
  clear hl h60
  generalize hT : cnt ls = T
  have HT : Hid (cnt ls = T) := hT
  clear hT
  generalize hn : ls.length = n at *
  have HN : Hid (ls.length = n) := hn
  clear hn
  go_enter Try.func76, Try.ntmps76
  go_wp2_with fail
  go_loopg [3, 5, 8] n (fun gg s5 _ s15 wr => ∃ kk : Nat, kk ≤ n ∧ n - kk ≤ gg ∧ s15 = .int .i64 kk ∧ s5 = .int .i64 (cnt (ls.take kk)) ∧ Aside (Below w.heap.size w wr))
  case atStart => exact ⟨0, Nat.zero_le _, by omega, rfl, rfl, Below.refl _ _⟩
  case round =>
    obtain ⟨kk, hkk, hg, rfl, rfl, BW⟩ := hrel
    have hA : Hid (0 ≤ cnt (ls.take kk) ∧ cnt (ls.take kk) ≤ 60 * (kk : Int)) := by
      have := cnt_le (ls.take kk) (fun r hr => HG.out r (List.mem_of_mem_take hr))
      rw [List.length_take, HN.out, Nat.min_eq_left hkk] at this
      exact this
    by_cases hlt : kk < n
    · have hltz : (kk : Int) < (n : Int) := by omega
      have hlz : kk < ls.length := by rw [HN.out]; exact hlt
      have LW : Hid (LL wr b o ls) := HL.out.below hb BW.out
      obtain ⟨r, hr⟩ : ∃ r, ls[kk]! = r := ⟨_, rfl⟩
      obtain ⟨p, zs⟩ := r
      obtain ⟨q, cc, c0, c1, hs⟩ := LW.out.at hlz hr
      have hq := HG.out ls[kk]! (by rw [getE _ _ hlz]; exact List.getElem_mem hlz)
      rw [hr] at hq
      simp only [] at hq
      have hTT : Hid (cnt (ls.take (kk + 1)) = cnt (ls.take kk) + (zs.length : Int)) := by
        have := cnt_take ls kk hlz
        rw [hr] at this
        exact this
      clear hr hs
      obtain ⟨t1, t2⟩ := hA.out
      clear hA
      generalize cnt (ls.take kk) = t at *
      generalize zs.length = m at *
      have hbw : b < wr.heap.size := Nat.lt_of_lt_of_le hb BW.out.size
      have hin1 : ¬ ((kk : Int) < 0) := by omega
      have e2 : wrap64 (t + (m : Int)) = t + (m : Int) := by unfold wrap64; omega
      go_wp2_with fail
      go_roundg (n - (kk + 1))
      case measure => omega
      case rel => exact ⟨kk + 1, by omega, by omega, by go_num, by rw [hTT.out], BW.out.alloc BW.out.size _⟩
    · have hltz : ¬ (kk : Int) < (n : Int) := by omega
      have hk : kk = n := by omega
      subst hk
      have hT2 : cnt (ls.take kk) = T := by rw [← HT.out, List.take_of_length_le (by rw [HN.out]; exact Nat.le_refl _)]
      rw [hT2]
      go_wp2_with fail
      go_ret
      exact ⟨rfl, BW.out⟩
theorem count_nil (w : World) :
    Calls Try.prog 76 #[.slice none 0 0] w fun e w' => e = .returned (.int .i64 0) ∧ Below w.heap.size w w' := by
  go_enter Try.func76, Try.ntmps76
  go_wp2_with fail
  go_loopg [3, 5, 8] 0 (fun _ s5 _ s15 wr => s15 = .int .i64 0 ∧ s5 = .int .i64 0 ∧ wr = w)
  case atStart => exact ⟨rfl, rfl, rfl⟩
  case round =>
    obtain ⟨rfl, rfl, rfl⟩ := hrel
    go_wp2_with fail
    go_ret
    exact ⟨rfl, Below.refl _ _⟩
/-- count, at a side whose levels are not too many. -/
theorem count_any (v : Value) (ls : List L) (w : World) (h : LS w v ls) (h60 : ∀ l ∈ ls, l.rests.length ≤ 60) (h10 : ls.length ≤ 10000) :
    Calls Try.prog 76 #[v] w fun e w' => e = .returned (.int .i64 (cnt ls)) ∧ Below w.heap.size w w' := by
  rcases h with ⟨rfl, rfl⟩ | ⟨b, o, c, rfl, h2, h3, h4, h5⟩
  · exact count_nil w
  · exact count_some b o c ls w h4 h2 h5 h60 h10
end Go.Proofs.Ytbdhfbfebcblkaa.sid
namespace Go.Proofs.Ytbdhfbfebcblkaa.sid
open Go.RowKit Go.Proofs.Ytbdhfbfebcblkaa.spn Go.Proofs.Ytbdhfbfebcblkaa.que Go.Maps

theorem snocRec {α : Type} {p : List α → Prop} (nil : p []) (snoc : ∀ l x, p l → p (l ++ [x])) (l : List α) : p l := by
  have h : ∀ r : List α, p r.reverse := by
    intro r
    induction r with
    | nil => exact nil
    | cons x t ih => rw [List.reverse_cons]; exact snoc _ _ ih
  have := h l.reverse
  rwa [List.reverse_reverse] at this
/-- A place as the program holds it, and how it reads. -/
def plV (i k : Int) : Value := .agg #[.int .i64 i, .int .i64 k]
def plD (i k : Int) : DataW Unit := .agg [.lit (.int .i64 i), .lit (.int .i64 k)]
def plR (v : Value) : Option (DataW Unit × List MemPlace) :=
  match v with
  | .agg a => match a.toList with
    | [.int .i64 x, .int .i64 y] => some (plD x y, [])
    | _ => none
  | _ => none
theorem plR_mk (i k : Int) : plR (.agg #[.int .i64 i, .int .i64 k]) = some (plD i k, []) := rfl
theorem plR_inv {v : Value} {i k : Int} {ps : List MemPlace} (h : plR v = some (plD i k, ps)) : v = .agg #[.int .i64 i, .int .i64 k] := by
  unfold plR at h
  split at h
  · rename_i a
    split at h
    · rename_i x y e
      simp only [plD, Option.some.injEq, Prod.mk.injEq, DataW.agg.injEq, List.cons.injEq, DataW.lit.injEq, Lit.int.injEq, true_and, and_true] at h
      obtain ⟨⟨rfl, rfl⟩, -⟩ := h
      rw [show a = #[.int .i64 x, .int .i64 y] from by rw [← Array.toArray_toList (xs := a), e]]
    · cases h
  · cases h

/-- The stores, in their order: an id, a level, a place there. -/
abbrev P3 := Int × Int × Int
def mapD (ps : List P3) : DataW Unit := ps.foldl (fun D x => D.put (.int .i64 x.1) (plD x.2.1 x.2.2)) (.map [])
theorem mapD_nil : mapD [] = .map [] := rfl
theorem mapD_snoc (ps : List P3) (x : P3) : mapD (ps ++ [x]) = (mapD ps).put (.int .i64 x.1) (plD x.2.1 x.2.2) := by
  unfold mapD; rw [List.foldl_append]; rfl
theorem isKey (n : Int) : WideAt.IsKeyLit (.int .i64 n) := by simp [WideAt.IsKeyLit]
theorem mapD_tidy (ps : List P3) : Tidy (mapD ps) := by
  induction ps using snocRec with
  | nil => exact tidy_empty
  | snoc ps x ih => rw [mapD_snoc]; exact ih.put (isKey _) _
theorem mapD_has (ps : List P3) (id : Int) : Maps.has (mapD ps) (.int .i64 id) = ps.any (fun x => decide (x.1 = id)) := by
  induction ps using snocRec with
  | nil => rfl
  | snoc ps x ih =>
    rw [mapD_snoc, List.any_append]
    by_cases h : x.1 = id
    · rw [← h, has_put_same (mapD_tidy ps).isMap (isKey _)]; simp
    · rw [has_put_other (by simp; exact fun e => h e.symm), ih]; simp [h]
/-- The last store at an id. -/
def lastAt (ps : List P3) (id : Int) : Option P3 := ps.reverse.find? (fun x => decide (x.1 = id))
theorem mapD_at (ps : List P3) (id : Int) (z : DataW Unit) : (mapD ps).atKey (.int .i64 id) z = match lastAt ps id with | some x => plD x.2.1 x.2.2 | none => z := by
  induction ps using snocRec with
  | nil => rfl
  | snoc ps x ih =>
    rw [mapD_snoc]
    unfold lastAt
    rw [List.reverse_append]
    by_cases h : x.1 = id
    · rw [← h, atKey_put_same (mapD_tidy ps).isMap (isKey _)]; simp
    · rw [atKey_put_other (by simp; exact fun e => h e.symm), ih]; simp [h, lastAt]
theorem mapD_le (ps : List P3) : Maps.size (mapD ps) ≤ ps.length := by
  induction ps using snocRec with
  | nil => exact Nat.le_refl _
  | snoc ps x ih => rw [mapD_snoc, size_put (mapD_tidy ps)]; simp; split <;> omega
/-- As many entries as stores just where no id was stored twice. -/
theorem mapD_size (ps : List P3) : Maps.size (mapD ps) = ps.length ↔ (ps.map (·.1)).Nodup := by
  induction ps using snocRec with
  | nil => simp [mapD, Maps.size]
  | snoc ps x ih =>
    rw [mapD_snoc, size_put (mapD_tidy ps), mapD_has]
    have hle := mapD_le ps
    rw [List.map_append, List.nodup_append, List.length_append]
    by_cases h : ps.any (fun y => decide (y.1 = x.1)) = true
    · rw [if_pos h]
      constructor
      · intro e; simp at e; omega
      · rintro ⟨-, -, h3⟩
        obtain ⟨y, hy, e⟩ := List.any_eq_true.1 h
        exact absurd (of_decide_eq_true e) (h3 y.1 (List.mem_map.2 ⟨y, hy, rfl⟩) x.1 (by simp))
    · rw [if_neg h]
      constructor
      · intro e
        refine ⟨ih.1 (by simp at e; omega), by simp, ?_⟩
        intro a ha b hb e2
        obtain ⟨y, hy, rfl⟩ := List.mem_map.1 ha
        simp at hb
        exact h (List.any_eq_true.2 ⟨y, hy, by simp [e2, hb]⟩)
      · rintro ⟨h1, -, -⟩
        rw [ih.2 h1]; simp

/-- The stores of a level, and of levels. -/
def rowP (i : Int) (k : Int) : List R → List P3
  | [] => []
  | r :: t => (r.id, i, k) :: rowP i (k + 1) t
def flatP (i : Int) : List L → List P3
  | [] => []
  | l :: t => rowP i 0 l.rests ++ flatP (i + 1) t
theorem rowP_snoc (i k : Int) (zs : List R) (r : R) : rowP i k (zs ++ [r]) = rowP i k zs ++ [(r.id, i, k + zs.length)] := by
  induction zs generalizing k with
  | nil => simp [rowP]
  | cons x t ih =>
    simp only [List.cons_append, rowP, ih, List.length_cons]
    rw [show k + 1 + (t.length : Int) = k + ((t.length + 1 : Nat) : Int) by omega]
theorem flatP_snoc (i : Int) (ls : List L) (l : L) : flatP i (ls ++ [l]) = flatP i ls ++ rowP (i + ls.length) 0 l.rests := by
  induction ls generalizing i with
  | nil => simp [flatP]
  | cons x t ih =>
    simp only [List.cons_append, flatP, ih, List.length_cons, List.append_assoc]
    rw [show i + 1 + (t.length : Int) = i + ((t.length + 1 : Nat) : Int) by omega]
theorem rowP_len (i k : Int) (zs : List R) : (rowP i k zs).length = zs.length := by
  induction zs generalizing k with
  | nil => rfl
  | cons x t ih => simp [rowP, ih]
theorem flatP_len (i : Int) (ls : List L) : ((flatP i ls).length : Int) = cnt ls := by
  induction ls generalizing i with
  | nil => rfl
  | cons x t ih => simp only [flatP, List.length_append, rowP_len, cnt, ← ih (i + 1)]; omega
theorem rowP_ids (i k : Int) (zs : List R) : (rowP i k zs).map (·.1) = zs.map (·.id) := by
  induction zs generalizing k with
  | nil => rfl
  | cons x t ih => simp [rowP, ih]
theorem flatP_ids (i : Int) (ls : List L) : (flatP i ls).map (·.1) = (ls.flatMap (·.rests)).map (·.id) := by
  induction ls generalizing i with
  | nil => rfl
  | cons x t ih => simp only [flatP, List.map_append, rowP_ids, ih, List.flatMap_cons]
end Go.Proofs.Ytbdhfbfebcblkaa.sid
