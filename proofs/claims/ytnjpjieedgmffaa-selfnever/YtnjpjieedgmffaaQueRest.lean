/- Contracts over this seat's translation: queue.Rest. -/
import Derived.Test.YtnjpjieedgmffaaSpanChk
import Derived.Test.YtnjpjieedgmffaaQuePure2
namespace Go.Proofs.Ytnjpjieedgmffaa.que
open Go.RowKit Go.Proofs.Ytnjpjieedgmffaa.spn

def rV (r : R) : List Value := [.int .i64 r.id, .int .i64 r.who, .int .i64 r.qty, .int .i64 r.hid, .int .i64 r.shw]
def rA (r : R) : Value := .agg (rV r).toArray

theorem bal {V W : World} (h : Below V.heap.size V W) (o : Obj) : Below V.heap.size V (W.alloc o) := h.alloc h.size o
/-- A call of a function that keeps what lay there: both what it keeps of V, and of the world it was called in. -/
structure Kept (V W W' : World) : Prop where
  far : Below V.heap.size V W'
  cel : ∀ b o, b < W.heap.size → W'.cell? ⟨b, o, none⟩ = W.cell? ⟨b, o, none⟩
  fro : ∀ b o, b < W.heap.size → W'.frozen? ⟨b, o, none⟩ = W.frozen? ⟨b, o, none⟩
  siz : ∀ b, b < W.heap.size → b < W'.heap.size
theorem kept {V W W' : World} (h : Below V.heap.size V W) (h' : Below W.heap.size W W') : Kept V W W' :=
  ⟨h.trans (h'.mono h.size), fun b o hb => h'.cell (p := ⟨b, o, none⟩) hb, fun b o hb => h'.frozen (p := ⟨b, o, none⟩) hb, fun _ hb => Nat.lt_of_lt_of_le hb h'.size⟩
theorem p30 (W : World) (p : Nat) (x y z : Value) (h : (W.cell? ⟨p, 0, none⟩).isSome = true) :
    (((W.setCell ⟨p, 0, none⟩ x).setCell ⟨p, 1, none⟩ y).setCell ⟨p, 2, none⟩ z).cell? ⟨p, 0, none⟩ = some x := by
  rw [World.cell?_setCell_other _ _ _ _ (by simp), World.cell?_setCell_other _ _ _ _ (by simp), World.cell?_setCell_same' _ _ _ h]
theorem p31 (W : World) (p : Nat) (x y z : Value) (h : (W.cell? ⟨p, 1, none⟩).isSome = true) :
    (((W.setCell ⟨p, 0, none⟩ x).setCell ⟨p, 1, none⟩ y).setCell ⟨p, 2, none⟩ z).cell? ⟨p, 1, none⟩ = some y := by
  rw [World.cell?_setCell_other _ _ _ _ (by simp), World.cell?_setCell_same' _ _ _ (by rw [World.cell?_setCell_other _ _ _ _ (by simp)]; exact h)]
theorem p32 (W : World) (p : Nat) (x y z : Value) (h : (W.cell? ⟨p, 2, none⟩).isSome = true) :
    (((W.setCell ⟨p, 0, none⟩ x).setCell ⟨p, 1, none⟩ y).setCell ⟨p, 2, none⟩ z).cell? ⟨p, 2, none⟩ = some z := by
  rw [World.cell?_setCell_same' _ _ _ (by rw [World.cell?_setCell_other _ _ _ _ (by simp), World.cell?_setCell_other _ _ _ _ (by simp)]; exact h)]
theorem p3far (W : World) (p b o : Nat) (x y z : Value) (h : b < p ∨ p < b) :
    (((W.setCell ⟨p, 0, none⟩ x).setCell ⟨p, 1, none⟩ y).setCell ⟨p, 2, none⟩ z).cell? ⟨b, o, none⟩ = W.cell? ⟨b, o, none⟩ := by
  have hn : p ≠ b := by omega
  rw [World.cell?_setCell_far _ _ _ _ hn, World.cell?_setCell_far _ _ _ _ hn, World.cell?_setCell_far _ _ _ _ hn]
theorem ccp0 (W : World) (p q : Nat) (x y z x' y' z' : Value) (h : p < q ∨ q < p) (hp : (W.cell? ⟨p, 0, none⟩).isSome = true) :
    ((((((W.setCell ⟨p, 0, none⟩ x).setCell ⟨p, 1, none⟩ y).setCell ⟨p, 2, none⟩ z).setCell ⟨q, 0, none⟩ x').setCell ⟨q, 1, none⟩ y').setCell ⟨q, 2, none⟩ z').cell? ⟨p, 0, none⟩ = some x := by
  rw [p3far _ _ _ _ _ _ _ h, p30 _ _ _ _ _ hp]
theorem ccq0 (W : World) (p q : Nat) (x y z x' y' z' : Value) (h : p < q ∨ q < p) (hq : (W.cell? ⟨q, 0, none⟩).isSome = true) :
    ((((((W.setCell ⟨p, 0, none⟩ x).setCell ⟨p, 1, none⟩ y).setCell ⟨p, 2, none⟩ z).setCell ⟨q, 0, none⟩ x').setCell ⟨q, 1, none⟩ y').setCell ⟨q, 2, none⟩ z').cell? ⟨q, 0, none⟩ = some x' := by
  rw [p30]; rw [p3far _ _ _ _ _ _ _ (by omega)]; exact hq
theorem ccp1 (W : World) (p q : Nat) (x y z x' y' z' : Value) (h : p < q ∨ q < p) (hp : (W.cell? ⟨p, 1, none⟩).isSome = true) :
    ((((((W.setCell ⟨p, 0, none⟩ x).setCell ⟨p, 1, none⟩ y).setCell ⟨p, 2, none⟩ z).setCell ⟨q, 0, none⟩ x').setCell ⟨q, 1, none⟩ y').setCell ⟨q, 2, none⟩ z').cell? ⟨p, 1, none⟩ = some y := by
  rw [p3far _ _ _ _ _ _ _ h, p31 _ _ _ _ _ hp]
theorem ccq1 (W : World) (p q : Nat) (x y z x' y' z' : Value) (h : p < q ∨ q < p) (hq : (W.cell? ⟨q, 1, none⟩).isSome = true) :
    ((((((W.setCell ⟨p, 0, none⟩ x).setCell ⟨p, 1, none⟩ y).setCell ⟨p, 2, none⟩ z).setCell ⟨q, 0, none⟩ x').setCell ⟨q, 1, none⟩ y').setCell ⟨q, 2, none⟩ z').cell? ⟨q, 1, none⟩ = some y' := by
  rw [p31]; rw [p3far _ _ _ _ _ _ _ (by omega)]; exact hq
theorem ccp2 (W : World) (p q : Nat) (x y z x' y' z' : Value) (h : p < q ∨ q < p) (hp : (W.cell? ⟨p, 2, none⟩).isSome = true) :
    ((((((W.setCell ⟨p, 0, none⟩ x).setCell ⟨p, 1, none⟩ y).setCell ⟨p, 2, none⟩ z).setCell ⟨q, 0, none⟩ x').setCell ⟨q, 1, none⟩ y').setCell ⟨q, 2, none⟩ z').cell? ⟨p, 2, none⟩ = some z := by
  rw [p3far _ _ _ _ _ _ _ h, p32 _ _ _ _ _ hp]
theorem ccq2 (W : World) (p q : Nat) (x y z x' y' z' : Value) (h : p < q ∨ q < p) (hq : (W.cell? ⟨q, 2, none⟩).isSome = true) :
    ((((((W.setCell ⟨p, 0, none⟩ x).setCell ⟨p, 1, none⟩ y).setCell ⟨p, 2, none⟩ z).setCell ⟨q, 0, none⟩ x').setCell ⟨q, 1, none⟩ y').setCell ⟨q, 2, none⟩ z').cell? ⟨q, 2, none⟩ = some z' := by
  rw [p32]; rw [p3far _ _ _ _ _ _ _ (by omega)]; exact hq
theorem of_V (V : World) (n lo hi : Int) (w : World) (h : Below V.heap.size V w) :
    Calls Try.prog 21 #[.int .i64 n, .int .i64 lo, .int .i64 hi] w fun e w' => e = .returned (.agg #[.int .i64 n, .int .i64 lo, .int .i64 hi]) ∧ Kept V w w' :=
  (of_any n lo hi w).mono fun _ _ h' => ⟨h'.1, kept h h'.2⟩
theorem id_V (V : World) (n : Int) (w : World) (h : Below V.heap.size V w) :
    Calls Try.prog 52 #[.int .i64 n] w fun e w' => e = .returned (.agg #[.int .i64 n, .int .i64 1, .int .i64 9999]) ∧ Below V.heap.size V w' :=
  (id_any n w).mono fun _ _ h' => ⟨h'.1, h.trans (h'.2.mono h.size)⟩
theorem who_V (V : World) (n : Int) (w : World) (h : Below V.heap.size V w) :
    Calls Try.prog 53 #[.int .i64 n] w fun e w' => e = .returned (.agg #[.int .i64 n, .int .i64 1, .int .i64 9]) ∧ Below V.heap.size V w' :=
  (who_any n w).mono fun _ _ h' => ⟨h'.1, h.trans (h'.2.mono h.size)⟩
theorem qty_V (V : World) (n : Int) (w : World) (h : Below V.heap.size V w) :
    Calls Try.prog 56 #[.int .i64 n] w fun e w' => e = .returned (.agg #[.int .i64 n, .int .i64 1, .int .i64 10000]) ∧ Below V.heap.size V w' :=
  (qty_any n w).mono fun _ _ h' => ⟨h'.1, h.trans (h'.2.mono h.size)⟩

theorem range_any (a b c d e : Int) : [(a, 1, 9999), (b, 1, 9), (c, 1, 10000), (d, 0, 10000), (e, 0, 10000)].any spanB = !rangeB ⟨a, b, c, d, e⟩ := by
  rw [Bool.eq_iff_iff]
  simp [spanB, rangeB, inB]
  omega
theorem rchk_bad {a b c d e : Int} (h : rangeB ⟨a, b, c, d, e⟩ = false) : rchk ⟨a, b, c, d, e⟩ = 1 := by unfold rchk; rw [h]; rfl
theorem rchk_fine {a b c d e : Int} (h : rangeB ⟨a, b, c, d, e⟩ = true) : rchk ⟨a, b, c, d, e⟩ = if ((!(decide (e = 0) && !decide (d = 0))) && (!((!decide (e = 0)) && decide (e < c)))) = true then 0 else 3 := by unfold rchk; rw [if_pos h]; rfl

set_option maxRecDepth 100000 in
set_option maxHeartbeats 1000000 in
theorem rest_any (a b c d e : Int) (w : World) :
    Calls Try.prog 64 #[.agg #[.int .i64 a, .int .i64 b, .int .i64 c, .int .i64 d, .int .i64 e]] w
      fun x w' => x = .returned (errV (rchk ⟨a, b, c, d, e⟩)) ∧ Below w.heap.size w w' := by
  generalize hk : rchk ⟨a, b, c, d, e⟩ = k
  have HK : Hid (rchk ⟨a, b, c, d, e⟩ = k) := hk
  clear hk
  go_enter Try.func64, Try.ntmps64
  go_upto_region 1 with fail
  have hV : Below w.heap.size w (w.alloc (.cells #[.int .i64 a, .int .i64 b, .int .i64 c, .int .i64 d, .int .i64 e] 28)) := (Below.refl _ _).alloc (Nat.le_refl _) _
  have hR := heap_alloc_new w (.cells #[.int .i64 a, .int .i64 b, .int .i64 c, .int .i64 d, .int .i64 e] 28)
  have hz : w.heap.size < (w.alloc (.cells #[.int .i64 a, .int .i64 b, .int .i64 c, .int .i64 d, .int .i64 e] 28)).heap.size := by simp
  generalize w.alloc (.cells #[.int .i64 a, .int .i64 b, .int .i64 c, .int .i64 d, .int .i64 e] 28) = V at *
  have cel : ∀ i, V.cell? ⟨w.heap.size, i, none⟩ = (#[.int .i64 a, .int .i64 b, .int .i64 c, .int .i64 d, .int .i64 e] : Array Value)[i]? := fun i => by simp [World.cell?, hR]
  have c0 := cel 0
  have c1 := cel 1
  have c2 := cel 2
  have c3 := cel 3
  have c4 := cel 4
  simp only [List.getElem?_toArray, List.getElem?_cons_zero, List.getElem?_cons_succ] at c0 c1 c2 c3 c4
  clear cel hR
  have SO : Hid (∀ W, Below V.heap.size V W → (Below V.heap.size V W ∧ W.cell? ⟨w.heap.size, 3, none⟩ = some (.int .i64 d) ∧ W.cell? ⟨w.heap.size, 4, none⟩ = some (.int .i64 e))) := fun W hW => ⟨hW, keeps hW c3, keeps hW c4⟩
  go_cut [3, 4] from 8 to 13 (fun s3 s4 wx => ∃ p q, s3 = .pointer (some ⟨p, 0, none⟩) ∧ s4 = .pointer (some ⟨q, 0, none⟩) ∧ Below V.heap.size V wx ∧
    (wx.cell? ⟨p, 0, none⟩ = some (.int .i64 d) ∧ wx.cell? ⟨p, 1, none⟩ = some (.int .i64 0) ∧ wx.cell? ⟨p, 2, none⟩ = some (.int .i64 10000)) ∧
    (wx.cell? ⟨q, 0, none⟩ = some (.int .i64 e) ∧ wx.cell? ⟨q, 1, none⟩ = some (.int .i64 0) ∧ wx.cell? ⟨q, 2, none⟩ = some (.int .i64 10000)))
  case first =>
    go_region_held3 (fun W => Below V.heap.size V W ∧ W.cell? ⟨w.heap.size, 3, none⟩ = some (.int .i64 d) ∧ W.cell? ⟨w.heap.size, 4, none⟩ = some (.int .i64 e))
      ((refine SO.out _ ?_; (repeat' (first | with_reducible assumption | with_reducible refine bal ?_ _ | with_reducible refine Below.setCell ?_ ?_ _ | with_reducible refine Below.drew ?_ | with_reducible exact Below.refl _ _ | with_reducible exact Nat.le_refl _ | with_reducible exact Below.size (by with_reducible assumption) | with_reducible refine Nat.le_succ_of_le ?_))))
      (first | (go_at_call 21; refine (of_V V _ _ _ _ ?_).mono ?_; (repeat' (first | with_reducible assumption | with_reducible refine bal ?_ _ | with_reducible refine Below.setCell ?_ ?_ _ | with_reducible refine Below.drew ?_ | with_reducible exact Below.refl _ _ | with_reducible exact Nat.le_refl _ | with_reducible exact Below.size (by with_reducible assumption) | with_reducible refine Nat.le_succ_of_le ?_)); rintro x W ⟨rfl, hbn, hcn, hfn, hsn⟩; (try simp only [World.size_alloc, World.size_drew] at hsn hcn hfn); (try have hq0 : V.heap.size < W.heap.size := by first | exact hsn _ (by with_reducible assumption) | exact hsn _ (by omega)); (try have hq1 : V.heap.size + 1 < W.heap.size := by first | exact hsn _ (by with_reducible assumption) | exact hsn _ (by omega))))
    all_goals (go_wp2_with fail; go_meet; case rel => (clear SO c0 c1 c2 c3 c4 hV; refine ⟨_, _, rfl, rfl, (by (repeat' (first | with_reducible assumption | with_reducible refine bal ?_ _ | with_reducible refine Below.setCell ?_ ?_ _ | with_reducible refine Below.drew ?_ | with_reducible exact Below.refl _ _ | with_reducible exact Nat.le_refl _ | with_reducible exact Below.size (by with_reducible assumption) | with_reducible refine Nat.le_succ_of_le ?_))), ?_, ?_⟩ <;> (refine ⟨?_, ?_, ?_⟩ <;> first | (with_reducible refine ccp0 _ _ _ _ _ _ _ _ _ (by omega) ?_; simp [*, go_sem]; done) | (with_reducible refine ccp1 _ _ _ _ _ _ _ _ _ (by omega) ?_; simp [*, go_sem]; done) | (with_reducible refine ccp2 _ _ _ _ _ _ _ _ _ (by omega) ?_; simp [*, go_sem]; done) | (with_reducible refine ccq0 _ _ _ _ _ _ _ _ _ (by omega) ?_; simp [*, go_sem]; done) | (with_reducible refine ccq1 _ _ _ _ _ _ _ _ _ (by omega) ?_; simp [*, go_sem]; done) | (with_reducible refine ccq2 _ _ _ _ _ _ _ _ _ (by omega) ?_; simp [*, go_sem]; done) | (simp [*, go_sem]; done))))
  case rest =>
    obtain ⟨p, q, rfl, rfl, hb, ⟨p0, p1, p2⟩, ⟨q0, q1, q2⟩⟩ := hcut
    have d0 := keeps hb c0
    have d1 := keeps hb c1
    have d2 := keeps hb c2
    have d3 := keeps hb c3
    have d4 := keeps hb c4
    have hB : Below w.heap.size w wc := hV.trans (hb.mono hV.size)
    clear SO c0 c1 c2 c3 c4 hb hV hz
    generalize hr : [(a, 1, 9999), (b, 1, 9), (c, 1, 10000), (d, 0, 10000), (e, 0, 10000)].any spanB = r
    have HR : Hid ([(a, 1, 9999), (b, 1, 9), (c, 1, 10000), (d, 0, 10000), (e, 0, 10000)].any spanB = r) := hr
    clear hr
    have SO : Hid (∀ W, Below wc.heap.size wc W → (Below wc.heap.size wc W ∧ W.cell? ⟨w.heap.size, 0, none⟩ = some (.int .i64 a) ∧ W.cell? ⟨w.heap.size, 1, none⟩ = some (.int .i64 b) ∧ W.cell? ⟨w.heap.size, 2, none⟩ = some (.int .i64 c) ∧ W.cell? ⟨p, 0, none⟩ = some (.int .i64 d) ∧ W.cell? ⟨p, 1, none⟩ = some (.int .i64 0) ∧ W.cell? ⟨p, 2, none⟩ = some (.int .i64 10000) ∧ W.cell? ⟨q, 0, none⟩ = some (.int .i64 e) ∧ W.cell? ⟨q, 1, none⟩ = some (.int .i64 0) ∧ W.cell? ⟨q, 2, none⟩ = some (.int .i64 10000))) := fun W hW => ⟨hW, keeps hW d0, keeps hW d1, keeps hW d2, keeps hW p0, keeps hW p1, keeps hW p2, keeps hW q0, keeps hW q1, keeps hW q2⟩
    go_upto_region 2 with fail
    go_region_held3 (fun W => Below wc.heap.size wc W ∧ W.cell? ⟨w.heap.size, 0, none⟩ = some (.int .i64 a) ∧ W.cell? ⟨w.heap.size, 1, none⟩ = some (.int .i64 b) ∧ W.cell? ⟨w.heap.size, 2, none⟩ = some (.int .i64 c) ∧ W.cell? ⟨p, 0, none⟩ = some (.int .i64 d) ∧ W.cell? ⟨p, 1, none⟩ = some (.int .i64 0) ∧ W.cell? ⟨p, 2, none⟩ = some (.int .i64 10000) ∧ W.cell? ⟨q, 0, none⟩ = some (.int .i64 e) ∧ W.cell? ⟨q, 1, none⟩ = some (.int .i64 0) ∧ W.cell? ⟨q, 2, none⟩ = some (.int .i64 10000))
      ((refine SO.out _ ?_; (repeat' (first | with_reducible assumption | with_reducible refine bal ?_ _ | with_reducible refine Below.setCell ?_ ?_ _ | with_reducible refine Below.drew ?_ | with_reducible exact Below.refl _ _ | with_reducible exact Nat.le_refl _ | with_reducible exact Below.size (by with_reducible assumption) | with_reducible refine Nat.le_succ_of_le ?_))))
      (first | (go_at_call 52; refine (id_V wc _ _ ?_).mono ?_; (repeat' (first | with_reducible assumption | with_reducible refine bal ?_ _ | with_reducible refine Below.setCell ?_ ?_ _ | with_reducible refine Below.drew ?_ | with_reducible exact Below.refl _ _ | with_reducible exact Nat.le_refl _ | with_reducible exact Below.size (by with_reducible assumption) | with_reducible refine Nat.le_succ_of_le ?_)); rintro x W ⟨rfl, hbn⟩) | (go_at_call 53; refine (who_V wc _ _ ?_).mono ?_; (repeat' (first | with_reducible assumption | with_reducible refine bal ?_ _ | with_reducible refine Below.setCell ?_ ?_ _ | with_reducible refine Below.drew ?_ | with_reducible exact Below.refl _ _ | with_reducible exact Nat.le_refl _ | with_reducible exact Below.size (by with_reducible assumption) | with_reducible refine Nat.le_succ_of_le ?_)); rintro x W ⟨rfl, hbn⟩) | (go_at_call 56; refine (qty_V wc _ _ ?_).mono ?_; (repeat' (first | with_reducible assumption | with_reducible refine bal ?_ _ | with_reducible refine Below.setCell ?_ ?_ _ | with_reducible refine Below.drew ?_ | with_reducible exact Below.refl _ _ | with_reducible exact Nat.le_refl _ | with_reducible exact Below.size (by with_reducible assumption) | with_reducible refine Nat.le_succ_of_le ?_)); rintro x W ⟨rfl, hbn⟩) | (go_at_call 11; refine (scheck5 r _ _ _ _ _ _ _ _ _ _ _ _ _ _ _ _ _ rfl HR.out).mono ?_; rintro x W2 ⟨rfl, hbs⟩; have hbn := Below.trans (by with_reducible assumption) (hbs.mono (Below.size (by with_reducible assumption)))))
    have hW : Below w.heap.size w W2 := hB.trans (hbn.mono hB.size)
    have f2 := keeps hbn d2
    have f3 := keeps hbn d3
    have f4 := keeps hbn d4
    have HW : Hid (Below w.heap.size w W2) := hW
    have HG : Hid ((!rangeB ⟨a, b, c, d, e⟩) = r) := (range_any a b c d e).symm.trans HR.out
    clear SO hW hB HR hbs hbn d0 d1 d2 d3 d4 p0 p1 p2 q0 q1 q2
    cases r
    · have hg : rangeB ⟨a, b, c, d, e⟩ = true := by have := HG.out; simpa using this
      have HK2 : Hid (k = if ((!(decide (e = 0) && !decide (d = 0))) && (!((!decide (e = 0)) && decide (e < c)))) = true then 0 else 3) := HK.out.symm.trans (rchk_fine hg)
      clear hg HG HK
      simp only [show errV (rangeE false) = .nilIface from rfl]
      by_cases e0 : e = 0
      · subst e0
        by_cases d0 : d = 0
        · subst d0
          go_wp2_with fail
          go_ret
          exact ⟨by rw [HK2.out]; rfl, HW.out⟩
        · have d1 : (d != 0) = true := by simp [d0]
          go_wp2_with fail
          go_ret
          exact ⟨by rw [HK2.out]; simp [d0]; rfl, HW.out⟩
      · have e1 : (e != 0) = true := by simp [e0]
        have e2 : (e == 0) = false := by simp [e0]
        by_cases ec : e < c
        · go_wp2_with fail
          go_ret
          exact ⟨by rw [HK2.out]; simp [e0, ec]; rfl, HW.out⟩
        · go_wp2_with fail
          go_ret
          exact ⟨by rw [HK2.out]; simp [e0, ec]; rfl, HW.out⟩
    · have hg : rangeB ⟨a, b, c, d, e⟩ = false := by have := HG.out; simpa using this
      have HK2 : Hid (k = 1) := HK.out.symm.trans (rchk_bad hg)
      clear hg HG HK
      simp only [show errV (rangeE true) = .iface 64 (.int .i64 1) from rfl]
      go_wp2_with fail
      go_ret
      exact ⟨by rw [HK2.out]; rfl, HW.out⟩

end Go.Proofs.Ytnjpjieedgmffaa.que
