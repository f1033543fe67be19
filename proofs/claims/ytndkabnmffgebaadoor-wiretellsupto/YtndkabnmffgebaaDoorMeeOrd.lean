/- Contracts over this seat's translation: package order's Check and Meets, each at every order. -/
import Derived.Test.YtndkabnmffgebaaDoorTickP
namespace Go.Proofs.YtndkabnmffgebaaDoor.ord
open Go.RowKit
open Go.Proofs.YtndkabnmffgebaaDoor.spn (keeps bcell spanB spanV of_any id_any who_any qty_any side_any scheck2 scheck4 rangeE)

structure O where
  id : Int
  who : Int
  side : Int
  kind : Int
  price : Int
  qty : Int
  shw : Int
  stop : Int

def zeroO : O := ⟨0, 0, 0, 0, 0, 0, 0, 0⟩

def prB (p : Int) : Bool := decide (1 ≤ p) && decide (p ≤ 10000)

/-- The first four numbers are in their ranges. -/
def headB (o : O) : Bool := decide (1 ≤ o.id) && decide (o.id ≤ 9999) && decide (1 ≤ o.who) && decide (o.who ≤ 9) && decide (1 ≤ o.side) && decide (o.side ≤ 2) && decide (1 ≤ o.kind) && decide (o.kind ≤ 5)
def priceOkB (o : O) : Bool := if o.kind = 2 then decide (o.price = 0) else prB o.price
def qtyB (o : O) : Bool := decide (1 ≤ o.qty) && decide (o.qty ≤ 10000) && decide (0 ≤ o.shw) && decide (o.shw ≤ o.qty)
def shapeB (o : O) : Bool := decide (o.shw = 0) || decide (o.kind = 1) || decide (o.kind = 5)
def stopB (o : O) : Bool := decide (o.stop = 0) || prB o.stop

/-- What is wrong with an order: 0, 1 or 3. -/
def chk (o : O) : Int := if headB o && priceOkB o && qtyB o then (if shapeB o then (if stopB o then 0 else 1) else 3) else 1

theorem chk_zero {o : O} (h : chk o = 0) : headB o = true ∧ priceOkB o = true ∧ qtyB o = true ∧ shapeB o = true ∧ stopB o = true := by
  unfold chk at h
  by_cases h1 : (headB o && priceOkB o && qtyB o) = true
  · rw [if_pos h1] at h
    by_cases h2 : shapeB o = true
    · rw [if_pos h2] at h
      by_cases h3 : stopB o = true
      · simp only [Bool.and_eq_true] at h1
        exact ⟨h1.1.1, h1.1.2, h1.2, h2, h3⟩
      · rw [if_neg h3] at h; omega
    · rw [if_neg h2] at h; omega
  · rw [if_neg h1] at h; omega

/-- The error of a number: nil of 0, else that Errno. -/
def errV (k : Int) : Value := if k = 0 then .nilIface else .iface 49 (.int .i64 k)
theorem errV_zero : errV 0 = .nilIface := rfl
theorem errV_one : errV 1 = .iface 49 (.int .i64 1) := rfl
theorem errV_of {k : Int} (h : ¬ k = 0) : errV k = .iface 49 (.int .i64 k) := if_neg h

/-- An order as the program holds it. -/
def oV (o : O) : Value := .agg #[.int .i64 o.id, .int .i64 o.who, .int .i64 o.side, .int .i64 o.kind, .int .i64 o.price, .int .i64 o.qty, .int .i64 o.shw, .int .i64 o.stop]

theorem pr_is (n : Int) : tickP.priceB n = prB n := rfl
theorem price_ok (n : Int) (w : World) (h : prB n = true) :
    Calls Tryd.prog 49 #[.int .i64 n] w fun e w' => e = .returned .nilIface ∧ Below w.heap.size w w' := by
  refine (tickP.tprice_V w n w (Below.refl _ _)).mono ?_
  rintro e w' ⟨rfl, hb⟩
  rw [pr_is, h]
  exact ⟨rfl, hb⟩
theorem price_no (n : Int) (w : World) (h : prB n = false) :
    Calls Tryd.prog 49 #[.int .i64 n] w fun e w' => e = .returned (.iface 49 (.int .i64 1)) ∧ Below w.heap.size w w' := by
  refine (tickP.tprice_V w n w (Below.refl _ _)).mono ?_
  rintro e w' ⟨rfl, hb⟩
  rw [pr_is, h]
  exact ⟨rfl, hb⟩

theorem mayRest_any (k : Int) (w : World) :
    Calls Tryd.prog 48 #[.int .i64 k] w fun e w' => e = .returned (.bool (k == 1 || k == 5)) ∧ w' = w := by
  cases h : (k == 1) <;>
  · go_enter Tryd.func48, Tryd.ntmps48
    go_wp2
    go_ret
    exact ⟨rfl, rfl⟩

theorem checkPrice_ok (a b c d p q s t : Int) (w : World) (h : priceOkB ⟨a, b, c, d, p, q, s, t⟩ = true) :
    Calls Tryd.prog 47 #[.agg #[.int .i64 a, .int .i64 b, .int .i64 c, .int .i64 d, .int .i64 p, .int .i64 q, .int .i64 s, .int .i64 t]] w
      fun e w' => e = .returned .nilIface ∧ Below w.heap.size w w' := by
  have hpo : (if d = 2 then decide (p = 0) else prB p) = true := h
  clear h
  by_cases hd : d = 2
  · rw [if_pos hd] at hpo
    have hp : p = 0 := of_decide_eq_true hpo
    subst hd hp
    clear hpo
    go_enter Tryd.func47, Tryd.ntmps47
    go_wp2
    go_ret
    exact ⟨rfl, (Below.refl _ _).alloc (Nat.le_refl _) _⟩
  · rw [if_neg hd] at hpo
    have hd2 : (d != 2) = true := by rw [bne_iff_ne]; exact hd
    go_enter Tryd.func47, Tryd.ntmps47
    go_wp2_with (go_at_call 49; refine (price_ok _ _ hpo).mono ?_; rintro e w' ⟨rfl, hb⟩)
    go_ret
    exact ⟨rfl, ((Below.refl _ _).alloc (Nat.le_refl _) _).trans (hb.mono (by simp))⟩

theorem checkPrice_no (a b c d p q s t : Int) (w : World) (h : priceOkB ⟨a, b, c, d, p, q, s, t⟩ = false) :
    Calls Tryd.prog 47 #[.agg #[.int .i64 a, .int .i64 b, .int .i64 c, .int .i64 d, .int .i64 p, .int .i64 q, .int .i64 s, .int .i64 t]] w
      fun e w' => e = .returned (.iface 49 (.int .i64 1)) ∧ Below w.heap.size w w' := by
  have hpo : (if d = 2 then decide (p = 0) else prB p) = false := h
  clear h
  by_cases hd : d = 2
  · rw [if_pos hd] at hpo
    have hp : (p != 0) = true := by rw [bne_iff_ne]; exact of_decide_eq_false hpo
    subst hd
    clear hpo
    go_enter Tryd.func47, Tryd.ntmps47
    go_wp2
    go_ret
    exact ⟨rfl, (Below.refl _ _).alloc (Nat.le_refl _) _⟩
  · rw [if_neg hd] at hpo
    have hd2 : (d != 2) = true := by rw [bne_iff_ne]; exact hd
    go_enter Tryd.func47, Tryd.ntmps47
    go_wp2_with (go_at_call 49; refine (price_no _ _ hpo).mono ?_; rintro e w' ⟨rfl, hb⟩)
    go_ret
    exact ⟨rfl, ((Below.refl _ _).alloc (Nat.le_refl _) _).trans (hb.mono (by simp))⟩

theorem head_any (a b c d p q s t : Int) : [(a, 1, 9999), (b, 1, 9), (c, 1, 2), (d, 1, 5)].any spanB = !headB ⟨a, b, c, d, p, q, s, t⟩ := by
  rw [Bool.eq_iff_iff]
  simp [spanB, headB]
  omega
theorem qtys_any (a b c d p q s t : Int) : [(q, 1, 10000), (s, 0, q)].any spanB = !qtyB ⟨a, b, c, d, p, q, s, t⟩ := by
  rw [Bool.eq_iff_iff]
  simp [spanB, qtyB]
  omega


theorem bal {V W : World} (h : Below V.heap.size V W) (o : Obj) : Below V.heap.size V (W.alloc o) := h.alloc h.size o
theorem of_V (V : World) (n lo hi : Int) (w : World) (h : Below V.heap.size V w) :
    Calls Tryd.prog 38 #[.int .i64 n, .int .i64 lo, .int .i64 hi] w fun e w' => e = .returned (.agg #[.int .i64 n, .int .i64 lo, .int .i64 hi]) ∧ Below V.heap.size V w' :=
  (of_any n lo hi w).mono fun _ _ h' => ⟨h'.1, h.trans (h'.2.mono h.size)⟩
theorem id_V (V : World) (n : Int) (w : World) (h : Below V.heap.size V w) :
    Calls Tryd.prog 34 #[.int .i64 n] w fun e w' => e = .returned (.agg #[.int .i64 n, .int .i64 1, .int .i64 9999]) ∧ Below V.heap.size V w' :=
  (id_any n w).mono fun _ _ h' => ⟨h'.1, h.trans (h'.2.mono h.size)⟩
theorem who_V (V : World) (n : Int) (w : World) (h : Below V.heap.size V w) :
    Calls Tryd.prog 37 #[.int .i64 n] w fun e w' => e = .returned (.agg #[.int .i64 n, .int .i64 1, .int .i64 9]) ∧ Below V.heap.size V w' :=
  (who_any n w).mono fun _ _ h' => ⟨h'.1, h.trans (h'.2.mono h.size)⟩
theorem qty_V (V : World) (n : Int) (w : World) (h : Below V.heap.size V w) :
    Calls Tryd.prog 36 #[.int .i64 n] w fun e w' => e = .returned (.agg #[.int .i64 n, .int .i64 1, .int .i64 10000]) ∧ Below V.heap.size V w' :=
  (qty_any n w).mono fun _ _ h' => ⟨h'.1, h.trans (h'.2.mono h.size)⟩
theorem side_V (V : World) (n : Int) (w : World) (h : Below V.heap.size V w) :
    Calls Tryd.prog 46 #[.int .i64 n] w fun e w' => e = .returned (.agg #[.int .i64 n, .int .i64 1, .int .i64 2]) ∧ Below V.heap.size V w' :=
  (side_any n w).mono fun _ _ h' => ⟨h'.1, h.trans (h'.2.mono h.size)⟩
theorem mayRest_is (r : Bool) (k : Int) (w : World) (h : (k == 1 || k == 5) = r) :
    Calls Tryd.prog 48 #[.int .i64 k] w fun e w' => e = .returned (.bool r) ∧ w' = w := by
  rw [← h]; exact mayRest_any k w
theorem ret_err {j k : Int} {v : Value} (h : errV j = v) (h2 : k = j) : Ending.returned v = .returned (errV k) := by rw [h2, h]

theorem chk_head {o : O} (h : headB o = false) : chk o = 1 := by unfold chk; simp [h]
theorem chk_price {o : O} (h : priceOkB o = false) : chk o = 1 := by unfold chk; simp [h]
theorem chk_qty {o : O} (h : qtyB o = false) : chk o = 1 := by unfold chk; simp [h]
theorem chk_fine {o : O} (h1 : headB o = true) (h2 : priceOkB o = true) (h3 : qtyB o = true) : chk o = (if shapeB o then (if stopB o then 0 else 1) else 3) := by unfold chk; simp [h1, h2, h3]

set_option maxRecDepth 100000 in
set_option maxHeartbeats 2000000 in
theorem check_walk (a b c d p q s t : Int) (w : World) :
    Calls Tryd.prog 32 #[.agg #[.int .i64 a, .int .i64 b, .int .i64 c, .int .i64 d, .int .i64 p, .int .i64 q, .int .i64 s, .int .i64 t]] w fun e w' => e = .returned (errV (chk ⟨a, b, c, d, p, q, s, t⟩)) ∧ Below w.heap.size w w' := by
  generalize hk : chk ⟨a, b, c, d, p, q, s, t⟩ = k
  have HK : Hid (chk ⟨a, b, c, d, p, q, s, t⟩ = k) := hk
  clear hk
  generalize hr : [(a, 1, 9999), (b, 1, 9), (c, 1, 2), (d, 1, 5)].any spanB = r
  have HR : Hid ([(a, 1, 9999), (b, 1, 9), (c, 1, 2), (d, 1, 5)].any spanB = r) := hr
  clear hr
  generalize hr : [(q, 1, 10000), (s, 0, q)].any spanB = r2
  have HR2 : Hid ([(q, 1, 10000), (s, 0, q)].any spanB = r2) := hr
  clear hr
  go_enter Tryd.func32, Tryd.ntmps32
  go_wp2_with fail
  refine (of_any d 1 5 _).mono ?_
  rintro e w1 ⟨rfl, hb1⟩
  have hR1 : w1.heap[w.heap.size]? = some (.cells #[.int .i64 a, .int .i64 b, .int .i64 c, .int .i64 d, .int .i64 p, .int .i64 q, .int .i64 s, .int .i64 t] 23 (0, 0)) := by
    rw [hb1.block w.heap.size (by simp)]
    exact heap_alloc_new w _
  have hB1 : Below w.heap.size w w1 := ((Below.refl _ _).alloc (Nat.le_refl _) _).trans (hb1.mono (by simp))
  clear hb1
  go_upto_region 2 with fail
  have hV : Below w.heap.size w (w1.alloc (.cells #[.int .i64 d, .int .i64 1, .int .i64 5] 77)) := hB1.alloc hB1.size _
  have hRV := Below.block ((Below.refl w1.heap.size w1).alloc (Nat.le_refl _) (.cells #[.int .i64 d, .int .i64 1, .int .i64 5] 77)) w.heap.size (Array.getElem?_eq_some_iff.1 hR1).1
  rw [hR1] at hRV
  have hRP := heap_alloc_new w1 (.cells #[.int .i64 d, .int .i64 1, .int .i64 5] 77)
  generalize w1.alloc (.cells #[.int .i64 d, .int .i64 1, .int .i64 5] 77) = V at *
  generalize w1.heap.size = P at *
  have cel : ∀ i, V.cell? ⟨w.heap.size, i, none⟩ = (#[.int .i64 a, .int .i64 b, .int .i64 c, .int .i64 d, .int .i64 p, .int .i64 q, .int .i64 s, .int .i64 t] : Array Value)[i]? := fun i => by simp [World.cell?, hRV]
  have c0 := cel 0
  have c1 := cel 1
  have c2 := cel 2
  have c3 := cel 3
  have c4 := cel 4
  have c5 := cel 5
  have c6 := cel 6
  have c7 := cel 7
  simp only [List.getElem?_toArray, List.getElem?_cons_zero, List.getElem?_cons_succ] at c0 c1 c2 c3 c4 c5 c6 c7
  have cep : ∀ i, V.cell? ⟨P, i, none⟩ = (#[.int .i64 d, .int .i64 1, .int .i64 5] : Array Value)[i]? := fun i => by simp [World.cell?, hRP]
  have p0 := cep 0
  have p1 := cep 1
  have p2 := cep 2
  simp only [List.getElem?_toArray, List.getElem?_cons_zero, List.getElem?_cons_succ] at p0 p1 p2
  clear cel cep hRP hRV hR1 hB1
  have SO : Hid (∀ W, Below V.heap.size V W → (Below V.heap.size V W ∧ W.cell? ⟨w.heap.size, 0, none⟩ = some (.int .i64 a) ∧ W.cell? ⟨w.heap.size, 1, none⟩ = some (.int .i64 b) ∧ W.cell? ⟨w.heap.size, 2, none⟩ = some (.int .i64 c) ∧ W.cell? ⟨P, 0, none⟩ = some (.int .i64 d) ∧ W.cell? ⟨P, 1, none⟩ = some (.int .i64 1) ∧ W.cell? ⟨P, 2, none⟩ = some (.int .i64 5))) := fun W hW => ⟨hW, keeps hW c0, keeps hW c1, keeps hW c2, keeps hW p0, keeps hW p1, keeps hW p2⟩
  go_region_held3 (fun W => Below V.heap.size V W ∧ W.cell? ⟨w.heap.size, 0, none⟩ = some (.int .i64 a) ∧ W.cell? ⟨w.heap.size, 1, none⟩ = some (.int .i64 b) ∧ W.cell? ⟨w.heap.size, 2, none⟩ = some (.int .i64 c) ∧ W.cell? ⟨P, 0, none⟩ = some (.int .i64 d) ∧ W.cell? ⟨P, 1, none⟩ = some (.int .i64 1) ∧ W.cell? ⟨P, 2, none⟩ = some (.int .i64 5))
    ((refine SO.out _ ?_; (repeat' (first | with_reducible assumption | with_reducible refine bal ?_ _ | with_reducible refine Below.setCell ?_ ?_ _ | with_reducible refine Below.drew ?_ | with_reducible exact Below.refl _ _ | with_reducible exact Nat.le_refl _ | with_reducible exact Below.size (by with_reducible assumption) | with_reducible refine Nat.le_succ_of_le ?_))))
    (first | (go_at_call 34; refine (id_V V _ _ ?_).mono ?_; (repeat' (first | with_reducible assumption | with_reducible refine bal ?_ _ | with_reducible refine Below.setCell ?_ ?_ _ | with_reducible refine Below.drew ?_ | with_reducible exact Below.refl _ _ | with_reducible exact Nat.le_refl _ | with_reducible exact Below.size (by with_reducible assumption) | with_reducible refine Nat.le_succ_of_le ?_)); rintro x W ⟨rfl, hbn⟩) | (go_at_call 37; refine (who_V V _ _ ?_).mono ?_; (repeat' (first | with_reducible assumption | with_reducible refine bal ?_ _ | with_reducible refine Below.setCell ?_ ?_ _ | with_reducible refine Below.drew ?_ | with_reducible exact Below.refl _ _ | with_reducible exact Nat.le_refl _ | with_reducible exact Below.size (by with_reducible assumption) | with_reducible refine Nat.le_succ_of_le ?_)); rintro x W ⟨rfl, hbn⟩) | (go_at_call 46; refine (side_V V _ _ ?_).mono ?_; (repeat' (first | with_reducible assumption | with_reducible refine bal ?_ _ | with_reducible refine Below.setCell ?_ ?_ _ | with_reducible refine Below.drew ?_ | with_reducible exact Below.refl _ _ | with_reducible exact Nat.le_refl _ | with_reducible exact Below.size (by with_reducible assumption) | with_reducible refine Nat.le_succ_of_le ?_)); rintro x W ⟨rfl, hbn⟩) | (go_at_call 33; refine (scheck4 r _ _ _ _ _ _ _ _ _ _ _ _ _ _ rfl HR.out).mono ?_; rintro x W2 ⟨rfl, hbs⟩; have hbn := Below.trans (by with_reducible assumption) (hbs.mono (Below.size (by with_reducible assumption)))))
  have hW2 : Below w.heap.size w W2 := hV.trans (hbn.mono hV.size)
  have d0 := keeps hbn c0
  have d1 := keeps hbn c1
  have d2 := keeps hbn c2
  have d3 := keeps hbn c3
  have d4 := keeps hbn c4
  have d5 := keeps hbn c5
  have d6 := keeps hbn c6
  have d7 := keeps hbn c7
  clear SO hbs hbn hV c0 c1 c2 c3 c4 c5 c6 c7 p0 p1 p2
  have HG : Hid ((!headB ⟨a, b, c, d, p, q, s, t⟩) = r) := (head_any a b c d p q s t).symm.trans HR.out
  clear HR
  cases r
  rotate_left
  · have hk : k = 1 := by rw [← HK.out]; exact chk_head (by have := HG.out; simpa using this)
    simp only [show spn.errV (rangeE true) = .iface 49 (.int .i64 1) from rfl]
    go_wp2_with fail
    go_ret
    exact ⟨ret_err (j := 1) rfl hk, hW2⟩
  simp only [show spn.errV (rangeE false) = .nilIface from rfl]
  have HH : Hid (headB ⟨a, b, c, d, p, q, s, t⟩ = true) := by
    show _ = _
    have := HG.out
    simpa using this
  clear HG
  cases hp : priceOkB ⟨a, b, c, d, p, q, s, t⟩
  · have hk : k = 1 := by rw [← HK.out]; exact chk_price hp
    have HP : Hid (priceOkB ⟨a, b, c, d, p, q, s, t⟩ = false) := hp
    clear hp
    go_wp2_with fail
    refine (checkPrice_no _ _ _ _ _ _ _ _ _ HP.out).mono ?_
    rintro e w3 ⟨rfl, hb3⟩
    have hW3 := hW2.trans (hb3.mono hW2.size)
    clear hb3
    go_wp2_with fail
    go_ret
    exact ⟨ret_err (j := 1) rfl hk, hW3⟩
  have HP : Hid (priceOkB ⟨a, b, c, d, p, q, s, t⟩ = true) := hp
  clear hp
  go_wp2_with fail
  refine (checkPrice_ok _ _ _ _ _ _ _ _ _ HP.out).mono ?_
  rintro e V2 ⟨rfl, hb3⟩
  have hW3 := hW2.trans (hb3.mono hW2.size)
  have e0 := keeps hb3 d0
  have e1 := keeps hb3 d1
  have e2 := keeps hb3 d2
  have e3 := keeps hb3 d3
  have e4 := keeps hb3 d4
  have e5 := keeps hb3 d5
  have e6 := keeps hb3 d6
  have e7 := keeps hb3 d7
  clear hb3 hW2 d0 d1 d2 d3 d4 d5 d6 d7
  have SO : Hid (∀ W, Below V2.heap.size V2 W → (Below V2.heap.size V2 W ∧ W.cell? ⟨w.heap.size, 5, none⟩ = some (.int .i64 q) ∧ W.cell? ⟨w.heap.size, 6, none⟩ = some (.int .i64 s))) := fun W hW => ⟨hW, keeps hW e5, keeps hW e6⟩
  go_upto_region 8 with fail
  go_region_held3 (fun W => Below V2.heap.size V2 W ∧ W.cell? ⟨w.heap.size, 5, none⟩ = some (.int .i64 q) ∧ W.cell? ⟨w.heap.size, 6, none⟩ = some (.int .i64 s))
    ((refine SO.out _ ?_; (repeat' (first | with_reducible assumption | with_reducible refine bal ?_ _ | with_reducible refine Below.setCell ?_ ?_ _ | with_reducible refine Below.drew ?_ | with_reducible exact Below.refl _ _ | with_reducible exact Nat.le_refl _ | with_reducible exact Below.size (by with_reducible assumption) | with_reducible refine Nat.le_succ_of_le ?_))))
    (first | (go_at_call 36; refine (qty_V V2 _ _ ?_).mono ?_; (repeat' (first | with_reducible assumption | with_reducible refine bal ?_ _ | with_reducible refine Below.setCell ?_ ?_ _ | with_reducible refine Below.drew ?_ | with_reducible exact Below.refl _ _ | with_reducible exact Nat.le_refl _ | with_reducible exact Below.size (by with_reducible assumption) | with_reducible refine Nat.le_succ_of_le ?_)); rintro x W ⟨rfl, hbn⟩) | (go_at_call 38; refine (of_V V2 _ _ _ _ ?_).mono ?_; (repeat' (first | with_reducible assumption | with_reducible refine bal ?_ _ | with_reducible refine Below.setCell ?_ ?_ _ | with_reducible refine Below.drew ?_ | with_reducible exact Below.refl _ _ | with_reducible exact Nat.le_refl _ | with_reducible exact Below.size (by with_reducible assumption) | with_reducible refine Nat.le_succ_of_le ?_)); rintro x W ⟨rfl, hbn⟩) | (go_at_call 33; refine (scheck2 r2 _ _ _ _ _ _ _ _ rfl HR2.out).mono ?_; rintro x W2 ⟨rfl, hbs⟩; have hbn := Below.trans (by with_reducible assumption) (hbs.mono (Below.size (by with_reducible assumption)))))
  have hW4 : Below w.heap.size w W2 := hW3.trans (hbn.mono hW3.size)
  have f3 := keeps hbn e3
  have f6 := keeps hbn e6
  have f7 := keeps hbn e7
  clear SO hbs hbn hW3 e0 e1 e2 e3 e4 e5 e6 e7
  have HG : Hid ((!qtyB ⟨a, b, c, d, p, q, s, t⟩) = r2) := (qtys_any a b c d p q s t).symm.trans HR2.out
  clear HR2
  cases r2
  rotate_left
  · have hk : k = 1 := by rw [← HK.out]; exact chk_qty (by have := HG.out; simpa using this)
    simp only [show spn.errV (rangeE true) = .iface 49 (.int .i64 1) from rfl]
    go_wp2_with fail
    go_ret
    exact ⟨ret_err (j := 1) rfl hk, hW4⟩
  simp only [show spn.errV (rangeE false) = .nilIface from rfl]
  have HF : Hid (k = (if shapeB ⟨a, b, c, d, p, q, s, t⟩ then (if stopB ⟨a, b, c, d, p, q, s, t⟩ then 0 else 1) else 3)) := by
    have hq : qtyB ⟨a, b, c, d, p, q, s, t⟩ = true := by have := HG.out; simpa using this
    rw [← HK.out]
    exact chk_fine HH.out HP.out hq
  clear HG HP HH HK
  generalize hm : (d == 1 || d == 5) = m
  have HM : Hid ((d == 1 || d == 5) = m) := hm
  have HSH : Hid (shapeB ⟨a, b, c, d, p, q, s, t⟩ = (decide (s = 0) || m)) := by
    show _ = _
    rw [← hm]
    unfold shapeB
    rw [Bool.or_assoc]
    rfl
  clear hm
  have HST : Hid (stopB ⟨a, b, c, d, p, q, s, t⟩ = (decide (t = 0) || prB t)) := rfl
  rw [HSH.out, HST.out] at HF
  clear HSH HST
  by_cases hs : s = 0
  · subst hs
    by_cases ht : t = 0
    · subst ht
      go_wp2_with fail
      go_ret
      exact ⟨ret_err (j := 0) rfl (by rw [HF.out]; simp), hW4⟩
    · have ht1 : (t != 0) = true := by simp [ht]
      cases hpt : prB t
      · have HPT : Hid (prB t = false) := hpt
        clear hpt
        go_wp2_with fail
        refine (price_no _ _ HPT.out).mono ?_
        rintro e w5 ⟨rfl, hb5⟩
        have hW5 := hW4.trans (hb5.mono hW4.size)
        clear hb5
        go_wp2_with fail
        go_ret
        exact ⟨ret_err (j := 1) rfl (by rw [HF.out, HPT.out]; simp [ht]), hW5⟩
      · have HPT : Hid (prB t = true) := hpt
        clear hpt
        go_wp2_with fail
        refine (price_ok _ _ HPT.out).mono ?_
        rintro e w5 ⟨rfl, hb5⟩
        have hW5 := hW4.trans (hb5.mono hW4.size)
        clear hb5
        go_wp2_with fail
        go_ret
        exact ⟨ret_err (j := 0) rfl (by rw [HF.out, HPT.out]; simp), hW5⟩
  · have hs1 : (s != 0) = true := by simp [hs]
    cases m
    · go_wp2_with fail
      refine (mayRest_is false d _ HM.out).mono ?_
      rintro e w5 ⟨rfl, rfl⟩
      go_wp2_with fail
      go_ret
      exact ⟨ret_err (j := 3) rfl (by rw [HF.out]; simp [hs]), hW4⟩
    · by_cases ht : t = 0
      · subst ht
        go_wp2_with fail
        refine (mayRest_is true d _ HM.out).mono ?_
        rintro e w5 ⟨rfl, rfl⟩
        go_wp2_with fail
        go_ret
        exact ⟨ret_err (j := 0) rfl (by rw [HF.out]; simp), hW4⟩
      · have ht1 : (t != 0) = true := by simp [ht]
        cases hpt : prB t
        · have HPT : Hid (prB t = false) := hpt
          clear hpt
          go_wp2_with fail
          refine (mayRest_is true d _ HM.out).mono ?_
          rintro e w5 ⟨rfl, rfl⟩
          go_wp2_with fail
          refine (price_no _ _ HPT.out).mono ?_
          rintro e w6 ⟨rfl, hb6⟩
          have hW6 := hW4.trans (hb6.mono hW4.size)
          clear hb6
          go_wp2_with fail
          go_ret
          exact ⟨ret_err (j := 1) rfl (by rw [HF.out, HPT.out]; simp [ht]), hW6⟩
        · have HPT : Hid (prB t = true) := hpt
          clear hpt
          go_wp2_with fail
          refine (mayRest_is true d _ HM.out).mono ?_
          rintro e w5 ⟨rfl, rfl⟩
          go_wp2_with fail
          refine (price_ok _ _ HPT.out).mono ?_
          rintro e w6 ⟨rfl, hb6⟩
          have hW6 := hW4.trans (hb6.mono hW4.size)
          clear hb6
          go_wp2_with fail
          go_ret
          exact ⟨ret_err (j := 0) rfl (by rw [HF.out, HPT.out]; simp), hW6⟩

/-- Check, at every order. -/
theorem check_any (o : O) (w : World) :
    Calls Tryd.prog 32 #[oV o] w fun e w' => e = .returned (errV (chk o)) ∧ Below w.heap.size w w' := by
  obtain ⟨a, b, c, d, p, q, s, t⟩ := o
  exact check_walk a b c d p q s t w


/-- May an order trade at a price? -/
def mE (o : O) (x : Int) : Int := if chk o = 0 then (if prB x then 0 else 1) else chk o
def mB (o : O) (x : Int) : Bool := decide (o.kind = 2) || (if o.side = 1 then decide (x ≤ o.price) else decide (o.price ≤ x))

theorem errV_is (k : Int) : errV k = spn.errV k := rfl
end Go.Proofs.YtndkabnmffgebaaDoor.ord
