/- Contracts over this seat's translation: package tape's checkTrade, checkEvent, Check. -/
import Derived.Test.YtgpbpaimfhlnhaaDoorTapSl
import Derived.Deep.RegionHeld3
namespace Go.Proofs.YtgpbpaimfhlnhaaDoor.tap
open Go.RowKit Go.Proofs.YtgpbpaimfhlnhaaDoor.mee Go.Proofs.YtgpbpaimfhlnhaaDoor.flr
open Go.Proofs.YtgpbpaimfhlnhaaDoor.spn (keeps bcell spanB spanV of_any id_any who_any qty_any price_any scheck_is scheck4 rangeE errV errV_zero errV_of)

theorem bal {V W : World} (h : Below V.heap.size V W) (o : Obj) : Below V.heap.size V (W.alloc o) := h.alloc h.size o
theorem of_V (V : World) (n lo hi : Int) (w : World) (h : Below V.heap.size V w) :
    Calls Tryd.prog 33 #[.int .i64 n, .int .i64 lo, .int .i64 hi] w fun e w' => e = .returned (.agg #[.int .i64 n, .int .i64 lo, .int .i64 hi]) ∧ Below V.heap.size V w' :=
  (of_any n lo hi w).mono fun _ _ h' => ⟨h'.1, h.trans (h'.2.mono h.size)⟩
theorem id_V (V : World) (n : Int) (w : World) (h : Below V.heap.size V w) :
    Calls Tryd.prog 35 #[.int .i64 n] w fun e w' => e = .returned (.agg #[.int .i64 n, .int .i64 1, .int .i64 9999]) ∧ Below V.heap.size V w' :=
  (id_any n w).mono fun _ _ h' => ⟨h'.1, h.trans (h'.2.mono h.size)⟩
theorem who_V (V : World) (n : Int) (w : World) (h : Below V.heap.size V w) :
    Calls Tryd.prog 46 #[.int .i64 n] w fun e w' => e = .returned (.agg #[.int .i64 n, .int .i64 1, .int .i64 9]) ∧ Below V.heap.size V w' :=
  (who_any n w).mono fun _ _ h' => ⟨h'.1, h.trans (h'.2.mono h.size)⟩
theorem qty_V (V : World) (n : Int) (w : World) (h : Below V.heap.size V w) :
    Calls Tryd.prog 48 #[.int .i64 n] w fun e w' => e = .returned (.agg #[.int .i64 n, .int .i64 1, .int .i64 10000]) ∧ Below V.heap.size V w' :=
  (qty_any n w).mono fun _ _ h' => ⟨h'.1, h.trans (h'.2.mono h.size)⟩
theorem price_V (V : World) (n : Int) (w : World) (h : Below V.heap.size V w) :
    Calls Tryd.prog 47 #[.int .i64 n] w fun e w' => e = .returned (.agg #[.int .i64 n, .int .i64 1, .int .i64 10000]) ∧ Below V.heap.size V w' :=
  (price_any n w).mono fun _ _ h' => ⟨h'.1, h.trans (h'.2.mono h.size)⟩
theorem scheck6 (r : Bool) (a1 a2 a3 b1 b2 b3 c1 c2 c3 d1 d2 d3 e1 e2 e3 f1 f2 f3 : Int) (n : Nat) (V : World) (hn : V.heap.size = n)
    (hr : [(a1, a2, a3), (b1, b2, b3), (c1, c2, c3), (d1, d2, d3), (e1, e2, e3), (f1, f2, f3)].any spanB = r) :
    Calls Tryd.prog 34 #[.slice (some ⟨n, 0, none⟩) 6 6] (V.alloc (.cells #[.int .i64 a1, .int .i64 a2, .int .i64 a3, .int .i64 b1, .int .i64 b2, .int .i64 b3, .int .i64 c1, .int .i64 c2, .int .i64 c3, .int .i64 d1, .int .i64 d2, .int .i64 d3, .int .i64 e1, .int .i64 e2, .int .i64 e3, .int .i64 f1, .int .i64 f2, .int .i64 f3] 75))
      fun e w' => e = .returned (errV (rangeE r)) ∧ Below V.heap.size V w' := by
  refine (scheck_is r n 6 [(a1, a2, a3), (b1, b2, b3), (c1, c2, c3), (d1, d2, d3), (e1, e2, e3), (f1, f2, f3)] _ (by simp [← hn]) (by simp) ?_ hr).mono ?_
  · intro j hj i v hv
    have hj4 : j < 6 := hj
    rw [World.cell?_alloc_at _ _ _ _ hn.symm]
    rcases j with _ | _ | _ | _ | _ | _ | j
    · rcases i with _ | _ | _ | i <;> simp_all [spanV]
    · rcases i with _ | _ | _ | i <;> simp_all [spanV]
    · rcases i with _ | _ | _ | i <;> simp_all [spanV]
    · rcases i with _ | _ | _ | i <;> simp_all [spanV]
    · rcases i with _ | _ | _ | i <;> simp_all [spanV]
    · rcases i with _ | _ | _ | i <;> simp_all [spanV]
    · omega
  · rintro e w' ⟨rfl, hb⟩
    exact ⟨rfl, ((Below.refl _ V).alloc (Nat.le_refl _) _).trans (hb.mono (by simp))⟩
set_option maxRecDepth 100000 in
set_option maxHeartbeats 4000000 in
theorem ctrade_walk (t1 t2 t3 t4 t5 t6 : Int) (r : Bool) (w : World) (hr : [(t3, 1, 9), (t4, 1, 9), (t1, 1, 9999), (t2, 1, 9999), (t5, 1, 10000), (t6, 1, 10000)].any spanB = r) :
    Calls Tryd.prog 32 #[.agg #[.int .i64 t1, .int .i64 t2, .int .i64 t3, .int .i64 t4, .int .i64 t5, .int .i64 t6]] w
      fun x w' => x = .returned (errV (rangeE r)) ∧ Below w.heap.size w w' := by
  have HR := hidT hr
  clear hr
  have hV : Below w.heap.size w (w.alloc (.cells #[.int .i64 t1, .int .i64 t2, .int .i64 t3, .int .i64 t4, .int .i64 t5, .int .i64 t6] 31)) := (Below.refl _ _).alloc (Nat.le_refl _) _
  have hR := heap_alloc_new w (.cells #[.int .i64 t1, .int .i64 t2, .int .i64 t3, .int .i64 t4, .int .i64 t5, .int .i64 t6] 31)
  go_enter Tryd.func32, Tryd.ntmps32
  go_upto_region 1 with fail
  generalize w.alloc (.cells #[.int .i64 t1, .int .i64 t2, .int .i64 t3, .int .i64 t4, .int .i64 t5, .int .i64 t6] 31) = V at *
  have c0 : V.cell? ⟨w.heap.size, 0, none⟩ = some (.int .i64 t1) := by simp [World.cell?, hR]
  have c1 : V.cell? ⟨w.heap.size, 1, none⟩ = some (.int .i64 t2) := by simp [World.cell?, hR]
  have c2 : V.cell? ⟨w.heap.size, 2, none⟩ = some (.int .i64 t3) := by simp [World.cell?, hR]
  have c3 : V.cell? ⟨w.heap.size, 3, none⟩ = some (.int .i64 t4) := by simp [World.cell?, hR]
  have c4 : V.cell? ⟨w.heap.size, 4, none⟩ = some (.int .i64 t5) := by simp [World.cell?, hR]
  have c5 : V.cell? ⟨w.heap.size, 5, none⟩ = some (.int .i64 t6) := by simp [World.cell?, hR]
  clear hR
  have SO : Hid (∀ W, Below V.heap.size V W → (Below V.heap.size V W ∧ W.cell? ⟨w.heap.size, 0, none⟩ = some (.int .i64 t1) ∧ W.cell? ⟨w.heap.size, 1, none⟩ = some (.int .i64 t2) ∧ W.cell? ⟨w.heap.size, 2, none⟩ = some (.int .i64 t3) ∧ W.cell? ⟨w.heap.size, 3, none⟩ = some (.int .i64 t4) ∧ W.cell? ⟨w.heap.size, 4, none⟩ = some (.int .i64 t5) ∧ W.cell? ⟨w.heap.size, 5, none⟩ = some (.int .i64 t6))) := fun W hW => ⟨hW, keeps hW c0, keeps hW c1, keeps hW c2, keeps hW c3, keeps hW c4, keeps hW c5⟩
  go_region_held3 (fun W => Below V.heap.size V W ∧ W.cell? ⟨w.heap.size, 0, none⟩ = some (.int .i64 t1) ∧ W.cell? ⟨w.heap.size, 1, none⟩ = some (.int .i64 t2) ∧ W.cell? ⟨w.heap.size, 2, none⟩ = some (.int .i64 t3) ∧ W.cell? ⟨w.heap.size, 3, none⟩ = some (.int .i64 t4) ∧ W.cell? ⟨w.heap.size, 4, none⟩ = some (.int .i64 t5) ∧ W.cell? ⟨w.heap.size, 5, none⟩ = some (.int .i64 t6))
    ((refine SO.out _ ?_; (repeat' (first | with_reducible assumption | with_reducible refine bal ?_ _ | with_reducible refine Below.setCell ?_ ?_ _ | with_reducible refine Below.drew ?_ | with_reducible exact Below.refl _ _ | with_reducible exact Nat.le_refl _ | with_reducible exact Below.size (by with_reducible assumption) | with_reducible refine Nat.le_succ_of_le ?_))))
    (first | (go_at_call 46; refine (who_V V _ _ ?_).mono ?_; (repeat' (first | with_reducible assumption | with_reducible refine bal ?_ _ | with_reducible refine Below.setCell ?_ ?_ _ | with_reducible refine Below.drew ?_ | with_reducible exact Below.refl _ _ | with_reducible exact Nat.le_refl _ | with_reducible exact Below.size (by with_reducible assumption) | with_reducible refine Nat.le_succ_of_le ?_)); rintro x W ⟨rfl, hbn⟩) | (go_at_call 35; refine (id_V V _ _ ?_).mono ?_; (repeat' (first | with_reducible assumption | with_reducible refine bal ?_ _ | with_reducible refine Below.setCell ?_ ?_ _ | with_reducible refine Below.drew ?_ | with_reducible exact Below.refl _ _ | with_reducible exact Nat.le_refl _ | with_reducible exact Below.size (by with_reducible assumption) | with_reducible refine Nat.le_succ_of_le ?_)); rintro x W ⟨rfl, hbn⟩) | (go_at_call 47; refine (price_V V _ _ ?_).mono ?_; (repeat' (first | with_reducible assumption | with_reducible refine bal ?_ _ | with_reducible refine Below.setCell ?_ ?_ _ | with_reducible refine Below.drew ?_ | with_reducible exact Below.refl _ _ | with_reducible exact Nat.le_refl _ | with_reducible exact Below.size (by with_reducible assumption) | with_reducible refine Nat.le_succ_of_le ?_)); rintro x W ⟨rfl, hbn⟩) | (go_at_call 48; refine (qty_V V _ _ ?_).mono ?_; (repeat' (first | with_reducible assumption | with_reducible refine bal ?_ _ | with_reducible refine Below.setCell ?_ ?_ _ | with_reducible refine Below.drew ?_ | with_reducible exact Below.refl _ _ | with_reducible exact Nat.le_refl _ | with_reducible exact Below.size (by with_reducible assumption) | with_reducible refine Nat.le_succ_of_le ?_)); rintro x W ⟨rfl, hbn⟩) | (go_at_call 34; refine (scheck6 r _ _ _ _ _ _ _ _ _ _ _ _ _ _ _ _ _ _ _ _ rfl HR.out).mono ?_; rintro x W2 ⟨rfl, hbs⟩; have hbn := Below.trans (by with_reducible assumption) (hbs.mono (Below.size (by with_reducible assumption)))))
  have HW : Hid (Below w.heap.size w W2) := hV.trans (hbn.mono hV.size)
  clear SO hV HR hbs hbn c0 c1 c2 c3 c4 c5
  cases r
  · simp only [show errV (rangeE false) = .nilIface from rfl]
    go_wp2_with fail
    go_ret
    exact ⟨rfl, HW.out⟩
  · simp only [show errV (rangeE true) = .iface 47 (.int .i64 1) from rfl]
    go_wp2_with fail
    go_ret
    exact ⟨rfl, HW.out⟩
set_option maxRecDepth 100000 in
set_option maxHeartbeats 4000000 in
theorem cevent_no (e1 e2 e3 e4 t1 t2 t3 t4 t5 t6 : Int) (r : Bool) (w : World) (h2 : (e1 == 2) = false) (hr : [(e1, 1, 5), (e2, 1, 9999), (e3, 0, 10000), (e4, 0, 10000)].any spanB = r) :
    Calls Tryd.prog 18 #[.agg #[.int .i64 e1, .int .i64 e2, .int .i64 e3, .int .i64 e4, .int .i64 t1, .int .i64 t2, .int .i64 t3, .int .i64 t4, .int .i64 t5, .int .i64 t6]] w
      fun x w' => x = .returned (errV (rangeE r)) ∧ Below w.heap.size w w' := by
  have HR := hidT hr
  clear hr
  have hV0 : Below w.heap.size w (w.alloc (.cells #[.int .i64 e1, .int .i64 e2, .int .i64 e3, .int .i64 e4, .int .i64 t1, .int .i64 t2, .int .i64 t3, .int .i64 t4, .int .i64 t5, .int .i64 t6] 33)) := (Below.refl _ _).alloc (Nat.le_refl _) _
  have hR := heap_alloc_new w (.cells #[.int .i64 e1, .int .i64 e2, .int .i64 e3, .int .i64 e4, .int .i64 t1, .int .i64 t2, .int .i64 t3, .int .i64 t4, .int .i64 t5, .int .i64 t6] 33)
  go_enter Tryd.func18, Tryd.ntmps18
  go_wp2_with fail
  generalize w.alloc (.cells #[.int .i64 e1, .int .i64 e2, .int .i64 e3, .int .i64 e4, .int .i64 t1, .int .i64 t2, .int .i64 t3, .int .i64 t4, .int .i64 t5, .int .i64 t6] 33) = V0 at *
  have d1 : V0.cell? ⟨w.heap.size, 1, none⟩ = some (.int .i64 e2) := by simp [World.cell?, hR]
  have d2 : V0.cell? ⟨w.heap.size, 2, none⟩ = some (.int .i64 e3) := by simp [World.cell?, hR]
  have d3 : V0.cell? ⟨w.heap.size, 3, none⟩ = some (.int .i64 e4) := by simp [World.cell?, hR]
  clear hR
  refine (of_any e1 1 5 _).mono ?_
  rintro e W1 ⟨rfl, hb1⟩
  have b1 := keeps hb1 d1
  have b2 := keeps hb1 d2
  have b3 := keeps hb1 d3
  have hV1 : Below w.heap.size w W1 := hV0.trans (hb1.mono hV0.size)
  clear hb1 d1 d2 d3 hV0
  have hV2 := hV1.alloc hV1.size (.cells #[.int .i64 e1, .int .i64 1, .int .i64 5] 75)
  have hB2 : Below W1.heap.size W1 (W1.alloc (.cells #[.int .i64 e1, .int .i64 1, .int .i64 5] 75)) := (Below.refl _ _).alloc (Nat.le_refl _) _
  have hR := heap_alloc_new W1 (.cells #[.int .i64 e1, .int .i64 1, .int .i64 5] 75)
  have c1 := keeps hB2 b1
  have c2 := keeps hB2 b2
  have c3 := keeps hB2 b3
  clear b1 b2 b3 hB2 hV1
  go_upto_region 4 with fail
  generalize W1.alloc (.cells #[.int .i64 e1, .int .i64 1, .int .i64 5] 75) = V at *
  have p0 : V.cell? ⟨W1.heap.size, 0, none⟩ = some (.int .i64 e1) := by simp [World.cell?, hR]
  have p1 : V.cell? ⟨W1.heap.size, 1, none⟩ = some (.int .i64 1) := by simp [World.cell?, hR]
  have p2 : V.cell? ⟨W1.heap.size, 2, none⟩ = some (.int .i64 5) := by simp [World.cell?, hR]
  clear hR
  have SO : Hid (∀ W, Below V.heap.size V W → (Below V.heap.size V W ∧ W.cell? ⟨w.heap.size, 1, none⟩ = some (.int .i64 e2) ∧ W.cell? ⟨w.heap.size, 2, none⟩ = some (.int .i64 e3) ∧ W.cell? ⟨w.heap.size, 3, none⟩ = some (.int .i64 e4) ∧ W.cell? ⟨W1.heap.size, 0, none⟩ = some (.int .i64 e1) ∧ W.cell? ⟨W1.heap.size, 1, none⟩ = some (.int .i64 1) ∧ W.cell? ⟨W1.heap.size, 2, none⟩ = some (.int .i64 5))) := fun W hW => ⟨hW, keeps hW c1, keeps hW c2, keeps hW c3, keeps hW p0, keeps hW p1, keeps hW p2⟩
  go_region_held3 (fun W => Below V.heap.size V W ∧ W.cell? ⟨w.heap.size, 1, none⟩ = some (.int .i64 e2) ∧ W.cell? ⟨w.heap.size, 2, none⟩ = some (.int .i64 e3) ∧ W.cell? ⟨w.heap.size, 3, none⟩ = some (.int .i64 e4) ∧ W.cell? ⟨W1.heap.size, 0, none⟩ = some (.int .i64 e1) ∧ W.cell? ⟨W1.heap.size, 1, none⟩ = some (.int .i64 1) ∧ W.cell? ⟨W1.heap.size, 2, none⟩ = some (.int .i64 5))
    ((refine SO.out _ ?_; (repeat' (first | with_reducible assumption | with_reducible refine bal ?_ _ | with_reducible refine Below.setCell ?_ ?_ _ | with_reducible refine Below.drew ?_ | with_reducible exact Below.refl _ _ | with_reducible exact Nat.le_refl _ | with_reducible exact Below.size (by with_reducible assumption) | with_reducible refine Nat.le_succ_of_le ?_))))
    (first | (go_at_call 35; refine (id_V V _ _ ?_).mono ?_; (repeat' (first | with_reducible assumption | with_reducible refine bal ?_ _ | with_reducible refine Below.setCell ?_ ?_ _ | with_reducible refine Below.drew ?_ | with_reducible exact Below.refl _ _ | with_reducible exact Nat.le_refl _ | with_reducible exact Below.size (by with_reducible assumption) | with_reducible refine Nat.le_succ_of_le ?_)); rintro x W ⟨rfl, hbn⟩) | (go_at_call 33; refine (of_V V _ _ _ _ ?_).mono ?_; (repeat' (first | with_reducible assumption | with_reducible refine bal ?_ _ | with_reducible refine Below.setCell ?_ ?_ _ | with_reducible refine Below.drew ?_ | with_reducible exact Below.refl _ _ | with_reducible exact Nat.le_refl _ | with_reducible exact Below.size (by with_reducible assumption) | with_reducible refine Nat.le_succ_of_le ?_)); rintro x W ⟨rfl, hbn⟩) | (go_at_call 34; refine (scheck4 r _ _ _ _ _ _ _ _ _ _ _ _ _ _ rfl HR.out).mono ?_; rintro x W2 ⟨rfl, hbs⟩; have hbn := Below.trans (by with_reducible assumption) (hbs.mono (Below.size (by with_reducible assumption)))))
  all_goals
    have HW : Hid (Below w.heap.size w W2) := hV2.trans (hbn.mono hV2.size)
    clear SO hV2 HR hbs hbn c1 c2 c3 p0 p1 p2
    cases r
    · simp only [show errV (rangeE false) = .nilIface from rfl]
      go_wp2_with fail
      go_ret
      exact ⟨rfl, HW.out⟩
    · simp only [show errV (rangeE true) = .iface 47 (.int .i64 1) from rfl]
      go_wp2_with fail
      go_ret
      exact ⟨rfl, HW.out⟩
theorem cevent_yes (e2 e3 e4 t1 t2 t3 t4 t5 t6 : Int) (r : Bool) (w : World) (hr : [(t3, 1, 9), (t4, 1, 9), (t1, 1, 9999), (t2, 1, 9999), (t5, 1, 10000), (t6, 1, 10000)].any spanB = r) :
    Calls Tryd.prog 18 #[.agg #[.int .i64 2, .int .i64 e2, .int .i64 e3, .int .i64 e4, .int .i64 t1, .int .i64 t2, .int .i64 t3, .int .i64 t4, .int .i64 t5, .int .i64 t6]] w
      fun x w' => x = .returned (errV (rangeE r)) ∧ Below w.heap.size w w' := by
  have HR := hidT hr
  clear hr
  have hV0 : Below w.heap.size w (w.alloc (.cells #[.int .i64 2, .int .i64 e2, .int .i64 e3, .int .i64 e4, .int .i64 t1, .int .i64 t2, .int .i64 t3, .int .i64 t4, .int .i64 t5, .int .i64 t6] 33)) := (Below.refl _ _).alloc (Nat.le_refl _) _
  go_enter Tryd.func18, Tryd.ntmps18
  go_wp2_with fail
  refine (ctrade_walk t1 t2 t3 t4 t5 t6 r _ HR.out).mono ?_
  rintro e W1 ⟨rfl, hb1⟩
  have HW : Hid (Below w.heap.size w W1) := hV0.trans (hb1.mono hV0.size)
  clear hb1 hV0 HR
  cases r
  · simp only [show errV (rangeE false) = .nilIface from rfl]
    go_wp2_with fail
    go_ret
    exact ⟨rfl, HW.out⟩
  · simp only [show errV (rangeE true) = .iface 47 (.int .i64 1) from rfl]
    go_wp2_with fail
    go_ret
    exact ⟨rfl, HW.out⟩

/-- A trade that may be told; an event; a tape. -/
def tdB (t : T) : Bool := decide (1 ≤ t.frm) && decide (t.frm ≤ 9) && decide (1 ≤ t.into) && decide (t.into ≤ 9) && decide (1 ≤ t.maker) && decide (t.maker ≤ 9999) && decide (1 ≤ t.taker) && decide (t.taker ≤ 9999) && decide (1 ≤ t.price) && decide (t.price ≤ 10000) && decide (1 ≤ t.qty) && decide (t.qty ≤ 10000)
def otB (e : Ev) : Bool := decide (1 ≤ e.what) && decide (e.what ≤ 5) && decide (1 ≤ e.id) && decide (e.id ≤ 9999) && decide (0 ≤ e.qty) && decide (e.qty ≤ 10000) && decide (0 ≤ e.price) && decide (e.price ≤ 10000)
def evB (e : Ev) : Bool := if e.what = 2 then tdB e.tr else otB e
def badE (e : Ev) : Bool := !evB e
def tchk (l : List Ev) : Int := if 400 < l.length then 4 else rangeE (l.any badE)
theorem td_any (t1 t2 t3 t4 t5 t6 : Int) : [(t3, 1, 9), (t4, 1, 9), (t1, 1, 9999), (t2, 1, 9999), (t5, 1, 10000), (t6, 1, 10000)].any spanB = !tdB ⟨t1, t2, t3, t4, t5, t6⟩ := by
  rw [Bool.eq_iff_iff]
  simp [spanB, tdB]
  omega
theorem ot_any (e1 e2 e3 e4 : Int) (t : T) : [(e1, 1, 5), (e2, 1, 9999), (e3, 0, 10000), (e4, 0, 10000)].any spanB = !otB ⟨e1, e2, e3, e4, t⟩ := by
  rw [Bool.eq_iff_iff]
  simp [spanB, otB]
  omega
theorem cevent_any (e : Ev) (w : World) :
    Calls Tryd.prog 18 #[.agg (evL e).toArray] w fun x w' => x = .returned (errV (rangeE (badE e))) ∧ Below w.heap.size w w' := by
  obtain ⟨e1, e2, e3, e4, ⟨t1, t2, t3, t4, t5, t6⟩⟩ := e
  by_cases h : e1 = 2
  · subst h
    exact cevent_yes e2 e3 e4 t1 t2 t3 t4 t5 t6 _ w (td_any t1 t2 t3 t4 t5 t6)
  · have hb : badE ⟨e1, e2, e3, e4, ⟨t1, t2, t3, t4, t5, t6⟩⟩ = !otB ⟨e1, e2, e3, e4, ⟨t1, t2, t3, t4, t5, t6⟩⟩ := by
      unfold badE evB
      rw [if_neg h]
    rw [hb]
    exact cevent_no e1 e2 e3 e4 t1 t2 t3 t4 t5 t6 _ w (by simp [h]) (ot_any e1 e2 e3 e4 _)
theorem ev_pred (w : World) : PredBelow Tryd.prog 17 #[] (fun x => .agg (evL x).toArray) badE w := by
  intro W x hb
  have hc := hidT (fun V => cevent_any x V)
  generalize badE x = r at *
  obtain ⟨e1, e2, e3, e4, ⟨t1, t2, t3, t4, t5, t6⟩⟩ := x
  have HC : Hid (∀ V, Calls Tryd.prog 18 #[.agg #[.int .i64 e1, .int .i64 e2, .int .i64 e3, .int .i64 e4, .int .i64 t1, .int .i64 t2, .int .i64 t3, .int .i64 t4, .int .i64 t5, .int .i64 t6]] V fun x w' => x = .returned (errV (rangeE r)) ∧ Below V.heap.size V w') := hc
  clear hc
  show Calls Tryd.prog 17 #[.agg #[.int .i64 e1, .int .i64 e2, .int .i64 e3, .int .i64 e4, .int .i64 t1, .int .i64 t2, .int .i64 t3, .int .i64 t4, .int .i64 t5, .int .i64 t6]] W _
  have hV0 : Below w.heap.size w (W.alloc (.cells #[.int .i64 e1, .int .i64 e2, .int .i64 e3, .int .i64 e4, .int .i64 t1, .int .i64 t2, .int .i64 t3, .int .i64 t4, .int .i64 t5, .int .i64 t6] 33)) := hb.alloc hb.size _
  cases r
  · simp only [show errV (rangeE false) = .nilIface from rfl] at HC
    go_enter Tryd.func17, Tryd.ntmps17
    go_wp2_with fail
    refine (HC.out _).mono ?_
    rintro e W1 ⟨rfl, hb1⟩
    have HW : Hid (Below w.heap.size w W1) := hV0.trans (hb1.mono hV0.size)
    clear hb1 hV0 HC
    go_wp2_with fail
    go_ret
    exact ⟨rfl, HW.out⟩
  · simp only [show errV (rangeE true) = .iface 47 (.int .i64 1) from rfl] at HC
    go_enter Tryd.func17, Tryd.ntmps17
    go_wp2_with fail
    refine (HC.out _).mono ?_
    rintro e W1 ⟨rfl, hb1⟩
    have HW : Hid (Below w.heap.size w W1) := hV0.trans (hb1.mono hV0.size)
    clear hb1 hV0 HC
    go_wp2_with fail
    go_ret
    exact ⟨rfl, HW.out⟩
theorem eidx_nil (W : World) : Calls Tryd.prog 31 #[.slice none 0 0, .func (.func 17) #[] #[]] W fun e w' => e = .returned (.int .i64 (-1)) ∧ Below W.heap.size W w' := by
  go_enter Tryd.func31, Tryd.ntmps31
  go_wp2
  go_loopg [5, 8] 0 (fun _ _ s8 wr => s8 = .int .i64 0 ∧ wr = W)
  case atStart => exact ⟨rfl, rfl⟩
  case round =>
    obtain ⟨rfl, rfl⟩ := hrel
    go_wp2
    go_ret
    exact ⟨rfl, Below.refl _ _⟩
theorem ecf_nil (W : World) : Calls Tryd.prog 16 #[.slice none 0 0, .func (.func 17) #[] #[]] W fun e w' => e = .returned (.bool false) ∧ Below W.heap.size W w' := by
  go_enter Tryd.func16, Tryd.ntmps16
  go_wp2_with fail
  refine (eidx_nil _).mono ?_
  rintro e w' ⟨rfl, hb⟩
  go_wp2_with fail
  go_ret
  exact ⟨rfl, hb⟩
set_option maxRecDepth 100000 in
theorem check_any (v : Value) (zs : List Ev) (w : World) (h : EL w v zs) :
    Calls Tryd.prog 7 #[v] w fun x w' => x = .returned (errV (tchk zs)) ∧ Below w.heap.size w w' := by
  have eg : ∀ args w, (callFunc 17 args).run Tryd.prog w = .ok (.enter 17 args) w := enters_of Tryd.func17 (by kernel_rfl) rfl
  have hcon : zs.length ≤ 400 → Calls Tryd.prog 16 #[v, .func (.func 17) #[] #[]] w fun e w' => e = .returned (.bool (zs.any badE)) ∧ Below w.heap.size w w' := by
    intro hn
    rcases h with ⟨rfl, rfl⟩ | ⟨b, o, c, rfl, h2, h3, h4, h5⟩
    · exact ecf_nil w
    · have := AnyQ.slices_ContainsFunc Tryd.lh8e 10 Tryd.isAgg33 Tryd.sizeOf33 evL (fun x => rfl) badE 17 #[] eg b o zs.length c zs w (ev_pred w) (Nat.le_refl _) (by omega) h4 h5
      rw [List.take_length] at this
      exact this
  obtain ⟨q, c, rfl, hn⟩ := h.form
  clear h
  unfold tchk
  have HC := hidT hcon
  clear hcon
  generalize zs.any badE = r at *
  generalize zs.length = n at *
  have hlen : (n : Int) ≤ 9223372036854775807 := by omega
  by_cases h4 : 400 < n
  · have h4z : (400 : Int) < (n : Int) := by omega
    rw [if_pos h4]
    go_enter Tryd.func7, Tryd.ntmps7
    go_wp2_with fail
    go_ret
    exact ⟨rfl, Below.refl _ _⟩
  · have h4z : ¬ (400 : Int) < (n : Int) := by omega
    rw [if_neg h4]
    have hk := hidT (HC.out (by omega))
    clear HC
    cases r
    · go_enter Tryd.func7, Tryd.ntmps7
      go_wp2_with fail
      refine hk.out.mono ?_
      rintro e w' ⟨rfl, hb'⟩
      go_wp2_with fail
      go_ret
      exact ⟨rfl, hb'⟩
    · go_enter Tryd.func7, Tryd.ntmps7
      go_wp2_with fail
      refine hk.out.mono ?_
      rintro e w' ⟨rfl, hb'⟩
      go_wp2_with fail
      go_ret
      exact ⟨rfl, hb'⟩
end Go.Proofs.YtgpbpaimfhlnhaaDoor.tap
