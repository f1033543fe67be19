/- Contracts over this seat's translation: package bars' checkTrade, check, checkSome. -/
import Derived.Test.YtkbegagpliiljaaDoorBarSl
import Derived.Deep.RegionHeld3
namespace Go.Proofs.YtkbegagpliiljaaDoor.bar
open Go.RowKit Go.Proofs.YtkbegagpliiljaaDoor.mee
open Go.Proofs.YtkbegagpliiljaaDoor.spn (keeps bcell spanB spanV of_any qty_any price_any scheck_is scheck2 rangeE errV errV_zero errV_of)

theorem of_V (V : World) (n lo hi : Int) (w : World) (h : Below V.heap.size V w) :
    Calls Tryd.prog 15 #[.int .i64 n, .int .i64 lo, .int .i64 hi] w fun e w' => e = .returned (.agg #[.int .i64 n, .int .i64 lo, .int .i64 hi]) ∧ Below V.heap.size V w' :=
  (of_any n lo hi w).mono fun _ _ h' => ⟨h'.1, h.trans (h'.2.mono h.size)⟩
theorem qty_V (V : World) (n : Int) (w : World) (h : Below V.heap.size V w) :
    Calls Tryd.prog 35 #[.int .i64 n] w fun e w' => e = .returned (.agg #[.int .i64 n, .int .i64 1, .int .i64 10000]) ∧ Below V.heap.size V w' :=
  (qty_any n w).mono fun _ _ h' => ⟨h'.1, h.trans (h'.2.mono h.size)⟩
theorem price_V (V : World) (n : Int) (w : World) (h : Below V.heap.size V w) :
    Calls Tryd.prog 34 #[.int .i64 n] w fun e w' => e = .returned (.agg #[.int .i64 n, .int .i64 1, .int .i64 10000]) ∧ Below V.heap.size V w' :=
  (price_any n w).mono fun _ _ h' => ⟨h'.1, h.trans (h'.2.mono h.size)⟩

set_option maxRecDepth 100000 in
set_option maxHeartbeats 4000000 in
theorem ctrade_walk (t1 t2 t3 t4 t5 t6 : Int) (r : Bool) (w : World) (hr : [(t5, 1, 10000), (t6, 1, 10000)].any spanB = r) :
    Calls Tryd.prog 26 #[.agg #[.int .i64 t1, .int .i64 t2, .int .i64 t3, .int .i64 t4, .int .i64 t5, .int .i64 t6]] w
      fun x w' => x = .returned (errV (rangeE r)) ∧ Below w.heap.size w w' := by
  have HR := hidT hr
  clear hr
  have hV : Below w.heap.size w (w.alloc (.cells #[.int .i64 t1, .int .i64 t2, .int .i64 t3, .int .i64 t4, .int .i64 t5, .int .i64 t6] 34)) := (Below.refl _ _).alloc (Nat.le_refl _) _
  have hR := heap_alloc_new w (.cells #[.int .i64 t1, .int .i64 t2, .int .i64 t3, .int .i64 t4, .int .i64 t5, .int .i64 t6] 34)
  go_enter Tryd.func26, Tryd.ntmps26
  go_upto_region 1 with fail
  generalize w.alloc (.cells #[.int .i64 t1, .int .i64 t2, .int .i64 t3, .int .i64 t4, .int .i64 t5, .int .i64 t6] 34) = V at *
  have c4 : V.cell? ⟨w.heap.size, 4, none⟩ = some (.int .i64 t5) := by simp [World.cell?, hR]
  have c5 : V.cell? ⟨w.heap.size, 5, none⟩ = some (.int .i64 t6) := by simp [World.cell?, hR]
  clear hR
  have SO : Hid (∀ W, Below V.heap.size V W → (Below V.heap.size V W ∧ W.cell? ⟨w.heap.size, 4, none⟩ = some (.int .i64 t5) ∧ W.cell? ⟨w.heap.size, 5, none⟩ = some (.int .i64 t6))) := fun W hW => ⟨hW, keeps hW c4, keeps hW c5⟩
  go_region_held3 (fun W => Below V.heap.size V W ∧ W.cell? ⟨w.heap.size, 4, none⟩ = some (.int .i64 t5) ∧ W.cell? ⟨w.heap.size, 5, none⟩ = some (.int .i64 t6))
    ((refine SO.out _ ?_; (repeat' (first | with_reducible assumption | with_reducible refine bal ?_ _ | with_reducible refine Below.setCell ?_ ?_ _ | with_reducible refine Below.drew ?_ | with_reducible exact Below.refl _ _ | with_reducible exact Nat.le_refl _ | with_reducible exact Below.size (by with_reducible assumption) | with_reducible refine Nat.le_succ_of_le ?_))))
    (first | (go_at_call 34; refine (price_V V _ _ ?_).mono ?_; (repeat' (first | with_reducible assumption | with_reducible refine bal ?_ _ | with_reducible refine Below.setCell ?_ ?_ _ | with_reducible refine Below.drew ?_ | with_reducible exact Below.refl _ _ | with_reducible exact Nat.le_refl _ | with_reducible exact Below.size (by with_reducible assumption) | with_reducible refine Nat.le_succ_of_le ?_)); rintro x W ⟨rfl, hbn⟩) | (go_at_call 35; refine (qty_V V _ _ ?_).mono ?_; (repeat' (first | with_reducible assumption | with_reducible refine bal ?_ _ | with_reducible refine Below.setCell ?_ ?_ _ | with_reducible refine Below.drew ?_ | with_reducible exact Below.refl _ _ | with_reducible exact Nat.le_refl _ | with_reducible exact Below.size (by with_reducible assumption) | with_reducible refine Nat.le_succ_of_le ?_)); rintro x W ⟨rfl, hbn⟩) | (go_at_call 14; refine (scheck2 r _ _ _ _ _ _ _ _ rfl HR.out).mono ?_; rintro x W2 ⟨rfl, hbs⟩; have hbn := Below.trans (by with_reducible assumption) (hbs.mono (Below.size (by with_reducible assumption)))))
  have HW : Hid (Below w.heap.size w W2) := hV.trans (hbn.mono hV.size)
  clear SO hV HR hbs hbn c4 c5
  cases r
  · simp only [show errV (rangeE false) = .nilIface from rfl]
    go_wp2_with fail
    go_ret
    exact ⟨rfl, HW.out⟩
  · simp only [show errV (rangeE true) = .iface 52 (.int .i64 1) from rfl]
    go_wp2_with fail
    go_ret
    exact ⟨rfl, HW.out⟩

/-- A trade that is wrong. -/
def badT (x : T) : Bool := !(decide (1 ≤ x.price) && decide (x.price ≤ 10000) && decide (1 ≤ x.qty) && decide (x.qty ≤ 10000))
theorem two_any (p q : Int) (x : T) (hp : x.price = p) (hq : x.qty = q) : [(p, 1, 10000), (q, 1, 10000)].any spanB = badT x := by
  subst hp hq
  rw [Bool.eq_iff_iff]
  simp [spanB, badT]
  omega
theorem ctrade_any (x : T) (w : World) :
    Calls Tryd.prog 26 #[.agg (tV x).toArray] w fun e w' => e = .returned (errV (rangeE (badT x))) ∧ Below w.heap.size w w' := by
  have h := two_any x.price x.qty x rfl rfl
  obtain ⟨t1, t2, t3, t4, t5, t6⟩ := x
  exact ctrade_walk t1 t2 t3 t4 t5 t6 _ w h
set_option maxRecDepth 100000 in
theorem tr_pred (w : World) : PredBelow Tryd.prog 25 #[] (fun x => .agg (tV x).toArray) badT w := by
  intro W x hb
  have hc := hidT (fun V => ctrade_any x V)
  generalize badT x = r at *
  obtain ⟨t1, t2, t3, t4, t5, t6⟩ := x
  have HC : Hid (∀ V, Calls Tryd.prog 26 #[.agg #[.int .i64 t1, .int .i64 t2, .int .i64 t3, .int .i64 t4, .int .i64 t5, .int .i64 t6]] V fun x w' => x = .returned (errV (rangeE r)) ∧ Below V.heap.size V w') := hc
  clear hc
  show Calls Tryd.prog 25 #[.agg #[.int .i64 t1, .int .i64 t2, .int .i64 t3, .int .i64 t4, .int .i64 t5, .int .i64 t6]] W _
  have hV0 : Below w.heap.size w (W.alloc (.cells #[.int .i64 t1, .int .i64 t2, .int .i64 t3, .int .i64 t4, .int .i64 t5, .int .i64 t6] 34)) := hb.alloc hb.size _
  cases r
  · simp only [show errV (rangeE false) = .nilIface from rfl] at HC
    go_enter Tryd.func25, Tryd.ntmps25
    go_wp2_with fail
    refine (HC.out _).mono ?_
    rintro e W1 ⟨rfl, hb1⟩
    have HW : Hid (Below w.heap.size w W1) := hV0.trans (hb1.mono hV0.size)
    clear hb1 hV0 HC
    go_wp2_with fail
    go_ret
    exact ⟨rfl, HW.out⟩
  · simp only [show errV (rangeE true) = .iface 52 (.int .i64 1) from rfl] at HC
    go_enter Tryd.func25, Tryd.ntmps25
    go_wp2_with fail
    refine (HC.out _).mono ?_
    rintro e W1 ⟨rfl, hb1⟩
    have HW : Hid (Below w.heap.size w W1) := hV0.trans (hb1.mono hV0.size)
    clear hb1 hV0 HC
    go_wp2_with fail
    go_ret
    exact ⟨rfl, HW.out⟩
theorem tidx_nil (W : World) : Calls Tryd.prog 33 #[.slice none 0 0, .func (.func 25) #[] #[]] W fun e w' => e = .returned (.int .i64 (-1)) ∧ Below W.heap.size W w' := by
  go_enter Tryd.func33, Tryd.ntmps33
  go_wp2
  go_loopg [5, 8] 0 (fun _ _ s8 wr => s8 = .int .i64 0 ∧ wr = W)
  case atStart => exact ⟨rfl, rfl⟩
  case round =>
    obtain ⟨rfl, rfl⟩ := hrel
    go_wp2
    go_ret
    exact ⟨rfl, Below.refl _ _⟩
theorem tcf_nil (W : World) : Calls Tryd.prog 24 #[.slice none 0 0, .func (.func 25) #[] #[]] W fun e w' => e = .returned (.bool false) ∧ Below W.heap.size W w' := by
  go_enter Tryd.func24, Tryd.ntmps24
  go_wp2_with fail
  refine (tidx_nil W).mono ?_
  rintro e w' ⟨rfl, hb⟩
  go_wp2
  go_ret
  exact ⟨rfl, hb⟩
/-- What is wrong with trades. -/
def bchk (zs : List T) : Int := if 400 < zs.length then 4 else if zs.any badT = true then 1 else 0
set_option maxRecDepth 100000 in
theorem check_any (v : Value) (zs : List T) (w : World) (h : TL w v zs) :
    Calls Tryd.prog 13 #[v] w fun x w' => x = .returned (errV (bchk zs)) ∧ Below w.heap.size w w' := by
  have eg : ∀ args w, (callFunc 25 args).run Tryd.prog w = .ok (.enter 25 args) w := enters_of Tryd.func25 (by kernel_rfl) rfl
  have hcon : zs.length ≤ 400 → Calls Tryd.prog 24 #[v, .func (.func 25) #[] #[]] w fun e w' => e = .returned (.bool (zs.any badT)) ∧ Below w.heap.size w w' := by
    intro hn
    rcases h with ⟨rfl, rfl⟩ | ⟨b, o, c, rfl, h2, h3, h4, h5⟩
    · exact tcf_nil w
    · have := AnyQ.slices_ContainsFunc Tryd.lh8t 6 Tryd.isAgg34 Tryd.sizeOf34 tV (fun x => rfl) badT 25 #[] eg b o zs.length c zs w (tr_pred w) (Nat.le_refl _) (by omega) h4 h5
      rw [List.take_length] at this
      exact this
  obtain ⟨q, c, rfl, hn, hc9⟩ := h.form
  clear h
  unfold bchk
  have HC := hidT hcon
  clear hcon
  generalize zs.any badT = r at *
  generalize zs.length = n at *
  have hlen : (n : Int) ≤ 9223372036854775807 := by omega
  by_cases h4 : 400 < n
  · have h4z : (400 : Int) < (n : Int) := by omega
    rw [if_pos h4]
    go_enter Tryd.func13, Tryd.ntmps13
    go_wp2_with fail
    go_ret
    exact ⟨rfl, Below.refl _ _⟩
  · have h4z : ¬ (400 : Int) < (n : Int) := by omega
    rw [if_neg h4]
    have hk := hidT (HC.out (by omega))
    clear HC
    cases r
    · go_enter Tryd.func13, Tryd.ntmps13
      go_wp2_with fail
      refine hk.out.mono ?_
      rintro e w' ⟨rfl, hb'⟩
      go_wp2_with fail
      go_ret
      exact ⟨rfl, hb'⟩
    · go_enter Tryd.func13, Tryd.ntmps13
      go_wp2_with fail
      refine hk.out.mono ?_
      rintro e w' ⟨rfl, hb'⟩
      go_wp2_with fail
      go_ret
      exact ⟨rfl, hb'⟩
/-- What is wrong with trades of which there has to be one. -/
def bsome (zs : List T) : Int := if bchk zs = 0 then (if zs.length = 0 then 5 else 0) else bchk zs
set_option maxRecDepth 100000 in
theorem checkSome_any (v : Value) (zs : List T) (w : World) (h : TL w v zs) :
    Calls Tryd.prog 19 #[v] w fun x w' => x = .returned (errV (bsome zs)) ∧ Below w.heap.size w w' := by
  have HC := hidT (check_any v zs w h)
  obtain ⟨q, c, rfl, hn, hc9⟩ := h.form
  clear h
  unfold bsome
  have hev := fun h => errV_of (k := bchk zs) h
  generalize bchk zs = k at *
  generalize zs.length = n at *
  have hlen : (n : Int) ≤ 9223372036854775807 := by omega
  by_cases hk : k = 0
  · subst hk
    rw [if_pos rfl]
    rw [errV_zero] at HC
    by_cases hz : n = 0
    · subst hz
      go_enter Tryd.func19, Tryd.ntmps19
      go_wp2_with fail
      refine HC.out.mono ?_
      rintro e w' ⟨rfl, hb'⟩
      go_wp2_with fail
      go_ret
      exact ⟨rfl, hb'⟩
    · have hzz : ((n : Int) == 0) = false := by simp; omega
      rw [if_neg hz]
      go_enter Tryd.func19, Tryd.ntmps19
      go_wp2_with fail
      refine HC.out.mono ?_
      rintro e w' ⟨rfl, hb'⟩
      go_wp2_with fail
      go_ret
      exact ⟨rfl, hb'⟩
  · rw [if_neg hk, hev hk]
    rw [hev hk] at HC
    clear hev hk
    go_enter Tryd.func19, Tryd.ntmps19
    go_wp2_with fail
    refine HC.out.mono ?_
    rintro e w' ⟨rfl, hb'⟩
    go_wp2_with fail
    go_ret
    exact ⟨rfl, hb'⟩
end Go.Proofs.YtkbegagpliiljaaDoor.bar
