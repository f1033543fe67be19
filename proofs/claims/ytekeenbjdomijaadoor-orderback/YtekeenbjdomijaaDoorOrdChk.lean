/- Contracts over this seat's translation: tick.Price, and package order's outside, checkPrice, mayRest and Check, each at every input. -/
import Derived.Test.YtekeenbjdomijaaDoorOrdText
import Derived.Test.YtekeenbjdomijaaDoorShelf
import Derived.WalkKit
import Derived.ProofKit
import Derived.Outline
import Derived.WalkSpells
import Derived.WalkLawsBesides
import Derived.Below
import Derived.Handy
namespace Go.Proofs.YtekeenbjdomijaaDoor.ord
open Go.RowKit

/-- The error of a number: nil of 0, else that Errno. -/
def errV (k : Int) : Value := if k = 0 then .nilIface else .iface 40 (.int .i64 k)
theorem errV_zero : errV 0 = .nilIface := rfl
theorem errV_one : errV 1 = .iface 40 (.int .i64 1) := rfl
theorem errV_of {k : Int} (h : ¬ k = 0) : errV k = .iface 40 (.int .i64 k) := if_neg h

/-- An order as the program holds it. -/
def oV (o : O) : Value := .agg #[.int .i64 o.id, .int .i64 o.who, .int .i64 o.side, .int .i64 o.kind, .int .i64 o.price, .int .i64 o.qty, .int .i64 o.shw, .int .i64 o.stop]

theorem within_ok (n lo hi : Int) (w : World) (h1 : lo ≤ n) (h2 : n ≤ hi) :
    Calls Tryd.prog 33 #[.int .i64 n, .int .i64 lo, .int .i64 hi] w fun e w' => e = .returned .nilIface ∧ w' = w := by
  go_enter Tryd.func33, Tryd.ntmps33
  go_wp2
  go_ret
  exact ⟨rfl, rfl⟩
theorem within_no (n lo hi : Int) (w : World) (h : n < lo ∨ hi < n) :
    Calls Tryd.prog 33 #[.int .i64 n, .int .i64 lo, .int .i64 hi] w fun e w' => e = .returned (.iface 40 (.int .i64 1)) ∧ w' = w := by
  by_cases h1 : n < lo
  · clear h
    go_enter Tryd.func33, Tryd.ntmps33
    go_wp2
    go_ret
    exact ⟨rfl, rfl⟩
  · have h2 : hi < n := by omega
    clear h
    go_enter Tryd.func33, Tryd.ntmps33
    go_wp2
    go_ret
    exact ⟨rfl, rfl⟩

theorem price_ok (n : Int) (w : World) (h : prB n = true) :
    Calls Tryd.prog 16 #[.int .i64 n] w fun e w' => e = .returned .nilIface ∧ w' = w := by
  unfold prB at h
  simp only [Bool.and_eq_true, decide_eq_true_eq] at h
  obtain ⟨h1, h2⟩ := h
  go_enter Tryd.func16, Tryd.ntmps16
  go_wp2_with (go_at_call 33; refine (within_ok _ _ _ _ h1 h2).mono ?_; rintro e w' ⟨rfl, rfl⟩)
  go_ret
  exact ⟨rfl, rfl⟩
theorem price_no (n : Int) (w : World) (h : prB n = false) :
    Calls Tryd.prog 16 #[.int .i64 n] w fun e w' => e = .returned (.iface 40 (.int .i64 1)) ∧ w' = w := by
  have h1 : n < 1 ∨ 10000 < n := by
    unfold prB at h
    simp only [Bool.and_eq_false_iff, decide_eq_false_iff_not] at h
    omega
  clear h
  go_enter Tryd.func16, Tryd.ntmps16
  go_wp2_with (go_at_call 33; refine (within_no _ _ _ _ h1).mono ?_; rintro e w' ⟨rfl, rfl⟩)
  go_ret
  exact ⟨rfl, rfl⟩

/-- A number that is outside of its span. -/
def spanB (x : Int × Int × Int) : Bool := decide (x.1 < x.2.1) || decide (x.2.2 < x.1)
def spanV (x : Int × Int × Int) : List Value := [.int .i64 x.1, .int .i64 x.2.1, .int .i64 x.2.2]

theorem span_pred (w : World) : PredBelow Tryd.prog 38 #[] (fun x => .agg (spanV x).toArray) spanB w := by
  intro W x hb
  obtain ⟨n, lo, hi⟩ := x
  show Calls Tryd.prog 38 #[.agg #[.int .i64 n, .int .i64 lo, .int .i64 hi]] W _
  by_cases h : n < lo
  · go_enter Tryd.func38, Tryd.ntmps38
    go_wp2
    go_ret
    exact ⟨by simp [spanB, h], hb.alloc hb.size _⟩
  · go_enter Tryd.func38, Tryd.ntmps38
    go_wp2
    go_ret
    have e1 : spanB (n, lo, hi) = decide (hi < n) := by
      unfold spanB
      rw [show decide (n < lo) = false from by simp; omega]
      rfl
    exact ⟨by rw [e1]; rfl, hb.alloc hb.size _⟩

theorem outside_is (r : Bool) (b c : Nat) (zs : List (Int × Int × Int)) (w : World) (hb : b < w.heap.size) (hn : zs.length ≤ 9)
    (hc : ∀ j, j < zs.length → ∀ i v, (spanV zs[j]!)[i]? = some v → w.cell? ⟨b, 0 + j * 3 + i, none⟩ = some v) (hr : zs.any spanB = r) :
    Calls Tryd.prog 26 #[.slice (some ⟨b, 0, none⟩) zs.length c] w fun e w' => e = .returned (.bool r) ∧ Below w.heap.size w w' := by
  have eg : ∀ args w, (callFunc 38 args).run Tryd.prog w = .ok (.enter 38 args) w := enters_of Tryd.func38 (by kernel_rfl) rfl
  have hcon := AnyQ.slices_ContainsFunc Tryd.lh8 3 Tryd.isAgg59 Tryd.sizeOf59 spanV (fun x => rfl) spanB 38 #[] eg b 0 zs.length c zs w
    (span_pred w) (Nat.le_refl _) (by omega) hb hc
  change Calls Tryd.prog 37 _ _ _ at hcon
  rw [List.take_length, hr] at hcon
  clear hc hr
  generalize zs.length = n at *
  go_enter Tryd.func26, Tryd.ntmps26
  go_wp2_with (go_at_call 37; refine hcon.mono ?_; rintro e w' ⟨rfl, hb'⟩)
  go_ret
  exact ⟨rfl, hb'⟩

theorem bcell {W w1 : World} (hb : Below W.heap.size W w1) : (∀ b o, b < W.heap.size → w1.cell? ⟨b, o, none⟩ = W.cell? ⟨b, o, none⟩) ∧ (∀ b o, b < W.heap.size → w1.frozen? ⟨b, o, none⟩ = W.frozen? ⟨b, o, none⟩) :=
  ⟨fun b o h => hb.cell (p := ⟨b, o, none⟩) h, fun b o h => hb.frozen (p := ⟨b, o, none⟩) h⟩

theorem outside4 (r : Bool) (a1 a2 a3 b1 b2 b3 c1 c2 c3 d1 d2 d3 : Int) (n : Nat) (V : World) (hn : V.heap.size = n)
    (hr : [(a1, a2, a3), (b1, b2, b3), (c1, c2, c3), (d1, d2, d3)].any spanB = r) :
    Calls Tryd.prog 26 #[.slice (some ⟨n, 0, none⟩) 4 4] (V.alloc (.cells #[.int .i64 a1, .int .i64 a2, .int .i64 a3, .int .i64 b1, .int .i64 b2, .int .i64 b3, .int .i64 c1, .int .i64 c2, .int .i64 c3, .int .i64 d1, .int .i64 d2, .int .i64 d3] 59))
      fun e w' => e = .returned (.bool r) ∧ Below V.heap.size V w' := by
  refine (outside_is r n 4 [(a1, a2, a3), (b1, b2, b3), (c1, c2, c3), (d1, d2, d3)] _ (by simp [← hn]) (by simp) ?_ hr).mono ?_
  · intro j hj i v hv
    have hj4 : j < 4 := hj
    rw [World.cell?_alloc_at _ _ _ _ hn.symm]
    rcases j with _ | _ | _ | _ | j
    · rcases i with _ | _ | _ | i <;> simp_all [spanV]
    · rcases i with _ | _ | _ | i <;> simp_all [spanV]
    · rcases i with _ | _ | _ | i <;> simp_all [spanV]
    · rcases i with _ | _ | _ | i <;> simp_all [spanV]
    · omega
  · rintro e w' ⟨rfl, hb⟩
    exact ⟨rfl, ((Below.refl _ V).alloc (Nat.le_refl _) _).trans (hb.mono (by simp))⟩

theorem outside2 (r : Bool) (a1 a2 a3 b1 b2 b3 : Int) (n : Nat) (V : World) (hn : V.heap.size = n)
    (hr : [(a1, a2, a3), (b1, b2, b3)].any spanB = r) :
    Calls Tryd.prog 26 #[.slice (some ⟨n, 0, none⟩) 2 2] (V.alloc (.cells #[.int .i64 a1, .int .i64 a2, .int .i64 a3, .int .i64 b1, .int .i64 b2, .int .i64 b3] 59))
      fun e w' => e = .returned (.bool r) ∧ Below V.heap.size V w' := by
  refine (outside_is r n 2 [(a1, a2, a3), (b1, b2, b3)] _ (by simp [← hn]) (by simp) ?_ hr).mono ?_
  · intro j hj i v hv
    have hj4 : j < 2 := hj
    rw [World.cell?_alloc_at _ _ _ _ hn.symm]
    rcases j with _ | _ | j
    · rcases i with _ | _ | _ | i <;> simp_all [spanV]
    · rcases i with _ | _ | _ | i <;> simp_all [spanV]
    · omega
  · rintro e w' ⟨rfl, hb⟩
    exact ⟨rfl, ((Below.refl _ V).alloc (Nat.le_refl _) _).trans (hb.mono (by simp))⟩

theorem mayRest_any (k : Int) (w : World) :
    Calls Tryd.prog 28 #[.int .i64 k] w fun e w' => e = .returned (.bool (k == 1 || k == 5)) ∧ w' = w := by
  cases h : (k == 1) <;>
  · go_enter Tryd.func28, Tryd.ntmps28
    go_wp2
    go_ret
    exact ⟨rfl, rfl⟩

theorem checkPrice_ok (a b c d p q s t : Int) (w : World) (h : priceOkB ⟨a, b, c, d, p, q, s, t⟩ = true) :
    Calls Tryd.prog 27 #[.agg #[.int .i64 a, .int .i64 b, .int .i64 c, .int .i64 d, .int .i64 p, .int .i64 q, .int .i64 s, .int .i64 t]] w
      fun e w' => e = .returned .nilIface ∧ Below w.heap.size w w' := by
  have hpo : (if d = 2 then decide (p = 0) else prB p) = true := h
  clear h
  by_cases hd : d = 2
  · rw [if_pos hd] at hpo
    have hp : p = 0 := of_decide_eq_true hpo
    subst hd hp
    clear hpo
    go_enter Tryd.func27, Tryd.ntmps27
    go_wp2
    go_ret
    exact ⟨rfl, (Below.refl _ _).alloc (Nat.le_refl _) _⟩
  · rw [if_neg hd] at hpo
    have hd2 : (d != 2) = true := by rw [bne_iff_ne]; exact hd
    go_enter Tryd.func27, Tryd.ntmps27
    go_wp2_with (go_at_call 16; refine (price_ok _ _ hpo).mono ?_; rintro e w' ⟨rfl, rfl⟩)
    go_ret
    exact ⟨rfl, (Below.refl _ _).alloc (Nat.le_refl _) _⟩

theorem checkPrice_no (a b c d p q s t : Int) (w : World) (h : priceOkB ⟨a, b, c, d, p, q, s, t⟩ = false) :
    Calls Tryd.prog 27 #[.agg #[.int .i64 a, .int .i64 b, .int .i64 c, .int .i64 d, .int .i64 p, .int .i64 q, .int .i64 s, .int .i64 t]] w
      fun e w' => e = .returned (.iface 40 (.int .i64 1)) ∧ Below w.heap.size w w' := by
  have hpo : (if d = 2 then decide (p = 0) else prB p) = false := h
  clear h
  by_cases hd : d = 2
  · rw [if_pos hd] at hpo
    have hp : (p != 0) = true := by rw [bne_iff_ne]; exact of_decide_eq_false hpo
    subst hd
    clear hpo
    go_enter Tryd.func27, Tryd.ntmps27
    go_wp2
    go_ret
    exact ⟨rfl, (Below.refl _ _).alloc (Nat.le_refl _) _⟩
  · rw [if_neg hd] at hpo
    have hd2 : (d != 2) = true := by rw [bne_iff_ne]; exact hd
    go_enter Tryd.func27, Tryd.ntmps27
    go_wp2_with (go_at_call 16; refine (price_no _ _ hpo).mono ?_; rintro e w' ⟨rfl, rfl⟩)
    go_ret
    exact ⟨rfl, (Below.refl _ _).alloc (Nat.le_refl _) _⟩

theorem head_any (a b c d p q s t : Int) : [(a, 1, 9999), (b, 1, 9), (c, 1, 2), (d, 1, 5)].any spanB = !headB ⟨a, b, c, d, p, q, s, t⟩ := by
  rw [Bool.eq_iff_iff]
  simp [spanB, headB]
  omega
theorem qty_any (a b c d p q s t : Int) : [(q, 1, 10000), (s, 0, q)].any spanB = !qtyB ⟨a, b, c, d, p, q, s, t⟩ := by
  rw [Bool.eq_iff_iff]
  simp [spanB, qtyB]
  omega

set_option maxRecDepth 100000 in
set_option maxHeartbeats 1000000 in
theorem check_headno (a b c d p q s t : Int) (w : World) (h : headB ⟨a, b, c, d, p, q, s, t⟩ = false) :
    Calls Tryd.prog 12 #[.agg #[.int .i64 a, .int .i64 b, .int .i64 c, .int .i64 d, .int .i64 p, .int .i64 q, .int .i64 s, .int .i64 t]] w
      fun e w' => e = .returned (.iface 40 (.int .i64 1)) ∧ Below w.heap.size w w' := by
  have h1 : [(a, 1, 9999), (b, 1, 9), (c, 1, 2), (d, 1, 5)].any spanB = true := by rw [head_any a b c d p q s t, h]; rfl
  have H1 : Hid ([(a, 1, 9999), (b, 1, 9), (c, 1, 2), (d, 1, 5)].any spanB = true) := h1
  clear h1 h
  go_enter Tryd.func12, Tryd.ntmps12
  go_wp2_with (go_at_call 26; refine (outside4 true _ _ _ _ _ _ _ _ _ _ _ _ _ _ (by simp) H1.out).mono ?_; rintro e w' ⟨rfl, hb⟩)
  go_ret
  exact ⟨rfl, ((Below.refl _ _).alloc (Nat.le_refl _) _).trans (hb.mono (by simp))⟩

end Go.Proofs.YtekeenbjdomijaaDoor.ord
