/- Contracts over this seat's translation: tick.Price, and package order's checkPrice and mayRest, each at every input. -/
import Derived.Test.YtpcomgnglidhhaaGreatDoorOrdText
import Derived.Test.YtpcomgnglidhhaaGreatDoorShelf
import Derived.Test.YtpcomgnglidhhaaGreatDoorTickP
import Derived.WalkKit
import Derived.ProofKit
import Derived.Outline
import Derived.WalkSpells
import Derived.WalkLawsBesides
import Derived.Below
import Derived.Handy
namespace Go.Proofs.YtpcomgnglidhhaaGreatDoor.ord
open Go.RowKit
open Go.Proofs.YtpcomgnglidhhaaGreatDoor.spn (keeps bcell spanB spanV of_any id_any who_any qty_any side_any scheck2 scheck4 rangeE)

/-- The error of a number: nil of 0, else that Errno. -/
def errV (k : Int) : Value := if k = 0 then .nilIface else .iface 41 (.int .i64 k)
theorem errV_zero : errV 0 = .nilIface := rfl
theorem errV_one : errV 1 = .iface 41 (.int .i64 1) := rfl
theorem errV_of {k : Int} (h : ¬ k = 0) : errV k = .iface 41 (.int .i64 k) := if_neg h

/-- An order as the program holds it. -/
def oV (o : O) : Value := .agg #[.int .i64 o.id, .int .i64 o.who, .int .i64 o.side, .int .i64 o.kind, .int .i64 o.price, .int .i64 o.qty, .int .i64 o.shw, .int .i64 o.stop]

theorem pr_is (n : Int) : tickP.priceB n = prB n := rfl
theorem price_ok (n : Int) (w : World) (h : prB n = true) :
    Calls Tryz.prog 24 #[.int .i64 n] w fun e w' => e = .returned .nilIface ∧ Below w.heap.size w w' := by
  refine (tickP.tprice_V w n w (Below.refl _ _)).mono ?_
  rintro e w' ⟨rfl, hb⟩
  rw [pr_is, h]
  exact ⟨rfl, hb⟩
theorem price_no (n : Int) (w : World) (h : prB n = false) :
    Calls Tryz.prog 24 #[.int .i64 n] w fun e w' => e = .returned (.iface 41 (.int .i64 1)) ∧ Below w.heap.size w w' := by
  refine (tickP.tprice_V w n w (Below.refl _ _)).mono ?_
  rintro e w' ⟨rfl, hb⟩
  rw [pr_is, h]
  exact ⟨rfl, hb⟩

theorem mayRest_any (k : Int) (w : World) :
    Calls Tryz.prog 23 #[.int .i64 k] w fun e w' => e = .returned (.bool (k == 1 || k == 5)) ∧ w' = w := by
  cases h : (k == 1) <;>
  · go_enter Tryz.func23, Tryz.ntmps23
    go_wp2
    go_ret
    exact ⟨rfl, rfl⟩

theorem checkPrice_ok (a b c d p q s t : Int) (w : World) (h : priceOkB ⟨a, b, c, d, p, q, s, t⟩ = true) :
    Calls Tryz.prog 21 #[.agg #[.int .i64 a, .int .i64 b, .int .i64 c, .int .i64 d, .int .i64 p, .int .i64 q, .int .i64 s, .int .i64 t]] w
      fun e w' => e = .returned .nilIface ∧ Below w.heap.size w w' := by
  have hpo : (if d = 2 then decide (p = 0) else prB p) = true := h
  clear h
  by_cases hd : d = 2
  · rw [if_pos hd] at hpo
    have hp : p = 0 := of_decide_eq_true hpo
    subst hd hp
    clear hpo
    go_enter Tryz.func21, Tryz.ntmps21
    go_wp2
    go_ret
    exact ⟨rfl, (Below.refl _ _).alloc (Nat.le_refl _) _⟩
  · rw [if_neg hd] at hpo
    have hd2 : (d != 2) = true := by rw [bne_iff_ne]; exact hd
    go_enter Tryz.func21, Tryz.ntmps21
    go_wp2_with (go_at_call 24; refine (price_ok _ _ hpo).mono ?_; rintro e w' ⟨rfl, hb⟩)
    go_ret
    exact ⟨rfl, ((Below.refl _ _).alloc (Nat.le_refl _) _).trans (hb.mono (by simp))⟩

theorem checkPrice_no (a b c d p q s t : Int) (w : World) (h : priceOkB ⟨a, b, c, d, p, q, s, t⟩ = false) :
    Calls Tryz.prog 21 #[.agg #[.int .i64 a, .int .i64 b, .int .i64 c, .int .i64 d, .int .i64 p, .int .i64 q, .int .i64 s, .int .i64 t]] w
      fun e w' => e = .returned (.iface 41 (.int .i64 1)) ∧ Below w.heap.size w w' := by
  have hpo : (if d = 2 then decide (p = 0) else prB p) = false := h
  clear h
  by_cases hd : d = 2
  · rw [if_pos hd] at hpo
    have hp : (p != 0) = true := by rw [bne_iff_ne]; exact of_decide_eq_false hpo
    subst hd
    clear hpo
    go_enter Tryz.func21, Tryz.ntmps21
    go_wp2
    go_ret
    exact ⟨rfl, (Below.refl _ _).alloc (Nat.le_refl _) _⟩
  · rw [if_neg hd] at hpo
    have hd2 : (d != 2) = true := by rw [bne_iff_ne]; exact hd
    go_enter Tryz.func21, Tryz.ntmps21
    go_wp2_with (go_at_call 24; refine (price_no _ _ hpo).mono ?_; rintro e w' ⟨rfl, hb⟩)
    go_ret
    exact ⟨rfl, ((Below.refl _ _).alloc (Nat.le_refl _) _).trans (hb.mono (by simp))⟩

theorem head_any (a b c d p q s t : Int) : [(a, 1, 9999), (b, 1, 9), (c, 1, 2), (d, 1, 5)].any spanB = !headB ⟨a, b, c, d, p, q, s, t⟩ := by
  rw [Bool.eq_iff_iff]
  simp [spanB, headB]
  omega
theorem qtys_any (a b c d p q s t : Int) : [(q, 1, 10000), (s, 0, q)].any spanB = !qtyB ⟨a, b, c, d, p, q, s, t⟩ := by
  rw [Bool.eq_iff_iff]
  simp [spanB, qtyB]
  omega

end Go.Proofs.YtpcomgnglidhhaaGreatDoor.ord
