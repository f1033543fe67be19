/- Contracts over this seat's translation: a number as text: strconv.Itoa, the document's Digits. -/
import Derived.Test.YtgpbpaimfhlnhaaDoorBokBld
import Derived.Lib.ItoaNum
import Derived.Lib.SmallJoins
import Derived.Lib.AppendIntMem
namespace Go.Proofs.YtgpbpaimfhlnhaaDoor.bld
open Go.RowKit

def dec (n : Int) : List UInt8 := Lib.itoa n
theorem dec_pos {n : Int} (h : 0 ≤ n) : dec n = Lib.decDigits n.toNat := by unfold dec Lib.itoa; rw [if_neg (by omega)]
theorem dec_len : ∀ (k u : Nat), u < 10 ^ (k + 1) → (Lib.decDigits u).length ≤ k + 1 := by
  intro k
  induction k with
  | zero => intro u h; rw [Lib.decDigits_one (by omega)]; simp
  | succ k ih =>
    intro u h
    by_cases h1 : u < 10
    · rw [Lib.decDigits_one h1]; simp
    · rw [Lib.decDigits, dif_neg h1, List.length_append]
      have := ih (u / 10) (by rw [Nat.pow_succ] at h; omega)
      simp
      omega
theorem dec_short {n : Int} (h0 : 0 ≤ n) (h : n ≤ 99999) : (dec n).length ≤ 5 := by
  rw [dec_pos h0]
  exact dec_len 4 n.toNat (by omega)
theorem str_ext {a b : ByteArray} (h : a.data.toList = b.data.toList) : a = b := by
  cases a; cases b
  congr 1
  exact Array.toList_inj.1 h
theorem app_str (a b : List UInt8) : (⟨a.toArray⟩ : ByteArray) ++ ⟨b.toArray⟩ = ⟨(a ++ b).toArray⟩ := by
  apply str_ext
  simp
/-- The table that a number of more than two digits is written by. -/
def Tab (w : World) : Prop := Lib.TabIs Tryd.prog w "internal/strconv.uint64pow10" .u64 Lib.pow10Tab
theorem Tab.on {w w' : World} {B : Nat} (h : Tab w) (hb : Below B w w') (hB : w.heap.size ≤ B) : Tab w' := Joins.tab_stays (show Tryd.prog.globalNamed "internal/strconv.uint64pow10" = some 2 by kernel_rfl) h hb hB
theorem itoa_any (n : Int) (w : World) (h : Tab w) (h0 : -9223372036854775808 ≤ n) (h1 : n ≤ 9223372036854775807) :
    Calls Tryd.prog 23 #[.int .i64 n] w fun e w' => e = .returned (.string ⟨(dec n).toArray⟩) ∧ Below w.heap.size w w' := by
  refine (Tryd.strconv_Itoa n h0 h1 w h).mono ?_
  rintro e w' ⟨rfl, k, os, rfl⟩
  exact ⟨rfl, Lib.below_grow _ _ (Nat.le_refl _) _ _⟩

def digS : ByteArray := ⟨#[48, 49, 50, 51, 52, 53, 54, 55, 56, 57]⟩
theorem dig_one (n : Int) (h0 : 0 ≤ n) (h1 : n < 10) : digS.extract n.toNat (n + 1).toNat = ⟨(dec n).toArray⟩ := by
  have : n = 0 ∨ n = 1 ∨ n = 2 ∨ n = 3 ∨ n = 4 ∨ n = 5 ∨ n = 6 ∨ n = 7 ∨ n = 8 ∨ n = 9 := by omega
  rcases this with rfl | rfl | rfl | rfl | rfl | rfl | rfl | rfl | rfl | rfl <;> (apply str_ext; rw [dec_pos (by decide), Lib.decDigits_one (by decide)]; decide)
theorem digits_one (n : Int) (w : World) (h0 : 0 ≤ n) (h1 : n < 10) :
    Calls Tryd.prog 19 #[.int .i64 n] w fun e w' => e = .returned (.string ⟨(dec n).toArray⟩) ∧ w' = w := by
  have hd := dig_one n h0 h1
  go_enter Tryd.func19, Tryd.ntmps19
  go_wp2
  go_ret
  exact ⟨by rw [← hd]; rfl, rfl⟩
theorem dec_step (n : Int) (h : 10 ≤ n) : dec n = dec (n / 10) ++ dec (n % 10) := by
  rw [dec_pos (by omega), dec_pos (by omega), dec_pos (by omega), Lib.decDigits, dif_neg (by omega), Lib.decDigits_one (i := (n % 10).toNat) (by omega)]
  have e1 : n.toNat / 10 = (n / 10).toNat := by omega
  have e2 : n.toNat % 10 = (n % 10).toNat := by omega
  rw [e1, e2]
/-- Digits of a number from 0 on, of at most five digits. -/
theorem digits_any (k : Nat) : ∀ (n : Int) (w : World), 0 ≤ n → n < 10 ^ (k + 1) → k ≤ 4 →
    Calls Tryd.prog 19 #[.int .i64 n] w fun e w' => e = .returned (.string ⟨(dec n).toArray⟩) ∧ w' = w := by
  induction k with
  | zero => intro n w h0 h1 _; exact digits_one n w h0 (by omega)
  | succ k ih =>
    intro n w h0 h1 hk
    by_cases h : n < 10
    · exact digits_one n w h0 h
    have hn : 10 ≤ n := by omega
    have hb : n < 100000 := by
      have : (10 : Int) ^ (k + 1 + 1) ≤ 10 ^ 5 := by
        have := Nat.pow_le_pow_right (n := 10) (by omega) (show k + 1 + 1 ≤ 5 by omega)
        exact_mod_cast this
      omega
    have e1 := dig_one (n % 10) (by omega) (by omega)
    have e2 := dec_step n hn
    have hr := ih (n / 10) w (by omega) (by rw [Int.pow_succ] at h1; omega) (by omega)
    have hl : (dec (n / 10)).length ≤ 5 := dec_short (by omega) (by omega)
    have m1 : 0 ≤ n % 10 := by omega
    have m2 : n % 10 < 10 := by omega
    clear h h1 ih
    go_enter Tryd.func19, Tryd.ntmps19
    go_wp2_with fail
    refine hr.mono ?_
    rintro e w' ⟨rfl, rfl⟩
    go_wp2_with fail
    go_ret
    exact ⟨by rw [e2, ← app_str, ← e1]; rfl, rfl⟩
end Go.Proofs.YtgpbpaimfhlnhaaDoor.bld
