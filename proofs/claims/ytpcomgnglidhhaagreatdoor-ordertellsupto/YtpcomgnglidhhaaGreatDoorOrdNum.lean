/- Contracts over this seat's translation: strconv.Itoa, and package order's number and Meets, each at every input. -/
import Derived.Test.YtpcomgnglidhhaaGreatDoorOrdChk2
import Derived.Lib.SmallJoins
import Derived.Lib.AtoiBound
import Derived.Lib.AppendIntMem
namespace Go.Proofs.YtpcomgnglidhhaaGreatDoor.ord
open Go.RowKit

/-- What the walks ask of the package-level variables: each as its initialiser lays it. -/
structure Laid (w : World) : Prop where
  tab : Lib.TabIs Tryz.prog w "internal/strconv.uint64pow10" .u64 Lib.pow10Tab
  s0 : w.cell? ⟨0, 0, none⟩ = some (.string ⟨#[]⟩)
  s1 : w.cell? ⟨0, 1, none⟩ = some (.string ⟨wBuy.toArray⟩)
  s2 : w.cell? ⟨0, 2, none⟩ = some (.string ⟨wSell.toArray⟩)
  k0 : w.cell? ⟨1, 0, none⟩ = some (.string ⟨#[]⟩)
  k1 : w.cell? ⟨1, 1, none⟩ = some (.string ⟨wLimit.toArray⟩)
  k2 : w.cell? ⟨1, 2, none⟩ = some (.string ⟨wMarket.toArray⟩)
  k3 : w.cell? ⟨1, 3, none⟩ = some (.string ⟨wNow.toArray⟩)
  k4 : w.cell? ⟨1, 4, none⟩ = some (.string ⟨wWhole.toArray⟩)
  k5 : w.cell? ⟨1, 5, none⟩ = some (.string ⟨wPost.toArray⟩)

theorem keeps {w w' : World} {p : Addr} {v : Value} (hb : Below w.heap.size w w') (h : w.cell? p = some v) : w'.cell? p = some v :=
  (hb.cell (World.block_lt_of_cell? _ _ h)).trans h

theorem Laid.below {w w' : World} (h : Laid w) (hb : Below w.heap.size w w') : Laid w' where
  tab := Joins.tab_stays (show Tryz.prog.globalNamed "internal/strconv.uint64pow10" = some 3 by kernel_rfl) h.tab hb (Nat.le_refl _)
  s0 := keeps hb h.s0
  s1 := keeps hb h.s1
  s2 := keeps hb h.s2
  k0 := keeps hb h.k0
  k1 := keeps hb h.k1
  k2 := keeps hb h.k2
  k3 := keeps hb h.k3
  k4 := keeps hb h.k4
  k5 := keeps hb h.k5

theorem Laid.alloc {w : World} (h : Laid w) (o : Obj) : Laid (w.alloc o) := h.below ((Below.refl _ _).alloc (Nat.le_refl _) _)

/-- The variable of the error that a word is no number holds one. -/
def ErrL (w : World) : Prop := ∃ te pe, w.cell? ⟨5, 0, none⟩ = some (.iface te pe)
theorem ErrL.below {w w' : World} (h : ErrL w) (hb : Below w.heap.size w w') : ErrL w' := by
  obtain ⟨te, pe, e⟩ := h
  exact ⟨te, pe, keeps hb e⟩

/-- Strings are the bytes that they hold. -/
theorem str_eq (s : ByteArray) : (⟨s.data.toList.toArray⟩ : ByteArray) = s := rfl
theorem str_ne {l : List UInt8} {s : ByteArray} (h : l ≠ s.data.toList) : (⟨l.toArray⟩ : ByteArray) ≠ s := by
  intro e
  subst e
  exact h rfl
theorem size_list (s : ByteArray) : s.size = s.data.toList.length := by
  show s.data.size = _
  simp

theorem itoa_any (n : Int) (w : World) (h : Laid w) (h0 : -9223372036854775808 ≤ n) (h1 : n ≤ 9223372036854775807) :
    Calls Tryz.prog 26 #[.int .i64 n] w fun e w' => e = .returned (.string ⟨(dec n).toArray⟩) ∧ Below w.heap.size w w' := by
  refine (Tryz.strconv_Itoa n h0 h1 w h.tab).mono ?_
  rintro e w' ⟨rfl, k, os, rfl⟩
  exact ⟨rfl, Lib.below_grow _ _ (Nat.le_refl _) _ _⟩

theorem atoi_ok (s : ByteArray) (n : Int) (w : World) (hl : s.size ≤ 18) (h : Lib.atoi s.data.toList = some n) :
    Calls Tryz.prog 56 #[.string s] w fun e w' => e = .returned (.tuple #[.int .i64 n, .nilIface]) ∧ Below w.heap.size w w' := by
  refine (Tryz.strconv_Atoi s n hl h w).mono ?_
  rintro e w' ⟨rfl, t, rfl⟩
  exact ⟨rfl, Joins.below_bytesWorld _ _ _ _ (Nat.le_refl _)⟩

theorem atoi_no (s : ByteArray) (w : World) (hE : ErrL w) (hl : s.size ≤ 18) (h : Lib.atoi s.data.toList = none) :
    Calls Tryz.prog 56 #[.string s] w fun e w' => ∃ t v, e = .returned (.tuple #[.int .i64 0, .iface t v]) ∧ Below w.heap.size w w' := by
  obtain ⟨te, pe, he⟩ := hE
  refine (Tryz.strconv_Atoi_err s hl h _ w he (Or.inr ⟨te, pe, rfl⟩)).mono ?_
  rintro e w' ⟨N, rfl, _, _, hb⟩
  exact ⟨_, _, rfl, hb⟩

/-- number at a word that is too long. -/
theorem number_long (s : ByteArray) (w : World) (hs : s.size ≤ maxLen) (h : 5 < s.size) :
    Calls Tryz.prog 41 #[.string s] w fun e w' => e = .returned (.int .i64 0) ∧ w' = w := by
  unfold maxLen at hs
  have h5 : (5 : Int) < (s.size : Int) := by omega
  go_enter Tryz.func41, Tryz.ntmps41
  go_wp2
  go_ret
  exact ⟨rfl, rfl⟩

set_option maxRecDepth 100000 in
set_option maxHeartbeats 400000 in
theorem number_none (s : ByteArray) (w : World) (hE : ErrL w) (h : s.size ≤ 5) (ha : Lib.atoi s.data.toList = none) :
    Calls Tryz.prog 41 #[.string s] w fun e w' => e = .returned (.int .i64 0) ∧ Below w.heap.size w w' := by
  have h5 : (s.size : Int) ≤ 5 := by omega
  have hcon := atoi_no s w hE (by omega) ha
  have HA : Hid (Lib.atoi s.data.toList = none) := ha
  clear ha
  go_enter Tryz.func41, Tryz.ntmps41
  go_wp2_with fail
  refine hcon.mono ?_
  rintro e w1 ⟨t, v, rfl, hb⟩
  go_wp2_with fail
  go_ret
  exact ⟨rfl, hb⟩

set_option maxRecDepth 100000 in
set_option maxHeartbeats 400000 in
theorem number_low (s : ByteArray) (n : Int) (w : World) (h : s.size ≤ 5) (ha : Lib.atoi s.data.toList = some n) (hn : n < 1) :
    Calls Tryz.prog 41 #[.string s] w fun e w' => e = .returned (.int .i64 0) ∧ Below w.heap.size w w' := by
  have h5 : (s.size : Int) ≤ 5 := by omega
  have hcon := atoi_ok s n w (by omega) ha
  clear ha
  go_enter Tryz.func41, Tryz.ntmps41
  go_wp2_with fail
  refine hcon.mono ?_
  rintro e w1 ⟨rfl, hb⟩
  go_wp2_with fail
  go_ret
  exact ⟨rfl, hb⟩

set_option maxRecDepth 100000 in
set_option maxHeartbeats 400000 in
theorem number_other (s : ByteArray) (n : Int) (w : World) (hL : Laid w) (h : s.size ≤ 5) (ha : Lib.atoi s.data.toList = some n) (hn : 1 ≤ n) (hb1 : n ≤ 9223372036854775807) (hne : dec n ≠ s.data.toList) :
    Calls Tryz.prog 41 #[.string s] w fun e w' => e = .returned (.int .i64 0) ∧ Below w.heap.size w w' := by
  have h5 : (s.size : Int) ≤ 5 := by omega
  have hcon := atoi_ok s n w (by omega) ha
  have hq : ((⟨(dec n).toArray⟩ : ByteArray).toList == s.toList) = false := by
    rw [beq_eq_false_iff_ne, Lib.toList_data, Lib.toList_data]
    exact hne
  have HI : Hid (∀ W, Below w.heap.size w W → Calls Tryz.prog 26 #[.int .i64 n] W fun e w' => e = .returned (.string ⟨(dec n).toArray⟩) ∧ Below W.heap.size W w') := fun W hW => itoa_any n W (hL.below hW) (by omega) hb1
  generalize (⟨(dec n).toArray⟩ : ByteArray) = x at HI hq
  clear ha hne hL
  go_enter Tryz.func41, Tryz.ntmps41
  go_wp2_with fail
  refine hcon.mono ?_
  rintro e w1 ⟨rfl, hb⟩
  go_wp2_with fail
  refine (HI.out w1 hb).mono ?_
  rintro e w2 ⟨rfl, hb2⟩
  go_wp2_with fail
  go_ret
  exact ⟨rfl, hb.trans (hb2.mono hb.size)⟩

set_option maxRecDepth 100000 in
set_option maxHeartbeats 400000 in
theorem number_is (s : ByteArray) (n : Int) (w : World) (hL : Laid w) (h : s.size ≤ 5) (ha : Lib.atoi s.data.toList = some n) (hn : 1 ≤ n) (hb1 : n ≤ 9223372036854775807) (he : dec n = s.data.toList) :
    Calls Tryz.prog 41 #[.string s] w fun e w' => e = .returned (.int .i64 n) ∧ Below w.heap.size w w' := by
  have h5 : (s.size : Int) ≤ 5 := by omega
  have hcon := atoi_ok s n w (by omega) ha
  have HI : Hid (∀ W, Below w.heap.size w W → Calls Tryz.prog 26 #[.int .i64 n] W fun e w' => e = .returned (.string s) ∧ Below W.heap.size W w') := by
    intro W hW
    have := itoa_any n W (hL.below hW) (by omega) hb1
    rw [he] at this
    exact this
  clear ha he hL
  go_enter Tryz.func41, Tryz.ntmps41
  go_wp2_with fail
  refine hcon.mono ?_
  rintro e w1 ⟨rfl, hb⟩
  go_wp2_with fail
  refine (HI.out w1 hb).mono ?_
  rintro e w2 ⟨rfl, hb2⟩
  go_wp2_with fail
  go_ret
  exact ⟨rfl, hb.trans (hb2.mono hb.size)⟩

/-- number, at every word: the number that it writes, 0 of one that writes none. -/
theorem number_any (s : ByteArray) (w : World) (hL : Laid w) (hE : ErrL w) (hs : s.size ≤ maxLen) :
    Calls Tryz.prog 41 #[.string s] w fun e w' => e = .returned (.int .i64 (num s.data.toList)) ∧ Below w.heap.size w w' := by
  have hz := size_list s
  by_cases h5 : 5 < s.size
  · have h0 : num s.data.toList = 0 := by
      rw [num_zero_iff]
      cases e : numOk s.data.toList
      · rfl
      · have := (numOk_iff _).1 e; omega
    rw [h0]
    refine (number_long s w hs h5).mono ?_
    rintro e w' ⟨rfl, rfl⟩
    exact ⟨rfl, Below.refl _ _⟩
  · cases hk : numOk s.data.toList
    · have h0 : num s.data.toList = 0 := (num_zero_iff _).2 hk
      rw [h0]
      cases ha : Lib.atoi s.data.toList with
      | none => exact number_none s w hE (by omega) ha
      | some n =>
        by_cases hn : n < 1
        · exact number_low s n w (by omega) ha hn
        · have hb := Lib.atoi_bound ha (by omega)
          exact number_other s n w hL (by omega) ha (by omega) (by omega) (atoi_none hk (by omega) n (by omega))
    · have ha := atoi_num hk
      have hv := numOk_val hk
      have hn : num s.data.toList = val s.data.toList := by unfold num; rw [if_pos hk]
      refine number_is s _ w hL (by omega) ha (by omega) (by omega) ?_
      rw [dec_pos (by omega), Int.toNat_natCast, hn]
      exact hv.1

end Go.Proofs.YtpcomgnglidhhaaGreatDoor.ord
