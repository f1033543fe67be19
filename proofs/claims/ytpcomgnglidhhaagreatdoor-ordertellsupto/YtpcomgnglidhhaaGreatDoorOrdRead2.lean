/- Contracts over this seat's translation: package order's takePart. -/
import Derived.Test.YtpcomgnglidhhaaGreatDoorOrdRead1
namespace Go.Proofs.YtpcomgnglidhhaaGreatDoor.ord
open Go.RowKit

attribute [local go_sem ↓] Go.wp_at_zero Go.wp_at_succ

theorem take_short (a : Option Addr) (n cap : Nat) (nm : ByteArray) (w : World) (hn : n < 2) :
    Calls Tryz.prog 45 #[.slice a n cap, .string nm] w fun e w' => e = .returned (.tuple #[.int .i64 0, .slice a n cap]) ∧ w' = w := by
  have h : (n : Int) < 2 := by omega
  go_enter Tryz.func45, Tryz.ntmps45
  go_wp2
  go_ret2
  exact ⟨rfl, rfl⟩

set_option maxRecDepth 100000 in
theorem take_other (g off n cap : Nat) (a nm : List UInt8) (w : World) (hn : 2 ≤ n) (hm : n ≤ 100) (c0 : w.cell? ⟨g, off, none⟩ = some (.string ⟨a.toArray⟩)) (hne : a ≠ nm) :
    Calls Tryz.prog 45 #[.slice (some ⟨g, off, none⟩) n cap, .string ⟨nm.toArray⟩] w fun e w' => e = .returned (.tuple #[.int .i64 0, .slice (some ⟨g, off, none⟩) n cap]) ∧ w' = w := by
  have h : ¬ ((n : Int) < 2) := by omega
  have h0 : (0 : Int) < (n : Int) := by omega
  have hq : ((⟨a.toArray⟩ : ByteArray).toList == (⟨nm.toArray⟩ : ByteArray).toList) = false := by
    rw [beq_eq_false_iff_ne, toList_mk, toList_mk]; exact hne
  generalize (⟨a.toArray⟩ : ByteArray) = x at *
  generalize (⟨nm.toArray⟩ : ByteArray) = y at *
  go_enter Tryz.func45, Tryz.ntmps45
  go_wp2
  go_ret2
  exact ⟨rfl, rfl⟩

set_option maxRecDepth 100000 in
theorem take_none (g off n cap : Nat) (b nm : List UInt8) (w : World) (hL : Laid w) (hE : ErrL w) (hn : 2 ≤ n) (hm : n ≤ 100) (c0 : w.cell? ⟨g, off, none⟩ = some (.string ⟨nm.toArray⟩)) (c1 : w.cell? ⟨g, off + 1, none⟩ = some (.string ⟨b.toArray⟩)) (hb : b.length ≤ maxLen) (h0 : num b = 0) :
    Calls Tryz.prog 45 #[.slice (some ⟨g, off, none⟩) n cap, .string ⟨nm.toArray⟩] w fun e w' => e = .returned (.tuple #[.int .i64 0, .slice (some ⟨g, off, none⟩) n cap]) ∧ Below w.heap.size w w' := by
  have h : ¬ ((n : Int) < 2) := by omega
  have g0 : (0 : Int) < (n : Int) := by omega
  have g1 : (1 : Int) < (n : Int) := by omega
  have hcon := number_any ⟨b.toArray⟩ w hL hE (by rw [size_list]; exact hb)
  have e : num (⟨b.toArray⟩ : ByteArray).data.toList = 0 := h0
  rw [e] at hcon
  generalize (⟨b.toArray⟩ : ByteArray) = x at *
  generalize (⟨nm.toArray⟩ : ByteArray) = y at *
  clear e
  go_enter Tryz.func45, Tryz.ntmps45
  go_wp2_with fail
  refine hcon.mono ?_
  rintro e w1 ⟨rfl, hb1⟩
  go_wp2_with fail
  go_ret2
  exact ⟨rfl, hb1⟩

set_option maxRecDepth 100000 in
set_option maxHeartbeats 1000000 in
theorem take_some (g off n cap : Nat) (b nm : List UInt8) (w : World) (hL : Laid w) (hE : ErrL w) (hn : 2 ≤ n) (hm : cap ≤ 100) (hc : n ≤ cap) (c0 : w.cell? ⟨g, off, none⟩ = some (.string ⟨nm.toArray⟩)) (c1 : w.cell? ⟨g, off + 1, none⟩ = some (.string ⟨b.toArray⟩)) (hb : b.length ≤ maxLen) (h0 : num b ≠ 0) :
    Calls Tryz.prog 45 #[.slice (some ⟨g, off, none⟩) n cap, .string ⟨nm.toArray⟩] w fun e w' => (∃ off', (off' = off + 2 ∨ n = 2) ∧ e = .returned (.tuple #[.int .i64 (num b), .slice (some ⟨g, off', none⟩) (n - 2) (cap - 2)])) ∧ Below w.heap.size w w' := by
  have h : ¬ ((n : Int) < 2) := by omega
  have g0 : (0 : Int) < (n : Int) := by omega
  have g1 : (1 : Int) < (n : Int) := by omega
  have g2 : (2 : Int) ≤ (n : Int) := by omega
  have g3 : (n : Int) ≤ (cap : Int) := by omega
  have hcon := number_any ⟨b.toArray⟩ w hL hE (by rw [size_list]; exact hb)
  have e : num (⟨b.toArray⟩ : ByteArray).data.toList = num b := rfl
  rw [e] at hcon
  have hz : ((num b : Int) == 0) = false := by rw [beq_eq_false_iff_ne]; omega
  have hle := num_le b
  generalize num b = m at *
  generalize (⟨b.toArray⟩ : ByteArray) = x at *
  generalize (⟨nm.toArray⟩ : ByteArray) = y at *
  clear e
  by_cases hcap : cap = 2
  · subst hcap
    have hn2 : n = 2 := by omega
    subst hn2
    clear h g0 g1 g2 g3
    go_enter Tryz.func45, Tryz.ntmps45
    go_wp2_with fail
    refine hcon.mono ?_
    rintro e w1 ⟨rfl, hb1⟩
    go_upto_region 6 with fail
    go_region_held3 (fun w' => True) (trivial) (fail)
    go_wp2
    go_ret2
    exact ⟨⟨off, Or.inr trivial, rfl⟩, hb1.drew⟩
  · have hcap3 : (2 : Int) < (cap : Int) := by omega
    go_enter Tryz.func45, Tryz.ntmps45
    go_wp2_with fail
    refine hcon.mono ?_
    rintro e w1 ⟨rfl, hb1⟩
    go_upto_region 6 with fail
    go_region_held3 (fun w' => True) (trivial) (fail)
    go_wp2
    go_ret2
    exact ⟨⟨off + 2, Or.inl rfl, rfl⟩, hb1.drew⟩

/-- takePart, at words that lie in a row. -/
theorem takePart_any (g off cap : Nat) (ws : List (List UInt8)) (nm : List UInt8) (w : World) (hL : Laid w) (hE : ErrL w) (hrow : RowAt w g off ws) (hc : ws.length ≤ cap) (hcap : cap ≤ 100) (hwd : ∀ l ∈ ws, l.length ≤ maxLen) :
    Calls Tryz.prog 45 #[.slice (some ⟨g, off, none⟩) ws.length cap, .string ⟨nm.toArray⟩] w fun e w' =>
      (∃ off' cap', e = .returned (.tuple #[.int .i64 (part nm ws).1, .slice (some ⟨g, off', none⟩) (part nm ws).2.length cap']) ∧ RowAt w g off' (part nm ws).2 ∧ (part nm ws).2.length ≤ cap' ∧ cap' ≤ 100) ∧ Below w.heap.size w w' := by
  match ws, hrow, hc, hwd with
  | [], hrow, hc, _ =>
    refine (take_short _ _ _ _ w (by simp)).mono ?_
    rintro e w' ⟨rfl, rfl⟩
    exact ⟨⟨off, cap, rfl, hrow, hc, hcap⟩, Below.refl _ _⟩
  | [a], hrow, hc, _ =>
    refine (take_short _ _ _ _ w (by simp)).mono ?_
    rintro e w' ⟨rfl, rfl⟩
    exact ⟨⟨off, cap, rfl, hrow, hc, hcap⟩, Below.refl _ _⟩
  | a :: b :: r, hrow, hc, hwd =>
    have c0 : w.cell? ⟨g, off, none⟩ = some (.string ⟨a.toArray⟩) := hrow 0 a rfl
    have c1 : w.cell? ⟨g, off + 1, none⟩ = some (.string ⟨b.toArray⟩) := hrow 1 b rfl
    have hl : 2 ≤ (a :: b :: r).length := by simp
    by_cases ha : a = nm
    · subst ha
      by_cases hb : num b = 0
      · have e : part a (a :: b :: r) = (0, a :: b :: r) := by unfold part; simp [hb]
        rw [e]
        refine (take_none g off _ cap b a w hL hE hl (by omega) c0 c1 (hwd b (by simp)) hb).mono ?_
        rintro e w' ⟨rfl, hbw⟩
        exact ⟨⟨off, cap, rfl, hrow, hc, hcap⟩, hbw⟩
      · have e : part a (a :: b :: r) = (num b, r) := by unfold part; simp [hb]
        rw [e]
        refine (take_some g off _ cap b a w hL hE hl hcap hc c0 c1 (hwd b (by simp)) hb).mono ?_
        rintro e w' ⟨⟨off', ho, rfl⟩, hbw⟩
        have e2 : (a :: b :: r).length - 2 = r.length := by simp
        refine ⟨⟨off', cap - 2, by rw [e2], ?_, by simp at hc ⊢; omega, by omega⟩, hbw⟩
        rcases ho with rfl | hn
        · intro j l hj
          have := hrow (j + 2) l (by simpa using hj)
          rw [show off + 2 + j = off + (j + 2) by omega]
          exact this
        · have hr : r = [] := by
            have : r.length = 0 := by simp at hn; simp [hn]
            exact List.length_eq_zero_iff.1 this
          subst hr
          intro j l hj
          simp at hj
    · have e : part nm (a :: b :: r) = (0, a :: b :: r) := by unfold part; simp [ha]
      rw [e]
      refine (take_other g off _ cap a nm w hl (by omega) c0 ha).mono ?_
      rintro e w' ⟨rfl, rfl⟩
      exact ⟨⟨off, cap, rfl, hrow, hc, hcap⟩, Below.refl _ _⟩

end Go.Proofs.YtpcomgnglidhhaaGreatDoor.ord
