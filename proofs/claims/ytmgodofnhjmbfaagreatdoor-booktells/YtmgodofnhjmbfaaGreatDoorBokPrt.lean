/- Contracts over this seat's translation: book.best, book.levels, book.crossed. Contracts over this seat's translation: what one rest is as text: book.printed. -/
import Derived.Test.YtmgodofnhjmbfaaGreatDoorSidDL
import Derived.Deep.QuietTactic
import Derived.BigQuiet
import Derived.Deep.RegionHeld3
import Derived.Test.YtmgodofnhjmbfaaGreatDoorQueChk
namespace Go.Proofs.YtmgodofnhjmbfaaGreatDoor.bok
open Go.RowKit Go.Proofs.YtmgodofnhjmbfaaGreatDoor.spn Go.Proofs.YtmgodofnhjmbfaaGreatDoor.que Go.Proofs.YtmgodofnhjmbfaaGreatDoor.sid

/-- The best price of a side, 0 of none. -/
def bestI : List L → Int
  | [] => 0
  | l :: _ => l.price
theorem best_nil (q : Option Addr) (c : Nat) (w : World) :
    Calls Tryz.prog 30 #[.slice q 0 c] w fun e w' => e = .returned (.int .i64 0) ∧ w' = w := by
  go_enter Tryz.func30, Tryz.ntmps30
  go_wp2
  go_ret
  exact ⟨rfl, rfl⟩
theorem best_some (b o n c : Nat) (p : Int) (w : World) (hn : 0 < n) (h0 : w.cell? ⟨b, o, none⟩ = some (.int .i64 p)) :
    Calls Tryz.prog 30 #[.slice (some ⟨b, o, none⟩) n c] w fun e w' => e = .returned (.int .i64 p) ∧ w' = w := by
  have h1 : ¬ n = 0 := by omega
  have h2 : (0 : Int) < (n : Int) := by omega
  have h3 : ¬ (n : Int) = 0 := by omega
  go_enter Tryz.func30, Tryz.ntmps30
  go_wp2
  go_ret
  exact ⟨rfl, rfl⟩
theorem ls_first {w : World} {b o : Nat} {l : L} {t : List L} (h : LL w b o (l :: t)) : w.cell? ⟨b, o, none⟩ = some (.int .i64 l.price) := by
  have := (h 0 (by simp)).1
  simpa using this
theorem best_any (v : Value) (ls : List L) (w : World) (h : LS w v ls) :
    Calls Tryz.prog 30 #[v] w fun e w' => e = .returned (.int .i64 (bestI ls)) ∧ w' = w := by
  rcases h with ⟨rfl, rfl⟩ | ⟨b, o, c, rfl, h2, h3, h4, h5⟩
  · exact best_nil none 0 w
  · cases ls with
    | nil => exact best_nil _ c w
    | cons l t => exact best_some b o _ c l.price w (by simp) (ls_first h5)

theorem best_V (V : World) (v : Value) (ls : List L) (w : World) (h : LS w v ls) (hV : Below V.heap.size V w) :
    Calls Tryz.prog 30 #[v] w fun e w' => e = .returned (.int .i64 (bestI ls)) ∧ Below V.heap.size V w' :=
  (best_any v ls w h).mono fun e w' hh => ⟨hh.1, by rw [hh.2]; exact hV⟩

theorem levels_any (s : Int) (q1 q2 : Option Addr) (n1 n2 c1 c2 : Nat) (w : World) :
    Calls Tryz.prog 34 #[.agg #[.slice q1 n1 c1, .slice q2 n2 c2], .int .i64 s] w fun e w' => e = .returned (if s = 1 then .slice q1 n1 c1 else .slice q2 n2 c2) ∧ Below w.heap.size w w' := by
  by_cases hs : s = 1
  · rw [if_pos hs]
    subst hs
    go_enter Tryz.func34, Tryz.ntmps34
    go_wp2
    go_ret
    exact ⟨rfl, (Below.refl _ _).alloc (Nat.le_refl _) _⟩
  · rw [if_neg hs]
    have h1 : (s == 1) = false := by simpa using hs
    go_enter Tryz.func34, Tryz.ntmps34
    go_wp2
    go_ret
    exact ⟨rfl, (Below.refl _ _).alloc (Nat.le_refl _) _⟩

/-- Who buys would meet who sells. -/
def crossB (bs ss : List L) : Bool := !bs.isEmpty && (!ss.isEmpty && decide (bestI ss ≤ bestI bs))
set_option maxRecDepth 100000 in
set_option maxHeartbeats 2000000 in
theorem crossed_any (q1 q2 : Option Addr) (n1 n2 c1 c2 : Nat) (bs ss : List L) (w : World) (h1 : LS w (.slice q1 n1 c1) bs) (h2 : LS w (.slice q2 n2 c2) ss) :
    Calls Tryz.prog 26 #[.agg #[.slice q1 n1 c1, .slice q2 n2 c2]] w fun e w' => e = .returned (.bool (crossB bs ss)) ∧ Below w.heap.size w w' := by
  have hl1 : n1 = bs.length := by
    rcases h1 with ⟨e, e2⟩ | ⟨b, o, c, e, -⟩
    · cases e; rw [e2]; rfl
    · cases e; rfl
  have hl2 : n2 = ss.length := by
    rcases h2 with ⟨e, e2⟩ | ⟨b, o, c, e, -⟩
    · cases e; rw [e2]; rfl
    · cases e; rfl
  have hB : Below w.heap.size w (w.alloc (.cells #[.slice q1 n1 c1, .slice q2 n2 c2] 24)) := (Below.refl _ _).alloc (Nat.le_refl _) _
  by_cases e1 : bs = []
  · have ec : crossB bs ss = false := by rw [e1]; rfl
    rw [ec]
    have hn1 : n1 = 0 := by rw [hl1, e1]; rfl
    subst hn1
    clear hl1 hl2 h1 h2 ec e1
    go_enter Tryz.func26, Tryz.ntmps26
    go_upto_region 1 with fail
    go_quiet (fail)
    go_wp2_with fail
    go_ret
    exact ⟨rfl, belowN hB _⟩
  · have hn1 : 0 < n1 := by rw [hl1]; exact List.length_pos_iff.2 e1
    have b1 : bs.isEmpty = false := by simpa using e1
    by_cases e2 : ss = []
    · have ec : crossB bs ss = false := by unfold crossB; rw [e2]; simp
      rw [ec]
      have hn2 : n2 = 0 := by rw [hl2, e2]; rfl
      subst hn2
      have d1 : decide ((0 : Int) < (n1 : Int)) = true := by simp; omega
      have d2 : decide (0 < n1) = true := by simp; omega
      have d3 : (0 : Int) < (n1 : Int) := by omega
      clear hl1 hl2 h1 h2 ec e1 e2 b1
      go_enter Tryz.func26, Tryz.ntmps26
      go_upto_region 1 with fail
      go_quiet (fail)
      go_wp2_with fail
      go_ret
      exact ⟨rfl, belowN hB _⟩
    · have hn2 : 0 < n2 := by rw [hl2]; exact List.length_pos_iff.2 e2
      have b2 : ss.isEmpty = false := by simpa using e2
      have ec : crossB bs ss = decide (bestI ss ≤ bestI bs) := by unfold crossB; rw [b1, b2]; simp
      rw [ec]
      have d1 : decide ((0 : Int) < (n1 : Int)) = true := by simp; omega
      have d2 : decide (0 < n1) = true := by simp; omega
      have d3 : (0 : Int) < (n1 : Int) := by omega
      have d4 : decide ((0 : Int) < (n2 : Int)) = true := by simp; omega
      have d5 : decide (0 < n2) = true := by simp; omega
      have d6 : (0 : Int) < (n2 : Int) := by omega
      have H1 : Hid (∀ W, Below w.heap.size w W → LS W (.slice q1 n1 c1) bs) := fun W hW => h1.below hW
      have H2 : Hid (∀ W, Below w.heap.size w W → LS W (.slice q2 n2 c2) ss) := fun W hW => h2.below hW
      obtain ⟨x, hx⟩ : ∃ x, x = bestI bs := ⟨_, rfl⟩
      obtain ⟨y, hy⟩ : ∃ y, y = bestI ss := ⟨_, rfl⟩
      rw [← hx, ← hy]
      have HXY : Hid (x = bestI bs ∧ y = bestI ss) := ⟨hx, hy⟩
      clear hx hy
      have hR := heap_alloc_new w (.cells #[.slice q1 n1 c1, .slice q2 n2 c2] 24)
      clear hl1 hl2 h1 h2 ec e1 e2 b1 b2
      go_enter Tryz.func26, Tryz.ntmps26
      go_upto_region 1 with fail
      generalize w.alloc (.cells #[.slice q1 n1 c1, .slice q2 n2 c2] 24) = V at *
      have v0 : V.cell? ⟨w.heap.size, 0, none⟩ = some (.slice q1 n1 c1) := by simp [World.cell?, hR]
      have v1 : V.cell? ⟨w.heap.size, 1, none⟩ = some (.slice q2 n2 c2) := by simp [World.cell?, hR]
      clear hR
      have SO : Hid (∀ W, Below V.heap.size V W → (Below V.heap.size V W ∧ W.cell? ⟨w.heap.size, 0, none⟩ = some (.slice q1 n1 c1) ∧ W.cell? ⟨w.heap.size, 1, none⟩ = some (.slice q2 n2 c2))) := fun W hW => ⟨hW, keeps hW v0, keeps hW v1⟩
      have H3 : Hid (∀ W, Below V.heap.size V W → Calls Tryz.prog 30 #[.slice q1 n1 c1] W fun e w' => e = .returned (.int .i64 x) ∧ Below V.heap.size V w') := fun W hW => by rw [HXY.out.1]; exact best_V V _ bs W (H1.out W (hB.trans (hW.mono hB.size))) hW
      have H4 : Hid (∀ W, Below V.heap.size V W → Calls Tryz.prog 30 #[.slice q2 n2 c2] W fun e w' => e = .returned (.int .i64 y) ∧ Below V.heap.size V w') := fun W hW => by rw [HXY.out.2]; exact best_V V _ ss W (H2.out W (hB.trans (hW.mono hB.size))) hW
      clear H1 H2
      go_region_held3 (fun W => Below V.heap.size V W ∧ W.cell? ⟨w.heap.size, 0, none⟩ = some (.slice q1 n1 c1) ∧ W.cell? ⟨w.heap.size, 1, none⟩ = some (.slice q2 n2 c2))
        ((refine SO.out _ ?_; (repeat' (first | with_reducible assumption | with_reducible refine bal ?_ _ | with_reducible refine Below.setCell ?_ ?_ _ | with_reducible refine Below.drew ?_ | with_reducible exact Below.refl _ _ | with_reducible exact Nat.le_refl _ | with_reducible exact Below.size (by with_reducible assumption) | with_reducible refine Nat.le_succ_of_le ?_))))
        (first | (go_at_call 30; with_reducible refine (H3.out _ ?_).mono ?_; (repeat' (first | with_reducible assumption | with_reducible refine bal ?_ _ | with_reducible refine Below.setCell ?_ ?_ _ | with_reducible refine Below.drew ?_ | with_reducible exact Below.refl _ _ | with_reducible exact Nat.le_refl _ | with_reducible exact Below.size (by with_reducible assumption) | with_reducible refine Nat.le_succ_of_le ?_)); rintro x W ⟨rfl, hbn⟩) | (go_at_call 30; with_reducible refine (H4.out _ ?_).mono ?_; (repeat' (first | with_reducible assumption | with_reducible refine bal ?_ _ | with_reducible refine Below.setCell ?_ ?_ _ | with_reducible refine Below.drew ?_ | with_reducible exact Below.refl _ _ | with_reducible exact Nat.le_refl _ | with_reducible exact Below.size (by with_reducible assumption) | with_reducible refine Nat.le_succ_of_le ?_)); rintro x W ⟨rfl, hbn⟩))
      all_goals
        go_wp2_with fail
        go_ret
        exact ⟨rfl, hB.trans (Below.mono (by assumption) hB.size)⟩
end Go.Proofs.YtmgodofnhjmbfaaGreatDoor.bok
namespace Go.Proofs.YtmgodofnhjmbfaaGreatDoor.bld
open Go.RowKit Go.Proofs.YtmgodofnhjmbfaaGreatDoor.spn Go.Proofs.YtmgodofnhjmbfaaGreatDoor.que Go.Proofs.YtmgodofnhjmbfaaGreatDoor.sid Go.Proofs.YtmgodofnhjmbfaaGreatDoor.bok

theorem txt_hid (x y z : List UInt8) : ((⟨x.toArray⟩ : ByteArray) ++ ⟨#[58]⟩ ++ ⟨y.toArray⟩ ++ (⟨#[43]⟩ ++ ⟨z.toArray⟩)) = ⟨(x ++ [58] ++ y ++ ([43] ++ z)).toArray⟩ := by
  rw [← app_str, ← app_str, ← app_str, ← app_str]
theorem txt_no (x y : List UInt8) : ((⟨x.toArray⟩ : ByteArray) ++ ⟨#[58]⟩ ++ ⟨y.toArray⟩) = ⟨(x ++ [58] ++ y ++ []).toArray⟩ := by
  rw [List.append_nil, ← app_str, ← app_str]
set_option maxRecDepth 100000 in
set_option maxHeartbeats 1000000 in
theorem printed_any (i o q h s : Int) (w : World) (hT : Tab w) (hr : rchk ⟨i, o, q, h, s⟩ = 0) :
    Calls Tryz.prog 50 #[.agg #[.int .i64 i, .int .i64 o, .int .i64 q, .int .i64 h, .int .i64 s]] w fun e w' => e = .returned (.string ⟨(rTxt ⟨i, o, q, h, s⟩).toArray⟩) ∧ Below w.heap.size w w' := by
  have hrr : (1 ≤ q ∧ q ≤ 10000) ∧ (0 ≤ h ∧ h ≤ 10000) ∧ (1 ≤ i ∧ i ≤ 9999) := by
    obtain ⟨a1, a2, -, -, -, a3, -⟩ := rchk_zero hr
    exact ⟨a1, a2, a3⟩
  obtain ⟨⟨q1, q2⟩, ⟨k1, k2⟩, ⟨i1, i2⟩⟩ := hrr
  obtain ⟨x, hx⟩ : ∃ x, dec i = x := ⟨_, rfl⟩
  obtain ⟨y, hy⟩ : ∃ y, dec q = y := ⟨_, rfl⟩
  obtain ⟨z, hz⟩ : ∃ z, dec h = z := ⟨_, rfl⟩
  have lx : x.length ≤ 5 := by rw [← hx]; exact dec_short (by omega) (by omega)
  have ly : y.length ≤ 5 := by rw [← hy]; exact dec_short (by omega) (by omega)
  have lz : z.length ≤ 5 := by rw [← hz]; exact dec_short (by omega) (by omega)
  have HTX : Hid (rTxt ⟨i, o, q, h, s⟩ = x ++ [58] ++ y ++ (if 0 < h then [43] ++ z else [])) := by rw [← hx, ← hy, ← hz]; rfl
  obtain ⟨V, hV⟩ : ∃ V, V = w.alloc (.cells #[.int .i64 i, .int .i64 o, .int .i64 q, .int .i64 h, .int .i64 s] 26) := ⟨_, rfl⟩
  have hB : Below w.heap.size w V := by rw [hV]; exact (Below.refl _ _).alloc (Nat.le_refl _) _
  have hR := heap_alloc_new w (.cells #[.int .i64 i, .int .i64 o, .int .i64 q, .int .i64 h, .int .i64 s] 26)
  rw [← hV] at hR
  have v0 : V.cell? ⟨w.heap.size, 0, none⟩ = some (.int .i64 i) := by simp [World.cell?, hR]
  have v2 : V.cell? ⟨w.heap.size, 2, none⟩ = some (.int .i64 q) := by simp [World.cell?, hR]
  have v3 : V.cell? ⟨w.heap.size, 3, none⟩ = some (.int .i64 h) := by simp [World.cell?, hR]
  have SO : Hid (∀ W, Below V.heap.size V W → (Below V.heap.size V W ∧ W.cell? ⟨w.heap.size, 0, none⟩ = some (.int .i64 i) ∧ W.cell? ⟨w.heap.size, 2, none⟩ = some (.int .i64 q) ∧ W.cell? ⟨w.heap.size, 3, none⟩ = some (.int .i64 h))) := fun W hW => ⟨hW, keeps hW v0, keeps hW v2, keeps hW v3⟩
  have HT : Hid (∀ W, Below V.heap.size V W → Tab W) := fun W hW => (hT.on hB (Nat.le_refl _)).on hW (Nat.le_refl _)
  have H3 : Hid (∀ W, Below V.heap.size V W → Calls Tryz.prog 49 #[.int .i64 i] W fun e w' => e = .returned (.string ⟨x.toArray⟩) ∧ Below V.heap.size V w') := fun W hW => by
    rw [← hx]
    refine (itoa_any i W (HT.out W hW) (by omega) (by omega)).mono ?_
    rintro e w' ⟨rfl, hb⟩
    exact ⟨rfl, hW.trans (hb.mono hW.size)⟩
  have H4 : Hid (∀ W, Below V.heap.size V W → Calls Tryz.prog 49 #[.int .i64 q] W fun e w' => e = .returned (.string ⟨y.toArray⟩) ∧ Below V.heap.size V w') := fun W hW => by
    rw [← hy]
    refine (itoa_any q W (HT.out W hW) (by omega) (by omega)).mono ?_
    rintro e w' ⟨rfl, hb⟩
    exact ⟨rfl, hW.trans (hb.mono hW.size)⟩
  have H5 : Hid (∀ W, Below V.heap.size V W → Calls Tryz.prog 49 #[.int .i64 h] W fun e w' => e = .returned (.string ⟨z.toArray⟩) ∧ Below V.heap.size V w') := fun W hW => by
    rw [← hz]
    refine (itoa_any h W (HT.out W hW) (by omega) (by omega)).mono ?_
    rintro e w' ⟨rfl, hb⟩
    exact ⟨rfl, hW.trans (hb.mono hW.size)⟩
  have g1 : ¬ 9223372036854775807 < x.length + 1 := by omega
  have g2 : ¬ 9223372036854775807 < x.length + 1 + y.length := by omega
  have g3 : ¬ 9223372036854775807 < 1 + z.length := by omega
  have g4 : ¬ 9223372036854775807 < x.length + 1 + y.length + (1 + z.length) := by omega
  have g5 : ¬ 9223372036854775807 < z.length + 1 := by omega
  have g6 : ¬ 9223372036854775807 < x.length + 1 + y.length + (z.length + 1) := by omega
  have g7 : ¬ 9223372036854775807 < x.length + (y.length + 1) + (z.length + 1) := by omega
  clear lx ly lz hT hr hx hy hz q1 q2 i1 i2 hR HT
  go_enter Tryz.func50, Tryz.ntmps50
  go_upto_region 1 with fail
  rw [← hV]
  clear hV
  go_region_held3 (fun W => Below V.heap.size V W ∧ W.cell? ⟨w.heap.size, 0, none⟩ = some (.int .i64 i) ∧ W.cell? ⟨w.heap.size, 2, none⟩ = some (.int .i64 q) ∧ W.cell? ⟨w.heap.size, 3, none⟩ = some (.int .i64 h))
    ((refine SO.out _ ?_; (repeat' (first | with_reducible assumption | with_reducible refine bal ?_ _ | with_reducible refine Below.setCell ?_ ?_ _ | with_reducible refine Below.drew ?_ | with_reducible exact Below.refl _ _ | with_reducible exact Nat.le_refl _ | with_reducible exact Below.size (by with_reducible assumption) | with_reducible refine Nat.le_succ_of_le ?_))))
    (first | (go_at_call 49; with_reducible refine (H3.out _ ?_).mono ?_; (repeat' (first | with_reducible assumption | with_reducible refine bal ?_ _ | with_reducible refine Below.setCell ?_ ?_ _ | with_reducible refine Below.drew ?_ | with_reducible exact Below.refl _ _ | with_reducible exact Nat.le_refl _ | with_reducible exact Below.size (by with_reducible assumption) | with_reducible refine Nat.le_succ_of_le ?_)); rintro x W ⟨rfl, hbn⟩) | (go_at_call 49; with_reducible refine (H4.out _ ?_).mono ?_; (repeat' (first | with_reducible assumption | with_reducible refine bal ?_ _ | with_reducible refine Below.setCell ?_ ?_ _ | with_reducible refine Below.drew ?_ | with_reducible exact Below.refl _ _ | with_reducible exact Nat.le_refl _ | with_reducible exact Below.size (by with_reducible assumption) | with_reducible refine Nat.le_succ_of_le ?_)); rintro x W ⟨rfl, hbn⟩))
  all_goals
    by_cases hh : 0 < h
    · go_wp2_with fail
      refine (H5.out W hbn).mono ?_
      rintro e W2 ⟨rfl, hb2⟩
      go_wp2_with fail
      go_ret
      exact ⟨by rw [HTX.out, if_pos hh, ← txt_hid]; rfl, hB.trans (hb2.mono hB.size)⟩
    · go_wp2_with fail
      go_ret
      exact ⟨by rw [HTX.out, if_neg (by omega), ← txt_no]; rfl, hB.trans (hbn.mono hB.size)⟩
end Go.Proofs.YtmgodofnhjmbfaaGreatDoor.bld
