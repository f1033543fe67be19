/- Contracts over this seat's translation: book.best, book.levels, book.crossed. -/
import Derived.Test.YtnjpjieedgmffaaSidDL
import Derived.Deep.QuietTactic
import Derived.BigQuiet
import Derived.Deep.RegionHeld3
namespace Go.Proofs.Ytnjpjieedgmffaa.bok
open Go.RowKit Go.Proofs.Ytnjpjieedgmffaa.spn Go.Proofs.Ytnjpjieedgmffaa.que Go.Proofs.Ytnjpjieedgmffaa.sid

/-- The best price of a side, 0 of none. -/
def bestI : List L → Int
  | [] => 0
  | l :: _ => l.price
theorem best_nil (q : Option Addr) (c : Nat) (w : World) :
    Calls Try.prog 69 #[.slice q 0 c] w fun e w' => e = .returned (.int .i64 0) ∧ w' = w := by
  go_enter Try.func69, Try.ntmps69
  go_wp2
  go_ret
  exact ⟨rfl, rfl⟩
theorem best_some (b o n c : Nat) (p : Int) (w : World) (hn : 0 < n) (h0 : w.cell? ⟨b, o, none⟩ = some (.int .i64 p)) :
    Calls Try.prog 69 #[.slice (some ⟨b, o, none⟩) n c] w fun e w' => e = .returned (.int .i64 p) ∧ w' = w := by
  have h1 : ¬ n = 0 := by omega
  have h2 : (0 : Int) < (n : Int) := by omega
  have h3 : ¬ (n : Int) = 0 := by omega
  go_enter Try.func69, Try.ntmps69
  go_wp2
  go_ret
  exact ⟨rfl, rfl⟩
theorem ls_first {w : World} {b o : Nat} {l : L} {t : List L} (h : LL w b o (l :: t)) : w.cell? ⟨b, o, none⟩ = some (.int .i64 l.price) := by
  have := (h 0 (by simp)).1
  simpa using this
theorem best_any (v : Value) (ls : List L) (w : World) (h : LS w v ls) :
    Calls Try.prog 69 #[v] w fun e w' => e = .returned (.int .i64 (bestI ls)) ∧ w' = w := by
  rcases h with ⟨rfl, rfl⟩ | ⟨b, o, c, rfl, h2, h3, h4, h5⟩
  · exact best_nil none 0 w
  · cases ls with
    | nil => exact best_nil _ c w
    | cons l t => exact best_some b o _ c l.price w (by simp) (ls_first h5)

theorem best_V (V : World) (v : Value) (ls : List L) (w : World) (h : LS w v ls) (hV : Below V.heap.size V w) :
    Calls Try.prog 69 #[v] w fun e w' => e = .returned (.int .i64 (bestI ls)) ∧ Below V.heap.size V w' :=
  (best_any v ls w h).mono fun e w' hh => ⟨hh.1, by rw [hh.2]; exact hV⟩

theorem levels_any (s : Int) (q1 q2 : Option Addr) (n1 n2 c1 c2 : Nat) (w : World) :
    Calls Try.prog 45 #[.agg #[.slice q1 n1 c1, .slice q2 n2 c2], .int .i64 s] w fun e w' => e = .returned (if s = 1 then .slice q1 n1 c1 else .slice q2 n2 c2) ∧ Below w.heap.size w w' := by
  by_cases hs : s = 1
  · rw [if_pos hs]
    subst hs
    go_enter Try.func45, Try.ntmps45
    go_wp2
    go_ret
    exact ⟨rfl, (Below.refl _ _).alloc (Nat.le_refl _) _⟩
  · rw [if_neg hs]
    have h1 : (s == 1) = false := by simpa using hs
    go_enter Try.func45, Try.ntmps45
    go_wp2
    go_ret
    exact ⟨rfl, (Below.refl _ _).alloc (Nat.le_refl _) _⟩

/-- Who buys would meet who sells. -/
def crossB (bs ss : List L) : Bool := !bs.isEmpty && (!ss.isEmpty && decide (bestI ss ≤ bestI bs))
set_option maxRecDepth 100000 in
set_option maxHeartbeats 2000000 in
theorem crossed_any (q1 q2 : Option Addr) (n1 n2 c1 c2 : Nat) (bs ss : List L) (w : World) (h1 : LS w (.slice q1 n1 c1) bs) (h2 : LS w (.slice q2 n2 c2) ss) :
    Calls Try.prog 49 #[.agg #[.slice q1 n1 c1, .slice q2 n2 c2]] w fun e w' => e = .returned (.bool (crossB bs ss)) ∧ Below w.heap.size w w' := by
  have hl1 : n1 = bs.length := by
    rcases h1 with ⟨e, e2⟩ | ⟨b, o, c, e, -⟩
    · cases e; rw [e2]; rfl
    · cases e; rfl
  have hl2 : n2 = ss.length := by
    rcases h2 with ⟨e, e2⟩ | ⟨b, o, c, e, -⟩
    · cases e; rw [e2]; rfl
    · cases e; rfl
  have hB : Below w.heap.size w (w.alloc (.cells #[.slice q1 n1 c1, .slice q2 n2 c2] 24)) := (Below.refl _ _).alloc (Nat.le_refl _) _
  by_cases e1 : bs = []
  · have ec : crossB bs ss = false := by rw [e1]; rfl
    rw [ec]
    have hn1 : n1 = 0 := by rw [hl1, e1]; rfl
    subst hn1
    clear hl1 hl2 h1 h2 ec e1
    go_enter Try.func49, Try.ntmps49
    go_upto_region 1 with fail
    go_quiet (fail)
    go_wp2_with fail
    go_ret
    exact ⟨rfl, belowN hB _⟩
  · have hn1 : 0 < n1 := by rw [hl1]; exact List.length_pos_iff.2 e1
    have b1 : bs.isEmpty = false := by simpa using e1
    by_cases e2 : ss = []
    · have ec : crossB bs ss = false := by unfold crossB; rw [e2]; simp
      rw [ec]
      have hn2 : n2 = 0 := by rw [hl2, e2]; rfl
      subst hn2
      have d1 : decide ((0 : Int) < (n1 : Int)) = true := by simp; omega
      have d2 : decide (0 < n1) = true := by simp; omega
      have d3 : (0 : Int) < (n1 : Int) := by omega
      clear hl1 hl2 h1 h2 ec e1 e2 b1
      go_enter Try.func49, Try.ntmps49
      go_upto_region 1 with fail
      go_quiet (fail)
      go_wp2_with fail
      go_ret
      exact ⟨rfl, belowN hB _⟩
    · have hn2 : 0 < n2 := by rw [hl2]; exact List.length_pos_iff.2 e2
      have b2 : ss.isEmpty = false := by simpa using e2
      have ec : crossB bs ss = decide (bestI ss ≤ bestI bs) := by unfold crossB; rw [b1, b2]; simp
      rw [ec]
      have d1 : decide ((0 : Int) < (n1 : Int)) = true := by simp; omega
      have d2 : decide (0 < n1) = true := by simp; omega
      have d3 : (0 : Int) < (n1 : Int) := by omega
      have d4 : decide ((0 : Int) < (n2 : Int)) = true := by simp; omega
      have d5 : decide (0 < n2) = true := by simp; omega
      have d6 : (0 : Int) < (n2 : Int) := by omega
      have H1 : Hid (∀ W, Below w.heap.size w W → LS W (.slice q1 n1 c1) bs) := fun W hW => h1.below hW
      have H2 : Hid (∀ W, Below w.heap.size w W → LS W (.slice q2 n2 c2) ss) := fun W hW => h2.below hW
      obtain ⟨x, hx⟩ : ∃ x, x = bestI bs := ⟨_, rfl⟩
      obtain ⟨y, hy⟩ : ∃ y, y = bestI ss := ⟨_, rfl⟩
      rw [← hx, ← hy]
      have HXY : Hid (x = bestI bs ∧ y = bestI ss) := ⟨hx, hy⟩
      clear hx hy
      have hR := heap_alloc_new w (.cells #[.slice q1 n1 c1, .slice q2 n2 c2] 24)
      clear hl1 hl2 h1 h2 ec e1 e2 b1 b2
      go_enter Try.func49, Try.ntmps49
      go_upto_region 1 with fail
      generalize w.alloc (.cells #[.slice q1 n1 c1, .slice q2 n2 c2] 24) = V at *
      have v0 : V.cell? ⟨w.heap.size, 0, none⟩ = some (.slice q1 n1 c1) := by simp [World.cell?, hR]
      have v1 : V.cell? ⟨w.heap.size, 1, none⟩ = some (.slice q2 n2 c2) := by simp [World.cell?, hR]
      clear hR
      have SO : Hid (∀ W, Below V.heap.size V W → (Below V.heap.size V W ∧ W.cell? ⟨w.heap.size, 0, none⟩ = some (.slice q1 n1 c1) ∧ W.cell? ⟨w.heap.size, 1, none⟩ = some (.slice q2 n2 c2))) := fun W hW => ⟨hW, keeps hW v0, keeps hW v1⟩
      have H3 : Hid (∀ W, Below V.heap.size V W → Calls Try.prog 69 #[.slice q1 n1 c1] W fun e w' => e = .returned (.int .i64 x) ∧ Below V.heap.size V w') := fun W hW => by rw [HXY.out.1]; exact best_V V _ bs W (H1.out W (hB.trans (hW.mono hB.size))) hW
      have H4 : Hid (∀ W, Below V.heap.size V W → Calls Try.prog 69 #[.slice q2 n2 c2] W fun e w' => e = .returned (.int .i64 y) ∧ Below V.heap.size V w') := fun W hW => by rw [HXY.out.2]; exact best_V V _ ss W (H2.out W (hB.trans (hW.mono hB.size))) hW
      clear H1 H2
      go_region_held3 (fun W => Below V.heap.size V W ∧ W.cell? ⟨w.heap.size, 0, none⟩ = some (.slice q1 n1 c1) ∧ W.cell? ⟨w.heap.size, 1, none⟩ = some (.slice q2 n2 c2))
        ((refine SO.out _ ?_; (repeat' (first | with_reducible assumption | with_reducible refine bal ?_ _ | with_reducible refine Below.setCell ?_ ?_ _ | with_reducible refine Below.drew ?_ | with_reducible exact Below.refl _ _ | with_reducible exact Nat.le_refl _ | with_reducible exact Below.size (by with_reducible assumption) | with_reducible refine Nat.le_succ_of_le ?_))))
        (first | (go_at_call 69; with_reducible refine (H3.out _ ?_).mono ?_; (repeat' (first | with_reducible assumption | with_reducible refine bal ?_ _ | with_reducible refine Below.setCell ?_ ?_ _ | with_reducible refine Below.drew ?_ | with_reducible exact Below.refl _ _ | with_reducible exact Nat.le_refl _ | with_reducible exact Below.size (by with_reducible assumption) | with_reducible refine Nat.le_succ_of_le ?_)); rintro x W ⟨rfl, hbn⟩) | (go_at_call 69; with_reducible refine (H4.out _ ?_).mono ?_; (repeat' (first | with_reducible assumption | with_reducible refine bal ?_ _ | with_reducible refine Below.setCell ?_ ?_ _ | with_reducible refine Below.drew ?_ | with_reducible exact Below.refl _ _ | with_reducible exact Nat.le_refl _ | with_reducible exact Below.size (by with_reducible assumption) | with_reducible refine Nat.le_succ_of_le ?_)); rintro x W ⟨rfl, hbn⟩))
      all_goals
        go_wp2_with fail
        go_ret
        exact ⟨rfl, hB.trans (Below.mono (by assumption) hB.size)⟩
end Go.Proofs.Ytnjpjieedgmffaa.bok
