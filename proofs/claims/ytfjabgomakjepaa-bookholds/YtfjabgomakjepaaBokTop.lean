/- Contracts over this seat's translation: book.Top, book.Count, pitsame.Book. -/
import Derived.Test.YtfjabgomakjepaaBokPut2
import Derived.Test.YtfjabgomakjepaaSidSame
namespace Go.Proofs.Ytfjabgomakjepaa.bok
open Go.RowKit Go.Proofs.Ytfjabgomakjepaa.spn Go.Proofs.Ytfjabgomakjepaa.que Go.Proofs.Ytfjabgomakjepaa.sid

set_option maxRecDepth 100000 in
set_option maxHeartbeats 2000000 in
theorem top_good (q1 q2 : Option Addr) (n1 n2 c1 c2 : Nat) (bs ss : List L) (w : World) (h1 : LS w (.slice q1 n1 c1) bs) (h2 : LS w (.slice q2 n2 c2) ss) (h0 : bookE bs ss = 0) :
    Calls Try.prog 14 #[.agg #[.slice q1 n1 c1, .slice q2 n2 c2]] w fun e w' => e = .returned (.tuple #[.int .i64 (bestI bs), .int .i64 (bestI ss), .nilIface]) ∧ Below w.heap.size w w' := by
  have HCH := fun W (hW : Below w.heap.size w W) => check_any q1 q2 n1 n2 c1 c2 bs ss W (h1.below hW) (h2.below hW)
  rw [h0, errV_zero] at HCH
  have HH1 : Hid (∀ W, Below w.heap.size w W → LS W (.slice q1 n1 c1) bs) := fun W hW => h1.below hW
  have HH2 : Hid (∀ W, Below w.heap.size w W → LS W (.slice q2 n2 c2) ss) := fun W hW => h2.below hW
  obtain ⟨x, hx⟩ : ∃ x, x = bestI bs := ⟨_, rfl⟩
  obtain ⟨y, hy⟩ : ∃ y, y = bestI ss := ⟨_, rfl⟩
  rw [← hx, ← hy]
  have HXY : Hid (x = bestI bs ∧ y = bestI ss) := ⟨hx, hy⟩
  obtain ⟨V, hV⟩ : ∃ V, V = w.alloc (.cells #[.slice q1 n1 c1, .slice q2 n2 c2] 40) := ⟨_, rfl⟩
  have HB : Hid (Below w.heap.size w V) := by rw [hV]; exact (Below.refl _ _).alloc (Nat.le_refl _) _
  have v0 : V.cell? ⟨w.heap.size, 0, none⟩ = some (.slice q1 n1 c1) := by rw [hV]; simp [go_sem]
  have v1 : V.cell? ⟨w.heap.size, 1, none⟩ = some (.slice q2 n2 c2) := by rw [hV]; simp [go_sem]
  have hVs : w.heap.size < V.heap.size := by rw [hV]; simp
  clear hx hy h1 h2 h0
  go_enter Try.func14, Try.ntmps14
  go_wp2_with fail
  rw [← hV]
  refine (HCH V HB.out).mono ?_
  rintro e w1 ⟨rfl, b1⟩
  have HB1 : Hid (Below w.heap.size w w1) := HB.out.trans (b1.mono HB.out.size)
  have x0 := keeps b1 v0
  have x1 := keeps b1 v1
  have hs1 : w.heap.size < w1.heap.size := Nat.lt_of_lt_of_le hVs b1.size
  have H3 : Hid (∀ W, Below w1.heap.size w1 W → Calls Try.prog 27 #[.slice q1 n1 c1] W fun e w' => e = .returned (.int .i64 x) ∧ Below w1.heap.size w1 w') := fun W hW => by rw [HXY.out.1]; exact best_V w1 _ bs W (HH1.out W (HB1.out.trans (hW.mono HB1.out.size))) hW
  have H4 : Hid (∀ W, Below w1.heap.size w1 W → Calls Try.prog 27 #[.slice q2 n2 c2] W fun e w' => e = .returned (.int .i64 y) ∧ Below w1.heap.size w1 w') := fun W hW => by rw [HXY.out.2]; exact best_V w1 _ ss W (HH2.out W (HB1.out.trans (hW.mono HB1.out.size))) hW
  have SO : Hid (∀ W, Below w1.heap.size w1 W → (Below w1.heap.size w1 W ∧ W.cell? ⟨w.heap.size, 0, none⟩ = some (.slice q1 n1 c1) ∧ W.cell? ⟨w.heap.size, 1, none⟩ = some (.slice q2 n2 c2))) := fun W hW => ⟨hW, keeps hW x0, keeps hW x1⟩
  clear b1 HCH v0 v1 HH1 HH2
  go_upto_region 4 with fail
  go_region_held3 (fun W => Below w1.heap.size w1 W ∧ W.cell? ⟨w.heap.size, 0, none⟩ = some (.slice q1 n1 c1) ∧ W.cell? ⟨w.heap.size, 1, none⟩ = some (.slice q2 n2 c2))
    ((refine SO.out _ ?_; (repeat' (first | with_reducible assumption | with_reducible refine bal ?_ _ | with_reducible refine Below.setCell ?_ ?_ _ | with_reducible refine Below.drew ?_ | with_reducible exact Below.refl _ _ | with_reducible exact Nat.le_refl _ | with_reducible exact Below.size (by with_reducible assumption) | with_reducible refine Nat.le_succ_of_le ?_))))
    (first | (go_at_call 27; with_reducible refine (H3.out _ ?_).mono ?_; (repeat' (first | with_reducible assumption | with_reducible refine bal ?_ _ | with_reducible refine Below.setCell ?_ ?_ _ | with_reducible refine Below.drew ?_ | with_reducible exact Below.refl _ _ | with_reducible exact Nat.le_refl _ | with_reducible exact Below.size (by with_reducible assumption) | with_reducible refine Nat.le_succ_of_le ?_)); rintro x W ⟨rfl, hbn⟩) | (go_at_call 27; with_reducible refine (H4.out _ ?_).mono ?_; (repeat' (first | with_reducible assumption | with_reducible refine bal ?_ _ | with_reducible refine Below.setCell ?_ ?_ _ | with_reducible refine Below.drew ?_ | with_reducible exact Below.refl _ _ | with_reducible exact Nat.le_refl _ | with_reducible exact Below.size (by with_reducible assumption) | with_reducible refine Nat.le_succ_of_le ?_)); rintro x W ⟨rfl, hbn⟩))
  all_goals
    go_wp2_with fail
    go_ret3
    exact ⟨rfl, HB1.out.trans (Below.mono (by assumption) HB1.out.size)⟩
set_option maxRecDepth 100000 in
set_option maxHeartbeats 2000000 in
theorem count_good (q1 q2 : Option Addr) (n1 n2 c1 c2 : Nat) (bs ss : List L) (w : World) (h1 : LS w (.slice q1 n1 c1) bs) (h2 : LS w (.slice q2 n2 c2) ss) (h0 : bookE bs ss = 0) :
    Calls Try.prog 15 #[.agg #[.slice q1 n1 c1, .slice q2 n2 c2]] w fun e w' => e = .returned (.tuple #[.int .i64 ((allR bs ++ allR ss).length : Nat), .nilIface]) ∧ Below w.heap.size w w' := by
  have HCH := fun W (hW : Below w.heap.size w W) => check_any q1 q2 n1 n2 c1 c2 bs ss W (h1.below hW) (h2.below hW)
  rw [h0, errV_zero] at HCH
  obtain ⟨e1, e2, -⟩ := book_zero h0
  have HRE : Hid (∀ W, Below w.heap.size w W → Calls Try.prog 28 #[.agg #[.slice q1 n1 c1, .slice q2 n2 c2]] W fun e w' => ∃ v, e = .returned v ∧ OwnQ w' W.heap.size v (allR bs ++ allR ss) ∧ Below W.heap.size W w') := fun W hW => rests_any q1 q2 n1 n2 c1 c2 bs ss W (h1.below hW) (h2.below hW) (side_ne e1) (side_ne e2) (schk_zero e1).2.2.1 (schk_zero e2).2.2.1
  generalize allR bs ++ allR ss = AR at *
  obtain ⟨V, hV⟩ : ∃ V, V = w.alloc (.cells #[.slice q1 n1 c1, .slice q2 n2 c2] 40) := ⟨_, rfl⟩
  have HB : Hid (Below w.heap.size w V) := by rw [hV]; exact (Below.refl _ _).alloc (Nat.le_refl _) _
  have v0 : V.cell? ⟨w.heap.size, 0, none⟩ = some (.slice q1 n1 c1) := by rw [hV]; simp [go_sem]
  have v1 : V.cell? ⟨w.heap.size, 1, none⟩ = some (.slice q2 n2 c2) := by rw [hV]; simp [go_sem]
  have hVs : w.heap.size < V.heap.size := by rw [hV]; simp
  clear h1 h2 h0 e1 e2
  go_enter Try.func15, Try.ntmps15
  go_wp2_with fail
  rw [← hV]
  refine (HCH V HB.out).mono ?_
  rintro e w1 ⟨rfl, b1⟩
  have HB1 : Hid (Below w.heap.size w w1) := HB.out.trans (b1.mono HB.out.size)
  have x0 := keeps b1 v0
  have x1 := keeps b1 v1
  have hs1 : w.heap.size < w1.heap.size := Nat.lt_of_lt_of_le hVs b1.size
  clear b1 HCH v0 v1
  go_wp2_with fail
  refine (HRE.out w1 HB1.out).mono ?_
  rintro e w4 ⟨v, rfl, hO, b4⟩
  have HB4 : Hid (Below w.heap.size w w4) := HB1.out.trans (b4.mono HB1.out.size)
  obtain ⟨q4, c4, rfl⟩ := OwnM.form hO
  clear b4 HRE hO x0 x1
  go_wp2_with fail
  go_ret2
  exact ⟨rfl, HB4.out⟩
set_option maxRecDepth 100000 in
set_option maxHeartbeats 2000000 in
theorem book_same (q1 q2 p1 p2 : Option Addr) (n1 n2 c1 c2 m1 m2 d1 d2 : Nat) (bs ss : List L) (w : World) (h1 : LS w (.slice q1 n1 c1) bs) (h2 : LS w (.slice q2 n2 c2) ss) (g1 : LS w (.slice p1 m1 d1) bs) (g2 : LS w (.slice p2 m2 d2) ss) :
    Calls Try.prog 13 #[.agg #[.slice q1 n1 c1, .slice q2 n2 c2], .agg #[.slice p1 m1 d1, .slice p2 m2 d2]] w fun e w' => e = .returned (.bool true) ∧ Below w.heap.size w w' := by
  have HL1 : Hid (∀ W, Below w.heap.size w W → Calls Try.prog 8 #[.slice q1 n1 c1, .slice p1 m1 d1] W fun e w' => e = .returned (.bool true) ∧ Below W.heap.size W w') := fun W hW => levels_same _ _ bs W (h1.below hW) (g1.below hW)
  have HL2 : Hid (∀ W, Below w.heap.size w W → Calls Try.prog 8 #[.slice q2 n2 c2, .slice p2 m2 d2] W fun e w' => e = .returned (.bool true) ∧ Below W.heap.size W w') := fun W hW => levels_same _ _ ss W (h2.below hW) (g2.below hW)
  obtain ⟨V, hV⟩ : ∃ V, V = (w.alloc (.cells #[.slice q1 n1 c1, .slice q2 n2 c2] 40)).alloc (.cells #[.slice p1 m1 d1, .slice p2 m2 d2] 40) := ⟨_, rfl⟩
  have HB : Hid (Below w.heap.size w V) := by rw [hV]; exact ((Below.refl _ _).alloc (Nat.le_refl _) _).alloc (by simp) _
  have v0 : V.cell? ⟨w.heap.size, 1, none⟩ = some (.slice q2 n2 c2) := by rw [hV]; simp [go_sem]
  have v1 : V.cell? ⟨w.heap.size + 1, 1, none⟩ = some (.slice p2 m2 d2) := by rw [hV]; simp [go_sem]
  have hVs : w.heap.size + 1 < V.heap.size := by rw [hV]; simp
  clear h1 h2 g1 g2
  go_enter Try.func13, Try.ntmps13
  go_wp2_with fail
  rw [← hV]
  refine (HL1.out V HB.out).mono ?_
  rintro e w1 ⟨rfl, b1⟩
  have HB1 : Hid (Below w.heap.size w w1) := HB.out.trans (b1.mono HB.out.size)
  have x0 := keeps b1 v0
  have x1 := keeps b1 v1
  have hs1 : w.heap.size + 1 < w1.heap.size := Nat.lt_of_lt_of_le hVs b1.size
  clear b1 v0 v1 HL1
  go_wp2_with fail
  refine (HL2.out w1 HB1.out).mono ?_
  rintro e w2 ⟨rfl, b2⟩
  have HB2 : Hid (Below w.heap.size w w2) := HB1.out.trans (b2.mono HB1.out.size)
  clear b2 x0 x1 HL2
  go_wp2_with fail
  go_ret
  exact ⟨rfl, HB2.out⟩
end Go.Proofs.Ytfjabgomakjepaa.bok
