/- Contracts over this seat's translation: pitsame.Levels at two sides that are the same. Contracts over this seat's translation: pitsame.Book at two that are the same. Contracts over this seat's translation: book.Top, book.Count, pitsame.Book. Contracts over this seat's translation: slices.Delete at levels of the call's own. -/
import Derived.Test.YtmgodofnhjmbfaaGreatDoorSidDeep
import Derived.Test.YtmgodofnhjmbfaaGreatDoorQueSame
import Derived.Deep.RegionHeld3
import Derived.Test.YtmgodofnhjmbfaaGreatDoorBokChk
import Derived.Test.YtmgodofnhjmbfaaGreatDoorBokPut2
import Derived.Test.YtmgodofnhjmbfaaGreatDoorSidIns2
import Derived.Lib.SlicesDelete
import Derived.Deep.RegionLaw
namespace Go.Proofs.YtmgodofnhjmbfaaGreatDoor.sid
open Go.RowKit Go.Proofs.YtmgodofnhjmbfaaGreatDoor.spn Go.Proofs.YtmgodofnhjmbfaaGreatDoor.que

theorem rests_same' (va vb : Value) (zs : List R) (w : World) (ha : SLe w va zs) (hb : SLe w vb zs) :
    Calls Tryz.prog 59 #[va, vb] w fun e w' => e = .returned (.bool true) ∧ Below w.heap.size w w' := by
  by_cases hz : zs = []
  · obtain ⟨p, c, h1⟩ := sl_form ha
    obtain ⟨q, d, h2⟩ := sl_form hb
    subst hz
    subst h1
    subst h2
    exact rests_none p q c d w
  · exact rests_same va vb zs w (ha.sl hz) (hb.sl hz)
theorem levels_none (p q : Option Addr) (c d : Nat) (w : World) :
    Calls Tryz.prog 36 #[.slice p 0 c, .slice q 0 d] w fun e w' => e = .returned (.bool true) ∧ Below w.heap.size w w' := by
  go_enter Tryz.func36, Tryz.ntmps36
  go_wp2_with fail
  go_loopg [5, 6] 0 (fun _ s5 _ wr => s5 = .int .i64 0 ∧ wr = w)
  case atStart => exact ⟨rfl, rfl⟩
  case round =>
    obtain ⟨rfl, rfl⟩ := hrel
    go_wp2_with fail
    go_ret
    exact ⟨rfl, Below.refl _ _⟩

set_option maxRecDepth 100000 in
set_option maxHeartbeats 2000000 in
theorem levels_some (b o c b' o' c' : Nat) (ls : List L) (w : World) (hb : b < w.heap.size) (hb' : b' < w.heap.size) (hn : ls.length ≤ 9223372036854775807) (hl : LL w b o ls) (hl' : LL w b' o' ls) :
    Calls Tryz.prog 36 #[.slice (some ⟨b, o, none⟩) ls.length c, .slice (some ⟨b', o', none⟩) ls.length c'] w fun e w' => e = .returned (.bool true) ∧ Below w.heap.size w w' := by
  have HL : Hid (LL w b o ls ∧ LL w b' o' ls) := ⟨hl, hl'⟩
  clear hl hl'
  generalize hN : ls.length = n at *
  have HN : Hid (ls.length = n) := hN
  clear hN
  go_enter Tryz.func36, Tryz.ntmps36
  go_wp2_with fail
  go_loopg [5, 6] n (fun gg s5 _ wr => ∃ kk : Nat, kk ≤ n ∧ n - kk ≤ gg ∧ s5 = .int .i64 kk ∧ Aside (Below w.heap.size w wr))
  case atStart => exact ⟨0, Nat.zero_le _, by omega, rfl, Below.refl _ w⟩
  case round =>
    obtain ⟨kk, hkk, hg, rfl, BW⟩ := hrel
    by_cases hlt : kk < n
    · have hltz : (kk : Int) < (n : Int) := by omega
      have hlz : kk < ls.length := by rw [HN.out]; exact hlt
      obtain ⟨r, hr⟩ : ∃ r, ls[kk]! = r := ⟨_, rfl⟩
      obtain ⟨p, zs⟩ := r
      obtain ⟨q, cc, a0, a1, hs⟩ := (HL.out.1.below hb BW.out).at hlz hr
      obtain ⟨q', cc', b0, b1, hs'⟩ := (HL.out.2.below hb' BW.out).at hlz hr
      have hin1 : ¬ ((kk : Int) < 0) := by omega
      have hin2 : (0 : Int) ≤ (kk : Int) := by omega
      have HE1 : Hid (wrap64 ((kk : Int) + 1) = ((kk + 1 : Nat) : Int)) := wrapSucc kk n hlt hn
      have HRS : Hid (∀ W, Below wr.heap.size wr W → Calls Tryz.prog 59 #[.slice q zs.length cc, .slice q' zs.length cc'] W fun e w' => e = .returned (.bool true) ∧ Below wr.heap.size wr w') := fun W hW => (rests_same' _ _ zs W (hs.below hW) (hs'.below hW)).mono fun e w' h => ⟨h.1, hW.trans (h.2.mono hW.size)⟩
      clear hr hs hs'
      generalize zs.length = zn at *
      have SO : Hid (∀ W, Below wr.heap.size wr W → (Below wr.heap.size wr W ∧ W.cell? ⟨b, o + kk * 2 + 1, none⟩ = some (.slice q zn cc) ∧ W.cell? ⟨b', o' + kk * 2 + 1, none⟩ = some (.slice q' zn cc'))) := fun W hW => ⟨hW, keeps hW a1, keeps hW b1⟩
      go_upto_region 6 with fail
      go_region_held3 (fun W => Below wr.heap.size wr W ∧ W.cell? ⟨b, o + kk * 2 + 1, none⟩ = some (.slice q zn cc) ∧ W.cell? ⟨b', o' + kk * 2 + 1, none⟩ = some (.slice q' zn cc'))
        ((refine SO.out _ ?_; (repeat' (first | with_reducible assumption | with_reducible refine bal ?_ _ | with_reducible refine Below.setCell ?_ ?_ _ | with_reducible refine Below.drew ?_ | with_reducible exact Below.refl _ _ | with_reducible exact Nat.le_refl _ | with_reducible exact Below.size (by with_reducible assumption) | with_reducible refine Nat.le_succ_of_le ?_))))
        (first | (go_at_call 59; refine (HRS.out _ ?_).mono ?_; (repeat' (first | with_reducible assumption | with_reducible refine bal ?_ _ | with_reducible refine Below.setCell ?_ ?_ _ | with_reducible refine Below.drew ?_ | with_reducible exact Below.refl _ _ | with_reducible exact Nat.le_refl _ | with_reducible exact Below.size (by with_reducible assumption) | with_reducible refine Nat.le_succ_of_le ?_)); rintro x W ⟨rfl, hbn⟩))
      have HW : Hid (Below w.heap.size w W) := BW.out.trans (hbn.mono BW.out.size)
      have c0 := keeps hbn a0
      have c1 := keeps hbn b0
      have hbW : b < W.heap.size := Nat.lt_of_lt_of_le hb HW.out.size
      have hbW' : b' < W.heap.size := Nat.lt_of_lt_of_le hb' HW.out.size
      have e1 := HE1.out
      clear SO HRS hbn a0 a1 b0 b1
      go_upto_region 7 with fail
      go_quiet (fail)
      go_wp2_with fail
      go_roundg (n - (kk + 1))
      case measure => clear e1; omega
      case rel => exact ⟨kk + 1, hlt, Nat.le_refl _, by go_num, below_drewN HW.out _⟩
    · have hltz : ¬ (kk : Int) < (n : Int) := by omega
      go_wp2_with fail
      go_ret
      exact ⟨rfl, BW.out⟩

theorem levels_same (va vb : Value) (ls : List L) (w : World) (ha : LS w va ls) (hb : LS w vb ls) :
    Calls Tryz.prog 36 #[va, vb] w fun e w' => e = .returned (.bool true) ∧ Below w.heap.size w w' := by
  rcases ha with ⟨rfl, rfl⟩ | ⟨b, o, c, rfl, h2, h3, h4, h5⟩
  · rcases hb with ⟨rfl, -⟩ | ⟨b', o', c', rfl, -, -, -, -⟩
    · exact levels_none none none 0 0 w
    · exact levels_none none (some ⟨b', o', none⟩) 0 c' w
  · rcases hb with ⟨rfl, rfl⟩ | ⟨b', o', c', rfl, -, -, i4, i5⟩
    · exact levels_none (some ⟨b, o, none⟩) none c 0 w
    · exact levels_some b o c b' o' c' ls w h4 i4 (by omega) h5 i5
end Go.Proofs.YtmgodofnhjmbfaaGreatDoor.sid
namespace Go.Proofs.YtmgodofnhjmbfaaGreatDoor.bok
open Go.RowKit Go.Proofs.YtmgodofnhjmbfaaGreatDoor.spn Go.Proofs.YtmgodofnhjmbfaaGreatDoor.que Go.Proofs.YtmgodofnhjmbfaaGreatDoor.sid

set_option maxRecDepth 100000 in
set_option maxHeartbeats 2000000 in
theorem book_same (q1 q2 p1 p2 : Option Addr) (n1 n2 c1 c2 m1 m2 d1 d2 : Nat) (bs ss : List L) (w : World) (h1 : LS w (.slice q1 n1 c1) bs) (h2 : LS w (.slice q2 n2 c2) ss) (g1 : LS w (.slice p1 m1 d1) bs) (g2 : LS w (.slice p2 m2 d2) ss) :
    Calls Tryz.prog 15 #[.agg #[.slice q1 n1 c1, .slice q2 n2 c2], .agg #[.slice p1 m1 d1, .slice p2 m2 d2]] w fun e w' => e = .returned (.bool true) ∧ Below w.heap.size w w' := by
  have HL1 : Hid (∀ W, Below w.heap.size w W → Calls Tryz.prog 36 #[.slice q1 n1 c1, .slice p1 m1 d1] W fun e w' => e = .returned (.bool true) ∧ Below W.heap.size W w') := fun W hW => levels_same _ _ bs W (h1.below hW) (g1.below hW)
  have HL2 : Hid (∀ W, Below w.heap.size w W → Calls Tryz.prog 36 #[.slice q2 n2 c2, .slice p2 m2 d2] W fun e w' => e = .returned (.bool true) ∧ Below W.heap.size W w') := fun W hW => levels_same _ _ ss W (h2.below hW) (g2.below hW)
  obtain ⟨V, hV⟩ : ∃ V, V = (w.alloc (.cells #[.slice q1 n1 c1, .slice q2 n2 c2] 24)).alloc (.cells #[.slice p1 m1 d1, .slice p2 m2 d2] 24) := ⟨_, rfl⟩
  have HB : Hid (Below w.heap.size w V) := by rw [hV]; exact ((Below.refl _ _).alloc (Nat.le_refl _) _).alloc (by simp) _
  have v0 : V.cell? ⟨w.heap.size, 1, none⟩ = some (.slice q2 n2 c2) := by rw [hV]; simp [go_sem]
  have v1 : V.cell? ⟨w.heap.size + 1, 1, none⟩ = some (.slice p2 m2 d2) := by rw [hV]; simp [go_sem]
  have hVs : w.heap.size + 1 < V.heap.size := by rw [hV]; simp
  clear h1 h2 g1 g2
  go_enter Tryz.func15, Tryz.ntmps15
  go_wp2_with fail
  rw [← hV]
  refine (HL1.out V HB.out).mono ?_
  rintro e w1 ⟨rfl, b1⟩
  have HB1 : Hid (Below w.heap.size w w1) := HB.out.trans (b1.mono HB.out.size)
  have x0 := keeps b1 v0
  have x1 := keeps b1 v1
  have hs1 : w.heap.size + 1 < w1.heap.size := Nat.lt_of_lt_of_le hVs b1.size
  clear b1 v0 v1 HL1
  go_wp2_with fail
  refine (HL2.out w1 HB1.out).mono ?_
  rintro e w2 ⟨rfl, b2⟩
  have HB2 : Hid (Below w.heap.size w w2) := HB1.out.trans (b2.mono HB1.out.size)
  clear b2 x0 x1 HL2
  go_wp2_with fail
  go_ret
  exact ⟨rfl, HB2.out⟩
end Go.Proofs.YtmgodofnhjmbfaaGreatDoor.bok
namespace Go.Proofs.YtmgodofnhjmbfaaGreatDoor.bok
open Go.RowKit Go.Proofs.YtmgodofnhjmbfaaGreatDoor.spn Go.Proofs.YtmgodofnhjmbfaaGreatDoor.que Go.Proofs.YtmgodofnhjmbfaaGreatDoor.sid

set_option maxRecDepth 100000 in
set_option maxHeartbeats 2000000 in
theorem top_good (q1 q2 : Option Addr) (n1 n2 c1 c2 : Nat) (bs ss : List L) (w : World) (h1 : LS w (.slice q1 n1 c1) bs) (h2 : LS w (.slice q2 n2 c2) ss) (h0 : bookE bs ss = 0) :
    Calls Tryz.prog 9 #[.agg #[.slice q1 n1 c1, .slice q2 n2 c2]] w fun e w' => e = .returned (.tuple #[.int .i64 (bestI bs), .int .i64 (bestI ss), .nilIface]) ∧ Below w.heap.size w w' := by
  have HCH := fun W (hW : Below w.heap.size w W) => check_any q1 q2 n1 n2 c1 c2 bs ss W (h1.below hW) (h2.below hW)
  rw [h0, errV_zero] at HCH
  have HH1 : Hid (∀ W, Below w.heap.size w W → LS W (.slice q1 n1 c1) bs) := fun W hW => h1.below hW
  have HH2 : Hid (∀ W, Below w.heap.size w W → LS W (.slice q2 n2 c2) ss) := fun W hW => h2.below hW
  obtain ⟨x, hx⟩ : ∃ x, x = bestI bs := ⟨_, rfl⟩
  obtain ⟨y, hy⟩ : ∃ y, y = bestI ss := ⟨_, rfl⟩
  rw [← hx, ← hy]
  have HXY : Hid (x = bestI bs ∧ y = bestI ss) := ⟨hx, hy⟩
  obtain ⟨V, hV⟩ : ∃ V, V = w.alloc (.cells #[.slice q1 n1 c1, .slice q2 n2 c2] 24) := ⟨_, rfl⟩
  have HB : Hid (Below w.heap.size w V) := by rw [hV]; exact (Below.refl _ _).alloc (Nat.le_refl _) _
  have v0 : V.cell? ⟨w.heap.size, 0, none⟩ = some (.slice q1 n1 c1) := by rw [hV]; simp [go_sem]
  have v1 : V.cell? ⟨w.heap.size, 1, none⟩ = some (.slice q2 n2 c2) := by rw [hV]; simp [go_sem]
  have hVs : w.heap.size < V.heap.size := by rw [hV]; simp
  clear hx hy h1 h2 h0
  go_enter Tryz.func9, Tryz.ntmps9
  go_wp2_with fail
  rw [← hV]
  refine (HCH V HB.out).mono ?_
  rintro e w1 ⟨rfl, b1⟩
  have HB1 : Hid (Below w.heap.size w w1) := HB.out.trans (b1.mono HB.out.size)
  have x0 := keeps b1 v0
  have x1 := keeps b1 v1
  have hs1 : w.heap.size < w1.heap.size := Nat.lt_of_lt_of_le hVs b1.size
  have H3 : Hid (∀ W, Below w1.heap.size w1 W → Calls Tryz.prog 30 #[.slice q1 n1 c1] W fun e w' => e = .returned (.int .i64 x) ∧ Below w1.heap.size w1 w') := fun W hW => by rw [HXY.out.1]; exact best_V w1 _ bs W (HH1.out W (HB1.out.trans (hW.mono HB1.out.size))) hW
  have H4 : Hid (∀ W, Below w1.heap.size w1 W → Calls Tryz.prog 30 #[.slice q2 n2 c2] W fun e w' => e = .returned (.int .i64 y) ∧ Below w1.heap.size w1 w') := fun W hW => by rw [HXY.out.2]; exact best_V w1 _ ss W (HH2.out W (HB1.out.trans (hW.mono HB1.out.size))) hW
  have SO : Hid (∀ W, Below w1.heap.size w1 W → (Below w1.heap.size w1 W ∧ W.cell? ⟨w.heap.size, 0, none⟩ = some (.slice q1 n1 c1) ∧ W.cell? ⟨w.heap.size, 1, none⟩ = some (.slice q2 n2 c2))) := fun W hW => ⟨hW, keeps hW x0, keeps hW x1⟩
  clear b1 HCH v0 v1 HH1 HH2
  go_upto_region 4 with fail
  go_region_held3 (fun W => Below w1.heap.size w1 W ∧ W.cell? ⟨w.heap.size, 0, none⟩ = some (.slice q1 n1 c1) ∧ W.cell? ⟨w.heap.size, 1, none⟩ = some (.slice q2 n2 c2))
    ((refine SO.out _ ?_; (repeat' (first | with_reducible assumption | with_reducible refine bal ?_ _ | with_reducible refine Below.setCell ?_ ?_ _ | with_reducible refine Below.drew ?_ | with_reducible exact Below.refl _ _ | with_reducible exact Nat.le_refl _ | with_reducible exact Below.size (by with_reducible assumption) | with_reducible refine Nat.le_succ_of_le ?_))))
    (first | (go_at_call 30; with_reducible refine (H3.out _ ?_).mono ?_; (repeat' (first | with_reducible assumption | with_reducible refine bal ?_ _ | with_reducible refine Below.setCell ?_ ?_ _ | with_reducible refine Below.drew ?_ | with_reducible exact Below.refl _ _ | with_reducible exact Nat.le_refl _ | with_reducible exact Below.size (by with_reducible assumption) | with_reducible refine Nat.le_succ_of_le ?_)); rintro x W ⟨rfl, hbn⟩) | (go_at_call 30; with_reducible refine (H4.out _ ?_).mono ?_; (repeat' (first | with_reducible assumption | with_reducible refine bal ?_ _ | with_reducible refine Below.setCell ?_ ?_ _ | with_reducible refine Below.drew ?_ | with_reducible exact Below.refl _ _ | with_reducible exact Nat.le_refl _ | with_reducible exact Below.size (by with_reducible assumption) | with_reducible refine Nat.le_succ_of_le ?_)); rintro x W ⟨rfl, hbn⟩))
  all_goals
    go_wp2_with fail
    go_ret3
    exact ⟨rfl, HB1.out.trans (Below.mono (by assumption) HB1.out.size)⟩
set_option maxRecDepth 100000 in
set_option maxHeartbeats 2000000 in
theorem count_good (q1 q2 : Option Addr) (n1 n2 c1 c2 : Nat) (bs ss : List L) (w : World) (h1 : LS w (.slice q1 n1 c1) bs) (h2 : LS w (.slice q2 n2 c2) ss) (h0 : bookE bs ss = 0) :
    Calls Tryz.prog 10 #[.agg #[.slice q1 n1 c1, .slice q2 n2 c2]] w fun e w' => e = .returned (.tuple #[.int .i64 ((allR bs ++ allR ss).length : Nat), .nilIface]) ∧ Below w.heap.size w w' := by
  have HCH := fun W (hW : Below w.heap.size w W) => check_any q1 q2 n1 n2 c1 c2 bs ss W (h1.below hW) (h2.below hW)
  rw [h0, errV_zero] at HCH
  obtain ⟨e1, e2, -⟩ := book_zero h0
  have HRE : Hid (∀ W, Below w.heap.size w W → Calls Tryz.prog 27 #[.agg #[.slice q1 n1 c1, .slice q2 n2 c2]] W fun e w' => ∃ v, e = .returned v ∧ OwnQ w' W.heap.size v (allR bs ++ allR ss) ∧ Below W.heap.size W w') := fun W hW => rests_any q1 q2 n1 n2 c1 c2 bs ss W (h1.below hW) (h2.below hW) (side_ne e1) (side_ne e2) (schk_zero e1).2.2.1 (schk_zero e2).2.2.1
  generalize allR bs ++ allR ss = AR at *
  obtain ⟨V, hV⟩ : ∃ V, V = w.alloc (.cells #[.slice q1 n1 c1, .slice q2 n2 c2] 24) := ⟨_, rfl⟩
  have HB : Hid (Below w.heap.size w V) := by rw [hV]; exact (Below.refl _ _).alloc (Nat.le_refl _) _
  have v0 : V.cell? ⟨w.heap.size, 0, none⟩ = some (.slice q1 n1 c1) := by rw [hV]; simp [go_sem]
  have v1 : V.cell? ⟨w.heap.size, 1, none⟩ = some (.slice q2 n2 c2) := by rw [hV]; simp [go_sem]
  have hVs : w.heap.size < V.heap.size := by rw [hV]; simp
  clear h1 h2 h0 e1 e2
  go_enter Tryz.func10, Tryz.ntmps10
  go_wp2_with fail
  rw [← hV]
  refine (HCH V HB.out).mono ?_
  rintro e w1 ⟨rfl, b1⟩
  have HB1 : Hid (Below w.heap.size w w1) := HB.out.trans (b1.mono HB.out.size)
  have x0 := keeps b1 v0
  have x1 := keeps b1 v1
  have hs1 : w.heap.size < w1.heap.size := Nat.lt_of_lt_of_le hVs b1.size
  clear b1 HCH v0 v1
  go_wp2_with fail
  refine (HRE.out w1 HB1.out).mono ?_
  rintro e w4 ⟨v, rfl, hO, b4⟩
  have HB4 : Hid (Below w.heap.size w w4) := HB1.out.trans (b4.mono HB1.out.size)
  obtain ⟨q4, c4, rfl⟩ := OwnM.form hO
  clear b4 HRE hO x0 x1
  go_wp2_with fail
  go_ret2
  exact ⟨rfl, HB4.out⟩
end Go.Proofs.YtmgodofnhjmbfaaGreatDoor.bok
namespace Go.Proofs.YtmgodofnhjmbfaaGreatDoor.rlv
open Go.RowKit Go.Proofs.YtmgodofnhjmbfaaGreatDoor.spn Go.Proofs.YtmgodofnhjmbfaaGreatDoor.que Go.Proofs.YtmgodofnhjmbfaaGreatDoor.sid

theorem zeroVR (w : World) : (zeroValue 34).run Tryz.prog w = .ok zeroR w := by kernel_rfl

set_option maxRecDepth 100000 in
set_option maxHeartbeats 4000000 in
theorem delete_own (w : World) (base g off n c i j : Nat) (xs : List Value) (ho : OwnM w base 34 2 (.slice (some ⟨g, off, none⟩) n c) n xs) (hij : i < j) (hj : j ≤ n) (h1x : ∀ u ∈ xs, u.oneCell' = true) :
    Calls Tryz.prog 61 #[.slice (some ⟨g, off, none⟩) n c, .int .i64 i, .int .i64 j] w fun e w' => e = .returned (.slice (some ⟨g, off, none⟩) (i + (n - j)) c) ∧ OwnM w' base 34 2 (.slice (some ⟨g, off, none⟩) (i + (n - j)) c) (i + (n - j)) (xs.take (i * 2) ++ xs.drop (j * 2)) ∧ w.grownBy w' (some g) := by
  obtain ⟨hxl, hbg, ⟨cur, hcur, hcs⟩, hnc, hcm, hrg, hth⟩ := own_range ho
  have hc63 : c ≤ 9223372036854775807 := by simpa [maxLen] using hcm
  obtain ⟨i0, hi0, hz0, hz1, hz2⟩ := rlv.infoR'
  have hdl : (xs.drop (j * 2)).length = (n - j) * 2 := by rw [List.length_drop, hxl]; omega
  have htl : (xs.take (i * 2)).length = i * 2 := by rw [List.length_take, hxl]; omega
  have hx1 : xs = xs.take (i * 2) ++ xs.drop (i * 2) := (List.take_append_drop _ _).symm
  have hx2 : xs = xs.take (j * 2) ++ xs.drop (j * 2) := (List.take_append_drop _ _).symm
  have hr1 : w.rangeAt g off (xs.take (i * 2)) := by rw [hx1] at hrg; exact range_left hrg
  have hr2 : w.rangeAt g (off + j * 2) (xs.drop (j * 2)) := by
    rw [hx2] at hrg; have := range_right hrg; rwa [List.length_take, hxl, Nat.min_eq_left (by omega)] at this
  have hthX : ∀ o k, o + k ≤ c * 2 → w.there g (off + o) k := fun o k hk q hq => by rw [Nat.add_assoc]; exact hth (o + q) (by omega)
  obtain ⟨news, hnews⟩ : ∃ news, news = xs.drop (j * 2) := ⟨_, rfl⟩
  obtain ⟨A, hA, hsrc⟩ : ∃ A : Addr, (if c = j then some (⟨g, off, none⟩ : Addr) else some ⟨g, off + j * 2, none⟩) = some A ∧ Hid (∀ t u, news[t]? = some u → w.drew.cell? (A.add t) = some u) := by
    by_cases h : c = j
    · refine ⟨⟨g, off, none⟩, by simp [h], fun t u hu => ?_⟩
      have h0 : news.length = 0 := by rw [hnews, hdl]; omega
      rw [List.length_eq_zero_iff.1 h0] at hu
      simp at hu
    · refine ⟨⟨g, off + j * 2, none⟩, by simp [h], fun t u hu => ?_⟩
      rw [Addr.add_lit]
      rw [hnews] at hu
      exact hr2 t u hu
  have s1 : Hid (news.length = (n - j) * 2) := by show _ = _; rw [hnews, hdl]
  have s2 : Hid (∀ u ∈ news, u.oneCell' = true) := fun u hu => h1x u (List.mem_of_mem_drop (by rw [hnews] at hu; exact hu))
  have s3 : Hid (∀ t, t < news.length → (w.drew.cell? ⟨g, off + i * 2 + t, none⟩).isSome = true ∧ w.drew.frozen? ⟨g, off + i * 2 + t, none⟩ = false) := fun t ht => by
    have ht2 : t < (n - j) * 2 := by rw [hnews, hdl] at ht; exact ht
    exact hthX (i * 2) ((n - j) * 2) (by omega) t ht2
  obtain ⟨W1, hW1⟩ : ∃ W1, W1 = w.drew.setCells g (off + i * 2) news := ⟨_, rfl⟩
  have hth1 : ∀ o k, o + k ≤ c * 2 → W1.there g (off + o) k := fun o k hk => by rw [hW1]; exact World.there_setCells ((World.there_drew _ _ _ _).2 (hthX o k hk)) _ _ _
  have hcl : ∀ ty, (Builtin.clear_ #[22] ty #[.slice (some ⟨g, off + (i + (n - j)) * 2, none⟩) (n - (i + (n - j))) (c - (i + (n - j)))]).run Tryz.prog W1 = .ok (.tuple #[]) (W1.setCells g (off + (i + (n - j)) * 2) (Builtin.zeroCells zeroR.cells (n - (i + (n - j)))).toList) :=
    fun ty => run_clear_wide W1 _ _ ty zeroR 2 Tryz.underlying22 zeroVR rfl (by simp [zeroR, Value.cells, Value.oneCell']) g _ _ _ (by omega) (hth1 _ _ (by omega))
  have HPOST : Hid (OwnM (W1.setCells g (off + (i + (n - j)) * 2) (Builtin.zeroCells zeroR.cells (n - (i + (n - j)))).toList) base 34 2 (.slice (some ⟨g, off, none⟩) (i + (n - j)) c) (i + (n - j)) (xs.take (i * 2) ++ xs.drop (j * 2)) ∧ w.grownBy (W1.setCells g (off + (i + (n - j)) * 2) (Builtin.zeroCells zeroR.cells (n - (i + (n - j)))).toList) (some g)) := by
    obtain ⟨cur1, hb1, hs1⟩ := setCells_blk g 34 (0, 0) news (off + i * 2) w.drew cur hcur
    rw [← hW1] at hb1
    obtain ⟨cur2, hb2, hs2⟩ := setCells_blk g 34 (0, 0) (Builtin.zeroCells zeroR.cells (n - (i + (n - j)))).toList (off + (i + (n - j)) * 2) W1 cur1 hb1
    refine ⟨own_of ?_ hbg hb2 (by rw [hs2, hs1]; exact hcs) (by omega) hcm ?_, ?_⟩
    · rw [List.length_append, htl, hdl]; omega
    · refine range_append ?_ ?_
      · refine World.rangeAt_setCells_apart ?_ _ _ _ (.inr (.inl (by rw [htl]; omega)))
        rw [hW1]
        exact World.rangeAt_setCells_apart ((World.rangeAt_drew _ _ _ _).2 hr1) _ _ _ (.inr (.inl (by rw [htl]; omega)))
      · rw [htl]
        refine World.rangeAt_setCells_apart ?_ _ _ _ (.inr (.inl (by rw [hdl]; omega)))
        rw [hW1, hnews]
        exact World.rangeAt_setCells_same _ _ _ _ ((World.there_drew _ _ _ _).2 (hthX _ _ (by rw [hdl]; omega)))
    · rw [hW1]
      exact gr_trans (gr_trans (gr_drew _ _) (gr_setCells g _ _ _)) (gr_setCells g _ _ _)
  have hW : Hid (W1 = w.drew.setCells g (off + i * 2) news) := hW1
  obtain ⟨W2, hW2⟩ : ∃ W2, W2 = W1.setCells g (off + (i + (n - j)) * 2) (Builtin.zeroCells zeroR.cells (n - (i + (n - j)))).toList := ⟨_, rfl⟩
  rw [← hW2] at HPOST
  simp only [← hW2] at hcl
  clear hW2
  have hic : i ≤ c := by omega
  have hjc : j ≤ c := by omega
  have hne : ¬ ((i : Int) = (j : Int)) := by omega
  have hne2 : ¬ (i = j) := by omega
  clear hW1 ho hxl hcur hcs hrg hth hdl htl hx1 hx2 hr1 hr2 hthX hth1 hnews h1x hcm hbg hz0 hz2
  go_enter Tryz.func61, Tryz.ntmps61
  go_wp2_with fail
  go_region_law (refine step_append_room rfl (.tmp 22) (.tmp 25) 22 rfl 34 i0 2 Tryz.underlying22 hi0 hz1 g off i c (by simp [Act.eval, Act.put]) A (n - j) (c - j) news (by simp [Act.eval, Act.put]) s1.out hsrc.out s2.out (by omega) s3.out ?_; rw [← hW.out])
  go_wp2
  go_ret
  exact ⟨rfl, HPOST.out⟩
end Go.Proofs.YtmgodofnhjmbfaaGreatDoor.rlv
