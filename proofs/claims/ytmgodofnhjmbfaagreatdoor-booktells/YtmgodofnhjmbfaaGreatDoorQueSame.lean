/- The words of a book as text. Contracts over this seat's translation: book.Print at a book that is right. Contracts over this seat's translation: the document's Count. Contracts over this seat's translation: pitsame.Rests at two queues that are the same. -/
import Derived.Test.YtmgodofnhjmbfaaGreatDoorBokLn
import Derived.Test.YtmgodofnhjmbfaaGreatDoorBokChk
import Derived.Test.YtmgodofnhjmbfaaGreatDoorSidCat
import Derived.Test.YtmgodofnhjmbfaaGreatDoorQueCat
import Derived.Deep.AppendLies
import Derived.Deep.QuietTactic
import Derived.BigQuiet
import Derived.Test.YtmgodofnhjmbfaaGreatDoorQueChk
namespace Go.Proofs.YtmgodofnhjmbfaaGreatDoor.bld
def wBuy : List UInt8 := [98, 117, 121]
def wSell : List UInt8 := [115, 101, 108, 108]
end Go.Proofs.YtmgodofnhjmbfaaGreatDoor.bld
namespace Go.Proofs.YtmgodofnhjmbfaaGreatDoor.bld
open Go.RowKit Go.Proofs.YtmgodofnhjmbfaaGreatDoor.spn Go.Proofs.YtmgodofnhjmbfaaGreatDoor.que Go.Proofs.YtmgodofnhjmbfaaGreatDoor.sid Go.Proofs.YtmgodofnhjmbfaaGreatDoor.bok
theorem kin_lv {bs ss : List L} (h : bookE bs ss = 0) : (∀ l ∈ bs, lchk l = 0) ∧ (∀ l ∈ ss, lchk l = 0) ∧ cnt bs ≤ 60 ∧ cnt ss ≤ 60 := by
  obtain ⟨e1, e2, -⟩ := book_zero h
  exact ⟨sgo_each (schk_zero e1).2.1, sgo_each (schk_zero e2).2.1, (schk_zero e1).2.2.1, (schk_zero e2).2.2.1⟩
set_option maxRecDepth 100000 in
set_option maxHeartbeats 1000000 in
theorem print_good (q1 q2 : Option Addr) (n1 n2 c1 c2 : Nat) (bs ss : List L) (w : World) (h1 : LS w (.slice q1 n1 c1) bs) (h2 : LS w (.slice q2 n2 c2) ss) (h0 : bookE bs ss = 0) (hT : Tab w) :
    Calls Tryz.prog 11 #[.agg #[.slice q1 n1 c1, .slice q2 n2 c2]] w fun e w' => e = .returned (.tuple #[.string ⟨(sTxt wBuy bs ++ sTxt wSell ss).toArray⟩, .nilIface]) ∧ Below w.heap.size w w' := by
  have HG1 : Hid ((∀ l ∈ bs, lchk l = 0) ∧ cnt bs ≤ 60) := ⟨(kin_lv h0).1, (kin_lv h0).2.2.1⟩
  have HG2 : Hid ((∀ l ∈ ss, lchk l = 0) ∧ cnt ss ≤ 60) := ⟨(kin_lv h0).2.1, (kin_lv h0).2.2.2⟩
  have HTT : Hid (∀ W, Below w.heap.size w W → Tab W) := fun W hW => hT.on hW (Nat.le_refl _)
  have HCH := fun W (hW : Below w.heap.size w W) => bok.check_any q1 q2 n1 n2 c1 c2 bs ss W (h1.below hW) (h2.below hW)
  rw [h0, errV_zero] at HCH
  have HH1 : Hid (∀ W, Below w.heap.size w W → LS W (.slice q1 n1 c1) bs) := fun W hW => h1.below hW
  have HH2 : Hid (∀ W, Below w.heap.size w W → LS W (.slice q2 n2 c2) ss) := fun W hW => h2.below hW
  obtain ⟨x, hx⟩ : ∃ x, x = sTxt wBuy bs := ⟨_, rfl⟩
  obtain ⟨y, hy⟩ : ∃ y, y = sTxt wSell ss := ⟨_, rfl⟩
  
  have HXY : Hid (x = sTxt wBuy bs ∧ y = sTxt wSell ss) := ⟨hx, hy⟩
  obtain ⟨V, hV⟩ : ∃ V, V = w.alloc (.cells #[.slice q1 n1 c1, .slice q2 n2 c2] 24) := ⟨_, rfl⟩
  have HB : Hid (Below w.heap.size w V) := by rw [hV]; exact (Below.refl _ _).alloc (Nat.le_refl _) _
  have v0 : V.cell? ⟨w.heap.size, 0, none⟩ = some (.slice q1 n1 c1) := by rw [hV]; simp [go_sem]
  have v1 : V.cell? ⟨w.heap.size, 1, none⟩ = some (.slice q2 n2 c2) := by rw [hV]; simp [go_sem]
  have hVs : w.heap.size < V.heap.size := by rw [hV]; simp
  have lx : x.length ≤ 66000 := by
    rw [hx]
    have h5 := sTxt_len (wd := wBuy) (by decide) HG1.out.1
    have h6 := len_le (fun l h => (lchk_zero (HG1.out.1 l h)).2.1)
    have h7 := HG1.out.2
    have h8 := Nat.mul_le_mul_right 1100 (show bs.length ≤ 60 by omega)
    omega
  have ly : y.length ≤ 66000 := by
    rw [hy]
    have h5 := sTxt_len (wd := wSell) (by decide) HG2.out.1
    have h6 := len_le (fun l h => (lchk_zero (HG2.out.1 l h)).2.1)
    have h7 := HG2.out.2
    have h8 := Nat.mul_le_mul_right 1100 (show ss.length ≤ 60 by omega)
    omega
  have gxy : ¬ 9223372036854775807 < x.length + y.length := by omega
  clear hx hy h1 h2 h0 hT lx ly
  go_enter Tryz.func11, Tryz.ntmps11
  go_wp2_with fail
  rw [← hV]
  refine (HCH V HB.out).mono ?_
  rintro e w1 ⟨rfl, b1⟩
  have HB1 : Hid (Below w.heap.size w w1) := HB.out.trans (b1.mono HB.out.size)
  have x0 := keeps b1 v0
  have x1 := keeps b1 v1
  have hs1 : w.heap.size < w1.heap.size := Nat.lt_of_lt_of_le hVs b1.size
  have H3 : Hid (∀ W, Below w1.heap.size w1 W → Calls Tryz.prog 31 #[.string ⟨#[98, 117, 121]⟩, .slice q1 n1 c1] W fun e w' => e = .returned (.string ⟨x.toArray⟩) ∧ Below w1.heap.size w1 w') := fun W hW => by
    have hwW := HB1.out.trans (hW.mono HB1.out.size)
    rw [HXY.out.1]
    refine (lines_any wBuy (by decide) q1 n1 c1 bs W (HTT.out W hwW) (HH1.out W hwW) HG1.out.1 HG1.out.2).mono ?_
    rintro e w' ⟨rfl, hb⟩
    exact ⟨rfl, hW.trans (hb.mono hW.size)⟩
  have H4 : Hid (∀ W, Below w1.heap.size w1 W → Calls Tryz.prog 31 #[.string ⟨#[115, 101, 108, 108]⟩, .slice q2 n2 c2] W fun e w' => e = .returned (.string ⟨y.toArray⟩) ∧ Below w1.heap.size w1 w') := fun W hW => by
    have hwW := HB1.out.trans (hW.mono HB1.out.size)
    rw [HXY.out.2]
    refine (lines_any wSell (by decide) q2 n2 c2 ss W (HTT.out W hwW) (HH2.out W hwW) HG2.out.1 HG2.out.2).mono ?_
    rintro e w' ⟨rfl, hb⟩
    exact ⟨rfl, hW.trans (hb.mono hW.size)⟩
  have SO : Hid (∀ W, Below w1.heap.size w1 W → (Below w1.heap.size w1 W ∧ W.cell? ⟨w.heap.size, 0, none⟩ = some (.slice q1 n1 c1) ∧ W.cell? ⟨w.heap.size, 1, none⟩ = some (.slice q2 n2 c2))) := fun W hW => ⟨hW, keeps hW x0, keeps hW x1⟩
  clear b1 HCH v0 v1 HH1 HH2
  go_upto_region 4 with fail
  go_region_held3 (fun W => Below w1.heap.size w1 W ∧ W.cell? ⟨w.heap.size, 0, none⟩ = some (.slice q1 n1 c1) ∧ W.cell? ⟨w.heap.size, 1, none⟩ = some (.slice q2 n2 c2))
    ((refine SO.out _ ?_; (repeat' (first | with_reducible assumption | with_reducible refine bal ?_ _ | with_reducible refine Below.setCell ?_ ?_ _ | with_reducible refine Below.drew ?_ | with_reducible exact Below.refl _ _ | with_reducible exact Nat.le_refl _ | with_reducible exact Below.size (by with_reducible assumption) | with_reducible refine Nat.le_succ_of_le ?_))))
    (first | (go_at_call 31; with_reducible refine (H3.out _ ?_).mono ?_; (repeat' (first | with_reducible assumption | with_reducible refine bal ?_ _ | with_reducible refine Below.setCell ?_ ?_ _ | with_reducible refine Below.drew ?_ | with_reducible exact Below.refl _ _ | with_reducible exact Nat.le_refl _ | with_reducible exact Below.size (by with_reducible assumption) | with_reducible refine Nat.le_succ_of_le ?_)); rintro x W ⟨rfl, hbn⟩) | (go_at_call 31; with_reducible refine (H4.out _ ?_).mono ?_; (repeat' (first | with_reducible assumption | with_reducible refine bal ?_ _ | with_reducible refine Below.setCell ?_ ?_ _ | with_reducible refine Below.drew ?_ | with_reducible exact Below.refl _ _ | with_reducible exact Nat.le_refl _ | with_reducible exact Below.size (by with_reducible assumption) | with_reducible refine Nat.le_succ_of_le ?_)); rintro x W ⟨rfl, hbn⟩))
  all_goals
    go_wp2_with fail
    go_ret2
    exact ⟨by rw [← HXY.out.1, ← HXY.out.2, ← app_str]; rfl, HB1.out.trans (Below.mono (by assumption) HB1.out.size)⟩
end Go.Proofs.YtmgodofnhjmbfaaGreatDoor.bld
namespace Go.Proofs.YtmgodofnhjmbfaaGreatDoor.sid
open Go.RowKit Go.Proofs.YtmgodofnhjmbfaaGreatDoor.spn Go.Proofs.YtmgodofnhjmbfaaGreatDoor.que

set_option maxRecDepth 100000 in
set_option maxHeartbeats 1000000 in
theorem rcount_some (b o c : Nat) (ls : List L) (w : World) (hl : LL w b o ls) (h60 : ∀ l ∈ ls, l.rests.length ≤ 60) (h10 : ls.length ≤ 10000) :
    Calls Tryz.prog 7 #[.slice (some ⟨b, o, none⟩) ls.length c] w fun e w' => e = .returned (.int .i64 (cnt ls)) ∧ ∃ k, w' = w.drewN k := by
  have HG : Hid (∀ l ∈ ls, l.rests.length ≤ 60) := h60
  have HL : Hid (LL w b o ls) := hl
  clear hl h60
  generalize hT : cnt ls = T
  have HT : Hid (cnt ls = T) := hT
  clear hT
  generalize hn : ls.length = n at *
  have HN : Hid (ls.length = n) := hn
  clear hn
  go_enter Tryz.func7, Tryz.ntmps7
  go_wp2_with fail
  go_loopg [3, 4] n (fun gg s3 s4 wr => ∃ kk d : Nat, kk ≤ n ∧ n - kk ≤ gg ∧ s4 = .int .i64 kk ∧ s3 = .int .i64 (cnt (ls.take kk)) ∧ wr = w.drewN d)
  case atStart => exact ⟨0, 0, Nat.zero_le _, by omega, rfl, rfl, rfl⟩
  case round =>
    obtain ⟨kk, d, hkk, hg, rfl, rfl, rfl⟩ := hrel
    have hA : Hid (0 ≤ cnt (ls.take kk) ∧ cnt (ls.take kk) ≤ 60 * (kk : Int)) := by
      have := cnt_le (ls.take kk) (fun r hr => HG.out r (List.mem_of_mem_take hr))
      rw [List.length_take, HN.out, Nat.min_eq_left hkk] at this
      exact this
    by_cases hlt : kk < n
    · have hltz : (kk : Int) < (n : Int) := by omega
      have hlz : kk < ls.length := by rw [HN.out]; exact hlt
      obtain ⟨r, hr⟩ : ∃ r, ls[kk]! = r := ⟨_, rfl⟩
      obtain ⟨p, zs⟩ := r
      obtain ⟨q, cc, c0, c1, hs⟩ := HL.out.at hlz hr
      have hq := HG.out ls[kk]! (by rw [getE _ _ hlz]; exact List.getElem_mem hlz)
      rw [hr] at hq
      simp only [] at hq
      have hTT : Hid (cnt (ls.take (kk + 1)) = cnt (ls.take kk) + (zs.length : Int)) := by
        have := cnt_take ls kk hlz
        rw [hr] at this
        exact this
      clear hr hs
      obtain ⟨t1, t2⟩ := hA.out
      clear hA
      generalize cnt (ls.take kk) = t at *
      generalize zs.length = m at *
      have hin1 : ¬ ((kk : Int) < 0) := by omega
      have e2 : wrap64 (t + (m : Int)) = t + (m : Int) := by unfold wrap64; omega
      have e3 : IntKind.i64.wrap (t + (m : Int)) = t + (m : Int) := (IntWalk.i64_left _).trans e2
      go_wp2_with fail
      try (go_quiet (fail); go_wp2_with fail)
      go_roundg (n - (kk + 1))
      case measure => omega
      case rel => exact ⟨kk + 1, _, by omega, by omega, by go_num, by rw [hTT.out], (by first | rfl | (rw [← World.drewN_add]))⟩
    · have hltz : ¬ (kk : Int) < (n : Int) := by omega
      have hk : kk = n := by omega
      subst hk
      have hT2 : cnt (ls.take kk) = T := by rw [← HT.out, List.take_of_length_le (by rw [HN.out]; exact Nat.le_refl _)]
      rw [hT2]
      go_wp2_with fail
      go_ret
      exact ⟨rfl, d, rfl⟩
end Go.Proofs.YtmgodofnhjmbfaaGreatDoor.sid
namespace Go.Proofs.YtmgodofnhjmbfaaGreatDoor.que
open Go.RowKit Go.Proofs.YtmgodofnhjmbfaaGreatDoor.spn

theorem wrapSucc (k n : Nat) (h : k < n) (hn : n ≤ 9223372036854775807) : wrap64 ((k : Int) + 1) = ((k + 1 : Nat) : Int) := by unfold wrap64; omega

theorem below_drewN {B : Nat} {a w : World} (h : Below B a w) (n : Nat) : Below B a (w.drewN n) := ⟨h.os, h.tape, h.output, h.size, h.block⟩

theorem rests_none (p q : Option Addr) (c d : Nat) (w : World) :
    Calls Tryz.prog 59 #[.slice p 0 c, .slice q 0 d] w fun e w' => e = .returned (.bool true) ∧ Below w.heap.size w w' := by
  go_enter Tryz.func59, Tryz.ntmps59
  go_wp2_with fail
  go_loopg [5] 0 (fun _ s5 wr => s5 = .int .i64 0 ∧ wr = w)
  case atStart => exact ⟨rfl, rfl⟩
  case round =>
    obtain ⟨rfl, rfl⟩ := hrel
    go_wp2_with fail
    go_ret
    exact ⟨rfl, Below.refl _ _⟩

set_option maxRecDepth 100000 in
set_option maxHeartbeats 1000000 in
theorem rests_some (b o c b' o' c' : Nat) (zs : List R) (w : World) (hb : b < w.heap.size) (hb' : b' < w.heap.size) (hn : zs.length ≤ 9223372036854775807) (hl : Lies w b o zs) (hl' : Lies w b' o' zs) :
    Calls Tryz.prog 59 #[.slice (some ⟨b, o, none⟩) zs.length c, .slice (some ⟨b', o', none⟩) zs.length c'] w fun e w' => e = .returned (.bool true) ∧ Below w.heap.size w w' := by
  have HL : Hid (Lies w b o zs ∧ Lies w b' o' zs) := ⟨hl, hl'⟩
  clear hl hl'
  generalize hN : zs.length = n at *
  have HN : Hid (zs.length = n) := hN
  clear hN
  go_enter Tryz.func59, Tryz.ntmps59
  go_wp2_with fail
  go_loopg [5] n (fun gg s5 wr => ∃ kk : Nat, kk ≤ n ∧ n - kk ≤ gg ∧ s5 = .int .i64 kk ∧ Aside (Below w.heap.size w wr))
  case atStart => exact ⟨0, Nat.zero_le _, by omega, rfl, Below.refl _ w⟩
  case round =>
    obtain ⟨kk, hkk, hg, rfl, BW⟩ := hrel
    by_cases hlt : kk < n
    · have hltz : (kk : Int) < (n : Int) := by omega
      have hlz : kk < zs.length := by rw [HN.out]; exact hlt
      obtain ⟨r, hr⟩ : ∃ r, zs[kk]! = r := ⟨_, rfl⟩
      obtain ⟨r1, r2, r3, r4, r5⟩ := r
      obtain ⟨c0, c1, c2, c3, c4⟩ := lies_at (HL.out.1.below hb BW.out) hlz hr
      obtain ⟨d0, d1, d2, d3, d4⟩ := lies_at (HL.out.2.below hb' BW.out) hlz hr
      have hin1 : ¬ ((kk : Int) < 0) := by omega
      have e1 := wrapSucc kk n hlt hn
      clear hr
      go_wp2_with fail
      go_quiet (fail)
      go_wp2_with fail
      go_roundg (n - (kk + 1))
      case measure => clear e1; omega
      case rel => exact ⟨kk + 1, hlt, Nat.le_refl _, by go_num, below_drewN BW.out _⟩
    · have hltz : ¬ (kk : Int) < (n : Int) := by omega
      go_wp2_with fail
      go_ret
      exact ⟨rfl, BW.out⟩

theorem rests_same (va vb : Value) (zs : List R) (w : World) (ha : SL w va zs) (hb : SL w vb zs) :
    Calls Tryz.prog 59 #[va, vb] w fun e w' => e = .returned (.bool true) ∧ Below w.heap.size w w' := by
  rcases ha with ⟨rfl, rfl⟩ | ⟨b, o, c, rfl, h2, h3, h4, h5⟩
  · rcases hb with ⟨rfl, -⟩ | ⟨b', o', c', rfl, -, -, -, -⟩
    · exact rests_none none none 0 0 w
    · exact rests_none none (some ⟨b', o', none⟩) 0 c' w
  · rcases hb with ⟨rfl, rfl⟩ | ⟨b', o', c', rfl, -, -, i4, i5⟩
    · exact rests_none (some ⟨b, o, none⟩) none c 0 w
    · exact rests_some b o c b' o' c' zs w h4 i4 (by omega) h5 i5

end Go.Proofs.YtmgodofnhjmbfaaGreatDoor.que
