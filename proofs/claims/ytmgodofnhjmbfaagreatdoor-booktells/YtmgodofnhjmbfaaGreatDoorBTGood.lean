/- BookTells at a book that is right. -/
import Derived.Test.YtmgodofnhjmbfaaGreatDoorBTPure
import Derived.Test.YtmgodofnhjmbfaaGreatDoorQueSame
import Derived.Test.YtmgodofnhjmbfaaGreatDoorBokShw
import Derived.Test.YtmgodofnhjmbfaaGreatDoorBokBad
import Derived.Test.YtmgodofnhjmbfaaGreatDoorBokAny
import Derived.Test.YtmgodofnhjmbfaaGreatDoorSidDel
import Derived.Test.YtmgodofnhjmbfaaGreatDoorBokCancel
import Derived.Test.YtmgodofnhjmbfaaGreatDoorBokPut2
import Derived.Test.YtmgodofnhjmbfaaGreatDoorSidLay
import Derived.Test.YtmgodofnhjmbfaaGreatDoorKinRef2
import Derived.Test.YtmgodofnhjmbfaaGreatDoorSidRef9
import Derived.Test.YtmgodofnhjmbfaaGreatDoorTold
import Derived.Deep.RegionHeld3
import Derived.BigQuiet
namespace Go.Proofs.YtmgodofnhjmbfaaGreatDoor.bokt
open Go.RowKit Go.Proofs.YtmgodofnhjmbfaaGreatDoor.que Go.Proofs.YtmgodofnhjmbfaaGreatDoor.sid Go.Proofs.YtmgodofnhjmbfaaGreatDoor.bok Go.Proofs.YtmgodofnhjmbfaaGreatDoor.bld
open Go.Proofs.YtmgodofnhjmbfaaGreatDoor.spn (keeps bcell errV errV_of errV_zero)
open Go.Proofs.YtmgodofnhjmbfaaGreatDoor.tickP (priceB sideB)
open Go.Proofs.YtmgodofnhjmbfaaGreatDoor.kin

theorem ls_form {w : World} {v : Value} {ls : List L} (h : LS w v ls) : ∃ q n c, v = .slice q n c := by
  rcases h with ⟨rfl, _⟩ | ⟨b, o, c, rfl, _⟩
  · exact ⟨_, _, _, rfl⟩
  · exact ⟨_, _, _, rfl⟩
theorem grFive (w : World) (B : Nat) (x0 x1 x2 x3 x4 : Value) : w.grownBy (((((w.setCell ⟨B, 0, none⟩ x0).setCell ⟨B, 1, none⟩ x1).setCell ⟨B, 2, none⟩ x2).setCell ⟨B, 3, none⟩ x3).setCell ⟨B, 4, none⟩ x4) (some B) :=
  gr_trans (gr_trans (gr_trans (gr_trans (gr_setCell _ _ _ _) (gr_setCell _ _ _ _)) (gr_setCell _ _ _ _)) (gr_setCell _ _ _ _)) (gr_setCell _ _ _ _)

set_option maxRecDepth 100000 in
set_option maxHeartbeats 16000000 in
theorem bt_good (q1 q2 : Option Addr) (n1 n2 c1 c2 : Nat) (bs ss : List L) (s p r1 r2 r3 r4 r5 id : Int) (w : World) (hL : told.Laid w) (h1 : LS w (.slice q1 n1 c1) bs) (h2 : LS w (.slice q2 n2 c2) ss) (hT : Tab w) (h0 : bookE bs ss = 0) (hid : (Lit.int .i64 id).wf = true) :
    Calls Tryz.prog 3 #[.agg #[.slice q1 n1 c1, .slice q2 n2 c2], .int .i64 s, .int .i64 p, .agg #[.int .i64 r1, .int .i64 r2, .int .i64 r3, .int .i64 r4, .int .i64 r5], .int .i64 id] w fun e w' => e = .returned (.bool true) ∧ Below w.heap.size w w' := by
  have hB0 : Below w.heap.size w ((w.alloc (.cells #[.slice q1 n1 c1, .slice q2 n2 c2] 24)).alloc (.cells #[.int .i64 r1, .int .i64 r2, .int .i64 r3, .int .i64 r4, .int .i64 r5] 26)) := ((Below.refl _ _).alloc (Nat.le_refl _) _).alloc (by simp) _
  have hr5 : ((w.alloc (.cells #[.slice q1 n1 c1, .slice q2 n2 c2] 24)).alloc (.cells #[.int .i64 r1, .int .i64 r2, .int .i64 r3, .int .i64 r4, .int .i64 r5] 26)).heap[w.heap.size]? = some (.cells #[.slice q1 n1 c1, .slice q2 n2 c2] 24 (0, 0)) := (Below.heap_alloc _ _ _ (by simp)).trans (heap_alloc_new w _)
  have hr8 : ((w.alloc (.cells #[.slice q1 n1 c1, .slice q2 n2 c2] 24)).alloc (.cells #[.int .i64 r1, .int .i64 r2, .int .i64 r3, .int .i64 r4, .int .i64 r5] 26)).heap[w.heap.size + 1]? = some (.cells #[.int .i64 r1, .int .i64 r2, .int .i64 r3, .int .i64 r4, .int .i64 r5] 26 (0, 0)) := by
    have := heap_alloc_new (w.alloc (.cells #[.slice q1 n1 c1, .slice q2 n2 c2] 24)) (.cells #[.int .i64 r1, .int .i64 r2, .int .i64 r3, .int .i64 r4, .int .i64 r5] 26)
    simpa using this
  have hK : ∀ W, Below ((w.alloc (.cells #[.slice q1 n1 c1, .slice q2 n2 c2] 24)).alloc (.cells #[.int .i64 r1, .int .i64 r2, .int .i64 r3, .int .i64 r4, .int .i64 r5] 26)).heap.size ((w.alloc (.cells #[.slice q1 n1 c1, .slice q2 n2 c2] 24)).alloc (.cells #[.int .i64 r1, .int .i64 r2, .int .i64 r3, .int .i64 r4, .int .i64 r5] 26)) W → Below w.heap.size w W := fun W hW => hB0.trans (hW.mono hB0.size)
  obtain ⟨e1, e2, -⟩ := book_zero h0
  obtain ⟨lv1, lv2⟩ := book_lv h0
  have hne1 : ∀ l ∈ bs, l.rests ≠ [] := fun l h => (lchk_zero (lv1 l h)).2.1
  have hne2 : ∀ l ∈ ss, l.rests ≠ [] := fun l h => (lchk_zero (lv2 l h)).2.1
  have hc1 : cnt bs ≤ 60 := (schk_zero e1).2.2.1
  have hc2 : cnt ss ≤ 60 := (schk_zero e2).2.2.1
  have HB1 := hidB (best_at h1 hne1)
  have HB2 := hidB (best_at h2 hne2)
  have HRB : Hid (∀ W, Below ((w.alloc (.cells #[.slice q1 n1 c1, .slice q2 n2 c2] 24)).alloc (.cells #[.int .i64 r1, .int .i64 r2, .int .i64 r3, .int .i64 r4, .int .i64 r5] 26)).heap.size ((w.alloc (.cells #[.slice q1 n1 c1, .slice q2 n2 c2] 24)).alloc (.cells #[.int .i64 r1, .int .i64 r2, .int .i64 r3, .int .i64 r4, .int .i64 r5] 26)) W → Calls Tryz.prog 4 #[.agg #[.slice q1 n1 c1, .slice q2 n2 c2]] W fun e w' => e = .returned (.int .i64 0) ∧ Below W.heap.size W w') := fun W hW => by
    have := rbook_any q1 q2 n1 n2 c1 c2 bs ss W (h1.below (hK W hW)) (h2.below (hK W hW))
    rwa [h0] at this
  have HCH : Hid (∀ W, Below ((w.alloc (.cells #[.slice q1 n1 c1, .slice q2 n2 c2] 24)).alloc (.cells #[.int .i64 r1, .int .i64 r2, .int .i64 r3, .int .i64 r4, .int .i64 r5] 26)).heap.size ((w.alloc (.cells #[.slice q1 n1 c1, .slice q2 n2 c2] 24)).alloc (.cells #[.int .i64 r1, .int .i64 r2, .int .i64 r3, .int .i64 r4, .int .i64 r5] 26)) W → Calls Tryz.prog 6 #[.agg #[.slice q1 n1 c1, .slice q2 n2 c2]] W fun e w' => e = .returned .nilIface ∧ Below W.heap.size W w') := fun W hW => by
    have := check_any q1 q2 n1 n2 c1 c2 bs ss W (h1.below (hK W hW)) (h2.below (hK W hW))
    rwa [h0, errV_zero] at this
  have HER : Hid (∀ W, Below ((w.alloc (.cells #[.slice q1 n1 c1, .slice q2 n2 c2] 24)).alloc (.cells #[.int .i64 r1, .int .i64 r2, .int .i64 r3, .int .i64 r4, .int .i64 r5] 26)).heap.size ((w.alloc (.cells #[.slice q1 n1 c1, .slice q2 n2 c2] 24)).alloc (.cells #[.int .i64 r1, .int .i64 r2, .int .i64 r3, .int .i64 r4, .int .i64 r5] 26)) W → Calls Tryz.prog 5 #[.nilIface, .int .i64 0] W fun e w' => e = .returned (.bool true) ∧ Below W.heap.size W w') := fun W hW => err_same hL 0 W (hK W hW)
  have HC1 : Hid (∀ W, Below ((w.alloc (.cells #[.slice q1 n1 c1, .slice q2 n2 c2] 24)).alloc (.cells #[.int .i64 r1, .int .i64 r2, .int .i64 r3, .int .i64 r4, .int .i64 r5] 26)).heap.size ((w.alloc (.cells #[.slice q1 n1 c1, .slice q2 n2 c2] 24)).alloc (.cells #[.int .i64 r1, .int .i64 r2, .int .i64 r3, .int .i64 r4, .int .i64 r5] 26)) W → Calls Tryz.prog 7 #[.slice q1 n1 c1] W fun e w' => e = .returned (.int .i64 (cnt bs)) ∧ ∃ k, w' = W.drewN k) := fun W hW => rcount_any _ bs W (h1.below (hK W hW)) (fun l h => ((qchk_zero _).1 (lchk_zero (lv1 l h)).2.2).1) (by have := len_le hne1; omega)
  have HC2 : Hid (∀ W, Below ((w.alloc (.cells #[.slice q1 n1 c1, .slice q2 n2 c2] 24)).alloc (.cells #[.int .i64 r1, .int .i64 r2, .int .i64 r3, .int .i64 r4, .int .i64 r5] 26)).heap.size ((w.alloc (.cells #[.slice q1 n1 c1, .slice q2 n2 c2] 24)).alloc (.cells #[.int .i64 r1, .int .i64 r2, .int .i64 r3, .int .i64 r4, .int .i64 r5] 26)) W → Calls Tryz.prog 7 #[.slice q2 n2 c2] W fun e w' => e = .returned (.int .i64 (cnt ss)) ∧ ∃ k, w' = W.drewN k) := fun W hW => rcount_any _ ss W (h2.below (hK W hW)) (fun l h => ((qchk_zero _).1 (lchk_zero (lv2 l h)).2.2).1) (by have := len_le hne2; omega)
  have HSH : Hid (∀ W, Below ((w.alloc (.cells #[.slice q1 n1 c1, .slice q2 n2 c2] 24)).alloc (.cells #[.int .i64 r1, .int .i64 r2, .int .i64 r3, .int .i64 r4, .int .i64 r5] 26)).heap.size ((w.alloc (.cells #[.slice q1 n1 c1, .slice q2 n2 c2] 24)).alloc (.cells #[.int .i64 r1, .int .i64 r2, .int .i64 r3, .int .i64 r4, .int .i64 r5] 26)) W → _) := fun W hW => rshow_any q1 q2 n1 n2 c1 c2 bs ss W (h1.below (hK W hW)) (h2.below (hK W hW)) lv1 lv2 hc1 hc2
  have HTP : Hid (∀ W, Below ((w.alloc (.cells #[.slice q1 n1 c1, .slice q2 n2 c2] 24)).alloc (.cells #[.int .i64 r1, .int .i64 r2, .int .i64 r3, .int .i64 r4, .int .i64 r5] 26)).heap.size ((w.alloc (.cells #[.slice q1 n1 c1, .slice q2 n2 c2] 24)).alloc (.cells #[.int .i64 r1, .int .i64 r2, .int .i64 r3, .int .i64 r4, .int .i64 r5] 26)) W → _) := fun W hW => top_good q1 q2 n1 n2 c1 c2 bs ss W (h1.below (hK W hW)) (h2.below (hK W hW)) h0
  have HCN : Hid (∀ W, Below ((w.alloc (.cells #[.slice q1 n1 c1, .slice q2 n2 c2] 24)).alloc (.cells #[.int .i64 r1, .int .i64 r2, .int .i64 r3, .int .i64 r4, .int .i64 r5] 26)).heap.size ((w.alloc (.cells #[.slice q1 n1 c1, .slice q2 n2 c2] 24)).alloc (.cells #[.int .i64 r1, .int .i64 r2, .int .i64 r3, .int .i64 r4, .int .i64 r5] 26)) W → _) := fun W hW => count_good q1 q2 n1 n2 c1 c2 bs ss W (h1.below (hK W hW)) (h2.below (hK W hW)) h0
  have HPR : Hid (∀ W, Below ((w.alloc (.cells #[.slice q1 n1 c1, .slice q2 n2 c2] 24)).alloc (.cells #[.int .i64 r1, .int .i64 r2, .int .i64 r3, .int .i64 r4, .int .i64 r5] 26)).heap.size ((w.alloc (.cells #[.slice q1 n1 c1, .slice q2 n2 c2] 24)).alloc (.cells #[.int .i64 r1, .int .i64 r2, .int .i64 r3, .int .i64 r4, .int .i64 r5] 26)) W → _) := fun W hW => print_good q1 q2 n1 n2 c1 c2 bs ss W (h1.below (hK W hW)) (h2.below (hK W hW)) h0 (hT.on (hK W hW) (Nat.le_refl _))
  have HSD : Hid (∀ W, Below ((w.alloc (.cells #[.slice q1 n1 c1, .slice q2 n2 c2] 24)).alloc (.cells #[.int .i64 r1, .int .i64 r2, .int .i64 r3, .int .i64 r4, .int .i64 r5] 26)).heap.size ((w.alloc (.cells #[.slice q1 n1 c1, .slice q2 n2 c2] 24)).alloc (.cells #[.int .i64 r1, .int .i64 r2, .int .i64 r3, .int .i64 r4, .int .i64 r5] 26)) W → Calls Tryz.prog 12 #[.int .i64 s] W fun e w' => e = .returned (.bool (sideB s)) ∧ Below W.heap.size W w') := fun W _ => (rside_any s W).mono fun _ _ h => ⟨h.1, by rw [h.2]; exact Below.refl _ _⟩
  have HJN : Hid (∀ W, Below ((w.alloc (.cells #[.slice q1 n1 c1, .slice q2 n2 c2] 24)).alloc (.cells #[.int .i64 r1, .int .i64 r2, .int .i64 r3, .int .i64 r4, .int .i64 r5] 26)).heap.size ((w.alloc (.cells #[.slice q1 n1 c1, .slice q2 n2 c2] 24)).alloc (.cells #[.int .i64 r1, .int .i64 r2, .int .i64 r3, .int .i64 r4, .int .i64 r5] 26)) W → sideB s = true → Calls Tryz.prog 13 #[.agg #[.slice q1 n1 c1, .slice q2 n2 c2], .int .i64 s, .int .i64 p, .agg #[.int .i64 r1, .int .i64 r2, .int .i64 r3, .int .i64 r4, .int .i64 r5]] W fun e w' => JoinPostZ bs ss s p ⟨r1, r2, r3, r4, r5⟩ W e w') := fun W hW hs => rjoin_anyZ s (side_or hs) q1 q2 n1 n2 c1 c2 bs ss p r1 r2 r3 r4 r5 W (h1.below (hK W hW)) (h2.below (hK W hW)) h0
  have HPU : Hid (∀ W, Below ((w.alloc (.cells #[.slice q1 n1 c1, .slice q2 n2 c2] 24)).alloc (.cells #[.int .i64 r1, .int .i64 r2, .int .i64 r3, .int .i64 r4, .int .i64 r5] 26)).heap.size ((w.alloc (.cells #[.slice q1 n1 c1, .slice q2 n2 c2] 24)).alloc (.cells #[.int .i64 r1, .int .i64 r2, .int .i64 r3, .int .i64 r4, .int .i64 r5] 26)) W → Calls Tryz.prog 14 #[.agg #[.slice q1 n1 c1, .slice q2 n2 c2], .int .i64 s, .int .i64 p, .agg #[.int .i64 r1, .int .i64 r2, .int .i64 r3, .int .i64 r4, .int .i64 r5]] W fun e w' => PutPost bs ss s p ⟨r1, r2, r3, r4, r5⟩ W e w') := fun W hW => put_any s p q1 q2 n1 n2 c1 c2 r1 r2 r3 r4 r5 bs ss W (h1.below (hK W hW)) (h2.below (hK W hW))
  have HEP : Hid (∀ W, Below ((w.alloc (.cells #[.slice q1 n1 c1, .slice q2 n2 c2] 24)).alloc (.cells #[.int .i64 r1, .int .i64 r2, .int .i64 r3, .int .i64 r4, .int .i64 r5] 26)).heap.size ((w.alloc (.cells #[.slice q1 n1 c1, .slice q2 n2 c2] 24)).alloc (.cells #[.int .i64 r1, .int .i64 r2, .int .i64 r3, .int .i64 r4, .int .i64 r5] 26)) W → Calls Tryz.prog 5 #[errV (putE bs ss s p ⟨r1, r2, r3, r4, r5⟩), .int .i64 (putE bs ss s p ⟨r1, r2, r3, r4, r5⟩)] W fun e w' => e = .returned (.bool true) ∧ Below W.heap.size W w') := fun W hW => err_same hL _ W (hK W hW)
  have HFN : Hid (∀ W, Below ((w.alloc (.cells #[.slice q1 n1 c1, .slice q2 n2 c2] 24)).alloc (.cells #[.int .i64 r1, .int .i64 r2, .int .i64 r3, .int .i64 r4, .int .i64 r5] 26)).heap.size ((w.alloc (.cells #[.slice q1 n1 c1, .slice q2 n2 c2] 24)).alloc (.cells #[.int .i64 r1, .int .i64 r2, .int .i64 r3, .int .i64 r4, .int .i64 r5] 26)) W → _) := fun W hW => rfind_any q1 q2 n1 n2 c1 c2 bs ss id W (h1.below (hK W hW)) (h2.below (hK W hW))
  have HLV : Hid (∀ W, Below ((w.alloc (.cells #[.slice q1 n1 c1, .slice q2 n2 c2] 24)).alloc (.cells #[.int .i64 r1, .int .i64 r2, .int .i64 r3, .int .i64 r4, .int .i64 r5] 26)).heap.size ((w.alloc (.cells #[.slice q1 n1 c1, .slice q2 n2 c2] 24)).alloc (.cells #[.int .i64 r1, .int .i64 r2, .int .i64 r3, .int .i64 r4, .int .i64 r5] 26)) W → LS W (.slice q1 n1 c1) bs ∧ LS W (.slice q2 n2 c2) ss ∧ Below w.heap.size w W) := fun W hW => ⟨h1.below (hK W hW), h2.below (hK W hW), hK W hW⟩
  have HNO : Hid (sideB s = false → putE bs ss s p ⟨r1, r2, r3, r4, r5⟩ = 1) := put_noside h0
  have HPL : Hid (putE bs ss s p ⟨r1, r2, r3, r4, r5⟩ = 0 → _) := fun h => put_lv h
  have HSU := hidB (count_sum h0)
  have H0 := hidB h0
  have HLW := hidB (And.intro lv1 lv2)
  have HE12 := hidB (And.intro e1 e2)
  have HL := hidB hL
  obtain ⟨TX, hTX⟩ : ∃ TX : ByteArray, TX = ⟨(sTxt wBuy bs ++ sTxt wSell ss).toArray⟩ := ⟨_, rfl⟩
  rw [← hTX] at HSH HPR
  clear hTX
  generalize hBB : bestI bs = BB at *
  generalize hSB : bestI ss = SB at *
  clear hBB hSB
  obtain ⟨C1, hC1⟩ : ∃ C1, cnt bs = C1 := ⟨_, rfl⟩
  obtain ⟨C2, hC2⟩ : ∃ C2, cnt ss = C2 := ⟨_, rfl⟩
  obtain ⟨NN, hNN⟩ : ∃ NN : Int, (((allR bs ++ allR ss).length : Nat) : Int) = NN := ⟨_, rfl⟩
  rw [hC1] at HC1
  rw [hC2] at HC2
  rw [hNN] at HCN
  rw [hC1, hC2, hNN] at HSU
  obtain ⟨PE, hPE⟩ : ∃ PE, putE bs ss s p ⟨r1, r2, r3, r4, r5⟩ = PE := ⟨_, rfl⟩
  have HPE := hidB hPE
  rw [hPE] at HNO HPL HEP
  clear hC1 hC2 hNN hPE h1 h2 hK e1 e2 lv1 lv2 hne1 hne2 hc1 hc2 h0 hL hT
  go_enter Tryz.func3, Tryz.ntmps3
  go_upto_region 1 with fail
  generalize hV : (w.alloc (.cells #[.slice q1 n1 c1, .slice q2 n2 c2] 24)).alloc (.cells #[.int .i64 r1, .int .i64 r2, .int .i64 r3, .int .i64 r4, .int .i64 r5] 26) = V at *
  clear hV
  obtain ⟨P8, hP8⟩ : ∃ P8, P8 = w.heap.size + 1 := ⟨_, rfl⟩
  rw [← hP8] at hr8
  simp only [← hP8]
  obtain ⟨P5, hP5⟩ : ∃ P5, P5 = w.heap.size := ⟨_, rfl⟩
  rw [← hP5] at hr5
  simp only [← hP5]
  have HV0 := hidB hB0
  have HR5 := hidB hr5
  have HR8 := hidB hr8
  have SO : Hid (∀ W, Below V.heap.size V W → W.cell? ⟨P5, 0, none⟩ = some (.slice q1 n1 c1) ∧ W.cell? ⟨P5, 1, none⟩ = some (.slice q2 n2 c2)) := fun W hW => by
    obtain ⟨a, b, -⟩ := rowTwo HR5.out
    exact ⟨keeps hW a, keeps hW b⟩
  have SR : Hid (∀ W, Below V.heap.size V W → W.cell? ⟨P8, 0, none⟩ = some (.int .i64 r1) ∧ W.cell? ⟨P8, 1, none⟩ = some (.int .i64 r2) ∧ W.cell? ⟨P8, 2, none⟩ = some (.int .i64 r3) ∧ W.cell? ⟨P8, 3, none⟩ = some (.int .i64 r4) ∧ W.cell? ⟨P8, 4, none⟩ = some (.int .i64 r5)) := fun W hW => by
    obtain ⟨a, b, c, d, e, -⟩ := rowFive HR8.out
    exact ⟨keeps hW a, keeps hW b, keeps hW c, keeps hW d, keeps hW e⟩
  have HB := hidB (Below.refl V.heap.size V)
  clear hB0 hr5 hr8 hP5 hP8
  obtain ⟨b0, b1⟩ := SO.out _ HB.out
  go_wp2_with fail
  refine (HRB.out _ HB.out).mono ?_
  rintro e w1 ⟨rfl, hb⟩
  have HB := hidB (HB.out.trans (hb.mono HB.out.size))
  clear hb b0 b1
  obtain ⟨b0, b1⟩ := SO.out _ HB.out
  go_wp2_with fail
  refine (HCH.out _ HB.out).mono ?_
  rintro e w2 ⟨rfl, hb⟩
  have HB := hidB (HB.out.trans (hb.mono HB.out.size))
  clear hb b0 b1
  go_wp2_with fail
  refine (HER.out _ HB.out).mono ?_
  rintro e w3 ⟨rfl, hb⟩
  have HB := hidB (HB.out.trans (hb.mono HB.out.size))
  clear hb
  obtain ⟨b0, b1⟩ := SO.out _ HB.out
  go_upto_if 56 with fail
  go_cut [13] from 56 to 61 (fun sx wx => sx = .int .i64 BB ∧ wx = w3)
  case first =>
    rcases HB1.out with ⟨e1, e2⟩ | ⟨e1, b, o, e2, e3⟩
    · have hz : ¬ (0 : Int) < (n1 : Int) := by omega
      have hz2 : ¬ 0 < n1 := by omega
      have e2' := hidB e2
      clear e1 e2
      go_wp2_with fail
      go_meet
      case rel => exact ⟨by rw [e2'.out], rfl⟩
    · have hz : (0 : Int) < (n1 : Int) := by omega
      have hc := keeps (HLV.out _ HB.out).2.2 e3
      subst e2
      clear e3
      go_wp2_with fail
      go_meet
      case rel => exact ⟨rfl, rfl⟩
  case rest =>
  obtain ⟨rfl, rfl⟩ := hcut
  generalize wc = w4 at *
  clear b0 b1
  obtain ⟨b0, b1⟩ := SO.out _ HB.out
  go_upto_if 65 with fail
  go_cut [14] from 65 to 70 (fun sx wx => sx = .int .i64 SB ∧ wx = w4)
  case first =>
    rcases HB2.out with ⟨e1, e2⟩ | ⟨e1, b, o, e2, e3⟩
    · have hz : ¬ (0 : Int) < (n2 : Int) := by omega
      have hz2 : ¬ 0 < n2 := by omega
      have e2' := hidB e2
      clear e1 e2
      go_wp2_with fail
      go_meet
      case rel => exact ⟨by rw [e2'.out], rfl⟩
    · have hz : (0 : Int) < (n2 : Int) := by omega
      have hc := keeps (HLV.out _ HB.out).2.2 e3
      subst e2
      clear e3
      go_wp2_with fail
      go_meet
      case rel => exact ⟨rfl, rfl⟩
  case rest =>
  obtain ⟨rfl, rfl⟩ := hcut
  generalize wc = w5 at *
  clear b0 b1
  obtain ⟨b0, b1⟩ := SO.out _ HB.out
  have SC : Hid (∀ W, Below w5.heap.size w5 W → (Below w5.heap.size w5 W ∧ W.cell? ⟨P5, 0, none⟩ = some (.slice q1 n1 c1) ∧ W.cell? ⟨P5, 1, none⟩ = some (.slice q2 n2 c2))) := fun W hW => ⟨hW, keeps hW b0, keeps hW b1⟩
  have HD1 : Hid (∀ W, Below w5.heap.size w5 W → Calls Tryz.prog 7 #[.slice q1 n1 c1] W fun e w' => e = .returned (.int .i64 C1) ∧ Below w5.heap.size w5 w') := fun W hW => (HC1.out W (HB.out.trans (hW.mono HB.out.size))).mono fun _ _ h => ⟨h.1, by obtain ⟨n, e⟩ := h.2; rw [e]; exact ⟨hW.os, hW.tape, hW.output, hW.size, hW.block⟩⟩
  have HD2 : Hid (∀ W, Below w5.heap.size w5 W → Calls Tryz.prog 7 #[.slice q2 n2 c2] W fun e w' => e = .returned (.int .i64 C2) ∧ Below w5.heap.size w5 w') := fun W hW => (HC2.out W (HB.out.trans (hW.mono HB.out.size))).mono fun _ _ h => ⟨h.1, by obtain ⟨n, e⟩ := h.2; rw [e]; exact ⟨hW.os, hW.tape, hW.output, hW.size, hW.block⟩⟩
  go_upto_region 12 with fail
  go_cut [15] from 71 to 77 (fun s15 wx => s15 = .int .i64 NN ∧ Aside (Below w5.heap.size w5 wx))
  case first =>
    have es := HSU.out
    have es' : IntKind.i64.wrap (C1 + C2) = NN := (IntWalk.i64_left _).trans es
    go_region_held3 (fun W => Below w5.heap.size w5 W ∧ W.cell? ⟨P5, 0, none⟩ = some (.slice q1 n1 c1) ∧ W.cell? ⟨P5, 1, none⟩ = some (.slice q2 n2 c2))
      ((refine SC.out _ ?_; (repeat' (first | with_reducible assumption | with_reducible refine Below.drew ?_ | with_reducible exact Below.refl _ _ | with_reducible exact Nat.le_refl _))))
      (first | (go_at_call 7; with_reducible refine (HD1.out _ ?_).mono ?_; (repeat' (first | with_reducible assumption | with_reducible refine Below.drew ?_ | with_reducible exact Below.refl _ _ | with_reducible exact Nat.le_refl _)); rintro x W ⟨rfl, hbn⟩) | (go_at_call 7; with_reducible refine (HD2.out _ ?_).mono ?_; (repeat' (first | with_reducible assumption | with_reducible refine Below.drew ?_ | with_reducible exact Below.refl _ _ | with_reducible exact Nat.le_refl _)); rintro x W ⟨rfl, hbn⟩))
    all_goals go_wp2_with fail
    all_goals go_meet
    all_goals exact ⟨rfl, by first | assumption | exact hbn⟩
  case rest =>
  obtain ⟨rfl, hbq⟩ := hcut
  have HB := hidB (HB.out.trans (hbq.out.mono HB.out.size))
  generalize wc = w6 at *
  clear b0 b1 hbq SC HD1 HD2
  obtain ⟨b0, b1⟩ := SO.out _ HB.out
  go_wp2_with fail
  refine (HSH.out _ HB.out).mono ?_
  rintro e w7 ⟨rfl, hb⟩
  have HB := hidB (HB.out.trans (hb.mono HB.out.size))
  clear hb b0 b1
  obtain ⟨b0, b1⟩ := SO.out _ HB.out
  go_wp2_with fail
  refine (HTP.out _ HB.out).mono ?_
  rintro e w8 ⟨rfl, hb⟩
  have HB := hidB (HB.out.trans (hb.mono HB.out.size))
  clear hb b0 b1
  go_wp2_with fail
  refine (HER.out _ HB.out).mono ?_
  rintro e w9 ⟨rfl, hb⟩
  have HB := hidB (HB.out.trans (hb.mono HB.out.size))
  clear hb
  obtain ⟨b0, b1⟩ := SO.out _ HB.out
  go_wp2_with fail
  refine (HCN.out _ HB.out).mono ?_
  rintro e w10 ⟨rfl, hb⟩
  have HB := hidB (HB.out.trans (hb.mono HB.out.size))
  clear hb b0 b1
  go_wp2_with fail
  refine (HER.out _ HB.out).mono ?_
  rintro e w11 ⟨rfl, hb⟩
  have HB := hidB (HB.out.trans (hb.mono HB.out.size))
  clear hb
  obtain ⟨b0, b1⟩ := SO.out _ HB.out
  go_wp2_with fail
  refine (HPR.out _ HB.out).mono ?_
  rintro e w12 ⟨rfl, hb⟩
  have HB := hidB (HB.out.trans (hb.mono HB.out.size))
  clear hb b0 b1
  go_wp2_with fail
  refine (HER.out _ HB.out).mono ?_
  rintro e w13 ⟨rfl, hb⟩
  have HB := hidB (HB.out.trans (hb.mono HB.out.size))
  clear hb
  go_wp2_with fail
  refine (HSD.out _ HB.out).mono ?_
  rintro e w14 ⟨rfl, hb⟩
  have HB := hidB (HB.out.trans (hb.mono HB.out.size))
  clear hb
  obtain ⟨F0, hF0⟩ : ∃ F0 : Int, F0 = (if sideB s = true then 0 else 1) := ⟨_, rfl⟩
  have HF0 := hidB hF0
  obtain ⟨SD, hSD⟩ : ∃ SD, sideB s = SD := ⟨_, rfl⟩
  rw [hSD] at HF0 HNO HJN ⊢
  clear hF0 hSD
  go_upto_if 113 with fail
  go_cut [25] from 113 to 113 (fun s25 wx => s25 = .int .i64 F0 ∧ wx = w14)
  case first =>
    cases SD
    · have e := HF0.out
      rw [if_neg (by decide)] at e
      subst e
      go_wp2_with fail
      go_meet
      case rel => exact ⟨rfl, rfl⟩
    · have e := HF0.out
      rw [if_pos rfl] at e
      subst e
      go_wp2_with fail
      go_meet
      case rel => exact ⟨rfl, rfl⟩
  case rest =>
  obtain ⟨rfl, rfl⟩ := hcut
  generalize wc = w15 at *
  have hrn := heap_alloc_new w15 (.cells #[.slice none 0 0, .slice none 0 0] 24)
  have hbn := (Below.refl _ w15).alloc (Nat.le_refl _) (.cells #[.slice none 0 0, .slice none 0 0] 24)
  go_upto_region 25 with fail
  generalize w15.alloc (.cells #[.slice none 0 0, .slice none 0 0] 24) = w16 at *
  obtain ⟨X27, hX⟩ : ∃ X27, X27 = w15.heap.size := ⟨_, rfl⟩
  rw [← hX] at hrn
  simp only [← hX]
  have HX27 := hidB (show V.heap.size ≤ X27 by rw [hX]; exact HB.out.size)
  have HR27 := hidB hrn
  have HB := hidB (HB.out.trans (hbn.mono HB.out.size))
  clear hrn hbn hX
  go_upto_if 115 with fail
  obtain ⟨A1, hA1⟩ : ∃ A1, (if PE = 0 then put1 bs s p ⟨r1, r2, r3, r4, r5⟩ else []) = A1 := ⟨_, rfl⟩
  obtain ⟨A2, hA2⟩ : ∃ A2, (if PE = 0 then put2 ss s p ⟨r1, r2, r3, r4, r5⟩ else []) = A2 := ⟨_, rfl⟩
  have HA := hidB (And.intro hA1 hA2)
  clear hA1 hA2
  go_cut [25] from 115 to 123 (fun s25 wx => s25 = .int .i64 PE ∧ ∃ j1 k1 l1 j2 k2 l2, wx.heap[X27]? = some (.cells #[.slice j1 k1 l1, .slice j2 k2 l2] 24 (0, 0)) ∧ Aside (Below V.heap.size V wx ∧ LS wx (.slice j1 k1 l1) A1 ∧ LS wx (.slice j2 k2 l2) A2))
  case first =>
    cases SD
    · have e := HF0.out
      rw [if_neg (by decide)] at e
      subst e
      have hp1 : PE = 1 := HNO.out rfl
      have HP1 := hidB hp1
      have HAN : Hid (A1 = [] ∧ A2 = []) := by
        obtain ⟨a, b⟩ := HA.out
        rw [hp1, if_neg (by decide)] at a b
        exact ⟨a.symm, b.symm⟩
      clear hp1
      go_wp2_with fail
      go_meet
      case rel => exact ⟨by rw [HP1.out], none, 0, 0, none, 0, 0, HR27.out, HB.out, by rw [HAN.out.1]; exact ls_nil _, by rw [HAN.out.2]; exact ls_nil _⟩
    · have e := HF0.out
      rw [if_pos rfl] at e
      subst e
      obtain ⟨b0, b1⟩ := SO.out _ HB.out
      obtain ⟨s0, s1, s2, s3, s4⟩ := SR.out _ HB.out
      go_wp2_with fail
      refine (HJN.out _ HB.out (by first | rfl | trivial)).mono ?_
      rintro e wj ⟨j1, j2, k1, k2, l1, l2, rfl, hz, hnz, hb⟩
      rw [HPE.out] at hz hnz ⊢
      have hrj := (hb.block X27 (Array.getElem?_eq_some_iff.1 HR27.out).1).trans HR27.out
      have HBJ := hidB (HB.out.trans (hb.mono HB.out.size))
      obtain ⟨x0, x1, xf⟩ := rowTwo hrj
      have xf0 := xf 0
      have xf1 := xf 1
      have HRJ := hidB hrj
      have HZN := hidB (And.intro hz hnz)
      clear hz hnz hb b0 b1 s0 s1 s2 s3 s4 xf hrj
      go_wp2_with fail
      go_meet
      case rel =>
        have hg := grTwo wj X27 (.slice j1 k1 l1) (.slice j2 k2 l2)
        refine ⟨rfl, j1, k1, l1, j2, k2, l2, setTwo HRJ.out _ _, HBJ.out.grown hg HBJ.out.size (fun k hk => by cases hk; exact HX27.out), ?_⟩
        obtain ⟨a, b⟩ := HA.out
        by_cases hp : PE = 0
        · rw [if_pos hp] at a b
          obtain ⟨z1, z2⟩ := HZN.out.1 hp
          obtain ⟨v1, v2⟩ := HPL.out hp
          exact ⟨by rw [← a]; exact ls_off z1 hg (two_no HRJ.out) v1, by rw [← b]; exact ls_off z2 hg (two_no HRJ.out) v2⟩
        · rw [if_neg hp] at a b
          obtain ⟨⟨rfl, rfl, rfl⟩, rfl, rfl, rfl⟩ := HZN.out.2 hp
          exact ⟨by rw [← a]; exact ls_nil _, by rw [← b]; exact ls_nil _⟩
  case rest =>
  obtain ⟨rfl, j1, k1, l1, j2, k2, l2, hr27, HAA⟩ := hcut
  have HR27 := hidB hr27
  have HB := hidB HAA.out.1
  have HLJ := hidB HAA.out.2
  clear hr27 HAA
  generalize wc = w17 at *
  generalize hEV : errV PE = EV at *
  have HEV := hidB hEV
  clear hEV
  obtain ⟨b0, b1⟩ := SO.out _ HB.out
  obtain ⟨s0, s1, s2, s3, s4⟩ := SR.out _ HB.out
  go_wp2_with fail
  refine (HPU.out _ HB.out).mono ?_
  rintro e w18 ⟨u1, u2, m1, m2, d1, d2, rfl, hl1, hl2, hb⟩
  have HB := hidB (HB.out.trans (hb.mono HB.out.size))
  have HR27 := hidB ((hb.block X27 (Array.getElem?_eq_some_iff.1 HR27.out).1).trans HR27.out)
  have HLJ := hidB (And.intro (HLJ.out.1.below hb) (HLJ.out.2.below hb))
  clear hb b0 b1 s0 s1 s2 s3 s4
  rw [HPE.out, HA.out.1] at hl1
  rw [HPE.out, HA.out.2] at hl2
  rw [HPE.out, HEV.out]
  have HLU := hidB (And.intro hl1 hl2)
  clear hl1 hl2
  have hrn := heap_alloc_new w18 (.cells #[.slice u1 m1 d1, .slice u2 m2 d2] 24)
  have hbn := (Below.refl _ w18).alloc (Nat.le_refl _) (.cells #[.slice u1 m1 d1, .slice u2 m2 d2] 24)
  go_upto_region 28 with fail
  generalize w18.alloc (.cells #[.slice u1 m1 d1, .slice u2 m2 d2] 24) = w19 at *
  obtain ⟨X28, hX⟩ : ∃ X28, X28 = w18.heap.size := ⟨_, rfl⟩
  rw [← hX] at hrn
  simp only [← hX]
  have HX28 := hidB (show V.heap.size ≤ X28 by rw [hX]; exact HB.out.size)
  have HR28 := hidB hrn
  have H27 := hidB (show X27 ≠ X28 by have h1 := (Array.getElem?_eq_some_iff.1 HR27.out).1; omega)
  have HB := hidB (HB.out.trans (hbn.mono HB.out.size))
  have HR27 := hidB ((hbn.block X27 (Array.getElem?_eq_some_iff.1 HR27.out).1).trans HR27.out)
  have HLU := hidB (And.intro (HLU.out.1.below hbn) (HLU.out.2.below hbn))
  have HLJ := hidB (And.intro (HLJ.out.1.below hbn) (HLJ.out.2.below hbn))
  clear hrn hbn hX
  go_wp2_with fail
  refine (HEP.out _ HB.out).mono ?_
  rintro e w20 ⟨rfl, hb⟩
  have HB := hidB (HB.out.trans (hb.mono HB.out.size))
  have HR27 := hidB ((hb.block X27 (Array.getElem?_eq_some_iff.1 HR27.out).1).trans HR27.out)
  have HR28 := hidB ((hb.block X28 (Array.getElem?_eq_some_iff.1 HR28.out).1).trans HR28.out)
  have HLU := hidB (And.intro (HLU.out.1.below hb) (HLU.out.2.below hb))
  have HLJ := hidB (And.intro (HLJ.out.1.below hb) (HLJ.out.2.below hb))
  clear hb
  obtain ⟨x0, x1, -⟩ := rowTwo HR27.out
  obtain ⟨y0, y1, -⟩ := rowTwo HR28.out
  go_wp2_with fail
  refine (book_same u1 u2 j1 j2 m1 m2 d1 d2 k1 k2 l1 l2 A1 A2 w20 HLU.out.1 HLU.out.2 HLJ.out.1 HLJ.out.2).mono ?_
  rintro e w21 ⟨rfl, hb⟩
  have HB := hidB (HB.out.trans (hb.mono HB.out.size))
  have HR27 := hidB ((hb.block X27 (Array.getElem?_eq_some_iff.1 HR27.out).1).trans HR27.out)
  have HR28 := hidB ((hb.block X28 (Array.getElem?_eq_some_iff.1 HR28.out).1).trans HR28.out)
  clear hb x0 x1 y0 y1 HLU HLJ
  obtain ⟨x0, x1, xf⟩ := rowTwo HR27.out
  have xf0 := xf 0
  have xf1 := xf 1
  clear xf
  have hrn := setTwo HR27.out (.slice none 0 0) (.slice none 0 0)
  have hgn := grTwo w21 X27 (.slice none 0 0) (.slice none 0 0)
  go_upto_region 31 with fail
  generalize (w21.setCell ⟨X27, 0, none⟩ (.slice none 0 0)).setCell ⟨X27, 1, none⟩ (.slice none 0 0) = w22 at *
  have HR28 := hidB ((hgn.block X28 (Array.getElem?_eq_some_iff.1 HR28.out).1 (fun e => H27.out (Option.some.inj e).symm)).trans HR28.out)
  have HR27 := hidB hrn
  have HB := hidB (HB.out.grown hgn HB.out.size (fun k hk => by cases hk; exact HX27.out))
  clear hrn hgn x0 x1 xf0 xf1
  have hrn := heap_alloc_new w22 (.cells #[.int .i64 0, .int .i64 0, .int .i64 0, .int .i64 0, .int .i64 0] 26)
  have hbn := (Below.refl _ w22).alloc (Nat.le_refl _) (.cells #[.int .i64 0, .int .i64 0, .int .i64 0, .int .i64 0, .int .i64 0] 26)
  go_upto_region 34 with fail
  generalize w22.alloc (.cells #[.int .i64 0, .int .i64 0, .int .i64 0, .int .i64 0, .int .i64 0] 26) = w23 at *
  obtain ⟨X33, hX⟩ : ∃ X33, X33 = w22.heap.size := ⟨_, rfl⟩
  rw [← hX] at hrn
  simp only [← hX]
  have HX33 := hidB (show V.heap.size ≤ X33 by rw [hX]; exact HB.out.size)
  have HR33 := hidB hrn
  have H33 := hidB (show X33 ≠ X28 by have h1 := (Array.getElem?_eq_some_iff.1 HR28.out).1; omega)
  have HX3 := hidB (show X27 ≠ X33 by have h1 := (Array.getElem?_eq_some_iff.1 HR27.out).1; omega)
  have HB := hidB (HB.out.trans (hbn.mono HB.out.size))
  have HR27 := hidB ((hbn.block X27 (Array.getElem?_eq_some_iff.1 HR27.out).1).trans HR27.out)
  have HR28 := hidB ((hbn.block X28 (Array.getElem?_eq_some_iff.1 HR28.out).1).trans HR28.out)
  clear hrn hbn hX
  obtain ⟨b0, b1⟩ := SO.out _ HB.out
  go_wp2_with fail
  refine (HFN.out _ HB.out).mono ?_
  rintro e w24 ⟨rfl, hb⟩
  have HB := hidB (HB.out.trans (hb.mono HB.out.size))
  have HR27 := hidB ((hb.block X27 (Array.getElem?_eq_some_iff.1 HR27.out).1).trans HR27.out)
  have HR28 := hidB ((hb.block X28 (Array.getElem?_eq_some_iff.1 HR28.out).1).trans HR28.out)
  have HR33 := hidB ((hb.block X33 (Array.getElem?_eq_some_iff.1 HR33.out).1).trans HR33.out)
  clear hb b0 b1
  have HID := hidB hid
  clear hid
  have H37 := hidB (show X27 ≠ X33 from HX3.out)
  rcases at_find (id := id) HE12.out.1 with ⟨hf0, hat, hge⟩ | ⟨hf1, hlt1⟩
  · skip
    obtain ⟨-, i, k, hi, hk, -, hfp⟩ := find_spot hf0
    obtain ⟨⟨z1, z2, z3, z4, z5⟩, hz⟩ : ∃ r, bs[i].rests[k] = r := ⟨_, rfl⟩
    obtain ⟨pr, hpr⟩ : ∃ pr, bs[i].price = pr := ⟨_, rfl⟩
    have hfv : findV 1 bs id = .tuple #[.int .i64 i, .int .i64 k, .nilIface] := by unfold findV; rw [hfp, hf0]; rfl
    have HOF : Hid (∀ W, Calls Tryz.prog 17 #[.agg #[.slice q1 n1 c1, .slice q2 n2 c2], .int .i64 1] W fun e w' => e = .returned (.slice q1 n1 c1) ∧ Below W.heap.size W w') := fun W => rof_any 1 q1 q2 n1 n2 c1 c2 W
    have HOU : Hid (∀ W, Below V.heap.size V W → Calls Tryz.prog 19 #[.slice q1 n1 c1, .int .i64 i, .int .i64 k] W fun e w' => ∃ oq on oc, e = .returned (.slice oq on oc) ∧ LS w' (.slice oq on oc) (dropL bs i k) ∧ Below V.heap.size V w') := fun W hW => by
      refine (rout_good 1 _ bs i k W (HLV.out W hW).1 HE12.out.1 hi hk).mono ?_
      rintro e w' ⟨v', rfl, hl, hb⟩
      obtain ⟨oq, on, oc, rfl⟩ := ls_form hl
      exact ⟨oq, on, oc, rfl, hl, hW.trans (hb.mono hW.size)⟩
    have HWI : Hid (∀ W oq on oc, Below V.heap.size V W → Calls Tryz.prog 18 #[.agg #[.slice q1 n1 c1, .slice q2 n2 c2], .int .i64 1, .slice oq on oc] W fun e w' => e = .returned (.agg #[.slice oq on oc, .slice q2 n2 c2]) ∧ Below V.heap.size V w' ∧ Below W.heap.size W w') := fun W oq on oc hW => (rwith_any 1 q1 q2 oq n1 n2 on c1 c2 oc W).mono fun _ _ h => ⟨h.1, hW.trans (h.2.mono hW.size), h.2⟩
    have HCA : Hid (∀ W, Below V.heap.size V W → Calls Tryz.prog 20 #[.agg #[.slice q1 n1 c1, .slice q2 n2 c2], .int .i64 id] W fun e w' => ∃ u1 u2 m1 m2 d1 d2, e = .returned (.tuple #[.agg #[.slice u1 m1 d1, .slice u2 m2 d2], .agg #[.int .i64 z1, .int .i64 z2, .int .i64 z3, .int .i64 z4, .int .i64 z5], .nilIface]) ∧ DL w' W.heap.size (.slice u1 m1 d1) (dropL bs i k) ∧ DL w' W.heap.size (.slice u2 m2 d2) ss ∧ Below W.heap.size W w') := fun W hW => by
      have := cancel_in1D q1 q2 n1 n2 c1 c2 bs ss id HID.out i k W (HLV.out W hW).1 (HLV.out W hW).2.1 H0.out hi hk hf0 hfp
      rw [hz] at this
      exact this
    have HFI : Hid (∀ W, Below V.heap.size V W → Calls Tryz.prog 21 #[.agg #[.slice q1 n1 c1, .slice q2 n2 c2], .int .i64 id] W fun e w' => e = .returned (.tuple #[.int .i64 1, .int .i64 pr, .agg #[.int .i64 z1, .int .i64 z2, .int .i64 z3, .int .i64 z4, .int .i64 z5], .nilIface]) ∧ Below W.heap.size W w') := fun W hW => by
      have := find_in1 q1 q2 n1 n2 c1 c2 bs ss id HID.out i k W (HLV.out W hW).1 (HLV.out W hW).2.1 H0.out hi hk hfv
      rw [hz, hpr] at this
      exact this
    have HDV : Hid (∀ l ∈ dropL bs i k, lchk l = 0) := drop_lv HLW.out.1 hi hk
    obtain ⟨pb, po, rb, ro, rc, hq, -, p0, p1, -, hli⟩ := ls_at (HLV.out V (Below.refl _ _)).1 (fun l h => (lchk_zero (HLW.out.1 l h)).2.1) hi
    subst hq
    rw [getE _ _ hi] at p0 p1 hli
    rw [hpr] at p0
    obtain ⟨l0, l1, l2, l3, l4⟩ := lies_at hli hk ((getE _ _ hk).trans hz)
    obtain ⟨rn, hrn0⟩ : ∃ rn, bs[i].rests.length = rn := ⟨_, rfl⟩
    rw [hrn0] at p1
    have hkr : k < rn := by rw [← hrn0]; exact hk
    have hin : i < n1 := by rw [ls_len (HLV.out V (Below.refl _ _)).1]; exact hi
    have HCL := hidB (And.intro p0 (And.intro p1 (And.intro l0 (And.intro l1 (And.intro l2 (And.intro l3 l4))))))
    have hrf : rfindP bs ss id = (1, (i : Int), (k : Int)) := by
      unfold rfindP
      rw [if_pos hge, hat, hfp]
    rw [hrf]
    simp only
    clear p0 p1 l0 l1 l2 l3 l4 hli hrf hfp hfv hat hge hz hpr hrn0
    have hinz : (i : Int) < (n1 : Int) := by omega
    have hi0 : ¬ ((i : Int) < 0) := by omega
    have hkz : (k : Int) < (rn : Int) := by omega
    have hk0 : ¬ ((k : Int) < 0) := by omega
    obtain ⟨b0, b1⟩ := SO.out _ HB.out
    go_wp2_with fail
    refine (HOF.out _).mono ?_
    rintro e w25 ⟨rfl, hb⟩
    have HB := hidB (HB.out.trans (hb.mono HB.out.size))
    have HR27 := hidB ((hb.block X27 (Array.getElem?_eq_some_iff.1 HR27.out).1).trans HR27.out)
    have HR28 := hidB ((hb.block X28 (Array.getElem?_eq_some_iff.1 HR28.out).1).trans HR28.out)
    have HR33 := hidB ((hb.block X33 (Array.getElem?_eq_some_iff.1 HR33.out).1).trans HR33.out)
    clear hb b0 b1
    obtain ⟨p0, p1, l0, l1, l2, l3, l4⟩ := HCL.out
    have p0 := keeps HB.out p0
    have p1 := keeps HB.out p1
    have l0 := keeps HB.out l0
    have l1 := keeps HB.out l1
    have l2 := keeps HB.out l2
    have l3 := keeps HB.out l3
    have l4 := keeps HB.out l4
    obtain ⟨x0, x1, x2, x3, x4, xf⟩ := rowFive HR33.out
    have xf0 := xf 0
    have xf1 := xf 1
    have xf2 := xf 2
    have xf3 := xf 3
    have xf4 := xf 4
    clear xf
    go_upto_region 42 with fail
    have hrn := setFive HR33.out (.int .i64 z1) (.int .i64 z2) (.int .i64 z3) (.int .i64 z4) (.int .i64 z5)
    have hgn := grFive w25 X33 (.int .i64 z1) (.int .i64 z2) (.int .i64 z3) (.int .i64 z4) (.int .i64 z5)
    generalize (((((w25.setCell ⟨X33, 0, none⟩ (.int .i64 z1)).setCell ⟨X33, 1, none⟩ (.int .i64 z2)).setCell ⟨X33, 2, none⟩ (.int .i64 z3)).setCell ⟨X33, 3, none⟩ (.int .i64 z4)).setCell ⟨X33, 4, none⟩ (.int .i64 z5)) = w26 at *
    have HR27 := hidB ((hgn.block X27 (Array.getElem?_eq_some_iff.1 HR27.out).1 (fun e => H37.out (Option.some.inj e))).trans HR27.out)
    have HR28 := hidB ((hgn.block X28 (Array.getElem?_eq_some_iff.1 HR28.out).1 (fun e => H33.out (Option.some.inj e).symm)).trans HR28.out)
    have HR33 := hidB hrn
    have HB := hidB (HB.out.grown hgn HB.out.size (fun k hk => by cases hk; exact HX33.out))
    clear p0 p1 l0 l1 l2 l3 l4 x0 x1 x2 x3 x4 xf0 xf1 xf2 xf3 xf4 hrn hgn
    have SD2 : Hid (∀ W, Below w26.heap.size w26 W → W.cell? ⟨P5, 0, none⟩ = some (.slice (some ⟨pb, po, none⟩) n1 c1) ∧ W.cell? ⟨P5, 1, none⟩ = some (.slice q2 n2 c2) ∧ Below V.heap.size V W) := fun W hW => by
      have hh := HB.out.trans (hW.mono HB.out.size)
      exact ⟨(SO.out W hh).1, (SO.out W hh).2, hh⟩
    have HOU2 : Hid (∀ W, Below w26.heap.size w26 W → Calls Tryz.prog 19 #[.slice (some ⟨pb, po, none⟩) n1 c1, .int .i64 i, .int .i64 k] W fun e w' => ∃ oq on oc, e = .returned (.slice oq on oc) ∧ LS w' (.slice oq on oc) (dropL bs i k) ∧ Below w26.heap.size w26 w') := fun W hW => by
      refine (rout_good 1 _ bs i k W (HLV.out W (SD2.out W hW).2.2).1 HE12.out.1 hi hk).mono ?_
      rintro e w' ⟨v', rfl, hl, hb⟩
      obtain ⟨oq, on, oc, rfl⟩ := ls_form hl
      exact ⟨oq, on, oc, rfl, hl, hW.trans (hb.mono hW.size)⟩
    have HWI2 : Hid (∀ W oq on oc, Below w26.heap.size w26 W → Calls Tryz.prog 18 #[.agg #[.slice (some ⟨pb, po, none⟩) n1 c1, .slice q2 n2 c2], .int .i64 1, .slice oq on oc] W fun e w' => e = .returned (.agg #[.slice oq on oc, .slice q2 n2 c2]) ∧ Below w26.heap.size w26 w' ∧ Below W.heap.size W w') := fun W oq on oc hW => (HWI.out W oq on oc (SD2.out W hW).2.2).mono fun _ _ h => ⟨h.1, hW.trans (h.2.2.mono hW.size), h.2.2⟩
    have HROW : Hid (∀ W, Below w26.heap.size w26 W → W.heap[X27]? = some (.cells #[.slice none 0 0, .slice none 0 0] 24 (0, 0))) := fun W hW => (hW.block X27 (Array.getElem?_eq_some_iff.1 HR27.out).1).trans HR27.out
    have HFIN : Hid (∀ w8 oq on oc, Below w26.heap.size w26 w8 → LS w8 (.slice oq on oc) (dropL bs i k) → ((w8.setCell ⟨X27, 0, none⟩ (.slice oq on oc)).setCell ⟨X27, 1, none⟩ (.slice q2 n2 c2)).heap[X27]? = some (.cells #[.slice oq on oc, .slice q2 n2 c2] 24 (0, 0)) ∧ Aside (Below V.heap.size V ((w8.setCell ⟨X27, 0, none⟩ (.slice oq on oc)).setCell ⟨X27, 1, none⟩ (.slice q2 n2 c2)) ∧ LS ((w8.setCell ⟨X27, 0, none⟩ (.slice oq on oc)).setCell ⟨X27, 1, none⟩ (.slice q2 n2 c2)) (.slice oq on oc) (dropL bs i k) ∧ ((w8.setCell ⟨X27, 0, none⟩ (.slice oq on oc)).setCell ⟨X27, 1, none⟩ (.slice q2 n2 c2)).heap[X28]? = w26.heap[X28]? ∧ ((w8.setCell ⟨X27, 0, none⟩ (.slice oq on oc)).setCell ⟨X27, 1, none⟩ (.slice q2 n2 c2)).heap[X33]? = w26.heap[X33]?)) := fun w8 oq on oc hb8 hl8 => by
      have hr8 := HROW.out w8 hb8
      have hg := grTwo w8 X27 (.slice oq on oc) (.slice q2 n2 c2)
      have h28 : X28 < w26.heap.size := (Array.getElem?_eq_some_iff.1 HR28.out).1
      have h33 : X33 < w26.heap.size := (Array.getElem?_eq_some_iff.1 HR33.out).1
      have hBV := (SD2.out w8 hb8).2.2
      refine ⟨setTwo hr8 _ _, hBV.grown hg hBV.size (fun k hk => by cases hk; exact HX27.out), ls_off hl8 hg (two_no hr8) HDV.out, ?_, ?_⟩
      · rw [hg.block X28 (Nat.lt_of_lt_of_le h28 hb8.size) (fun e => H27.out (Option.some.inj e).symm), hb8.block X28 h28]
      · rw [hg.block X33 (Nat.lt_of_lt_of_le h33 hb8.size) (fun e => H37.out (Option.some.inj e).symm), hb8.block X33 h33]
    obtain ⟨b0, b1, -⟩ := SD2.out _ (Below.refl _ _)
    go_cut [31] from 167 to 173 (fun s31 wx => s31 = .int .i64 1 ∧ ∃ oq on oc, wx.heap[X27]? = some (.cells #[.slice oq on oc, .slice q2 n2 c2] 24 (0, 0)) ∧ Aside (Below V.heap.size V wx ∧ LS wx (.slice oq on oc) (dropL bs i k) ∧ wx.heap[X28]? = w26.heap[X28]? ∧ wx.heap[X33]? = w26.heap[X33]?))
    case first =>
      go_region_law (go_simp; go_wp2_with (first | (go_at_call 19; with_reducible refine (HOU2.out _ ?_).mono ?_; (repeat' (first | with_reducible assumption | with_reducible refine Below.drew ?_ | with_reducible exact Below.refl _ _ | with_reducible exact Nat.le_refl _)); rintro x Wo ⟨oq, on, oc, rfl, hlo, hbo⟩; have so0 := (SD2.out Wo hbo).1; have so1 := (SD2.out Wo hbo).2.1) | (go_at_call 18; with_reducible refine (HWI2.out _ _ _ _ ?_).mono ?_; (repeat' (first | with_reducible assumption | with_reducible refine Below.drew ?_ | with_reducible exact Below.refl _ _ | with_reducible exact Nat.le_refl _)); rintro x w8 ⟨rfl, hb8, hbu⟩; obtain ⟨p0', p1', pf⟩ := rowTwo (HROW.out w8 hb8); have pf0 := pf 0; have pf1 := pf 1)))
      all_goals go_wp2_with fail
      all_goals go_meet
      all_goals exact ⟨rfl, oq, on, oc, HFIN.out w8 oq on oc hb8 (hlo.below hbu)⟩
    case rest =>
    obtain ⟨rfl, oq, on, oc, hrc, HAA⟩ := hcut
    have HR28 := hidB (HAA.out.2.2.1.trans HR28.out)
    have HR33 := hidB (HAA.out.2.2.2.trans HR33.out)
    have HR27 := hidB hrc
    have HB := hidB HAA.out.1
    have HLO := hidB HAA.out.2.1
    clear HAA hrc HFIN HROW HWI2 HOU2 SD2 HWI HOU HOF b0 b1
    generalize wc = w27 at *
    have HX28W := hidB (show X28 < w27.heap.size from (Array.getElem?_eq_some_iff.1 HR28.out).1)
    obtain ⟨b0, b1⟩ := SO.out _ HB.out
    go_wp2_with fail
    refine (HCA.out _ HB.out).mono ?_
    rintro e w28 ⟨u1, u2, m1, m2, d1, d2, rfl, hd1, hd2, hb⟩
    have HB := hidB (HB.out.trans (hb.mono HB.out.size))
    have HR27 := hidB ((hb.block X27 (Array.getElem?_eq_some_iff.1 HR27.out).1).trans HR27.out)
    have HR28 := hidB ((hb.block X28 (Array.getElem?_eq_some_iff.1 HR28.out).1).trans HR28.out)
    have HR33 := hidB ((hb.block X33 (Array.getElem?_eq_some_iff.1 HR33.out).1).trans HR33.out)
    have HLO := hidB (HLO.out.below hb)
    clear hb b0 b1
    have HDD := hidB (And.intro hd1 hd2)
    have H28W := hidB (show X28 < w27.heap.size from HX28W.out)
    have HRO := hidB HR28.out
    clear hd1 hd2
    obtain ⟨x0, x1, xf⟩ := rowTwo HR28.out
    have xf0 := xf 0
    have xf1 := xf 1
    clear xf
    have hx28 : X28 < w28.heap.size := (Array.getElem?_eq_some_iff.1 HR28.out).1
    have hrn := setTwo HR28.out (.slice u1 m1 d1) (.slice u2 m2 d2)
    have hgn := grTwo w28 X28 (.slice u1 m1 d1) (.slice u2 m2 d2)
    have hsz : ((w28.setCell ⟨X28, 0, none⟩ (.slice u1 m1 d1)).setCell ⟨X28, 1, none⟩ (.slice u2 m2 d2)).heap.size = w28.heap.size := by simp [World.setCell]
    go_upto_region 44 with fail
    generalize (w28.setCell ⟨X28, 0, none⟩ (.slice u1 m1 d1)).setCell ⟨X28, 1, none⟩ (.slice u2 m2 d2) = w29 at *
    have hra := heap_alloc_new w29 (.cells #[.int .i64 z1, .int .i64 z2, .int .i64 z3, .int .i64 z4, .int .i64 z5] 26)
    have hba := (Below.refl _ w29).alloc (Nat.le_refl _) (.cells #[.int .i64 z1, .int .i64 z2, .int .i64 z3, .int .i64 z4, .int .i64 z5] 26)
    generalize w29.alloc (.cells #[.int .i64 z1, .int .i64 z2, .int .i64 z3, .int .i64 z4, .int .i64 z5] 26) = w30 at *
    obtain ⟨X38, hX⟩ : ∃ X38, X38 = w28.heap.size := ⟨_, rfl⟩
    rw [hsz, ← hX] at hra
    simp only [← hX]
    have HR27 := hidB ((hba.block X27 (Nat.lt_of_lt_of_le (Array.getElem?_eq_some_iff.1 HR27.out).1 hgn.size)).trans ((hgn.block X27 (Array.getElem?_eq_some_iff.1 HR27.out).1 (fun e => H27.out (Option.some.inj e))).trans HR27.out))
    have HR33 := hidB ((hba.block X33 (Nat.lt_of_lt_of_le (Array.getElem?_eq_some_iff.1 HR33.out).1 hgn.size)).trans ((hgn.block X33 (Array.getElem?_eq_some_iff.1 HR33.out).1 (fun e => H33.out (Option.some.inj e))).trans HR33.out))
    have HR28 := hidB ((hba.block X28 (Array.getElem?_eq_some_iff.1 hrn).1).trans hrn)
    have HR38 := hidB hra
    have HDD := hidB (And.intro ((HDD.out.1.other hgn H28W.out).below hba) ((HDD.out.2.other hgn H28W.out).below hba))
    have HLO := hidB ((ls_off HLO.out hgn (two_no HRO.out) HDV.out).below hba)
    have HB := hidB ((HB.out.grown hgn HB.out.size (fun k hk => by cases hk; exact HX28.out)).trans (hba.mono (Nat.le_trans HB.out.size hgn.size)))
    clear hrn hgn hsz hra hba hX x0 x1 xf0 xf1 hx28
    go_wp2_with fail
    refine (HER.out _ HB.out).mono ?_
    rintro e w31 ⟨rfl, hb⟩
    have HB := hidB (HB.out.trans (hb.mono HB.out.size))
    have HR27 := hidB ((hb.block X27 (Array.getElem?_eq_some_iff.1 HR27.out).1).trans HR27.out)
    have HR28 := hidB ((hb.block X28 (Array.getElem?_eq_some_iff.1 HR28.out).1).trans HR28.out)
    have HR33 := hidB ((hb.block X33 (Array.getElem?_eq_some_iff.1 HR33.out).1).trans HR33.out)
    have HR38 := hidB ((hb.block X38 (Array.getElem?_eq_some_iff.1 HR38.out).1).trans HR38.out)
    have HDD := hidB (And.intro (HDD.out.1.below hb) (HDD.out.2.below hb))
    have HLO := hidB (HLO.out.below hb)
    clear hb
    obtain ⟨x0, x1, -⟩ := rowTwo HR27.out
    obtain ⟨y0, y1, -⟩ := rowTwo HR28.out
    go_wp2_with fail
    refine (book_same u1 u2 oq q2 m1 m2 d1 d2 on n2 oc c2 (dropL bs i k) ss w31 HDD.out.1.ls HDD.out.2.ls HLO.out (HLV.out _ HB.out).2.1).mono ?_
    rintro e w32 ⟨rfl, hb⟩
    have HB := hidB (HB.out.trans (hb.mono HB.out.size))
    have HR27 := hidB ((hb.block X27 (Array.getElem?_eq_some_iff.1 HR27.out).1).trans HR27.out)
    have HR28 := hidB ((hb.block X28 (Array.getElem?_eq_some_iff.1 HR28.out).1).trans HR28.out)
    have HR33 := hidB ((hb.block X33 (Array.getElem?_eq_some_iff.1 HR33.out).1).trans HR33.out)
    have HR38 := hidB ((hb.block X38 (Array.getElem?_eq_some_iff.1 HR38.out).1).trans HR38.out)
    clear hb x0 x1 y0 y1 HDD HLO
    obtain ⟨b0, b1⟩ := SO.out _ HB.out
    go_wp2_with fail
    refine (HFI.out _ HB.out).mono ?_
    rintro e w33 ⟨rfl, hb⟩
    have HB := hidB (HB.out.trans (hb.mono HB.out.size))
    have HR27 := hidB ((hb.block X27 (Array.getElem?_eq_some_iff.1 HR27.out).1).trans HR27.out)
    have HR28 := hidB ((hb.block X28 (Array.getElem?_eq_some_iff.1 HR28.out).1).trans HR28.out)
    have HR33 := hidB ((hb.block X33 (Array.getElem?_eq_some_iff.1 HR33.out).1).trans HR33.out)
    have HR38 := hidB ((hb.block X38 (Array.getElem?_eq_some_iff.1 HR38.out).1).trans HR38.out)
    clear hb b0 b1
    have hrn := heap_alloc_new w33 (.cells #[.int .i64 z1, .int .i64 z2, .int .i64 z3, .int .i64 z4, .int .i64 z5] 26)
    have hbn := (Below.refl _ w33).alloc (Nat.le_refl _) (.cells #[.int .i64 z1, .int .i64 z2, .int .i64 z3, .int .i64 z4, .int .i64 z5] 26)
    go_upto_region 47 with fail
    generalize w33.alloc (.cells #[.int .i64 z1, .int .i64 z2, .int .i64 z3, .int .i64 z4, .int .i64 z5] 26) = w34 at *
    obtain ⟨X43, hX⟩ : ∃ X43, X43 = w33.heap.size := ⟨_, rfl⟩
    rw [← hX] at hrn
    simp only [← hX]
    have HX43 := hidB (show V.heap.size ≤ X43 by rw [hX]; exact HB.out.size)
    have HR43 := hidB hrn
    have HB := hidB (HB.out.trans (hbn.mono HB.out.size))
    have HR27 := hidB ((hbn.block X27 (Array.getElem?_eq_some_iff.1 HR27.out).1).trans HR27.out)
    have HR28 := hidB ((hbn.block X28 (Array.getElem?_eq_some_iff.1 HR28.out).1).trans HR28.out)
    have HR33 := hidB ((hbn.block X33 (Array.getElem?_eq_some_iff.1 HR33.out).1).trans HR33.out)
    have HR38 := hidB ((hbn.block X38 (Array.getElem?_eq_some_iff.1 HR38.out).1).trans HR38.out)
    clear hrn hbn hX
    go_wp2_with fail
    refine (HER.out _ HB.out).mono ?_
    rintro e w35 ⟨rfl, hb⟩
    have HB := hidB (HB.out.trans (hb.mono HB.out.size))
    have HR27 := hidB ((hb.block X27 (Array.getElem?_eq_some_iff.1 HR27.out).1).trans HR27.out)
    have HR28 := hidB ((hb.block X28 (Array.getElem?_eq_some_iff.1 HR28.out).1).trans HR28.out)
    have HR33 := hidB ((hb.block X33 (Array.getElem?_eq_some_iff.1 HR33.out).1).trans HR33.out)
    have HR38 := hidB ((hb.block X38 (Array.getElem?_eq_some_iff.1 HR38.out).1).trans HR38.out)
    have HR43 := hidB ((hb.block X43 (Array.getElem?_eq_some_iff.1 HR43.out).1).trans HR43.out)
    obtain ⟨x0, x1, x2, x3, x4, -⟩ := rowFive HR38.out
    obtain ⟨y0, y1, y2, y3, y4, -⟩ := rowFive HR33.out
    obtain ⟨z0, z1, z2, z3, z4, -⟩ := rowFive HR43.out
    have HF := hidB (HV0.out.trans (HB.out.mono HV0.out.size))
    clear hb
    go_wp2_with fail
    go_ret
    exact ⟨rfl, HF.out⟩
  · rcases at_find (id := id) HE12.out.2 with ⟨hf0, hat, hge⟩ | ⟨hf2, hlt2⟩
    · skip
      obtain ⟨-, i, k, hi, hk, -, hfp⟩ := find_spot hf0
      obtain ⟨⟨z1, z2, z3, z4, z5⟩, hz⟩ : ∃ r, ss[i].rests[k] = r := ⟨_, rfl⟩
      obtain ⟨pr, hpr⟩ : ∃ pr, ss[i].price = pr := ⟨_, rfl⟩
      have hfv : findV 2 ss id = .tuple #[.int .i64 i, .int .i64 k, .nilIface] := by unfold findV; rw [hfp, hf0]; rfl
      have HOF : Hid (∀ W, Calls Tryz.prog 17 #[.agg #[.slice q1 n1 c1, .slice q2 n2 c2], .int .i64 2] W fun e w' => e = .returned (.slice q2 n2 c2) ∧ Below W.heap.size W w') := fun W => rof_any 2 q1 q2 n1 n2 c1 c2 W
      have HOU : Hid (∀ W, Below V.heap.size V W → Calls Tryz.prog 19 #[.slice q2 n2 c2, .int .i64 i, .int .i64 k] W fun e w' => ∃ oq on oc, e = .returned (.slice oq on oc) ∧ LS w' (.slice oq on oc) (dropL ss i k) ∧ Below V.heap.size V w') := fun W hW => by
        refine (rout_good 2 _ ss i k W (HLV.out W hW).2.1 HE12.out.2 hi hk).mono ?_
        rintro e w' ⟨v', rfl, hl, hb⟩
        obtain ⟨oq, on, oc, rfl⟩ := ls_form hl
        exact ⟨oq, on, oc, rfl, hl, hW.trans (hb.mono hW.size)⟩
      have HWI : Hid (∀ W oq on oc, Below V.heap.size V W → Calls Tryz.prog 18 #[.agg #[.slice q1 n1 c1, .slice q2 n2 c2], .int .i64 2, .slice oq on oc] W fun e w' => e = .returned (.agg #[.slice q1 n1 c1, .slice oq on oc]) ∧ Below V.heap.size V w' ∧ Below W.heap.size W w') := fun W oq on oc hW => (rwith_any 2 q1 q2 oq n1 n2 on c1 c2 oc W).mono fun _ _ h => ⟨h.1, hW.trans (h.2.mono hW.size), h.2⟩
      have HCA : Hid (∀ W, Below V.heap.size V W → Calls Tryz.prog 20 #[.agg #[.slice q1 n1 c1, .slice q2 n2 c2], .int .i64 id] W fun e w' => ∃ u1 u2 m1 m2 d1 d2, e = .returned (.tuple #[.agg #[.slice u1 m1 d1, .slice u2 m2 d2], .agg #[.int .i64 z1, .int .i64 z2, .int .i64 z3, .int .i64 z4, .int .i64 z5], .nilIface]) ∧ DL w' W.heap.size (.slice u1 m1 d1) bs ∧ DL w' W.heap.size (.slice u2 m2 d2) (dropL ss i k) ∧ Below W.heap.size W w') := fun W hW => by
        have := cancel_in2D q1 q2 n1 n2 c1 c2 bs ss id HID.out i k W (HLV.out W hW).1 (HLV.out W hW).2.1 H0.out hf1 hi hk hf0 hfp
        rw [hz] at this
        exact this
      have HFI : Hid (∀ W, Below V.heap.size V W → Calls Tryz.prog 21 #[.agg #[.slice q1 n1 c1, .slice q2 n2 c2], .int .i64 id] W fun e w' => e = .returned (.tuple #[.int .i64 2, .int .i64 pr, .agg #[.int .i64 z1, .int .i64 z2, .int .i64 z3, .int .i64 z4, .int .i64 z5], .nilIface]) ∧ Below W.heap.size W w') := fun W hW => by
        have := find_in2 q1 q2 n1 n2 c1 c2 bs ss id HID.out i k W (HLV.out W hW).1 (HLV.out W hW).2.1 H0.out hf1 hi hk hfv
        rw [hz, hpr] at this
        exact this
      have HDV : Hid (∀ l ∈ dropL ss i k, lchk l = 0) := drop_lv HLW.out.2 hi hk
      obtain ⟨pb, po, rb, ro, rc, hq, -, p0, p1, -, hli⟩ := ls_at (HLV.out V (Below.refl _ _)).2.1 (fun l h => (lchk_zero (HLW.out.2 l h)).2.1) hi
      subst hq
      rw [getE _ _ hi] at p0 p1 hli
      rw [hpr] at p0
      obtain ⟨l0, l1, l2, l3, l4⟩ := lies_at hli hk ((getE _ _ hk).trans hz)
      obtain ⟨rn, hrn0⟩ : ∃ rn, ss[i].rests.length = rn := ⟨_, rfl⟩
      rw [hrn0] at p1
      have hkr : k < rn := by rw [← hrn0]; exact hk
      have hin : i < n2 := by rw [ls_len (HLV.out V (Below.refl _ _)).2.1]; exact hi
      have HCL := hidB (And.intro p0 (And.intro p1 (And.intro l0 (And.intro l1 (And.intro l2 (And.intro l3 l4))))))
      have hrf : rfindP bs ss id = (2, (i : Int), (k : Int)) := by
        unfold rfindP
        rw [if_neg (by omega), if_pos hge, hat, hfp]
      rw [hrf]
      simp only
      clear p0 p1 l0 l1 l2 l3 l4 hli hrf hfp hfv hat hge hz hpr hrn0 hlt1
      have hinz : (i : Int) < (n2 : Int) := by omega
      have hi0 : ¬ ((i : Int) < 0) := by omega
      have hkz : (k : Int) < (rn : Int) := by omega
      have hk0 : ¬ ((k : Int) < 0) := by omega
      obtain ⟨b0, b1⟩ := SO.out _ HB.out
      go_wp2_with fail
      refine (HOF.out _).mono ?_
      rintro e w25 ⟨rfl, hb⟩
      have HB := hidB (HB.out.trans (hb.mono HB.out.size))
      have HR27 := hidB ((hb.block X27 (Array.getElem?_eq_some_iff.1 HR27.out).1).trans HR27.out)
      have HR28 := hidB ((hb.block X28 (Array.getElem?_eq_some_iff.1 HR28.out).1).trans HR28.out)
      have HR33 := hidB ((hb.block X33 (Array.getElem?_eq_some_iff.1 HR33.out).1).trans HR33.out)
      clear hb b0 b1
      obtain ⟨p0, p1, l0, l1, l2, l3, l4⟩ := HCL.out
      have p0 := keeps HB.out p0
      have p1 := keeps HB.out p1
      have l0 := keeps HB.out l0
      have l1 := keeps HB.out l1
      have l2 := keeps HB.out l2
      have l3 := keeps HB.out l3
      have l4 := keeps HB.out l4
      obtain ⟨x0, x1, x2, x3, x4, xf⟩ := rowFive HR33.out
      have xf0 := xf 0
      have xf1 := xf 1
      have xf2 := xf 2
      have xf3 := xf 3
      have xf4 := xf 4
      clear xf
      go_upto_region 42 with fail
      have hrn := setFive HR33.out (.int .i64 z1) (.int .i64 z2) (.int .i64 z3) (.int .i64 z4) (.int .i64 z5)
      have hgn := grFive w25 X33 (.int .i64 z1) (.int .i64 z2) (.int .i64 z3) (.int .i64 z4) (.int .i64 z5)
      generalize (((((w25.setCell ⟨X33, 0, none⟩ (.int .i64 z1)).setCell ⟨X33, 1, none⟩ (.int .i64 z2)).setCell ⟨X33, 2, none⟩ (.int .i64 z3)).setCell ⟨X33, 3, none⟩ (.int .i64 z4)).setCell ⟨X33, 4, none⟩ (.int .i64 z5)) = w26 at *
      have HR27 := hidB ((hgn.block X27 (Array.getElem?_eq_some_iff.1 HR27.out).1 (fun e => H37.out (Option.some.inj e))).trans HR27.out)
      have HR28 := hidB ((hgn.block X28 (Array.getElem?_eq_some_iff.1 HR28.out).1 (fun e => H33.out (Option.some.inj e).symm)).trans HR28.out)
      have HR33 := hidB hrn
      have HB := hidB (HB.out.grown hgn HB.out.size (fun k hk => by cases hk; exact HX33.out))
      clear p0 p1 l0 l1 l2 l3 l4 x0 x1 x2 x3 x4 xf0 xf1 xf2 xf3 xf4 hrn hgn
      have SD2 : Hid (∀ W, Below w26.heap.size w26 W → W.cell? ⟨P5, 0, none⟩ = some (.slice q1 n1 c1) ∧ W.cell? ⟨P5, 1, none⟩ = some (.slice (some ⟨pb, po, none⟩) n2 c2) ∧ Below V.heap.size V W) := fun W hW => by
        have hh := HB.out.trans (hW.mono HB.out.size)
        exact ⟨(SO.out W hh).1, (SO.out W hh).2, hh⟩
      have HOU2 : Hid (∀ W, Below w26.heap.size w26 W → Calls Tryz.prog 19 #[.slice (some ⟨pb, po, none⟩) n2 c2, .int .i64 i, .int .i64 k] W fun e w' => ∃ oq on oc, e = .returned (.slice oq on oc) ∧ LS w' (.slice oq on oc) (dropL ss i k) ∧ Below w26.heap.size w26 w') := fun W hW => by
        refine (rout_good 2 _ ss i k W (HLV.out W (SD2.out W hW).2.2).2.1 HE12.out.2 hi hk).mono ?_
        rintro e w' ⟨v', rfl, hl, hb⟩
        obtain ⟨oq, on, oc, rfl⟩ := ls_form hl
        exact ⟨oq, on, oc, rfl, hl, hW.trans (hb.mono hW.size)⟩
      have HWI2 : Hid (∀ W oq on oc, Below w26.heap.size w26 W → Calls Tryz.prog 18 #[.agg #[.slice q1 n1 c1, .slice (some ⟨pb, po, none⟩) n2 c2], .int .i64 2, .slice oq on oc] W fun e w' => e = .returned (.agg #[.slice q1 n1 c1, .slice oq on oc]) ∧ Below w26.heap.size w26 w' ∧ Below W.heap.size W w') := fun W oq on oc hW => (HWI.out W oq on oc (SD2.out W hW).2.2).mono fun _ _ h => ⟨h.1, hW.trans (h.2.2.mono hW.size), h.2.2⟩
      have HROW : Hid (∀ W, Below w26.heap.size w26 W → W.heap[X27]? = some (.cells #[.slice none 0 0, .slice none 0 0] 24 (0, 0))) := fun W hW => (hW.block X27 (Array.getElem?_eq_some_iff.1 HR27.out).1).trans HR27.out
      have HFIN : Hid (∀ w8 oq on oc, Below w26.heap.size w26 w8 → LS w8 (.slice oq on oc) (dropL ss i k) → ((w8.setCell ⟨X27, 0, none⟩ (.slice q1 n1 c1)).setCell ⟨X27, 1, none⟩ (.slice oq on oc)).heap[X27]? = some (.cells #[.slice q1 n1 c1, .slice oq on oc] 24 (0, 0)) ∧ Aside (Below V.heap.size V ((w8.setCell ⟨X27, 0, none⟩ (.slice q1 n1 c1)).setCell ⟨X27, 1, none⟩ (.slice oq on oc)) ∧ LS ((w8.setCell ⟨X27, 0, none⟩ (.slice q1 n1 c1)).setCell ⟨X27, 1, none⟩ (.slice oq on oc)) (.slice oq on oc) (dropL ss i k) ∧ ((w8.setCell ⟨X27, 0, none⟩ (.slice q1 n1 c1)).setCell ⟨X27, 1, none⟩ (.slice oq on oc)).heap[X28]? = w26.heap[X28]? ∧ ((w8.setCell ⟨X27, 0, none⟩ (.slice q1 n1 c1)).setCell ⟨X27, 1, none⟩ (.slice oq on oc)).heap[X33]? = w26.heap[X33]?)) := fun w8 oq on oc hb8 hl8 => by
        have hr8 := HROW.out w8 hb8
        have hg := grTwo w8 X27 (.slice q1 n1 c1) (.slice oq on oc)
        have h28 : X28 < w26.heap.size := (Array.getElem?_eq_some_iff.1 HR28.out).1
        have h33 : X33 < w26.heap.size := (Array.getElem?_eq_some_iff.1 HR33.out).1
        have hBV := (SD2.out w8 hb8).2.2
        refine ⟨setTwo hr8 _ _, hBV.grown hg hBV.size (fun k hk => by cases hk; exact HX27.out), ls_off hl8 hg (two_no hr8) HDV.out, ?_, ?_⟩
        · rw [hg.block X28 (Nat.lt_of_lt_of_le h28 hb8.size) (fun e => H27.out (Option.some.inj e).symm), hb8.block X28 h28]
        · rw [hg.block X33 (Nat.lt_of_lt_of_le h33 hb8.size) (fun e => H37.out (Option.some.inj e).symm), hb8.block X33 h33]
      obtain ⟨b0, b1, -⟩ := SD2.out _ (Below.refl _ _)
      go_cut [31] from 167 to 173 (fun s31 wx => s31 = .int .i64 2 ∧ ∃ oq on oc, wx.heap[X27]? = some (.cells #[.slice q1 n1 c1, .slice oq on oc] 24 (0, 0)) ∧ Aside (Below V.heap.size V wx ∧ LS wx (.slice oq on oc) (dropL ss i k) ∧ wx.heap[X28]? = w26.heap[X28]? ∧ wx.heap[X33]? = w26.heap[X33]?))
      case first =>
        go_region_law (go_simp; go_wp2_with (first | (go_at_call 19; with_reducible refine (HOU2.out _ ?_).mono ?_; (repeat' (first | with_reducible assumption | with_reducible refine Below.drew ?_ | with_reducible exact Below.refl _ _ | with_reducible exact Nat.le_refl _)); rintro x Wo ⟨oq, on, oc, rfl, hlo, hbo⟩; have so0 := (SD2.out Wo hbo).1; have so1 := (SD2.out Wo hbo).2.1) | (go_at_call 18; with_reducible refine (HWI2.out _ _ _ _ ?_).mono ?_; (repeat' (first | with_reducible assumption | with_reducible refine Below.drew ?_ | with_reducible exact Below.refl _ _ | with_reducible exact Nat.le_refl _)); rintro x w8 ⟨rfl, hb8, hbu⟩; obtain ⟨p0', p1', pf⟩ := rowTwo (HROW.out w8 hb8); have pf0 := pf 0; have pf1 := pf 1)))
        all_goals go_wp2_with fail
        all_goals go_meet
        all_goals exact ⟨rfl, oq, on, oc, HFIN.out w8 oq on oc hb8 (hlo.below hbu)⟩
      case rest =>
      obtain ⟨rfl, oq, on, oc, hrc, HAA⟩ := hcut
      have HR28 := hidB (HAA.out.2.2.1.trans HR28.out)
      have HR33 := hidB (HAA.out.2.2.2.trans HR33.out)
      have HR27 := hidB hrc
      have HB := hidB HAA.out.1
      have HLO := hidB HAA.out.2.1
      clear HAA hrc HFIN HROW HWI2 HOU2 SD2 HWI HOU HOF b0 b1
      generalize wc = w27 at *
      have HX28W := hidB (show X28 < w27.heap.size from (Array.getElem?_eq_some_iff.1 HR28.out).1)
      obtain ⟨b0, b1⟩ := SO.out _ HB.out
      go_wp2_with fail
      refine (HCA.out _ HB.out).mono ?_
      rintro e w28 ⟨u1, u2, m1, m2, d1, d2, rfl, hd1, hd2, hb⟩
      have HB := hidB (HB.out.trans (hb.mono HB.out.size))
      have HR27 := hidB ((hb.block X27 (Array.getElem?_eq_some_iff.1 HR27.out).1).trans HR27.out)
      have HR28 := hidB ((hb.block X28 (Array.getElem?_eq_some_iff.1 HR28.out).1).trans HR28.out)
      have HR33 := hidB ((hb.block X33 (Array.getElem?_eq_some_iff.1 HR33.out).1).trans HR33.out)
      have HLO := hidB (HLO.out.below hb)
      clear hb b0 b1
      have HDD := hidB (And.intro hd1 hd2)
      have H28W := hidB (show X28 < w27.heap.size from HX28W.out)
      have HRO := hidB HR28.out
      clear hd1 hd2
      obtain ⟨x0, x1, xf⟩ := rowTwo HR28.out
      have xf0 := xf 0
      have xf1 := xf 1
      clear xf
      have hx28 : X28 < w28.heap.size := (Array.getElem?_eq_some_iff.1 HR28.out).1
      have hrn := setTwo HR28.out (.slice u1 m1 d1) (.slice u2 m2 d2)
      have hgn := grTwo w28 X28 (.slice u1 m1 d1) (.slice u2 m2 d2)
      have hsz : ((w28.setCell ⟨X28, 0, none⟩ (.slice u1 m1 d1)).setCell ⟨X28, 1, none⟩ (.slice u2 m2 d2)).heap.size = w28.heap.size := by simp [World.setCell]
      go_upto_region 44 with fail
      generalize (w28.setCell ⟨X28, 0, none⟩ (.slice u1 m1 d1)).setCell ⟨X28, 1, none⟩ (.slice u2 m2 d2) = w29 at *
      have hra := heap_alloc_new w29 (.cells #[.int .i64 z1, .int .i64 z2, .int .i64 z3, .int .i64 z4, .int .i64 z5] 26)
      have hba := (Below.refl _ w29).alloc (Nat.le_refl _) (.cells #[.int .i64 z1, .int .i64 z2, .int .i64 z3, .int .i64 z4, .int .i64 z5] 26)
      generalize w29.alloc (.cells #[.int .i64 z1, .int .i64 z2, .int .i64 z3, .int .i64 z4, .int .i64 z5] 26) = w30 at *
      obtain ⟨X38, hX⟩ : ∃ X38, X38 = w28.heap.size := ⟨_, rfl⟩
      rw [hsz, ← hX] at hra
      simp only [← hX]
      have HR27 := hidB ((hba.block X27 (Nat.lt_of_lt_of_le (Array.getElem?_eq_some_iff.1 HR27.out).1 hgn.size)).trans ((hgn.block X27 (Array.getElem?_eq_some_iff.1 HR27.out).1 (fun e => H27.out (Option.some.inj e))).trans HR27.out))
      have HR33 := hidB ((hba.block X33 (Nat.lt_of_lt_of_le (Array.getElem?_eq_some_iff.1 HR33.out).1 hgn.size)).trans ((hgn.block X33 (Array.getElem?_eq_some_iff.1 HR33.out).1 (fun e => H33.out (Option.some.inj e))).trans HR33.out))
      have HR28 := hidB ((hba.block X28 (Array.getElem?_eq_some_iff.1 hrn).1).trans hrn)
      have HR38 := hidB hra
      have HDD := hidB (And.intro ((HDD.out.1.other hgn H28W.out).below hba) ((HDD.out.2.other hgn H28W.out).below hba))
      have HLO := hidB ((ls_off HLO.out hgn (two_no HRO.out) HDV.out).below hba)
      have HB := hidB ((HB.out.grown hgn HB.out.size (fun k hk => by cases hk; exact HX28.out)).trans (hba.mono (Nat.le_trans HB.out.size hgn.size)))
      clear hrn hgn hsz hra hba hX x0 x1 xf0 xf1 hx28
      go_wp2_with fail
      refine (HER.out _ HB.out).mono ?_
      rintro e w31 ⟨rfl, hb⟩
      have HB := hidB (HB.out.trans (hb.mono HB.out.size))
      have HR27 := hidB ((hb.block X27 (Array.getElem?_eq_some_iff.1 HR27.out).1).trans HR27.out)
      have HR28 := hidB ((hb.block X28 (Array.getElem?_eq_some_iff.1 HR28.out).1).trans HR28.out)
      have HR33 := hidB ((hb.block X33 (Array.getElem?_eq_some_iff.1 HR33.out).1).trans HR33.out)
      have HR38 := hidB ((hb.block X38 (Array.getElem?_eq_some_iff.1 HR38.out).1).trans HR38.out)
      have HDD := hidB (And.intro (HDD.out.1.below hb) (HDD.out.2.below hb))
      have HLO := hidB (HLO.out.below hb)
      clear hb
      obtain ⟨x0, x1, -⟩ := rowTwo HR27.out
      obtain ⟨y0, y1, -⟩ := rowTwo HR28.out
      go_wp2_with fail
      refine (book_same u1 u2 q1 oq m1 m2 d1 d2 n1 on c1 oc bs (dropL ss i k) w31 HDD.out.1.ls HDD.out.2.ls (HLV.out _ HB.out).1 HLO.out).mono ?_
      rintro e w32 ⟨rfl, hb⟩
      have HB := hidB (HB.out.trans (hb.mono HB.out.size))
      have HR27 := hidB ((hb.block X27 (Array.getElem?_eq_some_iff.1 HR27.out).1).trans HR27.out)
      have HR28 := hidB ((hb.block X28 (Array.getElem?_eq_some_iff.1 HR28.out).1).trans HR28.out)
      have HR33 := hidB ((hb.block X33 (Array.getElem?_eq_some_iff.1 HR33.out).1).trans HR33.out)
      have HR38 := hidB ((hb.block X38 (Array.getElem?_eq_some_iff.1 HR38.out).1).trans HR38.out)
      clear hb x0 x1 y0 y1 HDD HLO
      obtain ⟨b0, b1⟩ := SO.out _ HB.out
      go_wp2_with fail
      refine (HFI.out _ HB.out).mono ?_
      rintro e w33 ⟨rfl, hb⟩
      have HB := hidB (HB.out.trans (hb.mono HB.out.size))
      have HR27 := hidB ((hb.block X27 (Array.getElem?_eq_some_iff.1 HR27.out).1).trans HR27.out)
      have HR28 := hidB ((hb.block X28 (Array.getElem?_eq_some_iff.1 HR28.out).1).trans HR28.out)
      have HR33 := hidB ((hb.block X33 (Array.getElem?_eq_some_iff.1 HR33.out).1).trans HR33.out)
      have HR38 := hidB ((hb.block X38 (Array.getElem?_eq_some_iff.1 HR38.out).1).trans HR38.out)
      clear hb b0 b1
      have hrn := heap_alloc_new w33 (.cells #[.int .i64 z1, .int .i64 z2, .int .i64 z3, .int .i64 z4, .int .i64 z5] 26)
      have hbn := (Below.refl _ w33).alloc (Nat.le_refl _) (.cells #[.int .i64 z1, .int .i64 z2, .int .i64 z3, .int .i64 z4, .int .i64 z5] 26)
      go_upto_region 47 with fail
      generalize w33.alloc (.cells #[.int .i64 z1, .int .i64 z2, .int .i64 z3, .int .i64 z4, .int .i64 z5] 26) = w34 at *
      obtain ⟨X43, hX⟩ : ∃ X43, X43 = w33.heap.size := ⟨_, rfl⟩
      rw [← hX] at hrn
      simp only [← hX]
      have HX43 := hidB (show V.heap.size ≤ X43 by rw [hX]; exact HB.out.size)
      have HR43 := hidB hrn
      have HB := hidB (HB.out.trans (hbn.mono HB.out.size))
      have HR27 := hidB ((hbn.block X27 (Array.getElem?_eq_some_iff.1 HR27.out).1).trans HR27.out)
      have HR28 := hidB ((hbn.block X28 (Array.getElem?_eq_some_iff.1 HR28.out).1).trans HR28.out)
      have HR33 := hidB ((hbn.block X33 (Array.getElem?_eq_some_iff.1 HR33.out).1).trans HR33.out)
      have HR38 := hidB ((hbn.block X38 (Array.getElem?_eq_some_iff.1 HR38.out).1).trans HR38.out)
      clear hrn hbn hX
      go_wp2_with fail
      refine (HER.out _ HB.out).mono ?_
      rintro e w35 ⟨rfl, hb⟩
      have HB := hidB (HB.out.trans (hb.mono HB.out.size))
      have HR27 := hidB ((hb.block X27 (Array.getElem?_eq_some_iff.1 HR27.out).1).trans HR27.out)
      have HR28 := hidB ((hb.block X28 (Array.getElem?_eq_some_iff.1 HR28.out).1).trans HR28.out)
      have HR33 := hidB ((hb.block X33 (Array.getElem?_eq_some_iff.1 HR33.out).1).trans HR33.out)
      have HR38 := hidB ((hb.block X38 (Array.getElem?_eq_some_iff.1 HR38.out).1).trans HR38.out)
      have HR43 := hidB ((hb.block X43 (Array.getElem?_eq_some_iff.1 HR43.out).1).trans HR43.out)
      obtain ⟨x0, x1, x2, x3, x4, -⟩ := rowFive HR38.out
      obtain ⟨y0, y1, y2, y3, y4, -⟩ := rowFive HR33.out
      obtain ⟨z0, z1, z2, z3, z4, -⟩ := rowFive HR43.out
      have HF := hidB (HV0.out.trans (HB.out.mono HV0.out.size))
      clear hb
      go_wp2_with fail
      go_ret
      exact ⟨rfl, HF.out⟩
    · have hrf : rfindP bs ss id = (0, 0, 0) := by unfold rfindP; rw [if_neg (by omega), if_neg (by omega)]
      rw [hrf]
      simp only
      clear hrf hlt1 hlt2
      have HFI : Hid (∀ W, Below V.heap.size V W → _) := fun W hW => find_no q1 q2 n1 n2 c1 c2 bs ss id HID.out W (HLV.out W hW).1 (HLV.out W hW).2.1 H0.out hf1 hf2
      have HCA : Hid (∀ W, Below V.heap.size V W → _) := fun W hW => cancel_out q1 q2 n1 n2 c1 c2 id 5 W (fun W' hW' => HFI.out W' (hW.trans (hW'.mono hW.size)))
      have HE5 : Hid (∀ W, Below V.heap.size V W → Calls Tryz.prog 5 #[.iface 60 (.int .i64 5), .int .i64 5] W fun e w' => e = .returned (.bool true) ∧ Below W.heap.size W w') := fun W hW => err_same HL.out 5 W (HLV.out W hW).2.2
      clear hf1 hf2
      obtain ⟨b0, b1⟩ := SO.out _ HB.out
      go_wp2_with fail
      refine (HCA.out _ HB.out).mono ?_
      rintro e w25 ⟨rfl, hb⟩
      have HB := hidB (HB.out.trans (hb.mono HB.out.size))
      have HR27 := hidB ((hb.block X27 (Array.getElem?_eq_some_iff.1 HR27.out).1).trans HR27.out)
      have HR28 := hidB ((hb.block X28 (Array.getElem?_eq_some_iff.1 HR28.out).1).trans HR28.out)
      have HR33 := hidB ((hb.block X33 (Array.getElem?_eq_some_iff.1 HR33.out).1).trans HR33.out)
      clear hb b0 b1
      obtain ⟨x0, x1, xf⟩ := rowTwo HR28.out
      have xf0 := xf 0
      have xf1 := xf 1
      clear xf
      have hx28 : X28 < w25.heap.size := (Array.getElem?_eq_some_iff.1 HR28.out).1
      have hrn := setTwo HR28.out (.slice none 0 0) (.slice none 0 0)
      have hgn := grTwo w25 X28 (.slice none 0 0) (.slice none 0 0)
      have hsz : ((w25.setCell ⟨X28, 0, none⟩ (.slice none 0 0)).setCell ⟨X28, 1, none⟩ (.slice none 0 0)).heap.size = w25.heap.size := by simp [World.setCell]
      go_upto_region 44 with fail
      generalize (w25.setCell ⟨X28, 0, none⟩ (.slice none 0 0)).setCell ⟨X28, 1, none⟩ (.slice none 0 0) = w26 at *
      have hra := heap_alloc_new w26 (.cells #[.int .i64 0, .int .i64 0, .int .i64 0, .int .i64 0, .int .i64 0] 26)
      have hba := (Below.refl _ w26).alloc (Nat.le_refl _) (.cells #[.int .i64 0, .int .i64 0, .int .i64 0, .int .i64 0, .int .i64 0] 26)
      generalize w26.alloc (.cells #[.int .i64 0, .int .i64 0, .int .i64 0, .int .i64 0, .int .i64 0] 26) = w27 at *
      obtain ⟨X38, hX⟩ : ∃ X38, X38 = w25.heap.size := ⟨_, rfl⟩
      rw [hsz, ← hX] at hra
      simp only [← hX]
      have HR27 := hidB ((hba.block X27 (Nat.lt_of_lt_of_le (Array.getElem?_eq_some_iff.1 HR27.out).1 hgn.size)).trans ((hgn.block X27 (Array.getElem?_eq_some_iff.1 HR27.out).1 (fun e => H27.out (Option.some.inj e))).trans HR27.out))
      have HR33 := hidB ((hba.block X33 (Nat.lt_of_lt_of_le (Array.getElem?_eq_some_iff.1 HR33.out).1 hgn.size)).trans ((hgn.block X33 (Array.getElem?_eq_some_iff.1 HR33.out).1 (fun e => H33.out (Option.some.inj e))).trans HR33.out))
      have HR28 := hidB ((hba.block X28 (Array.getElem?_eq_some_iff.1 hrn).1).trans hrn)
      have HR38 := hidB hra
      have HB := hidB ((HB.out.grown hgn HB.out.size (fun k hk => by cases hk; exact HX28.out)).trans (hba.mono (Nat.le_trans HB.out.size hgn.size)))
      clear hrn hgn hsz hra hba hX x0 x1 xf0 xf1 hx28
      go_wp2_with fail
      refine (HE5.out _ HB.out).mono ?_
      rintro e w28 ⟨rfl, hb⟩
      have HB := hidB (HB.out.trans (hb.mono HB.out.size))
      have HR27 := hidB ((hb.block X27 (Array.getElem?_eq_some_iff.1 HR27.out).1).trans HR27.out)
      have HR28 := hidB ((hb.block X28 (Array.getElem?_eq_some_iff.1 HR28.out).1).trans HR28.out)
      have HR33 := hidB ((hb.block X33 (Array.getElem?_eq_some_iff.1 HR33.out).1).trans HR33.out)
      have HR38 := hidB ((hb.block X38 (Array.getElem?_eq_some_iff.1 HR38.out).1).trans HR38.out)
      clear hb
      obtain ⟨x0, x1, -⟩ := rowTwo HR27.out
      obtain ⟨y0, y1, -⟩ := rowTwo HR28.out
      go_wp2_with fail
      refine (book_same none none none none 0 0 0 0 0 0 0 0 [] [] w28 (ls_nil _) (ls_nil _) (ls_nil _) (ls_nil _)).mono ?_
      rintro e w29 ⟨rfl, hb⟩
      have HB := hidB (HB.out.trans (hb.mono HB.out.size))
      have HR27 := hidB ((hb.block X27 (Array.getElem?_eq_some_iff.1 HR27.out).1).trans HR27.out)
      have HR28 := hidB ((hb.block X28 (Array.getElem?_eq_some_iff.1 HR28.out).1).trans HR28.out)
      have HR33 := hidB ((hb.block X33 (Array.getElem?_eq_some_iff.1 HR33.out).1).trans HR33.out)
      have HR38 := hidB ((hb.block X38 (Array.getElem?_eq_some_iff.1 HR38.out).1).trans HR38.out)
      clear hb x0 x1 y0 y1
      obtain ⟨b0, b1⟩ := SO.out _ HB.out
      go_wp2_with fail
      refine (HFI.out _ HB.out).mono ?_
      rintro e w30 ⟨rfl, hb⟩
      have HB := hidB (HB.out.trans (hb.mono HB.out.size))
      have HR27 := hidB ((hb.block X27 (Array.getElem?_eq_some_iff.1 HR27.out).1).trans HR27.out)
      have HR28 := hidB ((hb.block X28 (Array.getElem?_eq_some_iff.1 HR28.out).1).trans HR28.out)
      have HR33 := hidB ((hb.block X33 (Array.getElem?_eq_some_iff.1 HR33.out).1).trans HR33.out)
      have HR38 := hidB ((hb.block X38 (Array.getElem?_eq_some_iff.1 HR38.out).1).trans HR38.out)
      clear hb b0 b1
      have hrn := heap_alloc_new w30 (.cells #[.int .i64 0, .int .i64 0, .int .i64 0, .int .i64 0, .int .i64 0] 26)
      have hbn := (Below.refl _ w30).alloc (Nat.le_refl _) (.cells #[.int .i64 0, .int .i64 0, .int .i64 0, .int .i64 0, .int .i64 0] 26)
      go_upto_region 47 with fail
      generalize w30.alloc (.cells #[.int .i64 0, .int .i64 0, .int .i64 0, .int .i64 0, .int .i64 0] 26) = w31 at *
      obtain ⟨X43, hX⟩ : ∃ X43, X43 = w30.heap.size := ⟨_, rfl⟩
      rw [← hX] at hrn
      simp only [← hX]
      have HX43 := hidB (show V.heap.size ≤ X43 by rw [hX]; exact HB.out.size)
      have HR43 := hidB hrn
      have HB := hidB (HB.out.trans (hbn.mono HB.out.size))
      have HR27 := hidB ((hbn.block X27 (Array.getElem?_eq_some_iff.1 HR27.out).1).trans HR27.out)
      have HR28 := hidB ((hbn.block X28 (Array.getElem?_eq_some_iff.1 HR28.out).1).trans HR28.out)
      have HR33 := hidB ((hbn.block X33 (Array.getElem?_eq_some_iff.1 HR33.out).1).trans HR33.out)
      have HR38 := hidB ((hbn.block X38 (Array.getElem?_eq_some_iff.1 HR38.out).1).trans HR38.out)
      clear hrn hbn hX
      go_wp2_with fail
      refine (HE5.out _ HB.out).mono ?_
      rintro e w32 ⟨rfl, hb⟩
      have HB := hidB (HB.out.trans (hb.mono HB.out.size))
      have HR27 := hidB ((hb.block X27 (Array.getElem?_eq_some_iff.1 HR27.out).1).trans HR27.out)
      have HR28 := hidB ((hb.block X28 (Array.getElem?_eq_some_iff.1 HR28.out).1).trans HR28.out)
      have HR33 := hidB ((hb.block X33 (Array.getElem?_eq_some_iff.1 HR33.out).1).trans HR33.out)
      have HR38 := hidB ((hb.block X38 (Array.getElem?_eq_some_iff.1 HR38.out).1).trans HR38.out)
      have HR43 := hidB ((hb.block X43 (Array.getElem?_eq_some_iff.1 HR43.out).1).trans HR43.out)
      obtain ⟨x0, x1, x2, x3, x4, -⟩ := rowFive HR38.out
      obtain ⟨y0, y1, y2, y3, y4, -⟩ := rowFive HR33.out
      obtain ⟨z0, z1, z2, z3, z4, -⟩ := rowFive HR43.out
      have HF := hidB (HV0.out.trans (HB.out.mono HV0.out.size))
      clear hb
      go_wp2_with fail
      go_ret
      exact ⟨rfl, HF.out⟩
end Go.Proofs.YtmgodofnhjmbfaaGreatDoor.bokt
