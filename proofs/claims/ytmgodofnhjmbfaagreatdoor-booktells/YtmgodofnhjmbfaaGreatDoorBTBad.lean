/- BookTells at a book that is wrong. -/
import Derived.Test.YtmgodofnhjmbfaaGreatDoorQueSame
import Derived.Test.YtmgodofnhjmbfaaGreatDoorBokShw
import Derived.Test.YtmgodofnhjmbfaaGreatDoorBokBad
import Derived.Test.YtmgodofnhjmbfaaGreatDoorBokAny
import Derived.Test.YtmgodofnhjmbfaaGreatDoorSidDel
import Derived.Test.YtmgodofnhjmbfaaGreatDoorBokCancel
import Derived.Test.YtmgodofnhjmbfaaGreatDoorBokPut2
import Derived.Test.YtmgodofnhjmbfaaGreatDoorSidLay
import Derived.Test.YtmgodofnhjmbfaaGreatDoorKinRef2
import Derived.Test.YtmgodofnhjmbfaaGreatDoorSidRef9
import Derived.Test.YtmgodofnhjmbfaaGreatDoorTold
import Derived.Deep.RegionHeld3
import Derived.BigQuiet
namespace Go.Proofs.YtmgodofnhjmbfaaGreatDoor.bokt
open Go.RowKit Go.Proofs.YtmgodofnhjmbfaaGreatDoor.que Go.Proofs.YtmgodofnhjmbfaaGreatDoor.sid Go.Proofs.YtmgodofnhjmbfaaGreatDoor.bok Go.Proofs.YtmgodofnhjmbfaaGreatDoor.bld
open Go.Proofs.YtmgodofnhjmbfaaGreatDoor.spn (keeps bcell errV errV_of errV_zero)
open Go.Proofs.YtmgodofnhjmbfaaGreatDoor.tickP (priceB sideB)

theorem hidB {P : Prop} (h : P) : Hid P := h
theorem err_same {w0 : World} (hL : told.Laid w0) (k : Int) (W : World) (hB : Below w0.heap.size w0 W) : Calls Tryz.prog 5 #[errV k, .int .i64 k] W fun e w' => e = .returned (.bool true) ∧ Below W.heap.size W w' := by
  have := told.error_any W k k W (told.Inv.start (hL.below hB))
  refine Calls.mono this ?_
  rintro e w' ⟨rfl, h⟩
  refine ⟨?_, h.2⟩
  rw [beq_self_eq_true]

set_option maxRecDepth 100000 in
set_option maxHeartbeats 8000000 in
theorem bt_bad (q1 q2 : Option Addr) (n1 n2 c1 c2 : Nat) (bs ss : List L) (s p r1 r2 r3 r4 r5 id : Int) (w : World) (hL : told.Laid w) (h1 : LS w (.slice q1 n1 c1) bs) (h2 : LS w (.slice q2 n2 c2) ss) (h0 : ¬ bookE bs ss = 0) :
    Calls Tryz.prog 3 #[.agg #[.slice q1 n1 c1, .slice q2 n2 c2], .int .i64 s, .int .i64 p, .agg #[.int .i64 r1, .int .i64 r2, .int .i64 r3, .int .i64 r4, .int .i64 r5], .int .i64 id] w fun e w' => e = .returned (.bool true) ∧ Below w.heap.size w w' := by
  have hB0 : Below w.heap.size w ((w.alloc (.cells #[.slice q1 n1 c1, .slice q2 n2 c2] 24)).alloc (.cells #[.int .i64 r1, .int .i64 r2, .int .i64 r3, .int .i64 r4, .int .i64 r5] 26)) := ((Below.refl _ _).alloc (Nat.le_refl _) _).alloc (by simp) _
  have hr5 : ((w.alloc (.cells #[.slice q1 n1 c1, .slice q2 n2 c2] 24)).alloc (.cells #[.int .i64 r1, .int .i64 r2, .int .i64 r3, .int .i64 r4, .int .i64 r5] 26)).heap[w.heap.size]? = some (.cells #[.slice q1 n1 c1, .slice q2 n2 c2] 24 (0, 0)) := (Below.heap_alloc _ _ _ (by simp)).trans (heap_alloc_new w _)
  have hr8 : ((w.alloc (.cells #[.slice q1 n1 c1, .slice q2 n2 c2] 24)).alloc (.cells #[.int .i64 r1, .int .i64 r2, .int .i64 r3, .int .i64 r4, .int .i64 r5] 26)).heap[w.heap.size + 1]? = some (.cells #[.int .i64 r1, .int .i64 r2, .int .i64 r3, .int .i64 r4, .int .i64 r5] 26 (0, 0)) := by
    have := heap_alloc_new (w.alloc (.cells #[.slice q1 n1 c1, .slice q2 n2 c2] 24)) (.cells #[.int .i64 r1, .int .i64 r2, .int .i64 r3, .int .i64 r4, .int .i64 r5] 26)
    simpa using this
  have hK : ∀ W, Below ((w.alloc (.cells #[.slice q1 n1 c1, .slice q2 n2 c2] 24)).alloc (.cells #[.int .i64 r1, .int .i64 r2, .int .i64 r3, .int .i64 r4, .int .i64 r5] 26)).heap.size ((w.alloc (.cells #[.slice q1 n1 c1, .slice q2 n2 c2] 24)).alloc (.cells #[.int .i64 r1, .int .i64 r2, .int .i64 r3, .int .i64 r4, .int .i64 r5] 26)) W → Below w.heap.size w W := fun W hW => hB0.trans (hW.mono hB0.size)
  have HRB : Hid (∀ W, Below ((w.alloc (.cells #[.slice q1 n1 c1, .slice q2 n2 c2] 24)).alloc (.cells #[.int .i64 r1, .int .i64 r2, .int .i64 r3, .int .i64 r4, .int .i64 r5] 26)).heap.size ((w.alloc (.cells #[.slice q1 n1 c1, .slice q2 n2 c2] 24)).alloc (.cells #[.int .i64 r1, .int .i64 r2, .int .i64 r3, .int .i64 r4, .int .i64 r5] 26)) W → Calls Tryz.prog 4 #[.agg #[.slice q1 n1 c1, .slice q2 n2 c2]] W fun e w' => e = .returned (.int .i64 (bookE bs ss)) ∧ Below W.heap.size W w') := fun W hW => rbook_any q1 q2 n1 n2 c1 c2 bs ss W (h1.below (hK W hW)) (h2.below (hK W hW))
  have HCH : Hid (∀ W, Below ((w.alloc (.cells #[.slice q1 n1 c1, .slice q2 n2 c2] 24)).alloc (.cells #[.int .i64 r1, .int .i64 r2, .int .i64 r3, .int .i64 r4, .int .i64 r5] 26)).heap.size ((w.alloc (.cells #[.slice q1 n1 c1, .slice q2 n2 c2] 24)).alloc (.cells #[.int .i64 r1, .int .i64 r2, .int .i64 r3, .int .i64 r4, .int .i64 r5] 26)) W → Calls Tryz.prog 6 #[.agg #[.slice q1 n1 c1, .slice q2 n2 c2]] W fun e w' => e = .returned (.iface 60 (.int .i64 (bookE bs ss))) ∧ Below W.heap.size W w') := fun W hW => by
    have := check_any q1 q2 n1 n2 c1 c2 bs ss W (h1.below (hK W hW)) (h2.below (hK W hW))
    rwa [errV_of h0] at this
  have HER : Hid (∀ W, Below ((w.alloc (.cells #[.slice q1 n1 c1, .slice q2 n2 c2] 24)).alloc (.cells #[.int .i64 r1, .int .i64 r2, .int .i64 r3, .int .i64 r4, .int .i64 r5] 26)).heap.size ((w.alloc (.cells #[.slice q1 n1 c1, .slice q2 n2 c2] 24)).alloc (.cells #[.int .i64 r1, .int .i64 r2, .int .i64 r3, .int .i64 r4, .int .i64 r5] 26)) W → Calls Tryz.prog 5 #[.iface 60 (.int .i64 (bookE bs ss)), .int .i64 (bookE bs ss)] W fun e w' => e = .returned (.bool true) ∧ Below W.heap.size W w') := fun W hW => by
    have := err_same hL (bookE bs ss) W (hK W hW)
    rwa [errV_of h0] at this
  have HTP : Hid (∀ W, Below ((w.alloc (.cells #[.slice q1 n1 c1, .slice q2 n2 c2] 24)).alloc (.cells #[.int .i64 r1, .int .i64 r2, .int .i64 r3, .int .i64 r4, .int .i64 r5] 26)).heap.size ((w.alloc (.cells #[.slice q1 n1 c1, .slice q2 n2 c2] 24)).alloc (.cells #[.int .i64 r1, .int .i64 r2, .int .i64 r3, .int .i64 r4, .int .i64 r5] 26)) W → _) := fun W hW => top_bad q1 q2 n1 n2 c1 c2 bs ss W (h1.below (hK W hW)) (h2.below (hK W hW)) h0
  have HCN : Hid (∀ W, Below ((w.alloc (.cells #[.slice q1 n1 c1, .slice q2 n2 c2] 24)).alloc (.cells #[.int .i64 r1, .int .i64 r2, .int .i64 r3, .int .i64 r4, .int .i64 r5] 26)).heap.size ((w.alloc (.cells #[.slice q1 n1 c1, .slice q2 n2 c2] 24)).alloc (.cells #[.int .i64 r1, .int .i64 r2, .int .i64 r3, .int .i64 r4, .int .i64 r5] 26)) W → _) := fun W hW => count_bad q1 q2 n1 n2 c1 c2 bs ss W (h1.below (hK W hW)) (h2.below (hK W hW)) h0
  have HPR : Hid (∀ W, Below ((w.alloc (.cells #[.slice q1 n1 c1, .slice q2 n2 c2] 24)).alloc (.cells #[.int .i64 r1, .int .i64 r2, .int .i64 r3, .int .i64 r4, .int .i64 r5] 26)).heap.size ((w.alloc (.cells #[.slice q1 n1 c1, .slice q2 n2 c2] 24)).alloc (.cells #[.int .i64 r1, .int .i64 r2, .int .i64 r3, .int .i64 r4, .int .i64 r5] 26)) W → _) := fun W hW => print_bad q1 q2 n1 n2 c1 c2 bs ss W (h1.below (hK W hW)) (h2.below (hK W hW)) h0
  have HSD : Hid (∀ W, Below ((w.alloc (.cells #[.slice q1 n1 c1, .slice q2 n2 c2] 24)).alloc (.cells #[.int .i64 r1, .int .i64 r2, .int .i64 r3, .int .i64 r4, .int .i64 r5] 26)).heap.size ((w.alloc (.cells #[.slice q1 n1 c1, .slice q2 n2 c2] 24)).alloc (.cells #[.int .i64 r1, .int .i64 r2, .int .i64 r3, .int .i64 r4, .int .i64 r5] 26)) W → Calls Tryz.prog 12 #[.int .i64 s] W fun e w' => e = .returned (.bool (sideB s)) ∧ Below W.heap.size W w') := fun W _ => (rside_any s W).mono fun _ _ h => ⟨h.1, by rw [h.2]; exact Below.refl _ _⟩
  have HPU : Hid (∀ W, Below ((w.alloc (.cells #[.slice q1 n1 c1, .slice q2 n2 c2] 24)).alloc (.cells #[.int .i64 r1, .int .i64 r2, .int .i64 r3, .int .i64 r4, .int .i64 r5] 26)).heap.size ((w.alloc (.cells #[.slice q1 n1 c1, .slice q2 n2 c2] 24)).alloc (.cells #[.int .i64 r1, .int .i64 r2, .int .i64 r3, .int .i64 r4, .int .i64 r5] 26)) W → Calls Tryz.prog 14 #[.agg #[.slice q1 n1 c1, .slice q2 n2 c2], .int .i64 s, .int .i64 p, .agg #[.int .i64 r1, .int .i64 r2, .int .i64 r3, .int .i64 r4, .int .i64 r5]] W fun e w' => ∃ u1 u2 m1 m2 d1 d2, e = .returned (.tuple #[.agg #[.slice u1 m1 d1, .slice u2 m2 d2], .iface 60 (.int .i64 (bookE bs ss))]) ∧ LS w' (.slice u1 m1 d1) [] ∧ LS w' (.slice u2 m2 d2) [] ∧ Below W.heap.size W w') := fun W hW => by
    refine (put_any s p q1 q2 n1 n2 c1 c2 r1 r2 r3 r4 r5 bs ss W (h1.below (hK W hW)) (h2.below (hK W hW))).mono ?_
    rintro e w' ⟨u1, u2, m1, m2, d1, d2, he, hl1, hl2, hb⟩
    have hpe : putE bs ss s p ⟨r1, r2, r3, r4, r5⟩ = bookE bs ss := by unfold putE; rw [if_neg h0]
    rw [hpe, if_neg h0] at hl1 hl2
    rw [hpe, errV_of h0] at he
    exact ⟨u1, u2, m1, m2, d1, d2, he, hl1, hl2, hb⟩
  have HFI : Hid (∀ W, Below ((w.alloc (.cells #[.slice q1 n1 c1, .slice q2 n2 c2] 24)).alloc (.cells #[.int .i64 r1, .int .i64 r2, .int .i64 r3, .int .i64 r4, .int .i64 r5] 26)).heap.size ((w.alloc (.cells #[.slice q1 n1 c1, .slice q2 n2 c2] 24)).alloc (.cells #[.int .i64 r1, .int .i64 r2, .int .i64 r3, .int .i64 r4, .int .i64 r5] 26)) W → _) := fun W hW => find_bad q1 q2 n1 n2 c1 c2 bs ss id W (h1.below (hK W hW)) (h2.below (hK W hW)) h0
  have HCA : Hid (∀ W, Below ((w.alloc (.cells #[.slice q1 n1 c1, .slice q2 n2 c2] 24)).alloc (.cells #[.int .i64 r1, .int .i64 r2, .int .i64 r3, .int .i64 r4, .int .i64 r5] 26)).heap.size ((w.alloc (.cells #[.slice q1 n1 c1, .slice q2 n2 c2] 24)).alloc (.cells #[.int .i64 r1, .int .i64 r2, .int .i64 r3, .int .i64 r4, .int .i64 r5] 26)) W → _) := fun W hW => cancel_out q1 q2 n1 n2 c1 c2 id (bookE bs ss) W (fun W' hW' => HFI.out W' (hW.trans (hW'.mono hW.size)))
  generalize bookE bs ss = E at *
  have e0 : (E == 0) = false := by simpa using h0
  clear h1 h2 hK
  go_enter Tryz.func3, Tryz.ntmps3
  go_upto_region 1 with fail
  generalize hV : (w.alloc (.cells #[.slice q1 n1 c1, .slice q2 n2 c2] 24)).alloc (.cells #[.int .i64 r1, .int .i64 r2, .int .i64 r3, .int .i64 r4, .int .i64 r5] 26) = V at *
  clear hV
  obtain ⟨P8, hP8⟩ : ∃ P8, P8 = w.heap.size + 1 := ⟨_, rfl⟩
  rw [← hP8] at hr8
  simp only [← hP8]
  obtain ⟨P5, hP5⟩ : ∃ P5, P5 = w.heap.size := ⟨_, rfl⟩
  rw [← hP5] at hr5
  simp only [← hP5]
  have HV0 := hidB hB0
  have HR5 := hidB hr5
  have HR8 := hidB hr8
  have SO : Hid (∀ W, Below V.heap.size V W → W.cell? ⟨P5, 0, none⟩ = some (.slice q1 n1 c1) ∧ W.cell? ⟨P5, 1, none⟩ = some (.slice q2 n2 c2)) := fun W hW => by
    obtain ⟨a, b, -⟩ := rowTwo HR5.out
    exact ⟨keeps hW a, keeps hW b⟩
  have SR : Hid (∀ W, Below V.heap.size V W → W.cell? ⟨P8, 0, none⟩ = some (.int .i64 r1) ∧ W.cell? ⟨P8, 1, none⟩ = some (.int .i64 r2) ∧ W.cell? ⟨P8, 2, none⟩ = some (.int .i64 r3) ∧ W.cell? ⟨P8, 3, none⟩ = some (.int .i64 r4) ∧ W.cell? ⟨P8, 4, none⟩ = some (.int .i64 r5)) := fun W hW => by
    obtain ⟨a, b, c, d, e, -⟩ := rowFive HR8.out
    exact ⟨keeps hW a, keeps hW b, keeps hW c, keeps hW d, keeps hW e⟩
  have HB := hidB (Below.refl V.heap.size V)
  clear hB0 hr5 hr8 hP5 hP8
  obtain ⟨b0, b1⟩ := SO.out _ HB.out
  go_wp2_with fail
  refine (HRB.out _ HB.out).mono ?_
  rintro e w1 ⟨rfl, hb⟩
  have HB := hidB (HB.out.trans (hb.mono HB.out.size))
  clear hb b0 b1
  obtain ⟨b0, b1⟩ := SO.out _ HB.out
  go_wp2_with fail
  refine (HCH.out _ HB.out).mono ?_
  rintro e w2 ⟨rfl, hb⟩
  have HB := hidB (HB.out.trans (hb.mono HB.out.size))
  clear hb b0 b1
  go_wp2_with fail
  refine (HER.out _ HB.out).mono ?_
  rintro e w3 ⟨rfl, hb⟩
  have HB := hidB (HB.out.trans (hb.mono HB.out.size))
  clear hb
  obtain ⟨b0, b1⟩ := SO.out _ HB.out
  go_wp2_with fail
  refine (HTP.out _ HB.out).mono ?_
  rintro e w4 ⟨rfl, hb⟩
  have HB := hidB (HB.out.trans (hb.mono HB.out.size))
  clear hb b0 b1
  go_wp2_with fail
  refine (HER.out _ HB.out).mono ?_
  rintro e w5 ⟨rfl, hb⟩
  have HB := hidB (HB.out.trans (hb.mono HB.out.size))
  clear hb
  obtain ⟨b0, b1⟩ := SO.out _ HB.out
  go_wp2_with fail
  refine (HCN.out _ HB.out).mono ?_
  rintro e w6 ⟨rfl, hb⟩
  have HB := hidB (HB.out.trans (hb.mono HB.out.size))
  clear hb b0 b1
  go_wp2_with fail
  refine (HER.out _ HB.out).mono ?_
  rintro e w7 ⟨rfl, hb⟩
  have HB := hidB (HB.out.trans (hb.mono HB.out.size))
  clear hb
  obtain ⟨b0, b1⟩ := SO.out _ HB.out
  go_wp2_with fail
  refine (HPR.out _ HB.out).mono ?_
  rintro e w8 ⟨rfl, hb⟩
  have HB := hidB (HB.out.trans (hb.mono HB.out.size))
  clear hb b0 b1
  go_wp2_with fail
  refine (HER.out _ HB.out).mono ?_
  rintro e w9 ⟨rfl, hb⟩
  have HB := hidB (HB.out.trans (hb.mono HB.out.size))
  clear hb
  go_wp2_with fail
  refine (HSD.out _ HB.out).mono ?_
  rintro e w10 ⟨rfl, hb⟩
  have HB := hidB (HB.out.trans (hb.mono HB.out.size))
  clear hb
  have hrn := heap_alloc_new w10 (.cells #[.slice none 0 0, .slice none 0 0] 24)
  have hbn := (Below.refl _ w10).alloc (Nat.le_refl _) (.cells #[.slice none 0 0, .slice none 0 0] 24)
  go_upto_region 25 with fail
  generalize w10.alloc (.cells #[.slice none 0 0, .slice none 0 0] 24) = w11 at *
  obtain ⟨X27, hX⟩ : ∃ X27, X27 = w10.heap.size := ⟨_, rfl⟩
  rw [← hX] at hrn
  simp only [← hX]
  have HX27 := hidB (show V.heap.size ≤ X27 by rw [hX]; exact HB.out.size)
  have HR27 := hidB hrn
  have HB := hidB (HB.out.trans (hbn.mono HB.out.size))
  clear hrn hbn hX
  obtain ⟨b0, b1⟩ := SO.out _ HB.out
  obtain ⟨s0, s1, s2, s3, s4⟩ := SR.out _ HB.out
  go_wp2_with fail
  refine (HPU.out _ HB.out).mono ?_
  rintro e w12 ⟨u1, u2, m1, m2, d1, d2, rfl, hl1, hl2, hb⟩
  have HB := hidB (HB.out.trans (hb.mono HB.out.size))
  have HR27 := hidB ((hb.block X27 (Array.getElem?_eq_some_iff.1 HR27.out).1).trans HR27.out)
  have HLU := hidB (And.intro hl1 hl2)
  clear hb b0 b1 s0 s1 s2 s3 s4
  clear hl1 hl2
  have hrn := heap_alloc_new w12 (.cells #[.slice u1 m1 d1, .slice u2 m2 d2] 24)
  have hbn := (Below.refl _ w12).alloc (Nat.le_refl _) (.cells #[.slice u1 m1 d1, .slice u2 m2 d2] 24)
  go_upto_region 28 with fail
  generalize w12.alloc (.cells #[.slice u1 m1 d1, .slice u2 m2 d2] 24) = w13 at *
  obtain ⟨X28, hX⟩ : ∃ X28, X28 = w12.heap.size := ⟨_, rfl⟩
  rw [← hX] at hrn
  simp only [← hX]
  have HX28 := hidB (show V.heap.size ≤ X28 by rw [hX]; exact HB.out.size)
  have HR28 := hidB hrn
  have H27 := hidB (show X27 ≠ X28 by have h1 := (Array.getElem?_eq_some_iff.1 HR27.out).1; omega)
  have HB := hidB (HB.out.trans (hbn.mono HB.out.size))
  have HR27 := hidB ((hbn.block X27 (Array.getElem?_eq_some_iff.1 HR27.out).1).trans HR27.out)
  have HLU := hidB (And.intro (HLU.out.1.below hbn) (HLU.out.2.below hbn))
  clear hrn hbn hX
  go_wp2_with fail
  refine (HER.out _ HB.out).mono ?_
  rintro e w14 ⟨rfl, hb⟩
  have HB := hidB (HB.out.trans (hb.mono HB.out.size))
  have HR27 := hidB ((hb.block X27 (Array.getElem?_eq_some_iff.1 HR27.out).1).trans HR27.out)
  have HR28 := hidB ((hb.block X28 (Array.getElem?_eq_some_iff.1 HR28.out).1).trans HR28.out)
  have HLU := hidB (And.intro (HLU.out.1.below hb) (HLU.out.2.below hb))
  clear hb
  obtain ⟨x0, x1, -⟩ := rowTwo HR27.out
  obtain ⟨y0, y1, -⟩ := rowTwo HR28.out
  go_wp2_with fail
  refine (book_same u1 u2 none none m1 m2 d1 d2 0 0 0 0 [] [] w14 HLU.out.1 HLU.out.2 (ls_nil _) (ls_nil _)).mono ?_
  rintro e w15 ⟨rfl, hb⟩
  have HB := hidB (HB.out.trans (hb.mono HB.out.size))
  have HR27 := hidB ((hb.block X27 (Array.getElem?_eq_some_iff.1 HR27.out).1).trans HR27.out)
  have HR28 := hidB ((hb.block X28 (Array.getElem?_eq_some_iff.1 HR28.out).1).trans HR28.out)
  clear hb x0 x1 y0 y1
  obtain ⟨x0, x1, xf⟩ := rowTwo HR27.out
  have xf0 := xf 0
  have xf1 := xf 1
  clear xf
  have hrn := setTwo HR27.out (.slice none 0 0) (.slice none 0 0)
  have hgn := grTwo w15 X27 (.slice none 0 0) (.slice none 0 0)
  go_upto_region 31 with fail
  generalize (w15.setCell ⟨X27, 0, none⟩ (.slice none 0 0)).setCell ⟨X27, 1, none⟩ (.slice none 0 0) = w16 at *
  have HR28 := hidB ((hgn.block X28 (Array.getElem?_eq_some_iff.1 HR28.out).1 (fun e => H27.out (Option.some.inj e).symm)).trans HR28.out)
  have HR27 := hidB hrn
  have HB := hidB (HB.out.grown hgn HB.out.size (fun k hk => by cases hk; exact HX27.out))
  clear hrn hgn x0 x1 xf0 xf1
  have hrn := heap_alloc_new w16 (.cells #[.int .i64 0, .int .i64 0, .int .i64 0, .int .i64 0, .int .i64 0] 26)
  have hbn := (Below.refl _ w16).alloc (Nat.le_refl _) (.cells #[.int .i64 0, .int .i64 0, .int .i64 0, .int .i64 0, .int .i64 0] 26)
  go_upto_region 34 with fail
  generalize w16.alloc (.cells #[.int .i64 0, .int .i64 0, .int .i64 0, .int .i64 0, .int .i64 0] 26) = w17 at *
  obtain ⟨X33, hX⟩ : ∃ X33, X33 = w16.heap.size := ⟨_, rfl⟩
  rw [← hX] at hrn
  simp only [← hX]
  have HX33 := hidB (show V.heap.size ≤ X33 by rw [hX]; exact HB.out.size)
  have HR33 := hidB hrn
  have H33 := hidB (show X33 ≠ X28 by have h1 := (Array.getElem?_eq_some_iff.1 HR28.out).1; omega)
  have HB := hidB (HB.out.trans (hbn.mono HB.out.size))
  have HR27 := hidB ((hbn.block X27 (Array.getElem?_eq_some_iff.1 HR27.out).1).trans HR27.out)
  have HR28 := hidB ((hbn.block X28 (Array.getElem?_eq_some_iff.1 HR28.out).1).trans HR28.out)
  clear hrn hbn hX
  obtain ⟨b0, b1⟩ := SO.out _ HB.out
  go_wp2_with fail
  refine (HCA.out _ HB.out).mono ?_
  rintro e w18 ⟨rfl, hb⟩
  have HB := hidB (HB.out.trans (hb.mono HB.out.size))
  have HR27 := hidB ((hb.block X27 (Array.getElem?_eq_some_iff.1 HR27.out).1).trans HR27.out)
  have HR28 := hidB ((hb.block X28 (Array.getElem?_eq_some_iff.1 HR28.out).1).trans HR28.out)
  have HR33 := hidB ((hb.block X33 (Array.getElem?_eq_some_iff.1 HR33.out).1).trans HR33.out)
  clear hb b0 b1
  obtain ⟨x0, x1, xf⟩ := rowTwo HR28.out
  have xf0 := xf 0
  have xf1 := xf 1
  clear xf
  have hx28 : X28 < w18.heap.size := (Array.getElem?_eq_some_iff.1 HR28.out).1
  have hrn := setTwo HR28.out (.slice none 0 0) (.slice none 0 0)
  have hgn := grTwo w18 X28 (.slice none 0 0) (.slice none 0 0)
  have hsz : ((w18.setCell ⟨X28, 0, none⟩ (.slice none 0 0)).setCell ⟨X28, 1, none⟩ (.slice none 0 0)).heap.size = w18.heap.size := by simp [World.setCell]
  go_upto_region 44 with fail
  generalize (w18.setCell ⟨X28, 0, none⟩ (.slice none 0 0)).setCell ⟨X28, 1, none⟩ (.slice none 0 0) = w19 at *
  have hra := heap_alloc_new w19 (.cells #[.int .i64 0, .int .i64 0, .int .i64 0, .int .i64 0, .int .i64 0] 26)
  have hba := (Below.refl _ w19).alloc (Nat.le_refl _) (.cells #[.int .i64 0, .int .i64 0, .int .i64 0, .int .i64 0, .int .i64 0] 26)
  generalize w19.alloc (.cells #[.int .i64 0, .int .i64 0, .int .i64 0, .int .i64 0, .int .i64 0] 26) = w20 at *
  obtain ⟨X38, hX⟩ : ∃ X38, X38 = w18.heap.size := ⟨_, rfl⟩
  rw [hsz, ← hX] at hra
  simp only [← hX]
  have HR27 := hidB ((hba.block X27 (Nat.lt_of_lt_of_le (Array.getElem?_eq_some_iff.1 HR27.out).1 hgn.size)).trans ((hgn.block X27 (Array.getElem?_eq_some_iff.1 HR27.out).1 (fun e => H27.out (Option.some.inj e))).trans HR27.out))
  have HR33 := hidB ((hba.block X33 (Nat.lt_of_lt_of_le (Array.getElem?_eq_some_iff.1 HR33.out).1 hgn.size)).trans ((hgn.block X33 (Array.getElem?_eq_some_iff.1 HR33.out).1 (fun e => H33.out (Option.some.inj e))).trans HR33.out))
  have HR28 := hidB ((hba.block X28 (Array.getElem?_eq_some_iff.1 hrn).1).trans hrn)
  have HR38 := hidB hra
  have HB := hidB ((HB.out.grown hgn HB.out.size (fun k hk => by cases hk; exact HX28.out)).trans (hba.mono (Nat.le_trans HB.out.size hgn.size)))
  clear hrn hgn hsz hra hba hX x0 x1 xf0 xf1 hx28
  go_wp2_with fail
  refine (HER.out _ HB.out).mono ?_
  rintro e w21 ⟨rfl, hb⟩
  have HB := hidB (HB.out.trans (hb.mono HB.out.size))
  have HR27 := hidB ((hb.block X27 (Array.getElem?_eq_some_iff.1 HR27.out).1).trans HR27.out)
  have HR28 := hidB ((hb.block X28 (Array.getElem?_eq_some_iff.1 HR28.out).1).trans HR28.out)
  have HR33 := hidB ((hb.block X33 (Array.getElem?_eq_some_iff.1 HR33.out).1).trans HR33.out)
  have HR38 := hidB ((hb.block X38 (Array.getElem?_eq_some_iff.1 HR38.out).1).trans HR38.out)
  clear hb
  obtain ⟨x0, x1, -⟩ := rowTwo HR27.out
  obtain ⟨y0, y1, -⟩ := rowTwo HR28.out
  go_wp2_with fail
  refine (book_same none none none none 0 0 0 0 0 0 0 0 [] [] w21 (ls_nil _) (ls_nil _) (ls_nil _) (ls_nil _)).mono ?_
  rintro e w22 ⟨rfl, hb⟩
  have HB := hidB (HB.out.trans (hb.mono HB.out.size))
  have HR27 := hidB ((hb.block X27 (Array.getElem?_eq_some_iff.1 HR27.out).1).trans HR27.out)
  have HR28 := hidB ((hb.block X28 (Array.getElem?_eq_some_iff.1 HR28.out).1).trans HR28.out)
  have HR33 := hidB ((hb.block X33 (Array.getElem?_eq_some_iff.1 HR33.out).1).trans HR33.out)
  have HR38 := hidB ((hb.block X38 (Array.getElem?_eq_some_iff.1 HR38.out).1).trans HR38.out)
  clear hb x0 x1 y0 y1
  obtain ⟨b0, b1⟩ := SO.out _ HB.out
  go_wp2_with fail
  refine (HFI.out _ HB.out).mono ?_
  rintro e w23 ⟨rfl, hb⟩
  have HB := hidB (HB.out.trans (hb.mono HB.out.size))
  have HR27 := hidB ((hb.block X27 (Array.getElem?_eq_some_iff.1 HR27.out).1).trans HR27.out)
  have HR28 := hidB ((hb.block X28 (Array.getElem?_eq_some_iff.1 HR28.out).1).trans HR28.out)
  have HR33 := hidB ((hb.block X33 (Array.getElem?_eq_some_iff.1 HR33.out).1).trans HR33.out)
  have HR38 := hidB ((hb.block X38 (Array.getElem?_eq_some_iff.1 HR38.out).1).trans HR38.out)
  clear hb b0 b1
  have hrn := heap_alloc_new w23 (.cells #[.int .i64 0, .int .i64 0, .int .i64 0, .int .i64 0, .int .i64 0] 26)
  have hbn := (Below.refl _ w23).alloc (Nat.le_refl _) (.cells #[.int .i64 0, .int .i64 0, .int .i64 0, .int .i64 0, .int .i64 0] 26)
  go_upto_region 47 with fail
  generalize w23.alloc (.cells #[.int .i64 0, .int .i64 0, .int .i64 0, .int .i64 0, .int .i64 0] 26) = w24 at *
  obtain ⟨X43, hX⟩ : ∃ X43, X43 = w23.heap.size := ⟨_, rfl⟩
  rw [← hX] at hrn
  simp only [← hX]
  have HX43 := hidB (show V.heap.size ≤ X43 by rw [hX]; exact HB.out.size)
  have HR43 := hidB hrn
  have HB := hidB (HB.out.trans (hbn.mono HB.out.size))
  have HR27 := hidB ((hbn.block X27 (Array.getElem?_eq_some_iff.1 HR27.out).1).trans HR27.out)
  have HR28 := hidB ((hbn.block X28 (Array.getElem?_eq_some_iff.1 HR28.out).1).trans HR28.out)
  have HR33 := hidB ((hbn.block X33 (Array.getElem?_eq_some_iff.1 HR33.out).1).trans HR33.out)
  have HR38 := hidB ((hbn.block X38 (Array.getElem?_eq_some_iff.1 HR38.out).1).trans HR38.out)
  clear hrn hbn hX
  go_wp2_with fail
  refine (HER.out _ HB.out).mono ?_
  rintro e w25 ⟨rfl, hb⟩
  have HB := hidB (HB.out.trans (hb.mono HB.out.size))
  have HR27 := hidB ((hb.block X27 (Array.getElem?_eq_some_iff.1 HR27.out).1).trans HR27.out)
  have HR28 := hidB ((hb.block X28 (Array.getElem?_eq_some_iff.1 HR28.out).1).trans HR28.out)
  have HR33 := hidB ((hb.block X33 (Array.getElem?_eq_some_iff.1 HR33.out).1).trans HR33.out)
  have HR38 := hidB ((hb.block X38 (Array.getElem?_eq_some_iff.1 HR38.out).1).trans HR38.out)
  have HR43 := hidB ((hb.block X43 (Array.getElem?_eq_some_iff.1 HR43.out).1).trans HR43.out)
  obtain ⟨x0, x1, x2, x3, x4, -⟩ := rowFive HR38.out
  obtain ⟨y0, y1, y2, y3, y4, -⟩ := rowFive HR33.out
  obtain ⟨z0, z1, z2, z3, z4, -⟩ := rowFive HR43.out
  have HF := hidB (HV0.out.trans (HB.out.mono HV0.out.size))
  clear hb
  go_wp2_with fail
  go_ret
  exact ⟨rfl, HF.out⟩
end Go.Proofs.YtmgodofnhjmbfaaGreatDoor.bokt
