/- The walk of MarginTells, way by way. -/
import Derived.Test.YtgadjgnmhldfmaaDoorMrgRefB
import Derived.Test.YtgadjgnmhldfmaaDoorMeeRef1c
import Derived.Test.YtgadjgnmhldfmaaDoorQueRR
import Derived.Test.YtgadjgnmhldfmaaDoorTold
namespace Go.Proofs.YtgadjgnmhldfmaaDoor.mrg
open Go.RowKit Go.Proofs.YtgadjgnmhldfmaaDoor.mee
open Go.Proofs.YtgadjgnmhldfmaaDoor.spn (keeps bcell)
open Go.Proofs.YtgadjgnmhldfmaaDoor.ord (O oV chk mB bal prB errV errV_zero errV_of ref_may ref_price ref_side sdB)
open Go.Proofs.YtgadjgnmhldfmaaDoor.que (R rchk)

theorem sd_is (s : Int) : sdB s = sidB s := by
  rw [Bool.eq_iff_iff]
  simp [sdB, sidB]
  omega
theorem told_same {EV : Value} {K : Int} {w : World} (h : EV = errV K) (hl : told.Laid w) : Calls Tryd.prog 7 #[EV, .int .i64 K] w fun ev w' => ev = .returned (.bool true) ∧ told.Inv w w' := by
  have := told.error_any w K K w (told.Inv.start hl)
  rw [beq_self_eq_true] at this
  rw [h]
  exact this
/-- A contract said of a world ahead. -/
theorem upon {f : Nat} {args : Array Value} {V W : World} {P : Ending → Prop} (hW : Below V.heap.size V W) (h : Calls Tryd.prog f args W fun e w' => P e ∧ Below W.heap.size W w') : Calls Tryd.prog f args W fun e w' => P e ∧ Below V.heap.size V w' :=
  h.mono fun _ _ h' => ⟨h'.1, hW.trans (h'.2.mono hW.size)⟩

set_option maxRecDepth 100000 in
set_option maxHeartbeats 4000000 in
theorem way_11 (a b c d p q s t r1 r2 r3 r4 r5 sd pr : Int) (v : Value) (ts : List T) (g : Int) (B w : World) (hI : told.Inv B w) (hL : TL w v ts) (h0 : chk ⟨a, b, c, d, p, q, s, t⟩ = 0) (hr : ¬ rchk ⟨r1, r2, r3, r4, r5⟩ = 0) :
    Calls Tryd.prog 3 #[.agg #[.int .i64 a, .int .i64 b, .int .i64 c, .int .i64 d, .int .i64 p, .int .i64 q, .int .i64 s, .int .i64 t], .agg #[.int .i64 r1, .int .i64 r2, .int .i64 r3, .int .i64 r4, .int .i64 r5], .int .i64 sd, .int .i64 pr, v, .int .i64 g] w fun e w' => e = .returned (.bool true) ∧ told.Inv B w' := by
  have HI := hidM hI
  obtain ⟨V, hV⟩ : ∃ V, V = (w.alloc (.cells #[.int .i64 a, .int .i64 b, .int .i64 c, .int .i64 d, .int .i64 p, .int .i64 q, .int .i64 s, .int .i64 t] 23)).alloc (.cells #[.int .i64 r1, .int .i64 r2, .int .i64 r3, .int .i64 r4, .int .i64 r5] 25) := ⟨_, rfl⟩
  have hA : Below w.heap.size w V := by rw [hV]; exact ((Below.refl _ _).alloc (Nat.le_refl _) _).alloc (by simp) _
  have HA := hidM hA
  have hX : V.heap[w.heap.size]? = some (.cells #[.int .i64 a, .int .i64 b, .int .i64 c, .int .i64 d, .int .i64 p, .int .i64 q, .int .i64 s, .int .i64 t] 23 (0, 0)) := by
    rw [hV]
    exact (((Below.refl _ (w.alloc (.cells #[.int .i64 a, .int .i64 b, .int .i64 c, .int .i64 d, .int .i64 p, .int .i64 q, .int .i64 s, .int .i64 t] 23))).alloc (Nat.le_refl _) _).block w.heap.size (by simp)).trans (heap_alloc_new w _)
  have hY : V.heap[w.heap.size + 1]? = some (.cells #[.int .i64 r1, .int .i64 r2, .int .i64 r3, .int .i64 r4, .int .i64 r5] 25 (0, 0)) := by
    rw [hV]
    have := heap_alloc_new (w.alloc (.cells #[.int .i64 a, .int .i64 b, .int .i64 c, .int .i64 d, .int .i64 p, .int .i64 q, .int .i64 s, .int .i64 t] 23)) (.cells #[.int .i64 r1, .int .i64 r2, .int .i64 r3, .int .i64 r4, .int .i64 r5] 25)
    simpa using this
  have celX : ∀ i, V.cell? ⟨w.heap.size, i, none⟩ = (#[.int .i64 a, .int .i64 b, .int .i64 c, .int .i64 d, .int .i64 p, .int .i64 q, .int .i64 s, .int .i64 t] : Array Value)[i]? := fun i => by simp [World.cell?, hX]
  have celY : ∀ i, V.cell? ⟨w.heap.size + 1, i, none⟩ = (#[.int .i64 r1, .int .i64 r2, .int .i64 r3, .int .i64 r4, .int .i64 r5] : Array Value)[i]? := fun i => by simp [World.cell?, hY]
  have HSO : Hid (∀ W, Below V.heap.size V W → W.cell? ⟨w.heap.size, 0, none⟩ = some (.int .i64 a) ∧ W.cell? ⟨w.heap.size, 1, none⟩ = some (.int .i64 b) ∧ W.cell? ⟨w.heap.size, 2, none⟩ = some (.int .i64 c) ∧ W.cell? ⟨w.heap.size, 3, none⟩ = some (.int .i64 d) ∧ W.cell? ⟨w.heap.size, 4, none⟩ = some (.int .i64 p) ∧ W.cell? ⟨w.heap.size, 5, none⟩ = some (.int .i64 q) ∧ W.cell? ⟨w.heap.size, 6, none⟩ = some (.int .i64 s) ∧ W.cell? ⟨w.heap.size, 7, none⟩ = some (.int .i64 t) ∧ W.cell? ⟨w.heap.size + 1, 0, none⟩ = some (.int .i64 r1) ∧ W.cell? ⟨w.heap.size + 1, 1, none⟩ = some (.int .i64 r2) ∧ W.cell? ⟨w.heap.size + 1, 2, none⟩ = some (.int .i64 r3) ∧ W.cell? ⟨w.heap.size + 1, 3, none⟩ = some (.int .i64 r4) ∧ W.cell? ⟨w.heap.size + 1, 4, none⟩ = some (.int .i64 r5)) := fun W hW => ⟨keeps hW (celX 0), keeps hW (celX 1), keeps hW (celX 2), keeps hW (celX 3), keeps hW (celX 4), keeps hW (celX 5), keeps hW (celX 6), keeps hW (celX 7), keeps hW (celY 0), keeps hW (celY 1), keeps hW (celY 2), keeps hW (celY 3), keeps hW (celY 4)⟩
  have HLA : Hid (∀ W, Below V.heap.size V W → told.Laid W) := fun W hW => (hI.on (hA.trans (hW.mono hA.size))).laid
  have HER : Hid (∀ EV K W, EV = errV K → Below V.heap.size V W → Calls Tryd.prog 7 #[EV, .int .i64 K] W fun e w' => e = .returned (.bool true) ∧ Below V.heap.size V w') := fun EV K W h hW => upon (P := fun e => e = .returned (.bool true)) hW ((told_same h (HLA.out W hW)).mono fun _ _ h' => ⟨h'.1, h'.2.2⟩)
  have HTL : Hid (∀ W, Below V.heap.size V W → TL W v ts) := fun W hW => hL.below (hA.trans (hW.mono hA.size))
  have HRO : Hid (∀ W, Below V.heap.size V W → Calls Tryd.prog 4 #[.agg #[.int .i64 a, .int .i64 b, .int .i64 c, .int .i64 d, .int .i64 p, .int .i64 q, .int .i64 s, .int .i64 t]] W fun e w' => e = .returned (.int .i64 (chk ⟨a, b, c, d, p, q, s, t⟩)) ∧ Below V.heap.size V w') := fun W hW => upon (P := fun e => e = .returned (.int .i64 (chk ⟨a, b, c, d, p, q, s, t⟩))) hW (ord.rord_any ⟨a, b, c, d, p, q, s, t⟩ W)
  have HFO : Hid (∀ W, Below V.heap.size V W → Calls Tryd.prog 6 #[.agg #[.int .i64 a, .int .i64 b, .int .i64 c, .int .i64 d, .int .i64 p, .int .i64 q, .int .i64 s, .int .i64 t]] W fun e w' => e = .returned (.tuple #[.int .i64 (forC ⟨a, b, c, d, p, q, s, t⟩), .int .i64 (forS ⟨a, b, c, d, p, q, s, t⟩), errV (chk ⟨a, b, c, d, p, q, s, t⟩)]) ∧ Below V.heap.size V w') := fun W hW => upon (P := fun e => e = .returned (.tuple #[.int .i64 (forC ⟨a, b, c, d, p, q, s, t⟩), .int .i64 (forS ⟨a, b, c, d, p, q, s, t⟩), errV (chk ⟨a, b, c, d, p, q, s, t⟩)])) hW (for_any ⟨a, b, c, d, p, q, s, t⟩ W)
  have HBA : Hid (∀ W, Below V.heap.size V W → Calls Tryd.prog 9 #[.agg #[.int .i64 a, .int .i64 b, .int .i64 c, .int .i64 d, .int .i64 p, .int .i64 q, .int .i64 s, .int .i64 t], v, .int .i64 g] W fun e w' => e = .returned (.tuple #[.int .i64 (backC ⟨a, b, c, d, p, q, s, t⟩ ts g), .int .i64 (backS ⟨a, b, c, d, p, q, s, t⟩ ts g), errV (backE ⟨a, b, c, d, p, q, s, t⟩ ts g)]) ∧ Below V.heap.size V w') := fun W hW => upon (P := fun e => e = .returned (.tuple #[.int .i64 (backC ⟨a, b, c, d, p, q, s, t⟩ ts g), .int .i64 (backS ⟨a, b, c, d, p, q, s, t⟩ ts g), errV (backE ⟨a, b, c, d, p, q, s, t⟩ ts g)])) hW (back_any ⟨a, b, c, d, p, q, s, t⟩ v ts g W (HTL.out W hW))
  have HRR : Hid (∀ W, Below V.heap.size V W → Calls Tryd.prog 10 #[.agg #[.int .i64 r1, .int .i64 r2, .int .i64 r3, .int .i64 r4, .int .i64 r5]] W fun e w' => e = .returned (.int .i64 (rchk ⟨r1, r2, r3, r4, r5⟩)) ∧ Below V.heap.size V w') := fun W hW => upon (P := fun e => e = .returned (.int .i64 (rchk ⟨r1, r2, r3, r4, r5⟩))) hW (que.rrest_any r1 r2 r3 r4 r5 W)
  have HLE : Hid (∀ W, Below V.heap.size V W → Calls Tryd.prog 14 #[.agg #[.int .i64 r1, .int .i64 r2, .int .i64 r3, .int .i64 r4, .int .i64 r5], .int .i64 sd, .int .i64 pr] W fun e w' => e = .returned (.tuple #[.int .i64 (leftC ⟨r1, r2, r3, r4, r5⟩ sd pr), .int .i64 (leftS ⟨r1, r2, r3, r4, r5⟩ sd pr), errV (leftE ⟨r1, r2, r3, r4, r5⟩ sd pr)]) ∧ Below V.heap.size V w') := fun W hW => upon (P := fun e => e = .returned (.tuple #[.int .i64 (leftC ⟨r1, r2, r3, r4, r5⟩ sd pr), .int .i64 (leftS ⟨r1, r2, r3, r4, r5⟩ sd pr), errV (leftE ⟨r1, r2, r3, r4, r5⟩ sd pr)])) hW (left_any r1 r2 r3 r4 r5 sd pr W)
  have HSD : Hid (∀ W, Below V.heap.size V W → Calls Tryd.prog 11 #[.int .i64 sd] W fun e w' => e = .returned (.bool (sidB sd)) ∧ Below V.heap.size V w') := fun W hW => (ref_side sd W).mono fun _ _ h' => ⟨h'.1.trans (by rw [sd_is]), h'.2 ▸ hW⟩
  have HPR : Hid (∀ W, Below V.heap.size V W → Calls Tryd.prog 12 #[.int .i64 pr] W fun e w' => e = .returned (.bool (prB pr)) ∧ Below V.heap.size V w') := fun W hW => (ref_price pr W).mono fun _ _ h' => ⟨h'.1, h'.2 ▸ hW⟩
  have HDF : Hid (∀ W, Below V.heap.size V W → Calls Tryd.prog 5 #[.agg #[.int .i64 a, .int .i64 b, .int .i64 c, .int .i64 d, .int .i64 p, .int .i64 q, .int .i64 s, .int .i64 t]] W fun e w' => e = .returned (.tuple #[.int .i64 (forC ⟨a, b, c, d, p, q, s, t⟩), .int .i64 (forS ⟨a, b, c, d, p, q, s, t⟩)]) ∧ Below V.heap.size V w') := fun W hW => upon (P := fun e => e = .returned (.tuple #[.int .i64 (forC ⟨a, b, c, d, p, q, s, t⟩), .int .i64 (forS ⟨a, b, c, d, p, q, s, t⟩)])) hW (by
    have e1 : forC ⟨a, b, c, d, p, q, s, t⟩ = putC c (resv ⟨a, b, c, d, p, q, s, t⟩) q := if_pos h0
    have e2 : forS ⟨a, b, c, d, p, q, s, t⟩ = putS c q := if_pos h0
    rw [e1, e2]
    exact rfor_any a b c d p q s t W (ord_small h0).2.2.2.2)
  have HDB : Hid (∀ W, Below V.heap.size V W → Calls Tryd.prog 8 #[.agg #[.int .i64 a, .int .i64 b, .int .i64 c, .int .i64 d, .int .i64 p, .int .i64 q, .int .i64 s, .int .i64 t], v, .int .i64 g] W fun e w' => e = .returned (.tuple #[.int .i64 (backC ⟨a, b, c, d, p, q, s, t⟩ ts g), .int .i64 (backS ⟨a, b, c, d, p, q, s, t⟩ ts g), .int .i64 (backE ⟨a, b, c, d, p, q, s, t⟩ ts g)]) ∧ Below V.heap.size V w') := fun W hW => upon (P := fun e => e = .returned (.tuple #[.int .i64 (backC ⟨a, b, c, d, p, q, s, t⟩ ts g), .int .i64 (backS ⟨a, b, c, d, p, q, s, t⟩ ts g), .int .i64 (backE ⟨a, b, c, d, p, q, s, t⟩ ts g)])) hW (rback_any a b c d p q s t v ts g W h0 (HTL.out W hW))
  rw [h0] at HRO HFO
  obtain ⟨EB, hEB⟩ : ∃ x, x = errV (backE ⟨a, b, c, d, p, q, s, t⟩ ts g) := ⟨_, rfl⟩
  rw [← hEB] at HBA
  have HEB := hidM hEB
  obtain ⟨EF, hEF⟩ : ∃ x, x = errV 0 := ⟨_, rfl⟩
  rw [← hEF] at HFO
  have HEF := hidM hEF
  clear hEB hEF h0
  generalize forC ⟨a, b, c, d, p, q, s, t⟩ = FC at *
  generalize forS ⟨a, b, c, d, p, q, s, t⟩ = FS at *
  generalize backC ⟨a, b, c, d, p, q, s, t⟩ ts g = BC at *
  generalize backS ⟨a, b, c, d, p, q, s, t⟩ ts g = BS at *
  generalize backE ⟨a, b, c, d, p, q, s, t⟩ ts g = BE at *
  have e3 : leftE ⟨r1, r2, r3, r4, r5⟩ sd pr = rchk ⟨r1, r2, r3, r4, r5⟩ := if_neg hr
  have e4 : leftC ⟨r1, r2, r3, r4, r5⟩ sd pr = 0 := if_neg (by rw [e3]; exact hr)
  have e5 : leftS ⟨r1, r2, r3, r4, r5⟩ sd pr = 0 := if_neg (by rw [e3]; exact hr)
  rw [e3, e4, e5] at HLE
  have hy : (rchk ⟨r1, r2, r3, r4, r5⟩ == 0) = false := by simpa using hr
  clear e3 e4 e5 hr
  generalize rchk ⟨r1, r2, r3, r4, r5⟩ = K at *
  generalize sidB sd = bs at *
  generalize prB pr = bp at *
  obtain ⟨EL, hEL⟩ : ∃ x, x = errV K := ⟨_, rfl⟩
  rw [← hEL] at HLE
  have HEL := hidM hEL
  clear hEL hL hX hY celX celY HTL HLA hI hA
  go_enter Tryd.func3, Tryd.ntmps3
  go_upto_region 1 with fail
  rw [← hV]
  clear hV
  obtain ⟨d0, d1, d2, d3, d4, d5, d6, d7, g0, g1, g2, g3, g4⟩ := HSO.out V (Below.refl _ _)
  have HB0 := hidM (Below.refl V.heap.size V)
  go_wp2_with fail
  refine (HRO.out _ HB0.out).mono ?_
  rintro e w1 ⟨rfl, hb⟩
  have HB1 := hidM hb
  clear d0 d1 d2 d3 d4 d5 d6 d7 g0 g1 g2 g3 g4 HB0
  obtain ⟨d0, d1, d2, d3, d4, d5, d6, d7, g0, g1, g2, g3, g4⟩ := HSO.out _ hb
  clear hb
  go_wp2_with fail
  refine (HDF.out _ HB1.out).mono ?_
  rintro e w2 ⟨rfl, hb⟩
  have HB2 := hidM hb
  clear d0 d1 d2 d3 d4 d5 d6 d7 g0 g1 g2 g3 g4 HB1
  obtain ⟨d0, d1, d2, d3, d4, d5, d6, d7, g0, g1, g2, g3, g4⟩ := HSO.out _ hb
  clear hb
  go_wp2_with fail
  refine (HFO.out _ HB2.out).mono ?_
  rintro e w3 ⟨rfl, hb⟩
  have HB3 := hidM hb
  clear d0 d1 d2 d3 d4 d5 d6 d7 g0 g1 g2 g3 g4 HB2
  obtain ⟨d0, d1, d2, d3, d4, d5, d6, d7, g0, g1, g2, g3, g4⟩ := HSO.out _ hb
  clear hb
  go_wp2_with fail
  refine (HER.out EF 0 _ HEF.out HB3.out).mono ?_
  rintro e w4 ⟨rfl, hb⟩
  have HB4 := hidM hb
  clear d0 d1 d2 d3 d4 d5 d6 d7 g0 g1 g2 g3 g4 HB3
  obtain ⟨d0, d1, d2, d3, d4, d5, d6, d7, g0, g1, g2, g3, g4⟩ := HSO.out _ hb
  clear hb
  go_wp2_with fail
  refine (HDB.out _ HB4.out).mono ?_
  rintro e w5 ⟨rfl, hb⟩
  have HB5 := hidM hb
  clear d0 d1 d2 d3 d4 d5 d6 d7 g0 g1 g2 g3 g4 HB4
  obtain ⟨d0, d1, d2, d3, d4, d5, d6, d7, g0, g1, g2, g3, g4⟩ := HSO.out _ hb
  clear hb
  go_wp2_with fail
  refine (HBA.out _ HB5.out).mono ?_
  rintro e w6 ⟨rfl, hb⟩
  have HB6 := hidM hb
  clear d0 d1 d2 d3 d4 d5 d6 d7 g0 g1 g2 g3 g4 HB5
  obtain ⟨d0, d1, d2, d3, d4, d5, d6, d7, g0, g1, g2, g3, g4⟩ := HSO.out _ hb
  clear hb
  go_wp2_with fail
  refine (HER.out EB BE _ HEB.out HB6.out).mono ?_
  rintro e w7 ⟨rfl, hb⟩
  have HB7 := hidM hb
  clear d0 d1 d2 d3 d4 d5 d6 d7 g0 g1 g2 g3 g4 HB6
  obtain ⟨d0, d1, d2, d3, d4, d5, d6, d7, g0, g1, g2, g3, g4⟩ := HSO.out _ hb
  clear hb
  go_wp2_with fail
  refine (HRR.out _ HB7.out).mono ?_
  rintro e w8 ⟨rfl, hb⟩
  have HB8 := hidM hb
  clear d0 d1 d2 d3 d4 d5 d6 d7 g0 g1 g2 g3 g4 HB7
  obtain ⟨d0, d1, d2, d3, d4, d5, d6, d7, g0, g1, g2, g3, g4⟩ := HSO.out _ hb
  clear hb
  go_wp2_with fail
  refine (HSD.out _ HB8.out).mono ?_
  rintro e w9 ⟨rfl, hb⟩
  have HB9 := hidM hb
  clear d0 d1 d2 d3 d4 d5 d6 d7 g0 g1 g2 g3 g4 HB8
  obtain ⟨d0, d1, d2, d3, d4, d5, d6, d7, g0, g1, g2, g3, g4⟩ := HSO.out _ hb
  clear hb
  go_wp2_with fail
  refine (HPR.out _ HB9.out).mono ?_
  rintro e w10 ⟨rfl, hb⟩
  have HB10 := hidM hb
  clear d0 d1 d2 d3 d4 d5 d6 d7 g0 g1 g2 g3 g4 HB9
  obtain ⟨d0, d1, d2, d3, d4, d5, d6, d7, g0, g1, g2, g3, g4⟩ := HSO.out _ hb
  clear hb
  go_wp2_with fail
  refine (HLE.out _ HB10.out).mono ?_
  rintro e w11 ⟨rfl, hb⟩
  have HB11 := hidM hb
  clear d0 d1 d2 d3 d4 d5 d6 d7 g0 g1 g2 g3 g4 HB10
  obtain ⟨d0, d1, d2, d3, d4, d5, d6, d7, g0, g1, g2, g3, g4⟩ := HSO.out _ hb
  clear hb
  go_wp2_with fail
  refine (HER.out EL K _ HEL.out HB11.out).mono ?_
  rintro e w12 ⟨rfl, hb⟩
  have HB12 := hidM hb
  clear d0 d1 d2 d3 d4 d5 d6 d7 g0 g1 g2 g3 g4 HB11
  obtain ⟨d0, d1, d2, d3, d4, d5, d6, d7, g0, g1, g2, g3, g4⟩ := HSO.out _ hb
  clear hb
  go_wp2_with fail
  go_ret
  exact ⟨rfl, HI.out.on (HA.out.trans (HB12.out.mono HA.out.size))⟩

set_option maxRecDepth 100000 in
set_option maxHeartbeats 4000000 in
theorem way_12 (a b c d p q s t r1 r2 r3 r4 r5 sd pr : Int) (v : Value) (ts : List T) (g : Int) (B w : World) (hI : told.Inv B w) (hL : TL w v ts) (h0 : chk ⟨a, b, c, d, p, q, s, t⟩ = 0) (hr : rchk ⟨r1, r2, r3, r4, r5⟩ = 0) (hs : sidB sd = false) :
    Calls Tryd.prog 3 #[.agg #[.int .i64 a, .int .i64 b, .int .i64 c, .int .i64 d, .int .i64 p, .int .i64 q, .int .i64 s, .int .i64 t], .agg #[.int .i64 r1, .int .i64 r2, .int .i64 r3, .int .i64 r4, .int .i64 r5], .int .i64 sd, .int .i64 pr, v, .int .i64 g] w fun e w' => e = .returned (.bool true) ∧ told.Inv B w' := by
  have HI := hidM hI
  obtain ⟨V, hV⟩ : ∃ V, V = (w.alloc (.cells #[.int .i64 a, .int .i64 b, .int .i64 c, .int .i64 d, .int .i64 p, .int .i64 q, .int .i64 s, .int .i64 t] 23)).alloc (.cells #[.int .i64 r1, .int .i64 r2, .int .i64 r3, .int .i64 r4, .int .i64 r5] 25) := ⟨_, rfl⟩
  have hA : Below w.heap.size w V := by rw [hV]; exact ((Below.refl _ _).alloc (Nat.le_refl _) _).alloc (by simp) _
  have HA := hidM hA
  have hX : V.heap[w.heap.size]? = some (.cells #[.int .i64 a, .int .i64 b, .int .i64 c, .int .i64 d, .int .i64 p, .int .i64 q, .int .i64 s, .int .i64 t] 23 (0, 0)) := by
    rw [hV]
    exact (((Below.refl _ (w.alloc (.cells #[.int .i64 a, .int .i64 b, .int .i64 c, .int .i64 d, .int .i64 p, .int .i64 q, .int .i64 s, .int .i64 t] 23))).alloc (Nat.le_refl _) _).block w.heap.size (by simp)).trans (heap_alloc_new w _)
  have hY : V.heap[w.heap.size + 1]? = some (.cells #[.int .i64 r1, .int .i64 r2, .int .i64 r3, .int .i64 r4, .int .i64 r5] 25 (0, 0)) := by
    rw [hV]
    have := heap_alloc_new (w.alloc (.cells #[.int .i64 a, .int .i64 b, .int .i64 c, .int .i64 d, .int .i64 p, .int .i64 q, .int .i64 s, .int .i64 t] 23)) (.cells #[.int .i64 r1, .int .i64 r2, .int .i64 r3, .int .i64 r4, .int .i64 r5] 25)
    simpa using this
  have celX : ∀ i, V.cell? ⟨w.heap.size, i, none⟩ = (#[.int .i64 a, .int .i64 b, .int .i64 c, .int .i64 d, .int .i64 p, .int .i64 q, .int .i64 s, .int .i64 t] : Array Value)[i]? := fun i => by simp [World.cell?, hX]
  have celY : ∀ i, V.cell? ⟨w.heap.size + 1, i, none⟩ = (#[.int .i64 r1, .int .i64 r2, .int .i64 r3, .int .i64 r4, .int .i64 r5] : Array Value)[i]? := fun i => by simp [World.cell?, hY]
  have HSO : Hid (∀ W, Below V.heap.size V W → W.cell? ⟨w.heap.size, 0, none⟩ = some (.int .i64 a) ∧ W.cell? ⟨w.heap.size, 1, none⟩ = some (.int .i64 b) ∧ W.cell? ⟨w.heap.size, 2, none⟩ = some (.int .i64 c) ∧ W.cell? ⟨w.heap.size, 3, none⟩ = some (.int .i64 d) ∧ W.cell? ⟨w.heap.size, 4, none⟩ = some (.int .i64 p) ∧ W.cell? ⟨w.heap.size, 5, none⟩ = some (.int .i64 q) ∧ W.cell? ⟨w.heap.size, 6, none⟩ = some (.int .i64 s) ∧ W.cell? ⟨w.heap.size, 7, none⟩ = some (.int .i64 t) ∧ W.cell? ⟨w.heap.size + 1, 0, none⟩ = some (.int .i64 r1) ∧ W.cell? ⟨w.heap.size + 1, 1, none⟩ = some (.int .i64 r2) ∧ W.cell? ⟨w.heap.size + 1, 2, none⟩ = some (.int .i64 r3) ∧ W.cell? ⟨w.heap.size + 1, 3, none⟩ = some (.int .i64 r4) ∧ W.cell? ⟨w.heap.size + 1, 4, none⟩ = some (.int .i64 r5)) := fun W hW => ⟨keeps hW (celX 0), keeps hW (celX 1), keeps hW (celX 2), keeps hW (celX 3), keeps hW (celX 4), keeps hW (celX 5), keeps hW (celX 6), keeps hW (celX 7), keeps hW (celY 0), keeps hW (celY 1), keeps hW (celY 2), keeps hW (celY 3), keeps hW (celY 4)⟩
  have HLA : Hid (∀ W, Below V.heap.size V W → told.Laid W) := fun W hW => (hI.on (hA.trans (hW.mono hA.size))).laid
  have HER : Hid (∀ EV K W, EV = errV K → Below V.heap.size V W → Calls Tryd.prog 7 #[EV, .int .i64 K] W fun e w' => e = .returned (.bool true) ∧ Below V.heap.size V w') := fun EV K W h hW => upon (P := fun e => e = .returned (.bool true)) hW ((told_same h (HLA.out W hW)).mono fun _ _ h' => ⟨h'.1, h'.2.2⟩)
  have HTL : Hid (∀ W, Below V.heap.size V W → TL W v ts) := fun W hW => hL.below (hA.trans (hW.mono hA.size))
  have HRO : Hid (∀ W, Below V.heap.size V W → Calls Tryd.prog 4 #[.agg #[.int .i64 a, .int .i64 b, .int .i64 c, .int .i64 d, .int .i64 p, .int .i64 q, .int .i64 s, .int .i64 t]] W fun e w' => e = .returned (.int .i64 (chk ⟨a, b, c, d, p, q, s, t⟩)) ∧ Below V.heap.size V w') := fun W hW => upon (P := fun e => e = .returned (.int .i64 (chk ⟨a, b, c, d, p, q, s, t⟩))) hW (ord.rord_any ⟨a, b, c, d, p, q, s, t⟩ W)
  have HFO : Hid (∀ W, Below V.heap.size V W → Calls Tryd.prog 6 #[.agg #[.int .i64 a, .int .i64 b, .int .i64 c, .int .i64 d, .int .i64 p, .int .i64 q, .int .i64 s, .int .i64 t]] W fun e w' => e = .returned (.tuple #[.int .i64 (forC ⟨a, b, c, d, p, q, s, t⟩), .int .i64 (forS ⟨a, b, c, d, p, q, s, t⟩), errV (chk ⟨a, b, c, d, p, q, s, t⟩)]) ∧ Below V.heap.size V w') := fun W hW => upon (P := fun e => e = .returned (.tuple #[.int .i64 (forC ⟨a, b, c, d, p, q, s, t⟩), .int .i64 (forS ⟨a, b, c, d, p, q, s, t⟩), errV (chk ⟨a, b, c, d, p, q, s, t⟩)])) hW (for_any ⟨a, b, c, d, p, q, s, t⟩ W)
  have HBA : Hid (∀ W, Below V.heap.size V W → Calls Tryd.prog 9 #[.agg #[.int .i64 a, .int .i64 b, .int .i64 c, .int .i64 d, .int .i64 p, .int .i64 q, .int .i64 s, .int .i64 t], v, .int .i64 g] W fun e w' => e = .returned (.tuple #[.int .i64 (backC ⟨a, b, c, d, p, q, s, t⟩ ts g), .int .i64 (backS ⟨a, b, c, d, p, q, s, t⟩ ts g), errV (backE ⟨a, b, c, d, p, q, s, t⟩ ts g)]) ∧ Below V.heap.size V w') := fun W hW => upon (P := fun e => e = .returned (.tuple #[.int .i64 (backC ⟨a, b, c, d, p, q, s, t⟩ ts g), .int .i64 (backS ⟨a, b, c, d, p, q, s, t⟩ ts g), errV (backE ⟨a, b, c, d, p, q, s, t⟩ ts g)])) hW (back_any ⟨a, b, c, d, p, q, s, t⟩ v ts g W (HTL.out W hW))
  have HRR : Hid (∀ W, Below V.heap.size V W → Calls Tryd.prog 10 #[.agg #[.int .i64 r1, .int .i64 r2, .int .i64 r3, .int .i64 r4, .int .i64 r5]] W fun e w' => e = .returned (.int .i64 (rchk ⟨r1, r2, r3, r4, r5⟩)) ∧ Below V.heap.size V w') := fun W hW => upon (P := fun e => e = .returned (.int .i64 (rchk ⟨r1, r2, r3, r4, r5⟩))) hW (que.rrest_any r1 r2 r3 r4 r5 W)
  have HLE : Hid (∀ W, Below V.heap.size V W → Calls Tryd.prog 14 #[.agg #[.int .i64 r1, .int .i64 r2, .int .i64 r3, .int .i64 r4, .int .i64 r5], .int .i64 sd, .int .i64 pr] W fun e w' => e = .returned (.tuple #[.int .i64 (leftC ⟨r1, r2, r3, r4, r5⟩ sd pr), .int .i64 (leftS ⟨r1, r2, r3, r4, r5⟩ sd pr), errV (leftE ⟨r1, r2, r3, r4, r5⟩ sd pr)]) ∧ Below V.heap.size V w') := fun W hW => upon (P := fun e => e = .returned (.tuple #[.int .i64 (leftC ⟨r1, r2, r3, r4, r5⟩ sd pr), .int .i64 (leftS ⟨r1, r2, r3, r4, r5⟩ sd pr), errV (leftE ⟨r1, r2, r3, r4, r5⟩ sd pr)])) hW (left_any r1 r2 r3 r4 r5 sd pr W)
  have HSD : Hid (∀ W, Below V.heap.size V W → Calls Tryd.prog 11 #[.int .i64 sd] W fun e w' => e = .returned (.bool (sidB sd)) ∧ Below V.heap.size V w') := fun W hW => (ref_side sd W).mono fun _ _ h' => ⟨h'.1.trans (by rw [sd_is]), h'.2 ▸ hW⟩
  have HPR : Hid (∀ W, Below V.heap.size V W → Calls Tryd.prog 12 #[.int .i64 pr] W fun e w' => e = .returned (.bool (prB pr)) ∧ Below V.heap.size V w') := fun W hW => (ref_price pr W).mono fun _ _ h' => ⟨h'.1, h'.2 ▸ hW⟩
  have HDF : Hid (∀ W, Below V.heap.size V W → Calls Tryd.prog 5 #[.agg #[.int .i64 a, .int .i64 b, .int .i64 c, .int .i64 d, .int .i64 p, .int .i64 q, .int .i64 s, .int .i64 t]] W fun e w' => e = .returned (.tuple #[.int .i64 (forC ⟨a, b, c, d, p, q, s, t⟩), .int .i64 (forS ⟨a, b, c, d, p, q, s, t⟩)]) ∧ Below V.heap.size V w') := fun W hW => upon (P := fun e => e = .returned (.tuple #[.int .i64 (forC ⟨a, b, c, d, p, q, s, t⟩), .int .i64 (forS ⟨a, b, c, d, p, q, s, t⟩)])) hW (by
    have e1 : forC ⟨a, b, c, d, p, q, s, t⟩ = putC c (resv ⟨a, b, c, d, p, q, s, t⟩) q := if_pos h0
    have e2 : forS ⟨a, b, c, d, p, q, s, t⟩ = putS c q := if_pos h0
    rw [e1, e2]
    exact rfor_any a b c d p q s t W (ord_small h0).2.2.2.2)
  have HDB : Hid (∀ W, Below V.heap.size V W → Calls Tryd.prog 8 #[.agg #[.int .i64 a, .int .i64 b, .int .i64 c, .int .i64 d, .int .i64 p, .int .i64 q, .int .i64 s, .int .i64 t], v, .int .i64 g] W fun e w' => e = .returned (.tuple #[.int .i64 (backC ⟨a, b, c, d, p, q, s, t⟩ ts g), .int .i64 (backS ⟨a, b, c, d, p, q, s, t⟩ ts g), .int .i64 (backE ⟨a, b, c, d, p, q, s, t⟩ ts g)]) ∧ Below V.heap.size V w') := fun W hW => upon (P := fun e => e = .returned (.tuple #[.int .i64 (backC ⟨a, b, c, d, p, q, s, t⟩ ts g), .int .i64 (backS ⟨a, b, c, d, p, q, s, t⟩ ts g), .int .i64 (backE ⟨a, b, c, d, p, q, s, t⟩ ts g)])) hW (rback_any a b c d p q s t v ts g W h0 (HTL.out W hW))
  rw [h0] at HRO HFO
  obtain ⟨EB, hEB⟩ : ∃ x, x = errV (backE ⟨a, b, c, d, p, q, s, t⟩ ts g) := ⟨_, rfl⟩
  rw [← hEB] at HBA
  have HEB := hidM hEB
  obtain ⟨EF, hEF⟩ : ∃ x, x = errV 0 := ⟨_, rfl⟩
  rw [← hEF] at HFO
  have HEF := hidM hEF
  clear hEB hEF h0
  generalize forC ⟨a, b, c, d, p, q, s, t⟩ = FC at *
  generalize forS ⟨a, b, c, d, p, q, s, t⟩ = FS at *
  generalize backC ⟨a, b, c, d, p, q, s, t⟩ ts g = BC at *
  generalize backS ⟨a, b, c, d, p, q, s, t⟩ ts g = BS at *
  generalize backE ⟨a, b, c, d, p, q, s, t⟩ ts g = BE at *
  have e3 : leftE ⟨r1, r2, r3, r4, r5⟩ sd pr = 1 := by unfold leftE; rw [if_pos hr, hs]; rfl
  have e4 : leftC ⟨r1, r2, r3, r4, r5⟩ sd pr = 0 := if_neg (by rw [e3]; decide)
  have e5 : leftS ⟨r1, r2, r3, r4, r5⟩ sd pr = 0 := if_neg (by rw [e3]; decide)
  rw [e3, e4, e5] at HLE
  rw [hr] at HRR
  rw [hs] at HSD
  clear e3 e4 e5 hr hs
  generalize prB pr = bp at *
  obtain ⟨EL, hEL⟩ : ∃ x, x = errV 1 := ⟨_, rfl⟩
  rw [← hEL] at HLE
  have HEL := hidM hEL
  clear hEL hL hX hY celX celY HTL HLA hI hA
  go_enter Tryd.func3, Tryd.ntmps3
  go_upto_region 1 with fail
  rw [← hV]
  clear hV
  obtain ⟨d0, d1, d2, d3, d4, d5, d6, d7, g0, g1, g2, g3, g4⟩ := HSO.out V (Below.refl _ _)
  have HB0 := hidM (Below.refl V.heap.size V)
  go_wp2_with fail
  refine (HRO.out _ HB0.out).mono ?_
  rintro e w1 ⟨rfl, hb⟩
  have HB1 := hidM hb
  clear d0 d1 d2 d3 d4 d5 d6 d7 g0 g1 g2 g3 g4 HB0
  obtain ⟨d0, d1, d2, d3, d4, d5, d6, d7, g0, g1, g2, g3, g4⟩ := HSO.out _ hb
  clear hb
  go_wp2_with fail
  refine (HDF.out _ HB1.out).mono ?_
  rintro e w2 ⟨rfl, hb⟩
  have HB2 := hidM hb
  clear d0 d1 d2 d3 d4 d5 d6 d7 g0 g1 g2 g3 g4 HB1
  obtain ⟨d0, d1, d2, d3, d4, d5, d6, d7, g0, g1, g2, g3, g4⟩ := HSO.out _ hb
  clear hb
  go_wp2_with fail
  refine (HFO.out _ HB2.out).mono ?_
  rintro e w3 ⟨rfl, hb⟩
  have HB3 := hidM hb
  clear d0 d1 d2 d3 d4 d5 d6 d7 g0 g1 g2 g3 g4 HB2
  obtain ⟨d0, d1, d2, d3, d4, d5, d6, d7, g0, g1, g2, g3, g4⟩ := HSO.out _ hb
  clear hb
  go_wp2_with fail
  refine (HER.out EF 0 _ HEF.out HB3.out).mono ?_
  rintro e w4 ⟨rfl, hb⟩
  have HB4 := hidM hb
  clear d0 d1 d2 d3 d4 d5 d6 d7 g0 g1 g2 g3 g4 HB3
  obtain ⟨d0, d1, d2, d3, d4, d5, d6, d7, g0, g1, g2, g3, g4⟩ := HSO.out _ hb
  clear hb
  go_wp2_with fail
  refine (HDB.out _ HB4.out).mono ?_
  rintro e w5 ⟨rfl, hb⟩
  have HB5 := hidM hb
  clear d0 d1 d2 d3 d4 d5 d6 d7 g0 g1 g2 g3 g4 HB4
  obtain ⟨d0, d1, d2, d3, d4, d5, d6, d7, g0, g1, g2, g3, g4⟩ := HSO.out _ hb
  clear hb
  go_wp2_with fail
  refine (HBA.out _ HB5.out).mono ?_
  rintro e w6 ⟨rfl, hb⟩
  have HB6 := hidM hb
  clear d0 d1 d2 d3 d4 d5 d6 d7 g0 g1 g2 g3 g4 HB5
  obtain ⟨d0, d1, d2, d3, d4, d5, d6, d7, g0, g1, g2, g3, g4⟩ := HSO.out _ hb
  clear hb
  go_wp2_with fail
  refine (HER.out EB BE _ HEB.out HB6.out).mono ?_
  rintro e w7 ⟨rfl, hb⟩
  have HB7 := hidM hb
  clear d0 d1 d2 d3 d4 d5 d6 d7 g0 g1 g2 g3 g4 HB6
  obtain ⟨d0, d1, d2, d3, d4, d5, d6, d7, g0, g1, g2, g3, g4⟩ := HSO.out _ hb
  clear hb
  go_wp2_with fail
  refine (HRR.out _ HB7.out).mono ?_
  rintro e w8 ⟨rfl, hb⟩
  have HB8 := hidM hb
  clear d0 d1 d2 d3 d4 d5 d6 d7 g0 g1 g2 g3 g4 HB7
  obtain ⟨d0, d1, d2, d3, d4, d5, d6, d7, g0, g1, g2, g3, g4⟩ := HSO.out _ hb
  clear hb
  go_wp2_with fail
  refine (HSD.out _ HB8.out).mono ?_
  rintro e w9 ⟨rfl, hb⟩
  have HB9 := hidM hb
  clear d0 d1 d2 d3 d4 d5 d6 d7 g0 g1 g2 g3 g4 HB8
  obtain ⟨d0, d1, d2, d3, d4, d5, d6, d7, g0, g1, g2, g3, g4⟩ := HSO.out _ hb
  clear hb
  go_wp2_with fail
  refine (HPR.out _ HB9.out).mono ?_
  rintro e w10 ⟨rfl, hb⟩
  have HB10 := hidM hb
  clear d0 d1 d2 d3 d4 d5 d6 d7 g0 g1 g2 g3 g4 HB9
  obtain ⟨d0, d1, d2, d3, d4, d5, d6, d7, g0, g1, g2, g3, g4⟩ := HSO.out _ hb
  clear hb
  go_wp2_with fail
  refine (HLE.out _ HB10.out).mono ?_
  rintro e w11 ⟨rfl, hb⟩
  have HB11 := hidM hb
  clear d0 d1 d2 d3 d4 d5 d6 d7 g0 g1 g2 g3 g4 HB10
  obtain ⟨d0, d1, d2, d3, d4, d5, d6, d7, g0, g1, g2, g3, g4⟩ := HSO.out _ hb
  clear hb
  go_wp2_with fail
  refine (HER.out EL 1 _ HEL.out HB11.out).mono ?_
  rintro e w12 ⟨rfl, hb⟩
  have HB12 := hidM hb
  clear d0 d1 d2 d3 d4 d5 d6 d7 g0 g1 g2 g3 g4 HB11
  obtain ⟨d0, d1, d2, d3, d4, d5, d6, d7, g0, g1, g2, g3, g4⟩ := HSO.out _ hb
  clear hb
  go_wp2_with fail
  go_ret
  exact ⟨rfl, HI.out.on (HA.out.trans (HB12.out.mono HA.out.size))⟩

set_option maxRecDepth 100000 in
set_option maxHeartbeats 4000000 in
theorem way_13 (a b c d p q s t r1 r2 r3 r4 r5 sd pr : Int) (v : Value) (ts : List T) (g : Int) (B w : World) (hI : told.Inv B w) (hL : TL w v ts) (h0 : chk ⟨a, b, c, d, p, q, s, t⟩ = 0) (hr : rchk ⟨r1, r2, r3, r4, r5⟩ = 0) (hs : sidB sd = true) (hp : prB pr = false) :
    Calls Tryd.prog 3 #[.agg #[.int .i64 a, .int .i64 b, .int .i64 c, .int .i64 d, .int .i64 p, .int .i64 q, .int .i64 s, .int .i64 t], .agg #[.int .i64 r1, .int .i64 r2, .int .i64 r3, .int .i64 r4, .int .i64 r5], .int .i64 sd, .int .i64 pr, v, .int .i64 g] w fun e w' => e = .returned (.bool true) ∧ told.Inv B w' := by
  have HI := hidM hI
  obtain ⟨V, hV⟩ : ∃ V, V = (w.alloc (.cells #[.int .i64 a, .int .i64 b, .int .i64 c, .int .i64 d, .int .i64 p, .int .i64 q, .int .i64 s, .int .i64 t] 23)).alloc (.cells #[.int .i64 r1, .int .i64 r2, .int .i64 r3, .int .i64 r4, .int .i64 r5] 25) := ⟨_, rfl⟩
  have hA : Below w.heap.size w V := by rw [hV]; exact ((Below.refl _ _).alloc (Nat.le_refl _) _).alloc (by simp) _
  have HA := hidM hA
  have hX : V.heap[w.heap.size]? = some (.cells #[.int .i64 a, .int .i64 b, .int .i64 c, .int .i64 d, .int .i64 p, .int .i64 q, .int .i64 s, .int .i64 t] 23 (0, 0)) := by
    rw [hV]
    exact (((Below.refl _ (w.alloc (.cells #[.int .i64 a, .int .i64 b, .int .i64 c, .int .i64 d, .int .i64 p, .int .i64 q, .int .i64 s, .int .i64 t] 23))).alloc (Nat.le_refl _) _).block w.heap.size (by simp)).trans (heap_alloc_new w _)
  have hY : V.heap[w.heap.size + 1]? = some (.cells #[.int .i64 r1, .int .i64 r2, .int .i64 r3, .int .i64 r4, .int .i64 r5] 25 (0, 0)) := by
    rw [hV]
    have := heap_alloc_new (w.alloc (.cells #[.int .i64 a, .int .i64 b, .int .i64 c, .int .i64 d, .int .i64 p, .int .i64 q, .int .i64 s, .int .i64 t] 23)) (.cells #[.int .i64 r1, .int .i64 r2, .int .i64 r3, .int .i64 r4, .int .i64 r5] 25)
    simpa using this
  have celX : ∀ i, V.cell? ⟨w.heap.size, i, none⟩ = (#[.int .i64 a, .int .i64 b, .int .i64 c, .int .i64 d, .int .i64 p, .int .i64 q, .int .i64 s, .int .i64 t] : Array Value)[i]? := fun i => by simp [World.cell?, hX]
  have celY : ∀ i, V.cell? ⟨w.heap.size + 1, i, none⟩ = (#[.int .i64 r1, .int .i64 r2, .int .i64 r3, .int .i64 r4, .int .i64 r5] : Array Value)[i]? := fun i => by simp [World.cell?, hY]
  have HSO : Hid (∀ W, Below V.heap.size V W → W.cell? ⟨w.heap.size, 0, none⟩ = some (.int .i64 a) ∧ W.cell? ⟨w.heap.size, 1, none⟩ = some (.int .i64 b) ∧ W.cell? ⟨w.heap.size, 2, none⟩ = some (.int .i64 c) ∧ W.cell? ⟨w.heap.size, 3, none⟩ = some (.int .i64 d) ∧ W.cell? ⟨w.heap.size, 4, none⟩ = some (.int .i64 p) ∧ W.cell? ⟨w.heap.size, 5, none⟩ = some (.int .i64 q) ∧ W.cell? ⟨w.heap.size, 6, none⟩ = some (.int .i64 s) ∧ W.cell? ⟨w.heap.size, 7, none⟩ = some (.int .i64 t) ∧ W.cell? ⟨w.heap.size + 1, 0, none⟩ = some (.int .i64 r1) ∧ W.cell? ⟨w.heap.size + 1, 1, none⟩ = some (.int .i64 r2) ∧ W.cell? ⟨w.heap.size + 1, 2, none⟩ = some (.int .i64 r3) ∧ W.cell? ⟨w.heap.size + 1, 3, none⟩ = some (.int .i64 r4) ∧ W.cell? ⟨w.heap.size + 1, 4, none⟩ = some (.int .i64 r5)) := fun W hW => ⟨keeps hW (celX 0), keeps hW (celX 1), keeps hW (celX 2), keeps hW (celX 3), keeps hW (celX 4), keeps hW (celX 5), keeps hW (celX 6), keeps hW (celX 7), keeps hW (celY 0), keeps hW (celY 1), keeps hW (celY 2), keeps hW (celY 3), keeps hW (celY 4)⟩
  have HLA : Hid (∀ W, Below V.heap.size V W → told.Laid W) := fun W hW => (hI.on (hA.trans (hW.mono hA.size))).laid
  have HER : Hid (∀ EV K W, EV = errV K → Below V.heap.size V W → Calls Tryd.prog 7 #[EV, .int .i64 K] W fun e w' => e = .returned (.bool true) ∧ Below V.heap.size V w') := fun EV K W h hW => upon (P := fun e => e = .returned (.bool true)) hW ((told_same h (HLA.out W hW)).mono fun _ _ h' => ⟨h'.1, h'.2.2⟩)
  have HTL : Hid (∀ W, Below V.heap.size V W → TL W v ts) := fun W hW => hL.below (hA.trans (hW.mono hA.size))
  have HRO : Hid (∀ W, Below V.heap.size V W → Calls Tryd.prog 4 #[.agg #[.int .i64 a, .int .i64 b, .int .i64 c, .int .i64 d, .int .i64 p, .int .i64 q, .int .i64 s, .int .i64 t]] W fun e w' => e = .returned (.int .i64 (chk ⟨a, b, c, d, p, q, s, t⟩)) ∧ Below V.heap.size V w') := fun W hW => upon (P := fun e => e = .returned (.int .i64 (chk ⟨a, b, c, d, p, q, s, t⟩))) hW (ord.rord_any ⟨a, b, c, d, p, q, s, t⟩ W)
  have HFO : Hid (∀ W, Below V.heap.size V W → Calls Tryd.prog 6 #[.agg #[.int .i64 a, .int .i64 b, .int .i64 c, .int .i64 d, .int .i64 p, .int .i64 q, .int .i64 s, .int .i64 t]] W fun e w' => e = .returned (.tuple #[.int .i64 (forC ⟨a, b, c, d, p, q, s, t⟩), .int .i64 (forS ⟨a, b, c, d, p, q, s, t⟩), errV (chk ⟨a, b, c, d, p, q, s, t⟩)]) ∧ Below V.heap.size V w') := fun W hW => upon (P := fun e => e = .returned (.tuple #[.int .i64 (forC ⟨a, b, c, d, p, q, s, t⟩), .int .i64 (forS ⟨a, b, c, d, p, q, s, t⟩), errV (chk ⟨a, b, c, d, p, q, s, t⟩)])) hW (for_any ⟨a, b, c, d, p, q, s, t⟩ W)
  have HBA : Hid (∀ W, Below V.heap.size V W → Calls Tryd.prog 9 #[.agg #[.int .i64 a, .int .i64 b, .int .i64 c, .int .i64 d, .int .i64 p, .int .i64 q, .int .i64 s, .int .i64 t], v, .int .i64 g] W fun e w' => e = .returned (.tuple #[.int .i64 (backC ⟨a, b, c, d, p, q, s, t⟩ ts g), .int .i64 (backS ⟨a, b, c, d, p, q, s, t⟩ ts g), errV (backE ⟨a, b, c, d, p, q, s, t⟩ ts g)]) ∧ Below V.heap.size V w') := fun W hW => upon (P := fun e => e = .returned (.tuple #[.int .i64 (backC ⟨a, b, c, d, p, q, s, t⟩ ts g), .int .i64 (backS ⟨a, b, c, d, p, q, s, t⟩ ts g), errV (backE ⟨a, b, c, d, p, q, s, t⟩ ts g)])) hW (back_any ⟨a, b, c, d, p, q, s, t⟩ v ts g W (HTL.out W hW))
  have HRR : Hid (∀ W, Below V.heap.size V W → Calls Tryd.prog 10 #[.agg #[.int .i64 r1, .int .i64 r2, .int .i64 r3, .int .i64 r4, .int .i64 r5]] W fun e w' => e = .returned (.int .i64 (rchk ⟨r1, r2, r3, r4, r5⟩)) ∧ Below V.heap.size V w') := fun W hW => upon (P := fun e => e = .returned (.int .i64 (rchk ⟨r1, r2, r3, r4, r5⟩))) hW (que.rrest_any r1 r2 r3 r4 r5 W)
  have HLE : Hid (∀ W, Below V.heap.size V W → Calls Tryd.prog 14 #[.agg #[.int .i64 r1, .int .i64 r2, .int .i64 r3, .int .i64 r4, .int .i64 r5], .int .i64 sd, .int .i64 pr] W fun e w' => e = .returned (.tuple #[.int .i64 (leftC ⟨r1, r2, r3, r4, r5⟩ sd pr), .int .i64 (leftS ⟨r1, r2, r3, r4, r5⟩ sd pr), errV (leftE ⟨r1, r2, r3, r4, r5⟩ sd pr)]) ∧ Below V.heap.size V w') := fun W hW => upon (P := fun e => e = .returned (.tuple #[.int .i64 (leftC ⟨r1, r2, r3, r4, r5⟩ sd pr), .int .i64 (leftS ⟨r1, r2, r3, r4, r5⟩ sd pr), errV (leftE ⟨r1, r2, r3, r4, r5⟩ sd pr)])) hW (left_any r1 r2 r3 r4 r5 sd pr W)
  have HSD : Hid (∀ W, Below V.heap.size V W → Calls Tryd.prog 11 #[.int .i64 sd] W fun e w' => e = .returned (.bool (sidB sd)) ∧ Below V.heap.size V w') := fun W hW => (ref_side sd W).mono fun _ _ h' => ⟨h'.1.trans (by rw [sd_is]), h'.2 ▸ hW⟩
  have HPR : Hid (∀ W, Below V.heap.size V W → Calls Tryd.prog 12 #[.int .i64 pr] W fun e w' => e = .returned (.bool (prB pr)) ∧ Below V.heap.size V w') := fun W hW => (ref_price pr W).mono fun _ _ h' => ⟨h'.1, h'.2 ▸ hW⟩
  have HDF : Hid (∀ W, Below V.heap.size V W → Calls Tryd.prog 5 #[.agg #[.int .i64 a, .int .i64 b, .int .i64 c, .int .i64 d, .int .i64 p, .int .i64 q, .int .i64 s, .int .i64 t]] W fun e w' => e = .returned (.tuple #[.int .i64 (forC ⟨a, b, c, d, p, q, s, t⟩), .int .i64 (forS ⟨a, b, c, d, p, q, s, t⟩)]) ∧ Below V.heap.size V w') := fun W hW => upon (P := fun e => e = .returned (.tuple #[.int .i64 (forC ⟨a, b, c, d, p, q, s, t⟩), .int .i64 (forS ⟨a, b, c, d, p, q, s, t⟩)])) hW (by
    have e1 : forC ⟨a, b, c, d, p, q, s, t⟩ = putC c (resv ⟨a, b, c, d, p, q, s, t⟩) q := if_pos h0
    have e2 : forS ⟨a, b, c, d, p, q, s, t⟩ = putS c q := if_pos h0
    rw [e1, e2]
    exact rfor_any a b c d p q s t W (ord_small h0).2.2.2.2)
  have HDB : Hid (∀ W, Below V.heap.size V W → Calls Tryd.prog 8 #[.agg #[.int .i64 a, .int .i64 b, .int .i64 c, .int .i64 d, .int .i64 p, .int .i64 q, .int .i64 s, .int .i64 t], v, .int .i64 g] W fun e w' => e = .returned (.tuple #[.int .i64 (backC ⟨a, b, c, d, p, q, s, t⟩ ts g), .int .i64 (backS ⟨a, b, c, d, p, q, s, t⟩ ts g), .int .i64 (backE ⟨a, b, c, d, p, q, s, t⟩ ts g)]) ∧ Below V.heap.size V w') := fun W hW => upon (P := fun e => e = .returned (.tuple #[.int .i64 (backC ⟨a, b, c, d, p, q, s, t⟩ ts g), .int .i64 (backS ⟨a, b, c, d, p, q, s, t⟩ ts g), .int .i64 (backE ⟨a, b, c, d, p, q, s, t⟩ ts g)])) hW (rback_any a b c d p q s t v ts g W h0 (HTL.out W hW))
  rw [h0] at HRO HFO
  obtain ⟨EB, hEB⟩ : ∃ x, x = errV (backE ⟨a, b, c, d, p, q, s, t⟩ ts g) := ⟨_, rfl⟩
  rw [← hEB] at HBA
  have HEB := hidM hEB
  obtain ⟨EF, hEF⟩ : ∃ x, x = errV 0 := ⟨_, rfl⟩
  rw [← hEF] at HFO
  have HEF := hidM hEF
  clear hEB hEF h0
  generalize forC ⟨a, b, c, d, p, q, s, t⟩ = FC at *
  generalize forS ⟨a, b, c, d, p, q, s, t⟩ = FS at *
  generalize backC ⟨a, b, c, d, p, q, s, t⟩ ts g = BC at *
  generalize backS ⟨a, b, c, d, p, q, s, t⟩ ts g = BS at *
  generalize backE ⟨a, b, c, d, p, q, s, t⟩ ts g = BE at *
  have e3 : leftE ⟨r1, r2, r3, r4, r5⟩ sd pr = 1 := by unfold leftE; rw [if_pos hr, hs]; rw [hp]; rfl
  have e4 : leftC ⟨r1, r2, r3, r4, r5⟩ sd pr = 0 := if_neg (by rw [e3]; decide)
  have e5 : leftS ⟨r1, r2, r3, r4, r5⟩ sd pr = 0 := if_neg (by rw [e3]; decide)
  rw [e3, e4, e5] at HLE
  rw [hr] at HRR
  rw [hs] at HSD
  clear e3 e4 e5 hr hs
  rw [hp] at HPR
  clear hp
  obtain ⟨EL, hEL⟩ : ∃ x, x = errV 1 := ⟨_, rfl⟩
  rw [← hEL] at HLE
  have HEL := hidM hEL
  clear hEL hL hX hY celX celY HTL HLA hI hA
  go_enter Tryd.func3, Tryd.ntmps3
  go_upto_region 1 with fail
  rw [← hV]
  clear hV
  obtain ⟨d0, d1, d2, d3, d4, d5, d6, d7, g0, g1, g2, g3, g4⟩ := HSO.out V (Below.refl _ _)
  have HB0 := hidM (Below.refl V.heap.size V)
  go_wp2_with fail
  refine (HRO.out _ HB0.out).mono ?_
  rintro e w1 ⟨rfl, hb⟩
  have HB1 := hidM hb
  clear d0 d1 d2 d3 d4 d5 d6 d7 g0 g1 g2 g3 g4 HB0
  obtain ⟨d0, d1, d2, d3, d4, d5, d6, d7, g0, g1, g2, g3, g4⟩ := HSO.out _ hb
  clear hb
  go_wp2_with fail
  refine (HDF.out _ HB1.out).mono ?_
  rintro e w2 ⟨rfl, hb⟩
  have HB2 := hidM hb
  clear d0 d1 d2 d3 d4 d5 d6 d7 g0 g1 g2 g3 g4 HB1
  obtain ⟨d0, d1, d2, d3, d4, d5, d6, d7, g0, g1, g2, g3, g4⟩ := HSO.out _ hb
  clear hb
  go_wp2_with fail
  refine (HFO.out _ HB2.out).mono ?_
  rintro e w3 ⟨rfl, hb⟩
  have HB3 := hidM hb
  clear d0 d1 d2 d3 d4 d5 d6 d7 g0 g1 g2 g3 g4 HB2
  obtain ⟨d0, d1, d2, d3, d4, d5, d6, d7, g0, g1, g2, g3, g4⟩ := HSO.out _ hb
  clear hb
  go_wp2_with fail
  refine (HER.out EF 0 _ HEF.out HB3.out).mono ?_
  rintro e w4 ⟨rfl, hb⟩
  have HB4 := hidM hb
  clear d0 d1 d2 d3 d4 d5 d6 d7 g0 g1 g2 g3 g4 HB3
  obtain ⟨d0, d1, d2, d3, d4, d5, d6, d7, g0, g1, g2, g3, g4⟩ := HSO.out _ hb
  clear hb
  go_wp2_with fail
  refine (HDB.out _ HB4.out).mono ?_
  rintro e w5 ⟨rfl, hb⟩
  have HB5 := hidM hb
  clear d0 d1 d2 d3 d4 d5 d6 d7 g0 g1 g2 g3 g4 HB4
  obtain ⟨d0, d1, d2, d3, d4, d5, d6, d7, g0, g1, g2, g3, g4⟩ := HSO.out _ hb
  clear hb
  go_wp2_with fail
  refine (HBA.out _ HB5.out).mono ?_
  rintro e w6 ⟨rfl, hb⟩
  have HB6 := hidM hb
  clear d0 d1 d2 d3 d4 d5 d6 d7 g0 g1 g2 g3 g4 HB5
  obtain ⟨d0, d1, d2, d3, d4, d5, d6, d7, g0, g1, g2, g3, g4⟩ := HSO.out _ hb
  clear hb
  go_wp2_with fail
  refine (HER.out EB BE _ HEB.out HB6.out).mono ?_
  rintro e w7 ⟨rfl, hb⟩
  have HB7 := hidM hb
  clear d0 d1 d2 d3 d4 d5 d6 d7 g0 g1 g2 g3 g4 HB6
  obtain ⟨d0, d1, d2, d3, d4, d5, d6, d7, g0, g1, g2, g3, g4⟩ := HSO.out _ hb
  clear hb
  go_wp2_with fail
  refine (HRR.out _ HB7.out).mono ?_
  rintro e w8 ⟨rfl, hb⟩
  have HB8 := hidM hb
  clear d0 d1 d2 d3 d4 d5 d6 d7 g0 g1 g2 g3 g4 HB7
  obtain ⟨d0, d1, d2, d3, d4, d5, d6, d7, g0, g1, g2, g3, g4⟩ := HSO.out _ hb
  clear hb
  go_wp2_with fail
  refine (HSD.out _ HB8.out).mono ?_
  rintro e w9 ⟨rfl, hb⟩
  have HB9 := hidM hb
  clear d0 d1 d2 d3 d4 d5 d6 d7 g0 g1 g2 g3 g4 HB8
  obtain ⟨d0, d1, d2, d3, d4, d5, d6, d7, g0, g1, g2, g3, g4⟩ := HSO.out _ hb
  clear hb
  go_wp2_with fail
  refine (HPR.out _ HB9.out).mono ?_
  rintro e w10 ⟨rfl, hb⟩
  have HB10 := hidM hb
  clear d0 d1 d2 d3 d4 d5 d6 d7 g0 g1 g2 g3 g4 HB9
  obtain ⟨d0, d1, d2, d3, d4, d5, d6, d7, g0, g1, g2, g3, g4⟩ := HSO.out _ hb
  clear hb
  go_wp2_with fail
  refine (HLE.out _ HB10.out).mono ?_
  rintro e w11 ⟨rfl, hb⟩
  have HB11 := hidM hb
  clear d0 d1 d2 d3 d4 d5 d6 d7 g0 g1 g2 g3 g4 HB10
  obtain ⟨d0, d1, d2, d3, d4, d5, d6, d7, g0, g1, g2, g3, g4⟩ := HSO.out _ hb
  clear hb
  go_wp2_with fail
  refine (HER.out EL 1 _ HEL.out HB11.out).mono ?_
  rintro e w12 ⟨rfl, hb⟩
  have HB12 := hidM hb
  clear d0 d1 d2 d3 d4 d5 d6 d7 g0 g1 g2 g3 g4 HB11
  obtain ⟨d0, d1, d2, d3, d4, d5, d6, d7, g0, g1, g2, g3, g4⟩ := HSO.out _ hb
  clear hb
  go_wp2_with fail
  go_ret
  exact ⟨rfl, HI.out.on (HA.out.trans (HB12.out.mono HA.out.size))⟩

set_option maxRecDepth 100000 in
set_option maxHeartbeats 4000000 in
theorem way_14 (a b c d p q s t r1 r2 r3 r4 r5 sd pr : Int) (v : Value) (ts : List T) (g : Int) (B w : World) (hI : told.Inv B w) (hL : TL w v ts) (h0 : chk ⟨a, b, c, d, p, q, s, t⟩ = 0) (hr : rchk ⟨r1, r2, r3, r4, r5⟩ = 0) (hs : sidB sd = true) (hp : prB pr = true) :
    Calls Tryd.prog 3 #[.agg #[.int .i64 a, .int .i64 b, .int .i64 c, .int .i64 d, .int .i64 p, .int .i64 q, .int .i64 s, .int .i64 t], .agg #[.int .i64 r1, .int .i64 r2, .int .i64 r3, .int .i64 r4, .int .i64 r5], .int .i64 sd, .int .i64 pr, v, .int .i64 g] w fun e w' => e = .returned (.bool true) ∧ told.Inv B w' := by
  have HI := hidM hI
  obtain ⟨V, hV⟩ : ∃ V, V = (w.alloc (.cells #[.int .i64 a, .int .i64 b, .int .i64 c, .int .i64 d, .int .i64 p, .int .i64 q, .int .i64 s, .int .i64 t] 23)).alloc (.cells #[.int .i64 r1, .int .i64 r2, .int .i64 r3, .int .i64 r4, .int .i64 r5] 25) := ⟨_, rfl⟩
  have hA : Below w.heap.size w V := by rw [hV]; exact ((Below.refl _ _).alloc (Nat.le_refl _) _).alloc (by simp) _
  have HA := hidM hA
  have hX : V.heap[w.heap.size]? = some (.cells #[.int .i64 a, .int .i64 b, .int .i64 c, .int .i64 d, .int .i64 p, .int .i64 q, .int .i64 s, .int .i64 t] 23 (0, 0)) := by
    rw [hV]
    exact (((Below.refl _ (w.alloc (.cells #[.int .i64 a, .int .i64 b, .int .i64 c, .int .i64 d, .int .i64 p, .int .i64 q, .int .i64 s, .int .i64 t] 23))).alloc (Nat.le_refl _) _).block w.heap.size (by simp)).trans (heap_alloc_new w _)
  have hY : V.heap[w.heap.size + 1]? = some (.cells #[.int .i64 r1, .int .i64 r2, .int .i64 r3, .int .i64 r4, .int .i64 r5] 25 (0, 0)) := by
    rw [hV]
    have := heap_alloc_new (w.alloc (.cells #[.int .i64 a, .int .i64 b, .int .i64 c, .int .i64 d, .int .i64 p, .int .i64 q, .int .i64 s, .int .i64 t] 23)) (.cells #[.int .i64 r1, .int .i64 r2, .int .i64 r3, .int .i64 r4, .int .i64 r5] 25)
    simpa using this
  have celX : ∀ i, V.cell? ⟨w.heap.size, i, none⟩ = (#[.int .i64 a, .int .i64 b, .int .i64 c, .int .i64 d, .int .i64 p, .int .i64 q, .int .i64 s, .int .i64 t] : Array Value)[i]? := fun i => by simp [World.cell?, hX]
  have celY : ∀ i, V.cell? ⟨w.heap.size + 1, i, none⟩ = (#[.int .i64 r1, .int .i64 r2, .int .i64 r3, .int .i64 r4, .int .i64 r5] : Array Value)[i]? := fun i => by simp [World.cell?, hY]
  have HSO : Hid (∀ W, Below V.heap.size V W → W.cell? ⟨w.heap.size, 0, none⟩ = some (.int .i64 a) ∧ W.cell? ⟨w.heap.size, 1, none⟩ = some (.int .i64 b) ∧ W.cell? ⟨w.heap.size, 2, none⟩ = some (.int .i64 c) ∧ W.cell? ⟨w.heap.size, 3, none⟩ = some (.int .i64 d) ∧ W.cell? ⟨w.heap.size, 4, none⟩ = some (.int .i64 p) ∧ W.cell? ⟨w.heap.size, 5, none⟩ = some (.int .i64 q) ∧ W.cell? ⟨w.heap.size, 6, none⟩ = some (.int .i64 s) ∧ W.cell? ⟨w.heap.size, 7, none⟩ = some (.int .i64 t) ∧ W.cell? ⟨w.heap.size + 1, 0, none⟩ = some (.int .i64 r1) ∧ W.cell? ⟨w.heap.size + 1, 1, none⟩ = some (.int .i64 r2) ∧ W.cell? ⟨w.heap.size + 1, 2, none⟩ = some (.int .i64 r3) ∧ W.cell? ⟨w.heap.size + 1, 3, none⟩ = some (.int .i64 r4) ∧ W.cell? ⟨w.heap.size + 1, 4, none⟩ = some (.int .i64 r5)) := fun W hW => ⟨keeps hW (celX 0), keeps hW (celX 1), keeps hW (celX 2), keeps hW (celX 3), keeps hW (celX 4), keeps hW (celX 5), keeps hW (celX 6), keeps hW (celX 7), keeps hW (celY 0), keeps hW (celY 1), keeps hW (celY 2), keeps hW (celY 3), keeps hW (celY 4)⟩
  have HLA : Hid (∀ W, Below V.heap.size V W → told.Laid W) := fun W hW => (hI.on (hA.trans (hW.mono hA.size))).laid
  have HER : Hid (∀ EV K W, EV = errV K → Below V.heap.size V W → Calls Tryd.prog 7 #[EV, .int .i64 K] W fun e w' => e = .returned (.bool true) ∧ Below V.heap.size V w') := fun EV K W h hW => upon (P := fun e => e = .returned (.bool true)) hW ((told_same h (HLA.out W hW)).mono fun _ _ h' => ⟨h'.1, h'.2.2⟩)
  have HTL : Hid (∀ W, Below V.heap.size V W → TL W v ts) := fun W hW => hL.below (hA.trans (hW.mono hA.size))
  have HRO : Hid (∀ W, Below V.heap.size V W → Calls Tryd.prog 4 #[.agg #[.int .i64 a, .int .i64 b, .int .i64 c, .int .i64 d, .int .i64 p, .int .i64 q, .int .i64 s, .int .i64 t]] W fun e w' => e = .returned (.int .i64 (chk ⟨a, b, c, d, p, q, s, t⟩)) ∧ Below V.heap.size V w') := fun W hW => upon (P := fun e => e = .returned (.int .i64 (chk ⟨a, b, c, d, p, q, s, t⟩))) hW (ord.rord_any ⟨a, b, c, d, p, q, s, t⟩ W)
  have HFO : Hid (∀ W, Below V.heap.size V W → Calls Tryd.prog 6 #[.agg #[.int .i64 a, .int .i64 b, .int .i64 c, .int .i64 d, .int .i64 p, .int .i64 q, .int .i64 s, .int .i64 t]] W fun e w' => e = .returned (.tuple #[.int .i64 (forC ⟨a, b, c, d, p, q, s, t⟩), .int .i64 (forS ⟨a, b, c, d, p, q, s, t⟩), errV (chk ⟨a, b, c, d, p, q, s, t⟩)]) ∧ Below V.heap.size V w') := fun W hW => upon (P := fun e => e = .returned (.tuple #[.int .i64 (forC ⟨a, b, c, d, p, q, s, t⟩), .int .i64 (forS ⟨a, b, c, d, p, q, s, t⟩), errV (chk ⟨a, b, c, d, p, q, s, t⟩)])) hW (for_any ⟨a, b, c, d, p, q, s, t⟩ W)
  have HBA : Hid (∀ W, Below V.heap.size V W → Calls Tryd.prog 9 #[.agg #[.int .i64 a, .int .i64 b, .int .i64 c, .int .i64 d, .int .i64 p, .int .i64 q, .int .i64 s, .int .i64 t], v, .int .i64 g] W fun e w' => e = .returned (.tuple #[.int .i64 (backC ⟨a, b, c, d, p, q, s, t⟩ ts g), .int .i64 (backS ⟨a, b, c, d, p, q, s, t⟩ ts g), errV (backE ⟨a, b, c, d, p, q, s, t⟩ ts g)]) ∧ Below V.heap.size V w') := fun W hW => upon (P := fun e => e = .returned (.tuple #[.int .i64 (backC ⟨a, b, c, d, p, q, s, t⟩ ts g), .int .i64 (backS ⟨a, b, c, d, p, q, s, t⟩ ts g), errV (backE ⟨a, b, c, d, p, q, s, t⟩ ts g)])) hW (back_any ⟨a, b, c, d, p, q, s, t⟩ v ts g W (HTL.out W hW))
  have HRR : Hid (∀ W, Below V.heap.size V W → Calls Tryd.prog 10 #[.agg #[.int .i64 r1, .int .i64 r2, .int .i64 r3, .int .i64 r4, .int .i64 r5]] W fun e w' => e = .returned (.int .i64 (rchk ⟨r1, r2, r3, r4, r5⟩)) ∧ Below V.heap.size V w') := fun W hW => upon (P := fun e => e = .returned (.int .i64 (rchk ⟨r1, r2, r3, r4, r5⟩))) hW (que.rrest_any r1 r2 r3 r4 r5 W)
  have HLE : Hid (∀ W, Below V.heap.size V W → Calls Tryd.prog 14 #[.agg #[.int .i64 r1, .int .i64 r2, .int .i64 r3, .int .i64 r4, .int .i64 r5], .int .i64 sd, .int .i64 pr] W fun e w' => e = .returned (.tuple #[.int .i64 (leftC ⟨r1, r2, r3, r4, r5⟩ sd pr), .int .i64 (leftS ⟨r1, r2, r3, r4, r5⟩ sd pr), errV (leftE ⟨r1, r2, r3, r4, r5⟩ sd pr)]) ∧ Below V.heap.size V w') := fun W hW => upon (P := fun e => e = .returned (.tuple #[.int .i64 (leftC ⟨r1, r2, r3, r4, r5⟩ sd pr), .int .i64 (leftS ⟨r1, r2, r3, r4, r5⟩ sd pr), errV (leftE ⟨r1, r2, r3, r4, r5⟩ sd pr)])) hW (left_any r1 r2 r3 r4 r5 sd pr W)
  have HSD : Hid (∀ W, Below V.heap.size V W → Calls Tryd.prog 11 #[.int .i64 sd] W fun e w' => e = .returned (.bool (sidB sd)) ∧ Below V.heap.size V w') := fun W hW => (ref_side sd W).mono fun _ _ h' => ⟨h'.1.trans (by rw [sd_is]), h'.2 ▸ hW⟩
  have HPR : Hid (∀ W, Below V.heap.size V W → Calls Tryd.prog 12 #[.int .i64 pr] W fun e w' => e = .returned (.bool (prB pr)) ∧ Below V.heap.size V w') := fun W hW => (ref_price pr W).mono fun _ _ h' => ⟨h'.1, h'.2 ▸ hW⟩
  have HDF : Hid (∀ W, Below V.heap.size V W → Calls Tryd.prog 5 #[.agg #[.int .i64 a, .int .i64 b, .int .i64 c, .int .i64 d, .int .i64 p, .int .i64 q, .int .i64 s, .int .i64 t]] W fun e w' => e = .returned (.tuple #[.int .i64 (forC ⟨a, b, c, d, p, q, s, t⟩), .int .i64 (forS ⟨a, b, c, d, p, q, s, t⟩)]) ∧ Below V.heap.size V w') := fun W hW => upon (P := fun e => e = .returned (.tuple #[.int .i64 (forC ⟨a, b, c, d, p, q, s, t⟩), .int .i64 (forS ⟨a, b, c, d, p, q, s, t⟩)])) hW (by
    have e1 : forC ⟨a, b, c, d, p, q, s, t⟩ = putC c (resv ⟨a, b, c, d, p, q, s, t⟩) q := if_pos h0
    have e2 : forS ⟨a, b, c, d, p, q, s, t⟩ = putS c q := if_pos h0
    rw [e1, e2]
    exact rfor_any a b c d p q s t W (ord_small h0).2.2.2.2)
  have HDB : Hid (∀ W, Below V.heap.size V W → Calls Tryd.prog 8 #[.agg #[.int .i64 a, .int .i64 b, .int .i64 c, .int .i64 d, .int .i64 p, .int .i64 q, .int .i64 s, .int .i64 t], v, .int .i64 g] W fun e w' => e = .returned (.tuple #[.int .i64 (backC ⟨a, b, c, d, p, q, s, t⟩ ts g), .int .i64 (backS ⟨a, b, c, d, p, q, s, t⟩ ts g), .int .i64 (backE ⟨a, b, c, d, p, q, s, t⟩ ts g)]) ∧ Below V.heap.size V w') := fun W hW => upon (P := fun e => e = .returned (.tuple #[.int .i64 (backC ⟨a, b, c, d, p, q, s, t⟩ ts g), .int .i64 (backS ⟨a, b, c, d, p, q, s, t⟩ ts g), .int .i64 (backE ⟨a, b, c, d, p, q, s, t⟩ ts g)])) hW (rback_any a b c d p q s t v ts g W h0 (HTL.out W hW))
  rw [h0] at HRO HFO
  obtain ⟨EB, hEB⟩ : ∃ x, x = errV (backE ⟨a, b, c, d, p, q, s, t⟩ ts g) := ⟨_, rfl⟩
  rw [← hEB] at HBA
  have HEB := hidM hEB
  obtain ⟨EF, hEF⟩ : ∃ x, x = errV 0 := ⟨_, rfl⟩
  rw [← hEF] at HFO
  have HEF := hidM hEF
  clear hEB hEF h0
  generalize forC ⟨a, b, c, d, p, q, s, t⟩ = FC at *
  generalize forS ⟨a, b, c, d, p, q, s, t⟩ = FS at *
  generalize backC ⟨a, b, c, d, p, q, s, t⟩ ts g = BC at *
  generalize backS ⟨a, b, c, d, p, q, s, t⟩ ts g = BS at *
  generalize backE ⟨a, b, c, d, p, q, s, t⟩ ts g = BE at *
  have e3 : leftE ⟨r1, r2, r3, r4, r5⟩ sd pr = 0 := by unfold leftE; rw [if_pos hr, hs, hp]; rfl
  have e4 : leftC ⟨r1, r2, r3, r4, r5⟩ sd pr = putC sd pr (r3 + r4) := if_pos e3
  have e5 : leftS ⟨r1, r2, r3, r4, r5⟩ sd pr = putS sd (r3 + r4) := if_pos e3
  have HDL : Hid (∀ W, Below V.heap.size V W → Calls Tryd.prog 13 #[.agg #[.int .i64 r1, .int .i64 r2, .int .i64 r3, .int .i64 r4, .int .i64 r5], .int .i64 sd, .int .i64 pr] W fun e w' => e = .returned (.tuple #[.int .i64 (leftC ⟨r1, r2, r3, r4, r5⟩ sd pr), .int .i64 (leftS ⟨r1, r2, r3, r4, r5⟩ sd pr)]) ∧ Below V.heap.size V w') := fun W hW => upon (P := fun e => e = .returned (.tuple #[.int .i64 (leftC ⟨r1, r2, r3, r4, r5⟩ sd pr), .int .i64 (leftS ⟨r1, r2, r3, r4, r5⟩ sd pr)])) hW (by
    rw [e4, e5]
    exact rleft_any r1 r2 r3 r4 r5 sd pr W (by simp [sidB] at hs; omega) hr)
  rw [e3] at HLE
  rw [hr] at HRR
  rw [hs] at HSD
  rw [hp] at HPR
  clear e3 e4 e5 hr hs hp
  generalize leftC ⟨r1, r2, r3, r4, r5⟩ sd pr = LC at *
  generalize leftS ⟨r1, r2, r3, r4, r5⟩ sd pr = LS at *
  obtain ⟨EL, hEL⟩ : ∃ x, x = errV 0 := ⟨_, rfl⟩
  rw [← hEL] at HLE
  have HEL := hidM hEL
  clear hEL hL hX hY celX celY HTL HLA hI hA
  go_enter Tryd.func3, Tryd.ntmps3
  go_upto_region 1 with fail
  rw [← hV]
  clear hV
  obtain ⟨d0, d1, d2, d3, d4, d5, d6, d7, g0, g1, g2, g3, g4⟩ := HSO.out V (Below.refl _ _)
  have HB0 := hidM (Below.refl V.heap.size V)
  go_wp2_with fail
  refine (HRO.out _ HB0.out).mono ?_
  rintro e w1 ⟨rfl, hb⟩
  have HB1 := hidM hb
  clear d0 d1 d2 d3 d4 d5 d6 d7 g0 g1 g2 g3 g4 HB0
  obtain ⟨d0, d1, d2, d3, d4, d5, d6, d7, g0, g1, g2, g3, g4⟩ := HSO.out _ hb
  clear hb
  go_wp2_with fail
  refine (HDF.out _ HB1.out).mono ?_
  rintro e w2 ⟨rfl, hb⟩
  have HB2 := hidM hb
  clear d0 d1 d2 d3 d4 d5 d6 d7 g0 g1 g2 g3 g4 HB1
  obtain ⟨d0, d1, d2, d3, d4, d5, d6, d7, g0, g1, g2, g3, g4⟩ := HSO.out _ hb
  clear hb
  go_wp2_with fail
  refine (HFO.out _ HB2.out).mono ?_
  rintro e w3 ⟨rfl, hb⟩
  have HB3 := hidM hb
  clear d0 d1 d2 d3 d4 d5 d6 d7 g0 g1 g2 g3 g4 HB2
  obtain ⟨d0, d1, d2, d3, d4, d5, d6, d7, g0, g1, g2, g3, g4⟩ := HSO.out _ hb
  clear hb
  go_wp2_with fail
  refine (HER.out EF 0 _ HEF.out HB3.out).mono ?_
  rintro e w4 ⟨rfl, hb⟩
  have HB4 := hidM hb
  clear d0 d1 d2 d3 d4 d5 d6 d7 g0 g1 g2 g3 g4 HB3
  obtain ⟨d0, d1, d2, d3, d4, d5, d6, d7, g0, g1, g2, g3, g4⟩ := HSO.out _ hb
  clear hb
  go_wp2_with fail
  refine (HDB.out _ HB4.out).mono ?_
  rintro e w5 ⟨rfl, hb⟩
  have HB5 := hidM hb
  clear d0 d1 d2 d3 d4 d5 d6 d7 g0 g1 g2 g3 g4 HB4
  obtain ⟨d0, d1, d2, d3, d4, d5, d6, d7, g0, g1, g2, g3, g4⟩ := HSO.out _ hb
  clear hb
  go_wp2_with fail
  refine (HBA.out _ HB5.out).mono ?_
  rintro e w6 ⟨rfl, hb⟩
  have HB6 := hidM hb
  clear d0 d1 d2 d3 d4 d5 d6 d7 g0 g1 g2 g3 g4 HB5
  obtain ⟨d0, d1, d2, d3, d4, d5, d6, d7, g0, g1, g2, g3, g4⟩ := HSO.out _ hb
  clear hb
  go_wp2_with fail
  refine (HER.out EB BE _ HEB.out HB6.out).mono ?_
  rintro e w7 ⟨rfl, hb⟩
  have HB7 := hidM hb
  clear d0 d1 d2 d3 d4 d5 d6 d7 g0 g1 g2 g3 g4 HB6
  obtain ⟨d0, d1, d2, d3, d4, d5, d6, d7, g0, g1, g2, g3, g4⟩ := HSO.out _ hb
  clear hb
  go_wp2_with fail
  refine (HRR.out _ HB7.out).mono ?_
  rintro e w8 ⟨rfl, hb⟩
  have HB8 := hidM hb
  clear d0 d1 d2 d3 d4 d5 d6 d7 g0 g1 g2 g3 g4 HB7
  obtain ⟨d0, d1, d2, d3, d4, d5, d6, d7, g0, g1, g2, g3, g4⟩ := HSO.out _ hb
  clear hb
  go_wp2_with fail
  refine (HSD.out _ HB8.out).mono ?_
  rintro e w9 ⟨rfl, hb⟩
  have HB9 := hidM hb
  clear d0 d1 d2 d3 d4 d5 d6 d7 g0 g1 g2 g3 g4 HB8
  obtain ⟨d0, d1, d2, d3, d4, d5, d6, d7, g0, g1, g2, g3, g4⟩ := HSO.out _ hb
  clear hb
  go_wp2_with fail
  refine (HPR.out _ HB9.out).mono ?_
  rintro e w10 ⟨rfl, hb⟩
  have HB10 := hidM hb
  clear d0 d1 d2 d3 d4 d5 d6 d7 g0 g1 g2 g3 g4 HB9
  obtain ⟨d0, d1, d2, d3, d4, d5, d6, d7, g0, g1, g2, g3, g4⟩ := HSO.out _ hb
  clear hb
  go_wp2_with fail
  refine (HDL.out _ HB10.out).mono ?_
  rintro e w11 ⟨rfl, hb⟩
  have HB11 := hidM hb
  clear d0 d1 d2 d3 d4 d5 d6 d7 g0 g1 g2 g3 g4 HB10
  obtain ⟨d0, d1, d2, d3, d4, d5, d6, d7, g0, g1, g2, g3, g4⟩ := HSO.out _ hb
  clear hb
  go_wp2_with fail
  refine (HLE.out _ HB11.out).mono ?_
  rintro e w12 ⟨rfl, hb⟩
  have HB12 := hidM hb
  clear d0 d1 d2 d3 d4 d5 d6 d7 g0 g1 g2 g3 g4 HB11
  obtain ⟨d0, d1, d2, d3, d4, d5, d6, d7, g0, g1, g2, g3, g4⟩ := HSO.out _ hb
  clear hb
  go_wp2_with fail
  refine (HER.out EL 0 _ HEL.out HB12.out).mono ?_
  rintro e w13 ⟨rfl, hb⟩
  have HB13 := hidM hb
  clear d0 d1 d2 d3 d4 d5 d6 d7 g0 g1 g2 g3 g4 HB12
  obtain ⟨d0, d1, d2, d3, d4, d5, d6, d7, g0, g1, g2, g3, g4⟩ := HSO.out _ hb
  clear hb
  go_wp2_with fail
  go_ret
  exact ⟨rfl, HI.out.on (HA.out.trans (HB13.out.mono HA.out.size))⟩
end Go.Proofs.YtgadjgnmhldfmaaDoor.mrg
