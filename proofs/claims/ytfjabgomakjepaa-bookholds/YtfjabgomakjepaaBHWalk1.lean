/- The walk of the law BookHolds. -/
import Derived.Test.YtfjabgomakjepaaBHPure
namespace Go.Proofs.Ytfjabgomakjepaa.bok
open Go.RowKit Go.Proofs.Ytfjabgomakjepaa.spn Go.Proofs.Ytfjabgomakjepaa.que Go.Proofs.Ytfjabgomakjepaa.sid

set_option maxRecDepth 100000 in
set_option maxHeartbeats 8000000 in
theorem holds_1 (p : Int) (q1 q2 : Option Addr) (n1 n2 c1 c2 : Nat) (a b c d e : Int) (bs ss : List L) (w : World) (h1 : LS w (.slice q1 n1 c1) bs) (h2 : LS w (.slice q2 n2 c2) ss) (h0 : putE bs ss 1 p ⟨a, b, c, d, e⟩ = 0) :
    Calls Try.prog 4 #[.agg #[.slice q1 n1 c1, .slice q2 n2 c2], .int .i64 1, .int .i64 p, .agg #[.int .i64 a, .int .i64 b, .int .i64 c, .int .i64 d, .int .i64 e]] w fun x w' => x = .returned (.bool true) ∧ Below w.heap.size w w' := by
  obtain ⟨hb, ha, hb2⟩ := put_zero h0
  have ha' : addE 1 bs p ⟨a, b, c, d, e⟩ = 0 := ha
  obtain ⟨-, -, hrc, -, -⟩ := add_zero ha'
  have hid : (Lit.int .i64 a).wf = true := wf_id hrc
  have hb2' : bookE (putL 1 p ⟨a, b, c, d, e⟩ bs) (ss) = 0 := hb2
  obtain ⟨i, k, hH⟩ := held_of ha'
  have hcn : (allR (putL 1 p ⟨a, b, c, d, e⟩ bs) ++ allR (ss)).length = (allR bs ++ allR ss).length + 1 := (count_put 1 p ⟨a, b, c, d, e⟩ ss bs).2
  have hle : (allR bs ++ allR ss).length ≤ 60 := (book_zero hb).2.2.2.2
  have HPU : Hid (∀ W, Below w.heap.size w W → Calls Try.prog 10 #[.agg #[.slice q1 n1 c1, .slice q2 n2 c2], .int .i64 1, .int .i64 p, .agg #[.int .i64 a, .int .i64 b, .int .i64 c, .int .i64 d, .int .i64 e]] W fun x w' => ∃ u1 u2 m1 m2 d1 d2, x = .returned (.tuple #[.agg #[.slice u1 m1 d1, .slice u2 m2 d2], .nilIface]) ∧ LS w' (.slice u1 m1 d1) (putL 1 p ⟨a, b, c, d, e⟩ bs) ∧ LS w' (.slice u2 m2 d2) (ss) ∧ Below W.heap.size W w') := fun W hW => (put_any 1 p q1 q2 n1 n2 c1 c2 a b c d e bs ss W (h1.below hW) (h2.below hW)).mono fun x w' h => by
    obtain ⟨u1, u2, m1, m2, d1, d2, g1, g2, g3, g4⟩ := h
    rw [h0, errV_zero] at g1
    rw [if_pos h0] at g2 g3
    exact ⟨u1, u2, m1, m2, d1, d2, g1, g2, g3, g4⟩
  have HLB : Hid (∀ W, Below w.heap.size w W → LS W (.slice q1 n1 c1) bs ∧ LS W (.slice q2 n2 c2) ss) := fun W hW => ⟨h1.below hW, h2.below hW⟩
  have HCB := fun W (hW : Below w.heap.size w W) => count_good q1 q2 n1 n2 c1 c2 bs ss W (h1.below hW) (h2.below hW) hb
  generalize (allR bs ++ allR ss).length = N at hcn hle HCB
  clear ha hb2 h0 hrc ha' h1 h2
  obtain ⟨X1, hX1⟩ : ∃ X1, X1 = putL 1 p ⟨a, b, c, d, e⟩ bs := ⟨_, rfl⟩
  obtain ⟨X2, hX2⟩ : ∃ X2, X2 = ss := ⟨_, rfl⟩
  rw [← hX1, ← hX2] at hb2' hcn HPU
  rw [← hX1] at hH
  obtain ⟨hi, hk, e1, e2, e3, e4, e5⟩ := hH
  have e3' : findE 1 X1 a = 0 := e3
  have e4' : findP 1 X1 a = ((i : Int), (k : Int)) := e4
  have HTOP := top_apart hb2'
  have HFI : Hid (∀ W u1 u2 m1 m2 d1 d2, LS W (.slice u1 m1 d1) X1 → LS W (.slice u2 m2 d2) X2 → Calls Try.prog 11 #[.agg #[.slice u1 m1 d1, .slice u2 m2 d2], .int .i64 a] W fun x w' => x = .returned (.tuple #[.int .i64 1, .int .i64 p, .agg #[.int .i64 a, .int .i64 b, .int .i64 c, .int .i64 d, .int .i64 e], .nilIface]) ∧ Below W.heap.size W w') := fun W u1 u2 m1 m2 d1 d2 g1 g2 => by
    have := find_in1 u1 u2 m1 m2 d1 d2 X1 X2 a hid i k W g1 g2 hb2' hi hk (by unfold findV; rw [e4', e3', errV_zero])
    rw [e1, e2] at this
    exact this
  have HCA : Hid (∀ W u1 u2 m1 m2 d1 d2, LS W (.slice u1 m1 d1) X1 → LS W (.slice u2 m2 d2) X2 → Calls Try.prog 12 #[.agg #[.slice u1 m1 d1, .slice u2 m2 d2], .int .i64 a] W fun x w' => ∃ y1 y2 l1 l2 g1 g2, x = .returned (.tuple #[.agg #[.slice y1 l1 g1, .slice y2 l2 g2], .agg #[.int .i64 a, .int .i64 b, .int .i64 c, .int .i64 d, .int .i64 e], .nilIface]) ∧ LS w' (.slice y1 l1 g1) bs ∧ LS w' (.slice y2 l2 g2) ss ∧ Below W.heap.size W w') := fun W u1 u2 m1 m2 d1 d2 g1 g2 => by
    have := cancel_in1 u1 u2 m1 m2 d1 d2 X1 X2 a hid i k W g1 g2 hb2' hi hk e3' e4'
    rw [e2, e5, hX2] at this
    exact this
  have HTO := fun W u1 u2 m1 m2 d1 d2 g1 g2 => top_good u1 u2 m1 m2 d1 d2 X1 X2 W g1 g2 hb2'
  have HCX := fun W u1 u2 m1 m2 d1 d2 g1 g2 => count_good u1 u2 m1 m2 d1 d2 X1 X2 W g1 g2 hb2'
  rw [hcn] at HCX
  generalize bestI X1 = tu at *
  generalize bestI X2 = tv at *
  have HNN : Hid (wrap64 ((N : Int) + 1) = ((N + 1 : Nat) : Int) ∧ IntKind.i64.wrap ((N : Int) + 1) = ((N + 1 : Nat) : Int)) := by
    have h1 : wrap64 ((N : Int) + 1) = ((N + 1 : Nat) : Int) := by unfold wrap64; omega
    exact ⟨h1, (IntWalk.i64_left _).trans h1⟩
  obtain ⟨V, hV⟩ : ∃ V, V = (w.alloc (.cells #[.slice q1 n1 c1, .slice q2 n2 c2] 40)).alloc (.cells #[.int .i64 a, .int .i64 b, .int .i64 c, .int .i64 d, .int .i64 e] 24) := ⟨_, rfl⟩
  have HB : Hid (Below w.heap.size w V) := by rw [hV]; exact ((Below.refl _ _).alloc (Nat.le_refl _) _).alloc (by simp) _
  have v0 : V.cell? ⟨w.heap.size, 0, none⟩ = some (.slice q1 n1 c1) := by rw [hV]; simp [go_sem]
  have v1 : V.cell? ⟨w.heap.size, 1, none⟩ = some (.slice q2 n2 c2) := by rw [hV]; simp [go_sem]
  have t0 : V.cell? ⟨w.heap.size + 1, 0, none⟩ = some (.int .i64 a) := by rw [hV]; simp [go_sem]
  have t1 : V.cell? ⟨w.heap.size + 1, 1, none⟩ = some (.int .i64 b) := by rw [hV]; simp [go_sem]
  have t2 : V.cell? ⟨w.heap.size + 1, 2, none⟩ = some (.int .i64 c) := by rw [hV]; simp [go_sem]
  have t3 : V.cell? ⟨w.heap.size + 1, 3, none⟩ = some (.int .i64 d) := by rw [hV]; simp [go_sem]
  have t4 : V.cell? ⟨w.heap.size + 1, 4, none⟩ = some (.int .i64 e) := by rw [hV]; simp [go_sem]
  have hVs : w.heap.size + 1 < V.heap.size := by rw [hV]; simp
  have HCELL : Hid (∀ W, Below V.heap.size V W → W.cell? ⟨w.heap.size, 0, none⟩ = some (.slice q1 n1 c1) ∧ W.cell? ⟨w.heap.size, 1, none⟩ = some (.slice q2 n2 c2) ∧ W.cell? ⟨w.heap.size + 1, 0, none⟩ = some (.int .i64 a) ∧ W.cell? ⟨w.heap.size + 1, 1, none⟩ = some (.int .i64 b) ∧ W.cell? ⟨w.heap.size + 1, 2, none⟩ = some (.int .i64 c) ∧ W.cell? ⟨w.heap.size + 1, 3, none⟩ = some (.int .i64 d) ∧ W.cell? ⟨w.heap.size + 1, 4, none⟩ = some (.int .i64 e) ∧ w.heap.size + 1 < W.heap.size ∧ w.heap.size < W.heap.size) := fun W hW => ⟨keeps hW v0, keeps hW v1, keeps hW t0, keeps hW t1, keeps hW t2, keeps hW t3, keeps hW t4, Nat.lt_of_lt_of_le hVs hW.size, Nat.lt_of_lt_of_le (Nat.lt_of_succ_lt hVs) hW.size⟩
  clear v0 v1 t0 t1 t2 t3 t4
  clear hb2' hcn hi hk e1 e2 e3 e4 e5 e3' e4' hX1 hX2 hid hb
  go_enter Try.func4, Try.ntmps4
  go_wp2_with fail
  rw [← hV]
  refine (fact_any V).mono ?_
  rintro x w1 ⟨f1, f2, f3, f4, rfl, b1⟩
  have H1 : Hid (Below V.heap.size V w1) := b1
  obtain ⟨x0, x1, x2, x3, x4, x5, x6, hs1, hs1'⟩ := HCELL.out w1 b1
  clear b1
  go_wp2_with fail
  have hA1 : Below w1.heap.size w1 (w1.alloc (.cells #[.slice f1 0 f3, .slice f2 1 f4] 40)) := (Below.refl _ _).alloc (Nat.le_refl _) _
  have H2 : Hid (Below V.heap.size V (w1.alloc (.cells #[.slice f1 0 f3, .slice f2 1 f4] 40))) := H1.out.trans (hA1.mono H1.out.size)
  generalize w1.alloc (.cells #[.slice f1 0 f3, .slice f2 1 f4] 40) = V1 at *
  clear hA1 x0 x1 x2 x3 x4 x5 x6 hs1 hs1' H1
  refine (HPU.out V1 (HB.out.trans (H2.out.mono HB.out.size))).mono ?_
  rintro x w2 ⟨u1, u2, m1, m2, d1, d2, rfl, hL1, hL2, b2⟩
  have H3 : Hid (Below V.heap.size V w2) := H2.out.trans (b2.mono H2.out.size)
  have HL : Hid (LS w2 (.slice u1 m1 d1) X1 ∧ LS w2 (.slice u2 m2 d2) X2) := ⟨hL1, hL2⟩
  obtain ⟨x0, x1, x2, x3, x4, x5, x6, hs1, hs1'⟩ := HCELL.out w2 H3.out
  clear b2 HPU hL1 hL2
  go_wp2_with fail
  have hA2 : Below w2.heap.size w2 (w2.alloc (.cells #[.slice u1 m1 d1, .slice u2 m2 d2] 40)) := (Below.refl _ _).alloc (Nat.le_refl _) _
  have hR2 := heap_alloc_new w2 (.cells #[.slice u1 m1 d1, .slice u2 m2 d2] 40)
  generalize w2.alloc (.cells #[.slice u1 m1 d1, .slice u2 m2 d2] 40) = V2 at *
  have HV2 : Hid (Below V.heap.size V V2) := H3.out.trans (hA2.mono H3.out.size)
  obtain ⟨p0, p1, -⟩ := rowTwo hR2
  have hsB : w2.heap.size < V2.heap.size := (Array.getElem?_eq_some_iff.1 hR2).1
  have HX : Hid (∀ W, Below V2.heap.size V2 W → W.cell? ⟨w2.heap.size, 0, none⟩ = some (.slice u1 m1 d1) ∧ W.cell? ⟨w2.heap.size, 1, none⟩ = some (.slice u2 m2 d2) ∧ w2.heap.size < W.heap.size ∧ LS W (.slice u1 m1 d1) X1 ∧ LS W (.slice u2 m2 d2) X2 ∧ Below V.heap.size V W ∧ Below w.heap.size w W) := fun W hW => by
    have hb := hA2.trans (hW.mono hA2.size)
    have hb3 := HV2.out.trans (hW.mono HV2.out.size)
    exact ⟨keeps hW p0, keeps hW p1, Nat.lt_of_lt_of_le hsB hW.size, HL.out.1.below hb, HL.out.2.below hb, hb3, HB.out.trans (hb3.mono HB.out.size)⟩
  clear hA2 hR2 p0 p1 x0 x1 x2 x3 x4 x5 x6 hs1 hs1' HL HV2
  generalize w2.heap.size = BX at *
  obtain ⟨-, -, -, g1, g2, -, -⟩ := HX.out V2 (Below.refl _ _)
  refine (HFI.out V2 u1 u2 m1 m2 d1 d2 g1 g2).mono ?_
  rintro x w3 ⟨rfl, b3⟩
  have H5 : Hid (Below V2.heap.size V2 w3) := b3
  obtain ⟨p0, p1, hsx, -, -, hbV, -⟩ := HX.out w3 b3
  obtain ⟨x0, x1, x2, x3, x4, x5, x6, hs1, hs1'⟩ := HCELL.out w3 hbV
  clear b3 g1 g2 HFI hbV
  go_wp2_with fail
  have hA3 : Below w3.heap.size w3 (w3.alloc (.cells #[.int .i64 a, .int .i64 b, .int .i64 c, .int .i64 d, .int .i64 e] 24)) := (Below.refl _ _).alloc (Nat.le_refl _) _
  have hR3 := heap_alloc_new w3 (.cells #[.int .i64 a, .int .i64 b, .int .i64 c, .int .i64 d, .int .i64 e] 24)
  generalize w3.alloc (.cells #[.int .i64 a, .int .i64 b, .int .i64 c, .int .i64 d, .int .i64 e] 24) = V3 at *
  have H6 : Hid (Below V2.heap.size V2 V3) := H5.out.trans (hA3.mono H5.out.size)
  obtain ⟨r0, r1, r2, r3, r4, -⟩ := rowFive hR3
  have hsC : w3.heap.size < V3.heap.size := (Array.getElem?_eq_some_iff.1 hR3).1
  have HZ : Hid (∀ W, Below V3.heap.size V3 W → W.cell? ⟨w3.heap.size, 0, none⟩ = some (.int .i64 a) ∧ W.cell? ⟨w3.heap.size, 1, none⟩ = some (.int .i64 b) ∧ W.cell? ⟨w3.heap.size, 2, none⟩ = some (.int .i64 c) ∧ W.cell? ⟨w3.heap.size, 3, none⟩ = some (.int .i64 d) ∧ W.cell? ⟨w3.heap.size, 4, none⟩ = some (.int .i64 e) ∧ w3.heap.size < W.heap.size) := fun W hW => ⟨keeps hW r0, keeps hW r1, keeps hW r2, keeps hW r3, keeps hW r4, Nat.lt_of_lt_of_le hsC hW.size⟩
  clear hA3 hR3 r0 r1 r2 r3 r4 p0 p1 hsx x0 x1 x2 x3 x4 x5 x6 hs1 hs1'
  generalize w3.heap.size = BZ at *
  obtain ⟨-, -, -, g1, g2, -, -⟩ := HX.out V3 H6.out
  refine (HCA.out V3 u1 u2 m1 m2 d1 d2 g1 g2).mono ?_
  rintro x w4 ⟨y1, y2, l1, l2, k1, k2, rfl, hM1, hM2, b4⟩
  have H7 : Hid (Below V3.heap.size V3 w4) := b4
  have HM : Hid (LS w4 (.slice y1 l1 k1) bs ∧ LS w4 (.slice y2 l2 k2) ss) := ⟨hM1, hM2⟩
  obtain ⟨-, -, -, -, -, hbV, -⟩ := HX.out w4 (H6.out.trans (b4.mono H6.out.size))
  obtain ⟨x0, x1, x2, x3, x4, x5, x6, hs1, hs1'⟩ := HCELL.out w4 hbV
  clear b4 g1 g2 HCA hM1 hM2 hbV
  go_wp2_with fail
  have hA4 : Below w4.heap.size w4 ((w4.alloc (.cells #[.slice y1 l1 k1, .slice y2 l2 k2] 40)).alloc (.cells #[.int .i64 a, .int .i64 b, .int .i64 c, .int .i64 d, .int .i64 e] 24)) := ((Below.refl _ _).alloc (Nat.le_refl _) _).alloc (by simp) _
  have hR5 : ((w4.alloc (.cells #[.slice y1 l1 k1, .slice y2 l2 k2] 40)).alloc (.cells #[.int .i64 a, .int .i64 b, .int .i64 c, .int .i64 d, .int .i64 e] 24)).heap[w4.heap.size + 1]? = some (.cells #[.int .i64 a, .int .i64 b, .int .i64 c, .int .i64 d, .int .i64 e] 24 (0, 0)) := by
    have := heap_alloc_new (w4.alloc (.cells #[.slice y1 l1 k1, .slice y2 l2 k2] 40)) (.cells #[.int .i64 a, .int .i64 b, .int .i64 c, .int .i64 d, .int .i64 e] 24)
    simpa using this
  generalize (w4.alloc (.cells #[.slice y1 l1 k1, .slice y2 l2 k2] 40)).alloc (.cells #[.int .i64 a, .int .i64 b, .int .i64 c, .int .i64 d, .int .i64 e] 24) = V4 at *
  obtain ⟨r0, r1, r2, r3, r4, -⟩ := rowFive hR5
  have hsD : w4.heap.size + 1 < V4.heap.size := (Array.getElem?_eq_some_iff.1 hR5).1
  have H8 : Hid (Below V3.heap.size V3 V4) := H7.out.trans (hA4.mono H7.out.size)
  have HM4 : Hid (LS V4 (.slice y1 l1 k1) bs ∧ LS V4 (.slice y2 l2 k2) ss) := ⟨HM.out.1.below hA4, HM.out.2.below hA4⟩
  have HQ : Hid (∀ W, Below V4.heap.size V4 W → W.cell? ⟨w4.heap.size + 1, 0, none⟩ = some (.int .i64 a) ∧ W.cell? ⟨w4.heap.size + 1, 1, none⟩ = some (.int .i64 b) ∧ W.cell? ⟨w4.heap.size + 1, 2, none⟩ = some (.int .i64 c) ∧ W.cell? ⟨w4.heap.size + 1, 3, none⟩ = some (.int .i64 d) ∧ W.cell? ⟨w4.heap.size + 1, 4, none⟩ = some (.int .i64 e) ∧ w4.heap.size + 1 < W.heap.size) := fun W hW => ⟨keeps hW r0, keeps hW r1, keeps hW r2, keeps hW r3, keeps hW r4, Nat.lt_of_lt_of_le hsD hW.size⟩
  have HW : Hid (∀ W, Below V4.heap.size V4 W → Below V3.heap.size V3 W ∧ Below V2.heap.size V2 W ∧ Below V.heap.size V W ∧ Below w.heap.size w W) := fun W hW => by
    have z3 := H8.out.trans (hW.mono H8.out.size)
    have z2 := H6.out.trans (z3.mono H6.out.size)
    exact ⟨z3, z2, (HX.out W z2).2.2.2.2.2.1, (HX.out W z2).2.2.2.2.2.2⟩
  clear hA4 hR5 r0 r1 r2 r3 r4 x0 x1 x2 x3 x4 x5 x6 hs1 hs1' HM
  generalize w4.heap.size = BY at *
  refine (book_same y1 y2 q1 q2 l1 l2 k1 k2 n1 n2 c1 c2 bs ss V4 HM4.out.1 HM4.out.2 (HLB.out V4 (HW.out V4 (Below.refl _ _)).2.2.2).1 (HLB.out V4 (HW.out V4 (Below.refl _ _)).2.2.2).2).mono ?_
  rintro x w5 ⟨rfl, b5⟩
  have H9 : Hid (Below V4.heap.size V4 w5) := b5
  obtain ⟨p0, p1, hsx, g1, g2, -, -⟩ := HX.out w5 (HW.out w5 b5).2.1
  clear b5
  go_wp2_with fail
  refine (HTO w5 u1 u2 m1 m2 d1 d2 g1 g2).mono ?_
  rintro x w6 ⟨rfl, b6⟩
  have H10 : Hid (Below V4.heap.size V4 w6) := H9.out.trans (b6.mono H9.out.size)
  clear b6 p0 p1 hsx g1 g2 HTO
  obtain ⟨p0, p1, hsx, g1, g2, -, -⟩ := HX.out w6 (HW.out w6 H10.out).2.1
  go_wp2_with fail
  refine (HCX w6 u1 u2 m1 m2 d1 d2 g1 g2).mono ?_
  rintro x w7 ⟨rfl, b7⟩
  have H11 : Hid (Below V4.heap.size V4 w7) := H10.out.trans (b7.mono H10.out.size)
  clear b7 p0 p1 hsx g1 g2 HCX
  obtain ⟨x0, x1, x2, x3, x4, x5, x6, hs1, hs1'⟩ := HCELL.out w7 (HW.out w7 H11.out).2.2.1
  go_wp2_with fail
  refine (HCB w7 (HW.out w7 H11.out).2.2.2).mono ?_
  rintro x w8 ⟨rfl, b8⟩
  have H12 : Hid (Below V4.heap.size V4 w8) := H11.out.trans (b8.mono H11.out.size)
  clear b8 HCB x0 x1 x2 x3 x4 x5 x6 hs1 hs1'
  obtain ⟨x0, x1, x2, x3, x4, x5, x6, hs1, hs1'⟩ := HCELL.out w8 (HW.out w8 H12.out).2.2.1
  obtain ⟨r0, r1, r2, r3, r4, hsr⟩ := HQ.out w8 H12.out
  obtain ⟨z0, z1, z2, z3, z4, hsz⟩ := HZ.out w8 (HW.out w8 H12.out).1
  have HFIN : Hid (Below w.heap.size w w8) := (HW.out w8 H12.out).2.2.2
  obtain ⟨nn1, nn2⟩ := HNN.out
  clear x0 x1
  rcases HTOP with ht | ht | ht
  · subst ht
    clear HCELL HQ HZ HW HX HLB HM4 hle
    go_wp2_with fail
    go_ret
    exact ⟨rfl, HFIN.out⟩
  · subst ht
    clear HCELL HQ HZ HW HX HLB HM4 hle
    go_wp2_with fail
    all_goals
      go_ret
      exact ⟨rfl, HFIN.out⟩
  · have ht2 : decide (tu < tv) = true := by simpa using ht
    clear HCELL HQ HZ HW HX HLB HM4 hle
    go_wp2_with fail
    all_goals
      go_ret
      exact ⟨rfl, HFIN.out⟩
end Go.Proofs.Ytfjabgomakjepaa.bok
