/- The walk of SwapKeeps where a rest keeps its place. -/
import Derived.Test.YtjphhieloicdeaaSKErr
namespace Go.Proofs.Ytjphhieloicdeaa.swp
open Go.RowKit Go.Proofs.Ytjphhieloicdeaa.spn Go.Proofs.Ytjphhieloicdeaa.que Go.Proofs.Ytjphhieloicdeaa.sid Go.Proofs.Ytjphhieloicdeaa.bok Go.Proofs.Ytjphhieloicdeaa.mee Go.Proofs.Ytjphhieloicdeaa.kin
open Go.Proofs.Ytjphhieloicdeaa.tickP (priceB)
open Go.Proofs.Ytjphhieloicdeaa.ord (O)

set_option maxRecDepth 100000 in
set_option maxHeartbeats 8000000 in
theorem sk_keep (q1 q2 : Option Addr) (n1 n2 c1 c2 : Nat) (bs ss : List L) (id s P r1 r2 r3 r4 r5 p qty : Int) (i k : Nat) (w : World) (h1 : LS w (.slice q1 n1 c1) bs) (h2 : LS w (.slice q2 n2 c2) ss) (hA : At bs ss id s P ⟨r1, r2, r3, r4, r5⟩ i k) (hpr : priceB p = true) (hq : (decide (1 ≤ qty) && decide (qty ≤ 10000)) = true) (hkb : keepB P ⟨r1, r2, r3, r4, r5⟩ p qty = true) :
    Calls Try.prog 3 #[.agg #[.slice q1 n1 c1, .slice q2 n2 c2], .int .i64 id, .int .i64 p, .int .i64 qty] w fun e w' => e = .returned (.bool true) ∧ Below w.heap.size w w' := by
  have hq2 : 1 ≤ qty ∧ qty ≤ 10000 := by simpa using hq
  have hpP : p = P ∧ qty ≤ r3 + r4 := by
    have h := hkb
    unfold keepB at h
    simpa using h
  have hwp : wrap64 (min r3 qty + (qty - min r3 qty)) = qty := by unfold wrap64; omega
  have hrl := rchk_less hA.rest hq2.1 hpP.2
  have hAK := hA.keep (r' := lessR ⟨r1, r2, r3, r4, r5⟩ qty) hA.id hrl
  have hdr := hA.drop (r' := lessR ⟨r1, r2, r3, r4, r5⟩ qty)
  have hpl := hA.place (r' := lessR ⟨r1, r2, r3, r4, r5⟩ qty) hA.id P
  obtain ⟨KB, hKB⟩ : ∃ KB, KB = kB s bs i k (lessR ⟨r1, r2, r3, r4, r5⟩ qty) := ⟨_, rfl⟩
  obtain ⟨KS, hKS⟩ : ∃ KS, KS = kS s ss i k (lessR ⟨r1, r2, r3, r4, r5⟩ qty) := ⟨_, rfl⟩
  rw [← hKB, ← hKS] at hAK hdr hpl
  rw [show lessR ⟨r1, r2, r3, r4, r5⟩ qty = ⟨r1, r2, min r3 qty, qty - min r3 qty, r5⟩ from rfl] at hAK
  have HDO : Hid (∀ W, LS W (.slice q1 n1 c1) bs → LS W (.slice q2 n2 c2) ss → Calls Try.prog 5 #[.agg #[.slice q1 n1 c1, .slice q2 n2 c2], .int .i64 id, .int .i64 p, .int .i64 qty] W fun e w' => ∃ u1 u2 m1 m2 d1 d2, e = .returned (.tuple #[.agg #[.slice u1 m1 d1, .slice u2 m2 d2], .slice none 0 0, .int .i64 0, .nilIface]) ∧ DL w' W.heap.size (.slice u1 m1 d1) KB ∧ DL w' W.heap.size (.slice u2 m2 d2) KS ∧ Below W.heap.size W w') := fun W g1 g2 => by
    rw [hKB, hKS]
    exact sdo_keep q1 q2 n1 n2 c1 c2 bs ss id s P r1 r2 r3 r4 r5 p qty i k W g1 g2 hA hpr hq hkb
  have HKP : Hid (∀ W, LS W (.slice q1 n1 c1) bs → LS W (.slice q2 n2 c2) ss → Calls Try.prog 6 #[.agg #[.slice q1 n1 c1, .slice q2 n2 c2], .int .i64 id, .int .i64 p, .int .i64 qty] W fun e w' => e = .returned (.tuple #[.bool true, .nilIface]) ∧ Below W.heap.size W w') := fun W g1 g2 => by
    have h := keeps_at q1 q2 n1 n2 c1 c2 bs ss id s P r1 r2 r3 r4 r5 p qty i k W g1 g2 hA hpr
    rw [hkb] at h
    exact h
  have HFB : Hid (∀ W, LS W (.slice q1 n1 c1) bs → LS W (.slice q2 n2 c2) ss → Calls Try.prog 7 #[.agg #[.slice q1 n1 c1, .slice q2 n2 c2], .int .i64 id] W fun e w' => e = .returned (.tuple #[.int .i64 s, .int .i64 P, .agg #[.int .i64 r1, .int .i64 r2, .int .i64 r3, .int .i64 r4, .int .i64 r5], .nilIface]) ∧ Below W.heap.size W w') := fun W g1 g2 => bfind_at q1 q2 n1 n2 c1 c2 bs ss id s P r1 r2 r3 r4 r5 i k W g1 g2 hA
  have HCB : Hid (∀ W, LS W (.slice q1 n1 c1) bs → LS W (.slice q2 n2 c2) ss → Calls Try.prog 9 #[.agg #[.slice q1 n1 c1, .slice q2 n2 c2], .int .i64 id] W fun e w' => ∃ u1 u2 m1 m2 d1 d2, e = .returned (.tuple #[.agg #[.slice u1 m1 d1, .slice u2 m2 d2], .agg #[.int .i64 r1, .int .i64 r2, .int .i64 r3, .int .i64 r4, .int .i64 r5], .nilIface]) ∧ LS w' (.slice u1 m1 d1) (cB s bs i k) ∧ LS w' (.slice u2 m2 d2) (cS s ss i k) ∧ Below W.heap.size W w') := fun W g1 g2 =>
    (bcancel_at q1 q2 n1 n2 c1 c2 bs ss id s P r1 r2 r3 r4 r5 i k W g1 g2 hA).mono fun e w' h => by
      obtain ⟨u1, u2, m1, m2, d1, d2, e1, e2, e3, e4⟩ := h
      exact ⟨u1, u2, m1, m2, d1, d2, e1, e2.ls, e3.ls, e4⟩
  have HPB : Hid (∀ W, LS W (.slice q1 n1 c1) bs → LS W (.slice q2 n2 c2) ss → Calls Try.prog 11 #[.agg #[.slice q1 n1 c1, .slice q2 n2 c2], .int .i64 s, .int .i64 P, .int .i64 id] W fun e w' => e = .returned (.int .i64 (placeV P id (if s = 1 then bs else ss))) ∧ Below W.heap.size W w') := fun W g1 g2 => place_any s P id q1 q2 n1 n2 c1 c2 bs ss W g1 g2 hA.book
  obtain ⟨M, hM⟩ : ∃ M, M = min r3 qty := ⟨_, rfl⟩
  obtain ⟨N, hN⟩ : ∃ N, N = qty - M := ⟨_, rfl⟩
  rw [← hM] at hwp hAK
  rw [← hN] at hwp hAK
  have HX : Hid (∀ W x1 x2 y1 y2 z1 z2, LS W (.slice x1 y1 z1) KB → LS W (.slice x2 y2 z2) KS →
      (Calls Try.prog 7 #[.agg #[.slice x1 y1 z1, .slice x2 y2 z2], .int .i64 id] W fun e w' => e = .returned (.tuple #[.int .i64 s, .int .i64 P, .agg #[.int .i64 r1, .int .i64 r2, .int .i64 M, .int .i64 N, .int .i64 r5], .nilIface]) ∧ Below W.heap.size W w') ∧
      (Calls Try.prog 8 #[.agg #[.slice x1 y1 z1, .slice x2 y2 z2]] W fun e w' => e = .returned .nilIface ∧ Below W.heap.size W w') ∧
      (Calls Try.prog 9 #[.agg #[.slice x1 y1 z1, .slice x2 y2 z2], .int .i64 id] W fun e w' => ∃ u1 u2 m1 m2 d1 d2, e = .returned (.tuple #[.agg #[.slice u1 m1 d1, .slice u2 m2 d2], .agg #[.int .i64 r1, .int .i64 r2, .int .i64 M, .int .i64 N, .int .i64 r5], .nilIface]) ∧ LS w' (.slice u1 m1 d1) (cB s bs i k) ∧ LS w' (.slice u2 m2 d2) (cS s ss i k) ∧ Below W.heap.size W w') ∧
      (Calls Try.prog 11 #[.agg #[.slice x1 y1 z1, .slice x2 y2 z2], .int .i64 s, .int .i64 P, .int .i64 id] W fun e w' => e = .returned (.int .i64 (placeV P id (if s = 1 then bs else ss))) ∧ Below W.heap.size W w')) := fun W x1 x2 y1 y2 z1 z2 g1 g2 => by
    refine ⟨bfind_at x1 x2 y1 y2 z1 z2 KB KS id s P r1 r2 M N r5 i k W g1 g2 hAK, ?_, ?_, ?_⟩
    · have h := check_any x1 x2 y1 y2 z1 z2 KB KS W g1 g2
      rw [hAK.book, errV_zero] at h
      exact h
    · refine (bcancel_at x1 x2 y1 y2 z1 z2 KB KS id s P r1 r2 M N r5 i k W g1 g2 hAK).mono ?_
      rintro e w' ⟨u1, u2, m1, m2, d1, d2, e1, e2, e3, e4⟩
      rw [hdr.1] at e2
      rw [hdr.2] at e3
      exact ⟨u1, u2, m1, m2, d1, d2, e1, e2.ls, e3.ls, e4⟩
    · have h := place_any s P id x1 x2 y1 y2 z1 z2 KB KS W g1 g2 hAK.book
      rw [hpl] at h
      exact h
  obtain ⟨hpP1, -⟩ := hpP
  subst hpP1
  generalize placeV p id (if s = 1 then bs else ss) = PL at *
  generalize cB s bs i k = CB at *
  generalize cS s ss i k = CS at *
  clear hAK hdr hpl hKB hKS hrl hA hpr hq hkb hq2 hM hN
  obtain ⟨V0, hV0⟩ : ∃ V0, V0 = w.alloc (.cells #[.slice q1 n1 c1, .slice q2 n2 c2] 24) := ⟨_, rfl⟩
  obtain ⟨w2, hw2⟩ : ∃ w2, w2 = (V0.alloc (.cells #[.int .i64 1, .int .i64 1, .int .i64 5, .int .i64 4, .int .i64 5, .int .i64 2, .int .i64 2, .int .i64 4, .int .i64 0, .int .i64 0] 26)).alloc (.cells #[.int .i64 100, .slice (some ⟨V0.heap.size, 0, none⟩) 2 2] 29) := ⟨_, rfl⟩
  obtain ⟨V, hV⟩ : ∃ V, V = w2.alloc (.cells #[.slice (some ⟨V0.heap.size + 1, 0, none⟩) 1 1, .slice none 0 0] 24) := ⟨_, rfl⟩
  have hs1 : V0.heap.size = w.heap.size + 1 := by rw [hV0]; simp
  have hB1 : Below w.heap.size w V0 := by rw [hV0]; exact (Below.refl _ _).alloc (Nat.le_refl _) _
  have hB2 : Below V0.heap.size V0 w2 := by rw [hw2]; exact ((Below.refl _ _).alloc (Nat.le_refl _) _).alloc (by simp) _
  have hB3 : Below w2.heap.size w2 V := by rw [hV]; exact (Below.refl _ _).alloc (Nat.le_refl _) _
  have hB0V := hB2.trans (hB3.mono hB2.size)
  have hL2 : LS w2 (.slice (some ⟨V0.heap.size + 1, 0, none⟩) 1 1) (lsB 5 4 5) := by rw [hw2]; exact two_lay 1 1 5 4 5 V0
  have hRG : V0.heap[w.heap.size]? = some (.cells #[.slice q1 n1 c1, .slice q2 n2 c2] 24 (0, 0)) := by rw [hV0]; exact heap_alloc_new w _
  obtain ⟨G, hG⟩ : ∃ G, G = w.heap.size := ⟨_, rfl⟩
  rw [← hG] at hRG
  have hGV : G < V0.heap.size := (Array.getElem?_eq_some_iff.1 hRG).1
  have HSO : Hid (∀ W, Below V0.heap.size V0 W → (Below w.heap.size w W ∧ LS W (.slice q1 n1 c1) bs ∧ LS W (.slice q2 n2 c2) ss) ∧ W.cell? ⟨G, 0, none⟩ = some (.slice q1 n1 c1) ∧ W.cell? ⟨G, 1, none⟩ = some (.slice q2 n2 c2)) := fun W hW => by
    have hw := hB1.trans (hW.mono hB1.size)
    obtain ⟨y0, y1, -⟩ := rowTwo ((hW.block G hGV).trans hRG)
    exact ⟨⟨hw, h1.below hw, h2.below hw⟩, y0, y1⟩
  have HFD := hidW (fix_do (some ⟨V0.heap.size + 1, 0, none⟩) 1 1 V (hL2.below hB3))
  have HBV := hidW hB0V
  obtain ⟨LV, hLV⟩ : ∃ LV, LV = w.heap.size + 2 := ⟨_, rfl⟩
  have hLV2 : LV = w.heap.size + 1 + 1 := by omega
  rw [show V0.heap.size + 1 = LV by omega] at HFD
  clear hL2 hB2 hB3 hB0V hRG hGV h1 h2 hB1
  go_enter Try.func3, Try.ntmps3
  go_wp2_with fail
  rw [hs1] at hw2 hV
  rw [← hV0]
  rw [← hw2]
  rw [← hV]
  try simp only [← hLV]
  try simp only [← hLV2]
  simp only [← hG]
  clear hV0 hw2 hV hG hs1 hLV hLV2
  refine HFD.out.mono ?_
  rintro x w3 ⟨u1, u2, m1, m2, d1, d2, rfl, D1, b3⟩
  have hBa : Below w3.heap.size w3 (w3.alloc (.cells #[.slice u1 m1 d1, .slice u2 m2 d2] 24)) := (Below.refl _ _).alloc (Nat.le_refl _) _
  have hRF : (w3.alloc (.cells #[.slice u1 m1 d1, .slice u2 m2 d2] 24)).heap[w3.heap.size]? = some (.cells #[.slice u1 m1 d1, .slice u2 m2 d2] 24 (0, 0)) := heap_alloc_new w3 _
  have hb4 := b3.trans (hBa.mono b3.size)
  have HW4 := hidW (HBV.out.trans (hb4.mono HBV.out.size))
  obtain ⟨fb, fo, frb, fro, frc, rfl, rfl, k1, k2, k3⟩ := fact_cells (D1.below hBa)
  clear D1 b3 hBa hb4 HFD HBV
  go_upto_region 3 with fail
  generalize w3.alloc (.cells #[.slice (some ⟨fb, fo, none⟩) 1 d1, .slice u2 m2 d2] 24) = W4 at *
  generalize w3.heap.size = FB at *
  obtain ⟨t0, t1, -⟩ := rowTwo hRF
  obtain ⟨-, g0, g1⟩ := HSO.out W4 HW4.out
  go_wp2_with fail
  clear k1 k2 k3 t0 t1 hRF g0 g1
  obtain ⟨⟨hBW, hL1, hL2⟩, -, -⟩ := HSO.out W4 HW4.out
  have HD4 := hidW (HDO.out W4 hL1 hL2)
  clear hBW hL1 hL2 HDO
  refine HD4.out.mono ?_
  rintro x w5 ⟨x1, x2, y1, y2, z1, z2, rfl, D1, D2, b5⟩
  have hBa : Below w5.heap.size w5 (w5.alloc (.cells #[.slice x1 y1 z1, .slice x2 y2 z2] 24)) := (Below.refl _ _).alloc (Nat.le_refl _) _
  have hRX : (w5.alloc (.cells #[.slice x1 y1 z1, .slice x2 y2 z2] 24)).heap[w5.heap.size]? = some (.cells #[.slice x1 y1 z1, .slice x2 y2 z2] 24 (0, 0)) := heap_alloc_new w5 _
  have hb6 := b5.trans (hBa.mono b5.size)
  have HW6 := hidW (HW4.out.trans (hb6.mono HW4.out.size))
  have HLX := hidW (And.intro (D1.ls.below hBa) (D2.ls.below hBa))
  clear D1 D2 b5 hBa hb6 HW4 HD4
  go_upto_if 112 with fail
  generalize w5.alloc (.cells #[.slice x1 y1 z1, .slice x2 y2 z2] 24) = W6 at *
  generalize w5.heap.size = XB at *
  have HSX : Hid (∀ W, Below W6.heap.size W6 W → (Below V0.heap.size V0 W ∧ Below w.heap.size w W ∧ LS W (.slice q1 n1 c1) bs ∧ LS W (.slice q2 n2 c2) ss ∧ LS W (.slice x1 y1 z1) KB ∧ LS W (.slice x2 y2 z2) KS) ∧ W.cell? ⟨G, 0, none⟩ = some (.slice q1 n1 c1) ∧ W.cell? ⟨G, 1, none⟩ = some (.slice q2 n2 c2) ∧ W.cell? ⟨XB, 0, none⟩ = some (.slice x1 y1 z1) ∧ W.cell? ⟨XB, 1, none⟩ = some (.slice x2 y2 z2)) := fun W hW => by
    have h0 := HW6.out.trans (hW.mono HW6.out.size)
    obtain ⟨⟨a1, a2, a3⟩, a4, a5⟩ := HSO.out W h0
    obtain ⟨a6, a7, -⟩ := rowTwo ((hW.block XB (Array.getElem?_eq_some_iff.1 hRX).1).trans hRX)
    exact ⟨⟨h0, a1, a2, a3, HLX.out.1.below hW, HLX.out.2.below hW⟩, a4, a5, a6, a7⟩
  clear hRX HLX HW6 HSO
  obtain ⟨⟨-, -, hL1, hL2, -, -⟩, g0, g1, -, -⟩ := HSX.out W6 (Below.refl _ _)
  have HK6 := hidW (HKP.out W6 hL1 hL2)
  clear hL1 hL2 HKP
  go_wp2_with fail
  refine HK6.out.mono ?_
  rintro x w7 ⟨rfl, b7⟩
  have HB7 := hidW b7
  clear b7 HK6 g0 g1
  obtain ⟨⟨-, -, hL1, hL2, -, -⟩, g0, g1, -, -⟩ := HSX.out w7 HB7.out
  have HF7 := hidW (HFB.out w7 hL1 hL2)
  clear hL1 hL2 HFB
  go_wp2_with fail
  refine HF7.out.mono ?_
  rintro x w8 ⟨rfl, b8⟩
  have hBa : Below w8.heap.size w8 (w8.alloc (.cells #[.int .i64 r1, .int .i64 r2, .int .i64 r3, .int .i64 r4, .int .i64 r5] 26)) := (Below.refl _ _).alloc (Nat.le_refl _) _
  have hRR : (w8.alloc (.cells #[.int .i64 r1, .int .i64 r2, .int .i64 r3, .int .i64 r4, .int .i64 r5] 26)).heap[w8.heap.size]? = some (.cells #[.int .i64 r1, .int .i64 r2, .int .i64 r3, .int .i64 r4, .int .i64 r5] 26 (0, 0)) := heap_alloc_new w8 _
  have hb9 := b8.trans (hBa.mono b8.size)
  have HB9 := hidW (HB7.out.trans (hb9.mono HB7.out.size))
  clear b8 hBa hb9 HF7 HB7 g0 g1
  go_upto_if 138 with fail
  generalize w8.alloc (.cells #[.int .i64 r1, .int .i64 r2, .int .i64 r3, .int .i64 r4, .int .i64 r5] 26) = W9 at *
  generalize w8.heap.size = RB at *
  obtain ⟨⟨-, -, -, -, hK1, hK2⟩, -, -, g2, g3⟩ := HSX.out W9 HB9.out
  have HF9 := hidW (HX.out W9 x1 x2 y1 y2 z1 z2 hK1 hK2).1
  clear hK1 hK2
  go_wp2_with fail
  refine HF9.out.mono ?_
  rintro x w10 ⟨rfl, b10⟩
  have hBa : Below w10.heap.size w10 (w10.alloc (.cells #[.int .i64 r1, .int .i64 r2, .int .i64 M, .int .i64 N, .int .i64 r5] 26)) := (Below.refl _ _).alloc (Nat.le_refl _) _
  have hRZ : (w10.alloc (.cells #[.int .i64 r1, .int .i64 r2, .int .i64 M, .int .i64 N, .int .i64 r5] 26)).heap[w10.heap.size]? = some (.cells #[.int .i64 r1, .int .i64 r2, .int .i64 M, .int .i64 N, .int .i64 r5] 26 (0, 0)) := heap_alloc_new w10 _
  have hb11 := b10.trans (hBa.mono b10.size)
  have HB11 := hidW (HB9.out.trans (hb11.mono HB9.out.size))
  have hRR11 := (hb11.block RB (Array.getElem?_eq_some_iff.1 hRR).1).trans hRR
  clear b10 hBa hb11 HF9 HB9 g2 g3 hRR
  go_upto_region 14 with fail
  generalize w10.alloc (.cells #[.int .i64 r1, .int .i64 r2, .int .i64 M, .int .i64 N, .int .i64 r5] 26) = W11 at *
  generalize w10.heap.size = ZB at *
  obtain ⟨-, e1, e2, e3, -, -⟩ := rowFive hRZ
  obtain ⟨-, e1', -⟩ := rowFive hRR11
  obtain ⟨⟨-, -, -, -, hK1, hK2⟩, -, -, g2, g3⟩ := HSX.out W11 HB11.out
  have HC11 := hidW (HX.out W11 x1 x2 y1 y2 z1 z2 hK1 hK2).2.1
  have hn1 : (s != s) = false := by simp
  have hn2 : (p != p) = false := by simp
  have hn3 : (qty != qty) = false := by simp
  have hn4 : (r2 != r2) = false := by simp
  clear hK1 hK2 hRZ hRR11
  go_wp2_with fail
  refine HC11.out.mono ?_
  rintro x w12 ⟨rfl, b12⟩
  have HB12 := hidW (HB11.out.trans (b12.mono HB11.out.size))
  clear b12 HC11 HB11 g2 g3 e1 e2 e3 e1' hn1 hn2 hn3 hn4 hwp
  obtain ⟨⟨-, -, -, -, hK1, hK2⟩, -, -, g2, g3⟩ := HSX.out w12 HB12.out
  have HA12 := hidW (HX.out w12 x1 x2 y1 y2 z1 z2 hK1 hK2).2.2.1
  clear hK1 hK2
  go_wp2_with fail
  refine HA12.out.mono ?_
  rintro x w13 ⟨a1, a2, f1, f2, j1, j2, rfl, LA1, LA2, b13⟩
  obtain ⟨W14, hW14⟩ : ∃ W14, W14 = (w13.alloc (.cells #[.slice a1 f1 j1, .slice a2 f2 j2] 24)).alloc (.cells #[.int .i64 r1, .int .i64 r2, .int .i64 M, .int .i64 N, .int .i64 r5] 26) := ⟨_, rfl⟩
  have hb14 : Below w13.heap.size w13 W14 := by rw [hW14]; exact ((Below.refl _ _).alloc (Nat.le_refl _) _).alloc (by simp) _
  have hRA : W14.heap[w13.heap.size]? = some (.cells #[.slice a1 f1 j1, .slice a2 f2 j2] 24 (0, 0)) := by
    rw [hW14, ((Below.refl _ _).alloc (Nat.le_refl _) _).block _ (by simp)]; exact heap_alloc_new w13 _
  have hb1314 := b13.trans (hb14.mono b13.size)
  have HB14 := hidW (HB12.out.trans (hb1314.mono HB12.out.size))
  have HLA := hidW (And.intro (LA1.below hb14) (LA2.below hb14))
  clear LA1 LA2 b13 hb14 hb1314 HA12 HB12 g2 g3
  go_upto_region 17 with fail
  rw [← hW14]
  clear hW14
  generalize w13.heap.size = AB at *
  obtain ⟨⟨-, -, hL1, hL2, -, -⟩, g0, g1, -, -⟩ := HSX.out W14 HB14.out
  have HC14 := hidW (HCB.out W14 hL1 hL2)
  clear hL1 hL2 HCB
  go_wp2_with fail
  refine HC14.out.mono ?_
  rintro x w15 ⟨o1, o2, v1, v2, l1, l2, rfl, LC1, LC2, b15⟩
  obtain ⟨W16, hW16⟩ : ∃ W16, W16 = (w15.alloc (.cells #[.slice o1 v1 l1, .slice o2 v2 l2] 24)).alloc (.cells #[.int .i64 r1, .int .i64 r2, .int .i64 r3, .int .i64 r4, .int .i64 r5] 26) := ⟨_, rfl⟩
  have hb16 : Below w15.heap.size w15 W16 := by rw [hW16]; exact ((Below.refl _ _).alloc (Nat.le_refl _) _).alloc (by simp) _
  have hRC : W16.heap[w15.heap.size]? = some (.cells #[.slice o1 v1 l1, .slice o2 v2 l2] 24 (0, 0)) := by
    rw [hW16, ((Below.refl _ _).alloc (Nat.le_refl _) _).block _ (by simp)]; exact heap_alloc_new w15 _
  have hb1516 := b15.trans (hb16.mono b15.size)
  have HB16 := hidW (HB14.out.trans (hb1516.mono HB14.out.size))
  have HLC := hidW (book_same a1 a2 o1 o2 f1 f2 j1 j2 v1 v2 l1 l2 CB CS W16 (HLA.out.1.below hb1516) (HLA.out.2.below hb1516) (LC1.below hb16) (LC2.below hb16))
  have hRA16 := (hb1516.block AB (Array.getElem?_eq_some_iff.1 hRA).1).trans hRA
  clear LC1 LC2 b15 hb16 hb1516 HC14 HB14 g0 g1 HLA hRA
  go_upto_region 18 with fail
  rw [← hW16]
  clear hW16
  generalize w15.heap.size = CBk at *
  obtain ⟨p0, p1, -⟩ := rowTwo hRA16
  obtain ⟨p2, p3, -⟩ := rowTwo hRC
  go_wp2_with fail
  refine HLC.out.mono ?_
  rintro x w17 ⟨rfl, b17⟩
  have HB17 := hidW (HB16.out.trans (b17.mono HB16.out.size))
  clear b17 HLC HB16 p0 p1 p2 p3 hRA16 hRC
  have HPX : Hid (∀ W, Below W6.heap.size W6 W → Calls Try.prog 11 #[.agg #[.slice x1 y1 z1, .slice x2 y2 z2], .int .i64 s, .int .i64 p, .int .i64 id] W fun e w' => e = .returned (.int .i64 PL) ∧ Below W6.heap.size W6 w') := fun W hW => by
    obtain ⟨⟨-, -, -, -, hK1, hK2⟩, -⟩ := HSX.out W hW
    refine (HX.out W x1 x2 y1 y2 z1 z2 hK1 hK2).2.2.2.mono ?_
    rintro e w' ⟨rfl, b⟩
    exact ⟨rfl, hW.trans (b.mono hW.size)⟩
  have HPY : Hid (∀ W, Below W6.heap.size W6 W → Calls Try.prog 11 #[.agg #[.slice q1 n1 c1, .slice q2 n2 c2], .int .i64 s, .int .i64 p, .int .i64 id] W fun e w' => e = .returned (.int .i64 PL) ∧ Below W6.heap.size W6 w') := fun W hW => by
    obtain ⟨⟨-, -, hL1, hL2, -, -⟩, -⟩ := HSX.out W hW
    refine (HPB.out W hL1 hL2).mono ?_
    rintro e w' ⟨rfl, b⟩
    exact ⟨rfl, hW.trans (b.mono hW.size)⟩
  have HSY : Hid (∀ W, Below W6.heap.size W6 W → Below W6.heap.size W6 W ∧ W.cell? ⟨G, 0, none⟩ = some (.slice q1 n1 c1) ∧ W.cell? ⟨G, 1, none⟩ = some (.slice q2 n2 c2) ∧ W.cell? ⟨XB, 0, none⟩ = some (.slice x1 y1 z1) ∧ W.cell? ⟨XB, 1, none⟩ = some (.slice x2 y2 z2)) := fun W hW => ⟨hW, (HSX.out W hW).2⟩
  have HEND : Hid (∀ W, Below W6.heap.size W6 W → Below w.heap.size w W) := fun W hW => (HSX.out W hW).1.2.1
  obtain ⟨b0, g0, g1, g2, g3⟩ := HSY.out w17 HB17.out
  have hPL : (PL == PL) = true := by simp
  clear HX HPB HSX
  go_upto_region 19 with fail
  go_region_held3 (fun W => Below W6.heap.size W6 W ∧ W.cell? ⟨G, 0, none⟩ = some (.slice q1 n1 c1) ∧ W.cell? ⟨G, 1, none⟩ = some (.slice q2 n2 c2) ∧ W.cell? ⟨XB, 0, none⟩ = some (.slice x1 y1 z1) ∧ W.cell? ⟨XB, 1, none⟩ = some (.slice x2 y2 z2))
    ((refine HSY.out _ ?_; (repeat' (first | with_reducible assumption | with_reducible refine Below.drew ?_))))
    ((first | (go_at_call 11; with_reducible refine (HPX.out _ ?_).mono ?_; (repeat' (first | with_reducible assumption | with_reducible refine Below.drew ?_)); rintro x Wa ⟨rfl, hba⟩) | (go_at_call 11; with_reducible refine (HPY.out _ ?_).mono ?_; (repeat' (first | with_reducible assumption | with_reducible refine Below.drew ?_)); rintro x Wb ⟨rfl, hbb⟩)))
  all_goals
    go_wp2_with fail
    go_ret
    exact ⟨rfl, HEND.out _ (by first | with_reducible assumption | (refine Below.drew ?_; with_reducible assumption))⟩
end Go.Proofs.Ytjphhieloicdeaa.swp
