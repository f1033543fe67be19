/- The walk of SwapKeeps where a rest goes, and comes anew. The walk of SwapKeeps. -/
import Derived.Test.YtjphhieloicdeaaSKErr
import Derived.Test.YtjphhieloicdeaaSKKeep
namespace Go.Proofs.Ytjphhieloicdeaa.swp
open Go.RowKit Go.Proofs.Ytjphhieloicdeaa.spn Go.Proofs.Ytjphhieloicdeaa.que Go.Proofs.Ytjphhieloicdeaa.sid Go.Proofs.Ytjphhieloicdeaa.bok Go.Proofs.Ytjphhieloicdeaa.mee Go.Proofs.Ytjphhieloicdeaa.kin
open Go.Proofs.Ytjphhieloicdeaa.tickP (priceB)
open Go.Proofs.Ytjphhieloicdeaa.ord (O)

set_option maxRecDepth 100000 in
set_option maxHeartbeats 8000000 in
theorem sk_new (q1 q2 : Option Addr) (n1 n2 c1 c2 : Nat) (bs ss : List L) (id s P r1 r2 r3 r4 r5 p qty : Int) (i k : Nat) (w : World) (h1 : LS w (.slice q1 n1 c1) bs) (h2 : LS w (.slice q2 n2 c2) ss) (hA : At bs ss id s P ⟨r1, r2, r3, r4, r5⟩ i k) (hpr : priceB p = true) (hq : (decide (1 ≤ qty) && decide (qty ≤ 10000)) = true) (hkb : keepB P ⟨r1, r2, r3, r4, r5⟩ p qty = false) (hE : kdoE (cB s bs i k) (cS s ss i k) ⟨r1, r2, s, 1, p, qty, min r5 qty, 0⟩ = 0) :
    Calls Try.prog 3 #[.agg #[.slice q1 n1 c1, .slice q2 n2 c2], .int .i64 id, .int .i64 p, .int .i64 qty] w fun e w' => e = .returned (.bool true) ∧ Below w.heap.size w w' := by
  obtain rfl : r1 = id := hA.id
  have hMM : ∃ MM, MM = min r5 qty ∧ ((qty < r5 ∧ MM = qty) ∨ (¬ qty < r5 ∧ MM = r5)) := ⟨_, rfl, by omega⟩
  obtain ⟨MM, hMM, hMC⟩ := hMM
  rw [← hMM] at hE
  obtain ⟨CB, hCB⟩ : ∃ CB, CB = cB s bs i k := ⟨_, rfl⟩
  obtain ⟨CS, hCS⟩ : ∃ CS, CS = cS s ss i k := ⟨_, rfl⟩
  rw [← hCB, ← hCS] at hE
  have hG0 : kdoG CB CS ⟨r1, r2, s, 1, p, qty, MM, 0⟩ = 0 := gone_none rfl
  have hTL : (metR CB CS ⟨r1, r2, s, 1, p, qty, MM, 0⟩).2.1.length ≤ 400 := (doE_zero (kdo_zero hE).1).2
  obtain ⟨KB, hKB⟩ : ∃ KB, KB = kdoB CB CS ⟨r1, r2, s, 1, p, qty, MM, 0⟩ := ⟨_, rfl⟩
  obtain ⟨KS, hKS⟩ : ∃ KS, KS = kdoS CB CS ⟨r1, r2, s, 1, p, qty, MM, 0⟩ := ⟨_, rfl⟩
  obtain ⟨TT, hTT⟩ : ∃ TT, TT = (metR CB CS ⟨r1, r2, s, 1, p, qty, MM, 0⟩).2.1 := ⟨_, rfl⟩
  rw [← hTT] at hTL
  have hpost : ∀ W e w', KDPost CB CS ⟨r1, r2, s, 1, p, qty, MM, 0⟩ W e w' → ∃ x1 x2 y1 y2 z1 z2 tq tn tc, e = .returned (.tuple #[.agg #[.slice x1 y1 z1, .slice x2 y2 z2], .slice tq tn tc, .int .i64 0, .nilIface]) ∧ LS w' (.slice x1 y1 z1) KB ∧ LS w' (.slice x2 y2 z2) KS ∧ OwnT w' W.heap.size (.slice tq tn tc) TT ∧ Below W.heap.size W w' := fun W e w' h => by
    obtain ⟨x1, x2, y1, y2, z1, z2, tv, rfl, g1, g2, g3⟩ := h.1 hE
    obtain ⟨tq, tc, rfl⟩ := OwnM.form g3
    rw [hG0]
    exact ⟨x1, x2, y1, y2, z1, z2, tq, _, tc, rfl, by rw [hKB]; exact g1.ls, by rw [hKS]; exact g2.ls, by rw [hTT]; exact g3, h.2.2⟩
  have HDO : Hid (∀ W, LS W (.slice q1 n1 c1) bs → LS W (.slice q2 n2 c2) ss → Calls Try.prog 5 #[.agg #[.slice q1 n1 c1, .slice q2 n2 c2], .int .i64 r1, .int .i64 p, .int .i64 qty] W fun e w' => ∃ x1 x2 y1 y2 z1 z2 tq tn tc, e = .returned (.tuple #[.agg #[.slice x1 y1 z1, .slice x2 y2 z2], .slice tq tn tc, .int .i64 0, .nilIface]) ∧ LS w' (.slice x1 y1 z1) KB ∧ LS w' (.slice x2 y2 z2) KS ∧ OwnT w' W.heap.size (.slice tq tn tc) TT ∧ Below W.heap.size W w') := fun W g1 g2 => by
    have h := sdo_new q1 q2 n1 n2 c1 c2 bs ss r1 s P r1 r2 r3 r4 r5 p qty i k W g1 g2 hA hpr hq hkb
    rw [← hMM, ← hCB, ← hCS] at h
    exact h.mono (fun e w' h => hpost W e w' h)
  have HKD : Hid (∀ W x1 x2 y1 y2 z1 z2, LS W (.slice x1 y1 z1) CB → LS W (.slice x2 y2 z2) CS → Calls Try.prog 12 #[.agg #[.slice x1 y1 z1, .slice x2 y2 z2], .agg #[.int .i64 r1, .int .i64 r2, .int .i64 s, .int .i64 1, .int .i64 p, .int .i64 qty, .int .i64 MM, .int .i64 0]] W fun e w' => ∃ x1 x2 y1 y2 z1 z2 tq tn tc, e = .returned (.tuple #[.agg #[.slice x1 y1 z1, .slice x2 y2 z2], .slice tq tn tc, .int .i64 0, .nilIface]) ∧ LS w' (.slice x1 y1 z1) KB ∧ LS w' (.slice x2 y2 z2) KS ∧ OwnT w' W.heap.size (.slice tq tn tc) TT ∧ Below W.heap.size W w') := fun W x1 x2 y1 y2 z1 z2 g1 g2 =>
    (kdo_any x1 x2 y1 y2 z1 z2 CB CS r1 r2 s 1 p qty MM 0 W g1 g2).mono (fun e w' h => hpost W e w' h)
  have HKP : Hid (∀ W, LS W (.slice q1 n1 c1) bs → LS W (.slice q2 n2 c2) ss → Calls Try.prog 6 #[.agg #[.slice q1 n1 c1, .slice q2 n2 c2], .int .i64 r1, .int .i64 p, .int .i64 qty] W fun e w' => e = .returned (.tuple #[.bool false, .nilIface]) ∧ Below W.heap.size W w') := fun W g1 g2 => by
    have h := keeps_at q1 q2 n1 n2 c1 c2 bs ss r1 s P r1 r2 r3 r4 r5 p qty i k W g1 g2 hA hpr
    rw [hkb] at h
    exact h
  have HFB : Hid (∀ W, LS W (.slice q1 n1 c1) bs → LS W (.slice q2 n2 c2) ss → Calls Try.prog 7 #[.agg #[.slice q1 n1 c1, .slice q2 n2 c2], .int .i64 r1] W fun e w' => e = .returned (.tuple #[.int .i64 s, .int .i64 P, .agg #[.int .i64 r1, .int .i64 r2, .int .i64 r3, .int .i64 r4, .int .i64 r5], .nilIface]) ∧ Below W.heap.size W w') := fun W g1 g2 => bfind_at q1 q2 n1 n2 c1 c2 bs ss r1 s P r1 r2 r3 r4 r5 i k W g1 g2 hA
  have HCB : Hid (∀ W, LS W (.slice q1 n1 c1) bs → LS W (.slice q2 n2 c2) ss → Calls Try.prog 9 #[.agg #[.slice q1 n1 c1, .slice q2 n2 c2], .int .i64 r1] W fun e w' => ∃ u1 u2 m1 m2 d1 d2, e = .returned (.tuple #[.agg #[.slice u1 m1 d1, .slice u2 m2 d2], .agg #[.int .i64 r1, .int .i64 r2, .int .i64 r3, .int .i64 r4, .int .i64 r5], .nilIface]) ∧ LS w' (.slice u1 m1 d1) CB ∧ LS w' (.slice u2 m2 d2) CS ∧ Below W.heap.size W w') := fun W g1 g2 =>
    (bcancel_at q1 q2 n1 n2 c1 c2 bs ss r1 s P r1 r2 r3 r4 r5 i k W g1 g2 hA).mono fun e w' h => by
      obtain ⟨u1, u2, m1, m2, d1, d2, e1, e2, e3, e4⟩ := h
      exact ⟨u1, u2, m1, m2, d1, d2, e1, by rw [hCB]; exact e2.ls, by rw [hCS]; exact e3.ls, e4⟩
  have HTL := hidW hTL
  have HMC := hidW hMC
  clear hA hpr hq hkb hE hG0 hTL hpost hKB hKS hTT hCB hCS hMM hMC
  obtain ⟨V0, hV0⟩ : ∃ V0, V0 = w.alloc (.cells #[.slice q1 n1 c1, .slice q2 n2 c2] 24) := ⟨_, rfl⟩
  obtain ⟨w2, hw2⟩ : ∃ w2, w2 = (V0.alloc (.cells #[.int .i64 1, .int .i64 1, .int .i64 5, .int .i64 4, .int .i64 5, .int .i64 2, .int .i64 2, .int .i64 4, .int .i64 0, .int .i64 0] 26)).alloc (.cells #[.int .i64 100, .slice (some ⟨V0.heap.size, 0, none⟩) 2 2] 29) := ⟨_, rfl⟩
  obtain ⟨V, hV⟩ : ∃ V, V = w2.alloc (.cells #[.slice (some ⟨V0.heap.size + 1, 0, none⟩) 1 1, .slice none 0 0] 24) := ⟨_, rfl⟩
  have hs1 : V0.heap.size = w.heap.size + 1 := by rw [hV0]; simp
  have hB1 : Below w.heap.size w V0 := by rw [hV0]; exact (Below.refl _ _).alloc (Nat.le_refl _) _
  have hB2 : Below V0.heap.size V0 w2 := by rw [hw2]; exact ((Below.refl _ _).alloc (Nat.le_refl _) _).alloc (by simp) _
  have hB3 : Below w2.heap.size w2 V := by rw [hV]; exact (Below.refl _ _).alloc (Nat.le_refl _) _
  have hB0V := hB2.trans (hB3.mono hB2.size)
  have hL2 : LS w2 (.slice (some ⟨V0.heap.size + 1, 0, none⟩) 1 1) (lsB 5 4 5) := by rw [hw2]; exact two_lay 1 1 5 4 5 V0
  have hRG : V0.heap[w.heap.size]? = some (.cells #[.slice q1 n1 c1, .slice q2 n2 c2] 24 (0, 0)) := by rw [hV0]; exact heap_alloc_new w _
  obtain ⟨G, hG⟩ : ∃ G, G = w.heap.size := ⟨_, rfl⟩
  rw [← hG] at hRG
  have hGV : G < V0.heap.size := (Array.getElem?_eq_some_iff.1 hRG).1
  have HSO : Hid (∀ W, Below V0.heap.size V0 W → (Below w.heap.size w W ∧ LS W (.slice q1 n1 c1) bs ∧ LS W (.slice q2 n2 c2) ss) ∧ W.cell? ⟨G, 0, none⟩ = some (.slice q1 n1 c1) ∧ W.cell? ⟨G, 1, none⟩ = some (.slice q2 n2 c2)) := fun W hW => by
    have hw := hB1.trans (hW.mono hB1.size)
    obtain ⟨y0, y1, -⟩ := rowTwo ((hW.block G hGV).trans hRG)
    exact ⟨⟨hw, h1.below hw, h2.below hw⟩, y0, y1⟩
  have HFD := hidW (fix_do (some ⟨V0.heap.size + 1, 0, none⟩) 1 1 V (hL2.below hB3))
  have HBV := hidW hB0V
  obtain ⟨LV, hLV⟩ : ∃ LV, LV = w.heap.size + 2 := ⟨_, rfl⟩
  have hLV2 : LV = w.heap.size + 1 + 1 := by omega
  rw [show V0.heap.size + 1 = LV by omega] at HFD
  clear hL2 hB2 hB3 hB0V hRG hGV h1 h2 hB1
  go_enter Try.func3, Try.ntmps3
  go_wp2_with fail
  rw [hs1] at hw2 hV
  rw [← hV0]
  rw [← hw2]
  rw [← hV]
  try simp only [← hLV]
  try simp only [← hLV2]
  simp only [← hG]
  clear hV0 hw2 hV hG hs1 hLV hLV2
  refine HFD.out.mono ?_
  rintro x w3 ⟨u1, u2, m1, m2, d1, d2, rfl, D1, b3⟩
  have hBa : Below w3.heap.size w3 (w3.alloc (.cells #[.slice u1 m1 d1, .slice u2 m2 d2] 24)) := (Below.refl _ _).alloc (Nat.le_refl _) _
  have hRF : (w3.alloc (.cells #[.slice u1 m1 d1, .slice u2 m2 d2] 24)).heap[w3.heap.size]? = some (.cells #[.slice u1 m1 d1, .slice u2 m2 d2] 24 (0, 0)) := heap_alloc_new w3 _
  have hb4 := b3.trans (hBa.mono b3.size)
  have HW4 := hidW (HBV.out.trans (hb4.mono HBV.out.size))
  obtain ⟨fb, fo, frb, fro, frc, rfl, rfl, k1, k2, k3⟩ := fact_cells (D1.below hBa)
  clear D1 b3 hBa hb4 HFD HBV
  go_upto_region 3 with fail
  generalize w3.alloc (.cells #[.slice (some ⟨fb, fo, none⟩) 1 d1, .slice u2 m2 d2] 24) = W4 at *
  generalize w3.heap.size = FB at *
  obtain ⟨t0, t1, -⟩ := rowTwo hRF
  obtain ⟨-, g0, g1⟩ := HSO.out W4 HW4.out
  go_wp2_with fail
  clear k1 k2 k3 t0 t1 hRF g0 g1
  obtain ⟨⟨hBW, hL1, hL2⟩, -, -⟩ := HSO.out W4 HW4.out
  have HD4 := hidW (HDO.out W4 hL1 hL2)
  clear hBW hL1 hL2 HDO
  refine HD4.out.mono ?_
  rintro x w5 ⟨x1, x2, y1, y2, z1, z2, tq, tn, tc, rfl, D1, D2, OT, b5⟩
  have hBa : Below w5.heap.size w5 (w5.alloc (.cells #[.slice x1 y1 z1, .slice x2 y2 z2] 24)) := (Below.refl _ _).alloc (Nat.le_refl _) _
  have hRX : (w5.alloc (.cells #[.slice x1 y1 z1, .slice x2 y2 z2] 24)).heap[w5.heap.size]? = some (.cells #[.slice x1 y1 z1, .slice x2 y2 z2] 24 (0, 0)) := heap_alloc_new w5 _
  have hb6 := b5.trans (hBa.mono b5.size)
  have HW6 := hidW (HW4.out.trans (hb6.mono HW4.out.size))
  have HLX := hidW (And.intro (D1.below hBa) (And.intro (D2.below hBa) (OwnM.below OT hBa)))
  clear D1 D2 OT b5 hBa hb6 HW4 HD4
  go_upto_if 112 with fail
  generalize w5.alloc (.cells #[.slice x1 y1 z1, .slice x2 y2 z2] 24) = W6 at *
  generalize w5.heap.size = XB at *
  generalize W4.heap.size = TB at *
  have HSX : Hid (∀ W, Below W6.heap.size W6 W → (Below w.heap.size w W ∧ LS W (.slice q1 n1 c1) bs ∧ LS W (.slice q2 n2 c2) ss ∧ LS W (.slice x1 y1 z1) KB ∧ LS W (.slice x2 y2 z2) KS ∧ OwnT W TB (.slice tq tn tc) TT) ∧ W.cell? ⟨G, 0, none⟩ = some (.slice q1 n1 c1) ∧ W.cell? ⟨G, 1, none⟩ = some (.slice q2 n2 c2) ∧ W.cell? ⟨XB, 0, none⟩ = some (.slice x1 y1 z1) ∧ W.cell? ⟨XB, 1, none⟩ = some (.slice x2 y2 z2)) := fun W hW => by
    have h0 := HW6.out.trans (hW.mono HW6.out.size)
    obtain ⟨⟨a1, a2, a3⟩, a4, a5⟩ := HSO.out W h0
    obtain ⟨a6, a7, -⟩ := rowTwo ((hW.block XB (Array.getElem?_eq_some_iff.1 hRX).1).trans hRX)
    exact ⟨⟨a1, a2, a3, HLX.out.1.below hW, HLX.out.2.1.below hW, OwnM.below HLX.out.2.2 hW⟩, a4, a5, a6, a7⟩
  clear hRX HLX HW6 HSO
  obtain ⟨⟨-, hL1, hL2, -, -, -⟩, g0, g1, -, -⟩ := HSX.out W6 (Below.refl _ _)
  have HK6 := hidW (HKP.out W6 hL1 hL2)
  clear hL1 hL2 HKP
  go_wp2_with fail
  refine HK6.out.mono ?_
  rintro x w7 ⟨rfl, b7⟩
  have HB7 := hidW b7
  clear b7 HK6 g0 g1
  obtain ⟨⟨-, hL1, hL2, -, -, -⟩, g0, g1, -, -⟩ := HSX.out w7 HB7.out
  have HF7 := hidW (HFB.out w7 hL1 hL2)
  clear hL1 hL2 HFB
  go_wp2_with fail
  refine HF7.out.mono ?_
  rintro x w8 ⟨rfl, b8⟩
  have hBa : Below w8.heap.size w8 (w8.alloc (.cells #[.int .i64 r1, .int .i64 r2, .int .i64 r3, .int .i64 r4, .int .i64 r5] 26)) := (Below.refl _ _).alloc (Nat.le_refl _) _
  have hRR : (w8.alloc (.cells #[.int .i64 r1, .int .i64 r2, .int .i64 r3, .int .i64 r4, .int .i64 r5] 26)).heap[w8.heap.size]? = some (.cells #[.int .i64 r1, .int .i64 r2, .int .i64 r3, .int .i64 r4, .int .i64 r5] 26 (0, 0)) := heap_alloc_new w8 _
  have hb9 := b8.trans (hBa.mono b8.size)
  have HB9 := hidW (HB7.out.trans (hb9.mono HB7.out.size))
  clear b8 hBa hb9 HF7 HB7 g0 g1
  go_upto_if 138 with fail
  generalize w8.alloc (.cells #[.int .i64 r1, .int .i64 r2, .int .i64 r3, .int .i64 r4, .int .i64 r5] 26) = W9 at *
  generalize w8.heap.size = RB at *
  obtain ⟨⟨-, hL1, hL2, -, -, -⟩, g0, g1, -, -⟩ := HSX.out W9 HB9.out
  have HC9 := hidW (HCB.out W9 hL1 hL2)
  clear hL1 hL2 HCB
  go_wp2_with fail
  refine HC9.out.mono ?_
  rintro x w10 ⟨o1, o2, v1, v2, l1, l2, rfl, LC1, LC2, b10⟩
  obtain ⟨W11, hW11⟩ : ∃ W11, W11 = (w10.alloc (.cells #[.slice o1 v1 l1, .slice o2 v2 l2] 24)).alloc (.cells #[.int .i64 r1, .int .i64 r2, .int .i64 r3, .int .i64 r4, .int .i64 r5] 26) := ⟨_, rfl⟩
  have hb11 : Below w10.heap.size w10 W11 := by rw [hW11]; exact ((Below.refl _ _).alloc (Nat.le_refl _) _).alloc (by simp) _
  have hRC : W11.heap[w10.heap.size]? = some (.cells #[.slice o1 v1 l1, .slice o2 v2 l2] 24 (0, 0)) := by
    rw [hW11, ((Below.refl _ _).alloc (Nat.le_refl _) _).block _ (by simp)]; exact heap_alloc_new w10 _
  have hb1011 := b10.trans (hb11.mono b10.size)
  have HB11 := hidW (HB9.out.trans (hb1011.mono HB9.out.size))
  have hRR11 := (hb1011.block RB (Array.getElem?_eq_some_iff.1 hRR).1).trans hRR
  have HK11 := hidW (HKD.out W11 o1 o2 v1 v2 l1 l2 (LC1.below hb11) (LC2.below hb11))
  clear LC1 LC2 b10 hb11 hb1011 HC9 HB9 g0 g1 HKD hRR
  go_upto_region 21 with fail
  rw [← hW11]
  clear hW11
  generalize w10.heap.size = CK at *
  obtain ⟨-, e1, -, -, e4, -⟩ := rowFive hRR11
  obtain ⟨p0, p1, -⟩ := rowTwo hRC
  clear hRC hRR11
  go_upto_if 241 with fail
  go_cut [38] from 241 to 242 (fun s38 wx => s38 = .int .i64 MM ∧ wx = W11)
  case first =>
    rcases HMC.out with ⟨hc, rfl⟩ | ⟨hc, rfl⟩
    · go_wp2_with fail
      go_meet
      case rel => exact ⟨rfl, rfl⟩
    · go_wp2_with fail
      go_meet
      case rel => exact ⟨rfl, rfl⟩
  case rest =>
  obtain ⟨rfl, rfl⟩ := hcut
  go_wp2_with fail
  refine HK11.out.mono ?_
  rintro x w12 ⟨a1, a2, f1, f2, j1, j2, tq2, tn2, tc2, rfl, LA1, LA2, OT2, b12⟩
  have hBa : Below w12.heap.size w12 (w12.alloc (.cells #[.slice a1 f1 j1, .slice a2 f2 j2] 24)) := (Below.refl _ _).alloc (Nat.le_refl _) _
  have hRY : (w12.alloc (.cells #[.slice a1 f1 j1, .slice a2 f2 j2] 24)).heap[w12.heap.size]? = some (.cells #[.slice a1 f1 j1, .slice a2 f2 j2] 24 (0, 0)) := heap_alloc_new w12 _
  have hb13 := b12.trans (hBa.mono b12.size)
  have HB13 := hidW (HB11.out.trans (hb13.mono HB11.out.size))
  have HLA := hidW (And.intro (LA1.below hBa) (And.intro (LA2.below hBa) (OwnM.below OT2 hBa)))
  clear LA1 LA2 OT2 b12 hBa hb13 HK11 HB11 e1 e4 p0 p1
  go_upto_region 25 with fail
  generalize w12.alloc (.cells #[.slice a1 f1 j1, .slice a2 f2 j2] 24) = W13 at *
  generalize w12.heap.size = YB at *
  obtain ⟨⟨-, -, -, hK1, hK2, hOT⟩, -, -, g2, g3⟩ := HSX.out W13 HB13.out
  obtain ⟨p0, p1, -⟩ := rowTwo hRY
  have HS13 := hidW (book_same x1 x2 a1 a2 y1 y2 z1 z2 f1 f2 j1 j2 KB KS W13 hK1 hK2 HLA.out.1 HLA.out.2.1)
  have HT13 : Hid (∀ W, Below W13.heap.size W13 W → Calls Try.prog 13 #[.slice tq tn tc, .slice tq2 tn2 tc2] W fun e w' => e = .returned (.bool true) ∧ Below W.heap.size W w') := fun W hW =>
    trades_same tq tq2 tn tn2 tc tc2 _ _ TT W (by have := HTL.out; omega) (OwnM.below hOT hW) (OwnM.below HLA.out.2.2 hW)
  have HW13 := hidW (HSX.out W13 HB13.out).1.1
  clear hK1 hK2 hOT HLA hRY HSX HB13
  go_wp2_with fail
  refine HS13.out.mono ?_
  rintro x w14 ⟨rfl, b14⟩
  have HB14 := hidW b14
  clear b14 HS13 g2 g3 p0 p1
  go_wp2_with fail
  refine (HT13.out w14 HB14.out).mono ?_
  rintro x w15 ⟨rfl, b15⟩
  have hb15 := HB14.out.trans (b15.mono HB14.out.size)
  have HFIN := hidW (HW13.out.trans (hb15.mono HW13.out.size))
  clear b15 hb15 HT13 HB14 HW13
  go_wp2_with fail
  go_ret
  exact ⟨rfl, HFIN.out⟩
end Go.Proofs.Ytjphhieloicdeaa.swp
namespace Go.Proofs.Ytjphhieloicdeaa.swp
open Go.RowKit Go.Proofs.Ytjphhieloicdeaa.spn Go.Proofs.Ytjphhieloicdeaa.que Go.Proofs.Ytjphhieloicdeaa.sid Go.Proofs.Ytjphhieloicdeaa.bok Go.Proofs.Ytjphhieloicdeaa.mee Go.Proofs.Ytjphhieloicdeaa.kin
open Go.Proofs.Ytjphhieloicdeaa.tickP (priceB)
open Go.Proofs.Ytjphhieloicdeaa.ord (O)

theorem sk_walk (q1 q2 : Option Addr) (n1 n2 c1 c2 : Nat) (bs ss : List L) (id p qty : Int) (hid : (Lit.int .i64 id).wf = true) (w : World) (h1 : LS w (.slice q1 n1 c1) bs) (h2 : LS w (.slice q2 n2 c2) ss) :
    Calls Try.prog 3 #[.agg #[.slice q1 n1 c1, .slice q2 n2 c2], .int .i64 id, .int .i64 p, .int .i64 qty] w fun e w' => e = .returned (.bool true) ∧ Below w.heap.size w w' := by
  by_cases hE : fE bs ss id p = 0
  rotate_left
  · exact sk_err q1 q2 n1 n2 c1 c2 bs ss id p qty _ w h1 h2 (fun W hW => sdo_bad q1 q2 n1 n2 c1 c2 bs ss id p qty hid W (h1.below hW) (h2.below hW) hE)
  obtain ⟨f1, f2, hpr⟩ := fE_zero hE
  obtain ⟨s, P, ⟨r1, r2, r3, r4, r5⟩, i, k, hA⟩ := at_of f1 f2
  cases hq : (decide (1 ≤ qty) && decide (qty ≤ 10000))
  · exact sk_err q1 q2 n1 n2 c1 c2 bs ss id p qty 1 w h1 h2 (fun W hW => sdo_qty q1 q2 n1 n2 c1 c2 bs ss id s P r1 r2 r3 r4 r5 p qty i k W (h1.below hW) (h2.below hW) hA hpr hq)
  cases hkb : keepB P ⟨r1, r2, r3, r4, r5⟩ p qty
  · by_cases hk : kdoE (cB s bs i k) (cS s ss i k) ⟨r1, r2, s, 1, p, qty, min r5 qty, 0⟩ = 0
    · exact sk_new q1 q2 n1 n2 c1 c2 bs ss id s P r1 r2 r3 r4 r5 p qty i k w h1 h2 hA hpr hq hkb hk
    · refine sk_err q1 q2 n1 n2 c1 c2 bs ss id p qty (kdoE (cB s bs i k) (cS s ss i k) ⟨r1, r2, s, 1, p, qty, min r5 qty, 0⟩) w h1 h2 (fun W hW => (sdo_new q1 q2 n1 n2 c1 c2 bs ss id s P r1 r2 r3 r4 r5 p qty i k W (h1.below hW) (h2.below hW) hA hpr hq hkb).mono fun e w' h => ?_)
      exact ⟨by rw [h.2.1 hk, errV_of hk], h.2.2⟩
  · exact sk_keep q1 q2 n1 n2 c1 c2 bs ss id s P r1 r2 r3 r4 r5 p qty i k w h1 h2 hA hpr hq hkb
end Go.Proofs.Ytjphhieloicdeaa.swp
