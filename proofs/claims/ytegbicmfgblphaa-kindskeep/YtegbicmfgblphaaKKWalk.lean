/- The walk of KindsKeep. -/
import Derived.Test.YtegbicmfgblphaaKKPure
import Derived.Deep.RegionHeld3
namespace Go.Proofs.Ytegbicmfgblphaa.kin
open Go.RowKit Go.Proofs.Ytegbicmfgblphaa.spn Go.Proofs.Ytegbicmfgblphaa.que Go.Proofs.Ytegbicmfgblphaa.sid Go.Proofs.Ytegbicmfgblphaa.bok Go.Proofs.Ytegbicmfgblphaa.mee
open Go.Proofs.Ytegbicmfgblphaa.ord (O oV mB mE chk meets_any)

theorem ksum_take (ts : List T) (k : Nat) (hk : k < ts.length) : sumT (ts.take (k + 1)) = sumT (ts.take k) + ts[k]!.qty := by
  rw [List.take_succ_eq_append_getElem hk, sumT_append, getE _ _ hk]; simp only [sumT]; omega
theorem ksum_pos (ts : List T) (h : ∀ x ∈ ts, 1 ≤ x.qty) : 0 ≤ sumT ts := by
  induction ts with
  | nil => simp [sumT]
  | cons x t ih =>
    have h1 := h x (by simp)
    have h2 := ih (fun y hy => h y (by simp [hy]))
    simp only [sumT]; omega
theorem ksum_bound (ts : List T) (h : ∀ x ∈ ts, 1 ≤ x.qty) (k : Nat) : 0 ≤ sumT (ts.take k) ∧ sumT (ts.take k) ≤ sumT ts := by
  have h1 := ksum_pos (ts.take k) (fun f hf => h f (List.mem_of_mem_take hf))
  have h2 := ksum_pos (ts.drop k) (fun f hf => h f (List.mem_of_mem_drop hf))
  have h3 := sumT_append (ts.take k) (ts.drop k)
  rw [List.take_append_drop] at h3
  omega

set_option maxRecDepth 100000 in
set_option maxHeartbeats 4000000 in
theorem keep_walk (q1 q2 : Option Addr) (n1 n2 c1 c2 : Nat) (bs ss : List L) (a b c d p q s t : Int) (w : World) (h1 : LS w (.slice q1 n1 c1) bs) (h2 : LS w (.slice q2 n2 c2) ss) :
    Calls Try.prog 5 #[.agg #[.slice q1 n1 c1, .slice q2 n2 c2], .agg #[.int .i64 a, .int .i64 b, .int .i64 c, .int .i64 d, .int .i64 p, .int .i64 q, .int .i64 s, .int .i64 t]] w fun e w' => e = .returned (.bool true) ∧ Below w.heap.size w w' := by
  obtain ⟨V, hV⟩ : ∃ V, V = (w.alloc (.cells #[.slice q1 n1 c1, .slice q2 n2 c2] 24)).alloc (.cells #[.int .i64 a, .int .i64 b, .int .i64 c, .int .i64 d, .int .i64 p, .int .i64 q, .int .i64 s, .int .i64 t] 26) := ⟨_, rfl⟩
  have HB : Hid (Below w.heap.size w V) := by rw [hV]; exact ((Below.refl _ _).alloc (Nat.le_refl _) _).alloc (by simp) _
  have v0 : V.cell? ⟨w.heap.size, 0, none⟩ = some (.slice q1 n1 c1) := by rw [hV]; simp [go_sem]
  have v1 : V.cell? ⟨w.heap.size, 1, none⟩ = some (.slice q2 n2 c2) := by rw [hV]; simp [go_sem]
  have hR : V.heap[w.heap.size + 1]? = some (.cells #[.int .i64 a, .int .i64 b, .int .i64 c, .int .i64 d, .int .i64 p, .int .i64 q, .int .i64 s, .int .i64 t] 26 (0, 0)) := by
    rw [hV]
    have := heap_alloc_new (w.alloc (.cells #[.slice q1 n1 c1, .slice q2 n2 c2] 24)) (.cells #[.int .i64 a, .int .i64 b, .int .i64 c, .int .i64 d, .int .i64 p, .int .i64 q, .int .i64 s, .int .i64 t] 26)
    simpa using this
  have cel : ∀ i, V.cell? ⟨w.heap.size + 1, i, none⟩ = (#[.int .i64 a, .int .i64 b, .int .i64 c, .int .i64 d, .int .i64 p, .int .i64 q, .int .i64 s, .int .i64 t] : Array Value)[i]? := fun i => by simp [World.cell?, hR]
  have HSO : Hid (∀ W, Below V.heap.size V W → Below w.heap.size w W ∧ W.cell? ⟨w.heap.size, 0, none⟩ = some (.slice q1 n1 c1) ∧ W.cell? ⟨w.heap.size, 1, none⟩ = some (.slice q2 n2 c2) ∧ W.cell? ⟨w.heap.size + 1, 0, none⟩ = some (.int .i64 a) ∧ W.cell? ⟨w.heap.size + 1, 1, none⟩ = some (.int .i64 b) ∧ W.cell? ⟨w.heap.size + 1, 2, none⟩ = some (.int .i64 c) ∧ W.cell? ⟨w.heap.size + 1, 3, none⟩ = some (.int .i64 d) ∧ W.cell? ⟨w.heap.size + 1, 4, none⟩ = some (.int .i64 p) ∧ W.cell? ⟨w.heap.size + 1, 5, none⟩ = some (.int .i64 q) ∧ W.cell? ⟨w.heap.size + 1, 6, none⟩ = some (.int .i64 s) ∧ W.cell? ⟨w.heap.size + 1, 7, none⟩ = some (.int .i64 t)) :=
    fun W hW => ⟨HB.out.trans (hW.mono HB.out.size), keeps hW v0, keeps hW v1, keeps hW (cel 0), keeps hW (cel 1), keeps hW (cel 2), keeps hW (cel 3), keeps hW (cel 4), keeps hW (cel 5), keeps hW (cel 6), keeps hW (cel 7)⟩
  have HLS : Hid (LS w (.slice q1 n1 c1) bs ∧ LS w (.slice q2 n2 c2) ss) := ⟨h1, h2⟩
  clear h1 h2 hR v0 v1 cel
  go_enter Try.func5, Try.ntmps5
  go_wp2_with fail
  rw [← hV]
  clear hV
  refine (factK_do V).mono ?_
  rintro e w1 ⟨k1, u2, m2, k2, tv, g, off, g2, off2, c3, rfl, f1, f2, b1⟩
  have hBa : Below w1.heap.size w1 (w1.alloc (.cells #[.slice (some ⟨g, off, none⟩) 1 k1, .slice u2 m2 k2] 24)) := (Below.refl _ _).alloc (Nat.le_refl _) _
  have hRB : (w1.alloc (.cells #[.slice (some ⟨g, off, none⟩) 1 k1, .slice u2 m2 k2] 24)).heap[w1.heap.size]? = some (.cells #[.slice (some ⟨g, off, none⟩) 1 k1, .slice u2 m2 k2] 24 (0, 0)) := heap_alloc_new w1 _
  have HW1 := hidK (b1.trans (hBa.mono b1.size))
  have x1 := keeps hBa f1
  have x2 := keeps hBa f2
  clear b1 hBa f1 f2
  go_upto_region 2 with fail
  generalize w1.alloc (.cells #[.slice (some ⟨g, off, none⟩) 1 k1, .slice u2 m2 k2] 24) = W1 at *
  generalize w1.heap.size = G1 at *
  obtain ⟨y0, y1, -⟩ := rowTwo hRB
  clear hRB
  go_upto_region 4 with fail
  clear x1 x2 y0 y1
  obtain ⟨hw1, y0, y1, o0, o1, o2, o3, o4, o5, o6, o7⟩ := HSO.out W1 HW1.out
  go_wp2_with fail
  refine (kdo_any q1 q2 n1 n2 c1 c2 bs ss a b c d p q s t W1 (HLS.out.1.below hw1) (HLS.out.2.below hw1)).mono ?_
  rintro e w2 ⟨i1, i2, b2⟩
  have HW2 : Hid (Below V.heap.size V w2) := HW1.out.trans (b2.mono HW1.out.size)
  have HW2w : Hid (Below w.heap.size w w2) := hw1.trans (b2.mono hw1.size)
  clear y0 y1 o0 o1 o2 o3 o4 o5 o6 o7
  by_cases hD : kdoE bs ss ⟨a, b, c, d, p, q, s, t⟩ = 0
  rotate_left
  · have e2 := i2 hD
    subst e2
    rw [errV_of hD]
    clear i1 i2 b2
    go_wp2_with fail
    go_ret
    exact ⟨rfl, HW2w.out.alloc HW2w.out.size _⟩
  obtain ⟨v1, v2, m1, m2', l1, l2, tv', rfl, L1, L2, OT⟩ := i1 hD
  obtain ⟨tq, tc, htv⟩ := OwnM.form OT
  subst htv
  have HK := hidK (kdo_facts hD)
  have HKD := hidK hD
  obtain ⟨W, hW⟩ : ∃ W, W = w2.alloc (.cells #[.slice v1 m1 l1, .slice v2 m2' l2] 24) := ⟨_, rfl⟩
  have hBa : Below w2.heap.size w2 W := by rw [hW]; exact (Below.refl _ _).alloc (Nat.le_refl _) _
  have hRW : W.heap[w2.heap.size]? = some (.cells #[.slice v1 m1 l1, .slice v2 m2' l2] 24 (0, 0)) := by rw [hW]; exact heap_alloc_new w2 _
  have HW : Hid (Below V.heap.size V W) := HW2.out.trans (hBa.mono HW2.out.size)
  have HX : Hid (LS W (.slice v1 m1 l1) (kdoB bs ss ⟨a, b, c, d, p, q, s, t⟩) ∧ LS W (.slice v2 m2' l2) (kdoS bs ss ⟨a, b, c, d, p, q, s, t⟩)) := ⟨L1.ls.below hBa, L2.ls.below hBa⟩
  have HT : Hid (OwnT W W1.heap.size (.slice tq (metR bs ss ⟨a, b, c, d, p, q, s, t⟩).2.1.length tc) (metR bs ss ⟨a, b, c, d, p, q, s, t⟩).2.1) := OwnM.below OT hBa
  have HG : Hid (kdoG bs ss ⟨a, b, c, d, p, q, s, t⟩ = setG ⟨a, b, c, d, p, q, s, t⟩ (metR bs ss ⟨a, b, c, d, p, q, s, t⟩).2.2) := rfl
  have HFI : Hid (∀ U, Below W.heap.size W U → stayB ⟨a, b, c, d, p, q, s, t⟩ (metR bs ss ⟨a, b, c, d, p, q, s, t⟩).2.2 = true → Calls Try.prog 15 #[.agg #[.slice v1 m1 l1, .slice v2 m2' l2], .int .i64 a] U fun e w' => e = .returned (.tuple #[.int .i64 c, .int .i64 p, rB (keptR ⟨a, b, c, d, p, q, s, t⟩ (metR bs ss ⟨a, b, c, d, p, q, s, t⟩).2.2), .nilIface]) ∧ Below U.heap.size U w') := fun U hU hst => kfind_in v1 v2 m1 m2' l1 l2 bs ss ⟨a, b, c, d, p, q, s, t⟩ U HKD.out hst (HX.out.1.below hU) (HX.out.2.below hU)
  have HFO : Hid (∀ U, Below W.heap.size W U → stayB ⟨a, b, c, d, p, q, s, t⟩ (metR bs ss ⟨a, b, c, d, p, q, s, t⟩).2.2 = false → Calls Try.prog 15 #[.agg #[.slice v1 m1 l1, .slice v2 m2' l2], .int .i64 a] U fun e w' => e = .returned (.tuple #[.int .i64 0, .int .i64 0, .agg #[.int .i64 0, .int .i64 0, .int .i64 0, .int .i64 0, .int .i64 0], .iface 59 (.int .i64 5)]) ∧ Below U.heap.size U w') := fun U hU hst => kfind_out v1 v2 m1 m2' l1 l2 bs ss ⟨a, b, c, d, p, q, s, t⟩ U HKD.out hst (HX.out.1.below hU) (HX.out.2.below hU)
  have HCH : Hid (∀ U, Below W.heap.size W U → Calls Try.prog 12 #[.agg #[.slice v1 m1 l1, .slice v2 m2' l2]] U fun e w' => e = .returned .nilIface ∧ Below U.heap.size U w') := fun U hU => by
    have h := bok.check_any v1 v2 m1 m2' l1 l2 _ _ U (HX.out.1.below hU) (HX.out.2.below hU)
    rw [HK.out.book, errV_zero] at h
    exact h
  clear i1 i2 b2 L1 L2 OT hBa hD
  go_upto_region 5 with fail
  rw [← hW]
  clear hW
  generalize w2.heap.size = Y at *
  generalize kdoG bs ss ⟨a, b, c, d, p, q, s, t⟩ = GG at *
  have HKS := hidK HK.out.sum
  have HK0 := hidK HK.out.left0
  have HS0 := hidK HK.out.sum0
  have HEA := hidK HK.out.each
  have HKW := hidK HK.out.whole
  have HKP := hidK HK.out.post
  have HKQ : Hid (1 ≤ q ∧ q ≤ 10000 ∧ (metR bs ss ⟨a, b, c, d, p, q, s, t⟩).2.1.length ≤ 400 ∧ chk ⟨a, b, c, d, p, q, s, t⟩ = 0) := ⟨HK.out.q1, HK.out.q2, HK.out.len, HK.out.ok⟩
  clear HK HKD HX
  generalize (metR bs ss ⟨a, b, c, d, p, q, s, t⟩).2.1 = ts at *
  generalize (metR bs ss ⟨a, b, c, d, p, q, s, t⟩).2.2 = lf at *
  generalize htl : ts.length = tl at *
  have HTL : Hid (ts.length = tl) := htl
  clear htl
  go_wp2_with fail
  go_loopg [13, 14] tl (fun gg s13 s14 wr => ∃ kk : Nat, kk ≤ tl ∧ tl - kk ≤ gg ∧ s14 = .int .i64 kk ∧ s13 = .int .i64 (sumT (ts.take kk)) ∧ Aside (Below W.heap.size W wr))
  case atStart => exact ⟨0, Nat.zero_le _, by omega, rfl, rfl, Below.refl _ _⟩
  case round =>
    obtain ⟨kk, hkk, hg, rfl, rfl, BW⟩ := hrel
    have HBW : Hid (Below V.heap.size V wr) := HW.out.trans (BW.out.mono HW.out.size)
    obtain ⟨hwr, y0, y1, o0, o1, o2, o3, o4, o5, o6, o7⟩ := HSO.out wr HBW.out
    by_cases hlt : kk < tl
    · have hltz : (kk : Int) < (tl : Int) := by omega
      have hkt : kk < ts.length := by rw [HTL.out]; exact hlt
      obtain ⟨g, off, htq, -, z0, z1, z2, z3, z4, z5⟩ := OwnT.at (by have h := HT.out; rw [← HTL.out] at h; exact h) hkt
      subst htq
      have hea := HEA.out ts[kk]! (by rw [getE _ _ hkt]; exact List.getElem_mem hkt)
      obtain ⟨qx, hqx⟩ : ∃ qx, ts[kk]!.qty = qx := ⟨_, rfl⟩
      rw [hqx] at z5 hea
      have t5 := keeps BW.out z5
      have hin1 : ¬ ((kk : Int) < 0) := Int.not_lt.2 (Int.natCast_nonneg _)
      have hq1 : ¬ qx < 1 := by have := hea.1; omega
      have hq2 : ¬ q < qx := by have := hea.2; omega
      have hq3 : decide (qx < 1) = false := by simp [hq1]
      have hq4 : decide (q < qx) = false := by simp [hq2]
      have hsT := ksum_take ts kk hkt
      rw [hqx] at hsT
      have hsB := ksum_bound ts (fun x hx => (HEA.out x hx).1) kk
      have hsB2 := ksum_bound ts (fun x hx => (HEA.out x hx).1) (kk + 1)
      have hsA := HKS.out
      have hsC := HK0.out
      have hsD := HKQ.out
      have E1 : Hid (wrap64 (sumT (ts.take kk) + qx) = sumT (ts.take (kk + 1))) := by show _ = _; rw [← hsT]; unfold wrap64; omega
      have HM : Hid (tl - (kk + 1) < gk ∧ kk < tl) := ⟨by omega, hlt⟩
      have E2 : Hid (wrap64 ((kk : Int) + 1) = ((kk + 1 : Nat) : Int)) := by
        have h := HM.out.2
        have h2 := HKQ.out.2.2.1
        show _ = _
        clear hsT hsB hsB2 hsA hsD
        unfold wrap64
        omega
      obtain ⟨Sn, hSn⟩ : ∃ Sn, sumT (ts.take (kk + 1)) = Sn := ⟨_, rfl⟩
      have HSn : Hid (sumT (ts.take (kk + 1)) = Sn) := hSn
      rw [hSn] at E1
      have HBWW := hidK BW.out
      clear hsT hsB hsB2 hsA hsC hsD hSn y0 y1 z0 z1 z2 z3 z4 z5 hea hkk hg hlt BW
      generalize hS0 : sumT (ts.take kk) = S0 at *
      clear hS0
      go_wp2_with fail
      go_quiet (fail)
      have x1 := E1.out
      have x2 := E2.out
      go_wp2_with fail
      go_roundg (tl - (kk + 1))
      case measure => exact HM.out.1
      case rel => exact ⟨kk + 1, HM.out.2, Nat.le_refl _, by go_num, by rw [HSn.out] <;> exact congrArg (Value.int .i64) E1.out, belowN HBWW.out _⟩
    · have hltz : ¬ (kk : Int) < (tl : Int) := by omega
      have hS : sumT (ts.take kk) = sumT ts := by rw [List.take_of_length_le (by rw [HTL.out]; omega)]
      rw [hS]
      have hyx := HW.out
      have HRW : Hid (wr.heap[Y]? = some (.cells #[.slice v1 m1 l1, .slice v2 m2' l2] 24 (0, 0))) := (BW.out.block Y (Array.getElem?_eq_some_iff.1 hRW).1).trans hRW
      have HBWW := hidK BW.out
      clear hS hkk hg hlt BW hyx y0 y1
      generalize sumT ts = S at *
      obtain ⟨z0, z1, -⟩ := rowTwo HRW.out
      go_wp2_with fail
      clear hltz
      have HS := hidK HKS.out
      have hkd : d = 1 ∨ d = 2 ∨ d = 3 ∨ d = 4 ∨ d = 5 := by
        have h := (ord.chk_zero HKQ.out.2.2.2).1
        simp [ord.headB] at h
        omega
      have HKDD := hidK hkd
      have hqq : (q != q) = false := by simp
      have hql := HKQ.out
      have hs1 := HKS.out
      have hs0 := HK0.out
      have hs00 := HS0.out
      have E2 : Hid (wrap64 q = q) := by show _ = _; unfold wrap64; omega
      have E3 : Hid (wrap64 (S + lf) = q) := by show _ = _; unfold wrap64; omega
      have E4 : Hid (wrap64 (S + 0) = S) := by show _ = _; unfold wrap64; omega
      have E5 : Hid (wrap64 S = S) := by show _ = _; unfold wrap64; omega
      clear hkd hql hs1 hs0 hs00
      cases hst : stayB ⟨a, b, c, d, p, q, s, t⟩ lf
      · -- nothing rests
        have hGG : GG = lf := by rw [HG.out]; unfold setG; rw [hst]; rfl
        have HST := hidK hst
        clear HG
        subst hGG
        refine (HFO.out wr HBWW.out hst).mono ?_
        rintro e w3 ⟨rfl, b3⟩
        have hBa : Below w3.heap.size w3 (w3.alloc (.cells #[.int .i64 0, .int .i64 0, .int .i64 0, .int .i64 0, .int .i64 0] 28)) := (Below.refl _ _).alloc (Nat.le_refl _) _
        have HW4 := hidK (HBWW.out.trans ((b3.trans (hBa.mono b3.size)).mono HBWW.out.size))
        have HRX := hidK (((b3.trans (hBa.mono b3.size)).block Y (Array.getElem?_eq_some_iff.1 HRW.out).1).trans HRW.out)
        clear b3 hBa hst z0 z1 o0 o1 o2 o3 o4 o5 o6 o7
        go_upto_region 16 with fail
        generalize w3.alloc (.cells #[.int .i64 0, .int .i64 0, .int .i64 0, .int .i64 0, .int .i64 0] 28) = W4 at *
        obtain ⟨hw4, y0, y1, o0, o1, o2, o3, o4, o5, o6, o7⟩ := HSO.out W4 (HW.out.trans (HW4.out.mono HW.out.size))
        obtain ⟨z0, z1, -⟩ := rowTwo HRX.out
        have x2 := E2.out
        have x3 := E3.out
        go_wp2_with fail
        refine (HCH.out W4 HW4.out).mono ?_
        rintro e w5 ⟨rfl, b5⟩
        have hw5 : Below w.heap.size w w5 := hw4.trans (b5.mono hw4.size)
        have p3 := keeps b5 o3
        have p5 := keeps b5 o5
        clear b5 hw4 y0 y1 o0 o1 o2 o3 o4 o5 o6 o7 z0 z1 x2 x3
        go_upto_region 22 with fail
        rcases HKDD.out with rfl | rfl | rfl | rfl | rfl
        · have hl0 : GG = 0 := by rcases stay_no HST.out with h | h; exact h; exact absurd rfl h.1
          subst hl0
          go_wp2_with fail
          go_ret
          exact ⟨rfl, hw5⟩
        · go_wp2_with fail
          go_ret
          exact ⟨rfl, hw5⟩
        · go_wp2_with fail
          go_ret
          exact ⟨rfl, hw5⟩
        · have hl0 : GG = 0 := HKW.out rfl
          have hSq : S = q := by have := HS.out; omega
          subst hSq
          go_wp2_with fail
          go_ret
          exact ⟨by simp, hw5⟩
        · exfalso
          have h1 := HKP.out rfl
          have h2 := HKQ.out.1
          rcases stay_no HST.out with h | h
          · omega
          · exact h.2 rfl
      · -- what is left rests
        have hGG : GG = 0 := by rw [HG.out]; unfold setG; rw [hst]; rfl
        have HST := hidK hst
        clear HG
        subst hGG
        obtain ⟨sh, hsh⟩ : ∃ sh, shownK ⟨a, b, c, d, p, q, s, t⟩ lf = sh := ⟨_, rfl⟩
        obtain ⟨hd, hhd⟩ : ∃ hd, lf - sh = hd := ⟨_, rfl⟩
        have hkr : rB (keptR ⟨a, b, c, d, p, q, s, t⟩ lf) = .agg #[.int .i64 a, .int .i64 b, .int .i64 sh, .int .i64 hd, .int .i64 s] := by
          unfold keptR rB
          simp only [hsh, hhd]
        have hF := HFI.out wr HBWW.out hst
        rw [hkr] at hF
        have E6 : Hid (wrap64 (sh + hd) = lf) := by
          have h1 := HKS.out
          have h2 := HK0.out
          have h3 := HKQ.out
          have h5 := HS0.out
          have h4 : wrap64 lf = lf := by unfold wrap64; omega
          show _ = _
          rw [← hhd, show sh + (lf - sh) = lf by omega]
          exact h4
        refine hF.mono ?_
        rintro e w3 ⟨rfl, b3⟩
        have hBa : Below w3.heap.size w3 (w3.alloc (.cells #[.int .i64 a, .int .i64 b, .int .i64 sh, .int .i64 hd, .int .i64 s] 28)) := (Below.refl _ _).alloc (Nat.le_refl _) _
        have HRR := hidK (heap_alloc_new w3 (.cells #[.int .i64 a, .int .i64 b, .int .i64 sh, .int .i64 hd, .int .i64 s] 28))
        have HW4 := hidK (HBWW.out.trans ((b3.trans (hBa.mono b3.size)).mono HBWW.out.size))
        have HRX := hidK (((b3.trans (hBa.mono b3.size)).block Y (Array.getElem?_eq_some_iff.1 HRW.out).1).trans HRW.out)
        clear b3 hBa hst z0 z1 o0 o1 o2 o3 o4 o5 o6 o7 hF hkr hsh hhd
        go_upto_region 16 with fail
        generalize w3.alloc (.cells #[.int .i64 a, .int .i64 b, .int .i64 sh, .int .i64 hd, .int .i64 s] 28) = W4 at *
        generalize w3.heap.size = RB at *
        obtain ⟨hw4, y0, y1, o0, o1, o2, o3, o4, o5, o6, o7⟩ := HSO.out W4 (HW.out.trans (HW4.out.mono HW.out.size))
        obtain ⟨z0, z1, -⟩ := rowTwo HRX.out
        obtain ⟨r0, r1, r2, r3, r4, -⟩ := rowFive HRR.out
        have hcc : (c != c) = false := by simp
        have hpp : (p != p) = false := by simp
        have hbb : (b != b) = false := by simp
        have x3 := E3.out
        have x4 := E4.out
        have x5 := E5.out
        have x6 := E6.out
        go_wp2_with fail
        refine (HCH.out W4 HW4.out).mono ?_
        rintro e w5 ⟨rfl, b5⟩
        have hw5 : Below w.heap.size w w5 := hw4.trans (b5.mono hw4.size)
        have p3 := keeps b5 o3
        have p5 := keeps b5 o5
        clear b5 hw4 y0 y1 o0 o1 o2 o3 o4 o5 o6 o7 z0 z1 x3 x4 x5 x6 r0 r1 r2 r3 r4
        go_upto_region 22 with fail
        rcases (stay_kind HST.out).2 with h | h
        · have hd1 : d = 1 := h
          subst hd1
          go_wp2_with fail
          go_ret
          exact ⟨rfl, hw5⟩
        · have hd5 : d = 5 := h
          subst hd5
          have hlq : lf = q := HKP.out rfl
          subst hlq
          have x6 := E6.out
          go_wp2_with fail
          go_ret
          exact ⟨by simp, hw5⟩
end Go.Proofs.Ytegbicmfgblphaa.kin
