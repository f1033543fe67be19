/- The walk of MarginAdds. -/
import Derived.Test.YtdeahageabacbaaMAPure
import Derived.Deep.RegionHeld3
import Derived.Deep.QuietTactic
import Derived.BigQuiet
namespace Go.Proofs.Ytdeahageabacbaa.mrg
open Go.RowKit Go.Proofs.Ytdeahageabacbaa.mee Go.Proofs.Ytdeahageabacbaa.que Go.Proofs.Ytdeahageabacbaa.sid Go.Proofs.Ytdeahageabacbaa.bok Go.Proofs.Ytdeahageabacbaa.kin
open Go.Proofs.Ytdeahageabacbaa.ord (O oV chk mB prB errV errV_zero errV_of)
open Go.Proofs.Ytdeahageabacbaa.spn (keeps bcell)

theorem belD {w w1 : World} (h : Below w.heap.size w w1) (n : Nat) : Below w.heap.size w (w1.drewN n) := ⟨h.os, h.tape, h.output, h.size, h.block⟩

set_option maxRecDepth 100000 in
set_option maxHeartbeats 4000000 in
theorem adds_walk (q1 q2 : Option Addr) (n1 n2 c1 c2 : Nat) (bs ss : List L) (a b c d p q s t : Int) (w : World) (h1 : LS w (.slice q1 n1 c1) bs) (h2 : LS w (.slice q2 n2 c2) ss) :
    Calls Try.prog 3 #[.agg #[.slice q1 n1 c1, .slice q2 n2 c2], .agg #[.int .i64 a, .int .i64 b, .int .i64 c, .int .i64 d, .int .i64 p, .int .i64 q, .int .i64 s, .int .i64 t]] w fun e w' => e = .returned (.bool true) ∧ Below w.heap.size w w' := by
  obtain ⟨V, hV⟩ : ∃ V, V = (w.alloc (.cells #[.slice q1 n1 c1, .slice q2 n2 c2] 24)).alloc (.cells #[.int .i64 a, .int .i64 b, .int .i64 c, .int .i64 d, .int .i64 p, .int .i64 q, .int .i64 s, .int .i64 t] 26) := ⟨_, rfl⟩
  have HB : Hid (Below w.heap.size w V) := by rw [hV]; exact ((Below.refl _ _).alloc (Nat.le_refl _) _).alloc (by simp) _
  have v0 : V.cell? ⟨w.heap.size, 0, none⟩ = some (.slice q1 n1 c1) := by rw [hV]; simp [go_sem]
  have v1 : V.cell? ⟨w.heap.size, 1, none⟩ = some (.slice q2 n2 c2) := by rw [hV]; simp [go_sem]
  have hR : V.heap[w.heap.size + 1]? = some (.cells #[.int .i64 a, .int .i64 b, .int .i64 c, .int .i64 d, .int .i64 p, .int .i64 q, .int .i64 s, .int .i64 t] 26 (0, 0)) := by
    rw [hV]
    have := heap_alloc_new (w.alloc (.cells #[.slice q1 n1 c1, .slice q2 n2 c2] 24)) (.cells #[.int .i64 a, .int .i64 b, .int .i64 c, .int .i64 d, .int .i64 p, .int .i64 q, .int .i64 s, .int .i64 t] 26)
    simpa using this
  have cel : ∀ i, V.cell? ⟨w.heap.size + 1, i, none⟩ = (#[.int .i64 a, .int .i64 b, .int .i64 c, .int .i64 d, .int .i64 p, .int .i64 q, .int .i64 s, .int .i64 t] : Array Value)[i]? := fun i => by simp [World.cell?, hR]
  have HSO : Hid (∀ W, Below V.heap.size V W → Below w.heap.size w W ∧ W.cell? ⟨w.heap.size, 0, none⟩ = some (.slice q1 n1 c1) ∧ W.cell? ⟨w.heap.size, 1, none⟩ = some (.slice q2 n2 c2) ∧ W.cell? ⟨w.heap.size + 1, 0, none⟩ = some (.int .i64 a) ∧ W.cell? ⟨w.heap.size + 1, 1, none⟩ = some (.int .i64 b) ∧ W.cell? ⟨w.heap.size + 1, 2, none⟩ = some (.int .i64 c) ∧ W.cell? ⟨w.heap.size + 1, 3, none⟩ = some (.int .i64 d) ∧ W.cell? ⟨w.heap.size + 1, 4, none⟩ = some (.int .i64 p) ∧ W.cell? ⟨w.heap.size + 1, 5, none⟩ = some (.int .i64 q) ∧ W.cell? ⟨w.heap.size + 1, 6, none⟩ = some (.int .i64 s) ∧ W.cell? ⟨w.heap.size + 1, 7, none⟩ = some (.int .i64 t)) :=
    fun W hW => ⟨HB.out.trans (hW.mono HB.out.size), keeps hW v0, keeps hW v1, keeps hW (cel 0), keeps hW (cel 1), keeps hW (cel 2), keeps hW (cel 3), keeps hW (cel 4), keeps hW (cel 5), keeps hW (cel 6), keeps hW (cel 7)⟩
  have HLS : Hid (LS w (.slice q1 n1 c1) bs ∧ LS w (.slice q2 n2 c2) ss) := ⟨h1, h2⟩
  clear h1 h2 hR v0 v1 cel
  go_enter Try.func3, Try.ntmps3
  go_wp2_with fail
  rw [← hV]
  clear hV
  refine (fact_for V).mono ?_
  rintro e W1 ⟨rfl, b1⟩
  have HW1 := hidM b1
  clear b1
  go_upto_region 4 with fail
  obtain ⟨hw1, y0, y1, o0, o1, o2, o3, o4, o5, o6, o7⟩ := HSO.out W1 HW1.out
  go_wp2_with fail
  refine (kdo_any q1 q2 n1 n2 c1 c2 bs ss a b c d p q s t W1 (HLS.out.1.below hw1) (HLS.out.2.below hw1)).mono ?_
  rintro e w2 ⟨i1, i2, b2⟩
  have HW2 : Hid (Below V.heap.size V w2) := HW1.out.trans (b2.mono HW1.out.size)
  have HW2w : Hid (Below w.heap.size w w2) := hw1.trans (b2.mono hw1.size)
  clear y0 y1 o0 o1 o2 o3 o4 o5 o6 o7
  by_cases hD : kdoE bs ss ⟨a, b, c, d, p, q, s, t⟩ = 0
  rotate_left
  · have e2 := i2 hD
    subst e2
    rw [spn.errV_of hD]
    clear i1 i2 b2
    go_wp2_with fail
    go_ret
    exact ⟨rfl, HW2w.out.alloc HW2w.out.size _⟩
  obtain ⟨v1, v2, m1, m2', l1, l2, tv', rfl, L1, L2, OT⟩ := i1 hD
  obtain ⟨tq, tc, htv⟩ := OwnM.form OT
  subst htv
  have HF := hidM (facts_of hD)
  have HKL := hidM (kept_left hD)
  obtain ⟨W, hW⟩ : ∃ W, W = w2.alloc (.cells #[.slice v1 m1 l1, .slice v2 m2' l2] 24) := ⟨_, rfl⟩
  have hBa : Below w2.heap.size w2 W := by rw [hW]; exact (Below.refl _ _).alloc (Nat.le_refl _) _
  have hRW : W.heap[w2.heap.size]? = some (.cells #[.slice v1 m1 l1, .slice v2 m2' l2] 24 (0, 0)) := by rw [hW]; exact heap_alloc_new w2 _
  have HW : Hid (Below V.heap.size V W) := HW2.out.trans (hBa.mono HW2.out.size)
  have HX : Hid (LS W (.slice v1 m1 l1) (kdoB bs ss ⟨a, b, c, d, p, q, s, t⟩) ∧ LS W (.slice v2 m2' l2) (kdoS bs ss ⟨a, b, c, d, p, q, s, t⟩)) := ⟨L1.ls.below hBa, L2.ls.below hBa⟩
  have HT := hidM (own_tl (OwnM.below OT hBa))
  have HFI : Hid (∀ U, Below W.heap.size W U → stayB ⟨a, b, c, d, p, q, s, t⟩ (metR bs ss ⟨a, b, c, d, p, q, s, t⟩).2.2 = true → Calls Try.prog 8 #[.agg #[.slice v1 m1 l1, .slice v2 m2' l2], .int .i64 a] U fun e w' => e = .returned (.tuple #[.int .i64 c, .int .i64 p, rB (keptR ⟨a, b, c, d, p, q, s, t⟩ (metR bs ss ⟨a, b, c, d, p, q, s, t⟩).2.2), .nilIface]) ∧ Below U.heap.size U w') := fun U hU hst => kfind_in v1 v2 m1 m2' l1 l2 bs ss ⟨a, b, c, d, p, q, s, t⟩ U hD hst (HX.out.1.below hU) (HX.out.2.below hU)
  have HFO : Hid (∀ U, Below W.heap.size W U → stayB ⟨a, b, c, d, p, q, s, t⟩ (metR bs ss ⟨a, b, c, d, p, q, s, t⟩).2.2 = false → Calls Try.prog 8 #[.agg #[.slice v1 m1 l1, .slice v2 m2' l2], .int .i64 a] U fun e w' => e = .returned (.tuple #[.int .i64 0, .int .i64 0, .agg #[.int .i64 0, .int .i64 0, .int .i64 0, .int .i64 0, .int .i64 0], .iface 63 (.int .i64 5)]) ∧ Below U.heap.size U w') := fun U hU hst => kfind_out v1 v2 m1 m2' l1 l2 bs ss ⟨a, b, c, d, p, q, s, t⟩ U hD hst (HX.out.1.below hU) (HX.out.2.below hU)
  have HLE : Hid (∀ U, stayB ⟨a, b, c, d, p, q, s, t⟩ (metR bs ss ⟨a, b, c, d, p, q, s, t⟩).2.2 = true → Calls Try.prog 9 #[rB (keptR ⟨a, b, c, d, p, q, s, t⟩ (metR bs ss ⟨a, b, c, d, p, q, s, t⟩).2.2), .int .i64 c, .int .i64 p] U fun e w' => e = .returned (.tuple #[.int .i64 (putC c p (metR bs ss ⟨a, b, c, d, p, q, s, t⟩).2.2), .int .i64 (putS c (metR bs ss ⟨a, b, c, d, p, q, s, t⟩).2.2), .nilIface]) ∧ Below U.heap.size U w') := fun U hst => by
    obtain ⟨e0, e1, e2⟩ := HKL.out hst
    have h := left_any (keptR ⟨a, b, c, d, p, q, s, t⟩ (metR bs ss ⟨a, b, c, d, p, q, s, t⟩).2.2).id (keptR ⟨a, b, c, d, p, q, s, t⟩ (metR bs ss ⟨a, b, c, d, p, q, s, t⟩).2.2).who (keptR ⟨a, b, c, d, p, q, s, t⟩ (metR bs ss ⟨a, b, c, d, p, q, s, t⟩).2.2).qty (keptR ⟨a, b, c, d, p, q, s, t⟩ (metR bs ss ⟨a, b, c, d, p, q, s, t⟩).2.2).hid (keptR ⟨a, b, c, d, p, q, s, t⟩ (metR bs ss ⟨a, b, c, d, p, q, s, t⟩).2.2).shw c p U
    change Calls _ _ _ _ fun x w' => x = .returned (.tuple #[.int .i64 (leftC (keptR ⟨a, b, c, d, p, q, s, t⟩ (metR bs ss ⟨a, b, c, d, p, q, s, t⟩).2.2) c p), .int .i64 (leftS (keptR ⟨a, b, c, d, p, q, s, t⟩ (metR bs ss ⟨a, b, c, d, p, q, s, t⟩).2.2) c p), errV (leftE (keptR ⟨a, b, c, d, p, q, s, t⟩ (metR bs ss ⟨a, b, c, d, p, q, s, t⟩).2.2) c p)]) ∧ Below U.heap.size U w' at h
    simp only at e0 e1 e2
    rw [e0, e1, e2, errV_zero] at h
    exact h
  have HKR : Hid (∀ lf, rB (keptR ⟨a, b, c, d, p, q, s, t⟩ lf) = .agg #[.int .i64 a, .int .i64 b, .int .i64 (shownK ⟨a, b, c, d, p, q, s, t⟩ lf), .int .i64 (lf - shownK ⟨a, b, c, d, p, q, s, t⟩ lf), .int .i64 s]) := fun lf => rfl
  clear i1 i2 b2 L1 L2 OT hBa hD
  generalize kdoG bs ss ⟨a, b, c, d, p, q, s, t⟩ = GG at *
  generalize (metR bs ss ⟨a, b, c, d, p, q, s, t⟩).2.1 = ts at *
  generalize (metR bs ss ⟨a, b, c, d, p, q, s, t⟩).2.2 = lf at *
  have HFOR : Hid (∀ U, Calls Try.prog 5 #[.agg #[.int .i64 a, .int .i64 b, .int .i64 c, .int .i64 d, .int .i64 p, .int .i64 q, .int .i64 s, .int .i64 t]] U fun e w' => e = .returned (.tuple #[.int .i64 (forC ⟨a, b, c, d, p, q, s, t⟩), .int .i64 (forS ⟨a, b, c, d, p, q, s, t⟩), .nilIface]) ∧ Below U.heap.size U w') := fun U => by
    have h := for_any ⟨a, b, c, d, p, q, s, t⟩ U
    rw [HF.out.ok, errV_zero] at h
    exact h
  have HBAC : Hid (∀ U, Below W.heap.size W U → Calls Try.prog 7 #[.agg #[.int .i64 a, .int .i64 b, .int .i64 c, .int .i64 d, .int .i64 p, .int .i64 q, .int .i64 s, .int .i64 t], .slice tq ts.length tc, .int .i64 GG] U fun e w' => e = .returned (.tuple #[.int .i64 (backC ⟨a, b, c, d, p, q, s, t⟩ ts GG), .int .i64 (backS ⟨a, b, c, d, p, q, s, t⟩ ts GG), .nilIface]) ∧ Below U.heap.size U w') := fun U hU => by
    have h := back_any ⟨a, b, c, d, p, q, s, t⟩ (.slice tq ts.length tc) ts GG U (HT.out.below hU)
    rw [HF.out.back.1, errV_zero] at h
    exact h
  generalize forC ⟨a, b, c, d, p, q, s, t⟩ = fc at *
  generalize forS ⟨a, b, c, d, p, q, s, t⟩ = fs at *
  generalize backC ⟨a, b, c, d, p, q, s, t⟩ ts GG = bc at *
  generalize backS ⟨a, b, c, d, p, q, s, t⟩ ts GG = bst at *
  have HEA := hidM HF.out.each
  have HCB := hidM HF.out.cB
  have HDB := hidM HF.out.dB
  have HOU := hidM HF.out.out
  have HST := hidM HF.out.stay
  have HLN : Hid (ts.length ≤ 9223372036854775807) := by
    obtain ⟨_, _, _, h⟩ := HT.out.form
    exact h
  clear HF HX HKL
  go_upto_region 5 with fail
  rw [← hW]
  clear hW
  generalize w2.heap.size = Y at *
  obtain ⟨hwW, y0, y1, o0, o1, o2, o3, o4, o5, o6, o7⟩ := HSO.out W HW.out
  clear hwW y0 y1
  go_wp2_with fail
  refine (HFOR.out W).mono ?_
  rintro e w3 ⟨rfl, b3⟩
  have HB3 := hidM b3
  clear b3 o0 o1 o2 o3 o4 o5 o6 o7
  obtain ⟨hwW, y0, y1, o0, o1, o2, o3, o4, o5, o6, o7⟩ := HSO.out w3 (HW.out.trans (HB3.out.mono HW.out.size))
  clear hwW y0 y1
  go_wp2_with fail
  refine (HBAC.out w3 HB3.out).mono ?_
  rintro e w4 ⟨rfl, b4⟩
  have HB4 := hidM (HB3.out.trans (b4.mono HB3.out.size))
  clear b4 HB3 o0 o1 o2 o3 o4 o5 o6 o7 HFOR HBAC
  have HC0 : Hid (cA ⟨a, b, c, d, p, q, s, t⟩ bc ts 0 = bc ∧ dA ⟨a, b, c, d, p, q, s, t⟩ bst ts 0 = bst) := by
    show _ ∧ _
    unfold cA dA
    rw [List.take_zero]
    constructor
    · split
      · show bc + 0 = bc
        omega
      · rfl
    · split
      · rfl
      · show bst + 0 = bst
        omega
  generalize htl : ts.length = tl at *
  have HTL := hidM htl
  clear htl
  go_wp2_with fail
  go_loopg [15, 16, 18] tl (fun gg s15 s16 s18 wr => ∃ kk : Nat, kk ≤ tl ∧ tl - kk ≤ gg ∧ s18 = .int .i64 kk ∧ s15 = .int .i64 (cA ⟨a, b, c, d, p, q, s, t⟩ bc ts kk) ∧ s16 = .int .i64 (dA ⟨a, b, c, d, p, q, s, t⟩ bst ts kk) ∧ Aside (Below W.heap.size W wr))
  case atStart => exact ⟨0, Nat.zero_le _, by omega, rfl, by rw [HC0.out.1], by rw [HC0.out.2], HB4.out⟩
  case round =>
    obtain ⟨kk, hkk, hg, rfl, rfl, rfl, BW0⟩ := hrel
    have HBW := hidM BW0.out
    clear BW0 HB4 HC0
    have HBV := hidM (HW.out.trans (HBW.out.mono HW.out.size))
    obtain ⟨hwr, y0, y1, o0, o1, o2, o3, o4, o5, o6, o7⟩ := HSO.out wr HBV.out
    have HWR := hidM hwr
    clear hwr y0 y1 o3 o4 o5 o6 o7 o1
    by_cases hlt : kk < tl
    · have hltz : (kk : Int) < (tl : Int) := by omega
      have hin1 : ¬ ((kk : Int) < 0) := Int.not_lt.2 (Int.natCast_nonneg _)
      have hkt : kk < ts.length := by rw [HTL.out]; exact hlt
      obtain ⟨g, off, htq, -, hx⟩ := (HT.out.below HBW.out).at hkt
      subst htq
      have hea := HEA.out ts[kk]! (by rw [getE _ _ hkt]; exact List.getElem_mem hkt)
      have HSB := hidM (fun hs => step_buy (o := ⟨a, b, c, d, p, q, s, t⟩) (bc := bc) (bst := bst) hkt hs hea (HCB.out (kk + 1)))
      have HSS := hidM (fun hs => step_sell (o := ⟨a, b, c, d, p, q, s, t⟩) (bc := bc) (bst := bst) hkt hs (HDB.out (kk + 1)))
      have x4 := hx 4 _ rfl
      have x5 := hx 5 _ rfl
      generalize ts[kk]!.price = px at *
      generalize ts[kk]!.qty = qx at *
      have z1 : decide (px < 1) = false := decide_eq_false (by omega)
      have z2 : decide (10000 < px) = false := decide_eq_false (by omega)
      have z3 : decide (qx < 1) = false := decide_eq_false (by omega)
      have z4 : decide (10000 < qx) = false := decide_eq_false (by omega)
      have HM : Hid (kk < tl ∧ tl - kk ≤ gk) := ⟨hlt, hg⟩
      have HEI := hidM (stepW kk (by have := HLN.out; omega))
      simp only at HSB HSS
      obtain ⟨C1, hC1⟩ : ∃ x, cA ⟨a, b, c, d, p, q, s, t⟩ bc ts (kk + 1) = x := ⟨_, rfl⟩
      obtain ⟨D1, hD1⟩ : ∃ x, dA ⟨a, b, c, d, p, q, s, t⟩ bst ts (kk + 1) = x := ⟨_, rfl⟩
      rw [hC1, hD1] at HSB HSS
      have HC1 := hidM hC1
      have HD1 := hidM hD1
      clear hC1 hD1
      generalize cA ⟨a, b, c, d, p, q, s, t⟩ bc ts kk = C0 at *
      generalize dA ⟨a, b, c, d, p, q, s, t⟩ bst ts kk = D0 at *
      clear hea hkt hkk hg hlt hx HFI HFO HLE HKR HEA HCB HDB HOU HST
      go_upto_region 16 with fail
      clear z1 z2 z3 z4
      by_cases hc : c = 1
      · obtain ⟨u1, u2, u3⟩ := HSB.out hc
        have HU := hidM u3
        have HU1 := hidM u1
        have HU2 := hidM u2
        subst hc
        clear u1 u2 u3 HSB HSS
        go_upto_region 17 with fail
        go_quiet (fail)
        clear x4 x5
        have ei := HEI.out
        go_wp2_with fail
        go_roundg (tl - (kk + 1))
        case measure => have := HM.out; omega
        case rel => exact ⟨kk + 1, HM.out.1, Nat.le_refl _, by go_num, by rw [HC1.out]; first | exact congrArg (Value.int .i64) HU1.out | exact congrArg (Value.int .i64) HU2.out, by rw [HD1.out, ← HU.out], belD HBW.out _⟩
      · obtain ⟨u1, u2⟩ := HSS.out hc
        have HU := hidM u2
        have hc1 : (c == 1) = false := by simp [hc]
        clear u2 HSB HSS
        have ei := HEI.out
        go_wp2_with fail
        go_roundg (tl - (kk + 1))
        case measure => have := HM.out; omega
        case rel => exact ⟨kk + 1, HM.out.1, Nat.le_refl _, by go_num, by rw [HC1.out, ← HU.out], by rw [HD1.out] <;> first | rfl | exact congrArg (Value.int .i64) u1, HBW.out⟩
    · have hltz : ¬ (kk : Int) < (tl : Int) := by omega
      have hke : kk = tl := by omega
      have HRW : Hid (wr.heap[Y]? = some (.cells #[.slice v1 m1 l1, .slice v2 m2' l2] 24 (0, 0))) := (HBW.out.block Y (Array.getElem?_eq_some_iff.1 hRW).1).trans hRW
      obtain ⟨C0, hC0⟩ : ∃ x, cA ⟨a, b, c, d, p, q, s, t⟩ bc ts kk = x := ⟨_, rfl⟩
      obtain ⟨D0, hD0⟩ : ∃ x, dA ⟨a, b, c, d, p, q, s, t⟩ bst ts kk = x := ⟨_, rfl⟩
      have HE1 : Hid (stayB ⟨a, b, c, d, p, q, s, t⟩ lf = false → C0 = fc ∧ D0 = fs) := fun h => by
        have := HOU.out h
        rw [← hke, hC0, hD0] at this
        exact this
      have HE2 : Hid (stayB ⟨a, b, c, d, p, q, s, t⟩ lf = true → C0 + putC c p lf = fc ∧ D0 + putS c lf = fs ∧ 0 ≤ fc ∧ fc ≤ 100000000 ∧ 0 ≤ fs ∧ fs ≤ 100000000) := fun h => by
        have := HST.out h
        rw [← hke, hC0, hD0] at this
        exact this
      rw [hC0, hD0]
      clear hC0 hD0 hke hkk hg hlt HCB HDB HOU HST HEA hRW
      obtain ⟨z0, z1, -⟩ := rowTwo HRW.out
      go_wp2_with fail
      clear hltz
      cases hst : stayB ⟨a, b, c, d, p, q, s, t⟩ lf
      · obtain ⟨e1, e2⟩ := HE1.out hst
        refine (HFO.out wr HBW.out hst).mono ?_
        rintro e w5 ⟨rfl, b5⟩
        have HB5 := hidM (HWR.out.trans (b5.mono HWR.out.size))
        clear b5 hst z0 z1 o0 o2 HFI HFO HLE HKR HE1 HE2
        subst e1 e2
        go_wp2_with fail
        go_ret
        exact ⟨by simp, HB5.out.alloc HB5.out.size _⟩
      · obtain ⟨e1, e2, e3, e4, e5, e6⟩ := HE2.out hst
        obtain ⟨sh, hsh⟩ : ∃ sh, shownK ⟨a, b, c, d, p, q, s, t⟩ lf = sh := ⟨_, rfl⟩
        obtain ⟨hd, hhd⟩ : ∃ hd, lf - sh = hd := ⟨_, rfl⟩
        have hkr : rB (keptR ⟨a, b, c, d, p, q, s, t⟩ lf) = .agg #[.int .i64 a, .int .i64 b, .int .i64 sh, .int .i64 hd, .int .i64 s] := by rw [HKR.out, hsh, hhd]
        have hF := HFI.out wr HBW.out hst
        have HL2 := hidM (fun U => HLE.out U hst)
        rw [hkr] at hF HL2
        have w1 : wrap64 (C0 + putC c p lf) = fc := by rw [e1]; exact small_wrap e3 (by omega)
        have w2' : wrap64 (D0 + putS c lf) = fs := by rw [e2]; exact small_wrap e5 (by omega)
        have HV1 := hidM w1
        have HV2 := hidM w2'
        generalize putC c p lf = LC at *
        generalize putS c lf = LS0 at *
        clear w1 w2' e1 e2 e3 e4 e5 e6 hsh hhd hkr HE1 HE2 HFO HLE HKR HFI
        refine hF.mono ?_
        rintro e w5 ⟨rfl, b5⟩
        obtain ⟨W5, hW5⟩ : ∃ W5, W5 = w5.alloc (.cells #[.int .i64 a, .int .i64 b, .int .i64 sh, .int .i64 hd, .int .i64 s] 38) := ⟨_, rfl⟩
        have HB5 : Hid (Below w.heap.size w W5) := by
          rw [hW5]
          have h := HWR.out.trans (b5.mono HWR.out.size)
          exact h.alloc h.size _
        have hRR : W5.heap[w5.heap.size]? = some (.cells #[.int .i64 a, .int .i64 b, .int .i64 sh, .int .i64 hd, .int .i64 s] 38 (0, 0)) := by rw [hW5]; exact heap_alloc_new w5 _
        have HRR := hidM hRR
        clear b5 hF hst z0 z1 o0 o2 hRR
        go_upto_region 20 with fail
        rw [← hW5]
        clear hW5
        generalize w5.heap.size = RB at *
        obtain ⟨r0, r1, r2, r3, r4, -⟩ := rowFive HRR.out
        go_wp2_with fail
        refine (HL2.out W5).mono ?_
        rintro e w6 ⟨rfl, b6⟩
        have HB6 := hidM (HB5.out.trans (b6.mono HB5.out.size))
        clear b6 r0 r1 r2 r3 r4
        have k1 := HV1.out
        have k2 := HV2.out
        go_wp2_with fail
        go_ret
        exact ⟨by simp, HB6.out⟩
end Go.Proofs.Ytdeahageabacbaa.mrg
