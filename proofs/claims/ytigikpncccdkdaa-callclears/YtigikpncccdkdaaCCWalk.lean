/- The walk of CallClears. -/
import Derived.Test.YtigikpncccdkdaaCalNam
namespace Go.Proofs.Ytigikpncccdkdaa.cal
open Go.RowKit Go.Proofs.Ytigikpncccdkdaa.ord
open Go.Proofs.Ytigikpncccdkdaa.wak (Lies SL oL OwnM OwnQ flat getE own_range)

/-- The two orders that the law begins with. -/
def oneL : List O := [⟨1, 1, 1, 1, 101, 5, 0, 0⟩, ⟨2, 2, 2, 1, 100, 3, 0, 0⟩]
theorem one_pE : pE oneL = 0 := by decide
theorem one_pP : pP oneL = 100 := by decide
theorem one_pV : pV oneL = 3 := by decide
theorem one_sl (w : World) : SL (w.alloc (.cells #[.int .i64 1, .int .i64 1, .int .i64 1, .int .i64 1, .int .i64 101, .int .i64 5, .int .i64 0, .int .i64 0, .int .i64 2, .int .i64 2, .int .i64 2, .int .i64 1, .int .i64 100, .int .i64 3, .int .i64 0, .int .i64 0] 24)) (.slice (some ⟨w.heap.size, 0, none⟩) 2 2) oneL := by
  refine .inr ⟨w.heap.size, 0, 2, rfl, Nat.le_refl 2, by decide, by simp, fun j hj i v hv => ?_⟩
  have hh := heap_alloc_new w (.cells #[.int .i64 1, .int .i64 1, .int .i64 1, .int .i64 1, .int .i64 101, .int .i64 5, .int .i64 0, .int .i64 0, .int .i64 2, .int .i64 2, .int .i64 2, .int .i64 1, .int .i64 100, .int .i64 3, .int .i64 0, .int .i64 0] 24)
  have hi : i < 8 := (List.getElem?_eq_some_iff.1 hv).1
  have hc : (w.alloc (.cells #[.int .i64 1, .int .i64 1, .int .i64 1, .int .i64 1, .int .i64 101, .int .i64 5, .int .i64 0, .int .i64 0, .int .i64 2, .int .i64 2, .int .i64 2, .int .i64 1, .int .i64 100, .int .i64 3, .int .i64 0, .int .i64 0] 24)).cell? ⟨w.heap.size, 0 + j * 8 + i, none⟩ = (#[.int .i64 1, .int .i64 1, .int .i64 1, .int .i64 1, .int .i64 101, .int .i64 5, .int .i64 0, .int .i64 0, .int .i64 2, .int .i64 2, .int .i64 2, .int .i64 1, .int .i64 100, .int .i64 3, .int .i64 0, .int .i64 0] : Array Value)[0 + j * 8 + i]? := cell_of_row _ _ _ _ _ (0, 0) hh
  rw [hc, ← hv]
  have hj2 : j = 0 ∨ j = 1 := by have : j < 2 := hj; omega
  have hi2 : i = 0 ∨ i = 1 ∨ i = 2 ∨ i = 3 ∨ i = 4 ∨ i = 5 ∨ i = 6 ∨ i = 7 := by omega
  rcases hj2 with rfl | rfl <;> rcases hi2 with rfl | rfl | rfl | rfl | rfl | rfl | rfl | rfl <;> rfl

theorem sumT_take (ts : List T) (k : Nat) (h : k < ts.length) : sumT (ts.take (k + 1)) = sumT (ts.take k) + (ts[k]!).qty := by
  rw [List.take_succ_eq_append_getElem h, sumT_append, getE ts k h]
  simp [sumT]
theorem sumQ_take (ts : List O) (k : Nat) (h : k < ts.length) : sumQ (ts.take (k + 1)) = sumQ (ts.take k) + (ts[k]!).qty := by
  rw [List.take_succ_eq_append_getElem h, sumQ_append, getE ts k h]
  simp [sumQ]
theorem sumT_bound (ts : List T) (h : ∀ t ∈ ts, 0 ≤ t.qty ∧ t.qty ≤ 10000) : 0 ≤ sumT ts ∧ sumT ts ≤ 10000 * ts.length := by
  induction ts with
  | nil => simp [sumT]
  | cons t r ih =>
    have h1 := ih (fun x hx => h x (List.mem_cons_of_mem _ hx))
    have h2 := h t List.mem_cons_self
    rw [sumT, List.length_cons]
    omega
theorem sumQ_bound (ts : List O) (h : ∀ t ∈ ts, 0 ≤ t.qty ∧ t.qty ≤ 10000) : 0 ≤ sumQ ts ∧ sumQ ts ≤ 10000 * ts.length := by
  induction ts with
  | nil => simp [sumQ]
  | cons t r ih =>
    have h1 := ih (fun x hx => h x (List.mem_cons_of_mem _ hx))
    have h2 := h t List.mem_cons_self
    rw [sumQ, List.length_cons]
    omega
theorem apart_at {zs : List O} (hg : Good zs) (i j : Nat) (hi : i < zs.length) (hj : j < i) : ¬ (zs[j]!).id = (zs[i]!).id := by
  have := List.pairwise_iff_getElem.1 hg.apart j i (by omega) hi hj
  rw [getE zs j (by omega), getE zs i hi]
  exact this

set_option maxHeartbeats 4000000 in
set_option maxRecDepth 100000 in
theorem clears_walk (q : Option Addr) (n c : Nat) (zs : List O) (p : Int) (w : World) (hn : n = zs.length) (hS : SL w (.slice q n c) zs) :
    Calls Try.prog 3 #[.slice q n c, .int .i64 p] w fun e w' => e = .returned (.bool true) ∧ Below w.heap.size w w' := by
  have hB1 : Below w.heap.size w (w.alloc (.cells #[.int .i64 1, .int .i64 1, .int .i64 1, .int .i64 1, .int .i64 101, .int .i64 5, .int .i64 0, .int .i64 0, .int .i64 2, .int .i64 2, .int .i64 2, .int .i64 1, .int .i64 100, .int .i64 3, .int .i64 0, .int .i64 0] 24)) := (Below.refl _ _).alloc (Nat.le_refl _) _
  have hP := price_call _ oneL _ (one_sl w)
  rw [one_pE, one_pP, one_pV, errV_zero] at hP
  have HP := hidC hP
  have HS := hidC hS
  have HN := hidC hn
  have HB1 := hidC hB1
  clear hP hS hn hB1
  go_enter Try.func3, Try.ntmps3
  go_wp2_with fail
  refine HP.out.mono ?_
  rintro e w2 ⟨rfl, hb2⟩
  have HB2 := hidC (HB1.out.trans (hb2.mono HB1.out.size))
  have hS2 := HS.out.below HB2.out
  have HS2 := hidC hS2
  clear hb2 HB1 HP
  by_cases hE : pE zs = 0
  · obtain ⟨hg, hPb, hVb, hV, hV0, hV6, hpr, -⟩ := price_zero hE
    have HU := hidC (uncross_fine _ zs w2 hS2 hE)
    have hvE : vE zs (pP zs) = 0 := by unfold vE; rw [if_pos (cE_of hg), if_pos hpr]
    have hvV : vV zs (pP zs) = pV zs := by unfold vV; rw [if_pos hvE, hV]; rfl
    have HVP := hidC (fun W (hW : Below w2.heap.size w2 W) => volume_call _ zs (pP zs) W (hS2.below hW))
    rw [hvE, hvV, errV_zero] at HVP
    have hmax : vE zs p = 0 → vV zs p ≤ pV zs := fun h => by
      unfold vV
      rw [if_pos h, hVb]
      exact vol_max hg p
    have HVM := hidC hmax
    have HVp := hidC (fun W (hW : Below w2.heap.size w2 W) => volume_call _ zs p W (hS2.below hW))
    have HG := hidC hg
    have HVV : Hid (pV zs = min (ws 1 (pP zs) zs) (ws 2 (pP zs) zs) ∧ 0 < pV zs ∧ pV zs ≤ 600000 ∧ prB (pP zs) = true) := ⟨hV, hV0, hV6, hpr⟩
    generalize pP zs = P at *
    generalize pV zs = V at *
    generalize vO zs P = VO at *
    generalize vV zs p = Vp at *
    generalize vO zs p = Op at *
    generalize vE zs p = Ep at *
    clear hg hPb hVb hV hV6 hpr hE hvE hvV hmax hS2
    have hV1 : ¬ (V < 1) := by omega
    clear hV0
    go_wp2_with fail
    refine HU.out.mono ?_
    rintro e w3 ⟨qt, mt, ct, qr, mr, cr, ts, os, rfl, hmt, hmr, hUU, hSh, hNn, hmt2, hOt, hOr, -, hb3⟩
    have HB3 := hidC hb3
    obtain ⟨f1, f2, f3, f4⟩ := u_facts (zs := zs) hUU (Sh.refl zs) (nn_of HG.out) HVV.out.1
    have hgr := good_rest HG.out hSh hNn
    have hvr : vE (os.filter nz) P = 0 := by unfold vE; rw [if_pos (cE_of hgr), if_pos HVV.out.2.2.2]
    have hvr2 : vV (os.filter nz) P = 0 := by
      unfold vV
      rw [if_pos hvr]
      show min (ws 1 P (os.filter nz)) (ws 2 P (os.filter nz)) = 0
      rw [ws_nz, ws_nz]
      exact f2
    have hslr := own_sl hOr hmr
    have HVR := hidC (fun W (hW : Below w3.heap.size w3 W) => volume_call _ (os.filter nz) P W (hslr.below hW))
    rw [hvr, hvr2, errV_zero] at HVR
    generalize vO (os.filter nz) P = VOr at HVR
    have HF : Hid (sumT ts = V ∧ sumQ zs - sumQ (os.filter nz) = 2 * V ∧ (∀ t ∈ ts, ∃ b s, Pair zs P t b s) ∧ mt = ts.length ∧ mr = (os.filter nz).length ∧ mt ≤ 120) := ⟨f1, by rw [sumQ_nz]; exact f3, f4, hmt, hmr, hmt2⟩
    have HGR := hidC hgr
    have HOT := hidC hOt
    have HSR := hidC hslr
    clear HU hmt hmr hUU hSh hNn hmt2 hOt hOr hb3 f1 f2 f3 f4 hgr hvr hvr2 hslr
    go_wp2_with fail
    refine (HVP.out _ HB3.out).mono ?_
    rintro e w4 ⟨rfl, hb4⟩
    have HB4 := hidC (HB3.out.trans (hb4.mono HB3.out.size))
    have HB34 := hidC hb4
    clear hb4 HVP
    go_wp2_with fail
    refine (HVp.out _ HB4.out).mono ?_
    rintro e w5 ⟨rfl, hb5⟩
    have HB5 := hidC (HB4.out.trans (hb5.mono HB4.out.size))
    have HB35 := hidC (HB34.out.trans (hb5.mono HB34.out.size))
    clear hb5 HVp HB4 HB34
    go_upto_region 12 with fail
    go_cut [15, 16, 17, 91] from 33 to 91 (fun _ _ _ s91 wx => s91 = .bool false ∧ wx = w5)
    case first =>
      by_cases h0 : Ep = 0
      · have hm := HVM.out h0
        have hmz : ¬ (V < Vp) := by omega
        subst h0
        rw [errV_zero]
        go_wp2_with fail
        go_meet
        exact ⟨rfl, rfl⟩
      · rw [errV_of h0]
        go_wp2_with fail
        go_meet
        exact ⟨rfl, rfl⟩
    case rest =>
      obtain ⟨rfl, rfl⟩ := hcut
      clear HVM
      obtain ⟨W5, hW5⟩ : ∃ x, x = wc := ⟨_, rfl⟩
      have hBW : Below w2.heap.size w2 W5 := by rw [hW5]; exact HB5.out
      have hBR : Below w3.heap.size w3 W5 := by rw [hW5]; exact HB35.out
      have HBW := hidC hBW
      have HBR := hidC hBR
      have HS5 := hidC (HS2.out.below hBW)
      have HT5 := hidC (OwnM.below HOT.out hBR)
      have HSR5 := hidC (HSR.out.below hBR)
      have HVR5 := hidC (fun W (hW : Below W5.heap.size W5 W) => HVR.out W (hBR.trans (hW.mono hBR.size)))
      have HEQ : Hid (W5 = wc) := hW5
      clear hBW hBR hW5 HVR HOT HSR HS2 HB5 HB35 HS HB3
      go_wp2_with fail
      go_loopg [18, 19, 20, 21, 22, 23, 24, 25, 26, 27] mt (fun gg s18 s19 _ _ _ _ _ _ _ _ wr => ∃ kk : Nat, kk ≤ mt ∧ mt - kk ≤ gg ∧ s18 = .int .i64 (sumT (ts.take kk)) ∧ s19 = .int .i64 kk ∧ Aside (Below W5.heap.size W5 wr))
      case atStart => exact ⟨0, Nat.zero_le _, by omega, rfl, rfl, by rw [← HEQ.out]; exact Below.refl _ _⟩
      case round =>
        obtain ⟨kk, hkk, hg, rfl, rfl, HA⟩ := hrel
        by_cases hlt : kk < mt
        · have hf := HF.out
          obtain ⟨T1, o1, rfl, -, hT1, hTc⟩ := trades_some HT5.out hf.2.2.2.1 (by omega)
          have hmem : ts[kk]! ∈ ts := by rw [getE ts kk (by omega)]; exact List.getElem_mem _
          obtain ⟨b, s, hpr⟩ := hf.2.2.1 _ hmem
          have hx : ∀ V, Below W5.heap.size W5 V → ∀ i v, (tL ts[kk]!)[i]? = some v → V.cell? ⟨T1, o1 + kk * 6 + i, none⟩ = some v := fun V hV i v hv => (hV.cell (p := ⟨T1, o1 + kk * 6 + i, none⟩) hT1).trans (hTc kk hlt i v hv)
          obtain ⟨G, o, rfl, hG, hL⟩ := sl_some HS5.out (by have := hpr.bl; have := HN.out; omega)
          have hl60 := HG.out.few
          have hnz := HN.out
          have HNB : Hid (∀ V, Below W5.heap.size W5 V → Calls Try.prog 8 #[.slice (some ⟨G, o, none⟩) n c, .int .i64 (ts[kk]!).tak] V fun e w' => e = .returned (.tuple #[.agg (oL zs[b]!).toArray, .bool true]) ∧ Below V.heap.size V w') := fun V hV => named_at G o n c b zs _ V hnz (by omega) (by have := hpr.bl; omega) hpr.tt.symm (fun j hj => by rw [hpr.tt]; exact apart_at HG.out b j hpr.bl hj) (Nat.lt_of_lt_of_le hG hV.size) (hL.below hG hV)
          have HNS : Hid (∀ V, Below W5.heap.size W5 V → Calls Try.prog 8 #[.slice (some ⟨G, o, none⟩) n c, .int .i64 (ts[kk]!).mak] V fun e w' => e = .returned (.tuple #[.agg (oL zs[s]!).toArray, .bool true]) ∧ Below V.heap.size V w') := fun V hV => named_at G o n c s zs _ V hnz (by omega) (by have := hpr.sl; omega) hpr.mm.symm (fun j hj => by rw [hpr.mm]; exact apart_at HG.out s j hpr.sl hj) (Nat.lt_of_lt_of_le hG hV.size) (hL.below hG hV)
          have fb : Fine zs[b]! := by rw [getE zs b hpr.bl]; exact HG.out.fine _ (List.getElem_mem _)
          have fs : Fine zs[s]! := by rw [getE zs s hpr.sl]; exact HG.out.fine _ (List.getElem_mem _)
          have HMB : Hid (∀ V, Calls Try.prog 9 #[.agg (oL zs[b]!).toArray, .int .i64 P] V fun e w' => e = .returned (.tuple #[.bool true, .nilIface]) ∧ Below V.heap.size V w') := fun V => by
            have h := meets_any zs[b]! P V
            rw [fb.meets P HVV.out.2.2.2, if_pos rfl, fb.mB P, hpr.ba, errV_zero] at h
            exact h
          have HMS : Hid (∀ V, Calls Try.prog 9 #[.agg (oL zs[s]!).toArray, .int .i64 P] V fun e w' => e = .returned (.tuple #[.bool true, .nilIface]) ∧ Below V.heap.size V w') := fun V => by
            have h := meets_any zs[s]! P V
            rw [fs.meets P HVV.out.2.2.2, if_pos rfl, fs.mB P, hpr.sa, errV_zero] at h
            exact h
          have hbs := hpr.bs
          have hss := hpr.ss
          have hbd := sumT_bound (ts.take kk) (fun t ht => by obtain ⟨b', s', h'⟩ := hf.2.2.1 t (List.mem_of_mem_take ht); have := h'.q1; have := h'.q2; omega)
          have hlk : (ts.take kk).length ≤ 120 := by rw [List.length_take]; omega
          have HSN := hidC (sumT_take ts kk (by omega))
          have hq1 := hpr.q1
          have hq2 := hpr.q2
          have hpp := hpr.pr
          rcases htt : ts[kk]! with ⟨t1, t2, t3, t4, t5, t6⟩
          rw [htt] at hx HNB HNS hq1 hq2 hpp HSN
          simp only at HNB HNS hq1 hq2 hpp HSN
          subst hpp
          rcases hzb : zs[b]! with ⟨b1, b2, b3, b4, b5, b6, b7, b8⟩
          rcases hzs : zs[s]! with ⟨s1, s2, s3, s4, s5, s6, s7, s8⟩
          rw [hzb] at HNB HMB hbs
          rw [hzs] at HNS HMS hss
          simp only at hbs hss
          subst hbs
          subst hss
          have HNB2 : Hid (∀ V, Below W5.heap.size W5 V → Calls Try.prog 8 #[.slice (some ⟨G, o, none⟩) n c, .int .i64 t2] V fun e w' => e = .returned (.tuple #[.agg #[.int .i64 b1, .int .i64 b2, .int .i64 1, .int .i64 b4, .int .i64 b5, .int .i64 b6, .int .i64 b7, .int .i64 b8], .bool true]) ∧ Below V.heap.size V w') := HNB.out
          have HNS2 : Hid (∀ V, Below W5.heap.size W5 V → Calls Try.prog 8 #[.slice (some ⟨G, o, none⟩) n c, .int .i64 t1] V fun e w' => e = .returned (.tuple #[.agg #[.int .i64 s1, .int .i64 s2, .int .i64 2, .int .i64 s4, .int .i64 s5, .int .i64 s6, .int .i64 s7, .int .i64 s8], .bool true]) ∧ Below V.heap.size V w') := HNS.out
          have HMB2 : Hid (∀ V, Calls Try.prog 9 #[.agg #[.int .i64 b1, .int .i64 b2, .int .i64 1, .int .i64 b4, .int .i64 b5, .int .i64 b6, .int .i64 b7, .int .i64 b8], .int .i64 t5] V fun e w' => e = .returned (.tuple #[.bool true, .nilIface]) ∧ Below V.heap.size V w') := HMB.out
          have HMS2 : Hid (∀ V, Calls Try.prog 9 #[.agg #[.int .i64 s1, .int .i64 s2, .int .i64 2, .int .i64 s4, .int .i64 s5, .int .i64 s6, .int .i64 s7, .int .i64 s8], .int .i64 t5] V fun e w' => e = .returned (.tuple #[.bool true, .nilIface]) ∧ Below V.heap.size V w') := HMS.out
          have HX := hidC hx
          have HM : Hid (kk < mt ∧ mt - kk ≤ gk ∧ kk ≤ 5000) := ⟨hlt, hg, by omega⟩
          obtain ⟨SU, hSU⟩ : ∃ x, x = sumT (ts.take kk) := ⟨_, rfl⟩
          rw [← hSU] at hbd HSN ⊢
          have hw := wrapW (SU + t6) _ rfl (by omega) (by omega)
          have ei := succW kk HM.out.2.2
          have hq1z : ¬ t6 < 1 := by clear hw ei; omega
          have hq2z : ¬ 10000 < t6 := by clear hw ei; omega
          have hltz : (kk : Int) < (mt : Int) := by clear hw ei; omega
          have hpe : (t5 != t5) = false := by simp
          have HW := hidC HA.out
          have x1 := hx wr HA.out 1 _ rfl
          clear hf hTc hmem hpr hx hG hL hl60 hnz HNB HNS fb fs HMB HMS hbd hlk hq1 hq2 htt hzb hzs hSU hkk hg hlt hT1 HA
          go_wp2_with fail
          clear x1
          refine (HNB2.out _ HW.out).mono ?_
          rintro e W6 ⟨rfl, hb6⟩
          have HW6 := hidC (HW.out.trans (hb6.mono HW.out.size))
          have hA6 : Below W6.heap.size W6 (W6.alloc (.cells #[.int .i64 b1, .int .i64 b2, .int .i64 1, .int .i64 b4, .int .i64 b5, .int .i64 b6, .int .i64 b7, .int .i64 b8] 24)) := (Below.refl _ _).alloc (Nat.le_refl _) _
          have HA6 := hidC (HW6.out.trans (hA6.mono HW6.out.size))
          have HR6 : Hid ((W6.alloc (.cells #[.int .i64 b1, .int .i64 b2, .int .i64 1, .int .i64 b4, .int .i64 b5, .int .i64 b6, .int .i64 b7, .int .i64 b8] 24)).heap[W6.heap.size]? = some (.cells #[.int .i64 b1, .int .i64 b2, .int .i64 1, .int .i64 b4, .int .i64 b5, .int .i64 b6, .int .i64 b7, .int .i64 b8] 24 (0, 0))) := heap_alloc_new W6 _
          have y0 := HX.out _ HA6.out 0 _ rfl
          simp only [Nat.add_zero] at y0
          obtain ⟨Z1, hZ1⟩ : ∃ x, x = W6.heap.size := ⟨_, rfl⟩
          rw [← hZ1] at HR6
          clear hb6 hA6 HW HNB2
          go_upto_region 19 with fail
          simp only [← hZ1]
          clear hZ1
          generalize W6.alloc (.cells #[.int .i64 b1, .int .i64 b2, .int .i64 1, .int .i64 b4, .int .i64 b5, .int .i64 b6, .int .i64 b7, .int .i64 b8] 24) = W7 at HA6 HR6 y0 ⊢
          go_wp2_with fail
          clear y0
          refine (HNS2.out _ HA6.out).mono ?_
          rintro e W8 ⟨rfl, hb8⟩
          have HW8 := hidC (HA6.out.trans (hb8.mono HA6.out.size))
          have hR8 : W8.heap[Z1]? = some (.cells #[.int .i64 b1, .int .i64 b2, .int .i64 1, .int .i64 b4, .int .i64 b5, .int .i64 b6, .int .i64 b7, .int .i64 b8] 24 (0, 0)) := (hb8.block _ (Array.getElem?_eq_some_iff.1 HR6.out).1).trans HR6.out
          have hA8 : Below W8.heap.size W8 (W8.alloc (.cells #[.int .i64 s1, .int .i64 s2, .int .i64 2, .int .i64 s4, .int .i64 s5, .int .i64 s6, .int .i64 s7, .int .i64 s8] 24)) := (Below.refl _ _).alloc (Nat.le_refl _) _
          have HA8 := hidC (HW8.out.trans (hA8.mono HW8.out.size))
          have HRB : Hid ((W8.alloc (.cells #[.int .i64 s1, .int .i64 s2, .int .i64 2, .int .i64 s4, .int .i64 s5, .int .i64 s6, .int .i64 s7, .int .i64 s8] 24)).heap[Z1]? = some (.cells #[.int .i64 b1, .int .i64 b2, .int .i64 1, .int .i64 b4, .int .i64 b5, .int .i64 b6, .int .i64 b7, .int .i64 b8] 24 (0, 0))) := (hA8.block _ (Array.getElem?_eq_some_iff.1 hR8).1).trans hR8
          have HRS : Hid ((W8.alloc (.cells #[.int .i64 s1, .int .i64 s2, .int .i64 2, .int .i64 s4, .int .i64 s5, .int .i64 s6, .int .i64 s7, .int .i64 s8] 24)).heap[W8.heap.size]? = some (.cells #[.int .i64 s1, .int .i64 s2, .int .i64 2, .int .i64 s4, .int .i64 s5, .int .i64 s6, .int .i64 s7, .int .i64 s8] 24 (0, 0))) := heap_alloc_new W8 _
          obtain ⟨Z2, hZ2⟩ : ∃ x, x = W8.heap.size := ⟨_, rfl⟩
          rw [← hZ2] at HRS
          clear hb8 hA8 HNS2 hR8 HR6 HA6
          go_upto_region 20 with fail
          simp only [← hZ2]
          clear hZ2
          generalize W8.alloc (.cells #[.int .i64 s1, .int .i64 s2, .int .i64 2, .int .i64 s4, .int .i64 s5, .int .i64 s6, .int .i64 s7, .int .i64 s8] 24) = W9 at HA8 HRB HRS ⊢
          have z4 := HX.out _ HA8.out 4 _ rfl
          have z5 := HX.out _ HA8.out 5 _ rfl
          obtain ⟨k0, k1, k2, k3, k4, k5, k6, k7⟩ := row8 HRB.out
          obtain ⟨l0, l1, l2, l3, l4, l5, l6, l7⟩ := row8 HRS.out
          go_wp2_with fail
          refine (HMB2.out _).mono ?_
          rintro e W10 ⟨rfl, hb10⟩
          have HW10 := hidC (HA8.out.trans (hb10.mono HA8.out.size))
          have hR10 : W10.heap[Z2]? = some (.cells #[.int .i64 s1, .int .i64 s2, .int .i64 2, .int .i64 s4, .int .i64 s5, .int .i64 s6, .int .i64 s7, .int .i64 s8] 24 (0, 0)) := (hb10.block _ (Array.getElem?_eq_some_iff.1 HRS.out).1).trans HRS.out
          clear z4 z5 k0 k1 k2 k3 k4 k5 k6 k7 l0 l1 l2 l3 l4 l5 l6 l7 hb10 HMB2 HRB HRS HA8
          obtain ⟨l0, l1, l2, l3, l4, l5, l6, l7⟩ := row8 hR10
          go_wp2_with fail
          refine (HMS2.out _).mono ?_
          rintro e W11 ⟨rfl, hb11⟩
          have HW11 := hidC (HW10.out.trans (hb11.mono HW10.out.size))
          have z5 := HX.out _ HW11.out 5 _ rfl
          clear l0 l1 l2 l3 l4 l5 l6 l7 hb11 HMS2 hR10 HW10
          go_wp2_with fail
          go_roundg (mt - (kk + 1))
          case measure => have := HM.out; clear hw ei; omega
          case rel => exact ⟨kk + 1, HM.out.1, Nat.le_refl _, by rw [HSN.out]; first | rfl | exact congrArg (Value.int .i64) hw, by first | rfl | exact congrArg (Value.int .i64) ei, HW11.out⟩
        · have hke : kk = mt := by omega
          subst hke
          have hltz : ¬ (kk : Int) < (kk : Int) := by omega
          have hf := HF.out
          have hsum : sumT (ts.take kk) = V := by rw [hf.2.2.2.1, List.take_length]; exact hf.1
          rw [hsum]
          have HWA := hidC HA.out
          have HSW := hidC (HS5.out.below HA.out)
          have HRW := hidC (HSR5.out.below HA.out)
          have HVW := hidC (fun W (hW : Below wr.heap.size wr W) => HVR5.out W (HA.out.trans (hW.mono HA.out.size)))
          obtain ⟨rs, hrs⟩ : ∃ rs, rs = os.filter nz := ⟨_, rfl⟩
          have HFR : Hid (sumQ zs - sumQ rs = 2 * V ∧ mr = rs.length ∧ Good rs) := by rw [hrs]; exact ⟨hf.2.1, hf.2.2.2.2.1, HGR.out⟩
          rw [← hrs] at HRW
          clear hf hsum HA hkk hg hlt HT5 HS5 HSR5 HVR5 HF HGR hrs
          have hqz : ∀ o ∈ zs, 0 ≤ o.qty ∧ o.qty ≤ 10000 := fun o ho => by have := (HG.out.fine o ho).bounds; omega
          have hbz := sumQ_bound zs hqz
          have HQZ := hidC hqz
          have HBZ := hidC hbz
          clear hqz hbz
          go_wp2_with fail
          go_loopg [28, 29] n (fun gg s28 s29 wr2 => ∃ jj : Nat, jj ≤ n ∧ n - jj ≤ gg ∧ s28 = .int .i64 (sumQ (zs.take jj)) ∧ s29 = .int .i64 jj ∧ wr2 = wr)
          case atStart => exact ⟨0, Nat.zero_le _, by omega, rfl, rfl, rfl⟩
          case round =>
            obtain ⟨jj, hjj, hg, rfl, rfl, rfl⟩ := hrel
            have hnz := HN.out
            have hl60 := HG.out.few
            by_cases hlt : jj < n
            · obtain ⟨G, o, rfl, hG, hL⟩ := sl_some HSW.out (by omega)
              have x5 := hL jj (by omega) 5 _ rfl
              have HSN := hidC (sumQ_take zs jj (by omega))
              have hb1 := sumQ_bound (zs.take jj) (fun o ho => HQZ.out o (List.mem_of_mem_take ho))
              have hlk : (zs.take jj).length ≤ 60 := by rw [List.length_take]; omega
              have hb2 := HQZ.out zs[jj]! (by rw [getE zs jj (by omega)]; exact List.getElem_mem _)
              generalize (zs[jj]!).qty = QQ at x5 HSN hb2
              generalize sumQ (zs.take jj) = SU at hb1 HSN ⊢
              have HM : Hid (jj < n ∧ n - jj ≤ gk ∧ jj ≤ 5000) := ⟨hlt, hg, by omega⟩
              have hltz : (jj : Int) < (n : Int) := by omega
              have hw := wrapW (SU + QQ) _ rfl (by omega) (by omega)
              have ei := succW jj HM.out.2.2
              clear hG hL hb1 hb2 hlk hnz hl60 hjj hg hlt
              go_wp2_with fail
              go_roundg (n - (jj + 1))
              case measure => have := HM.out; clear hw ei; omega
              case rel => exact ⟨jj + 1, HM.out.1, Nat.le_refl _, by rw [HSN.out]; first | rfl | exact congrArg (Value.int .i64) hw, by first | rfl | exact congrArg (Value.int .i64) ei, rfl⟩
            · have hje : jj = n := by omega
              subst hje
              have hltz : ¬ (jj : Int) < (jj : Int) := by omega
              rw [hnz, List.take_length]
              clear hnz hl60 hjj hg hlt
              go_wp2_with fail
              go_loopg [28, 30] mr (fun gg s28 s30 wr2 => ∃ ii : Nat, ii ≤ mr ∧ mr - ii ≤ gg ∧ s28 = .int .i64 (sumQ zs - sumQ (rs.take ii)) ∧ s30 = .int .i64 ii ∧ wr2 = wr)
              case atStart => exact ⟨0, Nat.zero_le _, by omega, by simp [sumQ], rfl, rfl⟩
              case round =>
                obtain ⟨ii, hii, hg, rfl, rfl, rfl⟩ := hrel
                have hfr := HFR.out
                by_cases hlt : ii < mr
                · obtain ⟨G, o, rfl, hG, hL⟩ := sl_some HRW.out (by omega)
                  have x5 := hL ii (by omega) 5 _ rfl
                  have HSN := hidC (sumQ_take rs ii (by omega))
                  have hqr : ∀ o ∈ rs, 1 ≤ o.qty ∧ o.qty ≤ 10000 := fun o ho => by have := (hfr.2.2.fine o ho).bounds; omega
                  have hb1 := sumQ_bound (rs.take ii) (fun o ho => by have := hqr o (List.mem_of_mem_take ho); omega)
                  have hlk : (rs.take ii).length ≤ 60 := by have := hfr.2.2.few; rw [List.length_take]; omega
                  have hb2 := hqr rs[ii]! (by rw [getE rs ii (by omega)]; exact List.getElem_mem _)
                  have hz := HBZ.out
                  have hz6 := HG.out.few
                  have hr6 := hfr.2.2.few
                  generalize (rs[ii]!).qty = QQ at x5 HSN hb2
                  generalize sumQ (rs.take ii) = SU at hb1 HSN ⊢
                  generalize hSZ : sumQ zs = SZ at hz ⊢
                  have HSZ := hidC hSZ
                  clear hSZ
                  have HM : Hid (ii < mr ∧ mr - ii ≤ gk ∧ ii ≤ 5000) := ⟨hlt, hg, by omega⟩
                  have hltz : (ii : Int) < (mr : Int) := by omega
                  have hw := wrapW (SZ - SU - QQ) _ rfl (by omega) (by omega)
                  have ei := succW ii HM.out.2.2
                  have q1 : ¬ QQ < 1 := by clear hw ei; omega
                  have q2 : ¬ 10000 < QQ := by clear hw ei; omega
                  clear hG hL hb1 hb2 hlk hfr hqr hii hg hlt hz hz6 hr6
                  go_wp2_with fail
                  go_roundg (mr - (ii + 1))
                  case measure => have := HM.out; clear hw ei; omega
                  case rel => exact ⟨ii + 1, HM.out.1, Nat.le_refl _, by rw [HSN.out, HSZ.out]; have hh := hw; clear hw ei; first | (rw [hh]; congr 1; omega) | (congr 1; omega), by first | rfl | exact congrArg (Value.int .i64) ei, rfl⟩
                · have hie : ii = mr := by omega
                  subst hie
                  have hltz : ¬ (ii : Int) < (ii : Int) := by omega
                  have hs : sumQ zs - sumQ (rs.take ii) = 2 * V := by rw [hfr.2.1, List.take_length]; exact hfr.1
                  rw [hs]
                  have hv := HVV.out
                  have hw := wrapW (2 * V) _ rfl (by omega) (by omega)
                  have HFIN : Hid (Below w.heap.size w wr) := HB2.out.trans ((HBW.out.trans (HWA.out.mono HBW.out.size)).mono HB2.out.size)
                  clear hfr hs hv hii hg hlt
                  go_wp2_with fail
                  refine (HVW.out wr (Below.refl _ _)).mono ?_
                  rintro e W20 ⟨rfl, hb20⟩
                  have HFN := hidC (HFIN.out.trans (hb20.mono HFIN.out.size))
                  have e1 : (V == V) = true := by simp
                  have e2 : (2 * V == 2 * V) = true := by simp
                  clear hb20 HVW
                  go_wp2_with fail
                  go_ret
                  first | exact ⟨rfl, HFN.out⟩ | exact ⟨by simp, HFN.out⟩
  · have HU := hidC (uncross_bad _ zs w2 hS2 hE)
    rw [errV_of hE] at HU
    generalize pE zs = K at *
    clear hE hS2
    go_wp2_with fail
    refine HU.out.mono ?_
    rintro e w3 ⟨rfl, hb3⟩
    have HB3 := hidC (HB2.out.trans (hb3.mono HB2.out.size))
    clear hb3 HU
    go_wp2_with fail
    go_ret
    exact ⟨rfl, HB3.out⟩
end Go.Proofs.Ytigikpncccdkdaa.cal
