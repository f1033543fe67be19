/- The walk of CallMany. -/
import Derived.Test.YtigikpncccdkdaaCMPure
import Derived.Test.YtigikpncccdkdaaCalNam
namespace Go.Proofs.Ytigikpncccdkdaa.cal
open Go.RowKit Go.Proofs.Ytigikpncccdkdaa.ord
open Go.Proofs.Ytigikpncccdkdaa.wak (Lies SL oL OwnM OwnQ flat flat_len flat_append getE own_of own_range gr_setCells wpList_append_mid infoR' zeroR)

theorem sumT_take2 (ts : List T) (k : Nat) (h : k < ts.length) : sumT (ts.take (k + 1)) = sumT (ts.take k) + (ts[k]!).qty := by
  rw [List.take_succ_eq_append_getElem h, sumT_append, getE ts k h]
  simp [sumT]
theorem sumT_bound2 (ts : List T) (h : ∀ t ∈ ts, 0 ≤ t.qty ∧ t.qty ≤ 10000) : 0 ≤ sumT ts ∧ sumT ts ≤ 10000 * ts.length := by
  induction ts with
  | nil => simp [sumT]
  | cons t r ih =>
    have h1 := ih (fun x hx => h x (List.mem_cons_of_mem _ hx))
    have h2 := h t List.mem_cons_self
    rw [sumT, List.length_cons]
    omega
set_option maxHeartbeats 1000000 in
theorem limit_any (a1 a2 a3 a4 a5 : Int) (w : World) : Calls Try.prog 10 #[.int .i64 a1, .int .i64 a2, .int .i64 a3, .int .i64 a4, .int .i64 a5] w fun e w' => e = .returned (.agg #[.int .i64 a1, .int .i64 a2, .int .i64 a3, .int .i64 1, .int .i64 a4, .int .i64 a5, .int .i64 0, .int .i64 0]) ∧ Below w.heap.size w w' := by
  obtain ⟨X, hX⟩ : ∃ x, x = w.heap.size := ⟨_, rfl⟩
  have HB0 : Hid (Below w.heap.size w (w.alloc (.cells #[.int .i64 0, .int .i64 0, .int .i64 0, .int .i64 0, .int .i64 0, .int .i64 0, .int .i64 0, .int .i64 0] 24))) := (Below.refl _ _).alloc (Nat.le_refl _) _
  have HR : Hid ((w.alloc (.cells #[.int .i64 0, .int .i64 0, .int .i64 0, .int .i64 0, .int .i64 0, .int .i64 0, .int .i64 0, .int .i64 0] 24)).heap[X]? = some (.cells #[.int .i64 0, .int .i64 0, .int .i64 0, .int .i64 0, .int .i64 0, .int .i64 0, .int .i64 0, .int .i64 0] 24 (0, 0))) := by rw [hX]; exact heap_alloc_new w _
  have HX := hidC hX
  go_enter Try.func10, Try.ntmps10
  go_upto_region 1 with fail
  simp only [← hX]
  generalize w.alloc (.cells #[.int .i64 0, .int .i64 0, .int .i64 0, .int .i64 0, .int .i64 0, .int .i64 0, .int .i64 0, .int .i64 0] 24) = W1 at HB0 HR ⊢
  clear hX
  refine wp_region_lit ?_
  iterate 6 (refine wpList_step fun K hK => ?_; go_simp; refine hK _ _ ?_; clear hK K; try simp only [Act.put, List.setIfInBounds_toArray, List.set_cons_zero, List.set_cons_succ])
  refine wpList_store_mid rfl 24 (.tmp 10) (.tmp 16) rfl X 0 #[.int .i64 a1, .int .i64 a2, .int .i64 a3, .int .i64 1, .int .i64 a4, .int .i64 a5, .int .i64 0, .int .i64 0] rfl rfl (there8 HR.out) (by kernel_rfl) (by simp [Value.oneCell']) ?_
  have HS : Hid ((W1.setCells X 0 (oL ⟨a1, a2, a3, 1, a4, a5, 0, 0⟩)).heap[X]? = some (.cells #[.int .i64 a1, .int .i64 a2, .int .i64 a3, .int .i64 1, .int .i64 a4, .int .i64 a5, .int .i64 0, .int .i64 0] 24 (0, 0))) := stored8 (.int .i64 a1) (.int .i64 a2) (.int .i64 a3) (.int .i64 1) (.int .i64 a4) (.int .i64 a5) (.int .i64 0) (.int .i64 0) HR.out
  have HBF : Hid (Below w.heap.size w (W1.setCells X 0 (oL ⟨a1, a2, a3, 1, a4, a5, 0, 0⟩))) := HB0.out.grown (gr_setCells X _ _ _) HB0.out.size (fun k hk => by cases hk; exact Nat.le_of_eq HX.out.symm)
  show wpList _ _ _ _ _ (W1.setCells X 0 (oL ⟨a1, a2, a3, 1, a4, a5, 0, 0⟩))
  generalize W1.setCells X 0 (oL ⟨a1, a2, a3, 1, a4, a5, 0, 0⟩) = W9 at HS HBF ⊢
  obtain ⟨y0, y1, y2, y3, y4, y5, y6, y7⟩ := row8 HS.out
  go_wp2_with fail
  exact bodyPost_ret (v := .agg #[.int .i64 a1, .int .i64 a2, .int .i64 a3, .int .i64 1, .int .i64 a4, .int .i64 a5, .int .i64 0, .int .i64 0]) (by simp [results, Try.results10, go_sem, y0, y1, y2, y3, y4, y5, y6, y7]) rfl ⟨rfl, HBF.out⟩

set_option maxHeartbeats 4000000 in
set_option maxRecDepth 100000 in
theorem many_fine (n : Nat) (qty want : Int) (w : World) (n1 : 1 ≤ n) (n2 : n ≤ 50) (q1 : 1 ≤ qty) (q2 : qty ≤ 100) (w1 : 1 ≤ want) (w2 : want ≤ 10000) :
    Calls Try.prog 4 #[.int .i64 n, .int .i64 qty, .int .i64 want] w fun e w' => e = .returned (.bool true) ∧ Below w.heap.size w w' := by
  obtain ⟨i0, hi0, hz0, hz1, hz2⟩ := infoR'
  have HI := hidC hi0
  have HB : Hid (1 ≤ n ∧ n ≤ 50 ∧ 1 ≤ qty ∧ qty ≤ 100 ∧ 1 ≤ want ∧ want ≤ 10000) := ⟨n1, n2, q1, q2, w1, w2⟩
  have a1 : ¬ ((n : Int) < 1) := by omega
  have a2 : ¬ (50 : Int) < (n : Int) := by omega
  have a3 : ¬ qty < 1 := by omega
  have a4 : ¬ 100 < qty := by omega
  have a5 : ¬ want < 1 := by omega
  have a6 : ¬ 10000 < want := by omega
  clear n1 n2 q1 q2 w1 w2 hi0
  go_enter Try.func4, Try.ntmps4
  go_wp2_with fail
  refine (limit_any 99 9 1 200 want _).mono ?_
  rintro e W1 ⟨rfl, hb1⟩
  clear a1 a2 a3 a4 a5 a6
  have hB2 : Below w.heap.size w (W1.alloc (.cells #[.int .i64 99, .int .i64 9, .int .i64 1, .int .i64 1, .int .i64 200, .int .i64 want, .int .i64 0, .int .i64 0] 24)) := hb1.alloc hb1.size _
  have hO2 : OwnM (W1.alloc (.cells #[.int .i64 99, .int .i64 9, .int .i64 1, .int .i64 1, .int .i64 200, .int .i64 want, .int .i64 0, .int .i64 0] 24)) w.heap.size 24 8 (.slice (some ⟨W1.heap.size, 0, none⟩) 1 1) 1 (flat (many qty want 0)) := own_of rfl hb1.size (heap_alloc_new W1 _) (by simp) (Nat.le_refl 1) (by unfold maxLen; omega) (fun j u hu => by
    have hj : j < 8 := (List.getElem?_eq_some_iff.1 hu).1
    have hh := heap_alloc_new W1 (.cells #[.int .i64 99, .int .i64 9, .int .i64 1, .int .i64 1, .int .i64 200, .int .i64 want, .int .i64 0, .int .i64 0] 24)
    rw [Nat.zero_add, cell_of_row _ _ j _ _ (0, 0) hh, ← hu]
    have : j = 0 ∨ j = 1 ∨ j = 2 ∨ j = 3 ∨ j = 4 ∨ j = 5 ∨ j = 6 ∨ j = 7 := by omega
    rcases this with rfl | rfl | rfl | rfl | rfl | rfl | rfl | rfl <;> rfl)
  have H0 : Hid (OwnM (W1.alloc (.cells #[.int .i64 99, .int .i64 9, .int .i64 1, .int .i64 1, .int .i64 200, .int .i64 want, .int .i64 0, .int .i64 0] 24)) w.heap.size 24 8 (.slice (some ⟨W1.heap.size, 0, none⟩) (0 + 1) 1) (0 + 1) (flat (many qty want 0)) ∧ Below w.heap.size w (W1.alloc (.cells #[.int .i64 99, .int .i64 9, .int .i64 1, .int .i64 1, .int .i64 200, .int .i64 want, .int .i64 0, .int .i64 0] 24))) := ⟨hO2, hB2⟩
  clear hb1 hB2 hO2
  go_wp2_with fail
  go_loopg [7, 8] n (fun gg s7 s8 wr => ∃ (kk : Nat) (q : Option Addr) (c : Nat), kk ≤ n ∧ n - kk ≤ gg ∧ s7 = .slice q (kk + 1) c ∧ s8 = .int .i64 kk ∧ Aside (OwnM wr w.heap.size 24 8 (.slice q (kk + 1) c) (kk + 1) (flat (many qty want kk)) ∧ Below w.heap.size w wr))
  case atStart => exact ⟨0, _, 1, Nat.zero_le _, by omega, rfl, rfl, H0.out⟩
  case round =>
    clear H0
    obtain ⟨kk, q, c, hkk, hg, rfl, rfl, HA⟩ := hrel
    have hb := HB.out
    by_cases hlt : kk < n
    · have hltz : (kk : Int) < (n : Int) := by omega
      obtain ⟨k1, hk1⟩ : ∃ x : Int, x = (kk : Int) + 1 := ⟨_, rfl⟩
      have HK1 := hidC hk1
      have ek := wrapW ((kk : Int) + 1) k1 hk1.symm (by omega) (by omega)
      have HM : Hid (kk < n ∧ n - kk ≤ gk ∧ kk ≤ 50) := ⟨hlt, hg, by clear ek; omega⟩
      clear hk1 hb hkk hg hlt
      go_wp2_with fail
      refine (limit_any k1 1 2 100 qty _).mono ?_
      rintro e W2 ⟨rfl, hb2⟩
      have hA : Below W2.heap.size W2 (W2.alloc (.cells #[.int .i64 k1, .int .i64 1, .int .i64 2, .int .i64 1, .int .i64 100, .int .i64 qty, .int .i64 0, .int .i64 0] 24)) := (Below.refl _ _).alloc (Nat.le_refl _) _
      have HO3 : Hid (OwnM (W2.alloc (.cells #[.int .i64 k1, .int .i64 1, .int .i64 2, .int .i64 1, .int .i64 100, .int .i64 qty, .int .i64 0, .int .i64 0] 24)) w.heap.size 24 8 (.slice q (kk + 1) c) (kk + 1) (flat (many qty want kk))) := OwnM.below (OwnM.below HA.out.1 hb2) hA
      have HB3 : Hid (Below w.heap.size w (W2.alloc (.cells #[.int .i64 k1, .int .i64 1, .int .i64 2, .int .i64 1, .int .i64 100, .int .i64 qty, .int .i64 0, .int .i64 0] 24))) := by
        have h := HA.out.2.trans (hb2.mono HA.out.2.size)
        exact h.alloc h.size _
      have HNW : Hid (∀ j u, ([.int .i64 k1, .int .i64 1, .int .i64 2, .int .i64 1, .int .i64 100, .int .i64 qty, .int .i64 0, .int .i64 0] : List Value)[j]? = some u → (W2.alloc (.cells #[.int .i64 k1, .int .i64 1, .int .i64 2, .int .i64 1, .int .i64 100, .int .i64 qty, .int .i64 0, .int .i64 0] 24)).cell? ((⟨W2.heap.size, 0, none⟩ : Addr).add j) = some u) := by
        intro j u hu
        rw [Addr.add_lit, Nat.zero_add, World.cell?_alloc_at _ _ _ _ rfl]
        simpa using hu
      have HVS : Hid (w.heap.size ≤ (W2.alloc (.cells #[.int .i64 k1, .int .i64 1, .int .i64 2, .int .i64 1, .int .i64 100, .int .i64 qty, .int .i64 0, .int .i64 0] 24)).heap.size) := HB3.out.size
      clear hb2 hA HA
      go_wp2_with (at_builtin; (refine wpList_append_mid _ rfl _ _ 22 rfl w.heap.size 24 i0 zeroR 8 64 Try.underlying22 HI.out hz0 hz1 hz2 rfl (.slice q (kk + 1) c) _ _ rfl HO3.out ⟨W2.heap.size, 0, none⟩ 1 1 [.int .i64 k1, .int .i64 1, .int .i64 2, .int .i64 1, .int .i64 100, .int .i64 qty, .int .i64 0, .int .i64 0] rfl rfl HNW.out (fun u hu => by simp only [List.mem_cons, List.not_mem_nil, or_false] at hu; rcases hu with rfl | rfl | rfl | rfl | rfl | rfl | rfl | rfl <;> rfl) ?c3 ?c4 ?c5 ?_))
      case c3 => have := HM.out; clear ek; unfold maxLen; omega
      case c4 => have := HM.out; clear ek; omega
      case c5 => exact HVS.out
      intro v' w' hO' hgr hat
      obtain ⟨q', c', hv'⟩ := OwnM.form hO'
      subst hv'
      have HNX : Hid (OwnM w' w.heap.size 24 8 (.slice q' (kk + 1 + 1) c') (kk + 1 + 1) (flat (many qty want (kk + 1))) ∧ Below w.heap.size w w') := by
        refine ⟨?_, HB3.out.grown hgr HB3.out.size (fun k hk => (OwnM.lt HO3.out k hk).1)⟩
        rw [many_succ, flat_append]
        have e : flat [mSell qty kk] = [.int .i64 k1, .int .i64 1, .int .i64 2, .int .i64 1, .int .i64 100, .int .i64 qty, .int .i64 0, .int .i64 0] := by rw [HK1.out]; rfl
        rw [e]
        exact hO'
      clear hO' hgr hat HO3 HNW HVS HB3
      go_wp2_with fail
      go_roundg (n - (kk + 1))
      case measure => have := HM.out; clear ek; omega
      case rel => exact ⟨kk + 1, q', c', HM.out.1, Nat.le_refl _, rfl, by first | (rw [ek]; exact congrArg (Value.int .i64) HK1.out) | exact congrArg (Value.int .i64) HK1.out, HNX.out⟩
    · have hke : kk = n := by omega
      subst hke
      have hltz : ¬ (kk : Int) < (kk : Int) := by omega
      have hsl := own_sl HA.out.1 (many_len qty want kk).symm
      obtain ⟨hpE, hpV⟩ := many_price hb.2.2.1 (by omega) hb.2.2.2.2.1 hb.2.2.2.2.2 hb.2.1 hb.1
      obtain ⟨hg2, -, -, hVm, hV0, hV6, -, -⟩ := price_zero hpE
      have HPC := hidC (price_call _ _ wr hsl)
      have HUC := hidC (fun W (hW : Below wr.heap.size wr W) => uncross_fine _ _ W (hsl.below hW) hpE)
      rw [hpE, errV_zero] at HPC
      have HNN := hidC (nn_of hg2)
      have HVM := hidC hVm
      generalize pP (many qty want kk) = P at *
      rw [hpV] at HPC HUC HVM hV0 hV6
      obtain ⟨M, hM⟩ : ∃ M, M = (kk : Int) * qty := ⟨_, rfl⟩
      have hMb : 1 ≤ M ∧ M ≤ 5000 := by
        have h1 : (1 : Int) * 1 ≤ (kk : Int) * qty := Int.mul_le_mul (by omega) hb.2.2.1 (by decide) (by omega)
        have h2 : (kk : Int) * qty ≤ 50 * 100 := Int.mul_le_mul (by omega) hb.2.2.2.1 (by omega) (by decide)
        omega
      rw [← hM] at HPC HUC HVM hV0 hV6
      have wm := wrapW ((kk : Int) * qty) M hM.symm (by omega) (by omega)
      obtain ⟨V, hV⟩ : ∃ V, V = min want M := ⟨_, rfl⟩
      rw [← hV] at HPC HUC HVM hV0 hV6
      have HW0 := hidC HA.out.2
      have HVB : Hid (1 ≤ V ∧ V ≤ 5000 ∧ 1 ≤ qty ∧ qty ≤ 100 ∧ kk ≤ 50) := ⟨by clear wm; omega, by clear wm; omega, hb.2.2.1, hb.2.2.2.1, hb.2.1⟩
      clear hsl hpE hpV hg2 hVm hV0 hV6 hb hkk hg hlt HA hM hMb
      go_upto_if 61 with fail
      simp only [wm]
      go_cut [9] from 44 to 62 (fun s9 wx => s9 = .int .i64 V ∧ wx = wr)
      case first =>
        by_cases hc : want < M
        · have HE : Hid (V = want) := by show _ = _; clear wm; omega
          go_wp2_with fail
          go_meet
          case rel => exact ⟨congrArg (Value.int .i64) HE.out.symm, rfl⟩
        · have HE : Hid (V = M) := by show _ = _; clear wm; omega
          go_wp2_with fail
          go_meet
          case rel => exact ⟨congrArg (Value.int .i64) HE.out.symm, rfl⟩
      case rest =>
        obtain ⟨rfl, rfl⟩ := hcut
        clear wm hV
        go_wp2_with fail
        refine HPC.out.mono ?_
        rintro e W3 ⟨rfl, hb3⟩
        have HU := hidC (HUC.out W3 hb3)
        have HW3 := hidC (HW0.out.trans (hb3.mono HW0.out.size))
        clear hb3 HPC HUC
        go_wp2_with fail
        refine HU.out.mono ?_
        rintro e W4 ⟨qt, mt, ct, qr, mr, cr, ts, os, rfl, hmt, hmr, hUU, hSh, hNn, hmt2, hOt, hOr, -, hb4⟩
        have HW4 := hidC (HW3.out.trans (hb4.mono HW3.out.size))
        obtain ⟨f1, -, -, f4⟩ := u_facts (zs := many qty want kk) hUU (Sh.refl _) HNN.out HVM.out
        have f5 := many_trades HVB.out.2.2.1 hUU
        have hrl : mr ≤ kk + 1 := by
          have h1 := List.length_filter_le nz os
          have h2 := hSh.1
          rw [many_len] at h2
          omega
        rw [← hmt] at f5
        have HF : Hid (sumT ts = V ∧ (∀ t ∈ ts, ∃ b s, Pair (many qty want kk) P t b s) ∧ mt = ts.length ∧ mt ≤ 120 ∧ (mt : Int) = (V + qty - 1) / qty ∧ mr ≤ kk + 1) := ⟨f1, f4, hmt, hmt2, f5, hrl⟩
        have HOT := hidC hOt
        clear HU hmt hmr hUU hSh hNn hmt2 hOt hOr hb4 f1 f4 f5 hrl HVM HNN
        go_wp2_with fail
        go_loopg [17, 18] mt (fun gg s17 s18 wr2 => ∃ jj : Nat, jj ≤ mt ∧ mt - jj ≤ gg ∧ s17 = .int .i64 (sumT (ts.take jj)) ∧ s18 = .int .i64 jj ∧ wr2 = W4)
        case atStart => exact ⟨0, Nat.zero_le _, by omega, rfl, rfl, rfl⟩
        case round =>
          obtain ⟨jj, hjj, hg, rfl, rfl, rfl⟩ := hrel
          have hf := HF.out
          by_cases hlt : jj < mt
          · obtain ⟨T1, o1, rfl, -, hT1, hTc⟩ := trades_some HOT.out hf.2.2.1 (by omega)
            have x5 := hTc jj hlt 5 _ rfl
            have HSN := hidC (sumT_take2 ts jj (by omega))
            have hbd := sumT_bound2 (ts.take jj) (fun t ht => by obtain ⟨b', s', h'⟩ := hf.2.1 t (List.mem_of_mem_take ht); have := h'.q1; have := h'.q2; omega)
            have hlk : (ts.take jj).length ≤ 120 := by rw [List.length_take]; omega
            obtain ⟨b', s', hpr⟩ := hf.2.1 ts[jj]! (by rw [getE ts jj (by omega)]; exact List.getElem_mem _)
            have hq1 := hpr.q1
            have hq2 := hpr.q2
            generalize (ts[jj]!).qty = QQ at x5 HSN hq1 hq2
            generalize sumT (ts.take jj) = SU at hbd HSN ⊢
            have HM : Hid (jj < mt ∧ mt - jj ≤ gk ∧ jj ≤ 5000) := ⟨hlt, hg, by omega⟩
            have hltz : (jj : Int) < (mt : Int) := by omega
            have hw := wrapW (SU + QQ) _ rfl (by omega) (by omega)
            have ei := succW jj HM.out.2.2
            clear hTc hbd hlk hpr hq1 hq2 hf hjj hg hlt hT1
            go_wp2_with fail
            go_roundg (mt - (jj + 1))
            case measure => have := HM.out; clear hw ei; omega
            case rel => exact ⟨jj + 1, HM.out.1, Nat.le_refl _, by rw [HSN.out]; first | rfl | exact congrArg (Value.int .i64) hw, by first | rfl | exact congrArg (Value.int .i64) ei, rfl⟩
          · have hje : jj = mt := by omega
            subst hje
            have hltz : ¬ (jj : Int) < (jj : Int) := by omega
            have hsum : sumT (ts.take jj) = V := by rw [hf.2.2.1, List.take_length]; exact hf.1
            rw [hsum]
            have hv := HVB.out
            have u1 := wrapW (V + qty) _ rfl (by omega) (by omega)
            have u2 := wrapW (V + qty - 1) _ rfl (by clear u1; omega) (by clear u1; omega)
            have HQ : Hid ((jj : Int) = (V + qty - 1) / qty) := hf.2.2.2.2.1
            have hmr : (mr : Int) ≤ (kk : Int) + 1 := by clear u1 u2; omega
            have e1 : (V == V) = true := by simp
            have u3 := wrapW ((kk : Int) + 1) _ rfl (by clear u1 u2; omega) (by clear u1 u2; omega)
            clear hf hsum hjj hg hlt
            go_wp2_with fail
            go_ret
            exact ⟨rfl, HW4.out⟩

set_option maxHeartbeats 1000000 in
theorem many_walk (n qty want : Int) (w : World) : Calls Try.prog 4 #[.int .i64 n, .int .i64 qty, .int .i64 want] w fun e w' => e = .returned (.bool true) ∧ Below w.heap.size w w' := by
  by_cases h1 : n < 1
  · go_enter Try.func4, Try.ntmps4
    go_wp2_with fail
    go_ret
    exact ⟨rfl, Below.refl _ _⟩
  by_cases h2 : 50 < n
  · go_enter Try.func4, Try.ntmps4
    go_wp2_with fail
    go_ret
    exact ⟨rfl, Below.refl _ _⟩
  by_cases h3 : qty < 1
  · go_enter Try.func4, Try.ntmps4
    go_wp2_with fail
    go_ret
    exact ⟨rfl, Below.refl _ _⟩
  by_cases h4 : 100 < qty
  · go_enter Try.func4, Try.ntmps4
    go_wp2_with fail
    go_ret
    exact ⟨rfl, Below.refl _ _⟩
  by_cases h5 : want < 1
  · go_enter Try.func4, Try.ntmps4
    go_wp2_with fail
    go_ret
    exact ⟨rfl, Below.refl _ _⟩
  by_cases h6 : 10000 < want
  · go_enter Try.func4, Try.ntmps4
    go_wp2_with fail
    go_ret
    exact ⟨rfl, Below.refl _ _⟩
  obtain ⟨N, rfl⟩ : ∃ N : Nat, n = (N : Int) := ⟨n.toNat, by omega⟩
  exact many_fine N qty want w (by omega) (by omega) (by omega) (by omega) (by omega) (by omega)
end Go.Proofs.Ytigikpncccdkdaa.cal
