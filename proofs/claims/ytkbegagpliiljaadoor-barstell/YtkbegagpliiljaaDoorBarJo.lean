/- Contracts over this seat's translation: package bars' Join. -/
import Derived.Test.YtkbegagpliiljaaDoorBarJn
import Derived.Test.YtkbegagpliiljaaDoorBarOf2
namespace Go.Proofs.YtkbegagpliiljaaDoor.bar
open Go.RowKit Go.Proofs.YtkbegagpliiljaaDoor.mee
open Go.Proofs.YtkbegagpliiljaaDoor.spn (keeps rangeE errV errV_zero errV_of)

/-- Bars, joined. -/
def joinOf : List B → B
  | [] => barZ
  | b :: r => r.foldl bhd b
def joinE (bs : List B) : Int := if 400 < bs.length then 4 else if bs.length = 0 then 5 else if bs.any badB = true then 3 else 0
theorem fold_take {a : B} {r : List B} {k : Nat} (h : k < r.length) : (r.take (k + 1)).foldl bhd a = bhd ((r.take k).foldl bhd a) (r[k]!) := by
  rw [take_succ_at h, List.foldl_append]
  rfl
theorem cbar_any (x : B) (w : World) :
    Calls Tryd.prog 22 #[.agg (bV x).toArray] w fun e w' => e = .returned (errV (shapeE (badB x))) ∧ Below w.heap.size w w' := by
  obtain ⟨o, h, l, c, q⟩ := x
  exact cbar_walk o h l c q _ w rfl
set_option maxRecDepth 100000 in
theorem bar_pred (w : World) : PredBelow Tryd.prog 21 #[] (fun x => .agg (bV x).toArray) badB w := by
  intro W x hb
  have hc := hidT (fun V => cbar_any x V)
  generalize badB x = r at *
  obtain ⟨t1, t2, t3, t4, t5⟩ := x
  have HC : Hid (∀ V, Calls Tryd.prog 22 #[.agg #[.int .i64 t1, .int .i64 t2, .int .i64 t3, .int .i64 t4, .int .i64 t5]] V fun x w' => x = .returned (errV (shapeE r)) ∧ Below V.heap.size V w') := hc
  clear hc
  show Calls Tryd.prog 21 #[.agg #[.int .i64 t1, .int .i64 t2, .int .i64 t3, .int .i64 t4, .int .i64 t5]] W _
  have hV0 : Below w.heap.size w (W.alloc (.cells #[.int .i64 t1, .int .i64 t2, .int .i64 t3, .int .i64 t4, .int .i64 t5] 26)) := hb.alloc hb.size _
  cases r
  · simp only [show errV (shapeE false) = .nilIface from rfl] at HC
    go_enter Tryd.func21, Tryd.ntmps21
    go_wp2_with fail
    refine (HC.out _).mono ?_
    rintro e W1 ⟨rfl, hb1⟩
    have HW : Hid (Below w.heap.size w W1) := hV0.trans (hb1.mono hV0.size)
    clear hb1 hV0 HC
    go_wp2_with fail
    go_ret
    exact ⟨rfl, HW.out⟩
  · simp only [show errV (shapeE true) = .iface 52 (.int .i64 3) from rfl] at HC
    go_enter Tryd.func21, Tryd.ntmps21
    go_wp2_with fail
    refine (HC.out _).mono ?_
    rintro e W1 ⟨rfl, hb1⟩
    have HW : Hid (Below w.heap.size w W1) := hV0.trans (hb1.mono hV0.size)
    clear hb1 hV0 HC
    go_wp2_with fail
    go_ret
    exact ⟨rfl, HW.out⟩
theorem bcf_any (b o c : Nat) (zs : List B) (w : World) (hn : zs.length ≤ 400) (h4 : b < w.heap.size) (h5 : Lies 5 bV w b o zs) :
    Calls Tryd.prog 20 #[.slice (some ⟨b, o, none⟩) zs.length c, .func (.func 21) #[] #[]] w fun e w' => e = .returned (.bool (zs.any badB)) ∧ Below w.heap.size w w' := by
  have eg : ∀ args w, (callFunc 21 args).run Tryd.prog w = .ok (.enter 21 args) w := enters_of Tryd.func21 (by kernel_rfl) rfl
  have := AnyQ.slices_ContainsFunc Tryd.lh8b 5 Tryd.isAgg26 Tryd.sizeOf26 bV (fun x => rfl) badB 21 #[] eg b o zs.length c zs w (bar_pred w) (Nat.le_refl _) (by omega) h4 h5
  rw [List.take_length] at this
  exact this

set_option maxRecDepth 100000 in
set_option maxHeartbeats 400000 in
/-- Join where it goes wrong. -/
theorem join_bad (v : Value) (zs : List B) (w : World) (h : BL w v zs) (h0 : ¬ joinE zs = 0) :
    Calls Tryd.prog 11 #[v] w fun e w' => e = .returned (.tuple #[.agg (bV barZ).toArray, errV (joinE zs)]) ∧ Below w.heap.size w w' := by
  rw [errV_of h0]
  obtain ⟨X, hX⟩ : ∃ x, x = w.heap.size := ⟨_, rfl⟩
  obtain ⟨V0, hV0⟩ : ∃ V, V = w.alloc (.cells #[.int .i64 0, .int .i64 0, .int .i64 0, .int .i64 0, .int .i64 0] 26) := ⟨_, rfl⟩
  have HB0 : Hid (Below w.heap.size w V0) := by rw [hV0]; exact (Below.refl _ _).alloc (Nat.le_refl _) _
  have HX0 : Hid (V0.heap[X]? = some (.cells #[.int .i64 0, .int .i64 0, .int .i64 0, .int .i64 0, .int .i64 0] 26 (0, 0))) := by
    rw [hX, hV0]; exact heap_alloc_new w _
  have HXS : Hid (w.heap.size ≤ X ∧ X < V0.heap.size) := by rw [hV0, hX, World.size_alloc]; exact ⟨Nat.le_refl _, Nat.lt_succ_self _⟩
  obtain ⟨q, c, rfl, hn, hc9⟩ := h.form
  have HBL := hidT (h.below HB0.out)
  have hlen : (zs.length : Int) ≤ 9223372036854775807 := by omega
  unfold joinE at h0 ⊢
  by_cases h4 : 400 < zs.length
  · have h4z : (400 : Int) < (zs.length : Int) := by omega
    rw [if_pos h4] at h0 ⊢
    generalize zs.length = n at *
    clear h HBL
    go_enter Tryd.func11, Tryd.ntmps11
    go_upto_region 1 with fail
    simp only [← hX, ← hV0]
    clear hX hV0
    go_upto_region 2 with fail
    refine wp_region_lit ?_
    iterate 2 (refine wpList_step fun K hK => ?_; go_simp; refine hK _ _ ?_; clear hK K; try simp only [Act.put, List.setIfInBounds_toArray, List.set_cons_zero, List.set_cons_succ])
    refine wpList_store_mid rfl 26 (.tmp 2) (.tmp 10) rfl X 0 #[.int .i64 0, .int .i64 0, .int .i64 0, .int .i64 0, .int .i64 0] rfl rfl (there5 HX0.out) (by kernel_rfl) (by simp [Value.oneCell']) ?_
    have HS := hidT (stored5 (.int .i64 0) (.int .i64 0) (.int .i64 0) (.int .i64 0) (.int .i64 0) HX0.out)
    have HBF : Hid (Below w.heap.size w (V0.setCells X 0 [.int .i64 0, .int .i64 0, .int .i64 0, .int .i64 0, .int .i64 0])) := HB0.out.grown (wak.gr_setCells X _ _ _) HB0.out.size (fun k hk => by cases hk; exact HXS.out.1)
    show wpList _ _ _ _ _ (V0.setCells X 0 [.int .i64 0, .int .i64 0, .int .i64 0, .int .i64 0, .int .i64 0])
    generalize V0.setCells X 0 [.int .i64 0, .int .i64 0, .int .i64 0, .int .i64 0, .int .i64 0] = W9 at HS HBF ⊢
    obtain ⟨y0, y1, y2, y3, y4⟩ := row5 HS.out
    go_wp2_with fail
    exact bodyPost_ret (v := .tuple #[.agg #[.int .i64 0, .int .i64 0, .int .i64 0, .int .i64 0, .int .i64 0], .iface 52 (.int .i64 4)]) (by simp [results, Tryd.results11, go_sem, y0, y1, y2, y3, y4]) rfl ⟨rfl, HBF.out⟩
  rw [if_neg h4] at h0 ⊢
  have h4z : ¬ (400 : Int) < (zs.length : Int) := by omega
  by_cases hz : zs.length = 0
  · rw [if_pos hz] at h0 ⊢
    generalize zs.length = n at *
    subst hz
    clear h HBL
    go_enter Tryd.func11, Tryd.ntmps11
    go_upto_region 1 with fail
    simp only [← hX, ← hV0]
    clear hX hV0
    go_upto_region 4 with fail
    refine wp_region_lit ?_
    iterate 2 (refine wpList_step fun K hK => ?_; go_simp; refine hK _ _ ?_; clear hK K; try simp only [Act.put, List.setIfInBounds_toArray, List.set_cons_zero, List.set_cons_succ])
    refine wpList_store_mid rfl 26 (.tmp 2) (.tmp 15) rfl X 0 #[.int .i64 0, .int .i64 0, .int .i64 0, .int .i64 0, .int .i64 0] rfl rfl (there5 HX0.out) (by kernel_rfl) (by simp [Value.oneCell']) ?_
    have HS := hidT (stored5 (.int .i64 0) (.int .i64 0) (.int .i64 0) (.int .i64 0) (.int .i64 0) HX0.out)
    have HBF : Hid (Below w.heap.size w (V0.setCells X 0 [.int .i64 0, .int .i64 0, .int .i64 0, .int .i64 0, .int .i64 0])) := HB0.out.grown (wak.gr_setCells X _ _ _) HB0.out.size (fun k hk => by cases hk; exact HXS.out.1)
    show wpList _ _ _ _ _ (V0.setCells X 0 [.int .i64 0, .int .i64 0, .int .i64 0, .int .i64 0, .int .i64 0])
    generalize V0.setCells X 0 [.int .i64 0, .int .i64 0, .int .i64 0, .int .i64 0, .int .i64 0] = W9 at HS HBF ⊢
    obtain ⟨y0, y1, y2, y3, y4⟩ := row5 HS.out
    go_wp2_with fail
    exact bodyPost_ret (v := .tuple #[.agg #[.int .i64 0, .int .i64 0, .int .i64 0, .int .i64 0, .int .i64 0], .iface 52 (.int .i64 5)]) (by simp [results, Tryd.results11, go_sem, y0, y1, y2, y3, y4]) rfl ⟨rfl, HBF.out⟩
  rw [if_neg hz] at h0 ⊢
  have hbad : zs.any badB = true := by
    cases hq : zs.any badB
    · rw [hq] at h0; exact absurd rfl h0
    · rfl
  rw [if_pos hbad] at h0 ⊢
  have hzz : ((zs.length : Int) == 0) = false := by simpa using hz
  obtain ⟨b, o, rfl, hb, hl⟩ : ∃ b o, q = some ⟨b, o, none⟩ ∧ b < V0.heap.size ∧ Lies 5 bV V0 b o zs := by
    rcases HBL.out with ⟨h1, h2⟩ | ⟨b, o, c', h1, _, _, h2, h3⟩
    · rw [h2] at hz; exact absurd rfl hz
    · cases h1; exact ⟨b, o, rfl, h2, h3⟩
  have HCF := hidT (bcf_any b o c zs V0 (by omega) hb hl)
  rw [hbad] at HCF
  generalize zs.length = n at *
  clear h HBL hb hl hbad
  go_enter Tryd.func11, Tryd.ntmps11
  go_upto_region 1 with fail
  simp only [← hX, ← hV0]
  clear hX hV0
  go_upto_region 6 with (go_at_call 20; refine HCF.out.mono ?_; rintro e W1 ⟨rfl, hb1⟩)
  have HB1 := hidT (HB0.out.trans (hb1.mono HB0.out.size))
  have HX1 : Hid (W1.heap[X]? = some (.cells #[.int .i64 0, .int .i64 0, .int .i64 0, .int .i64 0, .int .i64 0] 26 (0, 0))) := (hb1.block X HXS.out.2).trans HX0.out
  clear hb1 HCF
  refine wp_region_lit ?_
  iterate 2 (refine wpList_step fun K hK => ?_; go_simp; refine hK _ _ ?_; clear hK K; try simp only [Act.put, List.setIfInBounds_toArray, List.set_cons_zero, List.set_cons_succ])
  refine wpList_store_mid rfl 26 (.tmp 2) (.tmp 19) rfl X 0 #[.int .i64 0, .int .i64 0, .int .i64 0, .int .i64 0, .int .i64 0] rfl rfl (there5 HX1.out) (by kernel_rfl) (by simp [Value.oneCell']) ?_
  have HS := hidT (stored5 (.int .i64 0) (.int .i64 0) (.int .i64 0) (.int .i64 0) (.int .i64 0) HX1.out)
  have HBF : Hid (Below w.heap.size w (W1.setCells X 0 [.int .i64 0, .int .i64 0, .int .i64 0, .int .i64 0, .int .i64 0])) := HB1.out.grown (wak.gr_setCells X _ _ _) HB1.out.size (fun k hk => by cases hk; exact HXS.out.1)
  show wpList _ _ _ _ _ (W1.setCells X 0 [.int .i64 0, .int .i64 0, .int .i64 0, .int .i64 0, .int .i64 0])
  generalize W1.setCells X 0 [.int .i64 0, .int .i64 0, .int .i64 0, .int .i64 0, .int .i64 0] = W9 at HS HBF ⊢
  obtain ⟨y0, y1, y2, y3, y4⟩ := row5 HS.out
  go_wp2_with fail
  exact bodyPost_ret (v := .tuple #[.agg #[.int .i64 0, .int .i64 0, .int .i64 0, .int .i64 0, .int .i64 0], .iface 52 (.int .i64 3)]) (by simp [results, Tryd.results11, go_sem, y0, y1, y2, y3, y4]) rfl ⟨rfl, HBF.out⟩

set_option maxRecDepth 100000 in
set_option maxHeartbeats 1000000 in
theorem join_good (g off c : Nat) (b0 : B) (r : List B) (w : World) (hn : r.length + 1 ≤ c) (hc : c ≤ 9223372036854775807) (hgs : g < w.heap.size) (h4 : r.length + 1 ≤ 400) (h0 : (b0 :: r).any badB = false) (hl : Lies 5 bV w g off (b0 :: r)) :
    Calls Tryd.prog 11 #[.slice (some ⟨g, off, none⟩) (r.length + 1) c] w fun e w' => e = .returned (.tuple #[.agg (bV (r.foldl bhd b0)).toArray, .nilIface]) ∧ Below w.heap.size w w' := by
  have hr : ∀ j, j < r.length → ∀ i v, (bV r[j]!)[i]? = some v → w.cell? ⟨g, off + 5 + j * 5 + i, none⟩ = some v := fun j hj i v hv => by
    have := hl (j + 1) (by simpa using hj) i v (by simpa using hv)
    rwa [show off + (j + 1) * 5 + i = off + 5 + j * 5 + i by omega] at this
  have hf : ∀ i v, (bV b0)[i]? = some v → w.cell? ⟨g, off + i, none⟩ = some v := fun i v hv => by
    have := hl 0 (by simp) i v (by simpa using hv)
    simpa using this
  obtain ⟨X, hX⟩ : ∃ x, x = w.heap.size := ⟨_, rfl⟩
  obtain ⟨V0, hV0⟩ : ∃ V, V = w.alloc (.cells #[.int .i64 0, .int .i64 0, .int .i64 0, .int .i64 0, .int .i64 0] 26) := ⟨_, rfl⟩
  have HB0 : Hid (Below w.heap.size w V0) := by rw [hV0]; exact (Below.refl _ _).alloc (Nat.le_refl _) _
  have HX0 : Hid (V0.heap[X]? = some (.cells #[.int .i64 0, .int .i64 0, .int .i64 0, .int .i64 0, .int .i64 0] 26 (0, 0))) := by
    rw [hX, hV0]; exact heap_alloc_new w _
  have HXS : Hid (X = w.heap.size ∧ V0.heap.size = X + 1) := by rw [hV0, hX]; exact ⟨rfl, World.size_alloc _ _⟩
  have HCF := hidT (bcf_any g off c (b0 :: r) V0 (by simpa using h4) (by have := HXS.out; omega) (hl.below hgs HB0.out))
  rw [h0, List.length_cons] at HCF
  have HCR : Hid (∀ W, Below w.heap.size w W → ∀ j, j < r.length → ∀ i v, (bV r[j]!)[i]? = some v → W.cell? ⟨g, off + 5 + j * 5 + i, none⟩ = some v) := fun W hW j hj i v hv => keeps hW (hr j hj i v hv)
  have HC0 : Hid (∀ W, Below w.heap.size w W → ∀ i v, (bV b0)[i]? = some v → W.cell? ⟨g, off + i, none⟩ = some v) := fun W hW i v hv => keeps hW (hf i v hv)
  obtain ⟨n, hN⟩ : ∃ n, r.length = n := ⟨_, rfl⟩
  have HN := hidT hN
  obtain ⟨R, hR⟩ : ∃ R, R = r.foldl bhd b0 := ⟨_, rfl⟩
  simp only [hN, ← hR] at hn h4 HCF ⊢
  have HRR := hidT hR
  clear hR hr hf hl h0 hgs
  have hnz : ¬ ((n + 1 : Nat) : Int) ≤ 0 := by omega
  have h4z : ¬ (400 : Int) < ((n + 1 : Nat) : Int) := by omega
  have hzz : (((n + 1 : Nat) : Int) == 0) = false := by simp; omega
  obtain ⟨t1, t2, t3, t4, t5⟩ := b0
  go_enter Tryd.func11, Tryd.ntmps11
  go_upto_region 1 with fail
  simp only [← hX, ← hV0]
  clear hX hV0
  go_upto_region 7 with (go_at_call 20; refine HCF.out.mono ?_; rintro e w1 ⟨rfl, hb1⟩)
  have HB1 : Hid (Below w.heap.size w w1) := HB0.out.trans (hb1.mono HB0.out.size)
  have hcc := HC0.out w1 HB1.out
  have c0 := hcc 0 _ rfl
  have c1 := hcc 1 _ rfl
  have c2 := hcc 2 _ rfl
  have c3 := hcc 3 _ rfl
  have c4 := hcc 4 _ rfl
  simp only [Nat.add_zero] at c0
  obtain ⟨Y, hY⟩ : ∃ y, y = w1.heap.size := ⟨_, rfl⟩
  have HX1 : Hid (w1.heap[X]? = some (.cells #[.int .i64 0, .int .i64 0, .int .i64 0, .int .i64 0, .int .i64 0] 26 (0, 0)) ∧ X < Y) := by
    have h1 := HXS.out.2
    have h2 := hb1.size
    refine ⟨(hb1.block X (by omega)).trans HX0.out, by omega⟩
  clear hcc hb1 HC0 HCF HX0 HB0
  obtain ⟨W1, hW1⟩ : ∃ V, V = w1.alloc (.cells #[.int .i64 t1, .int .i64 t2, .int .i64 t3, .int .i64 t4, .int .i64 t5] 26) := ⟨_, rfl⟩
  have HY1 : Hid (W1.heap[Y]? = some (.cells #[.int .i64 t1, .int .i64 t2, .int .i64 t3, .int .i64 t4, .int .i64 t5] 26 (0, 0)) ∧ Below Y w1 W1 ∧ Y < W1.heap.size) := by
    rw [hW1, hY]
    exact ⟨heap_alloc_new w1 _, (Below.refl _ _).alloc (Nat.le_refl _) _, by rw [World.size_alloc]; omega⟩
  go_upto_region 8 with fail
  simp only [← hY, ← hW1]
  have HYS := hidT hY
  clear hY hW1 c0 c1 c2 c3 c4
  go_cut [25, 26, 27] from 24 to 27 (fun s11 s12 s13 wx => ∃ q' c', s11 = .slice q' n c' ∧ s12 = .int .i64 n ∧ s13 = .int .i64 0 ∧ (0 < n → q' = some ⟨g, off + 5, none⟩) ∧ W1 = wx)
  case first =>
    have e1 : ((n + 1 : Nat) : Int) - 1 = (n : Int) := by omega
    by_cases hc1 : c = 1
    · subst hc1
      obtain rfl : n = 0 := by omega
      go_wp2_with fail
      go_meet
      exact ⟨_, _, rfl, rfl, rfl, fun h => absurd h (by omega), rfl⟩
    · go_wp2_with fail
      go_meet
      exact ⟨_, _, rfl, rfl, rfl, fun h => rfl, rfl⟩
  case rest =>
  obtain ⟨q', c', rfl, rfl, rfl, hq', rfl⟩ := hcut
  have HQ := hidT hq'
  clear hq'
  go_wp2_with fail
  go_loopg [6, 27] n (fun gg s6 s27 wr => ∃ kk : Nat, kk ≤ n ∧ n - kk ≤ gg ∧ s27 = .int .i64 kk ∧ Aside (Below Y w1 wr ∧ Y < wr.heap.size ∧ wr.heap[Y]? = some (.cells (bV ((r.take kk).foldl bhd ⟨t1, t2, t3, t4, t5⟩)).toArray 26 (0, 0))))
  case atStart => exact ⟨0, Nat.zero_le _, by omega, rfl, HY1.out.2.1, HY1.out.2.2, HY1.out.1⟩
  case round =>
    obtain ⟨kk, hkk, hg, rfl, HA⟩ := hrel
    by_cases hlt : kk < n
    · have hltz : (kk : Int) < (n : Int) := by omega
      have hin1 : ¬ ((kk : Int) < 0) := by omega
      have hlz : kk < r.length := by rw [HN.out]; exact hlt
      obtain rfl := HQ.out (by omega)
      have HBW : Hid (Below w.heap.size w wr) := HB1.out.trans (HA.out.1.mono (by rw [HYS.out]; exact HB1.out.size))
      have hcc := HCR.out wr HBW.out kk hlz
      have hbt := fold_take (a := ⟨t1, t2, t3, t4, t5⟩) hlz
      obtain ⟨x, hx⟩ : ∃ x, r[kk]! = x := ⟨_, rfl⟩
      rw [hx] at hcc hbt
      obtain ⟨x1, x2, x3, x4, x5⟩ := x
      have HA2 := hidT HA.out
      generalize (r.take kk).foldl bhd ⟨t1, t2, t3, t4, t5⟩ = acc at *
      obtain ⟨o, h, l, cl, qt⟩ := acc
      have HBT := hidT hbt
      have hrow : wr.heap[Y]? = some (.cells #[.int .i64 o, .int .i64 h, .int .i64 l, .int .i64 cl, .int .i64 qt] 26 (0, 0)) := HA2.out.2.2
      have c0 := hcc 0 _ rfl
      have c1 := hcc 1 _ rfl
      have c2 := hcc 2 _ rfl
      have c3 := hcc 3 _ rfl
      have c4 := hcc 4 _ rfl
      simp only [Nat.add_zero] at c0
      have HWK := hidT (wrapSucc kk n hlt (by omega))
      have HKK : Hid (kk < n ∧ n - kk ≤ gk) := ⟨hlt, hg⟩
      have HROW := hidT hrow
      clear hcc hx hkk hg hlt hbt HA hrow
      obtain ⟨Z, hZ⟩ : ∃ z, z = wr.heap.size := ⟨_, rfl⟩
      obtain ⟨V, hV⟩ : ∃ V, V = wr.alloc (.cells #[.int .i64 x1, .int .i64 x2, .int .i64 x3, .int .i64 x4, .int .i64 x5] 26) := ⟨_, rfl⟩
      have hBV : Below wr.heap.size wr V := by rw [hV]; exact (Below.refl _ _).alloc (Nat.le_refl _) _
      have hZR : V.heap[Z]? = some (.cells #[.int .i64 x1, .int .i64 x2, .int .i64 x3, .int .i64 x4, .int .i64 x5] 26 (0, 0)) := by rw [hV, hZ]; exact heap_alloc_new wr _
      have hYR : V.heap[Y]? = some (.cells #[.int .i64 o, .int .i64 h, .int .i64 l, .int .i64 cl, .int .i64 qt] 26 (0, 0)) := (hBV.block Y HA2.out.2.1).trans HROW.out
      have HBV : Hid (Below Y w1 V ∧ Y < V.heap.size) := ⟨HA2.out.1.trans (hBV.mono (Nat.le_of_lt HA2.out.2.1)), Nat.lt_of_lt_of_le HA2.out.2.1 hBV.size⟩
      have HYR := hidT hYR
      have HBE : Hid (Calls Tryd.prog 23 #[.agg #[.int .i64 o, .int .i64 h, .int .i64 l, .int .i64 cl, .int .i64 qt], .agg #[.int .i64 x1, .int .i64 x2, .int .i64 x3, .int .i64 x4, .int .i64 x5]] V fun e w' => e = .returned (.agg #[.int .i64 o, .int .i64 (max h x2), .int .i64 (min l x3), .int .i64 x4, .int .i64 (wrap64 (qt + x5))]) ∧ Below V.heap.size V w') := behind_walk o h l cl qt x1 x2 x3 x4 x5 V
      have HFIN : Hid (∀ W, Below V.heap.size V W → Below Y w1 (((((W.setCell ⟨Y, 0, none⟩ (.int .i64 o)).setCell ⟨Y, 1, none⟩ (.int .i64 (max h x2))).setCell ⟨Y, 2, none⟩ (.int .i64 (min l x3))).setCell ⟨Y, 3, none⟩ (.int .i64 x4)).setCell ⟨Y, 4, none⟩ (.int .i64 (wrap64 (qt + x5)))) ∧ Y < (((((W.setCell ⟨Y, 0, none⟩ (.int .i64 o)).setCell ⟨Y, 1, none⟩ (.int .i64 (max h x2))).setCell ⟨Y, 2, none⟩ (.int .i64 (min l x3))).setCell ⟨Y, 3, none⟩ (.int .i64 x4)).setCell ⟨Y, 4, none⟩ (.int .i64 (wrap64 (qt + x5)))).heap.size ∧ (((((W.setCell ⟨Y, 0, none⟩ (.int .i64 o)).setCell ⟨Y, 1, none⟩ (.int .i64 (max h x2))).setCell ⟨Y, 2, none⟩ (.int .i64 (min l x3))).setCell ⟨Y, 3, none⟩ (.int .i64 x4)).setCell ⟨Y, 4, none⟩ (.int .i64 (wrap64 (qt + x5)))).heap[Y]? = some (.cells #[.int .i64 o, .int .i64 (max h x2), .int .i64 (min l x3), .int .i64 x4, .int .i64 (wrap64 (qt + x5))] 26 (0, 0))) := by
        intro W hW
        have h1 : W.heap[Y]? = _ := (hW.block Y HBV.out.2).trans HYR.out
        have h2 := set5 (b0 := .int .i64 o) (b1 := .int .i64 (max h x2)) (b2 := .int .i64 (min l x3)) (b3 := .int .i64 x4) (b4 := .int .i64 (wrap64 (qt + x5))) h1
        exact ⟨low5 (HBV.out.1.trans (hW.mono (Nat.le_of_lt HBV.out.2))) (Nat.le_refl _), (Array.getElem?_eq_some_iff.1 h2).1, h2⟩
      go_upto_region 11 with fail
      simp only [← hZ, ← hV]
      obtain ⟨z0, z1, z2, z3, z4⟩ := row5 hZR
      obtain ⟨r0, r1, r2, r3, r4⟩ := row5 hYR
      clear hZ hV hBV hZR hYR c0 c1 c2 c3 c4 HROW HA2 HBW
      go_wp2_with (first | (go_at_call 23; refine HBE.out.mono ?_; rintro e W3 ⟨rfl, hb3⟩; have HK3 : Hid (W3.heap[Y]? = some (.cells #[.int .i64 o, .int .i64 h, .int .i64 l, .int .i64 cl, .int .i64 qt] 26 (0, 0))) := (hb3.block Y HBV.out.2).trans HYR.out; obtain ⟨q0, q1, q2, q3, q4⟩ := row5 HK3.out; obtain ⟨f0, f1, f2, f3, f4⟩ := frz5 HK3.out))
      obtain ⟨k1, k2, k3⟩ := HFIN.out _ hb3
      generalize (((((W3.setCell ⟨Y, 0, none⟩ (.int .i64 o)).setCell ⟨Y, 1, none⟩ (.int .i64 (max h x2))).setCell ⟨Y, 2, none⟩ (.int .i64 (min l x3))).setCell ⟨Y, 3, none⟩ (.int .i64 x4)).setCell ⟨Y, 4, none⟩ (.int .i64 (wrap64 (qt + x5)))) = W9 at k1 k2 k3 ⊢
      have HK : Hid (Below Y w1 W9 ∧ Y < W9.heap.size ∧ W9.heap[Y]? = some (.cells (bV ((r.take (kk + 1)).foldl bhd ⟨t1, t2, t3, t4, t5⟩)).toArray 26 (0, 0))) := by rw [HBT.out]; exact ⟨k1, k2, k3⟩
      clear k1 k2 k3 hb3 q0 q1 q2 q3 q4 f0 f1 f2 f3 f4 HFIN HBE r0 r1 r2 r3 r4 z0 z1 z2 z3 z4
      go_wp2_with fail
      go_roundg (n - (kk + 1))
      case measure => have := HKK.out; omega
      case rel => exact ⟨kk + 1, HKK.out.1, Nat.le_refl _, by first | exact congrArg (Value.int .i64) HWK.out | go_num | simp, HK.out⟩
    · obtain rfl : kk = n := by omega
      have hltz : ¬ (kk : Int) < (kk : Int) := by omega
      have HA2 := HA.out
      clear HA
      rw [List.take_of_length_le (by rw [HN.out]; exact Nat.le_refl _)] at HA2
      obtain ⟨k1, k2, k3⟩ := HA2
      have HXR : Hid (wr.heap[X]? = some (.cells #[.int .i64 0, .int .i64 0, .int .i64 0, .int .i64 0, .int .i64 0] 26 (0, 0))) := (k1.block X HX1.out.2).trans HX1.out.1
      have HBW : Hid (Below w.heap.size w wr) := HB1.out.trans (k1.mono (by rw [HYS.out]; exact HB1.out.size))
      have HXB : Hid (w.heap.size ≤ X) := Nat.le_of_eq HXS.out.1.symm
      rw [← HRR.out] at k3
      obtain ⟨o, h, l, cl, qt⟩ := R
      have HK3 : Hid (wr.heap[Y]? = some (.cells #[.int .i64 o, .int .i64 h, .int .i64 l, .int .i64 cl, .int .i64 qt] 26 (0, 0))) := k3
      obtain ⟨r0, r1, r2, r3, r4⟩ := row5 HK3.out
      clear k1 k2 k3 hkk hg hlt HRR
      go_upto_region 13 with fail
      refine wp_region_lit ?_
      iterate 1 (refine wpList_step fun K hK => ?_; go_simp; refine hK _ _ ?_; clear hK K; try simp only [Act.put, List.setIfInBounds_toArray, List.set_cons_zero, List.set_cons_succ])
      refine wpList_store_mid rfl 26 (.tmp 2) (.tmp 35) rfl X 0 #[.int .i64 o, .int .i64 h, .int .i64 l, .int .i64 cl, .int .i64 qt] rfl rfl (there5 HXR.out) (by kernel_rfl) (by simp [Value.oneCell']) ?_
      have HS := hidT (stored5 (.int .i64 o) (.int .i64 h) (.int .i64 l) (.int .i64 cl) (.int .i64 qt) HXR.out)
      have HBF : Hid (Below w.heap.size w (wr.setCells X 0 [.int .i64 o, .int .i64 h, .int .i64 l, .int .i64 cl, .int .i64 qt])) := HBW.out.grown (wak.gr_setCells X _ _ _) HBW.out.size (fun k hk => by cases hk; exact HXB.out)
      show wpList _ _ _ _ _ (wr.setCells X 0 [.int .i64 o, .int .i64 h, .int .i64 l, .int .i64 cl, .int .i64 qt])
      generalize wr.setCells X 0 [.int .i64 o, .int .i64 h, .int .i64 l, .int .i64 cl, .int .i64 qt] = W9 at HS HBF ⊢
      clear r0 r1 r2 r3 r4
      obtain ⟨y0, y1, y2, y3, y4⟩ := row5 HS.out
      go_wp2_with fail
      exact bodyPost_ret (v := .tuple #[.agg #[.int .i64 o, .int .i64 h, .int .i64 l, .int .i64 cl, .int .i64 qt], .nilIface]) (by simp [results, Tryd.results11, go_sem, y0, y1, y2, y3, y4]) rfl ⟨rfl, HBF.out⟩
/-- Join, of whatever bars. -/
theorem join_any (v : Value) (zs : List B) (w : World) (h : BL w v zs) :
    Calls Tryd.prog 11 #[v] w fun e w' => e = .returned (.tuple #[.agg (bV (if joinE zs = 0 then joinOf zs else barZ)).toArray, errV (joinE zs)]) ∧ Below w.heap.size w w' := by
  by_cases h0 : joinE zs = 0
  · rw [if_pos h0, h0, errV_zero]
    have h0' := h0
    unfold joinE at h0'
    split at h0'
    · cases h0'
    split at h0'
    · cases h0'
    split at h0'
    · cases h0'
    cases zs with
    | nil => exact absurd rfl (by assumption)
    | cons b r =>
      rcases h with ⟨_, h2⟩ | ⟨g, off, c, rfl, h2, h3, h4, h5⟩
      · cases h2
      · exact join_good g off c b r w (by simpa using h2) h3 h4 (by simp at *; omega) (by simpa using ‹¬ (b :: r).any badB = true›) h5
  · rw [if_neg h0]
    exact join_bad v zs w h h0
end Go.Proofs.YtkbegagpliiljaaDoor.bar
