/- Contracts over this seat's translation: package bars' barOf. -/
import Derived.Test.YtkbegagpliiljaaDoorBarOf
namespace Go.Proofs.YtkbegagpliiljaaDoor.bar
open Go.RowKit Go.Proofs.YtkbegagpliiljaaDoor.mee
open Go.Proofs.YtkbegagpliiljaaDoor.spn (keeps)

theorem single_any (t : T) (w : World) :
    Calls Tryd.prog 30 #[.agg (tV t).toArray] w fun e w' => e = .returned (.agg (bV (sgl t)).toArray) ∧ Below w.heap.size w w' := by
  obtain ⟨t1, t2, t3, t4, t5, t6⟩ := t
  exact single_walk t1 t2 t3 t4 t5 t6 w
theorem behind_any (a b : B) (w : World) :
    Calls Tryd.prog 23 #[.agg (bV a).toArray, .agg (bV b).toArray] w fun e w' => e = .returned (.agg (bV (bhd a b)).toArray) ∧ Below w.heap.size w w' := by
  obtain ⟨a1, a2, a3, a4, a5⟩ := a
  obtain ⟨b1, b2, b3, b4, b5⟩ := b
  exact behind_walk a1 a2 a3 a4 a5 b1 b2 b3 b4 b5 w
theorem frz5 {w : World} {b : Nat} {z0 z1 z2 z3 z4 : Value} {t : TypeId} (h : w.heap[b]? = some (.cells #[z0, z1, z2, z3, z4] t (0, 0))) : w.frozen? ⟨b, 0, none⟩ = false ∧ w.frozen? ⟨b, 1, none⟩ = false ∧ w.frozen? ⟨b, 2, none⟩ = false ∧ w.frozen? ⟨b, 3, none⟩ = false ∧ w.frozen? ⟨b, 4, none⟩ = false :=
  ⟨by simp [World.frozen?, h], by simp [World.frozen?, h], by simp [World.frozen?, h], by simp [World.frozen?, h], by simp [World.frozen?, h]⟩
set_option maxRecDepth 100000 in
set_option maxHeartbeats 1000000 in
theorem barOf_walk (g off c : Nat) (t : T) (r : List T) (w : World) (hn : r.length + 1 ≤ c) (hc : c ≤ 9223372036854775807)
    (h0 : ∀ i v, (tV t)[i]? = some v → w.cell? ⟨g, off + i, none⟩ = some v)
    (hr : ∀ j, j < r.length → ∀ i v, (tV r[j]!)[i]? = some v → w.cell? ⟨g, off + 6 + j * 6 + i, none⟩ = some v) :
    Calls Tryd.prog 17 #[.slice (some ⟨g, off, none⟩) (r.length + 1) c] w fun e w' => e = .returned (.agg (bV (barF (sgl t) r)).toArray) ∧ Below w.heap.size w w' := by
  obtain ⟨n, hN⟩ : ∃ n, r.length = n := ⟨_, rfl⟩
  have HN := hidT hN
  obtain ⟨R, hR⟩ : ∃ R, R = barF (sgl t) r := ⟨_, rfl⟩
  simp only [hN, ← hR] at hn ⊢
  have HRR := hidT hR
  clear hR
  obtain ⟨X, hX⟩ : ∃ x, x = w.heap.size := ⟨_, rfl⟩
  obtain ⟨V0, hV0⟩ : ∃ V, V = w.alloc (.cells #[.int .i64 0, .int .i64 0, .int .i64 0, .int .i64 0, .int .i64 0] 26) := ⟨_, rfl⟩
  have HB0 : Hid (Below w.heap.size w V0) := by rw [hV0]; exact (Below.refl _ _).alloc (Nat.le_refl _) _
  have HX0 : Hid (V0.heap[X]? = some (.cells #[.int .i64 0, .int .i64 0, .int .i64 0, .int .i64 0, .int .i64 0] 26 (0, 0))) := by
    rw [hX, hV0]; exact heap_alloc_new w _
  have HXS : Hid (X = w.heap.size ∧ V0.heap.size = X + 1) := by rw [hV0, hX]; exact ⟨rfl, World.size_alloc _ _⟩
  obtain ⟨t1, t2, t3, t4, t5, t6⟩ := t
  have c0 := keeps HB0.out (h0 0 _ rfl)
  have c1 := keeps HB0.out (h0 1 _ rfl)
  have c2 := keeps HB0.out (h0 2 _ rfl)
  have c3 := keeps HB0.out (h0 3 _ rfl)
  have c4 := keeps HB0.out (h0 4 _ rfl)
  have c5 := keeps HB0.out (h0 5 _ rfl)
  simp only [Nat.add_zero] at c0
  have HCR : Hid (∀ W, Below w.heap.size w W → ∀ j, j < r.length → ∀ i v, (tV r[j]!)[i]? = some v → W.cell? ⟨g, off + 6 + j * 6 + i, none⟩ = some v) := fun W hW j hj i v hv => keeps hW (hr j hj i v hv)
  have hnz : ¬ ((n + 1 : Nat) : Int) ≤ 0 := by omega
  have HS1 := hidT (single_walk t1 t2 t3 t4 t5 t6 V0)
  clear hr h0
  go_enter Tryd.func17, Tryd.ntmps17
  go_upto_region 1 with fail
  simp only [← hX, ← hV0]
  clear hX hV0
  go_upto_region 2 with (go_at_call 30; refine HS1.out.mono ?_; rintro e w1 ⟨rfl, hb1⟩)
  obtain ⟨Y, hY⟩ : ∃ y, y = w1.heap.size := ⟨_, rfl⟩
  obtain ⟨W1, hW1⟩ : ∃ V, V = w1.alloc (.cells #[.int .i64 t5, .int .i64 t5, .int .i64 t5, .int .i64 t5, .int .i64 t6] 26) := ⟨_, rfl⟩
  have HB1 : Hid (Below w.heap.size w w1) := HB0.out.trans (hb1.mono HB0.out.size)
  have HX1 : Hid (w1.heap[X]? = some (.cells #[.int .i64 0, .int .i64 0, .int .i64 0, .int .i64 0, .int .i64 0] 26 (0, 0)) ∧ X < Y) := by
    have h1 := HXS.out.2
    have h2 := hb1.size
    refine ⟨(hb1.block X (by omega)).trans HX0.out, by omega⟩
  have HY1 : Hid (W1.heap[Y]? = some (.cells #[.int .i64 t5, .int .i64 t5, .int .i64 t5, .int .i64 t5, .int .i64 t6] 26 (0, 0)) ∧ Below Y w1 W1 ∧ Y < W1.heap.size) := by
    rw [hW1, hY]
    exact ⟨heap_alloc_new w1 _, (Below.refl _ _).alloc (Nat.le_refl _) _, by rw [World.size_alloc]; omega⟩
  simp only [← hY, ← hW1]
  have HYS := hidT hY
  clear hY hW1 hb1 HB0 HX0 HS1 c0 c1 c2 c3 c4 c5
  go_cut [11, 12, 13] from 10 to 13 (fun s11 s12 s13 wx => ∃ q' c', s11 = .slice q' n c' ∧ s12 = .int .i64 n ∧ s13 = .int .i64 0 ∧ (0 < n → q' = some ⟨g, off + 6, none⟩) ∧ W1 = wx)
  case first =>
    have e1 : ((n + 1 : Nat) : Int) - 1 = (n : Int) := by omega
    by_cases hc1 : c = 1
    · subst hc1
      obtain rfl : n = 0 := by omega
      go_wp2_with fail
      go_meet
      exact ⟨_, _, rfl, rfl, rfl, fun h => absurd h (by omega), rfl⟩
    · go_wp2_with fail
      go_meet
      exact ⟨_, _, rfl, rfl, rfl, fun h => rfl, rfl⟩
  case rest =>
  obtain ⟨q', c', rfl, rfl, rfl, hq', rfl⟩ := hcut
  have HQ := hidT hq'
  clear hq'
  go_wp2_with fail
  go_loopg [5, 13] n (fun gg s5 s13 wr => ∃ kk : Nat, kk ≤ n ∧ n - kk ≤ gg ∧ s13 = .int .i64 kk ∧ Aside (Below Y w1 wr ∧ Y < wr.heap.size ∧ wr.heap[Y]? = some (.cells (bV (barF ⟨t5, t5, t5, t5, t6⟩ (r.take kk))).toArray 26 (0, 0))))
  case atStart => exact ⟨0, Nat.zero_le _, by omega, rfl, HY1.out.2.1, HY1.out.2.2, HY1.out.1⟩
  case round =>
    obtain ⟨kk, hkk, hg, rfl, HA⟩ := hrel
    by_cases hlt : kk < n
    · have hltz : (kk : Int) < (n : Int) := by omega
      have hin1 : ¬ ((kk : Int) < 0) := by omega
      have hlz : kk < r.length := by rw [HN.out]; exact hlt
      obtain rfl := HQ.out (by omega)
      have HBW : Hid (Below w.heap.size w wr) := HB1.out.trans (HA.out.1.mono (by rw [HYS.out]; exact HB1.out.size))
      have hcc := HCR.out wr HBW.out kk hlz
      have hbt := barF_take (a := ⟨t5, t5, t5, t5, t6⟩) hlz
      obtain ⟨x, hx⟩ : ∃ x, r[kk]! = x := ⟨_, rfl⟩
      rw [hx] at hcc hbt
      obtain ⟨x1, x2, x3, x4, x5, x6⟩ := x
      have HA2 := hidT HA.out
      generalize barF ⟨t5, t5, t5, t5, t6⟩ (r.take kk) = acc at *
      obtain ⟨o, h, l, cl, qt⟩ := acc
      have HBT := hidT hbt
      have hrow : wr.heap[Y]? = some (.cells #[.int .i64 o, .int .i64 h, .int .i64 l, .int .i64 cl, .int .i64 qt] 26 (0, 0)) := HA2.out.2.2
      obtain ⟨r0, r1, r2, r3, r4⟩ := row5 hrow
      have c0 := hcc 0 _ rfl
      have c1 := hcc 1 _ rfl
      have c2 := hcc 2 _ rfl
      have c3 := hcc 3 _ rfl
      have c4 := hcc 4 _ rfl
      have c5 := hcc 5 _ rfl
      simp only [Nat.add_zero] at c0
      have HWK := hidT (wrapSucc kk n hlt (by omega))
      have HKK : Hid (kk < n ∧ n - kk ≤ gk) := ⟨hlt, hg⟩
      have HROW := hidT hrow
      clear hcc hx hkk hg hlt hbt HA hrow
      go_upto_region 5 with fail
      obtain ⟨Z, hZ⟩ : ∃ z, z = wr.heap.size := ⟨_, rfl⟩
      obtain ⟨V, hV⟩ : ∃ V, V = wr.alloc (.cells #[.int .i64 x1, .int .i64 x2, .int .i64 x3, .int .i64 x4, .int .i64 x5, .int .i64 x6] 34) := ⟨_, rfl⟩
      have hBV : Below wr.heap.size wr V := by rw [hV]; exact (Below.refl _ _).alloc (Nat.le_refl _) _
      have hZR : V.heap[Z]? = some (.cells #[.int .i64 x1, .int .i64 x2, .int .i64 x3, .int .i64 x4, .int .i64 x5, .int .i64 x6] 34 (0, 0)) := by rw [hV, hZ]; exact heap_alloc_new wr _
      have hYR : V.heap[Y]? = some (.cells #[.int .i64 o, .int .i64 h, .int .i64 l, .int .i64 cl, .int .i64 qt] 26 (0, 0)) := (hBV.block Y HA2.out.2.1).trans HROW.out
      have HBV : Hid (Below Y w1 V ∧ Y < V.heap.size) := ⟨HA2.out.1.trans (hBV.mono (Nat.le_of_lt HA2.out.2.1)), Nat.lt_of_lt_of_le HA2.out.2.1 hBV.size⟩
      have SO : Hid (∀ W, Below V.heap.size V W → (W.heap[Y]? = some (.cells #[.int .i64 o, .int .i64 h, .int .i64 l, .int .i64 cl, .int .i64 qt] 26 (0, 0)) ∧ W.cell? ⟨Y, 0, none⟩ = some (.int .i64 o) ∧ W.cell? ⟨Y, 1, none⟩ = some (.int .i64 h) ∧ W.cell? ⟨Y, 2, none⟩ = some (.int .i64 l) ∧ W.cell? ⟨Y, 3, none⟩ = some (.int .i64 cl) ∧ W.cell? ⟨Y, 4, none⟩ = some (.int .i64 qt)) ∧ W.cell? ⟨Z, 0, none⟩ = some (.int .i64 x1) ∧ W.cell? ⟨Z, 1, none⟩ = some (.int .i64 x2) ∧ W.cell? ⟨Z, 2, none⟩ = some (.int .i64 x3) ∧ W.cell? ⟨Z, 3, none⟩ = some (.int .i64 x4) ∧ W.cell? ⟨Z, 4, none⟩ = some (.int .i64 x5) ∧ W.cell? ⟨Z, 5, none⟩ = some (.int .i64 x6)) := by
        intro W hW
        have h1 : W.heap[Y]? = _ := (hW.block Y (Array.getElem?_eq_some_iff.1 hYR).1).trans hYR
        have h2 : W.heap[Z]? = _ := (hW.block Z (Array.getElem?_eq_some_iff.1 hZR).1).trans hZR
        exact ⟨⟨h1, row5 h1⟩, by simp [World.cell?, h2], by simp [World.cell?, h2], by simp [World.cell?, h2], by simp [World.cell?, h2], by simp [World.cell?, h2], by simp [World.cell?, h2]⟩
      have HSI : Hid (∀ W, Below V.heap.size V W → Calls Tryd.prog 30 #[.agg #[.int .i64 x1, .int .i64 x2, .int .i64 x3, .int .i64 x4, .int .i64 x5, .int .i64 x6]] W fun e w' => e = .returned (.agg #[.int .i64 x5, .int .i64 x5, .int .i64 x5, .int .i64 x5, .int .i64 x6]) ∧ Below V.heap.size V w') := fun W hW => (single_walk x1 x2 x3 x4 x5 x6 W).mono fun _ _ h' => ⟨h'.1, hW.trans (h'.2.mono hW.size)⟩
      have HBE : Hid (∀ W, Below V.heap.size V W → Calls Tryd.prog 23 #[.agg #[.int .i64 o, .int .i64 h, .int .i64 l, .int .i64 cl, .int .i64 qt], .agg #[.int .i64 x5, .int .i64 x5, .int .i64 x5, .int .i64 x5, .int .i64 x6]] W fun e w' => e = .returned (.agg #[.int .i64 o, .int .i64 (max h x5), .int .i64 (min l x5), .int .i64 x5, .int .i64 (wrap64 (qt + x6))]) ∧ Below V.heap.size V w') := fun W hW => (behind_walk o h l cl qt x5 x5 x5 x5 x6 W).mono fun _ _ h' => ⟨h'.1, hW.trans (h'.2.mono hW.size)⟩
      have HFIN : Hid (∀ W, Below V.heap.size V W → Below Y w1 (((((W.setCell ⟨Y, 0, none⟩ (.int .i64 o)).setCell ⟨Y, 1, none⟩ (.int .i64 (max h x5))).setCell ⟨Y, 2, none⟩ (.int .i64 (min l x5))).setCell ⟨Y, 3, none⟩ (.int .i64 x5)).setCell ⟨Y, 4, none⟩ (.int .i64 (wrap64 (qt + x6)))) ∧ Y < (((((W.setCell ⟨Y, 0, none⟩ (.int .i64 o)).setCell ⟨Y, 1, none⟩ (.int .i64 (max h x5))).setCell ⟨Y, 2, none⟩ (.int .i64 (min l x5))).setCell ⟨Y, 3, none⟩ (.int .i64 x5)).setCell ⟨Y, 4, none⟩ (.int .i64 (wrap64 (qt + x6)))).heap.size ∧ (((((W.setCell ⟨Y, 0, none⟩ (.int .i64 o)).setCell ⟨Y, 1, none⟩ (.int .i64 (max h x5))).setCell ⟨Y, 2, none⟩ (.int .i64 (min l x5))).setCell ⟨Y, 3, none⟩ (.int .i64 x5)).setCell ⟨Y, 4, none⟩ (.int .i64 (wrap64 (qt + x6)))).heap[Y]? = some (.cells #[.int .i64 o, .int .i64 (max h x5), .int .i64 (min l x5), .int .i64 x5, .int .i64 (wrap64 (qt + x6))] 26 (0, 0))) := by
        intro W hW
        have h1 : W.heap[Y]? = _ := (hW.block Y (Array.getElem?_eq_some_iff.1 hYR).1).trans hYR
        have h2 := set5 (b0 := .int .i64 o) (b1 := .int .i64 (max h x5)) (b2 := .int .i64 (min l x5)) (b3 := .int .i64 x5) (b4 := .int .i64 (wrap64 (qt + x6))) h1
        exact ⟨low5 (HBV.out.1.trans (hW.mono (Nat.le_of_lt HBV.out.2))) (Nat.le_refl _), (Array.getElem?_eq_some_iff.1 h2).1, h2⟩
      simp only [← hZ, ← hV]
      clear hZ hV hBV hZR hYR c0 c1 c2 c3 c4 c5 r0 r1 r2 r3 r4 HROW HA2 HBW
      obtain ⟨⟨-, r0, r1, r2, r3, r4⟩, c0, c1, c2, c3, c4, c5⟩ := SO.out V (Below.refl _ _)
      go_region_law (go_simp; go_wp2_with (first | (go_at_call 30; with_reducible refine (HSI.out _ ?_).mono ?_; (repeat' (first | with_reducible assumption | with_reducible refine bal ?_ _ | with_reducible refine Below.drew ?_ | with_reducible exact Below.refl _ _ | with_reducible exact Nat.le_refl _)); rintro e W2 ⟨rfl, hb2⟩; obtain ⟨⟨-, p0, p1, p2, p3, p4⟩, -⟩ := SO.out W2 hb2) | (go_at_call 23; with_reducible refine (HBE.out _ ?_).mono ?_; (repeat' (first | with_reducible assumption | with_reducible refine bal ?_ _ | with_reducible refine Below.drew ?_ | with_reducible exact Below.refl _ _ | with_reducible exact Nat.le_refl _)); rintro e W3 ⟨rfl, hb3⟩; obtain ⟨⟨q5, q0, q1, q2, q3, q4⟩, -⟩ := SO.out W3 hb3; obtain ⟨f0, f1, f2, f3, f4⟩ := frz5 q5)))
      all_goals
        obtain ⟨k1, k2, k3⟩ := HFIN.out _ hb3
        generalize (((((W3.setCell ⟨Y, 0, none⟩ (.int .i64 o)).setCell ⟨Y, 1, none⟩ (.int .i64 (max h x5))).setCell ⟨Y, 2, none⟩ (.int .i64 (min l x5))).setCell ⟨Y, 3, none⟩ (.int .i64 x5)).setCell ⟨Y, 4, none⟩ (.int .i64 (wrap64 (qt + x6)))) = W9 at k1 k2 k3 ⊢
        have HK : Hid (Below Y w1 W9 ∧ Y < W9.heap.size ∧ W9.heap[Y]? = some (.cells (bV (barF ⟨t5, t5, t5, t5, t6⟩ (r.take (kk + 1)))).toArray 26 (0, 0))) := by rw [HBT.out]; exact ⟨k1, k2, k3⟩
        clear k1 k2 k3 hb2 hb3 p0 p1 p2 p3 p4 q0 q1 q2 q3 q4 q5 f0 f1 f2 f3 f4 HFIN SO HBE HSI c0 c1 c2 c3 c4 c5 r0 r1 r2 r3 r4
        go_wp2_with fail
        go_roundg (n - (kk + 1))
        case measure => have := HKK.out; omega
        case rel => exact ⟨kk + 1, HKK.out.1, Nat.le_refl _, by first | exact congrArg (Value.int .i64) HWK.out | go_num | simp, HK.out⟩
    · obtain rfl : kk = n := by omega
      have hltz : ¬ (kk : Int) < (kk : Int) := by omega
      have HA2 := HA.out
      clear HA
      rw [List.take_of_length_le (by rw [HN.out]; exact Nat.le_refl _)] at HA2
      obtain ⟨k1, k2, k3⟩ := HA2
      have HXR : Hid (wr.heap[X]? = some (.cells #[.int .i64 0, .int .i64 0, .int .i64 0, .int .i64 0, .int .i64 0] 26 (0, 0))) := (k1.block X HX1.out.2).trans HX1.out.1
      have HBW : Hid (Below w.heap.size w wr) := HB1.out.trans (k1.mono (by rw [HYS.out]; exact HB1.out.size))
      have HXB : Hid (w.heap.size ≤ X) := Nat.le_of_eq HXS.out.1.symm
      rw [show barF ⟨t5, t5, t5, t5, t6⟩ r = R from HRR.out.symm] at k3
      obtain ⟨o, h, l, cl, qt⟩ := R
      have HK3 : Hid (wr.heap[Y]? = some (.cells #[.int .i64 o, .int .i64 h, .int .i64 l, .int .i64 cl, .int .i64 qt] 26 (0, 0))) := k3
      obtain ⟨r0, r1, r2, r3, r4⟩ := row5 HK3.out
      clear k1 k2 k3 hkk hg hlt HRR
      go_upto_region 7 with fail
      refine wp_region_lit ?_
      iterate 1 (refine wpList_step fun K hK => ?_; go_simp; refine hK _ _ ?_; clear hK K; try simp only [Act.put, List.setIfInBounds_toArray, List.set_cons_zero, List.set_cons_succ])
      refine wpList_store_mid rfl 26 (.tmp 2) (.tmp 22) rfl X 0 #[.int .i64 o, .int .i64 h, .int .i64 l, .int .i64 cl, .int .i64 qt] rfl rfl (there5 HXR.out) (by kernel_rfl) (by simp [Value.oneCell']) ?_
      have HS := hidT (stored5 (.int .i64 o) (.int .i64 h) (.int .i64 l) (.int .i64 cl) (.int .i64 qt) HXR.out)
      have HBF : Hid (Below w.heap.size w (wr.setCells X 0 [.int .i64 o, .int .i64 h, .int .i64 l, .int .i64 cl, .int .i64 qt])) := HBW.out.grown (wak.gr_setCells X _ _ _) HBW.out.size (fun k hk => by cases hk; exact HXB.out)
      show wpList _ _ _ _ _ (wr.setCells X 0 [.int .i64 o, .int .i64 h, .int .i64 l, .int .i64 cl, .int .i64 qt])
      generalize wr.setCells X 0 [.int .i64 o, .int .i64 h, .int .i64 l, .int .i64 cl, .int .i64 qt] = W9 at HS HBF ⊢
      clear r0 r1 r2 r3 r4
      obtain ⟨y0, y1, y2, y3, y4⟩ := row5 HS.out
      go_wp2_with fail
      exact bodyPost_ret (v := .agg #[.int .i64 o, .int .i64 h, .int .i64 l, .int .i64 cl, .int .i64 qt]) (by simp [results, Tryd.results17, go_sem, y0, y1, y2, y3, y4]) rfl ⟨rfl, HBF.out⟩
/-- barOf, of trades of which there is one at least. -/
theorem barOf_any (v : Value) (zs : List T) (w : World) (h : TL w v zs) (h1 : 0 < zs.length) :
    Calls Tryd.prog 17 #[v] w fun e w' => e = .returned (.agg (bV (barOf zs)).toArray) ∧ Below w.heap.size w w' := by
  rcases h with ⟨_, rfl⟩ | ⟨b, o, c, rfl, h2, h3, h4, h5⟩
  · simp at h1
  · cases zs with
    | nil => simp at h1
    | cons t r =>
      refine barOf_walk b o c t r w (by simpa using h2) h3 (fun i v hv => ?_) (fun j hj i v hv => ?_)
      · have := h5 0 (by simp) i v (by simpa using hv)
        simpa using this
      · have := h5 (j + 1) (by simpa using hj) i v (by simpa using hv)
        rwa [show o + (j + 1) * 6 + i = o + 6 + j * 6 + i by omega] at this
end Go.Proofs.YtkbegagpliiljaaDoor.bar
