/- Contracts over this seat's translation: package wire's ReadCommand. -/
import Derived.Test.YtndkabnmffgebaaDoorWirCmd
import Derived.Test.YtndkabnmffgebaaDoorWirRead
namespace Go.Proofs.YtndkabnmffgebaaDoor.wir
open Go.RowKit
open Go.Proofs.YtndkabnmffgebaaDoor.ord (errV errV_zero errV_of)

theorem rd_length (b : List UInt8) : (rd b).length = 11 := by
  cases b with
  | nil => rfl
  | cons a r => show (rdl (zero11.set 0 _) (a :: r) _).length = 11; rw [rdl_length]; rfl
/-- What bytes say, if they are just those of a command. -/
def rdC (b : List UInt8) : Option (List Int) := if cchk (rd b) = 0 ∧ enc (rd b) = b then some (rd b) else none

/-- What ReadCommand tells. -/
def rcV : Option (List Int) → Value
  | some xs => .tuple #[cV xs, .nilIface]
  | none => .tuple #[cV zero11, .iface 49 (.int .i64 2)]
set_option maxRecDepth 100000 in
set_option maxHeartbeats 400000 in
theorem readc_walk (s : ByteArray) (hs : s.size ≤ 9223372036854775807) (w : World) :
    Calls Tryd.prog 10 #[.string s] w fun e w' => e = .returned (rcV (rdC (bl s))) ∧ Below w.heap.size w w' := by
  obtain ⟨X, hX⟩ : ∃ X, X = w.heap.size := ⟨_, rfl⟩
  obtain ⟨V, hV⟩ : ∃ V, V = w.alloc (.cells #[.int .i64 0, .int .i64 0, .int .i64 0, .int .i64 0, .int .i64 0, .int .i64 0, .int .i64 0, .int .i64 0, .int .i64 0, .int .i64 0, .int .i64 0] 25) := ⟨_, rfl⟩
  have HV : Hid (Below X w V ∧ Cmd V X zero11 ∧ V.heap.size = X + 1) := by
    subst hV hX
    exact ⟨(Below.refl _ _).alloc (Nat.le_refl _) _, heap_alloc_new _ _, by simp⟩
  have HX := hidW hX
  have hyl := rd_length (bl s)
  obtain ⟨ys, hys⟩ : ∃ ys, ys = rd (bl s) := ⟨_, rfl⟩
  have HRD : Hid (∀ W, Calls Tryd.prog 25 #[.string s] W fun e w' => e = .returned (cV ys) ∧ Below W.heap.size W w') := fun W => by rw [hys]; exact read_any s W hs
  have hrc : rdC (bl s) = if cchk ys = 0 ∧ enc ys = bl s then some ys else none := by rw [hys]; rfl
  rw [← hys] at hyl
  obtain ⟨R, hR⟩ : ∃ R, R = rdC (bl s) := ⟨_, rfl⟩
  rw [← hR] at hrc ⊢
  have HRC := hidW hrc
  have HYL := hidW hyl
  rw [← hX]
  obtain ⟨c0, c1, c2, c3, c4, c5, c6, c7, c8, c9, c10, hxs⟩ := list11' hyl
  have hcv : cV ys = .agg #[.int .i64 c0, .int .i64 c1, .int .i64 c2, .int .i64 c3, .int .i64 c4, .int .i64 c5, .int .i64 c6, .int .i64 c7, .int .i64 c8, .int .i64 c9, .int .i64 c10] := by rw [hxs]; rfl
  have HCV := hidW hcv
  have HYS := hidW hxs
  have HCO : Hid (∀ W, Calls Tryd.prog 8 #[cV ys] W fun e w' => e = .returned (.tuple #[.string (cmdS ys), errV (cchk ys)]) ∧ Below W.heap.size W w') := fun W => command_any ys hyl W
  rw [hcv] at HRD HCO
  clear hrc hyl hys hR hcv hxs
  go_enter Tryd.func10, Tryd.ntmps10
  go_upto_region 1 with fail
  simp only [← hX]
  simp only [← hV]
  clear hX hV
  go_upto_region 2 with (go_at_call 25; refine (HRD.out _).mono ?_; rintro e w1 ⟨rfl, hb1⟩)
  obtain ⟨Y, hY⟩ : ∃ Y, Y = w1.heap.size := ⟨_, rfl⟩
  obtain ⟨V2, hV2⟩ : ∃ V2, V2 = w1.alloc (.cells #[.int .i64 c0, .int .i64 c1, .int .i64 c2, .int .i64 c3, .int .i64 c4, .int .i64 c5, .int .i64 c6, .int .i64 c7, .int .i64 c8, .int .i64 c9, .int .i64 c10] 25) := ⟨_, rfl⟩
  have HV2 : Hid (Below X w V2 ∧ Cmd V2 X zero11 ∧ Cmd V2 Y ys ∧ X < Y ∧ V2.heap.size = Y + 1) := by
    obtain ⟨h1, h2, h3⟩ := HV.out
    have hb2 : Below w1.heap.size w1 V2 := by rw [hV2]; exact (Below.refl _ _).alloc (Nat.le_refl _) _
    have hs1 := hb1.size
    refine ⟨(h1.trans (hb1.mono (by omega))).trans (hb2.mono (by omega)), (h2.below hb1).below hb2, ?_, by omega, by rw [hV2, World.size_alloc]; omega⟩
    rw [HYS.out, hV2, hY]
    exact heap_alloc_new _ _
  have hcm := HV2.out.2.2.1
  rw [HYS.out] at hcm
  obtain ⟨a0, a1, a2, a3, a4, a5, a6, a7, a8, a9, a10⟩ := hcm.row
  simp only [← hY]
  simp only [← hV2]
  clear hY hV2 hb1 hcm
  by_cases hE : cchk ys = 0
  rotate_left
  · have HR : Hid (R = none) := hidW (by rw [HRC.out, if_neg (fun h => hE h.1)])
    have HC2 : Hid (∀ W, Calls Tryd.prog 8 #[.agg #[.int .i64 c0, .int .i64 c1, .int .i64 c2, .int .i64 c3, .int .i64 c4, .int .i64 c5, .int .i64 c6, .int .i64 c7, .int .i64 c8, .int .i64 c9, .int .i64 c10]] W fun e w' => e = .returned (.tuple #[.string (cmdS ys), .iface 49 (.int .i64 (cchk ys))]) ∧ Below W.heap.size W w') := by
      have := HCO.out
      rw [errV_of hE] at this
      exact this
    clear HCO HRC
    go_upto_region 3 with (go_at_call 8; refine (HC2.out _).mono ?_; rintro e w3 ⟨rfl, hb3⟩)
    have HW3 : Hid (Below X w w3 ∧ Cmd w3 X zero11 ∧ Cmd w3 Y ys ∧ X < Y) := by
      obtain ⟨h1, h2, h3, h4, h5⟩ := HV2.out
      exact ⟨h1.trans (hb3.mono (by omega)), h2.below hb3, h3.below hb3, h4⟩
    clear hb3 a0 a1 a2 a3 a4 a5 a6 a7 a8 a9 a10
    go_upto_region 4 with fail
    refine wp_region_lit ?_
    iterate 2 (refine wpList_step fun K hK => ?_; go_simp; refine hK _ _ ?_; clear hK K; try simp only [Act.put, List.setIfInBounds_toArray, List.set_cons_zero, List.set_cons_succ])
    refine wpList_store_mid rfl 25 (.tmp 2) (.tmp 21) rfl X 0 (iL zero11).toArray rfl rfl (store11 HW3.out.2.1 rfl rfl) (by kernel_rfl) (one11 zero11) ?_
    show wpList _ _ _ _ _ (w3.setCells X 0 (iL zero11))
    have HC : Hid (Cmd (w3.setCells X 0 (iL zero11)) X zero11 ∧ Below X w (w3.setCells X 0 (iL zero11))) :=
      ⟨HW3.out.2.1.stored zero11 rfl, HW3.out.1.grown (wak.gr_setCells X _ _ _) (by have := HW3.out.2.1.lt; omega) (fun k hk => by cases hk; omega)⟩
    generalize w3.setCells X 0 (iL zero11) = W9 at HC ⊢
    obtain ⟨y0, y1, y2, y3, y4, y5, y6, y7, y8, y9, y10⟩ := Cmd.row (b := X) (w := W9) HC.out.1
    go_wp2_with fail
    refine bodyPost_ret (v := .tuple #[.agg #[.int .i64 0, .int .i64 0, .int .i64 0, .int .i64 0, .int .i64 0, .int .i64 0, .int .i64 0, .int .i64 0, .int .i64 0, .int .i64 0, .int .i64 0], .iface 49 (.int .i64 2)]) ?_ rfl ⟨by rw [HR.out]; rfl, HC.out.2⟩
    simp [results, Tryd.results10, go_sem, y0, y1, y2, y3, y4, y5, y6, y7, y8, y9, y10]
  have HC2 : Hid (∀ W, Calls Tryd.prog 8 #[.agg #[.int .i64 c0, .int .i64 c1, .int .i64 c2, .int .i64 c3, .int .i64 c4, .int .i64 c5, .int .i64 c6, .int .i64 c7, .int .i64 c8, .int .i64 c9, .int .i64 c10]] W fun e w' => e = .returned (.tuple #[.string (tx (enc ys)), .nilIface]) ∧ Below W.heap.size W w') := by
    have := HCO.out
    rw [hE, errV_zero, cmdS, if_pos hE] at this
    exact this
  clear HCO
  by_cases hB : enc ys = bl s
  · have HR : Hid (R = some ys) := hidW (by rw [HRC.out, if_pos ⟨hE, hB⟩])
    rw [hB, tx_bl] at HC2
    clear HRC hB
    go_upto_region 3 with (go_at_call 8; refine (HC2.out _).mono ?_; rintro e w3 ⟨rfl, hb3⟩)
    have HW3 : Hid (Below X w w3 ∧ Cmd w3 X zero11 ∧ Cmd w3 Y ys ∧ X < Y) := by
      obtain ⟨h1, h2, h3, h4, h5⟩ := HV2.out
      exact ⟨h1.trans (hb3.mono (by omega)), h2.below hb3, h3.below hb3, h4⟩
    clear hb3 a0 a1 a2 a3 a4 a5 a6 a7 a8 a9 a10
    go_upto_region 5 with fail
    refine wp_region_lit ?_
    refine wpList_load_mid rfl 25 (.tmp 4) rfl Y 0 rfl (iL ys) _ HW3.out.2.2.1.range Tryd.underlying25 rfl (by rw [iL_length, HYL.out]; kernel_rfl) ?_
    simp only [Act.put, List.setIfInBounds_toArray, List.set_cons_zero, List.set_cons_succ]
    refine wpList_store_mid rfl 25 (.tmp 2) (.tmp 23) rfl X 0 (iL ys).toArray rfl rfl (store11 HW3.out.2.1 HYL.out rfl) (by rw [List.size_toArray, iL_length, HYL.out]; kernel_rfl) (one11 ys) ?_
    show wpList _ _ _ _ _ (w3.setCells X 0 (iL ys))
    have HC : Hid (Cmd (w3.setCells X 0 (iL ys)) X ys ∧ Below X w (w3.setCells X 0 (iL ys))) :=
      ⟨HW3.out.2.1.stored ys (by rw [HYL.out]; rfl), HW3.out.1.grown (wak.gr_setCells X _ _ _) (by have := HW3.out.2.1.lt; omega) (fun k hk => by cases hk; omega)⟩
    generalize w3.setCells X 0 (iL ys) = W9 at HC ⊢
    have hrow := HC.out.1
    rw [HYS.out] at hrow
    obtain ⟨y0, y1, y2, y3, y4, y5, y6, y7, y8, y9, y10⟩ := hrow.row
    go_wp2_with fail
    refine bodyPost_ret (v := .tuple #[.agg #[.int .i64 c0, .int .i64 c1, .int .i64 c2, .int .i64 c3, .int .i64 c4, .int .i64 c5, .int .i64 c6, .int .i64 c7, .int .i64 c8, .int .i64 c9, .int .i64 c10], .nilIface]) ?_ rfl ⟨by rw [HR.out]; show _ = Ending.returned (.tuple #[cV ys, .nilIface]); rw [HCV.out], HC.out.2⟩
    simp [results, Tryd.results10, go_sem, y0, y1, y2, y3, y4, y5, y6, y7, y8, y9, y10]
  · have HR : Hid (R = none) := hidW (by rw [HRC.out, if_neg (fun h => hB h.2)])
    have hsne : ((tx (enc ys)).toList == s.toList) = false := by
      rw [ByteArray.toList_eq, ByteArray.toList_eq, beq_eq_false_iff_ne]
      intro h
      exact hB ((bl_tx (enc ys)).symm.trans h)
    generalize tx (enc ys) = t at HC2 hsne
    clear HRC hB
    go_upto_region 3 with (go_at_call 8; refine (HC2.out _).mono ?_; rintro e w3 ⟨rfl, hb3⟩)
    have HW3 : Hid (Below X w w3 ∧ Cmd w3 X zero11 ∧ Cmd w3 Y ys ∧ X < Y) := by
      obtain ⟨h1, h2, h3, h4, h5⟩ := HV2.out
      exact ⟨h1.trans (hb3.mono (by omega)), h2.below hb3, h3.below hb3, h4⟩
    clear hb3 a0 a1 a2 a3 a4 a5 a6 a7 a8 a9 a10
    go_upto_region 4 with fail
    refine wp_region_lit ?_
    iterate 2 (refine wpList_step fun K hK => ?_; go_simp; refine hK _ _ ?_; clear hK K; try simp only [Act.put, List.setIfInBounds_toArray, List.set_cons_zero, List.set_cons_succ])
    refine wpList_store_mid rfl 25 (.tmp 2) (.tmp 21) rfl X 0 (iL zero11).toArray rfl rfl (store11 HW3.out.2.1 rfl rfl) (by kernel_rfl) (one11 zero11) ?_
    show wpList _ _ _ _ _ (w3.setCells X 0 (iL zero11))
    have HC : Hid (Cmd (w3.setCells X 0 (iL zero11)) X zero11 ∧ Below X w (w3.setCells X 0 (iL zero11))) :=
      ⟨HW3.out.2.1.stored zero11 rfl, HW3.out.1.grown (wak.gr_setCells X _ _ _) (by have := HW3.out.2.1.lt; omega) (fun k hk => by cases hk; omega)⟩
    generalize w3.setCells X 0 (iL zero11) = W9 at HC ⊢
    obtain ⟨y0, y1, y2, y3, y4, y5, y6, y7, y8, y9, y10⟩ := Cmd.row (b := X) (w := W9) HC.out.1
    go_wp2_with fail
    refine bodyPost_ret (v := .tuple #[.agg #[.int .i64 0, .int .i64 0, .int .i64 0, .int .i64 0, .int .i64 0, .int .i64 0, .int .i64 0, .int .i64 0, .int .i64 0, .int .i64 0, .int .i64 0], .iface 49 (.int .i64 2)]) ?_ rfl ⟨by rw [HR.out]; rfl, HC.out.2⟩
    simp [results, Tryd.results10, go_sem, y0, y1, y2, y3, y4, y5, y6, y7, y8, y9, y10]
end Go.Proofs.YtndkabnmffgebaaDoor.wir
