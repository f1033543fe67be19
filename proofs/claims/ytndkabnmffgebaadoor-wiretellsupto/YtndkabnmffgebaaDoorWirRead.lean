/- Contracts over this seat's translation: package wire's read. -/
import Derived.Test.YtndkabnmffgebaaDoorWirRd
import Derived.Test.YtndkabnmffgebaaDoorWirUnw
namespace Go.Proofs.YtndkabnmffgebaaDoor.wir
open Go.RowKit

theorem rdl_length (fs : List (Nat × Nat)) : ∀ (xs : List Int) (b : List UInt8), (rdl xs b fs).length = xs.length := by
  induction fs with
  | nil => intro xs b; rfl
  | cons f r ih => intro xs b; show (rdl (xs.set f.1 _) _ r).length = _; rw [ih, List.length_set]

theorem pos_of {s : ByteArray} (h0 : ¬ s = ⟨#[]⟩) : 0 < s.size := by
  rcases Nat.eq_zero_or_pos s.size with h | h
  · exact absurd (ByteArray.ext (Array.eq_empty_of_size_eq_zero h)) h0
  · exact h
theorem full_of {s : ByteArray} (h : 0 < s.size) : s.toList.isEmpty = false := by
  rw [ByteArray.toList_eq]
  have hl := bl_length s
  unfold bl at hl
  cases hd : s.data.toList with
  | nil => rw [hd] at hl; simp at hl; omega
  | cons a r => rfl
set_option maxRecDepth 100000 in
set_option maxHeartbeats 400000 in
theorem read_any (s : ByteArray) (w : World) (hs : s.size ≤ 9223372036854775807) :
    Calls Tryd.prog 25 #[.string s] w fun e w' => e = .returned (cV (rd (bl s))) ∧ Below w.heap.size w w' := by
  obtain ⟨X, hX⟩ : ∃ X, X = w.heap.size := ⟨_, rfl⟩
  obtain ⟨V, hV⟩ : ∃ V, V = w.alloc (.cells #[.int .i64 0, .int .i64 0, .int .i64 0, .int .i64 0, .int .i64 0, .int .i64 0, .int .i64 0, .int .i64 0, .int .i64 0, .int .i64 0, .int .i64 0] 25) := ⟨_, rfl⟩
  have HV : Hid (Below X w V ∧ Cmd V X zero11 ∧ V.heap.size = X + 1) := by
    subst hV hX
    exact ⟨(Below.refl _ _).alloc (Nat.le_refl _) _, heap_alloc_new _ _, by simp⟩
  have HX := hidW hX
  obtain ⟨R, hR⟩ : ∃ R, R = rd (bl s) := ⟨_, rfl⟩
  have HR := hidW hR
  have HS := hidW hs
  rw [← hR, ← hX]
  clear hR hs
  by_cases h0 : s = ⟨#[]⟩
  · subst h0
    have hR0 : R = zero11 := HR.out
    subst hR0
    go_enter Tryd.func25, Tryd.ntmps25
    go_upto_region 1 with fail
    simp only [← hX, ← hV]
    clear hX hV
    go_upto_region 2 with fail
    refine wp_region_lit ?_
    refine wpList_step fun K hK => ?_
    go_simp
    refine hK _ _ ?_
    clear hK K
    try simp only [Act.put, List.setIfInBounds_toArray, List.set_cons_zero, List.set_cons_succ]
    refine wpList_store_mid rfl 25 (.tmp 2) (.tmp 8) rfl X 0 (iL zero11).toArray rfl rfl (store11 HV.out.2.1 rfl rfl) (by kernel_rfl) (one11 zero11) ?_
    show wpList _ _ _ _ _ (V.setCells X 0 (iL zero11))
    have HC : Hid (Cmd (V.setCells X 0 (iL zero11)) X zero11 ∧ Below X w (V.setCells X 0 (iL zero11))) := by
      refine ⟨HV.out.2.1.stored zero11 rfl, HV.out.1.grown (wak.gr_setCells X _ _ _) (by have := HV.out.2.2; omega) (fun k hk => by cases hk; omega)⟩
    generalize V.setCells X 0 (iL zero11) = W9 at HC ⊢
    obtain ⟨y0, y1, y2, y3, y4, y5, y6, y7, y8, y9, y10⟩ := Cmd.row (b := X) (w := W9) HC.out.1
    go_wp2_with fail
    refine bodyPost_ret (v := .agg #[.int .i64 0, .int .i64 0, .int .i64 0, .int .i64 0, .int .i64 0, .int .i64 0, .int .i64 0, .int .i64 0, .int .i64 0, .int .i64 0, .int .i64 0]) ?_ rfl ⟨rfl, HC.out.2⟩
    simp [results, Tryd.results25, go_sem, y0, y1, y2, y3, y4, y5, y6, y7, y8, y9, y10]
  · have hpos : 0 < s.size := pos_of h0
    have hz : (0 : Int) < (s.size : Int) := by omega
    have he : s.toList.isEmpty = false := full_of hpos
    obtain ⟨b0, hb0⟩ : ∃ b0 : UInt8, b0 = s[0] := ⟨_, rfl⟩
    have hw0 : wrap64 (s[0].toNat : Int) = (b0.toNat : Int) := by have := s[0].toNat_lt; rw [hb0]; unfold wrap64; omega
    obtain ⟨V1, hV1⟩ : ∃ V1, V1 = V.alloc (.cells #[.int .i64 (b0.toNat : Int), .int .i64 0, .int .i64 0, .int .i64 0, .int .i64 0, .int .i64 0, .int .i64 0, .int .i64 0, .int .i64 0, .int .i64 0, .int .i64 0] 25) := ⟨_, rfl⟩
    obtain ⟨fs, hfs⟩ : ∃ fs, fs = offs (b0.toNat : Int) := ⟨_, rfl⟩
    have HFS : Hid ((∀ f ∈ fs, f.1 < 11 ∧ f.2 ≤ 4) ∧ fs.length ≤ 9) := by rw [hfs]; exact ⟨offs_small _, offs_length _⟩
    have HR1 : Hid (rdl (zero11.set 0 (b0.toNat : Int)) (bl s) fs = R) := by
      rw [HR.out, hfs, hb0, bl_get hpos]
      cases h : bl s with
      | nil => have := bl_length s; rw [h] at this; simp at this; omega
      | cons a r => rfl
    have HV1 : Hid (Below X w V1 ∧ Cmd V1 X zero11 ∧ Cmd V1 (X + 1) (zero11.set 0 (b0.toNat : Int)) ∧ V1.heap.size = X + 2) := by
      obtain ⟨h1, h2, h3⟩ := HV.out
      have hb : Below V.heap.size V V1 := by rw [hV1]; exact (Below.refl _ _).alloc (Nat.le_refl _) _
      refine ⟨h1.trans (hb.mono (by omega)), h2.below hb, ?_, by rw [hV1, World.size_alloc]; omega⟩
      have := heap_alloc_new V (.cells #[.int .i64 (b0.toNat : Int), .int .i64 0, .int .i64 0, .int .i64 0, .int .i64 0, .int .i64 0, .int .i64 0, .int .i64 0, .int .i64 0, .int .i64 0, .int .i64 0] 25)
      rw [← hV1, h3] at this
      exact this
    have HFL : Hid (∀ W, Cmd W (X + 1) (zero11.set 0 (b0.toNat : Int)) → Calls Tryd.prog 22 #[.pointer (some ⟨X + 1, 0, none⟩)] W fun e w' => ∃ v', e = .returned v' ∧ OwnF W.heap.size w' v' (X + 1) fs ∧ Below W.heap.size W w') := by
      intro W hW
      rw [hfs]
      exact fields_any (X + 1) _ _ W hW rfl
    clear hfs hb0
    go_enter Tryd.func25, Tryd.ntmps25
    go_upto_region 4 with fail
    simp only [hw0, ← hX, ← hV]
    simp only [← hV1]
    clear hX hV hV1 hw0
    trace_state
    go_wp2_with (go_at_call 22; refine (HFL.out _ HV1.out.2.2.1).mono ?_; rintro e w1 ⟨v1, rfl, ho1, hb1⟩; obtain ⟨q1, k1, rfl⟩ := own_form ho1)
    have HW1 : Hid (Below X w w1 ∧ Cmd w1 (X + 1) (zero11.set 0 (b0.toNat : Int)) ∧ Cmd w1 X zero11 ∧ X + 2 ≤ w1.heap.size ∧ OwnF (X + 2) w1 (.slice q1 fs.length k1) (X + 1) fs) := by
      obtain ⟨h1, h2, h3, h4⟩ := HV1.out
      exact ⟨h1.trans (hb1.mono (by omega)), h3.below hb1, h2.below hb1, by have := hb1.size; omega, by rw [← h4]; exact ho1⟩
    clear ho1 hb1 hz he h0
    obtain ⟨n, hn⟩ : ∃ n, n = fs.length := ⟨_, rfl⟩
    have HN := hidW hn
    rw [← hn]
    clear hn
    go_loopg [0, 5, 15] n (fun gg s0 s5 s15 wx => ∃ k : Nat, k ≤ n ∧ n - k ≤ gg ∧ s15 = .int .i64 k ∧ ∃ (s' : ByteArray) (ys : List Int), s0 = .string s' ∧ Aside (s'.size ≤ 9223372036854775807 ∧ ys.length = 11 ∧ rdl ys (bl s') (fs.drop k) = R ∧ Below X w wx ∧ Cmd wx (X + 1) ys ∧ Cmd wx X zero11 ∧ X + 2 ≤ wx.heap.size ∧ OwnF (X + 2) wx (.slice q1 fs.length k1) (X + 1) fs))
    case atStart => exact ⟨0, Nat.zero_le _, by omega, rfl, s, _, rfl, HS.out, rfl, HR1.out, HW1.out⟩
    case round =>
      obtain ⟨k, hk, hg, rfl, s', ys, rfl, HA⟩ := hrel
      have HA2 := hidW HA.out
      clear HA
      by_cases hlt : k < n
      · have hltz : (k : Int) < (n : Int) := by omega
        have hin1 : ¬ ((k : Int) < 0) := by omega
        have hlz : k < fs.length := by rw [← HN.out]; exact hlt
        obtain ⟨g, rfl, hgB, hgl, e0, e1⟩ := own_fld HA2.out.2.2.2.2.2.2.2 hlz
        have hwk : wrap64 ((k : Int) + 1) = ((k + 1 : Nat) : Int) := by have := HN.out; have := HFS.out.2; unfold wrap64; omega
        have HK := hidW (And.intro hwk (And.intro hlt hg))
        have hf11 := HFS.out.1 (fs[k]!) (by rw [getW _ _ hlz]; exact List.getElem_mem hlz)
        have hdr : fs.drop k = fs[k]! :: fs.drop (k + 1) := by rw [List.drop_eq_getElem_cons hlz, getW _ _ hlz]
        have HG := hidW (And.intro hgB hgl)
        obtain ⟨p, hp⟩ : ∃ p, p = fs[k]! := ⟨_, rfl⟩
        rw [← hp] at e0 e1 hdr hf11
        obtain ⟨po, ps⟩ := p
        have HP := hidW (And.intro hdr hf11)
        clear hp hdr hf11 hwk hg hk hgB hgl
        go_upto_region 7 with fail
        obtain ⟨Y, hY⟩ : ∃ y, y = wr.heap.size := ⟨_, rfl⟩
        obtain ⟨V4, hV4⟩ : ∃ V, V = wr.alloc (.cells #[.pointer (some ⟨X + 1, po, none⟩), .int .i64 ps] 59) := ⟨_, rfl⟩
        have hb4 : Below wr.heap.size wr V4 := by rw [hV4]; exact (Below.refl _ _).alloc (Nat.le_refl _) _
        have hk4 : Lib.OthersKept 5 none wr V4 := by rw [hV4]; exact (Lib.OthersKept.refl _ _ _).alloc _
        have hR4 : V4.heap[Y]? = some (.cells #[.pointer (some ⟨X + 1, po, none⟩), .int .i64 ps] 59 (0, 0)) := by rw [hV4, hY]; exact heap_alloc_new wr _
        have e4 : V4.cell? ⟨Y, 0, none⟩ = some (.pointer (some ⟨X + 1, po, none⟩)) := by simp [World.cell?, hR4]
        have e5 : V4.cell? ⟨Y, 1, none⟩ = some (.int .i64 ps) := by simp [World.cell?, hR4]
        have HB4 := hidW (And.intro hb4 hk4)
        have HFR : Hid (Calls Tryd.prog 40 #[.agg #[.pointer (some ⟨X + 1, po, none⟩), .int .i64 ps], .string s'] V4
          fun e w' => (∃ s2, e = .returned (.string s2) ∧ bl s2 = (bl s').drop ps) ∧ Cmd w' (X + 1) (ys.set po (vl ((bl s').take ps))) ∧ Below (X + 1) V4 w' ∧ (∀ k, k < V4.heap.size → k ≠ X + 1 → w'.heap[k]? = V4.heap[k]?)) :=
          fread_any (X + 1) po ps ys s' V4 (HA2.out.2.2.2.2.1.below hb4) (by rw [HA2.out.2.1]; exact HP.out.2.1) HP.out.2.2 HA2.out.1
        simp only [← hY, ← hV4]
        clear hY hV4 hb4 hk4 hR4 e0 e1
        go_wp2_with (go_at_call 40; refine HFR.out.mono ?_; rintro e w5 ⟨⟨s2, rfl, hs2⟩, hc5, hb5, ho5⟩)
        have HF : Hid (s2.size ≤ 9223372036854775807 ∧ (ys.set po (vl ((bl s').take ps))).length = 11 ∧ rdl (ys.set po (vl ((bl s').take ps))) (bl s2) (fs.drop (k + 1)) = R ∧ Below X w w5 ∧ Cmd w5 (X + 1) (ys.set po (vl ((bl s').take ps))) ∧ Cmd w5 X zero11 ∧ X + 2 ≤ w5.heap.size ∧ OwnF (X + 2) w5 (.slice (some ⟨g, 0, none⟩) fs.length k1) (X + 1) fs) := by
          obtain ⟨h1, h2, h3, h4, h5, h6, h7, h8⟩ := HA2.out
          have hs4 := HB4.out.1.size
          refine ⟨?_, by rw [List.length_set]; exact h2, ?_, h4.trans ((HB4.out.1.mono (by omega)).trans (hb5.mono (by omega))), hc5, ?_, by have := hb5.size; omega, ?_⟩
          · have e1 := bl_length s2
            rw [hs2, List.length_drop, bl_length] at e1
            omega
          · rw [hs2]
            rw [HP.out.1] at h3
            exact h3
          · have := h6.below HB4.out.1
            exact (ho5 X this.lt (by omega)).trans this
          · have h9 : OwnF (X + 2) V4 (.slice (some ⟨g, 0, none⟩) fs.length k1) (X + 1) fs := h8.stays HB4.out.2
            refine ⟨h9.1, ?_⟩
            rcases h9.2 with hn | ⟨g', cap, cur, hv, hb, hgg, rest⟩
            · exact .inl hn
            · refine .inr ⟨g', cap, cur, hv, hb, ?_, rest⟩
              rw [ho5 g' (Array.getElem?_eq_some_iff.1 hgg).1 (by omega)]
              exact hgg
        clear hs2 hc5 hb5 ho5 HFR HB4 e4 e5
        go_wp2_with fail
        go_roundg (n - (k + 1))
        case measure => have := HK.out; omega
        case rel => exact ⟨k + 1, HK.out.2.1, Nat.le_refl _, by first | exact congrArg (Value.int .i64) HK.out.1 | go_num, s2, _, rfl, HF.out⟩
      · obtain rfl : k = n := by omega
        have hltz : ¬ (k : Int) < (k : Int) := by omega
        have hdn : fs.drop k = [] := List.drop_of_length_le (by rw [← HN.out]; exact Nat.le_refl _)
        obtain ⟨h1, h2, h3, h4, h5, h6, h7, h8⟩ := HA2.out
        rw [hdn] at h3
        have hyR : ys = R := h3
        subst hyR
        have HE : Hid (ys.length = 11 ∧ Below X w wr ∧ Cmd wr (X + 1) ys ∧ Cmd wr X zero11 ∧ X + 2 ≤ wr.heap.size) := ⟨h2, h4, h5, h6, h7⟩
        clear hk hg hdn h1 h2 h3 h4 h5 h6 h7 h8 HA2 HR1 HR
        go_upto_region 9 with fail
        refine wp_region_lit ?_
        refine wpList_load_mid rfl 25 (.tmp 3) rfl (X + 1) 0 rfl (iL ys) _ HE.out.2.2.1.range Tryd.underlying25 rfl (by rw [iL_length, HE.out.1]; kernel_rfl) ?_
        simp only [Act.put, List.setIfInBounds_toArray, List.set_cons_zero, List.set_cons_succ]
        refine wpList_store_mid rfl 25 (.tmp 2) (.tmp 23) rfl X 0 (iL ys).toArray rfl rfl (store11 HE.out.2.2.2.1 HE.out.1 rfl) (by rw [List.size_toArray, iL_length, HE.out.1]; kernel_rfl) (one11 ys) ?_
        show wpList _ _ _ _ _ (wr.setCells X 0 (iL ys))
        have HC : Hid (Cmd (wr.setCells X 0 (iL ys)) X ys ∧ Below X w (wr.setCells X 0 (iL ys))) := by
          refine ⟨HE.out.2.2.2.1.stored ys (by rw [HE.out.1]; rfl), ?_⟩
          exact HE.out.2.1.grown (wak.gr_setCells X _ _ _) (by have := HE.out.2.2.2.2; omega) (fun k hk => by cases hk; omega)
        generalize wr.setCells X 0 (iL ys) = W9 at HC ⊢
        obtain ⟨z0, z1, z2, z3, z4, z5, z6, z7, z8, z9, z10, rfl⟩ := list11' HE.out.1
        obtain ⟨y0, y1, y2, y3, y4, y5, y6, y7, y8, y9, y10⟩ := HC.out.1.row
        go_wp2_with fail
        refine bodyPost_ret (v := .agg #[.int .i64 z0, .int .i64 z1, .int .i64 z2, .int .i64 z3, .int .i64 z4, .int .i64 z5, .int .i64 z6, .int .i64 z7, .int .i64 z8, .int .i64 z9, .int .i64 z10]) ?_ rfl ⟨rfl, HC.out.2⟩
        simp [results, Tryd.results25, go_sem, y0, y1, y2, y3, y4, y5, y6, y7, y8, y9, y10]
end Go.Proofs.YtndkabnmffgebaaDoor.wir
