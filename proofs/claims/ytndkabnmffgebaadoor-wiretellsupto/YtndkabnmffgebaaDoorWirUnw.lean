/- Contracts over this seat's translation: package wire's unwritten. -/
import Derived.Test.YtndkabnmffgebaaDoorWirRow
import Derived.Test.YtndkabnmffgebaaDoorWirFls
import Derived.Test.YtndkabnmffgebaaDoorWirPure
namespace Go.Proofs.YtndkabnmffgebaaDoor.wir
open Go.RowKit

theorem zap_length (xs : List Int) : ∀ (fs : List (Nat × Nat)), (zap xs fs).length = xs.length := by
  intro fs
  induction fs generalizing xs with
  | nil => rfl
  | cons f r ih => show (zap (xs.set f.1 0) r).length = _; rw [ih, List.length_set]
theorem zap_take {xs : List Int} {fs : List (Nat × Nat)} {k : Nat} (h : k < fs.length) : zap xs (fs.take (k + 1)) = (zap xs (fs.take k)).set (fs[k]!).1 0 := by
  unfold zap
  rw [List.take_succ_eq_append_getElem h, List.foldl_append, getW _ _ h]
  rfl
theorem store11 {w : World} {R : Nat} {ys zs : List Int} (h : Cmd w R zs) (hy : ys.length = 11) (hz : zs.length = 11) : w.there R 0 (iL ys).toArray.size := by
  have := h.there
  rw [List.size_toArray, iL_length, hy, ← hz]
  exact this
theorem one11 (ys : List Int) : (iL ys).toArray.all (·.oneCell') = true := by
  refine all_oneCell_toArray fun v hv => ?_
  simp only [iL, List.mem_map] at hv
  obtain ⟨x, _, rfl⟩ := hv
  rfl

set_option maxRecDepth 100000 in
set_option maxHeartbeats 400000 in
theorem unwritten_any (xs : List Int) (hl : xs.length = 11) (w : World) :
    Calls Tryd.prog 20 #[cV xs] w fun e w' => e = .returned (cV (zap xs (offs (xs[0]!)))) ∧ Below w.heap.size w w' := by
  obtain ⟨X, hX⟩ : ∃ X, X = w.heap.size := ⟨_, rfl⟩
  obtain ⟨V, hV⟩ : ∃ V, V = (w.alloc (.cells (iL xs).toArray 25)).alloc (.cells (iL zero11).toArray 25) := ⟨_, rfl⟩
  have HV : Hid (Below X w V ∧ Cmd V X xs ∧ Cmd V (X + 1) zero11 ∧ V.heap.size = X + 2) := by
    subst hV hX
    refine ⟨((Below.refl _ _).alloc (Nat.le_refl _) _).alloc (by simp) _, ?_, ?_, by simp⟩
    · have h1 := heap_alloc_new w (.cells (iL xs).toArray 25)
      have h2 := Lib.alloc_old (w.alloc (.cells (iL xs).toArray 25)) (.cells (iL zero11).toArray 25) w.heap.size (by simp)
      exact h2.trans h1
    · have h1 := heap_alloc_new (w.alloc (.cells (iL xs).toArray 25)) (.cells (iL zero11).toArray 25)
      rw [World.size_alloc] at h1
      exact h1
  have HX := hidW hX
  have HFL : Hid (∀ W, Cmd W X xs → Calls Tryd.prog 22 #[.pointer (some ⟨X, 0, none⟩)] W fun e w' => ∃ v', e = .returned v' ∧ OwnF W.heap.size w' v' X (offs (xs[0]!)) ∧ Below W.heap.size W w') :=
    fun W hW => fields_any X _ _ W hW (by rw [List.getElem?_toArray]; exact iL_at (by omega))
  obtain ⟨fs, hfs⟩ : ∃ fs, fs = offs (xs[0]!) := ⟨_, rfl⟩
  have HFS : Hid ((∀ f ∈ fs, f.1 < 11 ∧ f.2 ≤ 4) ∧ fs.length ≤ 9) := by rw [hfs]; exact ⟨offs_small _, offs_length _⟩
  rw [← hfs] at HFL ⊢
  clear hfs
  obtain ⟨ys, hys⟩ : ∃ ys, ys = zap xs fs := ⟨_, rfl⟩
  have HYZ := hidW hys
  have HYS : Hid (ys.length = 11) := by rw [hys, zap_length]; exact hl
  rw [← hys]
  clear hys
  have HL := hidW hl
  rw [← hX]
  obtain ⟨c0, c1, c2, c3, c4, c5, c6, c7, c8, c9, c10, hxs⟩ := list11' hl
  have hcv : cV xs = .agg #[.int .i64 c0, .int .i64 c1, .int .i64 c2, .int .i64 c3, .int .i64 c4, .int .i64 c5, .int .i64 c6, .int .i64 c7, .int .i64 c8, .int .i64 c9, .int .i64 c10] := by rw [hxs]; rfl
  have hV2 : V = (w.alloc (.cells #[.int .i64 c0, .int .i64 c1, .int .i64 c2, .int .i64 c3, .int .i64 c4, .int .i64 c5, .int .i64 c6, .int .i64 c7, .int .i64 c8, .int .i64 c9, .int .i64 c10] 25)).alloc (.cells #[.int .i64 0, .int .i64 0, .int .i64 0, .int .i64 0, .int .i64 0, .int .i64 0, .int .i64 0, .int .i64 0, .int .i64 0, .int .i64 0, .int .i64 0] 25) := by rw [hV, hxs]; rfl
  rw [hcv]
  clear hV hcv hl
  go_enter Tryd.func20, Tryd.ntmps20
  go_upto_region 1 with fail
  simp only [← hX, ← hV2]
  clear hX hV2
  go_wp2_with (go_at_call 22; refine (HFL.out _ HV.out.2.1).mono ?_; rintro e w1 ⟨v1, rfl, ho1, hb1⟩; obtain ⟨q1, k1, rfl⟩ := own_form ho1)
  have HW1 : Hid (Below X w w1 ∧ Cmd w1 X xs ∧ Cmd w1 (X + 1) zero11 ∧ X + 2 ≤ w1.heap.size ∧ OwnF (X + 2) w1 (.slice q1 fs.length k1) X fs) := by
    obtain ⟨h1, h2, h3, h4⟩ := HV.out
    exact ⟨h1.trans (hb1.mono (by omega)), h2.below hb1, h3.below hb1, by have := hb1.size; omega, by rw [← h4]; exact ho1⟩
  clear ho1 hb1
  obtain ⟨n, hn⟩ : ∃ n, n = fs.length := ⟨_, rfl⟩
  have HN := hidW hn
  rw [← hn]
  clear hn
  go_loopg [4, 7] n (fun gg s4 s7 wx => ∃ k : Nat, k ≤ n ∧ n - k ≤ gg ∧ s7 = .int .i64 k ∧ Aside (Below X w wx ∧ Cmd wx X (zap xs (fs.take k)) ∧ Cmd wx (X + 1) zero11 ∧ X + 2 ≤ wx.heap.size ∧ OwnF (X + 2) wx (.slice q1 fs.length k1) X fs))
  case atStart => exact ⟨0, Nat.zero_le _, by omega, rfl, HW1.out⟩
  case round =>
    obtain ⟨k, hk, hg, rfl, HA⟩ := hrel
    have HA2 := hidW HA.out
    clear HA
    by_cases hlt : k < n
    · have hltz : (k : Int) < (n : Int) := by omega
      have hin1 : ¬ ((k : Int) < 0) := by omega
      have hlz : k < fs.length := by rw [← HN.out]; exact hlt
      obtain ⟨g, rfl, hgB, hgl, e0, e1⟩ := own_fld HA2.out.2.2.2.2 hlz
      have hwk : wrap64 ((k : Int) + 1) = ((k + 1 : Nat) : Int) := by have := HN.out; have := HFS.out.2; unfold wrap64; omega
      have HK := hidW (And.intro hwk (And.intro hlt hg))
      have hzt := zap_take (xs := xs) hlz
      have hf11 := HFS.out.1 (fs[k]!) (by rw [getW _ _ hlz]; exact List.getElem_mem hlz)
      obtain ⟨p, hp⟩ : ∃ p, p = fs[k]! := ⟨_, rfl⟩
      rw [← hp] at e0 e1 hzt hf11
      obtain ⟨po, ps⟩ := p
      have HP := hidW (And.intro hzt hf11)
      clear hp hzt hf11 hwk hg hk
      go_upto_region 4 with fail
      obtain ⟨Y, hY⟩ : ∃ y, y = wr.heap.size := ⟨_, rfl⟩
      obtain ⟨V4, hV4⟩ : ∃ V, V = wr.alloc (.cells #[.pointer (some ⟨X, po, none⟩), .int .i64 ps] 59) := ⟨_, rfl⟩
      have hb4 : Below wr.heap.size wr V4 := by rw [hV4]; exact (Below.refl _ _).alloc (Nat.le_refl _) _
      have hk4 : Lib.OthersKept 5 none wr V4 := by rw [hV4]; exact (Lib.OthersKept.refl _ _ _).alloc _
      have hR4 : V4.heap[Y]? = some (.cells #[.pointer (some ⟨X, po, none⟩), .int .i64 ps] 59 (0, 0)) := by rw [hV4, hY]; exact heap_alloc_new wr _
      have e4 : V4.cell? ⟨Y, 0, none⟩ = some (.pointer (some ⟨X, po, none⟩)) := by simp [World.cell?, hR4]
      have hC4 : Cmd V4 X (zap xs (fs.take k)) := HA2.out.2.1.below hb4
      have hl4 : po < (zap xs (fs.take k)).length := by rw [zap_length, HL.out]; exact HP.out.2.1
      have cX := hC4.cell hl4
      have fX := hC4.frozen po
      have HF4 : Hid (Below X w (V4.setCell ⟨X, po, none⟩ (.int .i64 0)) ∧ Cmd (V4.setCell ⟨X, po, none⟩ (.int .i64 0)) X (zap xs (fs.take (k + 1))) ∧ Cmd (V4.setCell ⟨X, po, none⟩ (.int .i64 0)) (X + 1) zero11 ∧ X + 2 ≤ (V4.setCell ⟨X, po, none⟩ (.int .i64 0)).heap.size ∧ OwnF (X + 2) (V4.setCell ⟨X, po, none⟩ (.int .i64 0)) (.slice (some ⟨g, 0, none⟩) fs.length k1) X fs) := by
        obtain ⟨h1, h2, h3, h4, h5⟩ := HA2.out
        have hs := hb4.size
        refine ⟨(h1.trans (hb4.mono (by omega))).setCell (p := ⟨X, po, none⟩) (Nat.le_refl _) _, ?_, ?_, by simp; omega, ?_⟩
        · rw [HP.out.1]; exact hC4.set po 0
        · have := h3.below hb4
          exact (heap_setCell_other V4 ⟨X, po, none⟩ (X + 1) _ (by simp)).trans this
        · have h6 : OwnF (X + 2) V4 (.slice (some ⟨g, 0, none⟩) fs.length k1) X fs := h5.stays hk4
          refine World.ownsRow.kept h6 (row := some X) (wak.gr_setCell V4 X po _) (.inr ?_)
          simp only [Value.ownBlock]
          intro he
          simp at he
          omega
      simp only [← hY, ← hV4]
      clear hY hV4 hb4 hk4 hR4 hC4 hl4 e0 e1
      go_wp2_with fail
      go_roundg (n - (k + 1))
      case measure => have := HK.out; omega
      case rel => exact ⟨k + 1, HK.out.2.1, Nat.le_refl _, by first | exact congrArg (Value.int .i64) HK.out.1 | go_num, HF4.out⟩
    · obtain rfl : k = n := by omega
      have hltz : ¬ (k : Int) < (k : Int) := by omega
      have ht : fs.take k = fs := List.take_of_length_le (by rw [← HN.out]; exact Nat.le_refl _)
      rw [ht, ← HYZ.out] at HA2
      clear hk hg ht HYZ
      go_upto_region 6 with fail
      refine wp_region_lit ?_
      refine wpList_load_mid rfl 25 (.tmp 1) rfl X 0 rfl (iL ys) _ HA2.out.2.1.range Tryd.underlying25 rfl (by rw [iL_length, HYS.out]; kernel_rfl) ?_
      simp only [Act.put, List.setIfInBounds_toArray, List.set_cons_zero, List.set_cons_succ]
      refine wpList_store_mid rfl 25 (.tmp 2) (.tmp 15) rfl (X + 1) 0 (iL ys).toArray rfl rfl (store11 HA2.out.2.2.1 HYS.out rfl) (by rw [List.size_toArray, iL_length, HYS.out]; kernel_rfl) (one11 ys) ?_
      show wpList _ _ _ _ _ (wr.setCells (X + 1) 0 (iL ys))
      have HC : Hid (Cmd (wr.setCells (X + 1) 0 (iL ys)) (X + 1) ys ∧ Below X w (wr.setCells (X + 1) 0 (iL ys))) := by
        refine ⟨HA2.out.2.2.1.stored ys (by rw [HYS.out]; rfl), ?_⟩
        exact HA2.out.1.grown (wak.gr_setCells (X + 1) _ _ _) (by have := HA2.out.2.2.2.1; omega) (fun k hk => by cases hk; omega)
      generalize wr.setCells (X + 1) 0 (iL ys) = W9 at HC ⊢
      obtain ⟨z0, z1, z2, z3, z4, z5, z6, z7, z8, z9, z10, rfl⟩ := list11' HYS.out
      obtain ⟨y0, y1, y2, y3, y4, y5, y6, y7, y8, y9, y10⟩ := HC.out.1.row
      go_wp2_with fail
      refine bodyPost_ret (v := .agg #[.int .i64 z0, .int .i64 z1, .int .i64 z2, .int .i64 z3, .int .i64 z4, .int .i64 z5, .int .i64 z6, .int .i64 z7, .int .i64 z8, .int .i64 z9, .int .i64 z10]) ?_ rfl ⟨rfl, HC.out.2⟩
      simp [results, Tryd.results20, go_sem, y0, y1, y2, y3, y4, y5, y6, y7, y8, y9, y10]
end Go.Proofs.YtndkabnmffgebaaDoor.wir
