/- Contracts over this seat's translation: slices.Insert of levels between others, where a new row is made; and at every place. -/
import Derived.Test.YtnjpjieedgmffaaSidIns2
namespace Go.Proofs.Ytnjpjieedgmffaa.sid
open Go.RowKit Go.Proofs.Ytnjpjieedgmffaa.spn Go.Proofs.Ytnjpjieedgmffaa.que

set_option maxRecDepth 100000 in
set_option maxHeartbeats 4000000 in
/-- Insert between others, where there is no room. -/
theorem insert_grow (w : World) (base g off n c i vb m vc : Nat) (xs vs : List Value) (ho : OwnM w base 31 2 (.slice (some ⟨g, off, none⟩) n c) n xs) (hi : i < n) (hm : 0 < m) (hml : m ≤ 1000) (hnl : n ≤ 10000) (hroom : c < n + m) (hbase : base ≤ w.heap.size)
    (hvl : vs.length = m * 2) (hvs : w.rangeAt vb 0 vs) (hvw : vb < w.heap.size) (h1x : ∀ u ∈ xs, u.oneCell' = true) (h1 : ∀ u ∈ vs, u.oneCell' = true) :
    Calls Try.prog 82 #[.slice (some ⟨g, off, none⟩) n c, .int .i64 i, .slice (some ⟨vb, 0, none⟩) m vc] w fun e w' => InsPost w base (.slice (some ⟨g, off, none⟩) n c) (n + m) (xs.take (i * 2) ++ vs ++ xs.drop (i * 2)) e w' := by
  obtain ⟨hxl, hbg, ⟨cur, hcur, hcs⟩, hnc, hcm, hrg, hth⟩ := own_range ho
  have hgw : g < w.heap.size := (Array.getElem?_eq_some_iff.1 hcur).1
  have hdl : (xs.drop (i * 2)).length = (n - i) * 2 := by rw [List.length_drop, hxl]; omega
  have htl : (xs.take (i * 2)).length = i * 2 := by rw [List.length_take, hxl]; omega
  have hx : xs = xs.take (i * 2) ++ xs.drop (i * 2) := (List.take_append_drop _ _).symm
  have hr1 : w.rangeAt g off (xs.take (i * 2)) := by rw [hx] at hrg; exact range_left hrg
  have hr2 : w.rangeAt g (off + i * 2) (xs.drop (i * 2)) := by rw [hx] at hrg; have := range_right hrg; rwa [htl] at this
  obtain ⟨i0, hi0, hz0, hzs, hzb⟩ := rlv.infoR'
  have hkk : (n : Int) + (m : Int) - (i : Int) = ((n + m - i : Nat) : Int) := by omega
  have hik : i + (n + m - i) = n + m := by omega
  have hold : (Builtin.firstCells i0.size i (.slice (some ⟨g, off, none⟩) i c)).run Try.prog w.drew = .ok (xs.take (i * 2)).toArray w.drew := by
    rw [hzs]
    exact run_firstCells_some w.drew 2 i ⟨g, off, none⟩ i c (xs.take (i * 2)) htl (fun j v hj => by rw [Addr.add_lit]; exact hr1 j v hj)
  have hrz : ∀ ty, (Builtin.append_ #[22, 3] ty #[.slice (some ⟨g, off, none⟩) i c, .int .i64 ((n : Int) + (m : Int) - (i : Int))]).run Try.prog w =
      .ok (.slice (some ⟨w.heap.size, 0, none⟩) (n + m) (grownCap w (n + m) c 31)) (w.drew.alloc (.cells ((xs.take (i * 2)).toArray ++ Builtin.zeroCells rlv.zeroR.cells (n + m - i) ++ Builtin.zeroCells rlv.zeroR.cells (grownCap w (n + m) c 31 - (n + m))) 31)) := fun ty => by
    have h := Lib.run_append_grow_zeros w 22 3 ty 31 i0 _ .i64 .i64 Try.underlying22 Try.underlying3 hi0 hz0 (some ⟨g, off, none⟩) i c (xs.take (i * 2)) hold (n + m - i) (by omega) (by omega) (by omega) (by omega) (by rw [hzb]; omega) (by rw [hzb, hik]; exact growslice_fits hroom (by omega))
    rw [hik] at h
    rw [hkk]
    exact h
  obtain ⟨G, hG⟩ : ∃ G, G = grownCap w (n + m) c 31 := ⟨_, rfl⟩
  obtain ⟨ROW, hROW⟩ : ∃ ROW : Array Value, ROW = (xs.take (i * 2)).toArray ++ Builtin.zeroCells rlv.zeroR.cells (n + m - i) ++ Builtin.zeroCells rlv.zeroR.cells (G - (n + m)) := ⟨_, rfl⟩
  rw [← hG] at hrz
  rw [← hROW] at hrz
  have hGn : n + m ≤ G := by rw [hG]; exact grownCap_ge w _ _ _
  have hGm : G ≤ maxLen := by rw [hG]; exact grownCap_le_maxLen w (n + m) c 31 (by unfold maxLen; omega)
  have hG63 : G ≤ 9223372036854775807 := by simpa [maxLen] using hGm
  have hRl : ROW.size = G * 2 := by
    rw [hROW, Array.size_append, Array.size_append, size_zeroCells, size_zeroCells]
    rw [List.size_toArray, htl]
    show i * 2 + (n + m - i) * 2 + (G - (n + m)) * 2 = _
    omega
  obtain ⟨W1, hW1⟩ : ∃ W1, W1 = w.drew.alloc (.cells ROW 31) := ⟨_, rfl⟩
  rw [← hW1] at hrz
  have hblk1 : W1.heap[w.heap.size]? = some (.cells ROW 31 (0, 0)) := by rw [hW1]; exact heap_alloc_new w.drew _
  have hth1 : ∀ o k, o + k ≤ G * 2 → W1.there w.heap.size o k := fun o k hk j hj => ⟨by rw [cell_of_row W1 w.heap.size (o + j) ROW _ (0, 0) hblk1, Array.getElem?_eq_getElem (by omega)]; rfl, by simp [World.frozen?, hblk1]⟩
  have hra : W1.rangeAt w.heap.size 0 (xs.take (i * 2)) := fun j v hv => by
    rw [cell_of_row W1 w.heap.size (0 + j) ROW _ (0, 0) hblk1, Nat.zero_add, hROW, Array.append_assoc, Array.getElem?_append_left (by simpa using (List.getElem?_eq_some_iff.1 hv).1)]
    simpa using hv
  have hbel : Below w.heap.size w W1 := by rw [hW1]; exact (Below.refl _ _).drew.alloc (Nat.le_refl _) _
  have hvs1 : W1.rangeAt vb 0 vs := fun j v hv => (hbel.cell (p := ⟨vb, 0 + j, none⟩) hvw).trans (hvs j v hv)
  have hr21 : W1.rangeAt g (off + i * 2) (xs.drop (i * 2)) := fun j v hv => (hbel.cell (p := ⟨g, off + i * 2 + j, none⟩) hgw).trans (hr2 j v hv)
  have hcpA : ∀ (W : World), (∀ x, W.cell? x = W1.cell? x) → (∀ x, W.frozen? x = W1.frozen? x) → ∀ ty dc, (Builtin.copy_ #[22, 22] ty #[.slice (some ⟨w.heap.size, i * 2, none⟩) (n + m - i) dc, .slice (some ⟨vb, 0, none⟩) m vc]).run Try.prog W = .ok (goInt m) (W.setCells w.heap.size (i * 2) vs) := fun W hWc hWf ty dc => by
    have := run_copy_wide (P := Try.prog) W 22 22 ty 31 2 w.heap.size (i * 2) (n + m - i) dc ⟨vb, 0, none⟩ m vc vs Try.underlying22 sizeL (by rw [hvl]; congr 1; simp only [Nat.min_def]; split <;> omega)
      (fun j v hj => by rw [Addr.add_lit, hWc]; exact hvs1 j v hj) (fun j hj => by rw [hWc, hWf]; exact hth1 (i * 2) (m * 2) (by omega) j (by omega)) h1
    rw [show Nat.min m (n + m - i) = m by simp only [Nat.min_def]; split <;> omega] at this
    exact this
  have hgN : g ≠ w.heap.size := by omega
  have hcpB : ∀ (W : World), (∀ x, W.cell? x = (W1.setCells w.heap.size (i * 2) vs).cell? x) → (∀ x, W.frozen? x = (W1.setCells w.heap.size (i * 2) vs).frozen? x) → ∀ ty dc sc, (Builtin.copy_ #[22, 22] ty #[.slice (some ⟨w.heap.size, (i + m) * 2, none⟩) (n + m - (i + m)) dc, .slice (some ⟨g, off + i * 2, none⟩) (n - i) sc]).run Try.prog W = .ok (goInt ((n - i : Nat) : Int)) (W.setCells w.heap.size ((i + m) * 2) (xs.drop (i * 2))) := fun W hWc hWf ty dc sc => by
    have := run_copy_wide (P := Try.prog) W 22 22 ty 31 2 w.heap.size ((i + m) * 2) (n + m - (i + m)) dc ⟨g, off + i * 2, none⟩ (n - i) sc (xs.drop (i * 2)) Try.underlying22 sizeL (by rw [hdl]; congr 1; simp only [Nat.min_def]; split <;> omega)
      (fun j v hj => by
        rw [Addr.add_lit, hWc]
        exact World.rangeAt_setCells_apart hr21 _ _ _ (.inl hgN) j v hj)
      (fun j hj => by rw [hWc, hWf]; exact World.there_setCells (hth1 ((i + m) * 2) ((n - i) * 2) (by omega)) _ _ _ j (by omega)) (fun v hv => h1x v (List.mem_of_mem_drop hv))
    rw [show Nat.min (n - i) (n + m - (i + m)) = n - i by simp only [Nat.min_def]; split <;> omega] at this
    exact this
  have HPOST : Hid (∀ W, W.heap = ((W1.setCells w.heap.size (i * 2) vs).setCells w.heap.size ((i + m) * 2) (xs.drop (i * 2))).heap → W.os = w.os → W.tape = w.tape → W.output = w.output → InsPost w base (.slice (some ⟨g, off, none⟩) n c) (n + m) (xs.take (i * 2) ++ vs ++ xs.drop (i * 2)) (.returned (.slice (some ⟨w.heap.size, 0, none⟩) (n + m) G)) W) := by
    intro W hh ho1 ho2 ho3
    obtain ⟨cur1, hb1, hs1⟩ := setCells_blk w.heap.size 31 (0, 0) vs (i * 2) W1 ROW hblk1
    obtain ⟨cur2, hb2, hs2⟩ := setCells_blk w.heap.size 31 (0, 0) (xs.drop (i * 2)) ((i + m) * 2) _ cur1 hb1
    have hgr : W1.grownBy ((W1.setCells w.heap.size (i * 2) vs).setCells w.heap.size ((i + m) * 2) (xs.drop (i * 2))) (some w.heap.size) := gr_trans (gr_setCells _ _ _ _) (gr_setCells _ _ _ _)
    refine ⟨_, rfl, own_of (cur := cur2) ?_ hbase (by rw [hh]; exact hb2) (by rw [hs2, hs1, hRl]; omega) hGn hGm ?_, ?_, .inr ⟨_, rfl, Nat.le_refl _⟩⟩
    · rw [List.length_append, List.length_append, htl, hvl, hdl]; omega
    · have hcell : ∀ x, W.cell? x = ((W1.setCells w.heap.size (i * 2) vs).setCells w.heap.size ((i + m) * 2) (xs.drop (i * 2))).cell? x := fun x => by simp only [World.cell?, hh]
      have hR : ((W1.setCells w.heap.size (i * 2) vs).setCells w.heap.size ((i + m) * 2) (xs.drop (i * 2))).rangeAt w.heap.size 0 (xs.take (i * 2) ++ vs ++ xs.drop (i * 2)) := by
        refine range_append (range_append ?_ ?_) ?_
        · refine World.rangeAt_setCells_apart ?_ _ _ _ (.inr (.inl (by rw [htl]; omega)))
          exact World.rangeAt_setCells_apart hra _ _ _ (.inr (.inl (by rw [htl]; omega)))
        · rw [htl, Nat.zero_add]
          refine World.rangeAt_setCells_apart ?_ _ _ _ (.inr (.inl (by rw [hvl]; omega)))
          exact World.rangeAt_setCells_same _ _ _ _ (by rw [hvl]; exact hth1 _ _ (by omega))
        · rw [List.length_append, htl, hvl, Nat.zero_add, show i * 2 + m * 2 = (i + m) * 2 by omega]
          exact World.rangeAt_setCells_same _ _ _ _ (World.there_setCells (by rw [hdl]; exact hth1 _ _ (by omega)) _ _ _)
      exact fun j v hv => (hcell _).trans (hR j v hv)
    · refine ⟨ho1, ho2, ho3, ?_, fun k hk _ => ?_⟩
      · rw [hh]; exact Nat.le_trans hbel.size hgr.size
      · rw [hh, hgr.block k (Nat.lt_of_lt_of_le hk hbel.size) (fun e => by simp at e; omega)]
        exact hbel.block k hk
  generalize InsPost w base (.slice (some ⟨g, off, none⟩) n c) (n + m) (xs.take (i * 2) ++ vs ++ xs.drop (i * 2)) = POST at *
  have hz1 : ¬ ((m : Int) = 0) := by omega
  have hz4 : ¬ (m = 0) := by omega
  have hz2 : ¬ ((i : Int) = (n : Int)) := by omega
  have hz3 : (c : Int) < (n : Int) + (m : Int) := by omega
  have hGi : ¬ (G = i) := by omega
  have hGim : ¬ (G = i + m) := by omega
  have hci : ¬ (c = i) := by omega
  subst hW1
  have hE1 : ∀ x, ((w.alloc (.cells ROW 31)).drew).cell? x = (w.drew.alloc (.cells ROW 31)).cell? x := fun x => rfl
  have hE2 : ∀ x, ((w.alloc (.cells ROW 31)).drew).frozen? x = (w.drew.alloc (.cells ROW 31)).frozen? x := fun x => rfl
  have hF1 : ∀ x, (((w.alloc (.cells ROW 31)).drew.setCells w.heap.size (i * 2) vs).drew).cell? x = ((w.drew.alloc (.cells ROW 31)).setCells w.heap.size (i * 2) vs).cell? x := fun x => rfl
  have hF2 : ∀ x, (((w.alloc (.cells ROW 31)).drew.setCells w.heap.size (i * 2) vs).drew).frozen? x = ((w.drew.alloc (.cells ROW 31)).setCells w.heap.size (i * 2) vs).frozen? x := fun x => rfl
  have hw1 : IntKind.i64.wrap ((i : Int) + (m : Int)) = (i : Int) + (m : Int) := by rw [IntKind.wrap_i64]; omega
  have hb1 : (0 : Int) ≤ (i : Int) + (m : Int) := by omega
  have hin : i ≤ n := by omega
  have htn : ((i : Int) + (m : Int)).toNat = i + m := by omega
  have hb3 : (i : Int) ≤ (n : Int) := by omega
  have mixed : Try.prog.follows Departure.mixedOrders = true := by kernel_rfl
  clear hkk hik hold hROW hG hRl ho hxl hcur hcs hrg hth hdl htl hx hr1 hr2 hvl hvs h1 h1x hcm hbg hblk1 hth1 hra hbel hvs1 hr21 hi0 hz0 hzs hzb hGm
  go_enter Try.func82, Try.ntmps82
  go_wp2_with (first
    | (at_builtin; refine Lib.wpList_append_run _ rfl _ _ _ _ rfl _ _ rfl rfl _ _ (hrz _) ?_)
    | (at_builtin; refine wpList_copy_runI _ rfl _ _ 22 22 rfl _ _ rfl rfl (hcpA _ hE1 hE2 _ _) ?_)
    | (at_builtin; refine wpList_copy_runI _ rfl _ _ 22 22 rfl _ _ rfl rfl (hcpB _ (fun _ => rfl) (fun _ => rfl) _ _ _) ?_))
  go_region_law_o (refine step_copy_runI rfl _ _ 22 22 rfl (.slice (some ⟨w.heap.size, (i + m) * 2, none⟩) (n + m - (i + m)) (G - (i + m))) (.slice (some ⟨g, off + i * 2, none⟩) (n - i) (c - i)) (by simp [Act.eval, Act.put]) (by simp [Act.eval, Act.put]) (hcpB _ hF1 hF2 3 (G - (i + m)) (c - i)) ?_)
  go_wp2
  have hgz : ∀ (X : World) (a b : Nat) (us ys : List Value), X.grownBy (((X.drew.setCells w.heap.size a us).drew).setCells w.heap.size b ys) (some w.heap.size) := fun X a b us ys => gr_trans (gr_trans (gr_trans (gr_drew _ _) (gr_setCells _ _ _ _)) (gr_drew _ _)) (gr_setCells _ _ _ _)
  have hga := hgz (w.alloc (.cells ROW 31)) (i * 2) ((i + m) * 2) vs (xs.drop (i * 2))
  exact HPOST.out _ (by rw [show w.drew.alloc (.cells ROW 31) = (w.alloc (.cells ROW 31)).drew from rfl, ← drew_setCells, ← drew_setCells, ← drew_setCells]; rfl) hga.os hga.tape hga.output

theorem flat_take (zs : List rlv.RL) (i : Nat) : rlv.flat (zs.take i) = (rlv.flat zs).take (i * 2) := by
  induction zs generalizing i with
  | nil => simp [rlv.flat]
  | cons r t ih =>
    cases i with
    | zero => simp [rlv.flat]
    | succ i => rw [List.take_succ_cons, rlv.flat_cons, rlv.flat_cons, ih, show (i + 1) * 2 = (rlv.rV r).length + i * 2 by show _ = 2 + i * 2; omega, List.take_length_add_append]
theorem flat_drop (zs : List rlv.RL) (i : Nat) : rlv.flat (zs.drop i) = (rlv.flat zs).drop (i * 2) := by
  induction zs generalizing i with
  | nil => simp [rlv.flat]
  | cons r t ih =>
    cases i with
    | zero => simp
    | succ i => rw [List.drop_succ_cons, rlv.flat_cons, ih, show (i + 1) * 2 = (rlv.rV r).length + i * 2 by show _ = 2 + i * 2; omega, List.drop_length_add_append]
/-- Insert of one level, at every place. -/
theorem insert_any (w : World) (base : Nat) (v : Value) (zs : List rlv.RL) (i : Nat) (p : Int) (vb vc : Nat) (ho : rlv.OwnQ w base v zs) (hbase : base ≤ w.heap.size) (hi : i ≤ zs.length) (hn : zs.length ≤ 10000)
    (hvc : w.heap[vb]? = some (.cells #[.int .i64 p, .slice none 0 0] 31 (0, 0))) (hne : v.ownBlock ≠ some vb) :
    Calls Try.prog 82 #[v, .int .i64 i, .slice (some ⟨vb, 0, none⟩) 1 vc] w fun e w' =>
      ∃ v', e = .returned v' ∧ rlv.OwnQ w' base v' (zs.take i ++ ⟨p, none, 0, 0⟩ :: zs.drop i) ∧ w.grownBy w' v.ownBlock ∧ (v'.ownBlock = v.ownBlock ∨ ∃ k, v'.ownBlock = some k ∧ w.heap.size ≤ k) := by
  have hvs : w.rangeAt vb 0 [.int .i64 p, .slice none 0 0] := fun j u hu => by
    rw [cell_of_row w vb (0 + j) _ _ (0, 0) hvc, Nat.zero_add]; simpa using hu
  have h1 : ∀ u ∈ [Value.int .i64 p, .slice none 0 0], u.oneCell' = true := by
    intro u hu; simp at hu; rcases hu with rfl | rfl <;> rfl
  have hfl : rlv.flat (zs.take i ++ ⟨p, none, 0, 0⟩ :: zs.drop i) = (rlv.flat zs).take (i * 2) ++ [.int .i64 p, .slice none 0 0] ++ (rlv.flat zs).drop (i * 2) := by
    rw [rlv.flat_append, rlv.flat_cons, flat_take, flat_drop, List.append_assoc]; rfl
  have hln : (zs.take i ++ (⟨p, none, 0, 0⟩ : rlv.RL) :: zs.drop i).length = zs.length + 1 := by simp; omega
  unfold rlv.OwnQ
  rw [hfl, hln]
  by_cases he : i = zs.length
  · subst he
    have := insert_end w base v zs.length (rlv.flat zs) vb 1 vc [.int .i64 p, .slice none 0 0] ho hbase (by omega) (by omega) hn rfl hvs h1
    rw [List.take_of_length_le (by rw [rlv.flat_len]; exact Nat.le_refl _), List.drop_eq_nil_of_le (by rw [rlv.flat_len]; exact Nat.le_refl _), List.append_nil]
    exact this
  · have hlt : i < zs.length := by omega
    obtain ⟨q, c, hv⟩ := OwnM.form ho
    subst hv
    rcases ho.2 with ⟨e, hz⟩ | ⟨g, off, cap, cur, e, hbg, hg, hcap, hcm, hcs, -⟩
    · omega
    · cases e
      have hvg : vb ≠ g := fun e => hne (by rw [e]; rfl)
      by_cases hr : zs.length + 1 ≤ c
      · exact insert_shift w base g off zs.length c i vb 1 vc (rlv.flat zs) [.int .i64 p, .slice none 0 0] _ _ ho hlt (by omega) (by omega) hr hvg rfl hvs hvc (rlv.flat_one zs) h1
      · exact insert_grow w base g off zs.length c i vb 1 vc (rlv.flat zs) [.int .i64 p, .slice none 0 0] ho hlt (by omega) (by omega) hn (by omega) hbase rfl hvs (Array.getElem?_eq_some_iff.1 hvc).1 (rlv.flat_one zs) h1
end Go.Proofs.Ytnjpjieedgmffaa.sid
