/- Contracts over this seat's translation: slices.Insert of levels, in a side of the call's own. Contracts over this seat's translation: slices.Insert of levels between others, in a side of the call's own. Contracts over this seat's translation: slices.Insert of levels between others, where a new row is made; and at every place. -/
import Derived.Test.YtifgikhdlilobaaDoorSidFresh
import Derived.Shelf.Spec.SlicesInsertGrow
import Derived.Deep.MidRow
namespace Go.Proofs.YtifgikhdlilobaaDoor.sid
open Go.RowKit Go.Proofs.YtifgikhdlilobaaDoor.spn Go.Proofs.YtifgikhdlilobaaDoor.que

/-- copy, at elements of more cells than one. -/
theorem run_copy_wide {P : Program} (w : World) (dT sT ty elem : TypeId) (size : Nat) (b o dLen dCap : Nat) (a : Addr) (sLen sCap : Nat) (cs : List Value)
    (hu : P.underlying dT = some (.slice elem)) (hs : (P.info? elem).map (·.size) = some size) (hn : cs.length = Nat.min sLen dLen * size)
    (hsrc : ∀ j v, cs[j]? = some v → w.cell? (a.add j) = some v) (ht : w.there b o cs.length) (h1 : ∀ v ∈ cs, v.oneCell' = true) :
    (Builtin.copy_ #[dT, sT] ty #[.slice (some ⟨b, o, none⟩) dLen dCap, .slice (some a) sLen sCap]).run P w = .ok (goInt (Nat.min sLen dLen)) (w.setCells b o cs) := by
  have hl := run_firstCells_some (P := P) w size (Nat.min sLen dLen) a sLen sCap cs hn hsrc
  have hst := run_storeCells_cells (P := P) b o cs 0 w (by simpa using fun j hj => (ht j hj).1) (by simpa using fun j hj => (ht j hj).2) h1
  cases hq : P.info? elem with
  | none => simp [hq] at hs
  | some i =>
    have hi : i.size = size := by simpa [hq] using hs
    simp [Builtin.copy_, run_underlying hu, Builtin.lenOf, sizeOf, typeInfo, hq, hi]
    rw [show Nat.min sLen dLen = min sLen dLen from rfl] at hl
    simp [hl, hst]
theorem setCells_blk (g : Nat) (e : TypeId) (fr : Nat × Nat) : ∀ (vs : List Value) (o : Nat) (w : World) (cur : Array Value), w.heap[g]? = some (.cells cur e fr) → ∃ cur', (w.setCells g o vs).heap[g]? = some (.cells cur' e fr) ∧ cur'.size = cur.size
  | [], _, w, cur, h => ⟨cur, h, rfl⟩
  | v :: r, o, w, cur, h => by
    have hlt : g < w.heap.size := (Array.getElem?_eq_some_iff.1 h).1
    have h1 : (w.setCell ⟨g, o, none⟩ v).heap[g]? = some (.cells (cur.setIfInBounds o v) e fr) := by
      rw [setCell_eq_setRow w g o cur e fr v h]; exact setRow_heap w g cur _ e fr h
    obtain ⟨c, h2, h3⟩ := setCells_blk g e fr r (o + 1) _ _ h1
    exact ⟨c, h2, by rw [h3]; simp⟩
theorem gr_setCells (g : Nat) : ∀ (vs : List Value) (o : Nat) (w : World), w.grownBy (w.setCells g o vs) (some g)
  | [], _, _ => ⟨rfl, rfl, rfl, Nat.le_refl _, fun _ _ _ => rfl⟩
  | v :: r, o, w => gr_trans (gr_setCell w g o v) (gr_setCells g r (o + 1) _)
theorem gr_drew (w : World) (row : Option Nat) : w.grownBy w.drew row := ⟨rfl, rfl, rfl, Nat.le_refl _, fun _ _ _ => rfl⟩
theorem gr_alloc (w : World) (o : Obj) (row : Option Nat) : w.grownBy (w.alloc o) row := gr_below ((Below.refl _ _).alloc (Nat.le_refl _) _) row

/-- What a slice of the call's own says of the cells. -/
theorem own_of {w : World} {base : Nat} {e : TypeId} {sz : Nat} {g off n cap : Nat} {xs : List Value} (hl : xs.length = n * sz) (hb : base ≤ g) {cur : Array Value} (hg : w.heap[g]? = some (.cells cur e (0, 0)))
    (hs : off + cap * sz ≤ cur.size) (hn : n ≤ cap) (hm : cap ≤ maxLen) (hr : w.rangeAt g off xs) : OwnM w base e sz (.slice (some ⟨g, off, none⟩) n cap) n xs := by
  refine ⟨hl, .inr ⟨g, off, cap, cur, rfl, hb, hg, hn, hm, hs, ?_⟩⟩
  apply List.ext_getElem?
  intro j
  rw [List.getElem?_take]
  have hle : n * sz ≤ cap * sz := Nat.mul_le_mul_right _ hn
  by_cases hj : j < n * sz
  · rw [if_pos hj, List.getElem?_drop]
    have hx : xs[j]? = some xs[j] := List.getElem?_eq_getElem (by omega)
    rw [hx, Array.getElem?_toList, ← cell_of_row w g (off + j) cur e (0, 0) hg]
    exact hr j _ hx
  · rw [if_neg hj, List.getElem?_eq_none (by omega)]
theorem own_range {w : World} {base : Nat} {e : TypeId} {sz : Nat} {g off n cap : Nat} {xs : List Value} (h : OwnM w base e sz (.slice (some ⟨g, off, none⟩) n cap) n xs) :
    xs.length = n * sz ∧ base ≤ g ∧ (∃ cur, w.heap[g]? = some (.cells cur e (0, 0)) ∧ off + cap * sz ≤ cur.size) ∧ n ≤ cap ∧ cap ≤ maxLen ∧ w.rangeAt g off xs ∧ w.there g off (cap * sz) := by
  obtain ⟨hc, hf, hb, -⟩ := OwnM.cells h
  rcases h.2 with ⟨h1, _⟩ | ⟨g', off', cap', cur, h1, h2, h3, h4, h5, h6, h7⟩
  · cases h1
  · cases h1
    refine ⟨h.1, hb, ⟨cur, h3, h6⟩, h4, h5, hc, fun j hj => ⟨?_, hf _⟩⟩
    rw [cell_of_row w g (off + j) cur e (0, 0) h3, Array.getElem?_eq_getElem (by omega)]; rfl
theorem range_append {w : World} {b o : Nat} {xs ys : List Value} (h1 : w.rangeAt b o xs) (h2 : w.rangeAt b (o + xs.length) ys) : w.rangeAt b o (xs ++ ys) := by
  intro j v hv
  by_cases hj : j < xs.length
  · rw [List.getElem?_append_left hj] at hv; exact h1 j v hv
  · rw [List.getElem?_append_right (by omega)] at hv
    have := h2 (j - xs.length) v hv
    rwa [show o + xs.length + (j - xs.length) = o + j by omega] at this
theorem range_left {w : World} {b o : Nat} {xs ys : List Value} (h : w.rangeAt b o (xs ++ ys)) : w.rangeAt b o xs := fun j v hv => h j v (by rw [List.getElem?_append_left (List.getElem?_eq_some_iff.1 hv).1]; exact hv)
theorem range_right {w : World} {b o : Nat} {xs ys : List Value} (h : w.rangeAt b o (xs ++ ys)) : w.rangeAt b (o + xs.length) ys := fun j v hv => by
  have := h (xs.length + j) v (by rw [List.getElem?_append_right (by omega)]; simpa using hv)
  rwa [← Nat.add_assoc] at this

theorem own_cap (q : Option Addr) (n c d : Nat) : (Value.slice q n c).ownBlock = (Value.slice q n d).ownBlock := by cases q <;> rfl
/-- What Insert answers: the levels with others between, in the same block or in a new one. -/
def InsPost (w : World) (base : Nat) (v : Value) (n : Nat) (xs : List Value) (e : Ending) (w' : World) : Prop :=
  ∃ v', e = .returned v' ∧ OwnM w' base 32 2 v' n xs ∧ w.grownBy w' v.ownBlock ∧ (v'.ownBlock = v.ownBlock ∨ ∃ k, v'.ownBlock = some k ∧ w.heap.size ≤ k)

set_option maxRecDepth 100000 in
set_option maxHeartbeats 1000000 in
/-- Insert at the end. -/
theorem insert_end (w : World) (base : Nat) (v : Value) (n : Nat) (xs : List Value) (vb m vc : Nat) (vs : List Value) (ho : OwnM w base 32 2 v n xs) (hbase : base ≤ w.heap.size) (hm : 0 < m) (hml : m ≤ 1000) (hnl : n ≤ 10000)
    (hvl : vs.length = m * 2) (hvs : w.rangeAt vb 0 vs) (h1 : ∀ u ∈ vs, u.oneCell' = true) :
    Calls Tryd.prog 51 #[v, .int .i64 n, .slice (some ⟨vb, 0, none⟩) m vc] w fun e w' => InsPost w base v (n + m) (xs ++ vs) e w' := by
  obtain ⟨i0, hi, hz0, hz1, hz2⟩ := rlv.infoR'
  have HI : Hid (Tryd.prog.info? 32 = some i0) := hi
  have HO : Hid (OwnM w base 32 2 v n xs) := ho
  obtain ⟨q, c, hv⟩ := OwnM.form ho
  have HC : Hid (n ≤ c ∧ c ≤ 9223372036854775807) := by
    rcases ho.2 with ⟨e, hn0⟩ | ⟨g, off, cap, cur, e, -, -, hcap, hcm, -, -⟩
    · rw [e] at hv; cases hv; exact ⟨by omega, by omega⟩
    · rw [e] at hv; cases hv; exact ⟨hcap, by simpa [maxLen] using hcm⟩
  have HVS : Hid (∀ j u, vs[j]? = some u → w.cell? ((⟨vb, 0, none⟩ : Addr).add j) = some u) := fun j u hu => by rw [Addr.add_lit]; exact hvs j u hu
  have HPOST : Hid (∀ v' w', OwnM w' base 32 2 v' (n + m) (xs ++ vs) → w.grownBy w' v.ownBlock → (v'.ownBlock = v.ownBlock ∨ v'.ownBlock = some w.heap.size) → InsPost w base v (n + m) (xs ++ vs) (.returned v') w') := fun v' w' h1 h2 h3 => ⟨v', rfl, h1, h2, h3.imp id (fun e => ⟨_, e, Nat.le_refl _⟩)⟩
  generalize InsPost w base v (n + m) (xs ++ vs) = POST at *
  clear hi ho hvs
  obtain ⟨hc1, hc2⟩ := HC.out
  have hz3 : ¬ ((m : Int) = 0) := by omega
  have hz4 : ¬ (m = 0) := by omega
  have hn0 : ¬ ((n : Int) < 0) := by omega
  subst hv
  go_enter Tryd.func51, Tryd.ntmps51
  go_wp2_with (at_builtin; (refine wpList_append_mid _ rfl _ _ 22 rfl base 32 i0 rlv.zeroR 2 32 Tryd.underlying22 HI.out hz0 hz1 hz2 rfl (.slice q n c) n xs rfl HO.out ⟨vb, 0, none⟩ m vc vs rfl hvl HVS.out h1 (by unfold maxLen; omega) (by omega) hbase ?_))
  all_goals
    intro v' w' hO' hgr hat
    have HX := HPOST.out v' w' hO' (by rw [own_cap q n c 0]; rw [own_cap q n _ 0] at hgr; exact hgr) (by rw [own_cap q n c 0]; rw [own_cap q n _ 0] at hat; exact hat)
    clear hO' hgr hat HPOST
    go_wp2_with fail
    exact HX
end Go.Proofs.YtifgikhdlilobaaDoor.sid
namespace Go.Proofs.YtifgikhdlilobaaDoor.sid
open Go.RowKit Go.Proofs.YtifgikhdlilobaaDoor.spn Go.Proofs.YtifgikhdlilobaaDoor.que

/-- clear, at elements of more cells than one. -/
theorem run_clear_wide {P : Program} (w : World) (t e ty : TypeId) (z : Value) (size : Nat) (ht : P.underlying t = some (.slice e)) (hv : ∀ w, (zeroValue e).run P w = .ok z w) (hz : z.cells.size = size) (h1 : z.cells.all (·.oneCell') = true) (b o n c : Nat) (hn : 0 < n) (hth : w.there b o (n * size)) :
    (Builtin.clear_ #[t] ty #[.slice (some ⟨b, o, none⟩) n c]).run P w = .ok (.tuple #[]) (w.setCells b o (Builtin.zeroCells z.cells n).toList) := by
  have hl : (Builtin.zeroCells z.cells n).toList.length = n * size := by rw [Array.length_toList, size_zeroCells, hz]
  have h1c : ∀ v ∈ (Builtin.zeroCells z.cells n).toList, v.oneCell' = true := by
    intro v hv'
    rw [Array.mem_toList_iff] at hv'
    simp only [Builtin.zeroCells] at hv'
    rw [Array.all_eq_true] at h1
    rw [Array.mem_map] at hv'
    obtain ⟨k, hk, rfl⟩ := hv'
    rw [Array.mem_range] at hk
    have hpos : 0 < z.cells.size := Nat.pos_of_ne_zero fun e => by rw [e] at hk; simp at hk
    have hp : k % z.cells.size < z.cells.size := Nat.mod_lt _ hpos
    rw [getElem!_pos z.cells _ hp]
    exact h1 _ hp
  have hst := run_storeCells_cells (P := P) b o (Builtin.zeroCells z.cells n).toList 0 w (by rw [hl]; simpa using fun j hj => (hth j hj).1) (by rw [hl]; simpa using fun j hj => (hth j hj).2) h1c
  simp only [Nat.add_zero] at hst
  obtain ⟨m, rfl⟩ : ∃ m, n = m + 1 := ⟨n - 1, by omega⟩
  simp [Builtin.clear_, run_underlying ht, hv, hst]
theorem sizeL : (Tryd.prog.info? 32).map (·.size) = some 2 := by kernel_rfl
theorem sizeOfL (w : World) : (Go.sizeOf 32).run Tryd.prog w = .ok 2 w := by kernel_rfl

set_option maxRecDepth 100000 in
set_option maxHeartbeats 4000000 in
/-- Insert between others, where there is room. -/
theorem insert_shift (w : World) (base g off n c i vb m vc : Nat) (xs vs : List Value) (vcur : Array Value) (tA : TypeId) (ho : OwnM w base 32 2 (.slice (some ⟨g, off, none⟩) n c) n xs) (hi : i < n) (hm : 0 < m) (hml : m ≤ 1000) (hroom : n + m ≤ c)
    (hvb : vb ≠ g) (hvl : vs.length = m * 2) (hvs : w.rangeAt vb 0 vs) (hvc : w.heap[vb]? = some (.cells vcur tA (0, 0))) (h1x : ∀ u ∈ xs, u.oneCell' = true) (h1 : ∀ u ∈ vs, u.oneCell' = true) :
    Calls Tryd.prog 51 #[.slice (some ⟨g, off, none⟩) n c, .int .i64 i, .slice (some ⟨vb, 0, none⟩) m vc] w fun e w' => InsPost w base (.slice (some ⟨g, off, none⟩) n c) (n + m) (xs.take (i * 2) ++ vs ++ xs.drop (i * 2)) e w' := by
  obtain ⟨hxl, hbg, ⟨cur, hcur, hcs⟩, hnc, hcm, hrg, hth⟩ := own_range ho
  have hc63 : c ≤ 9223372036854775807 := by simpa [maxLen] using hcm
  have hcs2 : 0 < cur.size := by omega
  have hov : ∀ lb cb, (callFunc 62 #[.slice (some ⟨vb, 0, none⟩) m vc, .slice (some ⟨g, off + (i + m) * 2, none⟩) lb cb]).run Tryd.prog w = .ok (.value (.bool false)) w := fun lb cb => by
    rw [run_callFunc_extern Tryd.func62 (by kernel_rfl) (by kernel_rfl) (by kernel_rfl) (e := Extern.SlicesOverlaps.overlaps #[22, 22] #[4]) (by kernel_rfl),
      Lib.run_overlaps_apart w 22 4 32 Tryd.underlying22 2 sizeOfL ⟨vb, 0, none⟩ ⟨g, off + (i + m) * 2, none⟩ m vc lb cb hvb tA 32 vcur.size cur.size (by simp [World.shape?, hvc]) (by simp [World.shape?, hcur]) (by omega) (by simp [World.frozen?, hvc]) (by simp [World.frozen?, hvc])]
    rfl
  have hdl : (xs.drop (i * 2)).length = (n - i) * 2 := by rw [List.length_drop, hxl]; omega
  have htl : (xs.take (i * 2)).length = i * 2 := by rw [List.length_take, hxl]; omega
  have hx : xs = xs.take (i * 2) ++ xs.drop (i * 2) := (List.take_append_drop _ _).symm
  have hr1 : w.rangeAt g off (xs.take (i * 2)) := by rw [hx] at hrg; exact range_left hrg
  have hr2 : w.rangeAt g (off + i * 2) (xs.drop (i * 2)) := by rw [hx] at hrg; have := range_right hrg; rwa [htl] at this
  have hthX : ∀ o k, o + k ≤ c * 2 → w.there g (off + o) k := fun o k hk j hj => by rw [Nat.add_assoc]; exact hth (o + j) (by omega)
  have hcp1 : ∀ ty dc sc, (Builtin.copy_ #[22, 22] ty #[.slice (some ⟨g, off + (i + m) * 2, none⟩) (n + m - (i + m)) dc, .slice (some ⟨g, off + i * 2, none⟩) (n + m - i) sc]).run Tryd.prog w.drew = .ok (goInt ((n - i : Nat) : Int)) (w.drew.setCells g (off + (i + m) * 2) (xs.drop (i * 2))) := fun ty dc sc => by
    have := run_copy_wide (P := Tryd.prog) w.drew 22 22 ty 32 2 g (off + (i + m) * 2) (n + m - (i + m)) dc ⟨g, off + i * 2, none⟩ (n + m - i) sc (xs.drop (i * 2)) Tryd.underlying22 sizeL (by rw [hdl]; congr 1; simp only [Nat.min_def]; split <;> omega)
      (fun j v hj => by rw [Addr.add_lit]; exact hr2 j v hj) ((World.there_drew _ _ _ _).2 (hthX _ _ (by rw [hdl]; omega))) (fun v hv => h1x v (List.mem_of_mem_drop hv))
    rw [show Nat.min (n + m - i) (n + m - (i + m)) = n - i by simp only [Nat.min_def]; split <;> omega] at this
    exact this
  obtain ⟨W1, hW1⟩ : ∃ W1, W1 = w.drew.setCells g (off + (i + m) * 2) (xs.drop (i * 2)) := ⟨_, rfl⟩
  have hvs1 : W1.rangeAt vb 0 vs := by rw [hW1]; exact World.rangeAt_setCells_apart ((World.rangeAt_drew _ _ _ _).2 hvs) _ _ _ (.inl hvb)
  have hth1 : W1.there g (off + i * 2) (m * 2) := by rw [hW1]; exact World.there_setCells ((World.there_drew _ _ _ _).2 (hthX _ _ (by omega))) _ _ _
  have hcp2 : ∀ (W : World), (∀ x, W.cell? x = W1.cell? x) → (∀ x, W.frozen? x = W1.frozen? x) → ∀ ty dc, (Builtin.copy_ #[22, 22] ty #[.slice (some ⟨g, off + i * 2, none⟩) (n + m - i) dc, .slice (some ⟨vb, 0, none⟩) m vc]).run Tryd.prog W = .ok (goInt m) (W.setCells g (off + i * 2) vs) := fun W hWc hWf ty dc => by
    have := run_copy_wide (P := Tryd.prog) W 22 22 ty 32 2 g (off + i * 2) (n + m - i) dc ⟨vb, 0, none⟩ m vc vs Tryd.underlying22 sizeL (by rw [hvl]; congr 1; simp only [Nat.min_def]; split <;> omega)
      (fun j v hj => by rw [Addr.add_lit, hWc]; exact hvs1 j v hj) (fun j hj => by rw [hvl] at hj; rw [hWc, hWf]; exact hth1 j hj) h1
    rw [show Nat.min m (n + m - i) = m by simp only [Nat.min_def]; split <;> omega] at this
    exact this
  have HPOST : Hid (InsPost w base (.slice (some ⟨g, off, none⟩) n c) (n + m) (xs.take (i * 2) ++ vs ++ xs.drop (i * 2)) (.returned (.slice (some ⟨g, off, none⟩) (n + m) c)) (W1.setCells g (off + i * 2) vs)) := by
    obtain ⟨cur1, hb1, hs1⟩ := setCells_blk g 32 (0, 0) (xs.drop (i * 2)) (off + (i + m) * 2) w.drew cur hcur
    rw [← hW1] at hb1
    obtain ⟨cur2, hb2, hs2⟩ := setCells_blk g 32 (0, 0) vs (off + i * 2) W1 cur1 hb1
    refine ⟨_, rfl, own_of ?_ hbg hb2 (by rw [hs2, hs1]; exact hcs) hroom hcm ?_, ?_, .inl rfl⟩
    · rw [List.length_append, List.length_append, htl, hvl, hdl]; omega
    · refine range_append (range_append ?_ ?_) ?_
      · refine World.rangeAt_setCells_apart ?_ _ _ _ (.inr (.inl (by rw [htl]; omega)))
        rw [hW1]
        exact World.rangeAt_setCells_apart ((World.rangeAt_drew _ _ _ _).2 hr1) _ _ _ (.inr (.inl (by rw [htl]; omega)))
      · rw [htl]
        exact World.rangeAt_setCells_same _ _ _ _ (by rw [hvl]; exact hth1)
      · rw [List.length_append, htl, hvl]
        refine World.rangeAt_setCells_apart ?_ _ _ _ (.inr (.inr (by rw [hvl]; omega)))
        rw [hW1, show off + (i * 2 + m * 2) = off + (i + m) * 2 by omega]
        exact World.rangeAt_setCells_same _ _ _ _ ((World.there_drew _ _ _ _).2 (hthX _ _ (by rw [hdl]; omega)))
    · rw [hW1]
      exact gr_trans (gr_trans (gr_drew _ _) (gr_setCells g _ _ _)) (gr_setCells g _ _ _)
  generalize InsPost w base (.slice (some ⟨g, off, none⟩) n c) (n + m) (xs.take (i * 2) ++ vs ++ xs.drop (i * 2)) = POST at *
  rw [← hW1] at hcp1
  have hz1 : ¬ ((m : Int) = 0) := by omega
  have hz4 : ¬ (m = 0) := by omega
  have hz2 : ¬ ((i : Int) = (n : Int)) := by omega
  have hw1 : IntKind.i64.wrap ((i : Int) + (m : Int)) = (i : Int) + (m : Int) := by rw [IntKind.wrap_i64]; omega
  have hb1 : (0 : Int) ≤ (i : Int) + (m : Int) := by omega
  have hin : i ≤ n := by omega
  have htn : ((i : Int) + (m : Int)).toNat = i + m := by omega
  have hb2 : ¬ (c = i + m) := by omega
  have hb3 : (i : Int) ≤ (n : Int) + (m : Int) := by omega
  have hb4 : ¬ (c = i) := by omega
  have hn63 : (n : Int) + (m : Int) ≤ 9223372036854775807 := by omega
  clear ho hxl hcur hcs hrg hth hdl htl hx hr1 hr2 hthX hvs1 hth1 hvl hvs hvc h1 h1x hcm hbg hcs2
  have mixed : Tryd.prog.follows Departure.mixedOrders = true := by kernel_rfl
  go_enter Tryd.func51, Tryd.ntmps51
  go_wp2_with (simp only [hov])
  go_region_law_o (refine step_copy_runI rfl _ _ 22 22 rfl _ _ (by simp [Act.eval, Act.put]) (by simp [Act.eval, Act.put]) (hcp1 _ _ _) ?_)
  go_wp2_with (at_builtin; refine wpList_copy_runI _ rfl _ _ 22 22 rfl _ _ rfl rfl (hcp2 _ (fun _ => rfl) (fun _ => rfl) _ _) ?_)
  have HX := HPOST.out
  first | exact HX | (rw [hW1] at HX; exact HX)
end Go.Proofs.YtifgikhdlilobaaDoor.sid
namespace Go.Proofs.YtifgikhdlilobaaDoor.sid
open Go.RowKit Go.Proofs.YtifgikhdlilobaaDoor.spn Go.Proofs.YtifgikhdlilobaaDoor.que

set_option maxRecDepth 100000 in
set_option maxHeartbeats 4000000 in
/-- Insert between others, where there is no room. -/
theorem insert_grow (w : World) (base g off n c i vb m vc : Nat) (xs vs : List Value) (ho : OwnM w base 32 2 (.slice (some ⟨g, off, none⟩) n c) n xs) (hi : i < n) (hm : 0 < m) (hml : m ≤ 1000) (hnl : n ≤ 10000) (hroom : c < n + m) (hbase : base ≤ w.heap.size)
    (hvl : vs.length = m * 2) (hvs : w.rangeAt vb 0 vs) (hvw : vb < w.heap.size) (h1x : ∀ u ∈ xs, u.oneCell' = true) (h1 : ∀ u ∈ vs, u.oneCell' = true) :
    Calls Tryd.prog 51 #[.slice (some ⟨g, off, none⟩) n c, .int .i64 i, .slice (some ⟨vb, 0, none⟩) m vc] w fun e w' => InsPost w base (.slice (some ⟨g, off, none⟩) n c) (n + m) (xs.take (i * 2) ++ vs ++ xs.drop (i * 2)) e w' := by
  obtain ⟨hxl, hbg, ⟨cur, hcur, hcs⟩, hnc, hcm, hrg, hth⟩ := own_range ho
  have hgw : g < w.heap.size := (Array.getElem?_eq_some_iff.1 hcur).1
  have hdl : (xs.drop (i * 2)).length = (n - i) * 2 := by rw [List.length_drop, hxl]; omega
  have htl : (xs.take (i * 2)).length = i * 2 := by rw [List.length_take, hxl]; omega
  have hx : xs = xs.take (i * 2) ++ xs.drop (i * 2) := (List.take_append_drop _ _).symm
  have hr1 : w.rangeAt g off (xs.take (i * 2)) := by rw [hx] at hrg; exact range_left hrg
  have hr2 : w.rangeAt g (off + i * 2) (xs.drop (i * 2)) := by rw [hx] at hrg; have := range_right hrg; rwa [htl] at this
  obtain ⟨i0, hi0, hz0, hzs, hzb⟩ := rlv.infoR'
  have hkk : (n : Int) + (m : Int) - (i : Int) = ((n + m - i : Nat) : Int) := by omega
  have hik : i + (n + m - i) = n + m := by omega
  have hold : (Builtin.firstCells i0.size i (.slice (some ⟨g, off, none⟩) i c)).run Tryd.prog w.drew = .ok (xs.take (i * 2)).toArray w.drew := by
    rw [hzs]
    exact run_firstCells_some w.drew 2 i ⟨g, off, none⟩ i c (xs.take (i * 2)) htl (fun j v hj => by rw [Addr.add_lit]; exact hr1 j v hj)
  have hrz : ∀ ty, (Builtin.append_ #[22, 3] ty #[.slice (some ⟨g, off, none⟩) i c, .int .i64 ((n : Int) + (m : Int) - (i : Int))]).run Tryd.prog w =
      .ok (.slice (some ⟨w.heap.size, 0, none⟩) (n + m) (grownCap w (n + m) c 32)) (w.drew.alloc (.cells ((xs.take (i * 2)).toArray ++ Builtin.zeroCells rlv.zeroR.cells (n + m - i) ++ Builtin.zeroCells rlv.zeroR.cells (grownCap w (n + m) c 32 - (n + m))) 32)) := fun ty => by
    have h := Lib.run_append_grow_zeros w 22 3 ty 32 i0 _ .i64 .i64 Tryd.underlying22 Tryd.underlying3 hi0 hz0 (some ⟨g, off, none⟩) i c (xs.take (i * 2)) hold (n + m - i) (by omega) (by omega) (by omega) (by omega) (by rw [hzb]; omega) (by rw [hzb, hik]; exact growslice_fits hroom (by omega))
    rw [hik] at h
    rw [hkk]
    exact h
  obtain ⟨G, hG⟩ : ∃ G, G = grownCap w (n + m) c 32 := ⟨_, rfl⟩
  obtain ⟨ROW, hROW⟩ : ∃ ROW : Array Value, ROW = (xs.take (i * 2)).toArray ++ Builtin.zeroCells rlv.zeroR.cells (n + m - i) ++ Builtin.zeroCells rlv.zeroR.cells (G - (n + m)) := ⟨_, rfl⟩
  rw [← hG] at hrz
  rw [← hROW] at hrz
  have hGn : n + m ≤ G := by rw [hG]; exact grownCap_ge w _ _ _
  have hGm : G ≤ maxLen := by rw [hG]; exact grownCap_le_maxLen w (n + m) c 32 (by unfold maxLen; omega)
  have hG63 : G ≤ 9223372036854775807 := by simpa [maxLen] using hGm
  have hRl : ROW.size = G * 2 := by
    rw [hROW, Array.size_append, Array.size_append, size_zeroCells, size_zeroCells]
    rw [List.size_toArray, htl]
    show i * 2 + (n + m - i) * 2 + (G - (n + m)) * 2 = _
    omega
  obtain ⟨W1, hW1⟩ : ∃ W1, W1 = w.drew.alloc (.cells ROW 32) := ⟨_, rfl⟩
  rw [← hW1] at hrz
  have hblk1 : W1.heap[w.heap.size]? = some (.cells ROW 32 (0, 0)) := by rw [hW1]; exact heap_alloc_new w.drew _
  have hth1 : ∀ o k, o + k ≤ G * 2 → W1.there w.heap.size o k := fun o k hk j hj => ⟨by rw [cell_of_row W1 w.heap.size (o + j) ROW _ (0, 0) hblk1, Array.getElem?_eq_getElem (by omega)]; rfl, by simp [World.frozen?, hblk1]⟩
  have hra : W1.rangeAt w.heap.size 0 (xs.take (i * 2)) := fun j v hv => by
    rw [cell_of_row W1 w.heap.size (0 + j) ROW _ (0, 0) hblk1, Nat.zero_add, hROW, Array.append_assoc, Array.getElem?_append_left (by simpa using (List.getElem?_eq_some_iff.1 hv).1)]
    simpa using hv
  have hbel : Below w.heap.size w W1 := by rw [hW1]; exact (Below.refl _ _).drew.alloc (Nat.le_refl _) _
  have hvs1 : W1.rangeAt vb 0 vs := fun j v hv => (hbel.cell (p := ⟨vb, 0 + j, none⟩) hvw).trans (hvs j v hv)
  have hr21 : W1.rangeAt g (off + i * 2) (xs.drop (i * 2)) := fun j v hv => (hbel.cell (p := ⟨g, off + i * 2 + j, none⟩) hgw).trans (hr2 j v hv)
  have hcpA : ∀ (W : World), (∀ x, W.cell? x = W1.cell? x) → (∀ x, W.frozen? x = W1.frozen? x) → ∀ ty dc, (Builtin.copy_ #[22, 22] ty #[.slice (some ⟨w.heap.size, i * 2, none⟩) (n + m - i) dc, .slice (some ⟨vb, 0, none⟩) m vc]).run Tryd.prog W = .ok (goInt m) (W.setCells w.heap.size (i * 2) vs) := fun W hWc hWf ty dc => by
    have := run_copy_wide (P := Tryd.prog) W 22 22 ty 32 2 w.heap.size (i * 2) (n + m - i) dc ⟨vb, 0, none⟩ m vc vs Tryd.underlying22 sizeL (by rw [hvl]; congr 1; simp only [Nat.min_def]; split <;> omega)
      (fun j v hj => by rw [Addr.add_lit, hWc]; exact hvs1 j v hj) (fun j hj => by rw [hWc, hWf]; exact hth1 (i * 2) (m * 2) (by omega) j (by omega)) h1
    rw [show Nat.min m (n + m - i) = m by simp only [Nat.min_def]; split <;> omega] at this
    exact this
  have hgN : g ≠ w.heap.size := by omega
  have hcpB : ∀ (W : World), (∀ x, W.cell? x = (W1.setCells w.heap.size (i * 2) vs).cell? x) → (∀ x, W.frozen? x = (W1.setCells w.heap.size (i * 2) vs).frozen? x) → ∀ ty dc sc, (Builtin.copy_ #[22, 22] ty #[.slice (some ⟨w.heap.size, (i + m) * 2, none⟩) (n + m - (i + m)) dc, .slice (some ⟨g, off + i * 2, none⟩) (n - i) sc]).run Tryd.prog W = .ok (goInt ((n - i : Nat) : Int)) (W.setCells w.heap.size ((i + m) * 2) (xs.drop (i * 2))) := fun W hWc hWf ty dc sc => by
    have := run_copy_wide (P := Tryd.prog) W 22 22 ty 32 2 w.heap.size ((i + m) * 2) (n + m - (i + m)) dc ⟨g, off + i * 2, none⟩ (n - i) sc (xs.drop (i * 2)) Tryd.underlying22 sizeL (by rw [hdl]; congr 1; simp only [Nat.min_def]; split <;> omega)
      (fun j v hj => by
        rw [Addr.add_lit, hWc]
        exact World.rangeAt_setCells_apart hr21 _ _ _ (.inl hgN) j v hj)
      (fun j hj => by rw [hWc, hWf]; exact World.there_setCells (hth1 ((i + m) * 2) ((n - i) * 2) (by omega)) _ _ _ j (by omega)) (fun v hv => h1x v (List.mem_of_mem_drop hv))
    rw [show Nat.min (n - i) (n + m - (i + m)) = n - i by simp only [Nat.min_def]; split <;> omega] at this
    exact this
  have HPOST : Hid (∀ W, W.heap = ((W1.setCells w.heap.size (i * 2) vs).setCells w.heap.size ((i + m) * 2) (xs.drop (i * 2))).heap → W.os = w.os → W.tape = w.tape → W.output = w.output → InsPost w base (.slice (some ⟨g, off, none⟩) n c) (n + m) (xs.take (i * 2) ++ vs ++ xs.drop (i * 2)) (.returned (.slice (some ⟨w.heap.size, 0, none⟩) (n + m) G)) W) := by
    intro W hh ho1 ho2 ho3
    obtain ⟨cur1, hb1, hs1⟩ := setCells_blk w.heap.size 32 (0, 0) vs (i * 2) W1 ROW hblk1
    obtain ⟨cur2, hb2, hs2⟩ := setCells_blk w.heap.size 32 (0, 0) (xs.drop (i * 2)) ((i + m) * 2) _ cur1 hb1
    have hgr : W1.grownBy ((W1.setCells w.heap.size (i * 2) vs).setCells w.heap.size ((i + m) * 2) (xs.drop (i * 2))) (some w.heap.size) := gr_trans (gr_setCells _ _ _ _) (gr_setCells _ _ _ _)
    refine ⟨_, rfl, own_of (cur := cur2) ?_ hbase (by rw [hh]; exact hb2) (by rw [hs2, hs1, hRl]; omega) hGn hGm ?_, ?_, .inr ⟨_, rfl, Nat.le_refl _⟩⟩
    · rw [List.length_append, List.length_append, htl, hvl, hdl]; omega
    · have hcell : ∀ x, W.cell? x = ((W1.setCells w.heap.size (i * 2) vs).setCells w.heap.size ((i + m) * 2) (xs.drop (i * 2))).cell? x := fun x => by simp only [World.cell?, hh]
      have hR : ((W1.setCells w.heap.size (i * 2) vs).setCells w.heap.size ((i + m) * 2) (xs.drop (i * 2))).rangeAt w.heap.size 0 (xs.take (i * 2) ++ vs ++ xs.drop (i * 2)) := by
        refine range_append (range_append ?_ ?_) ?_
        · refine World.rangeAt_setCells_apart ?_ _ _ _ (.inr (.inl (by rw [htl]; omega)))
          exact World.rangeAt_setCells_apart hra _ _ _ (.inr (.inl (by rw [htl]; omega)))
        · rw [htl, Nat.zero_add]
          refine World.rangeAt_setCells_apart ?_ _ _ _ (.inr (.inl (by rw [hvl]; omega)))
          exact World.rangeAt_setCells_same _ _ _ _ (by rw [hvl]; exact hth1 _ _ (by omega))
        · rw [List.length_append, htl, hvl, Nat.zero_add, show i * 2 + m * 2 = (i + m) * 2 by omega]
          exact World.rangeAt_setCells_same _ _ _ _ (World.there_setCells (by rw [hdl]; exact hth1 _ _ (by omega)) _ _ _)
      exact fun j v hv => (hcell _).trans (hR j v hv)
    · refine ⟨ho1, ho2, ho3, ?_, fun k hk _ => ?_⟩
      · rw [hh]; exact Nat.le_trans hbel.size hgr.size
      · rw [hh, hgr.block k (Nat.lt_of_lt_of_le hk hbel.size) (fun e => by simp at e; omega)]
        exact hbel.block k hk
  generalize InsPost w base (.slice (some ⟨g, off, none⟩) n c) (n + m) (xs.take (i * 2) ++ vs ++ xs.drop (i * 2)) = POST at *
  have hz1 : ¬ ((m : Int) = 0) := by omega
  have hz4 : ¬ (m = 0) := by omega
  have hz2 : ¬ ((i : Int) = (n : Int)) := by omega
  have hz3 : (c : Int) < (n : Int) + (m : Int) := by omega
  have hGi : ¬ (G = i) := by omega
  have hGim : ¬ (G = i + m) := by omega
  have hci : ¬ (c = i) := by omega
  subst hW1
  have hE1 : ∀ x, ((w.alloc (.cells ROW 32)).drew).cell? x = (w.drew.alloc (.cells ROW 32)).cell? x := fun x => rfl
  have hE2 : ∀ x, ((w.alloc (.cells ROW 32)).drew).frozen? x = (w.drew.alloc (.cells ROW 32)).frozen? x := fun x => rfl
  have hF1 : ∀ x, (((w.alloc (.cells ROW 32)).drew.setCells w.heap.size (i * 2) vs).drew).cell? x = ((w.drew.alloc (.cells ROW 32)).setCells w.heap.size (i * 2) vs).cell? x := fun x => rfl
  have hF2 : ∀ x, (((w.alloc (.cells ROW 32)).drew.setCells w.heap.size (i * 2) vs).drew).frozen? x = ((w.drew.alloc (.cells ROW 32)).setCells w.heap.size (i * 2) vs).frozen? x := fun x => rfl
  have hw1 : IntKind.i64.wrap ((i : Int) + (m : Int)) = (i : Int) + (m : Int) := by rw [IntKind.wrap_i64]; omega
  have hb1 : (0 : Int) ≤ (i : Int) + (m : Int) := by omega
  have hin : i ≤ n := by omega
  have htn : ((i : Int) + (m : Int)).toNat = i + m := by omega
  have hb3 : (i : Int) ≤ (n : Int) := by omega
  have mixed : Tryd.prog.follows Departure.mixedOrders = true := by kernel_rfl
  clear hkk hik hold hROW hG hRl ho hxl hcur hcs hrg hth hdl htl hx hr1 hr2 hvl hvs h1 h1x hcm hbg hblk1 hth1 hra hbel hvs1 hr21 hi0 hz0 hzs hzb hGm
  go_enter Tryd.func51, Tryd.ntmps51
  go_wp2_with (first
    | (at_builtin; refine Lib.wpList_append_run _ rfl _ _ _ _ rfl _ _ rfl rfl _ _ (hrz _) ?_)
    | (at_builtin; refine wpList_copy_runI _ rfl _ _ 22 22 rfl _ _ rfl rfl (hcpA _ hE1 hE2 _ _) ?_)
    | (at_builtin; refine wpList_copy_runI _ rfl _ _ 22 22 rfl _ _ rfl rfl (hcpB _ (fun _ => rfl) (fun _ => rfl) _ _ _) ?_))
  go_region_law_o (refine step_copy_runI rfl _ _ 22 22 rfl (.slice (some ⟨w.heap.size, (i + m) * 2, none⟩) (n + m - (i + m)) (G - (i + m))) (.slice (some ⟨g, off + i * 2, none⟩) (n - i) (c - i)) (by simp [Act.eval, Act.put]) (by simp [Act.eval, Act.put]) (hcpB _ hF1 hF2 3 (G - (i + m)) (c - i)) ?_)
  go_wp2
  have hgz : ∀ (X : World) (a b : Nat) (us ys : List Value), X.grownBy (((X.drew.setCells w.heap.size a us).drew).setCells w.heap.size b ys) (some w.heap.size) := fun X a b us ys => gr_trans (gr_trans (gr_trans (gr_drew _ _) (gr_setCells _ _ _ _)) (gr_drew _ _)) (gr_setCells _ _ _ _)
  have hga := hgz (w.alloc (.cells ROW 32)) (i * 2) ((i + m) * 2) vs (xs.drop (i * 2))
  exact HPOST.out _ (by rw [show w.drew.alloc (.cells ROW 32) = (w.alloc (.cells ROW 32)).drew from rfl, ← drew_setCells, ← drew_setCells, ← drew_setCells]; rfl) hga.os hga.tape hga.output

theorem flat_take (zs : List rlv.RL) (i : Nat) : rlv.flat (zs.take i) = (rlv.flat zs).take (i * 2) := by
  induction zs generalizing i with
  | nil => simp [rlv.flat]
  | cons r t ih =>
    cases i with
    | zero => simp [rlv.flat]
    | succ i => rw [List.take_succ_cons, rlv.flat_cons, rlv.flat_cons, ih, show (i + 1) * 2 = (rlv.rV r).length + i * 2 by show _ = 2 + i * 2; omega, List.take_length_add_append]
theorem flat_drop (zs : List rlv.RL) (i : Nat) : rlv.flat (zs.drop i) = (rlv.flat zs).drop (i * 2) := by
  induction zs generalizing i with
  | nil => simp [rlv.flat]
  | cons r t ih =>
    cases i with
    | zero => simp
    | succ i => rw [List.drop_succ_cons, rlv.flat_cons, ih, show (i + 1) * 2 = (rlv.rV r).length + i * 2 by show _ = 2 + i * 2; omega, List.drop_length_add_append]
/-- Insert of one level, at every place. -/
theorem insert_any (w : World) (base : Nat) (v : Value) (zs : List rlv.RL) (i : Nat) (p : Int) (vb vc : Nat) (ho : rlv.OwnQ w base v zs) (hbase : base ≤ w.heap.size) (hi : i ≤ zs.length) (hn : zs.length ≤ 10000)
    (hvc : w.heap[vb]? = some (.cells #[.int .i64 p, .slice none 0 0] 32 (0, 0))) (hne : v.ownBlock ≠ some vb) :
    Calls Tryd.prog 51 #[v, .int .i64 i, .slice (some ⟨vb, 0, none⟩) 1 vc] w fun e w' =>
      ∃ v', e = .returned v' ∧ rlv.OwnQ w' base v' (zs.take i ++ ⟨p, none, 0, 0⟩ :: zs.drop i) ∧ w.grownBy w' v.ownBlock ∧ (v'.ownBlock = v.ownBlock ∨ ∃ k, v'.ownBlock = some k ∧ w.heap.size ≤ k) := by
  have hvs : w.rangeAt vb 0 [.int .i64 p, .slice none 0 0] := fun j u hu => by
    rw [cell_of_row w vb (0 + j) _ _ (0, 0) hvc, Nat.zero_add]; simpa using hu
  have h1 : ∀ u ∈ [Value.int .i64 p, .slice none 0 0], u.oneCell' = true := by
    intro u hu; simp at hu; rcases hu with rfl | rfl <;> rfl
  have hfl : rlv.flat (zs.take i ++ ⟨p, none, 0, 0⟩ :: zs.drop i) = (rlv.flat zs).take (i * 2) ++ [.int .i64 p, .slice none 0 0] ++ (rlv.flat zs).drop (i * 2) := by
    rw [rlv.flat_append, rlv.flat_cons, flat_take, flat_drop, List.append_assoc]; rfl
  have hln : (zs.take i ++ (⟨p, none, 0, 0⟩ : rlv.RL) :: zs.drop i).length = zs.length + 1 := by simp; omega
  unfold rlv.OwnQ
  rw [hfl, hln]
  by_cases he : i = zs.length
  · subst he
    have := insert_end w base v zs.length (rlv.flat zs) vb 1 vc [.int .i64 p, .slice none 0 0] ho hbase (by omega) (by omega) hn rfl hvs h1
    rw [List.take_of_length_le (by rw [rlv.flat_len]; exact Nat.le_refl _), List.drop_eq_nil_of_le (by rw [rlv.flat_len]; exact Nat.le_refl _), List.append_nil]
    exact this
  · have hlt : i < zs.length := by omega
    obtain ⟨q, c, hv⟩ := OwnM.form ho
    subst hv
    rcases ho.2 with ⟨e, hz⟩ | ⟨g, off, cap, cur, e, hbg, hg, hcap, hcm, hcs, -⟩
    · omega
    · cases e
      have hvg : vb ≠ g := fun e => hne (by rw [e]; rfl)
      by_cases hr : zs.length + 1 ≤ c
      · exact insert_shift w base g off zs.length c i vb 1 vc (rlv.flat zs) [.int .i64 p, .slice none 0 0] _ _ ho hlt (by omega) (by omega) hr hvg rfl hvs hvc (rlv.flat_one zs) h1
      · exact insert_grow w base g off zs.length c i vb 1 vc (rlv.flat zs) [.int .i64 p, .slice none 0 0] ho hlt (by omega) (by omega) hn (by omega) hbase rfl hvs (Array.getElem?_eq_some_iff.1 hvc).1 (rlv.flat_one zs) h1
end Go.Proofs.YtifgikhdlilobaaDoor.sid
