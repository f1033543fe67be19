/- Contracts over this seat's translation: slices.Insert of levels between others, in a side of the call's own. -/
import Derived.Test.YtnjpjieedgmffaaSidIns
namespace Go.Proofs.Ytnjpjieedgmffaa.sid
open Go.RowKit Go.Proofs.Ytnjpjieedgmffaa.spn Go.Proofs.Ytnjpjieedgmffaa.que

/-- clear, at elements of more cells than one. -/
theorem run_clear_wide {P : Program} (w : World) (t e ty : TypeId) (z : Value) (size : Nat) (ht : P.underlying t = some (.slice e)) (hv : ∀ w, (zeroValue e).run P w = .ok z w) (hz : z.cells.size = size) (h1 : z.cells.all (·.oneCell') = true) (b o n c : Nat) (hn : 0 < n) (hth : w.there b o (n * size)) :
    (Builtin.clear_ #[t] ty #[.slice (some ⟨b, o, none⟩) n c]).run P w = .ok (.tuple #[]) (w.setCells b o (Builtin.zeroCells z.cells n).toList) := by
  have hl : (Builtin.zeroCells z.cells n).toList.length = n * size := by rw [Array.length_toList, size_zeroCells, hz]
  have h1c : ∀ v ∈ (Builtin.zeroCells z.cells n).toList, v.oneCell' = true := by
    intro v hv'
    rw [Array.mem_toList_iff] at hv'
    simp only [Builtin.zeroCells] at hv'
    rw [Array.all_eq_true] at h1
    rw [Array.mem_map] at hv'
    obtain ⟨k, hk, rfl⟩ := hv'
    rw [Array.mem_range] at hk
    have hpos : 0 < z.cells.size := Nat.pos_of_ne_zero fun e => by rw [e] at hk; simp at hk
    have hp : k % z.cells.size < z.cells.size := Nat.mod_lt _ hpos
    rw [getElem!_pos z.cells _ hp]
    exact h1 _ hp
  have hst := run_storeCells_cells (P := P) b o (Builtin.zeroCells z.cells n).toList 0 w (by rw [hl]; simpa using fun j hj => (hth j hj).1) (by rw [hl]; simpa using fun j hj => (hth j hj).2) h1c
  simp only [Nat.add_zero] at hst
  obtain ⟨m, rfl⟩ : ∃ m, n = m + 1 := ⟨n - 1, by omega⟩
  simp [Builtin.clear_, run_underlying ht, hv, hst]
theorem sizeL : (Try.prog.info? 31).map (·.size) = some 2 := by kernel_rfl
theorem sizeOfL (w : World) : (Go.sizeOf 31).run Try.prog w = .ok 2 w := by kernel_rfl

set_option maxRecDepth 100000 in
set_option maxHeartbeats 4000000 in
/-- Insert between others, where there is room. -/
theorem insert_shift (w : World) (base g off n c i vb m vc : Nat) (xs vs : List Value) (vcur : Array Value) (tA : TypeId) (ho : OwnM w base 31 2 (.slice (some ⟨g, off, none⟩) n c) n xs) (hi : i < n) (hm : 0 < m) (hml : m ≤ 1000) (hroom : n + m ≤ c)
    (hvb : vb ≠ g) (hvl : vs.length = m * 2) (hvs : w.rangeAt vb 0 vs) (hvc : w.heap[vb]? = some (.cells vcur tA (0, 0))) (h1x : ∀ u ∈ xs, u.oneCell' = true) (h1 : ∀ u ∈ vs, u.oneCell' = true) :
    Calls Try.prog 82 #[.slice (some ⟨g, off, none⟩) n c, .int .i64 i, .slice (some ⟨vb, 0, none⟩) m vc] w fun e w' => InsPost w base (.slice (some ⟨g, off, none⟩) n c) (n + m) (xs.take (i * 2) ++ vs ++ xs.drop (i * 2)) e w' := by
  obtain ⟨hxl, hbg, ⟨cur, hcur, hcs⟩, hnc, hcm, hrg, hth⟩ := own_range ho
  have hc63 : c ≤ 9223372036854775807 := by simpa [maxLen] using hcm
  have hcs2 : 0 < cur.size := by omega
  have hov : ∀ lb cb, (callFunc 86 #[.slice (some ⟨vb, 0, none⟩) m vc, .slice (some ⟨g, off + (i + m) * 2, none⟩) lb cb]).run Try.prog w = .ok (.value (.bool false)) w := fun lb cb => by
    rw [run_callFunc_extern Try.func86 (by kernel_rfl) (by kernel_rfl) (by kernel_rfl) (e := Extern.SlicesOverlaps.overlaps #[22, 22] #[4]) (by kernel_rfl),
      Lib.run_overlaps_apart w 22 4 31 Try.underlying22 2 sizeOfL ⟨vb, 0, none⟩ ⟨g, off + (i + m) * 2, none⟩ m vc lb cb hvb tA 31 vcur.size cur.size (by simp [World.shape?, hvc]) (by simp [World.shape?, hcur]) (by omega) (by simp [World.frozen?, hvc]) (by simp [World.frozen?, hvc])]
    rfl
  have hdl : (xs.drop (i * 2)).length = (n - i) * 2 := by rw [List.length_drop, hxl]; omega
  have htl : (xs.take (i * 2)).length = i * 2 := by rw [List.length_take, hxl]; omega
  have hx : xs = xs.take (i * 2) ++ xs.drop (i * 2) := (List.take_append_drop _ _).symm
  have hr1 : w.rangeAt g off (xs.take (i * 2)) := by rw [hx] at hrg; exact range_left hrg
  have hr2 : w.rangeAt g (off + i * 2) (xs.drop (i * 2)) := by rw [hx] at hrg; have := range_right hrg; rwa [htl] at this
  have hthX : ∀ o k, o + k ≤ c * 2 → w.there g (off + o) k := fun o k hk j hj => by rw [Nat.add_assoc]; exact hth (o + j) (by omega)
  have hcp1 : ∀ ty dc sc, (Builtin.copy_ #[22, 22] ty #[.slice (some ⟨g, off + (i + m) * 2, none⟩) (n + m - (i + m)) dc, .slice (some ⟨g, off + i * 2, none⟩) (n + m - i) sc]).run Try.prog w.drew = .ok (goInt ((n - i : Nat) : Int)) (w.drew.setCells g (off + (i + m) * 2) (xs.drop (i * 2))) := fun ty dc sc => by
    have := run_copy_wide (P := Try.prog) w.drew 22 22 ty 31 2 g (off + (i + m) * 2) (n + m - (i + m)) dc ⟨g, off + i * 2, none⟩ (n + m - i) sc (xs.drop (i * 2)) Try.underlying22 sizeL (by rw [hdl]; congr 1; simp only [Nat.min_def]; split <;> omega)
      (fun j v hj => by rw [Addr.add_lit]; exact hr2 j v hj) ((World.there_drew _ _ _ _).2 (hthX _ _ (by rw [hdl]; omega))) (fun v hv => h1x v (List.mem_of_mem_drop hv))
    rw [show Nat.min (n + m - i) (n + m - (i + m)) = n - i by simp only [Nat.min_def]; split <;> omega] at this
    exact this
  obtain ⟨W1, hW1⟩ : ∃ W1, W1 = w.drew.setCells g (off + (i + m) * 2) (xs.drop (i * 2)) := ⟨_, rfl⟩
  have hvs1 : W1.rangeAt vb 0 vs := by rw [hW1]; exact World.rangeAt_setCells_apart ((World.rangeAt_drew _ _ _ _).2 hvs) _ _ _ (.inl hvb)
  have hth1 : W1.there g (off + i * 2) (m * 2) := by rw [hW1]; exact World.there_setCells ((World.there_drew _ _ _ _).2 (hthX _ _ (by omega))) _ _ _
  have hcp2 : ∀ (W : World), (∀ x, W.cell? x = W1.cell? x) → (∀ x, W.frozen? x = W1.frozen? x) → ∀ ty dc, (Builtin.copy_ #[22, 22] ty #[.slice (some ⟨g, off + i * 2, none⟩) (n + m - i) dc, .slice (some ⟨vb, 0, none⟩) m vc]).run Try.prog W = .ok (goInt m) (W.setCells g (off + i * 2) vs) := fun W hWc hWf ty dc => by
    have := run_copy_wide (P := Try.prog) W 22 22 ty 31 2 g (off + i * 2) (n + m - i) dc ⟨vb, 0, none⟩ m vc vs Try.underlying22 sizeL (by rw [hvl]; congr 1; simp only [Nat.min_def]; split <;> omega)
      (fun j v hj => by rw [Addr.add_lit, hWc]; exact hvs1 j v hj) (fun j hj => by rw [hvl] at hj; rw [hWc, hWf]; exact hth1 j hj) h1
    rw [show Nat.min m (n + m - i) = m by simp only [Nat.min_def]; split <;> omega] at this
    exact this
  have HPOST : Hid (InsPost w base (.slice (some ⟨g, off, none⟩) n c) (n + m) (xs.take (i * 2) ++ vs ++ xs.drop (i * 2)) (.returned (.slice (some ⟨g, off, none⟩) (n + m) c)) (W1.setCells g (off + i * 2) vs)) := by
    obtain ⟨cur1, hb1, hs1⟩ := setCells_blk g 31 (0, 0) (xs.drop (i * 2)) (off + (i + m) * 2) w.drew cur hcur
    rw [← hW1] at hb1
    obtain ⟨cur2, hb2, hs2⟩ := setCells_blk g 31 (0, 0) vs (off + i * 2) W1 cur1 hb1
    refine ⟨_, rfl, own_of ?_ hbg hb2 (by rw [hs2, hs1]; exact hcs) hroom hcm ?_, ?_, .inl rfl⟩
    · rw [List.length_append, List.length_append, htl, hvl, hdl]; omega
    · refine range_append (range_append ?_ ?_) ?_
      · refine World.rangeAt_setCells_apart ?_ _ _ _ (.inr (.inl (by rw [htl]; omega)))
        rw [hW1]
        exact World.rangeAt_setCells_apart ((World.rangeAt_drew _ _ _ _).2 hr1) _ _ _ (.inr (.inl (by rw [htl]; omega)))
      · rw [htl]
        exact World.rangeAt_setCells_same _ _ _ _ (by rw [hvl]; exact hth1)
      · rw [List.length_append, htl, hvl]
        refine World.rangeAt_setCells_apart ?_ _ _ _ (.inr (.inr (by rw [hvl]; omega)))
        rw [hW1, show off + (i * 2 + m * 2) = off + (i + m) * 2 by omega]
        exact World.rangeAt_setCells_same _ _ _ _ ((World.there_drew _ _ _ _).2 (hthX _ _ (by rw [hdl]; omega)))
    · rw [hW1]
      exact gr_trans (gr_trans (gr_drew _ _) (gr_setCells g _ _ _)) (gr_setCells g _ _ _)
  generalize InsPost w base (.slice (some ⟨g, off, none⟩) n c) (n + m) (xs.take (i * 2) ++ vs ++ xs.drop (i * 2)) = POST at *
  rw [← hW1] at hcp1
  have hz1 : ¬ ((m : Int) = 0) := by omega
  have hz4 : ¬ (m = 0) := by omega
  have hz2 : ¬ ((i : Int) = (n : Int)) := by omega
  have hw1 : IntKind.i64.wrap ((i : Int) + (m : Int)) = (i : Int) + (m : Int) := by rw [IntKind.wrap_i64]; omega
  have hb1 : (0 : Int) ≤ (i : Int) + (m : Int) := by omega
  have hin : i ≤ n := by omega
  have htn : ((i : Int) + (m : Int)).toNat = i + m := by omega
  have hb2 : ¬ (c = i + m) := by omega
  have hb3 : (i : Int) ≤ (n : Int) + (m : Int) := by omega
  have hb4 : ¬ (c = i) := by omega
  have hn63 : (n : Int) + (m : Int) ≤ 9223372036854775807 := by omega
  clear ho hxl hcur hcs hrg hth hdl htl hx hr1 hr2 hthX hvs1 hth1 hvl hvs hvc h1 h1x hcm hbg hcs2
  have mixed : Try.prog.follows Departure.mixedOrders = true := by kernel_rfl
  go_enter Try.func82, Try.ntmps82
  go_wp2_with (simp only [hov])
  go_region_law_o (refine step_copy_runI rfl _ _ 22 22 rfl _ _ (by simp [Act.eval, Act.put]) (by simp [Act.eval, Act.put]) (hcp1 _ _ _) ?_)
  go_wp2_with (at_builtin; refine wpList_copy_runI _ rfl _ _ 22 22 rfl _ _ rfl rfl (hcp2 _ (fun _ => rfl) (fun _ => rfl) _ _) ?_)
  have HX := HPOST.out
  first | exact HX | (rw [hW1] at HX; exact HX)
end Go.Proofs.Ytnjpjieedgmffaa.sid
