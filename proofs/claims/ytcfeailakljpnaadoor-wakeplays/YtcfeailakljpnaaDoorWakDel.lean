/- Contracts over this seat's translation: slices.Delete at orders of the call's own. -/
import Derived.Test.YtcfeailakljpnaaDoorWakSl
import Derived.Deep.RegionLaw
namespace Go.Proofs.YtcfeailakljpnaaDoor.wak
open Go.RowKit Go.Proofs.YtcfeailakljpnaaDoor.spn Go.Proofs.YtcfeailakljpnaaDoor.ord

theorem zeroVR (w : World) : (zeroValue 29).run Tryd.prog w = .ok zeroR w := by kernel_rfl

set_option maxRecDepth 100000 in
set_option maxHeartbeats 4000000 in
theorem delete_own (w : World) (base g off n c i j : Nat) (xs : List Value) (ho : OwnM w base 29 8 (.slice (some ⟨g, off, none⟩) n c) n xs) (hij : i < j) (hj : j ≤ n) (h1x : ∀ u ∈ xs, u.oneCell' = true) :
    Calls Tryd.prog 20 #[.slice (some ⟨g, off, none⟩) n c, .int .i64 i, .int .i64 j] w fun e w' => e = .returned (.slice (some ⟨g, off, none⟩) (i + (n - j)) c) ∧ OwnM w' base 29 8 (.slice (some ⟨g, off, none⟩) (i + (n - j)) c) (i + (n - j)) (xs.take (i * 8) ++ xs.drop (j * 8)) ∧ w.grownBy w' (some g) := by
  obtain ⟨hxl, hbg, ⟨cur, hcur, hcs⟩, hnc, hcm, hrg, hth⟩ := own_range ho
  have hc63 : c ≤ 9223372036854775807 := by simpa [maxLen] using hcm
  obtain ⟨i0, hi0, hz0, hz1, hz2⟩ := infoR'
  have hdl : (xs.drop (j * 8)).length = (n - j) * 8 := by rw [List.length_drop, hxl]; omega
  have htl : (xs.take (i * 8)).length = i * 8 := by rw [List.length_take, hxl]; omega
  have hx1 : xs = xs.take (i * 8) ++ xs.drop (i * 8) := (List.take_append_drop _ _).symm
  have hx2 : xs = xs.take (j * 8) ++ xs.drop (j * 8) := (List.take_append_drop _ _).symm
  have hr1 : w.rangeAt g off (xs.take (i * 8)) := by rw [hx1] at hrg; exact range_left hrg
  have hr2 : w.rangeAt g (off + j * 8) (xs.drop (j * 8)) := by
    rw [hx2] at hrg; have := range_right hrg; rwa [List.length_take, hxl, Nat.min_eq_left (by omega)] at this
  have hthX : ∀ o k, o + k ≤ c * 8 → w.there g (off + o) k := fun o k hk q hq => by rw [Nat.add_assoc]; exact hth (o + q) (by omega)
  obtain ⟨news, hnews⟩ : ∃ news, news = xs.drop (j * 8) := ⟨_, rfl⟩
  obtain ⟨A, hA, hsrc⟩ : ∃ A : Addr, (if c = j then some (⟨g, off, none⟩ : Addr) else some ⟨g, off + j * 8, none⟩) = some A ∧ Hid (∀ t u, news[t]? = some u → w.drew.cell? (A.add t) = some u) := by
    by_cases h : c = j
    · refine ⟨⟨g, off, none⟩, by simp [h], fun t u hu => ?_⟩
      have h0 : news.length = 0 := by rw [hnews, hdl]; omega
      rw [List.length_eq_zero_iff.1 h0] at hu
      simp at hu
    · refine ⟨⟨g, off + j * 8, none⟩, by simp [h], fun t u hu => ?_⟩
      rw [Addr.add_lit]
      rw [hnews] at hu
      exact hr2 t u hu
  have s1 : Hid (news.length = (n - j) * 8) := by show _ = _; rw [hnews, hdl]
  have s2 : Hid (∀ u ∈ news, u.oneCell' = true) := fun u hu => h1x u (List.mem_of_mem_drop (by rw [hnews] at hu; exact hu))
  have s3 : Hid (∀ t, t < news.length → (w.drew.cell? ⟨g, off + i * 8 + t, none⟩).isSome = true ∧ w.drew.frozen? ⟨g, off + i * 8 + t, none⟩ = false) := fun t ht => by
    have ht2 : t < (n - j) * 8 := by rw [hnews, hdl] at ht; exact ht
    exact hthX (i * 8) ((n - j) * 8) (by omega) t ht2
  obtain ⟨W1, hW1⟩ : ∃ W1, W1 = w.drew.setCells g (off + i * 8) news := ⟨_, rfl⟩
  have hth1 : ∀ o k, o + k ≤ c * 8 → W1.there g (off + o) k := fun o k hk => by rw [hW1]; exact World.there_setCells ((World.there_drew _ _ _ _).2 (hthX o k hk)) _ _ _
  have hcl : ∀ ty, (Builtin.clear_ #[22] ty #[.slice (some ⟨g, off + (i + (n - j)) * 8, none⟩) (n - (i + (n - j))) (c - (i + (n - j)))]).run Tryd.prog W1 = .ok (.tuple #[]) (W1.setCells g (off + (i + (n - j)) * 8) (Builtin.zeroCells zeroR.cells (n - (i + (n - j)))).toList) :=
    fun ty => run_clear_wide W1 _ _ ty zeroR 8 Tryd.underlying22 zeroVR rfl (by simp [zeroR, Value.cells, Value.oneCell']) g _ _ _ (by omega) (hth1 _ _ (by omega))
  have HPOST : Hid (OwnM (W1.setCells g (off + (i + (n - j)) * 8) (Builtin.zeroCells zeroR.cells (n - (i + (n - j)))).toList) base 29 8 (.slice (some ⟨g, off, none⟩) (i + (n - j)) c) (i + (n - j)) (xs.take (i * 8) ++ xs.drop (j * 8)) ∧ w.grownBy (W1.setCells g (off + (i + (n - j)) * 8) (Builtin.zeroCells zeroR.cells (n - (i + (n - j)))).toList) (some g)) := by
    obtain ⟨cur1, hb1, hs1⟩ := setCells_blk g 29 (0, 0) news (off + i * 8) w.drew cur hcur
    rw [← hW1] at hb1
    obtain ⟨cur2, hb2, hs2⟩ := setCells_blk g 29 (0, 0) (Builtin.zeroCells zeroR.cells (n - (i + (n - j)))).toList (off + (i + (n - j)) * 8) W1 cur1 hb1
    refine ⟨own_of ?_ hbg hb2 (by rw [hs2, hs1]; exact hcs) (by omega) hcm ?_, ?_⟩
    · rw [List.length_append, htl, hdl]; omega
    · refine range_append ?_ ?_
      · refine World.rangeAt_setCells_apart ?_ _ _ _ (.inr (.inl (by rw [htl]; omega)))
        rw [hW1]
        exact World.rangeAt_setCells_apart ((World.rangeAt_drew _ _ _ _).2 hr1) _ _ _ (.inr (.inl (by rw [htl]; omega)))
      · rw [htl]
        refine World.rangeAt_setCells_apart ?_ _ _ _ (.inr (.inl (by rw [hdl]; omega)))
        rw [hW1, hnews]
        exact World.rangeAt_setCells_same _ _ _ _ ((World.there_drew _ _ _ _).2 (hthX _ _ (by rw [hdl]; omega)))
    · rw [hW1]
      exact gr_trans (gr_trans (gr_drew _ _) (gr_setCells g _ _ _)) (gr_setCells g _ _ _)
  have hW : Hid (W1 = w.drew.setCells g (off + i * 8) news) := hW1
  obtain ⟨W2, hW2⟩ : ∃ W2, W2 = W1.setCells g (off + (i + (n - j)) * 8) (Builtin.zeroCells zeroR.cells (n - (i + (n - j)))).toList := ⟨_, rfl⟩
  rw [← hW2] at HPOST
  simp only [← hW2] at hcl
  clear hW2
  have hic : i ≤ c := by omega
  have hjc : j ≤ c := by omega
  have hne : ¬ ((i : Int) = (j : Int)) := by omega
  have hne2 : ¬ (i = j) := by omega
  clear hW1 ho hxl hcur hcs hrg hth hdl htl hx1 hx2 hr1 hr2 hthX hth1 hnews h1x hcm hbg hz0 hz2
  go_enter Tryd.func20, Tryd.ntmps20
  go_wp2_with fail
  go_region_law (refine step_append_room rfl (.tmp 22) (.tmp 25) 22 rfl 29 i0 8 Tryd.underlying22 hi0 hz1 g off i c (by simp [Act.eval, Act.put]) A (n - j) (c - j) news (by simp [Act.eval, Act.put]) s1.out hsrc.out s2.out (by omega) s3.out ?_; rw [← hW.out])
  go_wp2
  go_ret
  exact ⟨rfl, HPOST.out⟩
end Go.Proofs.YtcfeailakljpnaaDoor.wak
