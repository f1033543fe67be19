/- Contracts over this seat's translation: slices.Delete at levels of the call's own. Contracts over this seat's translation: slices.Delete at rests of the call's own. Contracts over this seat's translation: side.Drop. -/
import Derived.Test.YtnjpjieedgmffaaSidIns2
import Derived.Lib.SlicesDelete
import Derived.Deep.RegionLaw
import Derived.Test.YtnjpjieedgmffaaSidAdd
namespace Go.Proofs.Ytnjpjieedgmffaa.rlv
open Go.RowKit Go.Proofs.Ytnjpjieedgmffaa.spn Go.Proofs.Ytnjpjieedgmffaa.que Go.Proofs.Ytnjpjieedgmffaa.sid

theorem zeroVR (w : World) : (zeroValue 31).run Try.prog w = .ok zeroR w := by kernel_rfl

set_option maxRecDepth 100000 in
set_option maxHeartbeats 4000000 in
theorem delete_own (w : World) (base g off n c i j : Nat) (xs : List Value) (ho : OwnM w base 31 2 (.slice (some ⟨g, off, none⟩) n c) n xs) (hij : i < j) (hj : j ≤ n) (h1x : ∀ u ∈ xs, u.oneCell' = true) :
    Calls Try.prog 72 #[.slice (some ⟨g, off, none⟩) n c, .int .i64 i, .int .i64 j] w fun e w' => e = .returned (.slice (some ⟨g, off, none⟩) (i + (n - j)) c) ∧ OwnM w' base 31 2 (.slice (some ⟨g, off, none⟩) (i + (n - j)) c) (i + (n - j)) (xs.take (i * 2) ++ xs.drop (j * 2)) ∧ w.grownBy w' (some g) := by
  obtain ⟨hxl, hbg, ⟨cur, hcur, hcs⟩, hnc, hcm, hrg, hth⟩ := own_range ho
  have hc63 : c ≤ 9223372036854775807 := by simpa [maxLen] using hcm
  obtain ⟨i0, hi0, hz0, hz1, hz2⟩ := rlv.infoR'
  have hdl : (xs.drop (j * 2)).length = (n - j) * 2 := by rw [List.length_drop, hxl]; omega
  have htl : (xs.take (i * 2)).length = i * 2 := by rw [List.length_take, hxl]; omega
  have hx1 : xs = xs.take (i * 2) ++ xs.drop (i * 2) := (List.take_append_drop _ _).symm
  have hx2 : xs = xs.take (j * 2) ++ xs.drop (j * 2) := (List.take_append_drop _ _).symm
  have hr1 : w.rangeAt g off (xs.take (i * 2)) := by rw [hx1] at hrg; exact range_left hrg
  have hr2 : w.rangeAt g (off + j * 2) (xs.drop (j * 2)) := by
    rw [hx2] at hrg; have := range_right hrg; rwa [List.length_take, hxl, Nat.min_eq_left (by omega)] at this
  have hthX : ∀ o k, o + k ≤ c * 2 → w.there g (off + o) k := fun o k hk q hq => by rw [Nat.add_assoc]; exact hth (o + q) (by omega)
  obtain ⟨news, hnews⟩ : ∃ news, news = xs.drop (j * 2) := ⟨_, rfl⟩
  obtain ⟨A, hA, hsrc⟩ : ∃ A : Addr, (if c = j then some (⟨g, off, none⟩ : Addr) else some ⟨g, off + j * 2, none⟩) = some A ∧ Hid (∀ t u, news[t]? = some u → w.drew.cell? (A.add t) = some u) := by
    by_cases h : c = j
    · refine ⟨⟨g, off, none⟩, by simp [h], fun t u hu => ?_⟩
      have h0 : news.length = 0 := by rw [hnews, hdl]; omega
      rw [List.length_eq_zero_iff.1 h0] at hu
      simp at hu
    · refine ⟨⟨g, off + j * 2, none⟩, by simp [h], fun t u hu => ?_⟩
      rw [Addr.add_lit]
      rw [hnews] at hu
      exact hr2 t u hu
  have s1 : Hid (news.length = (n - j) * 2) := by show _ = _; rw [hnews, hdl]
  have s2 : Hid (∀ u ∈ news, u.oneCell' = true) := fun u hu => h1x u (List.mem_of_mem_drop (by rw [hnews] at hu; exact hu))
  have s3 : Hid (∀ t, t < news.length → (w.drew.cell? ⟨g, off + i * 2 + t, none⟩).isSome = true ∧ w.drew.frozen? ⟨g, off + i * 2 + t, none⟩ = false) := fun t ht => by
    have ht2 : t < (n - j) * 2 := by rw [hnews, hdl] at ht; exact ht
    exact hthX (i * 2) ((n - j) * 2) (by omega) t ht2
  obtain ⟨W1, hW1⟩ : ∃ W1, W1 = w.drew.setCells g (off + i * 2) news := ⟨_, rfl⟩
  have hth1 : ∀ o k, o + k ≤ c * 2 → W1.there g (off + o) k := fun o k hk => by rw [hW1]; exact World.there_setCells ((World.there_drew _ _ _ _).2 (hthX o k hk)) _ _ _
  have hcl : ∀ ty, (Builtin.clear_ #[22] ty #[.slice (some ⟨g, off + (i + (n - j)) * 2, none⟩) (n - (i + (n - j))) (c - (i + (n - j)))]).run Try.prog W1 = .ok (.tuple #[]) (W1.setCells g (off + (i + (n - j)) * 2) (Builtin.zeroCells zeroR.cells (n - (i + (n - j)))).toList) :=
    fun ty => run_clear_wide W1 _ _ ty zeroR 2 Try.underlying22 zeroVR rfl (by simp [zeroR, Value.cells, Value.oneCell']) g _ _ _ (by omega) (hth1 _ _ (by omega))
  have HPOST : Hid (OwnM (W1.setCells g (off + (i + (n - j)) * 2) (Builtin.zeroCells zeroR.cells (n - (i + (n - j)))).toList) base 31 2 (.slice (some ⟨g, off, none⟩) (i + (n - j)) c) (i + (n - j)) (xs.take (i * 2) ++ xs.drop (j * 2)) ∧ w.grownBy (W1.setCells g (off + (i + (n - j)) * 2) (Builtin.zeroCells zeroR.cells (n - (i + (n - j)))).toList) (some g)) := by
    obtain ⟨cur1, hb1, hs1⟩ := setCells_blk g 31 (0, 0) news (off + i * 2) w.drew cur hcur
    rw [← hW1] at hb1
    obtain ⟨cur2, hb2, hs2⟩ := setCells_blk g 31 (0, 0) (Builtin.zeroCells zeroR.cells (n - (i + (n - j)))).toList (off + (i + (n - j)) * 2) W1 cur1 hb1
    refine ⟨own_of ?_ hbg hb2 (by rw [hs2, hs1]; exact hcs) (by omega) hcm ?_, ?_⟩
    · rw [List.length_append, htl, hdl]; omega
    · refine range_append ?_ ?_
      · refine World.rangeAt_setCells_apart ?_ _ _ _ (.inr (.inl (by rw [htl]; omega)))
        rw [hW1]
        exact World.rangeAt_setCells_apart ((World.rangeAt_drew _ _ _ _).2 hr1) _ _ _ (.inr (.inl (by rw [htl]; omega)))
      · rw [htl]
        refine World.rangeAt_setCells_apart ?_ _ _ _ (.inr (.inl (by rw [hdl]; omega)))
        rw [hW1, hnews]
        exact World.rangeAt_setCells_same _ _ _ _ ((World.there_drew _ _ _ _).2 (hthX _ _ (by rw [hdl]; omega)))
    · rw [hW1]
      exact gr_trans (gr_trans (gr_drew _ _) (gr_setCells g _ _ _)) (gr_setCells g _ _ _)
  have hW : Hid (W1 = w.drew.setCells g (off + i * 2) news) := hW1
  obtain ⟨W2, hW2⟩ : ∃ W2, W2 = W1.setCells g (off + (i + (n - j)) * 2) (Builtin.zeroCells zeroR.cells (n - (i + (n - j)))).toList := ⟨_, rfl⟩
  rw [← hW2] at HPOST
  simp only [← hW2] at hcl
  clear hW2
  have hic : i ≤ c := by omega
  have hjc : j ≤ c := by omega
  have hne : ¬ ((i : Int) = (j : Int)) := by omega
  have hne2 : ¬ (i = j) := by omega
  clear hW1 ho hxl hcur hcs hrg hth hdl htl hx1 hx2 hr1 hr2 hthX hth1 hnews h1x hcm hbg hz0 hz2
  go_enter Try.func72, Try.ntmps72
  go_wp2_with fail
  go_region_law (refine step_append_room rfl (.tmp 22) (.tmp 25) 22 rfl 31 i0 2 Try.underlying22 hi0 hz1 g off i c (by simp [Act.eval, Act.put]) A (n - j) (c - j) news (by simp [Act.eval, Act.put]) s1.out hsrc.out s2.out (by omega) s3.out ?_; rw [← hW.out])
  go_wp2
  go_ret
  exact ⟨rfl, HPOST.out⟩
end Go.Proofs.Ytnjpjieedgmffaa.rlv
namespace Go.Proofs.Ytnjpjieedgmffaa.que
open Go.RowKit Go.Proofs.Ytnjpjieedgmffaa.spn Go.Proofs.Ytnjpjieedgmffaa.que Go.Proofs.Ytnjpjieedgmffaa.sid

theorem zeroVR (w : World) : (zeroValue 28).run Try.prog w = .ok zeroR w := by kernel_rfl

set_option maxRecDepth 100000 in
set_option maxHeartbeats 4000000 in
theorem delete_own (w : World) (base g off n c i j : Nat) (xs : List Value) (ho : OwnM w base 28 5 (.slice (some ⟨g, off, none⟩) n c) n xs) (hij : i < j) (hj : j ≤ n) (h1x : ∀ u ∈ xs, u.oneCell' = true) :
    Calls Try.prog 73 #[.slice (some ⟨g, off, none⟩) n c, .int .i64 i, .int .i64 j] w fun e w' => e = .returned (.slice (some ⟨g, off, none⟩) (i + (n - j)) c) ∧ OwnM w' base 28 5 (.slice (some ⟨g, off, none⟩) (i + (n - j)) c) (i + (n - j)) (xs.take (i * 5) ++ xs.drop (j * 5)) ∧ w.grownBy w' (some g) := by
  obtain ⟨hxl, hbg, ⟨cur, hcur, hcs⟩, hnc, hcm, hrg, hth⟩ := own_range ho
  have hc63 : c ≤ 9223372036854775807 := by simpa [maxLen] using hcm
  obtain ⟨i0, hi0, hz0, hz1, hz2⟩ := que.infoR'
  have hdl : (xs.drop (j * 5)).length = (n - j) * 5 := by rw [List.length_drop, hxl]; omega
  have htl : (xs.take (i * 5)).length = i * 5 := by rw [List.length_take, hxl]; omega
  have hx1 : xs = xs.take (i * 5) ++ xs.drop (i * 5) := (List.take_append_drop _ _).symm
  have hx2 : xs = xs.take (j * 5) ++ xs.drop (j * 5) := (List.take_append_drop _ _).symm
  have hr1 : w.rangeAt g off (xs.take (i * 5)) := by rw [hx1] at hrg; exact range_left hrg
  have hr2 : w.rangeAt g (off + j * 5) (xs.drop (j * 5)) := by
    rw [hx2] at hrg; have := range_right hrg; rwa [List.length_take, hxl, Nat.min_eq_left (by omega)] at this
  have hthX : ∀ o k, o + k ≤ c * 5 → w.there g (off + o) k := fun o k hk q hq => by rw [Nat.add_assoc]; exact hth (o + q) (by omega)
  obtain ⟨news, hnews⟩ : ∃ news, news = xs.drop (j * 5) := ⟨_, rfl⟩
  obtain ⟨A, hA, hsrc⟩ : ∃ A : Addr, (if c = j then some (⟨g, off, none⟩ : Addr) else some ⟨g, off + j * 5, none⟩) = some A ∧ Hid (∀ t u, news[t]? = some u → w.drew.cell? (A.add t) = some u) := by
    by_cases h : c = j
    · refine ⟨⟨g, off, none⟩, by simp [h], fun t u hu => ?_⟩
      have h0 : news.length = 0 := by rw [hnews, hdl]; omega
      rw [List.length_eq_zero_iff.1 h0] at hu
      simp at hu
    · refine ⟨⟨g, off + j * 5, none⟩, by simp [h], fun t u hu => ?_⟩
      rw [Addr.add_lit]
      rw [hnews] at hu
      exact hr2 t u hu
  have s1 : Hid (news.length = (n - j) * 5) := by show _ = _; rw [hnews, hdl]
  have s2 : Hid (∀ u ∈ news, u.oneCell' = true) := fun u hu => h1x u (List.mem_of_mem_drop (by rw [hnews] at hu; exact hu))
  have s3 : Hid (∀ t, t < news.length → (w.drew.cell? ⟨g, off + i * 5 + t, none⟩).isSome = true ∧ w.drew.frozen? ⟨g, off + i * 5 + t, none⟩ = false) := fun t ht => by
    have ht2 : t < (n - j) * 5 := by rw [hnews, hdl] at ht; exact ht
    exact hthX (i * 5) ((n - j) * 5) (by omega) t ht2
  obtain ⟨W1, hW1⟩ : ∃ W1, W1 = w.drew.setCells g (off + i * 5) news := ⟨_, rfl⟩
  have hth1 : ∀ o k, o + k ≤ c * 5 → W1.there g (off + o) k := fun o k hk => by rw [hW1]; exact World.there_setCells ((World.there_drew _ _ _ _).2 (hthX o k hk)) _ _ _
  have hcl : ∀ ty, (Builtin.clear_ #[29] ty #[.slice (some ⟨g, off + (i + (n - j)) * 5, none⟩) (n - (i + (n - j))) (c - (i + (n - j)))]).run Try.prog W1 = .ok (.tuple #[]) (W1.setCells g (off + (i + (n - j)) * 5) (Builtin.zeroCells zeroR.cells (n - (i + (n - j)))).toList) :=
    fun ty => run_clear_wide W1 _ _ ty zeroR 5 Try.underlying29 zeroVR rfl (by simp [zeroR, Value.cells, Value.oneCell']) g _ _ _ (by omega) (hth1 _ _ (by omega))
  have HPOST : Hid (OwnM (W1.setCells g (off + (i + (n - j)) * 5) (Builtin.zeroCells zeroR.cells (n - (i + (n - j)))).toList) base 28 5 (.slice (some ⟨g, off, none⟩) (i + (n - j)) c) (i + (n - j)) (xs.take (i * 5) ++ xs.drop (j * 5)) ∧ w.grownBy (W1.setCells g (off + (i + (n - j)) * 5) (Builtin.zeroCells zeroR.cells (n - (i + (n - j)))).toList) (some g)) := by
    obtain ⟨cur1, hb1, hs1⟩ := setCells_blk g 28 (0, 0) news (off + i * 5) w.drew cur hcur
    rw [← hW1] at hb1
    obtain ⟨cur2, hb2, hs2⟩ := setCells_blk g 28 (0, 0) (Builtin.zeroCells zeroR.cells (n - (i + (n - j)))).toList (off + (i + (n - j)) * 5) W1 cur1 hb1
    refine ⟨own_of ?_ hbg hb2 (by rw [hs2, hs1]; exact hcs) (by omega) hcm ?_, ?_⟩
    · rw [List.length_append, htl, hdl]; omega
    · refine range_append ?_ ?_
      · refine World.rangeAt_setCells_apart ?_ _ _ _ (.inr (.inl (by rw [htl]; omega)))
        rw [hW1]
        exact World.rangeAt_setCells_apart ((World.rangeAt_drew _ _ _ _).2 hr1) _ _ _ (.inr (.inl (by rw [htl]; omega)))
      · rw [htl]
        refine World.rangeAt_setCells_apart ?_ _ _ _ (.inr (.inl (by rw [hdl]; omega)))
        rw [hW1, hnews]
        exact World.rangeAt_setCells_same _ _ _ _ ((World.there_drew _ _ _ _).2 (hthX _ _ (by rw [hdl]; omega)))
    · rw [hW1]
      exact gr_trans (gr_trans (gr_drew _ _) (gr_setCells g _ _ _)) (gr_setCells g _ _ _)
  have hW : Hid (W1 = w.drew.setCells g (off + i * 5) news) := hW1
  obtain ⟨W2, hW2⟩ : ∃ W2, W2 = W1.setCells g (off + (i + (n - j)) * 5) (Builtin.zeroCells zeroR.cells (n - (i + (n - j)))).toList := ⟨_, rfl⟩
  rw [← hW2] at HPOST
  simp only [← hW2] at hcl
  clear hW2
  have hic : i ≤ c := by omega
  have hjc : j ≤ c := by omega
  have hne : ¬ ((i : Int) = (j : Int)) := by omega
  have hne2 : ¬ (i = j) := by omega
  clear hW1 ho hxl hcur hcs hrg hth hdl htl hx1 hx2 hr1 hr2 hthX hth1 hnews h1x hcm hbg hz0 hz2
  go_enter Try.func73, Try.ntmps73
  go_wp2_with fail
  go_region_law (refine step_append_room rfl (.tmp 22) (.tmp 25) 29 rfl 28 i0 5 Try.underlying29 hi0 hz1 g off i c (by simp [Act.eval, Act.put]) A (n - j) (c - j) news (by simp [Act.eval, Act.put]) s1.out hsrc.out s2.out (by omega) s3.out ?_; rw [← hW.out])
  go_wp2
  go_ret
  exact ⟨rfl, HPOST.out⟩
end Go.Proofs.Ytnjpjieedgmffaa.que
namespace Go.Proofs.Ytnjpjieedgmffaa.sid
open Go.RowKit Go.Proofs.Ytnjpjieedgmffaa.spn Go.Proofs.Ytnjpjieedgmffaa.que Go.Maps

theorem qflat_take (zs : List R) (i : Nat) : flat (zs.take i) = (flat zs).take (i * 5) := by
  induction zs generalizing i with
  | nil => simp [flat]
  | cons r t ih =>
    cases i with
    | zero => simp [flat]
    | succ i => rw [List.take_succ_cons, flat_cons, flat_cons, ih, show (i + 1) * 5 = (rV r).length + i * 5 by show _ = 5 + i * 5; omega, List.take_length_add_append]
theorem qflat_drop (zs : List R) (i : Nat) : flat (zs.drop i) = (flat zs).drop (i * 5) := by
  induction zs generalizing i with
  | nil => simp [flat]
  | cons r t ih =>
    cases i with
    | zero => simp
    | succ i => rw [List.drop_succ_cons, flat_cons, ih, show (i + 1) * 5 = (rV r).length + i * 5 by show _ = 5 + i * 5; omega, List.drop_length_add_append]
/-- A level is gone. -/
theorem DeepT.delete {w w' : World} {base : Nat} {v v' : Value} {a : List RP} {x : RP} {b : List RP} (h : Deep w base v (a ++ x :: b)) (ho : rlv.OwnQ w' base v' ((a ++ b).map (·.1))) (hg : w.grownBy w' v.ownBlock) (hv : v'.ownBlock = v.ownBlock) : Deep w' base v' (a ++ b) := by
  have hm : ∀ y ∈ a ++ b, y ∈ a ++ x :: b := fun y hy => by
    rcases List.mem_append.1 hy with hy | hy <;> simp [hy]
  refine ⟨by rw [List.append_nil]; exact ho, fun y hy => kept_of (h.each y (hm y hy)) hg (fun z hz => h.far y (hm y hy) z hz), ?_, fun y hy z hz => by rw [hv]; exact h.far y (hm y hy) z hz⟩
  obtain ⟨p1, p2, p3⟩ := List.pairwise_append.1 h.apart
  exact List.pairwise_append.2 ⟨p1, (List.pairwise_cons.1 p2).2, fun y hy z hz => p3 y hy z (by simp [hz])⟩

/-- What Drop answers. -/
def dropE (s : Int) (ls : List L) (id : Int) : List L := if findE s ls id = 0 then dropL ls (findP s ls id).1.toNat (findP s ls id).2.toNat else []
def dropRest (s : Int) (ls : List L) (id : Int) : R := if findE s ls id = 0 then ls[(findP s ls id).1.toNat]!.rests[(findP s ls id).2.toNat]! else ⟨0, 0, 0, 0, 0⟩
def dropPrice (s : Int) (ls : List L) (id : Int) : Int := if findE s ls id = 0 then ls[(findP s ls id).1.toNat]!.price else 0
def DropPost (s : Int) (ls : List L) (id : Int) (w : World) (x : Ending) (w' : World) : Prop :=
  Below w.heap.size w w' ∧ ∃ v', x = .returned (.tuple #[v', .agg (rV (dropRest s ls id)).toArray, .int .i64 (dropPrice s ls id), errV (findE s ls id)]) ∧ DL w' w.heap.size v' (dropE s ls id)

theorem drop_err (s : Int) (vq : Option Addr) (vm vc : Nat) (ls : List L) (id : Int) (w : World) (h : LS w (.slice vq vm vc) ls) (hid : (Lit.int .i64 id).wf = true) (h0 : ¬ findE s ls id = 0) :
    Calls Try.prog 60 #[.int .i64 s, .slice vq vm vc, .int .i64 id] w fun x w' => DropPost s ls id w x w' := by
  have HC := fun W (hW : Below w.heap.size w W) => find_any s _ ls id W (h.below hW) hid
  have hf : findV s ls id = .tuple #[.int .i64 0, .int .i64 0, .iface 64 (.int .i64 (findE s ls id))] := by
    unfold findV findP; rw [if_neg h0, errV_of h0]
  rw [hf] at HC
  have HP : Hid (∀ W, Below w.heap.size w W → DropPost s ls id w (.returned (.tuple #[.slice none 0 0, .agg #[.int .i64 0, .int .i64 0, .int .i64 0, .int .i64 0, .int .i64 0], .int .i64 0, .iface 64 (.int .i64 (findE s ls id))])) W) := fun W hW => by
    refine ⟨hW, .slice none 0 0, ?_, ?_⟩
    · unfold dropRest dropPrice; rw [if_neg h0, if_neg h0, errV_of h0]; rfl
    · unfold dropE; rw [if_neg h0]; exact dl_nil _ _
  generalize DropPost s ls id w = POST at *
  generalize findE s ls id = k at *
  clear h hid h0 hf
  go_enter Try.func60, Try.ntmps60
  go_wp2_with fail
  refine (HC _ ((Below.refl _ _).alloc (Nat.le_refl _) _)).mono ?_
  rintro x w1 ⟨rfl, hb1⟩
  have hB : Below w.heap.size w w1 := ((Below.refl _ _).alloc (Nat.le_refl _) _).trans (hb1.mono (by simp))
  have hR1 : w1.heap[w.heap.size]? = some (.cells #[.int .i64 0, .int .i64 0, .int .i64 0, .int .i64 0, .int .i64 0] 28 (0, 0)) := by
    rw [hb1.block w.heap.size (by simp)]
    exact heap_alloc_new w _
  clear hb1 HC
  obtain ⟨c0, c1, c2, c3, c4, hf⟩ := rowFive hR1
  have f0 := hf 0
  have f1 := hf 1
  have f2 := hf 2
  have f3 := hf 3
  have f4 := hf 4
  clear hf
  have HX := setFive hR1 (.int .i64 0) (.int .i64 0) (.int .i64 0) (.int .i64 0) (.int .i64 0)
  have HBX : Below w.heap.size w (((((w1.setCell ⟨w.heap.size, 0, none⟩ (.int .i64 0)).setCell ⟨w.heap.size, 1, none⟩ (.int .i64 0)).setCell ⟨w.heap.size, 2, none⟩ (.int .i64 0)).setCell ⟨w.heap.size, 3, none⟩ (.int .i64 0)).setCell ⟨w.heap.size, 4, none⟩ (.int .i64 0)) := ((((hB.setCell (Nat.le_refl _) _).setCell (Nat.le_refl _) _).setCell (Nat.le_refl _) _).setCell (Nat.le_refl _) _).setCell (Nat.le_refl _) _
  go_wp2_with fail
  generalize (((((w1.setCell ⟨w.heap.size, 0, none⟩ (.int .i64 0)).setCell ⟨w.heap.size, 1, none⟩ (.int .i64 0)).setCell ⟨w.heap.size, 2, none⟩ (.int .i64 0)).setCell ⟨w.heap.size, 3, none⟩ (.int .i64 0)).setCell ⟨w.heap.size, 4, none⟩ (.int .i64 0)) = V at *
  obtain ⟨d0, d1, d2, d3, d4, -⟩ := rowFive HX
  clear HX
  exact bodyPost_ret (v := .tuple #[.slice none 0 0, .agg #[.int .i64 0, .int .i64 0, .int .i64 0, .int .i64 0, .int .i64 0], .int .i64 0, .iface 64 (.int .i64 k)]) (by simp [results, Try.results60, go_sem, d0, d1, d2, d3, d4]) rfl (HP.out V HBX)
end Go.Proofs.Ytnjpjieedgmffaa.sid
