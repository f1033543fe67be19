/- Contracts over this seat's translation: the document's Kept and Join. -/
import Derived.Test.YtalhdjlopkdnbaaGreatDoorKinRest
import Derived.Test.YtalhdjlopkdnbaaGreatDoorSidRef9
import Derived.Test.YtalhdjlopkdnbaaGreatDoorBokRef1
import Derived.Test.YtalhdjlopkdnbaaGreatDoorMeeOwn
import Derived.Test.YtalhdjlopkdnbaaGreatDoorMeeHid
namespace Go.Proofs.YtalhdjlopkdnbaaGreatDoor.kin
open Go.RowKit Go.Proofs.YtalhdjlopkdnbaaGreatDoor.spn Go.Proofs.YtalhdjlopkdnbaaGreatDoor.que Go.Proofs.YtalhdjlopkdnbaaGreatDoor.sid Go.Proofs.YtalhdjlopkdnbaaGreatDoor.bok Go.Proofs.YtalhdjlopkdnbaaGreatDoor.mee
open Go.Proofs.YtalhdjlopkdnbaaGreatDoor.ord (O oV mB mE chk meets_any)
open Go.Proofs.YtalhdjlopkdnbaaGreatDoor.tickP (priceB sideB betOk betR)

/-- No level, and no rest, is read in a block. -/
def NoL (w : World) (X : Nat) : Prop := ∀ j p q n c, w.cell? ⟨X, j, none⟩ = some (.int .i64 p) → w.cell? ⟨X, j + 1, none⟩ = some (.slice q n c) → p < 1
def NoR (w : World) (X : Nat) : Prop := ∀ j a b c, w.cell? ⟨X, j, none⟩ = some (.int .i64 a) → w.cell? ⟨X, j + 1, none⟩ = some (.int .i64 b) → w.cell? ⟨X, j + 2, none⟩ = some (.int .i64 c) → False
theorem two_no {w : World} {X : Nat} {q1 q2 : Option Addr} {n1 n2 c1 c2 : Nat} {t : TypeId} (h : w.heap[X]? = some (.cells #[.slice q1 n1 c1, .slice q2 n2 c2] t (0, 0))) : NoL w X ∧ NoR w X := by
  have e : ∀ j, w.cell? ⟨X, j, none⟩ = (#[.slice q1 n1 c1, .slice q2 n2 c2] : Array Value)[j]? := fun j => by simp [World.cell?, h]
  refine ⟨fun j p q n c h1 _ => ?_, fun j a b c h1 _ _ => ?_⟩
  · rw [e] at h1
    match j, h1 with
    | 0, h1 => simp at h1
    | 1, h1 => simp at h1
    | j + 2, h1 => simp at h1
  · rw [e] at h1
    match j, h1 with
    | 0, h1 => simp at h1
    | 1, h1 => simp at h1
    | j + 2, h1 => simp at h1
theorem met_no {w : World} {X : Nat} {q1 q2 q3 q4 : Option Addr} {n1 n2 n3 n4 c1 c2 c3 c4 : Nat} {l : Int} {b : Bool} {t : TypeId} (h : w.heap[X]? = some (.cells #[.slice q1 n1 c1, .slice q2 n2 c2, .slice q3 n3 c3, .int .i64 l, .int .i64 0, .slice q4 n4 c4, .bool b] t (0, 0))) : NoL w X ∧ NoR w X := by
  have e : ∀ j, w.cell? ⟨X, j, none⟩ = (#[.slice q1 n1 c1, .slice q2 n2 c2, .slice q3 n3 c3, .int .i64 l, .int .i64 0, .slice q4 n4 c4, .bool b] : Array Value)[j]? := fun j => by simp [World.cell?, h]
  refine ⟨fun j p q n c h1 h2 => ?_, fun j a b c h1 h2 h3 => ?_⟩
  · rw [e] at h1 h2
    match j, h1, h2 with
    | 0, h1, _ => simp at h1
    | 1, h1, _ => simp at h1
    | 2, h1, _ => simp at h1
    | 3, _, h2 => simp at h2
    | 4, h1, _ => simp at h1; omega
    | 5, h1, _ => simp at h1
    | 6, h1, _ => simp at h1
    | j + 7, h1, _ => simp at h1
  · rw [e] at h1 h2 h3
    match j, h1, h2, h3 with
    | 0, h1, _, _ => simp at h1
    | 1, h1, _, _ => simp at h1
    | 2, h1, _, _ => simp at h1
    | 3, _, _, h3 => simp at h3
    | 4, _, h2, _ => simp at h2
    | 5, h1, _, _ => simp at h1
    | 6, h1, _, _ => simp at h1
    | j + 7, h1, _, _ => simp at h1
/-- A side that is right stands while such a block is written. -/
theorem ls_off {w w' : World} {X : Nat} {v : Value} {ls : List L} (h : LS w v ls) (hg : w.grownBy w' (some X)) (hn : NoL w X ∧ NoR w X) (hl : ∀ l ∈ ls, lchk l = 0) : LS w' v ls := by
  rcases h with h | ⟨b, o, c, h1, h2, h3, h4, h5⟩
  · exact .inl h
  · refine .inr ⟨b, o, c, h1, h2, h3, Nat.lt_of_lt_of_le h4 hg.size, fun k hk => ?_⟩
    obtain ⟨a0, u, a1, a2⟩ := h5 k hk
    have hlk := hl ls[k]! (by rw [getE _ _ hk]; exact List.getElem_mem hk)
    obtain ⟨hp, hne, hqk⟩ := lchk_zero hlk
    have hb : b ≠ X := by
      intro e
      subst e
      obtain ⟨q, n, hv⟩ := sl_form a2
      subst hv
      have := hn.1 _ _ _ _ _ a0 a1
      omega
    refine ⟨gr_at a0 hg hb, u, gr_at a1 hg hb, ?_⟩
    rcases a2 with (a2 | ⟨b2, o2, c2, g1, g2, g3, g4, g5⟩) | a2
    · exact .inl (.inl a2)
    · refine .inl (.inr ⟨b2, o2, c2, g1, g2, g3, Nat.lt_of_lt_of_le g4 hg.size, fun j hj i x hx => ?_⟩)
      have hb2 : b2 ≠ X := by
        intro e
        subst e
        have e0 := g5 j hj 0 _ rfl
        have e1 := g5 j hj 1 _ rfl
        have e2 := g5 j hj 2 _ rfl
        exact hn.2 _ _ _ _ e0 e1 e2
      exact gr_at (g5 j hj i x hx) hg hb2
    · exact .inr a2
theorem book_lv {bs ss : List L} (h : bookE bs ss = 0) : (∀ l ∈ bs, lchk l = 0) ∧ (∀ l ∈ ss, lchk l = 0) := by
  obtain ⟨e1, e2, -⟩ := book_zero h
  exact ⟨sgo_each (schk_zero e1).2.1, sgo_each (schk_zero e2).2.1⟩

set_option maxRecDepth 100000 in
set_option maxHeartbeats 2000000 in
theorem rkept_any (a b c d p q s t k : Int) (w : World) (hs : 0 ≤ s) (hs2 : s ≤ 10000) (hk : 1 ≤ k) (hk2 : k ≤ 10000) :
    Calls Tryz.prog 36 #[.agg #[.int .i64 a, .int .i64 b, .int .i64 c, .int .i64 d, .int .i64 p, .int .i64 q, .int .i64 s, .int .i64 t], .int .i64 k] w fun e w' => e = .returned (rB (keptR ⟨a, b, c, d, p, q, s, t⟩ k)) ∧ Below w.heap.size w w' := by
  obtain ⟨V2, hV2⟩ : ∃ V2, V2 = w.alloc (.cells #[.int .i64 a, .int .i64 b, .int .i64 c, .int .i64 d, .int .i64 p, .int .i64 q, .int .i64 s, .int .i64 t] 60) := ⟨_, rfl⟩
  have hs2' : V2.heap.size = w.heap.size + 1 := by rw [hV2]; simp
  have hB2 : Below w.heap.size w V2 := by rw [hV2]; exact (Below.refl _ _).alloc (Nat.le_refl _) _
  have hO2 : V2.heap[w.heap.size]? = some (.cells #[.int .i64 a, .int .i64 b, .int .i64 c, .int .i64 d, .int .i64 p, .int .i64 q, .int .i64 s, .int .i64 t] 60 (0, 0)) := by rw [hV2]; exact heap_alloc_new w _
  obtain ⟨V3, hV3⟩ : ∃ V3, V3 = V2.alloc (.cells #[.int .i64 0, .int .i64 0, .int .i64 0, .int .i64 0, .int .i64 0] 26) := ⟨_, rfl⟩
  have hs3 : V3.heap.size = w.heap.size + 2 := by rw [hV3]; simp [hs2']
  have hB3 : Below V2.heap.size V2 V3 := by rw [hV3]; exact (Below.refl _ _).alloc (Nat.le_refl _) _
  have hR3 : V3.heap[w.heap.size + 1]? = some (.cells #[.int .i64 0, .int .i64 0, .int .i64 0, .int .i64 0, .int .i64 0] 26 (0, 0)) := by rw [← hs2', hV3]; exact heap_alloc_new V2 _
  obtain ⟨V, hV⟩ : ∃ V, V = V3.alloc (.cells #[.int .i64 a, .int .i64 b, .int .i64 k, .int .i64 0, .int .i64 s] 26) := ⟨_, rfl⟩
  have hBV : Below V3.heap.size V3 V := by rw [hV]; exact (Below.refl _ _).alloc (Nat.le_refl _) _
  have hRV : V.heap[w.heap.size + 2]? = some (.cells #[.int .i64 a, .int .i64 b, .int .i64 k, .int .i64 0, .int .i64 s] 26 (0, 0)) := by rw [← hs3, hV]; exact heap_alloc_new V3 _
  have hR0 := (hBV.block (w.heap.size + 1) (by omega)).trans hR3
  have hO0 : V.heap[w.heap.size]? = some (.cells #[.int .i64 a, .int .i64 b, .int .i64 c, .int .i64 d, .int .i64 p, .int .i64 q, .int .i64 s, .int .i64 t] 60 (0, 0)) := by rw [hBV.block _ (by omega), hB3.block _ (by omega)]; exact hO2
  have HB : Hid (Below w.heap.size w V) := by
    have h := hB2.trans (hB3.mono hB2.size)
    exact h.trans (hBV.mono h.size)
  obtain ⟨P, hP⟩ : ∃ P, P = w.heap.size + 1 := ⟨_, rfl⟩
  obtain ⟨Q, hQ⟩ : ∃ Q, Q = w.heap.size + 2 := ⟨_, rfl⟩
  rw [← hP] at hR0
  rw [← hQ] at hRV
  have HP := hidK (show P = w.heap.size + 1 ∧ Q = w.heap.size + 2 from ⟨hP, hQ⟩)
  have cel : ∀ i, V.cell? ⟨w.heap.size, i, none⟩ = (#[.int .i64 a, .int .i64 b, .int .i64 c, .int .i64 d, .int .i64 p, .int .i64 q, .int .i64 s, .int .i64 t] : Array Value)[i]? := fun i => by simp [World.cell?, hO0]
  have c6 := cel 6
  simp only [List.getElem?_toArray, List.getElem?_cons_zero, List.getElem?_cons_succ] at c6
  clear hs2' hB2 hO2 hs3 hB3 hR3 hBV hO0 cel
  obtain ⟨d0, d1, d2, d3, d4, df⟩ := rowFive hRV
  have df2 := df 2
  have df3 := df 3
  by_cases hbig : 0 < s ∧ s < k
  · have h1 : 0 < s := hbig.1
    have h2 : s < k := hbig.2
    obtain ⟨y, hy⟩ : ∃ y, k - s = y := ⟨_, rfl⟩
    have E1 : Hid (wrap64 (k - s) = y) := by show _ = _; rw [← hy]; unfold wrap64; omega
    have hkr : Hid (rB (keptR ⟨a, b, c, d, p, q, s, t⟩ k) = .agg #[.int .i64 a, .int .i64 b, .int .i64 s, .int .i64 y, .int .i64 s]) := by
      show _ = _
      have e : shownK ⟨a, b, c, d, p, q, s, t⟩ k = s := by unfold shownK; rw [if_neg (show ¬ s = 0 by omega)]; show min s k = s; omega
      unfold keptR rB
      rw [e, hy]
    clear hbig hs hs2 hk hk2 hy df
    go_enter Tryz.func36, Tryz.ntmps36
    go_upto_region 2 with fail
    rw [← hV2, ← hV3, ← hV]
    simp only [← hQ]
    simp only [← hP]
    clear hV2 hV3 hV hP hQ
    have x1 := E1.out
    go_upto_region 5 with fail
    have hg1 : V.grownBy ((V.setCell ⟨Q, 2, none⟩ (.int .i64 s)).setCell ⟨Q, 3, none⟩ (.int .i64 y)) (some Q) := gr_trans (gr_setCell _ _ _ _) (gr_setCell _ _ _ _)
    have hRW : ((V.setCell ⟨Q, 2, none⟩ (.int .i64 s)).setCell ⟨Q, 3, none⟩ (.int .i64 y)).heap[Q]? = some (.cells #[.int .i64 a, .int .i64 b, .int .i64 s, .int .i64 y, .int .i64 s] 26 (0, 0)) := by
      have h0 := heap_setCell_same _ Q 2 _ _ (.int .i64 s) hRV
      simp only [List.setIfInBounds_toArray, List.set_cons_zero, List.set_cons_succ] at h0
      have h1 := heap_setCell_same _ Q 3 _ _ (.int .i64 y) h0
      simp only [List.setIfInBounds_toArray, List.set_cons_zero, List.set_cons_succ] at h1
      exact h1
    have hRP := (hg1.block P (Array.getElem?_eq_some_iff.1 hR0).1 (fun e => by cases e; have := HP.out; omega)).trans hR0
    have HBW := hidK (HB.out.grown hg1 HB.out.size (fun k hk => by cases hk; have := HP.out; omega))
    clear hg1 d0 d1 d2 d3 d4 df2 df3 c6 x1 hR0 hRV HB
    generalize (V.setCell ⟨Q, 2, none⟩ (.int .i64 s)).setCell ⟨Q, 3, none⟩ (.int .i64 y) = W at *
    obtain ⟨d0, d1, d2, d3, d4, -⟩ := rowFive hRW
    obtain ⟨z0, z1, z2, z3, z4, zf⟩ := rowFive hRP
    have f0 := zf 0
    have f1 := zf 1
    have f2 := zf 2
    have f3 := zf 3
    have f4 := zf 4
    have HHX := hidK (setFive hRP (.int .i64 a) (.int .i64 b) (.int .i64 s) (.int .i64 y) (.int .i64 s))
    have hg := grFive W P (.int .i64 a) (.int .i64 b) (.int .i64 s) (.int .i64 y) (.int .i64 s)
    have HPO := hidK (HBW.out.grown hg HBW.out.size (fun k hk => by cases hk; have := HP.out; omega))
    clear hg zf hRP hRW
    go_wp2_with fail
    generalize (((((W.setCell ⟨P, 0, none⟩ (.int .i64 a)).setCell ⟨P, 1, none⟩ (.int .i64 b)).setCell ⟨P, 2, none⟩ (.int .i64 s)).setCell ⟨P, 3, none⟩ (.int .i64 y)).setCell ⟨P, 4, none⟩ (.int .i64 s)) = X at *
    obtain ⟨y0, y1, y2, y3, y4, -⟩ := rowFive HHX.out
    exact bodyPost_ret (v := .agg #[.int .i64 a, .int .i64 b, .int .i64 s, .int .i64 y, .int .i64 s]) (by simp [results, Tryz.results36, go_sem, y0, y1, y2, y3, y4]) rfl ⟨by rw [hkr.out], HPO.out⟩
  · have hkr : Hid (rB (keptR ⟨a, b, c, d, p, q, s, t⟩ k) = .agg #[.int .i64 a, .int .i64 b, .int .i64 k, .int .i64 0, .int .i64 s]) := by
      show _ = _
      have e : shownK ⟨a, b, c, d, p, q, s, t⟩ k = k := by
        unfold shownK
        by_cases h0 : s = 0
        · rw [if_pos h0]
        · rw [if_neg h0]; show min s k = k; omega
      unfold keptR rB
      rw [e, show k - k = 0 by omega]
    have HHX := hidK (setFive hR0 (.int .i64 a) (.int .i64 b) (.int .i64 k) (.int .i64 0) (.int .i64 s))
    have hg := grFive V P (.int .i64 a) (.int .i64 b) (.int .i64 k) (.int .i64 0) (.int .i64 s)
    have HPO := hidK (HB.out.grown hg HB.out.size (fun k hk => by cases hk; have := HP.out; omega))
    obtain ⟨z0, z1, z2, z3, z4, zf⟩ := rowFive hR0
    have f0 := zf 0
    have f1 := zf 1
    have f2 := zf 2
    have f3 := zf 3
    have f4 := zf 4
    by_cases h1 : 0 < s
    · have h2 : ¬ s < k := fun h => hbig ⟨h1, h⟩
      clear hbig hs hs2 hk hk2 df zf hg hR0 hRV df2 df3
      go_enter Tryz.func36, Tryz.ntmps36
      go_upto_region 2 with fail
      rw [← hV2, ← hV3, ← hV]
      simp only [← hQ]
      simp only [← hP]
      clear hV2 hV3 hV hP hQ
      go_wp2_with fail
      generalize (((((V.setCell ⟨P, 0, none⟩ (.int .i64 a)).setCell ⟨P, 1, none⟩ (.int .i64 b)).setCell ⟨P, 2, none⟩ (.int .i64 k)).setCell ⟨P, 3, none⟩ (.int .i64 0)).setCell ⟨P, 4, none⟩ (.int .i64 s)) = X at *
      obtain ⟨y0, y1, y2, y3, y4, -⟩ := rowFive HHX.out
      exact bodyPost_ret (v := .agg #[.int .i64 a, .int .i64 b, .int .i64 k, .int .i64 0, .int .i64 s]) (by simp [results, Tryz.results36, go_sem, y0, y1, y2, y3, y4]) rfl ⟨by rw [hkr.out], HPO.out⟩
    · clear hbig hs hs2 hk hk2 df zf hg hR0 hRV df2 df3
      go_enter Tryz.func36, Tryz.ntmps36
      go_upto_region 2 with fail
      rw [← hV2, ← hV3, ← hV]
      simp only [← hQ]
      simp only [← hP]
      clear hV2 hV3 hV hP hQ
      go_wp2_with fail
      generalize (((((V.setCell ⟨P, 0, none⟩ (.int .i64 a)).setCell ⟨P, 1, none⟩ (.int .i64 b)).setCell ⟨P, 2, none⟩ (.int .i64 k)).setCell ⟨P, 3, none⟩ (.int .i64 0)).setCell ⟨P, 4, none⟩ (.int .i64 s)) = X at *
      obtain ⟨y0, y1, y2, y3, y4, -⟩ := rowFive HHX.out
      exact bodyPost_ret (v := .agg #[.int .i64 a, .int .i64 b, .int .i64 k, .int .i64 0, .int .i64 s]) (by simp [results, Tryz.results36, go_sem, y0, y1, y2, y3, y4]) rfl ⟨by rw [hkr.out], HPO.out⟩
end Go.Proofs.YtalhdjlopkdnbaaGreatDoor.kin
