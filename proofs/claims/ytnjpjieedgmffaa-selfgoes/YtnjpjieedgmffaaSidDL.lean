/- Plain facts: a side in memory of its own, from a block on; where an id stands. No walk. -/
import Derived.Test.YtnjpjieedgmffaaSidPut
namespace Go.Proofs.Ytnjpjieedgmffaa.sid
open Go.RowKit Go.Proofs.Ytnjpjieedgmffaa.spn Go.Proofs.Ytnjpjieedgmffaa.que Go.Maps
open Go.Proofs.Ytnjpjieedgmffaa.tickP (errB priceB sideB betOk betR tprice_V)

theorem DeepT.mono {w : World} {base base' : Nat} {v : Value} {ps : List RP} {tl : List rlv.RL} (h : DeepT w base v ps tl) (hb : base' ≤ base) : DeepT w base' v ps tl :=
  ⟨OwnM.mono h.own hb, fun p hp => OwnM.mono (h.each p hp) hb, h.apart, h.far⟩
/-- A level's rests have become others, in their block or in a new one. -/
theorem DeepT.swap {w w1 : World} {base g off n cap : Nat} {a : List RP} {x : RP} {b : List RP} {q : Option Addr} {m c : Nat} {zs : List R} (h : Deep w base (.slice (some ⟨g, off, none⟩) n cap) (a ++ x :: b)) (hg : w.grownBy w1 (blkR x.1))
    (ho : OwnQ w1 base (.slice q m c) zs) (hv : (Value.slice q m c).ownBlock = blkR x.1 ∨ ∃ k, (Value.slice q m c).ownBlock = some k ∧ w.heap.size ≤ k) :
    Deep (w1.setCell ⟨g, off + a.length * 2 + 1, none⟩ (.slice q m c)) base (.slice (some ⟨g, off, none⟩) n cap) (a ++ (⟨x.1.price, q, m, c⟩, zs) :: b) := by
  have hgs := gr_setCell w1 g (off + a.length * 2 + 1) (.slice q m c)
  have hxm : x ∈ a ++ x :: b := by simp
  have hn : n = (a ++ x :: b).length := by
    obtain ⟨q', c', e⟩ := OwnM.form h.own; rw [List.append_nil, List.length_map] at e; cases e; rfl
  obtain ⟨p1, p2, p3⟩ := List.pairwise_append.1 h.apart
  obtain ⟨p4, p5⟩ := List.pairwise_cons.1 p2
  have hgl : g < w.heap.size := (OwnM.lt h.own g rfl).2
  -- what a block of another level is not
  have hoth : ∀ y, y ∈ a ∨ y ∈ b → ∀ z, blkR y.1 = some z → blkR x.1 ≠ some z ∧ (Value.slice q m c).ownBlock ≠ some z := fun y hy z hz => by
    have h1 : blkR x.1 ≠ some z := by
      rcases hy with hy | hy
      · exact p3 y hy x (by simp) z hz
      · exact fun e => p4 y hy z e hz
    refine ⟨h1, ?_⟩
    rcases hv with e | ⟨k, e, hk⟩
    · rw [e]; exact h1
    · rw [e]; intro e2
      have e3 : k = z := by simpa using e2
      have := (OwnM.lt (h.each y (by rcases hy with hy | hy <;> simp [hy])) z hz).2
      omega
  have hng : (Value.slice q m c).ownBlock ≠ some g := by
    rcases hv with e | ⟨k, e, hk⟩
    · rw [e]; intro e2; exact h.far x hxm g e2 rfl
    · rw [e]; intro e2; have e3 : k = g := by simpa using e2
      omega
  have hfar : ∀ y, y ∈ a ∨ y ∈ b → OwnQ (w1.setCell ⟨g, off + a.length * 2 + 1, none⟩ (.slice q m c)) base (sv y.1) y.2 := fun y hy => by
    have hy2 : y ∈ a ++ x :: b := by rcases hy with hy | hy <;> simp [hy]
    exact kept_of (kept_of (h.each y hy2) hg (fun z hz => (hoth y hy z hz).1)) hgs (fun z hz => h.far y hy2 z hz)
  refine ⟨?_, ?_, ?_, ?_⟩
  · have ho1 := kept_of h.own hg (fun z hz e => h.far x hxm z e hz)
    rw [List.append_nil, List.map_append, List.map_cons] at ho1 ⊢
    have hn2 : n = (a.map (·.1) ++ x.1 :: b.map (·.1)).length := by rw [hn]; simp
    rw [← hn2] at ho1
    have := OwnM.set ho1 (a.length * 2 + 1) (.slice q m c)
    rw [show a.length = (a.map (·.1)).length by simp, flat_set] at this
    show OwnM _ _ _ _ _ _ _
    rw [hn2] at this
    rw [hn2]
    simpa [Nat.add_assoc] using this
  · intro y hy
    rcases List.mem_append.1 hy with hy | hy
    · exact hfar y (.inl hy)
    · rcases List.mem_cons.1 hy with rfl | hy
      · exact kept_of ho hgs (fun z hz e => hng (by rw [show (Value.slice q m c).ownBlock = some z from hz]; exact e.symm))
      · exact hfar y (.inr hy)
  · refine List.pairwise_append.2 ⟨p1, List.pairwise_cons.2 ⟨fun y hy z hz e => (hoth y (.inr hy) z e).2 hz, p5⟩, fun y hy u hu => ?_⟩
    rcases List.mem_cons.1 hu with rfl | hu
    · exact fun z hz e => (hoth y (.inl hy) z hz).2 e
    · exact p3 y hy u (by simp [hu])
  · intro y hy
    rcases List.mem_append.1 hy with hy | hy
    · exact h.far y (by simp [hy])
    · rcases List.mem_cons.1 hy with rfl | hy
      · intro z hz e
        exact hng (by rw [show (Value.slice q m c).ownBlock = some z from hz]; exact e.symm)
      · exact h.far y (by simp [hy])
/-- A side in memory of its own, from a block on. -/
def DL (w : World) (base : Nat) (v : Value) (ls : List L) : Prop := ∃ ps : List RP, ps.map toL = ls ∧ Deep w base v ps
theorem DL.ls {w : World} {base : Nat} {v : Value} {ls : List L} (h : DL w base v ls) : LS w v ls := by
  obtain ⟨ps, e, hD⟩ := h
  rw [← e]; exact hD.ls
theorem DL.below {w w' : World} {base : Nat} {v : Value} {ls : List L} (h : DL w base v ls) (hB : Below w.heap.size w w') : DL w' base v ls := by
  obtain ⟨ps, e, hD⟩ := h
  exact ⟨ps, e, hD.below hB⟩
theorem DL.mono {w : World} {base base' : Nat} {v : Value} {ls : List L} (h : DL w base v ls) (hb : base' ≤ base) : DL w base' v ls := by
  obtain ⟨ps, e, hD⟩ := h
  exact ⟨ps, e, hD.mono hb⟩
theorem DL.form {w : World} {base : Nat} {v : Value} {ls : List L} (h : DL w base v ls) : ∃ q m c, v = .slice q m c := by
  obtain ⟨ps, e, hD⟩ := h
  obtain ⟨q, c, hv⟩ := OwnM.form hD.own
  exact ⟨q, _, c, hv⟩
theorem dl_nil (w : World) (base : Nat) : DL w base (.slice none 0 0) [] := ⟨[], rfl, deep_nil w base⟩
theorem ls_nil (w : World) : LS w (.slice none 0 0) [] := .inl ⟨rfl, rfl⟩
theorem Own.below {W W' : World} {B : Nat} {ps : List P3} (h : Own W B ps) (hB : Below W.heap.size W W') : Own W' B ps := World.ownsMap.kept h (gr_below hB none) (by simp)
theorem wf_id {r : R} (h : rchk r = 0) : (Lit.int .i64 r.id).wf = true := by
  obtain ⟨-, -, -, -, -, h1, -⟩ := rchk_zero h
  have e : wrap64 r.id = r.id := by unfold wrap64; omega
  rw [← e]
  exact wrap64_wf _
theorem len_cnt {ls : List L} (h : ∀ l ∈ ls, lchk l = 0) : (ls.length : Int) ≤ cnt ls := by
  induction ls with
  | nil => simp [cnt]
  | cons x t ih =>
    have h1 := ih (fun l hl => h l (by simp [hl]))
    have h2 : x.rests.length ≠ 0 := fun e => (lchk_zero (h x (by simp))).2.1 (List.length_eq_zero_iff.1 e)
    unfold cnt
    rw [List.length_cons]
    omega
theorem id_ids {ls : List L} {id : Int} : id ∈ ids ls ↔ ¬ lastAt (flatP 0 ls) id = none := by
  rw [last_none]; simp [ids]
/-- Five stores, cell by cell, into a block of five. -/
theorem setFive {w : World} {B : Nat} {y0 y1 y2 y3 y4 : Value} {t : TypeId} (h : w.heap[B]? = some (.cells #[y0, y1, y2, y3, y4] t (0, 0))) (x0 x1 x2 x3 x4 : Value) :
    (((((w.setCell ⟨B, 0, none⟩ x0).setCell ⟨B, 1, none⟩ x1).setCell ⟨B, 2, none⟩ x2).setCell ⟨B, 3, none⟩ x3).setCell ⟨B, 4, none⟩ x4).heap[B]? = some (.cells #[x0, x1, x2, x3, x4] t (0, 0)) := by
  have h0 := heap_setCell_same w B 0 _ _ x0 h
  have h1 := heap_setCell_same _ B 1 _ _ x1 h0
  have h2 := heap_setCell_same _ B 2 _ _ x2 h1
  have h3 := heap_setCell_same _ B 3 _ _ x3 h2
  have h4 := heap_setCell_same _ B 4 _ _ x4 h3
  exact h4
theorem rowFive {w : World} {B : Nat} {x0 x1 x2 x3 x4 : Value} {t : TypeId} (h : w.heap[B]? = some (.cells #[x0, x1, x2, x3, x4] t (0, 0))) :
    w.cell? ⟨B, 0, none⟩ = some x0 ∧ w.cell? ⟨B, 1, none⟩ = some x1 ∧ w.cell? ⟨B, 2, none⟩ = some x2 ∧ w.cell? ⟨B, 3, none⟩ = some x3 ∧ w.cell? ⟨B, 4, none⟩ = some x4 ∧ ∀ j, w.frozen? ⟨B, j, none⟩ = false :=
  ⟨by simp [World.cell?, h], by simp [World.cell?, h], by simp [World.cell?, h], by simp [World.cell?, h], by simp [World.cell?, h], fun j => frozen_of_row w _ j _ _ h⟩
theorem grFive (w : World) (B : Nat) (x0 x1 x2 x3 x4 : Value) : w.grownBy (((((w.setCell ⟨B, 0, none⟩ x0).setCell ⟨B, 1, none⟩ x1).setCell ⟨B, 2, none⟩ x2).setCell ⟨B, 3, none⟩ x3).setCell ⟨B, 4, none⟩ x4) (some B) :=
  gr_trans (gr_trans (gr_trans (gr_trans (gr_setCell _ _ _ _) (gr_setCell _ _ _ _)) (gr_setCell _ _ _ _)) (gr_setCell _ _ _ _)) (gr_setCell _ _ _ _)
/-- Where one block has turned, in which no level and no rests are, a side stands. -/
theorem DeepT.other {w w' : World} {base : Nat} {v : Value} {ps : List RP} {tl : List rlv.RL} {B : Nat} (h : DeepT w base v ps tl) (hg : w.grownBy w' (some B)) (hB : B < base) : DeepT w' base v ps tl :=
  ⟨kept_of h.own hg (fun x hx e => by have := (OwnM.lt h.own x hx).1; simp at e; omega), fun p hp => kept_of (h.each p hp) hg (fun x hx e => by have := (OwnM.lt (h.each p hp) x hx).1; simp at e; omega), h.apart, h.far⟩
theorem setTwo {w : World} {B : Nat} {y0 y1 : Value} {t : TypeId} (h : w.heap[B]? = some (.cells #[y0, y1] t (0, 0))) (x0 x1 : Value) :
    ((w.setCell ⟨B, 0, none⟩ x0).setCell ⟨B, 1, none⟩ x1).heap[B]? = some (.cells #[x0, x1] t (0, 0)) := by
  have h0 := heap_setCell_same w B 0 _ _ x0 h
  have h1 := heap_setCell_same _ B 1 _ _ x1 h0
  exact h1
theorem rowTwo {w : World} {B : Nat} {x0 x1 : Value} {t : TypeId} (h : w.heap[B]? = some (.cells #[x0, x1] t (0, 0))) :
    w.cell? ⟨B, 0, none⟩ = some x0 ∧ w.cell? ⟨B, 1, none⟩ = some x1 ∧ ∀ j, w.frozen? ⟨B, j, none⟩ = false :=
  ⟨by simp [World.cell?, h], by simp [World.cell?, h], fun j => frozen_of_row w _ j _ _ h⟩
theorem grTwo (w : World) (B : Nat) (x0 x1 : Value) : w.grownBy ((w.setCell ⟨B, 0, none⟩ x0).setCell ⟨B, 1, none⟩ x1) (some B) := gr_trans (gr_setCell _ _ _ _) (gr_setCell _ _ _ _)
/-- What lies in other blocks than one reads as before. -/
theorem Lies.other {w w' : World} {b o : Nat} {zs : List R} {B : Nat} (h : Lies w b o zs) (hb : b < w.heap.size) (hg : w.grownBy w' (some B)) (hne : b ≠ B) : Lies w' b o zs :=
  fun j hj i v hv => by rw [hg.cell_far ⟨b, o + j * 5 + i, none⟩ hb (fun e => hne (by cases e; rfl))]; exact h j hj i v hv
/-- A side that was there before stands where a block above has turned. -/
theorem dl_grown {w W W' : World} {base : Nat} {v : Value} {ls : List L} (h : DL w base v ls) (hB : Below w.heap.size w W) {B : Nat} (hg : W.grownBy W' (some B)) (hBB : w.heap.size ≤ B) : DL W' base v ls :=
  h.below (hB.grown hg hB.size (fun k hk => by cases hk; exact hBB))
theorem DL.other {w w' : World} {base : Nat} {v : Value} {ls : List L} {B : Nat} (h : DL w base v ls) (hg : w.grownBy w' (some B)) (hB : B < base) : DL w' base v ls := by
  obtain ⟨ps, e, hD⟩ := h
  exact ⟨ps, e, hD.other hg hB⟩
theorem find_zero {s : Int} {ls : List L} {id : Int} (h : findE s ls id = 0) : schk s ls = 0 ∧ ∃ t, lastAt (flatP 0 ls) id = some t ∧ findP s ls id = t.2 := by
  have h1 : schk s ls = 0 := by
    by_cases h0 : schk s ls = 0
    · exact h0
    · unfold findE at h; rw [if_neg h0] at h; exact h
  refine ⟨h1, ?_⟩
  cases hl : lastAt (flatP 0 ls) id with
  | none => unfold findE at h; rw [if_pos h1, hl] at h; simp at h
  | some t => exact ⟨t, rfl, by unfold findP; rw [if_pos h, hl]; rfl⟩
/-- Where an id is, of a side that has it. -/
theorem find_spot {s : Int} {ls : List L} {id : Int} (h : findE s ls id = 0) : schk s ls = 0 ∧ ∃ i k : Nat, ∃ hi : i < ls.length, ∃ hk : k < ls[i].rests.length, ls[i].rests[k].id = id ∧ findP s ls id = ((i : Int), (k : Int)) := by
  obtain ⟨h0, t, h1, h2⟩ := find_zero h
  obtain ⟨i, k, hi, hk, e1, e2⟩ := last_is h1
  exact ⟨h0, i, k, hi, hk, e1, h2.trans e2⟩
end Go.Proofs.Ytnjpjieedgmffaa.sid
