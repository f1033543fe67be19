/- Plain facts on the memory of a visit: its block, and what lies beside it. No walk. -/
import Derived.Test.YtnjpjieedgmffaaMeeOwn
import Derived.Test.YtnjpjieedgmffaaMeeLvl
namespace Go.Proofs.Ytnjpjieedgmffaa.slf
open Go.RowKit Go.Proofs.Ytnjpjieedgmffaa.spn Go.Proofs.Ytnjpjieedgmffaa.que Go.Proofs.Ytnjpjieedgmffaa.sid Go.Proofs.Ytnjpjieedgmffaa.bok Go.Proofs.Ytnjpjieedgmffaa.mee

/-- All blocks ahead of one stand but that of the visit. -/
structure FarV (w w' : World) (base VB : Nat) : Prop where
  os : w'.os = w.os
  tape : w'.tape = w.tape
  output : w'.output = w.output
  size : w.heap.size ≤ w'.heap.size
  block : ∀ j, j < base → j ≠ VB → w'.heap[j]? = w.heap[j]?
theorem FarV.refl (w : World) (base VB : Nat) : FarV w w base VB := ⟨rfl, rfl, rfl, Nat.le_refl _, fun _ _ _ => rfl⟩
theorem FarV.trans {a b c : World} {base VB : Nat} (h : FarV a b base VB) (k : FarV b c base VB) : FarV a c base VB :=
  ⟨k.os.trans h.os, k.tape.trans h.tape, k.output.trans h.output, Nat.le_trans h.size k.size, fun j h1 h2 => (k.block j h1 h2).trans (h.block j h1 h2)⟩
theorem FarV.below {w w' : World} {base VB : Nat} (h : Below w.heap.size w w') (hb : base ≤ w.heap.size) : FarV w w' base VB :=
  ⟨h.os, h.tape, h.output, h.size, fun j h1 _ => h.block j (by omega)⟩
theorem FarV.grown {w w' : World} {base VB : Nat} {row : Option Nat} (h : w.grownBy w' row) (hb : base ≤ w.heap.size) (hr : ∀ k, row = some k → k = VB ∨ base ≤ k) : FarV w w' base VB :=
  ⟨h.os, h.tape, h.output, h.size, fun j h1 h2 => h.block j (by omega) (fun e => by rcases hr j e.symm with h | h <;> omega)⟩
/-- What lay ahead of the visit's block lies there still. -/
theorem FarV.ahead {w W W' : World} {base VB : Nat} (hB : Below w.heap.size w W) (h : FarV W W' base VB) (h1 : w.heap.size ≤ VB) (h2 : w.heap.size ≤ base) : Below w.heap.size w W' :=
  ⟨h.os.trans hB.os, h.tape.trans hB.tape, h.output.trans hB.output, Nat.le_trans hB.size h.size, fun k hk => (h.block k (by omega) (by omega)).trans (hB.block k hk)⟩

theorem rowV {w : World} {B : Nat} {x0 x1 x2 x3 x4 x5 : Value} {t : TypeId} (h : w.heap[B]? = some (.cells #[x0, x1, x2, x3, x4, x5] t (0, 0))) :
    w.cell? ⟨B, 0, none⟩ = some x0 ∧ w.cell? ⟨B, 1, none⟩ = some x1 ∧ w.cell? ⟨B, 2, none⟩ = some x2 ∧ w.cell? ⟨B, 3, none⟩ = some x3 ∧ w.cell? ⟨B, 4, none⟩ = some x4 ∧ w.cell? ⟨B, 5, none⟩ = some x5 ∧ ∀ j, w.frozen? ⟨B, j, none⟩ = false :=
  ⟨by simp [World.cell?, h], by simp [World.cell?, h], by simp [World.cell?, h], by simp [World.cell?, h], by simp [World.cell?, h], by simp [World.cell?, h], fun j => frozen_of_row w _ j _ _ h⟩
theorem rowO {w : World} {B : Nat} {x0 x1 x2 x3 x4 x5 x6 x7 : Value} {t : TypeId} (h : w.heap[B]? = some (.cells #[x0, x1, x2, x3, x4, x5, x6, x7] t (0, 0))) :
    w.cell? ⟨B, 0, none⟩ = some x0 ∧ w.cell? ⟨B, 1, none⟩ = some x1 ∧ w.cell? ⟨B, 2, none⟩ = some x2 ∧ w.cell? ⟨B, 3, none⟩ = some x3 ∧ w.cell? ⟨B, 4, none⟩ = some x4 ∧ w.cell? ⟨B, 5, none⟩ = some x5 ∧ w.cell? ⟨B, 6, none⟩ = some x6 ∧ w.cell? ⟨B, 7, none⟩ = some x7 ∧ ∀ j, w.frozen? ⟨B, j, none⟩ = false :=
  ⟨by simp [World.cell?, h], by simp [World.cell?, h], by simp [World.cell?, h], by simp [World.cell?, h], by simp [World.cell?, h], by simp [World.cell?, h], by simp [World.cell?, h], by simp [World.cell?, h], fun j => frozen_of_row w _ j _ _ h⟩
section
variable {w : World} {B : Nat} {y0 y1 y2 y3 y4 y5 y6 y7 : Value} {t : TypeId}
theorem v_at0 (h : w.heap[B]? = some (.cells #[y0, y1, y2, y3, y4, y5] t (0, 0))) (x : Value) : (w.setCell ⟨B, 0, none⟩ x).heap[B]? = some (.cells #[x, y1, y2, y3, y4, y5] t (0, 0)) := by
  have h0 := heap_setCell_same _ B 0 _ _ x h
  simp only [List.setIfInBounds_toArray, List.set_cons_zero] at h0
  exact h0
theorem v_at1 (h : w.heap[B]? = some (.cells #[y0, y1, y2, y3, y4, y5] t (0, 0))) (x : Value) : (w.setCell ⟨B, 1, none⟩ x).heap[B]? = some (.cells #[y0, x, y2, y3, y4, y5] t (0, 0)) := by
  have h0 := heap_setCell_same _ B 1 _ _ x h
  simp only [List.setIfInBounds_toArray, List.set_cons_zero, List.set_cons_succ] at h0
  exact h0
theorem v_at2 (h : w.heap[B]? = some (.cells #[y0, y1, y2, y3, y4, y5] t (0, 0))) (x : Value) : (w.setCell ⟨B, 2, none⟩ x).heap[B]? = some (.cells #[y0, y1, x, y3, y4, y5] t (0, 0)) := by
  have h0 := heap_setCell_same _ B 2 _ _ x h
  simp only [List.setIfInBounds_toArray, List.set_cons_zero, List.set_cons_succ] at h0
  exact h0
theorem v_at3 (h : w.heap[B]? = some (.cells #[y0, y1, y2, y3, y4, y5] t (0, 0))) (x : Value) : (w.setCell ⟨B, 3, none⟩ x).heap[B]? = some (.cells #[y0, y1, y2, x, y4, y5] t (0, 0)) := by
  have h0 := heap_setCell_same _ B 3 _ _ x h
  simp only [List.setIfInBounds_toArray, List.set_cons_zero, List.set_cons_succ] at h0
  exact h0
theorem v_at4 (h : w.heap[B]? = some (.cells #[y0, y1, y2, y3, y4, y5] t (0, 0))) (x : Value) : (w.setCell ⟨B, 4, none⟩ x).heap[B]? = some (.cells #[y0, y1, y2, y3, x, y5] t (0, 0)) := by
  have h0 := heap_setCell_same _ B 4 _ _ x h
  simp only [List.setIfInBounds_toArray, List.set_cons_zero, List.set_cons_succ] at h0
  exact h0
theorem v_at5 (h : w.heap[B]? = some (.cells #[y0, y1, y2, y3, y4, y5] t (0, 0))) (x : Value) : (w.setCell ⟨B, 5, none⟩ x).heap[B]? = some (.cells #[y0, y1, y2, y3, y4, x] t (0, 0)) := by
  have h0 := heap_setCell_same _ B 5 _ _ x h
  simp only [List.setIfInBounds_toArray, List.set_cons_zero, List.set_cons_succ] at h0
  exact h0
theorem o_at56 (h : w.heap[B]? = some (.cells #[y0, y1, y2, y3, y4, y5, y6, y7] t (0, 0))) (x z : Value) : ((w.setCell ⟨B, 5, none⟩ x).setCell ⟨B, 6, none⟩ z).heap[B]? = some (.cells #[y0, y1, y2, y3, y4, x, z, y7] t (0, 0)) := by
  have h0 := heap_setCell_same _ B 5 _ _ x h
  simp only [List.setIfInBounds_toArray, List.set_cons_zero, List.set_cons_succ] at h0
  have h1 := heap_setCell_same _ B 6 _ _ z h0
  simp only [List.setIfInBounds_toArray, List.set_cons_zero, List.set_cons_succ] at h1
  exact h1
end
theorem gr_six (w : World) (B : Nat) (x0 x1 x2 x3 x4 x5 : Value) : w.grownBy ((((((w.setCell ⟨B, 0, none⟩ x0).setCell ⟨B, 1, none⟩ x1).setCell ⟨B, 2, none⟩ x2).setCell ⟨B, 3, none⟩ x3).setCell ⟨B, 4, none⟩ x4).setCell ⟨B, 5, none⟩ x5) (some B) :=
  gr_trans (gr_trans (gr_trans (gr_trans (gr_trans (gr_setCell _ _ _ _) (gr_setCell _ _ _ _)) (gr_setCell _ _ _ _)) (gr_setCell _ _ _ _)) (gr_setCell _ _ _ _)) (gr_setCell _ _ _ _)
theorem setSixV {w : World} {B : Nat} {y0 y1 y2 y3 y4 y5 : Value} {t : TypeId} (h : w.heap[B]? = some (.cells #[y0, y1, y2, y3, y4, y5] t (0, 0))) (x0 x1 x2 x3 x4 x5 : Value) :
    ((((((w.setCell ⟨B, 0, none⟩ x0).setCell ⟨B, 1, none⟩ x1).setCell ⟨B, 2, none⟩ x2).setCell ⟨B, 3, none⟩ x3).setCell ⟨B, 4, none⟩ x4).setCell ⟨B, 5, none⟩ x5).heap[B]? = some (.cells #[x0, x1, x2, x3, x4, x5] t (0, 0)) :=
  v_at5 (v_at4 (v_at3 (v_at2 (v_at1 (v_at0 h x0) x1) x2) x3) x4) x5

theorem dl_row {w w' : World} {base : Nat} {v : Value} {ls : List L} {row : Option Nat} (h : DL w base v ls) (hg : w.grownBy w' row) (hr : ∀ k, row = some k → k < base) : DL w' base v ls := by
  cases row with
  | none => exact h.below ⟨hg.os, hg.tape, hg.output, hg.size, fun k hk => hg.block k hk (by simp)⟩
  | some k => exact h.other hg (hr k rfl)
/-- A side that came in, or one that lies behind the visit. -/
def SafeS (w0 w : World) (base : Nat) (v : Value) (ls : List L) : Prop := LS w0 v ls ∨ DL w base v ls
theorem SafeS.ls {w0 w : World} {base : Nat} {v : Value} {ls : List L} (h : SafeS w0 w base v ls) (hB : Below w0.heap.size w0 w) : LS w v ls := h.elim (fun h => h.below hB) (fun h => h.ls)
theorem SafeS.row {w0 w w' : World} {base VB : Nat} {v : Value} {ls : List L} (h : SafeS w0 w base v ls) (hg : w.grownBy w' (some VB)) (hV : VB < base) : SafeS w0 w' base v ls := h.imp id (fun h => h.other hg hV)
theorem SafeS.below {w0 w w' : World} {base : Nat} {v : Value} {ls : List L} (h : SafeS w0 w base v ls) (hB : Below w.heap.size w w') : SafeS w0 w' base v ls := h.imp id (fun h => h.below hB)
/-- Numbers in a slice of one's own. -/
def flatI (l : List Int) : List Value := l.map (fun x => .int .i64 x)
abbrev OwnI (w : World) (base : Nat) (v : Value) (l : List Int) : Prop := OwnM w base 3 1 v l.length (flatI l)
theorem infoN : ((Try.prog.info? 3).map (fun i => (i.zero, i.size, i.bytes))) = some (some (.int .i64 0), 1, 8) := by kernel_rfl
theorem infoN' : ∃ i, Try.prog.info? 3 = some i ∧ i.zero = some (.int .i64 0) ∧ i.size = 1 ∧ i.bytes = 8 := by
  have h := infoN
  cases hq : Try.prog.info? 3 with
  | none => rw [hq] at h; simp at h
  | some i =>
    rw [hq] at h
    simp at h
    exact ⟨i, rfl, h.1, h.2.1, h.2.2⟩
theorem own_cell {w : World} {base : Nat} {e : TypeId} {sz : Nat} {ad : Addr} {n c : Nat} {xs : List Value} (h : OwnM w base e sz (.slice (some ad) n c) n xs) : ∀ j u, xs[j]? = some u → w.cell? (ad.add j) = some u := by
  intro j u hu
  rcases h.2 with ⟨e, -⟩ | ⟨g, off, cap, cur, he, -, hg, -, -, -, htake⟩
  · simp at e
  · simp only [Value.slice.injEq, Option.some.injEq] at he
    obtain ⟨rfl, -, -⟩ := he
    rw [Addr.add_lit, cell_of_row w g (off + j) cur e (0, 0) hg]
    rw [← htake, List.getElem?_take] at hu
    split at hu
    · rw [List.getElem?_drop] at hu; simpa using hu
    · cases hu
theorem one_flatT (ts : List T) : ∀ u ∈ flatT ts, u.oneCell' = true := by
  intro u hu
  obtain ⟨x, -, hx⟩ := List.mem_flatMap.1 hu
  simp only [tV, List.mem_cons, List.not_mem_nil, or_false] at hx
  rcases hx with rfl | rfl | rfl | rfl | rfl | rfl <;> rfl
theorem len_flatT (ts : List T) : (flatT ts).length = ts.length * 6 := by
  induction ts with
  | nil => rfl
  | cons x t ih =>
    have : flatT (x :: t) = tV x ++ flatT t := by simp [flatT]
    rw [this, List.length_append, ih, List.length_cons]
    have h6 : (tV x).length = 6 := rfl
    omega
/-- Two slices of one's own of other kinds lie in other blocks. -/
theorem own_ne {w : World} {b1 b2 : Nat} {e1 e2 : TypeId} {s1 s2 : Nat} {v1 v2 : Value} {n1 n2 : Nat} {x1 x2 : List Value} (h1 : OwnM w b1 e1 s1 v1 n1 x1) (h2 : OwnM w b2 e2 s2 v2 n2 x2) (he : e1 ≠ e2) : ∀ x, v1.ownBlock = some x → v2.ownBlock ≠ some x := by
  intro x hx hy
  rcases h1.2 with ⟨rfl, _⟩ | ⟨g, off, cap, cur, rfl, -, hg, -⟩
  · simp [Value.ownBlock] at hx
  · simp [Value.ownBlock] at hx
    subst hx
    rcases h2.2 with ⟨rfl, _⟩ | ⟨g2, off2, cap2, cur2, rfl, -, hg2, -⟩
    · simp [Value.ownBlock] at hy
    · simp [Value.ownBlock] at hy
      subst hy
      rw [hg] at hg2
      simp at hg2
      exact he hg2.2
/-- Trades are laid behind others. -/
theorem lay_trades {base : Nat} {W : World} {tv uv : Value} {ts us : List T} {b2 : Nat} (h : OwnT W base tv ts) (hu : OwnT W b2 uv us) (hb : base ≤ W.heap.size) (hne : us ≠ []) (hl : ts.length + us.length ≤ 1000000) :
    ∃ tq tc w1, (Builtin.append_ #[32, 32] 32 #[tv, uv]).run Try.prog W = .ok (.slice tq (ts ++ us).length tc) w1 ∧ OwnT w1 base (.slice tq (ts ++ us).length tc) (ts ++ us) ∧ W.grownBy w1 tv.ownBlock := by
  obtain ⟨i0, hi0, hz0, hz1, hz2⟩ := infoT'
  obtain ⟨ad, c, rfl⟩ : ∃ ad c, uv = .slice (some ad) us.length c := by
    rcases hu.2 with ⟨-, e⟩ | ⟨g, off, cap, cur, rfl, -⟩
    · exact absurd (List.length_eq_zero_iff.1 e) hne
    · exact ⟨_, _, rfl⟩
  obtain ⟨v', w', e1, e2, e3, e4⟩ := run_append_mid (P := Try.prog) W base 32 32 39 i0 zeroT 6 48 Try.underlying32 hi0 hz0 hz1 hz2 rfl tv ts.length (flatT ts) h ad us.length c (flatT us) (len_flatT us) (own_cell hu) (one_flatT us) (by unfold maxLen; omega) (by omega) hb
  have e2' : OwnT w' base v' (ts ++ us) := by
    show OwnM _ _ _ _ _ _ _
    rw [flatT_append, List.length_append]
    exact e2
  obtain ⟨q', c', hf⟩ := OwnM.form e2'
  subst hf
  exact ⟨q', c', w', e1, e2', e3⟩
/-- One number more. -/
theorem lay_id {base : Nat} {W : World} {iv : Value} {l : List Int} (x : Int) (h : OwnI W base iv l) (hb : base ≤ W.heap.size) (hl : l.length ≤ 1000000) :
    ∃ tq tc w1, (Builtin.append_ #[33, 33] 33 #[iv, .slice (some ⟨W.heap.size, 0, none⟩) 1 1]).run Try.prog (W.alloc (.cells #[.int .i64 x] 3)) = .ok (.slice tq (l ++ [x]).length tc) w1 ∧ OwnI w1 base (.slice tq (l ++ [x]).length tc) (l ++ [x]) ∧ W.grownBy w1 iv.ownBlock := by
  obtain ⟨i0, hi0, hz0, hz1, hz2⟩ := infoN'
  obtain ⟨U, hU⟩ : ∃ U, U = W.alloc (.cells #[.int .i64 x] 3) := ⟨_, rfl⟩
  have hB : Below W.heap.size W U := by rw [hU]; exact (Below.refl _ _).alloc (Nat.le_refl _) _
  have hown : OwnI U base iv l := OwnM.below h hB
  obtain ⟨v', w', e1, e2, e3, e4⟩ := run_append_mid (P := Try.prog) U base 33 33 3 i0 (.int .i64 0) 1 8 Try.underlying33 hi0 hz0 hz1 hz2 rfl iv l.length (flatI l) hown ⟨W.heap.size, 0, none⟩ 1 1 [.int .i64 x] rfl (fun j u hu => by
    rw [hU, Addr.add_lit, World.cell?_alloc_at _ _ _ _ rfl]
    simpa using hu) (fun u hu => by simp only [List.mem_cons, List.not_mem_nil, or_false] at hu; rw [hu]; rfl) (by unfold maxLen; omega) (by omega) (Nat.le_trans hb hB.size)
  have e2' : OwnI w' base v' (l ++ [x]) := by
    show OwnM _ _ _ _ _ _ _
    unfold flatI at e2 ⊢
    rw [List.map_append, List.length_append]
    exact e2
  obtain ⟨q', c', hf⟩ := OwnM.form e2'
  subst hf
  rw [hU] at e1
  exact ⟨q', c', w', e1, e2', gr_trans (gr_below hB _) e3⟩
end Go.Proofs.Ytnjpjieedgmffaa.slf
