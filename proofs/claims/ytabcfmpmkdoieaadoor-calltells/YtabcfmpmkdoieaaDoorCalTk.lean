/- Contracts over this seat's translation: call.take; memory while a call is traded. -/
import Derived.Test.YtabcfmpmkdoieaaDoorCalU
import Derived.Test.YtabcfmpmkdoieaaDoorCalLin2
namespace Go.Proofs.YtabcfmpmkdoieaaDoor.cal
open Go.RowKit Go.Proofs.YtabcfmpmkdoieaaDoor.ord
open Go.Proofs.YtabcfmpmkdoieaaDoor.wak (Lies SL oL OwnM OwnQ flat flat_len flat_get flat_cons flat_append getE own_of own_range gr_below gr_trans gr_alloc gr_setCell gr_drew)

/-- Where a line begins without its first. -/
def offP (off cap : Nat) : Nat := if cap = 1 then off else off + 1

set_option maxHeartbeats 1000000 in
theorem take_gone (B off m cap G A : Nat) (x q : Int) (W : World) (hB : B ≠ G) (c0 : W.cell? ⟨B, off, none⟩ = some (.pointer (some ⟨G, A, none⟩))) (c5 : W.cell? ⟨G, A + 5, none⟩ = some (.int .i64 x)) (f5 : W.frozen? ⟨G, A + 5, none⟩ = false) (hw : wrap64 (x - q) = 0) (hc : m + 1 ≤ cap) (hcc : cap ≤ 9223372036854775807) :
    Calls Tryd.prog 38 #[.slice (some ⟨B, off, none⟩) (m + 1) cap, .int .i64 q] W fun e w' => e = .returned (.slice (some ⟨B, offP off cap, none⟩) m (cap - 1)) ∧ w' = W.setCell ⟨G, A + 5, none⟩ (.int .i64 0) := by
  have d0 : (W.setCell ⟨G, A + 5, none⟩ (.int .i64 0)).cell? ⟨B, off, none⟩ = some (.pointer (some ⟨G, A, none⟩)) := (World.cell?_setCell_other _ _ _ _ (by intro e; simp only [Addr.mk.injEq] at e; exact hB e.1.symm)).trans c0
  have d5 : (W.setCell ⟨G, A + 5, none⟩ (.int .i64 0)).cell? ⟨G, A + 5, none⟩ = some (.int .i64 0) := World.cell?_setCell_same _ _ _ c5
  have h1 : (1 : Int) ≤ (m : Int) + 1 := by omega
  have h2 : ((m : Int) + 1) ≤ (cap : Int) := by omega
  have h3 : ¬ ((m + 1 : Nat) : Int) < 1 := by omega
  have e1 : ((m : Int) + 1 - 1) = (m : Int) := by omega
  by_cases h : cap = 1
  · subst h
    obtain rfl : m = 0 := by omega
    clear hc hcc hB
    go_enter Tryd.func38, Tryd.ntmps38
    go_wp2_with fail
    go_ret
    exact ⟨rfl, rfl⟩
  · have hcz : ¬ (cap : Int) = 1 := by omega
    have eo : offP off cap = off + 1 := by unfold offP; rw [if_neg h]
    rw [eo]
    clear hc hcc hB eo
    go_enter Tryd.func38, Tryd.ntmps38
    go_wp2_with fail
    go_ret
    first | exact ⟨rfl, rfl⟩ | exact ⟨by simp, rfl⟩

set_option maxHeartbeats 1000000 in
theorem take_left (B off m cap G A : Nat) (x q y : Int) (W : World) (hB : B ≠ G) (c0 : W.cell? ⟨B, off, none⟩ = some (.pointer (some ⟨G, A, none⟩))) (c5 : W.cell? ⟨G, A + 5, none⟩ = some (.int .i64 x)) (f5 : W.frozen? ⟨G, A + 5, none⟩ = false) (hw : wrap64 (x - q) = y) (hy : ¬ y = 0) :
    Calls Tryd.prog 38 #[.slice (some ⟨B, off, none⟩) (m + 1) cap, .int .i64 q] W fun e w' => e = .returned (.slice (some ⟨B, off, none⟩) (m + 1) cap) ∧ w' = W.setCell ⟨G, A + 5, none⟩ (.int .i64 y) := by
  have d0 : (W.setCell ⟨G, A + 5, none⟩ (.int .i64 y)).cell? ⟨B, off, none⟩ = some (.pointer (some ⟨G, A, none⟩)) := (World.cell?_setCell_other _ _ _ _ (by intro e; simp only [Addr.mk.injEq] at e; exact hB e.1.symm)).trans c0
  have d5 : (W.setCell ⟨G, A + 5, none⟩ (.int .i64 y)).cell? ⟨G, A + 5, none⟩ = some (.int .i64 y) := World.cell?_setCell_same _ _ _ c5
  have hyb : (y == 0) = false := by simpa using hy
  clear hB
  go_enter Tryd.func38, Tryd.ntmps38
  go_wp2_with fail
  go_ret
  exact ⟨rfl, rfl⟩

/-- The cells of orders of which one has another quantity. -/
theorem flat_dq (os : List O) : ∀ (i : Nat) (q : Int), i < os.length → flat (dq os i q) = (flat os).set (i * 8 + 5) (.int .i64 ((os[i]!).qty - q)) := by
  intro i q h
  unfold dq
  rw [getE os i h]
  have e1 : os = os.take i ++ os[i] :: os.drop (i + 1) := by
    conv => lhs; rw [← List.take_append_drop i os, List.drop_eq_getElem_cons h]
  have hl : (flat (os.take i)).length = i * 8 := by rw [flat_len, List.length_take, Nat.min_eq_left (by omega)]
  generalize hw : wq os[i] (os[i].qty - q) = r
  have e2 : os.set i r = os.take i ++ r :: os.drop (i + 1) := by
    rw [List.set_eq_take_append_cons_drop, if_pos h]
  have e3 : flat os = flat (os.take i) ++ (oL os[i] ++ flat (os.drop (i + 1))) := by rw [← flat_cons, ← flat_append, ← e1]
  rw [e2, e3, flat_append, flat_cons, List.set_append_right _ _ (by omega), hl, show i * 8 + 5 - i * 8 = 5 by omega, ← hw]
  rfl

def tL (t : T) : List Value := [.int .i64 t.mak, .int .i64 t.tak, .int .i64 t.frm, .int .i64 t.too, .int .i64 t.price, .int .i64 t.qty]
def flatT (ts : List T) : List Value := ts.flatMap tL
theorem flatT_append (a b : List T) : flatT (a ++ b) = flatT a ++ flatT b := by unfold flatT; rw [List.flatMap_append]
abbrev OwnT (w : World) (base : Nat) (v : Value) (ts : List T) : Prop := OwnM w base 58 6 v ts.length (flatT ts)

/-- What lies in memory while a call is traded. -/
structure TM (w : World) (b0 G o n c : Nat) (zs os : List O) (vb vs vt : Value) (bs ss : List Nat) (ts : List T) (wr : World) : Prop where
  gr : w.grownBy wr (some G)
  gl : G < w.heap.size
  len : n = os.length
  own : OwnM wr b0 44 8 (.slice (some ⟨G, o, none⟩) n c) n (flat os)
  lb : OwnP wr b0 vb G o zs bs
  ls : OwnP wr b0 vs G o zs ss
  ob : ∀ k, vb.ownBlock = some k → k ≠ G ∧ k < w.heap.size
  os' : ∀ k, vs.ownBlock = some k → k ≠ G ∧ k < w.heap.size
  tr : OwnT wr w.heap.size vt ts
section
variable {w wr w' : World} {b0 G o n c : Nat} {zs os : List O} {vb vs vt : Value} {bs ss : List Nat} {ts : List T}
theorem TM.drawn (h : TM w b0 G o n c zs os vb vs vt bs ss ts wr) (q : Nat) : TM w b0 G o n c zs os vb vs vt bs ss ts (wr.drewN q) :=
  ⟨⟨h.gr.os, h.gr.tape, h.gr.output, h.gr.size, h.gr.block⟩, h.gl, h.len, h.own, h.lb, h.ls, h.ob, h.os', h.tr⟩
theorem OwnM.aside {w wr : World} {base : Nat} {e : TypeId} {sz : Nat} {v : Value} {n : Nat} {xs : List Value} {row : Option Nat} (h : OwnM w base e sz v n xs) (hg : w.grownBy wr row) (hne : ∀ k, v.ownBlock = some k → row ≠ some k) : OwnM wr base e sz v n xs := by
  cases hv : v.ownBlock with
  | none => exact OwnM.kept h hg (.inl hv)
  | some k => exact OwnM.kept h hg (.inr (by rw [hv]; exact fun e => hne k hv e.symm))
/-- One trade more is laid. -/
theorem TM.trade {vt' : Value} {t : T} {x : Obj} (h : TM w b0 G o n c zs os vb vs vt bs ss ts wr) (hg : (wr.alloc x).drew.grownBy w' vt.ownBlock) (ho : OwnM w' w.heap.size 58 6 vt' (ts.length + 1) (flatT ts ++ tL t)) : TM w b0 G o n c zs os vb vs vt' bs ss (ts ++ [t]) w' := by
  have hv : ∀ k, vt.ownBlock = some k → w.heap.size ≤ k := fun k hk => (OwnM.lt h.tr k hk).1
  have hA : wr.grownBy (wr.alloc x).drew vt.ownBlock := gr_trans (gr_alloc wr x _) (gr_drew _ _)
  have hAll := gr_trans hA hg
  have hgl := h.gl
  refine ⟨⟨hAll.os.trans h.gr.os, hAll.tape.trans h.gr.tape, hAll.output.trans h.gr.output, Nat.le_trans h.gr.size hAll.size, fun k hk hne => (hAll.block k (Nat.lt_of_lt_of_le hk h.gr.size) (fun e => by have := hv k e.symm; omega)).trans (h.gr.block k hk hne)⟩, h.gl, h.len, ?_, ?_, ?_, h.ob, h.os', ?_⟩
  · exact OwnM.aside h.own hAll (fun k hk e => by have h1 := hv k e; have h2 : k = G := (by cases hk; rfl); omega)
  · exact OwnM.aside h.lb hAll (fun k hk e => by have h1 := hv k e; have h2 := (h.ob k hk).2; omega)
  · exact OwnM.aside h.ls hAll (fun k hk e => by have h1 := hv k e; have h2 := (h.os' k hk).2; omega)
  · show OwnM _ _ _ _ _ _ _
    rw [flatT_append, List.length_append]
    have e : flatT [t] = tL t := by unfold flatT; simp
    rw [e]
    exact ho
/-- So much is taken off one order. -/
theorem TM.take (h : TM w b0 G o n c zs os vb vs vt bs ss ts wr) (i : Nat) (q : Int) (hi : i < os.length) : TM w b0 G o n c zs (dq os i q) vb vs vt bs ss ts (wr.setCell ⟨G, o + i * 8 + 5, none⟩ (.int .i64 ((os[i]!).qty - q))) := by
  have hg := gr_setCell wr G (o + i * 8 + 5) (.int .i64 ((os[i]!).qty - q))
  refine ⟨gr_trans h.gr hg, h.gl, by rw [dq_len]; exact h.len, ?_, ?_, ?_, h.ob, h.os', ?_⟩
  · have := OwnM.set h.own (i * 8 + 5) (.int .i64 ((os[i]!).qty - q))
    rw [← flat_dq os i q hi, ← Nat.add_assoc] at this
    exact this
  · exact OwnM.aside h.lb hg (fun k hk e => by cases e; exact (h.ob _ hk).1 rfl)
  · exact OwnM.aside h.ls hg (fun k hk e => by cases e; exact (h.os' _ hk).1 rfl)
  · exact OwnM.aside h.tr hg (fun k hk e => by cases e; have := (OwnM.lt h.tr _ hk).1; have := h.gl; omega)
theorem own_tail {w : World} {base B off m cap : Nat} {i : Nat} {t : List Nat} (h : OwnP w base (.slice (some ⟨B, off, none⟩) (m + 1) cap) G o zs (i :: t)) (hm : m = t.length) : OwnP w base (.slice (some ⟨B, offP off cap, none⟩) m (cap - 1)) G o zs t := by
  subst hm
  have h' : OwnM w base 77 1 (.slice (some ⟨B, off, none⟩) (t.length + 1) cap) (t.length + 1) ((i :: t).map (encP G o zs)) := h
  obtain ⟨h1, h2, ⟨cur, h3, h3'⟩, h4, h5, h6, h7⟩ := own_range h'
  refine own_of (by simp) h2 h3 (by unfold offP; split <;> omega) (by omega) (by omega) fun j u hu => ?_
  have hj : j < t.length := by simpa using (List.getElem?_eq_some_iff.1 hu).1
  have e : offP off cap + j = off + (j + 1) := by unfold offP; rw [if_neg (by omega)]; omega
  have := h6 (j + 1) u (by rw [List.map_cons, List.getElem?_cons_succ]; exact hu)
  rw [e]
  exact this
theorem own_first {w : World} {base B off m cap : Nat} {i : Nat} {t : List Nat} (h : OwnP w base (.slice (some ⟨B, off, none⟩) m cap) G o zs (i :: t)) (hm : m = (i :: t).length) : w.cell? ⟨B, off, none⟩ = some (encP G o zs i) ∧ m ≤ cap ∧ cap ≤ 9223372036854775807 := by
  subst hm
  obtain ⟨h1, h2, -, h4, h5, h6, h7⟩ := own_range h
  refine ⟨?_, h4, by simpa [maxLen] using h5⟩
  have := h6 0 (encP G o zs i) rfl
  simpa using this
/-- The eight cells of an order that is traded. -/
theorem TM.cells (h : TM w b0 G o n c zs os vb vs vt bs ss ts wr) (i : Nat) (hi : i < os.length) : (∀ j v, (oL os[i]!)[j]? = some v → wr.cell? ⟨G, o + i * 8 + j, none⟩ = some v) ∧ wr.frozen? ⟨G, o + i * 8 + 5, none⟩ = false := by
  have h' := h.own
  obtain ⟨h1, h2, -, h4, h5, h6, h7⟩ := own_range h'
  refine ⟨fun j v hv => ?_, ?_⟩
  · have hj : j < 8 := (List.getElem?_eq_some_iff.1 hv).1
    have := h6 (i * 8 + j) v (by rw [flat_get os i hi j hj]; exact hv)
    rwa [← Nat.add_assoc] at this
  · have hl := h.len
    have := (h7 (i * 8 + 5) (by omega)).2
    rwa [← Nat.add_assoc] at this
end
end Go.Proofs.YtabcfmpmkdoieaaDoor.cal
