/- Plain facts: a side that a call has in memory of its own, its rests too, each in a block apart. No walk. -/
import Derived.Test.YtnjpjieedgmffaaSidCat
namespace Go.Proofs.Ytnjpjieedgmffaa.sid
open Go.RowKit Go.Proofs.Ytnjpjieedgmffaa.spn Go.Proofs.Ytnjpjieedgmffaa.que

/-- A level as it lies there, and its rests. -/
abbrev RP := rlv.RL × List R
def sv (r : rlv.RL) : Value := .slice r.q r.n r.c
def toL (p : RP) : L := ⟨p.1.price, p.2⟩
def blkR (r : rlv.RL) : Option Nat := (sv r).ownBlock
/-- Two rests in blocks apart. -/
def AP (a b : RP) : Prop := ∀ x, blkR a.1 = some x → blkR b.1 ≠ some x
theorem toL_price (p : RP) : (toL p).price = p.1.price := rfl
theorem toL_rests (p : RP) : (toL p).rests = p.2 := rfl

/-- A side as it lies there. -/
def Loose (w : World) (v : Value) (ps : List RP) : Prop := rlv.SL w v (ps.map (·.1)) ∧ ∀ p ∈ ps, SLe w (sv p.1) p.2
theorem Loose.below {w w' : World} {v : Value} {ps : List RP} (h : Loose w v ps) (hB : Below w.heap.size w w') : Loose w' v ps :=
  ⟨h.1.below hB, fun p hp => (h.2 p hp).below hB⟩
theorem mget {α β : Type} [Inhabited α] [Inhabited β] (f : α → β) (l : List α) (k : Nat) (h : k < l.length) : (l.map f)[k]! = f l[k]! := by
  rw [getE _ _ (by simpa using h), getE _ _ h, List.getElem_map]
theorem loose_ll {w : World} {b o : Nat} {ps : List RP} (h : rlv.Lies w b o (ps.map (·.1))) (he : ∀ p ∈ ps, SLe w (sv p.1) p.2) : LL w b o (ps.map toL) := by
  intro k hk
  have hk2 : k < ps.length := by simpa using hk
  have h0 := h k (by simpa using hk2) 0 _ (show (rlv.rV (ps.map (·.1))[k]!)[0]? = some _ from rfl)
  have h1 := h k (by simpa using hk2) 1 _ (show (rlv.rV (ps.map (·.1))[k]!)[1]? = some _ from rfl)
  rw [mget _ _ _ hk2] at h0 h1
  rw [mget _ _ _ hk2]
  exact ⟨h0, sv ps[k]!.1, h1, he _ (by rw [getE _ _ hk2]; exact List.getElem_mem hk2)⟩
theorem Loose.ls {w : World} {v : Value} {ps : List RP} (h : Loose w v ps) : LS w v (ps.map toL) := by
  obtain ⟨h1, h2⟩ := h
  rcases h1 with ⟨rfl, hn⟩ | ⟨b, o, c, rfl, hc, hm, hb, hl⟩
  · have : ps = [] := by simpa using hn
    subst this
    exact .inl ⟨rfl, rfl⟩
  · exact .inr ⟨b, o, c, by simp, by simpa using hc, hm, hb, loose_ll hl h2⟩
theorem ll_tail {w : World} {b o : Nat} {l : L} {t : List L} (h : LL w b o (l :: t)) : LL w b (o + 2) t := by
  intro k hk
  have := h (k + 1) (by simpa using hk)
  rw [show o + (k + 1) * 2 = o + 2 + k * 2 by omega] at this
  simpa using this
theorem lies_cons {w : World} {b o : Nat} {r : rlv.RL} {t : List rlv.RL} (h0 : w.cell? ⟨b, o, none⟩ = some (.int .i64 r.price)) (h1 : w.cell? ⟨b, o + 1, none⟩ = some (sv r)) (h : rlv.Lies w b (o + 2) t) : rlv.Lies w b o (r :: t) := by
  intro j hj i v hv
  cases j with
  | zero =>
    simp only [List.getElem!_cons_zero, rlv.rV] at hv
    match i, hv with
    | 0, hv => simp at hv; subst hv; simpa using h0
    | 1, hv => simp at hv; subst hv; simpa [sv] using h1
    | i + 2, hv => simp at hv
  | succ j =>
    simp only [List.getElem!_cons_succ] at hv
    have := h j (by simpa using hj) i v hv
    rw [show o + (j + 1) * 2 + i = o + 2 + j * 2 + i by omega]
    exact this
theorem ll_loose {w : World} {b : Nat} (ls : List L) : ∀ o, LL w b o ls → ∃ ps : List RP, ps.map toL = ls ∧ rlv.Lies w b o (ps.map (·.1)) ∧ ∀ p ∈ ps, SLe w (sv p.1) p.2 := by
  induction ls with
  | nil => intro o _; exact ⟨[], rfl, fun j hj => by simp at hj, fun p hp => by cases hp⟩
  | cons l t ih =>
    intro o h
    obtain ⟨ps, e1, e2, e3⟩ := ih _ (ll_tail h)
    obtain ⟨h0, v, h1, hs⟩ := h 0 (by simp)
    simp only [List.getElem!_cons_zero, Nat.zero_mul, Nat.add_zero] at h0 h1 hs
    obtain ⟨q, c, hv⟩ := sl_form hs
    subst hv
    refine ⟨(⟨l.price, q, l.rests.length, c⟩, l.rests) :: ps, by rw [List.map_cons, e1]; rfl, lies_cons h0 h1 e2, ?_⟩
    intro p hp
    rcases List.mem_cons.1 hp with rfl | hp
    · exact hs
    · exact e3 p hp
theorem ls_loose {w : World} {v : Value} {ls : List L} (h : LS w v ls) : ∃ ps : List RP, ps.map toL = ls ∧ Loose w v ps := by
  rcases h with ⟨rfl, rfl⟩ | ⟨b, o, c, rfl, hc, hm, hb, hl⟩
  · exact ⟨[], rfl, .inl ⟨rfl, rfl⟩, fun p hp => by cases hp⟩
  · obtain ⟨ps, e1, e2, e3⟩ := ll_loose ls o hl
    have e4 : ps.length = ls.length := by rw [← e1, List.length_map]
    exact ⟨ps, e1, .inr ⟨b, o, c, by simp [e4], by simpa [e4] using hc, hm, hb, e2⟩, e3⟩

/-- A side of the call's own; behind it levels that are not yet its own. -/
structure DeepT (w : World) (base : Nat) (v : Value) (ps : List RP) (tl : List rlv.RL) : Prop where
  own : rlv.OwnQ w base v (ps.map (·.1) ++ tl)
  each : ∀ p ∈ ps, OwnQ w base (sv p.1) p.2
  apart : ps.Pairwise AP
  far : ∀ p ∈ ps, ∀ x, blkR p.1 = some x → v.ownBlock ≠ some x
abbrev Deep (w : World) (base : Nat) (v : Value) (ps : List RP) : Prop := DeepT w base v ps []
theorem DeepT.loose {w : World} {base : Nat} {v : Value} {ps : List RP} (h : Deep w base v ps) : Loose w v ps :=
  ⟨by have := rlv.OwnQ.sl h.own; rwa [List.append_nil] at this, fun p hp => .inl (OwnQ.sl (h.each p hp))⟩
theorem DeepT.ls {w : World} {base : Nat} {v : Value} {ps : List RP} (h : Deep w base v ps) : LS w v (ps.map toL) := h.loose.ls

theorem gr_setCell (w : World) (g o : Nat) (u : Value) : w.grownBy (w.setCell ⟨g, o, none⟩ u) (some g) :=
  ⟨rfl, rfl, rfl, by simp, fun k _ hk => heap_setCell_other w ⟨g, o, none⟩ k u (fun e => hk (by rw [e]))⟩
theorem gr_below {w w' : World} (h : Below w.heap.size w w') (row : Option Nat) : w.grownBy w' row := ⟨h.os, h.tape, h.output, h.size, fun k hk _ => h.block k hk⟩
theorem gr_trans {a b c : World} {row : Option Nat} (h : a.grownBy b row) (k : b.grownBy c row) : a.grownBy c row :=
  ⟨k.os.trans h.os, k.tape.trans h.tape, k.output.trans h.output, Nat.le_trans h.size k.size, fun i hi hn => (k.block i (Nat.lt_of_lt_of_le hi h.size) hn).trans (h.block i hi hn)⟩
theorem OwnM.mono {w : World} {base base' : Nat} {e : TypeId} {sz : Nat} {v : Value} {n : Nat} {xs : List Value} (h : OwnM w base e sz v n xs) (hb : base' ≤ base) : OwnM w base' e sz v n xs := by
  refine ⟨h.1, ?_⟩
  rcases h.2 with hn | ⟨g, off, cap, cur, h1, h2, h3⟩
  · exact .inl hn
  · exact .inr ⟨g, off, cap, cur, h1, Nat.le_trans hb h2, h3⟩
theorem OwnM.form {w : World} {base : Nat} {e : TypeId} {sz : Nat} {v : Value} {n : Nat} {xs : List Value} (h : OwnM w base e sz v n xs) : ∃ q c, v = .slice q n c := by
  rcases h.2 with ⟨h1, h2⟩ | ⟨g, off, cap, cur, h1, _⟩
  · subst h2; exact ⟨_, _, h1⟩
  · exact ⟨_, _, h1⟩
theorem OwnM.set {w : World} {base : Nat} {e : TypeId} {sz : Nat} {g off n cap : Nat} {xs : List Value} (h : OwnM w base e sz (.slice (some ⟨g, off, none⟩) n cap) n xs) (j : Nat) (u : Value) :
    OwnM (w.setCell ⟨g, off + j, none⟩ u) base e sz (.slice (some ⟨g, off, none⟩) n cap) n (xs.set j u) := by
  refine ⟨by rw [List.length_set]; exact h.1, ?_⟩
  rcases h.2 with ⟨h1, _⟩ | ⟨g', off', cap', cur, h1, h2, h3, h4, h5, h6, h7⟩
  · cases h1
  · cases h1
    refine .inr ⟨g, off, cap, cur.setIfInBounds (off + j) u, rfl, h2, heap_setCell_same w g (off + j) cur e u h3, h4, h5, by simpa using h6, ?_⟩
    rw [Array.toList_setIfInBounds, List.drop_set, if_neg (by omega), show off + j - off = j by omega, List.take_set, h7]
theorem OwnM.cells {w : World} {base : Nat} {e : TypeId} {sz : Nat} {g off n cap : Nat} {xs : List Value} (h : OwnM w base e sz (.slice (some ⟨g, off, none⟩) n cap) n xs) :
    (∀ j u, xs[j]? = some u → w.cell? ⟨g, off + j, none⟩ = some u) ∧ (∀ o, w.frozen? ⟨g, o, none⟩ = false) ∧ base ≤ g ∧ g < w.heap.size := by
  rcases h.2 with ⟨h1, _⟩ | ⟨g', off', cap', cur, h1, h2, h3, h4, h5, h6, h7⟩
  · cases h1
  · cases h1
    refine ⟨fun j u hu => ?_, fun o => by simp [World.frozen?, h3], h2, (Array.getElem?_eq_some_iff.1 h3).1⟩
    rw [cell_of_row w g (off + j) cur e (0, 0) h3]
    rw [← h7, List.getElem?_take] at hu
    split at hu
    · rw [List.getElem?_drop] at hu; simpa using hu
    · cases hu

/-- A level of a side of the call's own. -/
theorem ownr_at {w : World} {base g off n cap : Nat} {a : List rlv.RL} {r : rlv.RL} {b : List rlv.RL} (h : rlv.OwnQ w base (.slice (some ⟨g, off, none⟩) n cap) (a ++ r :: b)) :
    n = (a ++ r :: b).length ∧ w.cell? ⟨g, off + a.length * 2, none⟩ = some (.int .i64 r.price) ∧ w.cell? ⟨g, off + a.length * 2 + 1, none⟩ = some (.slice r.q r.n r.c) ∧ (∀ o, w.frozen? ⟨g, o, none⟩ = false) ∧ base ≤ g ∧ g < w.heap.size := by
  have hn : n = (a ++ r :: b).length := by obtain ⟨q', c', e⟩ := OwnM.form h; cases e; rfl
  subst hn
  obtain ⟨hc, hf, h1, h2⟩ := OwnM.cells h
  refine ⟨rfl, ?_, ?_, hf, h1, h2⟩
  · have := hc (a.length * 2) (.int .i64 r.price) (by
      rw [rlv.flat_append, List.getElem?_append_right (by rw [rlv.flat_len]; omega), rlv.flat_len, Nat.sub_self]; rfl)
    exact this
  · have := hc (a.length * 2 + 1) (.slice r.q r.n r.c) (by
      rw [rlv.flat_append, List.getElem?_append_right (by rw [rlv.flat_len]; omega), rlv.flat_len, show a.length * 2 + 1 - a.length * 2 = 1 by omega]; rfl)
    rw [← Nat.add_assoc] at this
    exact this
/-- Where only blocks above have turned all stands. -/
theorem DeepT.grown {w w' : World} {base : Nat} {v : Value} {ps : List RP} {tl : List rlv.RL} (h : DeepT w base v ps tl) {row : Option Nat} (hg : w.grownBy w' row) (h1 : ∀ x, row = some x → w.heap.size ≤ x) : DeepT w' base v ps tl := by
  refine ⟨OwnM.kept h.own hg ?_, fun p hp => OwnM.kept (h.each p hp) hg ?_, h.apart, h.far⟩
  · cases hv : v.ownBlock with
    | none => exact .inl rfl
    | some k => exact .inr fun e => by have := (OwnM.lt h.own k hv).2; have := h1 k e.symm; omega
  · cases hv : (sv p.1).ownBlock with
    | none => exact .inl rfl
    | some k => exact .inr fun e => by have := (OwnM.lt (h.each p hp) k hv).2; have := h1 k e.symm; omega
theorem DeepT.below {w w' : World} {base : Nat} {v : Value} {ps : List RP} {tl : List rlv.RL} (h : DeepT w base v ps tl) (hB : Below w.heap.size w w') : DeepT w' base v ps tl :=
  h.grown (gr_below hB none) (fun x hx => by cases hx)

theorem flat_set {a : List rlv.RL} {r : rlv.RL} {b : List rlv.RL} (q : Option Addr) (n c : Nat) : (rlv.flat (a ++ r :: b)).set (a.length * 2 + 1) (.slice q n c) = rlv.flat (a ++ ⟨r.price, q, n, c⟩ :: b) := by
  rw [rlv.flat_append, rlv.flat_append, List.set_append, if_neg (by rw [rlv.flat_len]; omega), rlv.flat_len, show a.length * 2 + 1 - a.length * 2 = 1 by omega]
  rfl
/-- What is not in a block stands where that block alone has turned. -/
theorem kept_of {w w' : World} {base : Nat} {e : TypeId} {sz : Nat} {v : Value} {n : Nat} {xs : List Value} {row : Option Nat} (h : OwnM w base e sz v n xs) (hg : w.grownBy w' row) (hne : ∀ x, v.ownBlock = some x → row ≠ some x) : OwnM w' base e sz v n xs := by
  refine OwnM.kept h hg ?_
  cases hv : v.ownBlock with
  | none => exact .inl rfl
  | some k => exact .inr fun e => hne k hv e.symm

/-- The next level's rests are the call's own from now on. -/
theorem DeepT.next {w w1 : World} {base g off n cap : Nat} {ps : List RP} {r : rlv.RL} {tl : List rlv.RL} {zs : List R} {q : Option Addr} {m c : Nat}
    (h : DeepT w base (.slice (some ⟨g, off, none⟩) n cap) ps (r :: tl)) (hB : Below w.heap.size w w1) (ho : OwnQ w1 w.heap.size (.slice q m c) zs) (hbase : base ≤ w.heap.size) :
    DeepT (w1.setCell ⟨g, off + (ps.length * 2 + 1), none⟩ (.slice q m c)) base (.slice (some ⟨g, off, none⟩) n cap) (ps ++ [(⟨r.price, q, m, c⟩, zs)]) tl := by
  have h1 := h.below hB
  have hg := gr_setCell w1 g (off + (ps.length * 2 + 1)) (.slice q m c)
  have hn : n = (ps.map (·.1) ++ r :: tl).length := by
    obtain ⟨q', c', e⟩ := OwnM.form h.own; cases e; rfl
  subst hn
  obtain ⟨-, -, -, hlt⟩ := OwnM.cells h.own
  have hnew : ∀ x, (Value.slice q m c).ownBlock = some x → w.heap.size ≤ x := fun x hx => (OwnM.lt ho x hx).1
  refine ⟨?_, ?_, ?_, ?_⟩
  · have := OwnM.set h1.own (ps.length * 2 + 1) (.slice q m c)
    rw [show ps.length = (ps.map (·.1)).length by simp, flat_set] at this
    rw [List.map_append, List.append_assoc]
    show OwnM _ _ _ _ _ _ _
    simpa using this
  · intro p hp
    rcases List.mem_append.1 hp with hp | hp
    · exact kept_of (h1.each p hp) hg (fun x hx => by have := h.far p hp x hx; simpa [Value.ownBlock] using this)
    · simp only [List.mem_singleton] at hp
      subst hp
      exact kept_of (OwnM.mono ho hbase) hg (fun x hx e => by have := hnew x hx; simp at e; omega)
  · refine List.pairwise_append.2 ⟨h1.apart, by simp, ?_⟩
    intro a ha b hb x hx hy
    simp only [List.mem_singleton] at hb
    subst hb
    have := hnew x hy
    have := (OwnM.lt (h.each a ha) x hx).2
    omega
  · intro p hp x hx
    rcases List.mem_append.1 hp with hp | hp
    · exact h.far p hp x hx
    · simp only [List.mem_singleton] at hp
      subst hp
      have := hnew x hx
      intro e
      simp [Value.ownBlock] at e
      omega
end Go.Proofs.Ytnjpjieedgmffaa.sid
