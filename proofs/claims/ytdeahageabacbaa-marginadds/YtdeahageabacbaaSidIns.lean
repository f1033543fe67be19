/- Contracts over this seat's translation: book.with. Contracts over this seat's translation: slices.Insert of levels, in a side of the call's own. -/
import Derived.Test.YtdeahageabacbaaBokChk
import Derived.Test.YtdeahageabacbaaSidDL
import Derived.Test.YtdeahageabacbaaSidFresh
import Derived.Shelf.Spec.SlicesInsertGrow
import Derived.Deep.MidRow
namespace Go.Proofs.Ytdeahageabacbaa.bok
open Go.RowKit Go.Proofs.Ytdeahageabacbaa.spn Go.Proofs.Ytdeahageabacbaa.que Go.Proofs.Ytdeahageabacbaa.sid

def zeroB : Value := .agg #[.slice none 0 0, .slice none 0 0]

/-- What 'with' answers. -/
def WiPost (s : Int) (bs ss ls : List L) (b0 : Nat) (w : World) (e : Ending) (w' : World) : Prop :=
  ∃ q1 q2 n1 n2 c1 c2, e = .returned (.agg #[.slice q1 n1 c1, .slice q2 n2 c2]) ∧ DL w' b0 (.slice q1 n1 c1) (if s = 1 then ls else bs) ∧ DL w' b0 (.slice q2 n2 c2) (if s = 1 then ss else ls) ∧ Below w.heap.size w w'
set_option maxRecDepth 100000 in
set_option maxHeartbeats 2000000 in
theorem with_any (s : Int) (q1 q2 q3 : Option Addr) (n1 n2 n3 c1 c2 c3 : Nat) (bs ss ls : List L) (b0 : Nat) (w : World) (h1 : LS w (.slice q1 n1 c1) bs) (h2 : LS w (.slice q2 n2 c2) ss) (h3 : DL w b0 (.slice q3 n3 c3) ls) (hb0 : b0 ≤ w.heap.size) (k1 : schk 1 bs = 0) (k2 : schk 2 ss = 0) :
    Calls Try.prog 48 #[.agg #[.slice q1 n1 c1, .slice q2 n2 c2], .int .i64 s, .slice q3 n3 c3] w fun e w' => WiPost s bs ss ls b0 w e w' := by
  have hlen : ∀ {t : Int} {xs : List L}, schk t xs = 0 → xs.length ≤ 1000 ∧ (∀ l ∈ xs, l.rests.length ≤ 1000) := fun {t xs} hk => by
    obtain ⟨-, z2, z3, -⟩ := schk_zero hk
    have := len_cnt (sgo_each z2)
    exact ⟨by omega, fun l hl => by have := rests_le hl; omega⟩
  have HF1 : Hid (∀ W, Below w.heap.size w W → Calls Try.prog 46 #[.slice q1 n1 c1] W fun e w' => FreshPost W bs e w') := fun W hW => fresh_any _ bs W (h1.below hW) (hlen k1).1 (hlen k1).2 (side_ne k1)
  have HF2 : Hid (∀ W, Below w.heap.size w W → Calls Try.prog 46 #[.slice q2 n2 c2] W fun e w' => FreshPost W ss e w') := fun W hW => fresh_any _ ss W (h2.below hW) (hlen k2).1 (hlen k2).2 (side_ne k2)
  have H3 : Hid (DL w b0 (.slice q3 n3 c3) ls) := h3
  obtain ⟨V, hV⟩ : ∃ V, V = (w.alloc (.cells #[.slice q1 n1 c1, .slice q2 n2 c2] 24)).alloc (.cells #[.slice none 0 0, .slice none 0 0] 24) := ⟨_, rfl⟩
  have HB : Hid (Below w.heap.size w V) := by rw [hV]; exact ((Below.refl _ _).alloc (Nat.le_refl _) _).alloc (by simp) _
  have v0 : V.cell? ⟨w.heap.size, 0, none⟩ = some (.slice q1 n1 c1) := by rw [hV]; simp [go_sem]
  have v1 : V.cell? ⟨w.heap.size, 1, none⟩ = some (.slice q2 n2 c2) := by rw [hV]; simp [go_sem]
  have hR : V.heap[w.heap.size + 1]? = some (.cells #[.slice none 0 0, .slice none 0 0] 24 (0, 0)) := by
    rw [hV]
    have := heap_alloc_new (w.alloc (.cells #[.slice q1 n1 c1, .slice q2 n2 c2] 24)) (.cells #[.slice none 0 0, .slice none 0 0] 24)
    simpa using this
  have hVs : w.heap.size + 1 < V.heap.size := (Array.getElem?_eq_some_iff.1 hR).1
  clear h1 h2 h3 k1 k2 hlen
  by_cases hs : s = 1
  · subst hs
    have HP : Hid (∀ W q m c, Below w.heap.size w W → DL W b0 (.slice q m c) ss → DL W b0 (.slice q3 n3 c3) ls → WiPost 1 bs ss ls b0 w (.returned (.agg #[.slice q3 n3 c3, .slice q m c])) W) := fun W q m c hW ha hb => ⟨q3, q, n3, m, c3, c, rfl, by rw [if_pos rfl]; exact hb, by rw [if_pos rfl]; exact ha, hW⟩
    generalize WiPost 1 bs ss ls b0 w = POST at *
    go_enter Try.func48, Try.ntmps48
    go_wp2_with fail
    rw [← hV]
    refine (HF2.out V HB.out).mono ?_
    rintro e w1 ⟨v', ps, rfl, hps, hD, b1⟩
    obtain ⟨q', c', hv'⟩ := OwnM.form hD.own
    generalize (ps.map (·.1) ++ ([] : List rlv.RL)).length = m' at hv'
    subst hv'
    have hB1 : Below w.heap.size w w1 := HB.out.trans (b1.mono HB.out.size)
    have hR1 : w1.heap[w.heap.size + 1]? = some (.cells #[.slice none 0 0, .slice none 0 0] 24 (0, 0)) := by rw [b1.block _ hVs]; exact hR
    obtain ⟨e0, e1, hf⟩ := rowTwo hR1
    have f0 := hf 0
    have f1 := hf 1
    have HX := setTwo hR1 (.slice q3 n3 c3) (.slice q' m' c')
    have hg := grTwo w1 (w.heap.size + 1) (.slice q3 n3 c3) (.slice q' m' c')
    have hD2 : DL _ b0 _ _ := ⟨ps, hps, (hD.other hg hVs).mono (Nat.le_trans hb0 HB.out.size)⟩
    have HPX := HP.out _ q' m' c' (hB1.grown hg hB1.size (fun k hk => by cases hk; omega)) hD2 (dl_grown H3.out hB1 hg (by omega))
    have HHX : Hid (((w1.setCell ⟨w.heap.size + 1, 0, none⟩ (.slice q3 n3 c3)).setCell ⟨w.heap.size + 1, 1, none⟩ (.slice q' m' c')).heap[w.heap.size + 1]? = some (.cells #[.slice q3 n3 c3, .slice q' m' c'] 24 (0, 0))) := HX
    clear hD hps hB1 hR1 hf HX hg hD2 HP HF1 HF2 b1 hR v0 v1
    go_wp2_with fail
    generalize (w1.setCell ⟨w.heap.size + 1, 0, none⟩ (.slice q3 n3 c3)).setCell ⟨w.heap.size + 1, 1, none⟩ (.slice q' m' c') = X at *
    obtain ⟨y0, y1, -⟩ := rowTwo HHX.out
    exact bodyPost_ret (v := .agg #[.slice q3 n3 c3, .slice q' m' c']) (by simp [results, Try.results48, go_sem, y0, y1]) rfl HPX
  · have hs1 : (s == 1) = false := by simpa using hs
    have HP : Hid (∀ W q m c, Below w.heap.size w W → DL W b0 (.slice q m c) bs → DL W b0 (.slice q3 n3 c3) ls → WiPost s bs ss ls b0 w (.returned (.agg #[.slice q m c, .slice q3 n3 c3])) W) := fun W q m c hW ha hb => ⟨q, q3, m, n3, c, c3, rfl, by rw [if_neg hs]; exact ha, by rw [if_neg hs]; exact hb, hW⟩
    generalize WiPost s bs ss ls b0 w = POST at *
    go_enter Try.func48, Try.ntmps48
    go_wp2_with fail
    rw [← hV]
    refine (HF1.out V HB.out).mono ?_
    rintro e w1 ⟨v', ps, rfl, hps, hD, b1⟩
    obtain ⟨q', c', hv'⟩ := OwnM.form hD.own
    generalize (ps.map (·.1) ++ ([] : List rlv.RL)).length = m' at hv'
    subst hv'
    have hB1 : Below w.heap.size w w1 := HB.out.trans (b1.mono HB.out.size)
    have hR1 : w1.heap[w.heap.size + 1]? = some (.cells #[.slice none 0 0, .slice none 0 0] 24 (0, 0)) := by rw [b1.block _ hVs]; exact hR
    obtain ⟨e0, e1, hf⟩ := rowTwo hR1
    have f0 := hf 0
    have f1 := hf 1
    have HX := setTwo hR1 (.slice q' m' c') (.slice q3 n3 c3)
    have hg := grTwo w1 (w.heap.size + 1) (.slice q' m' c') (.slice q3 n3 c3)
    have hD2 : DL _ b0 _ _ := ⟨ps, hps, (hD.other hg hVs).mono (Nat.le_trans hb0 HB.out.size)⟩
    have HPX := HP.out _ q' m' c' (hB1.grown hg hB1.size (fun k hk => by cases hk; omega)) hD2 (dl_grown H3.out hB1 hg (by omega))
    have HHX : Hid (((w1.setCell ⟨w.heap.size + 1, 0, none⟩ (.slice q' m' c')).setCell ⟨w.heap.size + 1, 1, none⟩ (.slice q3 n3 c3)).heap[w.heap.size + 1]? = some (.cells #[.slice q' m' c', .slice q3 n3 c3] 24 (0, 0))) := HX
    clear hD hps hB1 hR1 hf HX hg hD2 HP HF1 HF2 b1 hR v0 v1
    go_wp2_with fail
    generalize (w1.setCell ⟨w.heap.size + 1, 0, none⟩ (.slice q' m' c')).setCell ⟨w.heap.size + 1, 1, none⟩ (.slice q3 n3 c3) = X at *
    obtain ⟨y0, y1, -⟩ := rowTwo HHX.out
    exact bodyPost_ret (v := .agg #[.slice q' m' c', .slice q3 n3 c3]) (by simp [results, Try.results48, go_sem, y0, y1]) rfl HPX
end Go.Proofs.Ytdeahageabacbaa.bok
namespace Go.Proofs.Ytdeahageabacbaa.sid
open Go.RowKit Go.Proofs.Ytdeahageabacbaa.spn Go.Proofs.Ytdeahageabacbaa.que

/-- copy, at elements of more cells than one. -/
theorem run_copy_wide {P : Program} (w : World) (dT sT ty elem : TypeId) (size : Nat) (b o dLen dCap : Nat) (a : Addr) (sLen sCap : Nat) (cs : List Value)
    (hu : P.underlying dT = some (.slice elem)) (hs : (P.info? elem).map (·.size) = some size) (hn : cs.length = Nat.min sLen dLen * size)
    (hsrc : ∀ j v, cs[j]? = some v → w.cell? (a.add j) = some v) (ht : w.there b o cs.length) (h1 : ∀ v ∈ cs, v.oneCell' = true) :
    (Builtin.copy_ #[dT, sT] ty #[.slice (some ⟨b, o, none⟩) dLen dCap, .slice (some a) sLen sCap]).run P w = .ok (goInt (Nat.min sLen dLen)) (w.setCells b o cs) := by
  have hl := run_firstCells_some (P := P) w size (Nat.min sLen dLen) a sLen sCap cs hn hsrc
  have hst := run_storeCells_cells (P := P) b o cs 0 w (by simpa using fun j hj => (ht j hj).1) (by simpa using fun j hj => (ht j hj).2) h1
  cases hq : P.info? elem with
  | none => simp [hq] at hs
  | some i =>
    have hi : i.size = size := by simpa [hq] using hs
    simp [Builtin.copy_, run_underlying hu, Builtin.lenOf, sizeOf, typeInfo, hq, hi]
    rw [show Nat.min sLen dLen = min sLen dLen from rfl] at hl
    simp [hl, hst]
theorem setCells_blk (g : Nat) (e : TypeId) (fr : Nat × Nat) : ∀ (vs : List Value) (o : Nat) (w : World) (cur : Array Value), w.heap[g]? = some (.cells cur e fr) → ∃ cur', (w.setCells g o vs).heap[g]? = some (.cells cur' e fr) ∧ cur'.size = cur.size
  | [], _, w, cur, h => ⟨cur, h, rfl⟩
  | v :: r, o, w, cur, h => by
    have hlt : g < w.heap.size := (Array.getElem?_eq_some_iff.1 h).1
    have h1 : (w.setCell ⟨g, o, none⟩ v).heap[g]? = some (.cells (cur.setIfInBounds o v) e fr) := by
      rw [setCell_eq_setRow w g o cur e fr v h]; exact setRow_heap w g cur _ e fr h
    obtain ⟨c, h2, h3⟩ := setCells_blk g e fr r (o + 1) _ _ h1
    exact ⟨c, h2, by rw [h3]; simp⟩
theorem gr_setCells (g : Nat) : ∀ (vs : List Value) (o : Nat) (w : World), w.grownBy (w.setCells g o vs) (some g)
  | [], _, _ => ⟨rfl, rfl, rfl, Nat.le_refl _, fun _ _ _ => rfl⟩
  | v :: r, o, w => gr_trans (gr_setCell w g o v) (gr_setCells g r (o + 1) _)
theorem gr_drew (w : World) (row : Option Nat) : w.grownBy w.drew row := ⟨rfl, rfl, rfl, Nat.le_refl _, fun _ _ _ => rfl⟩
theorem gr_alloc (w : World) (o : Obj) (row : Option Nat) : w.grownBy (w.alloc o) row := gr_below ((Below.refl _ _).alloc (Nat.le_refl _) _) row

/-- What a slice of the call's own says of the cells. -/
theorem own_of {w : World} {base : Nat} {e : TypeId} {sz : Nat} {g off n cap : Nat} {xs : List Value} (hl : xs.length = n * sz) (hb : base ≤ g) {cur : Array Value} (hg : w.heap[g]? = some (.cells cur e (0, 0)))
    (hs : off + cap * sz ≤ cur.size) (hn : n ≤ cap) (hm : cap ≤ maxLen) (hr : w.rangeAt g off xs) : OwnM w base e sz (.slice (some ⟨g, off, none⟩) n cap) n xs := by
  refine ⟨hl, .inr ⟨g, off, cap, cur, rfl, hb, hg, hn, hm, hs, ?_⟩⟩
  apply List.ext_getElem?
  intro j
  rw [List.getElem?_take]
  have hle : n * sz ≤ cap * sz := Nat.mul_le_mul_right _ hn
  by_cases hj : j < n * sz
  · rw [if_pos hj, List.getElem?_drop]
    have hx : xs[j]? = some xs[j] := List.getElem?_eq_getElem (by omega)
    rw [hx, Array.getElem?_toList, ← cell_of_row w g (off + j) cur e (0, 0) hg]
    exact hr j _ hx
  · rw [if_neg hj, List.getElem?_eq_none (by omega)]
theorem own_range {w : World} {base : Nat} {e : TypeId} {sz : Nat} {g off n cap : Nat} {xs : List Value} (h : OwnM w base e sz (.slice (some ⟨g, off, none⟩) n cap) n xs) :
    xs.length = n * sz ∧ base ≤ g ∧ (∃ cur, w.heap[g]? = some (.cells cur e (0, 0)) ∧ off + cap * sz ≤ cur.size) ∧ n ≤ cap ∧ cap ≤ maxLen ∧ w.rangeAt g off xs ∧ w.there g off (cap * sz) := by
  obtain ⟨hc, hf, hb, -⟩ := OwnM.cells h
  rcases h.2 with ⟨h1, _⟩ | ⟨g', off', cap', cur, h1, h2, h3, h4, h5, h6, h7⟩
  · cases h1
  · cases h1
    refine ⟨h.1, hb, ⟨cur, h3, h6⟩, h4, h5, hc, fun j hj => ⟨?_, hf _⟩⟩
    rw [cell_of_row w g (off + j) cur e (0, 0) h3, Array.getElem?_eq_getElem (by omega)]; rfl
theorem range_append {w : World} {b o : Nat} {xs ys : List Value} (h1 : w.rangeAt b o xs) (h2 : w.rangeAt b (o + xs.length) ys) : w.rangeAt b o (xs ++ ys) := by
  intro j v hv
  by_cases hj : j < xs.length
  · rw [List.getElem?_append_left hj] at hv; exact h1 j v hv
  · rw [List.getElem?_append_right (by omega)] at hv
    have := h2 (j - xs.length) v hv
    rwa [show o + xs.length + (j - xs.length) = o + j by omega] at this
theorem range_left {w : World} {b o : Nat} {xs ys : List Value} (h : w.rangeAt b o (xs ++ ys)) : w.rangeAt b o xs := fun j v hv => h j v (by rw [List.getElem?_append_left (List.getElem?_eq_some_iff.1 hv).1]; exact hv)
theorem range_right {w : World} {b o : Nat} {xs ys : List Value} (h : w.rangeAt b o (xs ++ ys)) : w.rangeAt b (o + xs.length) ys := fun j v hv => by
  have := h (xs.length + j) v (by rw [List.getElem?_append_right (by omega)]; simpa using hv)
  rwa [← Nat.add_assoc] at this

theorem own_cap (q : Option Addr) (n c d : Nat) : (Value.slice q n c).ownBlock = (Value.slice q n d).ownBlock := by cases q <;> rfl
/-- What Insert answers: the levels with others between, in the same block or in a new one. -/
def InsPost (w : World) (base : Nat) (v : Value) (n : Nat) (xs : List Value) (e : Ending) (w' : World) : Prop :=
  ∃ v', e = .returned v' ∧ OwnM w' base 62 2 v' n xs ∧ w.grownBy w' v.ownBlock ∧ (v'.ownBlock = v.ownBlock ∨ ∃ k, v'.ownBlock = some k ∧ w.heap.size ≤ k)

set_option maxRecDepth 100000 in
set_option maxHeartbeats 1000000 in
/-- Insert at the end. -/
theorem insert_end (w : World) (base : Nat) (v : Value) (n : Nat) (xs : List Value) (vb m vc : Nat) (vs : List Value) (ho : OwnM w base 62 2 v n xs) (hbase : base ≤ w.heap.size) (hm : 0 < m) (hml : m ≤ 1000) (hnl : n ≤ 10000)
    (hvl : vs.length = m * 2) (hvs : w.rangeAt vb 0 vs) (h1 : ∀ u ∈ vs, u.oneCell' = true) :
    Calls Try.prog 68 #[v, .int .i64 n, .slice (some ⟨vb, 0, none⟩) m vc] w fun e w' => InsPost w base v (n + m) (xs ++ vs) e w' := by
  obtain ⟨i0, hi, hz0, hz1, hz2⟩ := rlv.infoR'
  have HI : Hid (Try.prog.info? 62 = some i0) := hi
  have HO : Hid (OwnM w base 62 2 v n xs) := ho
  obtain ⟨q, c, hv⟩ := OwnM.form ho
  have HC : Hid (n ≤ c ∧ c ≤ 9223372036854775807) := by
    rcases ho.2 with ⟨e, hn0⟩ | ⟨g, off, cap, cur, e, -, -, hcap, hcm, -, -⟩
    · rw [e] at hv; cases hv; exact ⟨by omega, by omega⟩
    · rw [e] at hv; cases hv; exact ⟨hcap, by simpa [maxLen] using hcm⟩
  have HVS : Hid (∀ j u, vs[j]? = some u → w.cell? ((⟨vb, 0, none⟩ : Addr).add j) = some u) := fun j u hu => by rw [Addr.add_lit]; exact hvs j u hu
  have HPOST : Hid (∀ v' w', OwnM w' base 62 2 v' (n + m) (xs ++ vs) → w.grownBy w' v.ownBlock → (v'.ownBlock = v.ownBlock ∨ v'.ownBlock = some w.heap.size) → InsPost w base v (n + m) (xs ++ vs) (.returned v') w') := fun v' w' h1 h2 h3 => ⟨v', rfl, h1, h2, h3.imp id (fun e => ⟨_, e, Nat.le_refl _⟩)⟩
  generalize InsPost w base v (n + m) (xs ++ vs) = POST at *
  clear hi ho hvs
  obtain ⟨hc1, hc2⟩ := HC.out
  have hz3 : ¬ ((m : Int) = 0) := by omega
  have hz4 : ¬ (m = 0) := by omega
  have hn0 : ¬ ((n : Int) < 0) := by omega
  subst hv
  go_enter Try.func68, Try.ntmps68
  go_wp2_with (at_builtin; (refine wpList_append_mid _ rfl _ _ 22 rfl base 62 i0 rlv.zeroR 2 32 Try.underlying22 HI.out hz0 hz1 hz2 rfl (.slice q n c) n xs rfl HO.out ⟨vb, 0, none⟩ m vc vs rfl hvl HVS.out h1 (by unfold maxLen; omega) (by omega) hbase ?_))
  all_goals
    intro v' w' hO' hgr hat
    have HX := HPOST.out v' w' hO' (by rw [own_cap q n c 0]; rw [own_cap q n _ 0] at hgr; exact hgr) (by rw [own_cap q n c 0]; rw [own_cap q n _ 0] at hat; exact hat)
    clear hO' hgr hat HPOST
    go_wp2_with fail
    exact HX
end Go.Proofs.Ytdeahageabacbaa.sid
