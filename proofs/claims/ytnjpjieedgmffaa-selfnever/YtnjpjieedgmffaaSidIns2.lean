/- Plain facts: where a visit stands between two parts of it. No walk. Contracts over this seat's translation: slices.Insert of levels, in a side of the call's own. Contracts over this seat's translation: slices.Insert of levels between others, in a side of the call's own. -/
import Derived.Test.YtnjpjieedgmffaaMeeOwn
import Derived.Test.YtnjpjieedgmffaaSidPut
import Derived.Shelf.Spec.SlicesInsertGrow
import Derived.Deep.MidRow
namespace Go.Proofs.Ytnjpjieedgmffaa.slf
open Go.RowKit Go.Proofs.Ytnjpjieedgmffaa.spn Go.Proofs.Ytnjpjieedgmffaa.que Go.Proofs.Ytnjpjieedgmffaa.sid Go.Proofs.Ytnjpjieedgmffaa.bok Go.Proofs.Ytnjpjieedgmffaa.mee
open Go.Proofs.Ytnjpjieedgmffaa.ord (O mB chk)

/-- A visit that is over. -/
def Fin (v : V) (X : List L) (ts : List T) (ids : List Int) (left gone : Int) : Prop :=
  v.ls = X ∧ v.ts = ts ∧ v.ids = ids ∧ left = (if v.ends = true then 0 else v.left) ∧ gone = (if v.ends = true then v.left else 0)
def Link (m : Int) (o : O) (v : V) (X : List L) (ts : List T) (ids : List Int) (left gone : Int) : Prop :=
  (0 < left ∧ gone = 0 ∧ ∃ u, Fine m o X left u ∧ v = ⟨u.ls, ts ++ u.ts, u.left, u.ends, ids ++ u.ids⟩) ∨ (left = 0 ∧ Fin v X ts ids left gone)
def dropX (m p : Int) (r : R) (rs : List R) (t : List L) : List L := if m = 1 then ⟨p, r :: rs⟩ :: t else stepL p rs t
def dropI (m : Int) (ids : List Int) (id : Int) : List Int := if m = 1 then ids else ids ++ [id]
def dropLf (m left : Int) : Int := if m = 2 then left else 0
def dropGn (m gone left : Int) : Int := if m = 2 then gone else left

theorem link_first {m : Int} {o : O} {v : V} {X : List L} {k : Int} (h : Fine m o X k v) (hk : 0 < k) : Link m o v X [] [] k 0 := .inl ⟨hk, rfl, v, h, by simp⟩
theorem link_round {m : Int} {o : O} {v : V} {X : List L} {ts : List T} {ids : List Int} {left gone : Int} (hm : m = 1 ∨ m = 2 ∨ m = 3) (h : Link m o v X ts ids left gone) (hp : 0 < left) (hl : ∀ l ∈ X, lchk l = 0) :
    gone = 0 ∧ (tkl o X (min (aheadR o X).1 left)).2.2 = 0 ∧ 0 ≤ (aheadR o X).1 ∧
    (¬ (ts ++ (tkl o X (min (aheadR o X).1 left)).2.1).length ≤ 400 → ¬ v.ts.length ≤ 400) ∧
    ((left - min (aheadR o X).1 left = 0 ∨ (aheadR o X).2 = 0) → Fin v (tkl o X (min (aheadR o X).1 left)).1 (ts ++ (tkl o X (min (aheadR o X).1 left)).2.1) ids (left - min (aheadR o X).1 left) 0) ∧
    (¬ left - min (aheadR o X).1 left = 0 → ¬ (aheadR o X).2 = 0 → ∃ p r rs t, (tkl o X (min (aheadR o X).1 left)).1 = ⟨p, r :: rs⟩ :: t ∧ r.id = (aheadR o X).2 ∧
      Link m o v (dropX m p r rs t) (ts ++ (tkl o X (min (aheadR o X).1 left)).2.1) (dropI m ids r.id) (dropLf m (left - min (aheadR o X).1 left)) (dropGn m 0 (left - min (aheadR o X).1 left))) := by
  rcases h with ⟨-, hg, u, hu, hv⟩ | ⟨h0, -⟩
  rotate_left
  · omega
  have hA := (ahead_le (o := o) X hl).1
  obtain ⟨c1, c2, c3⟩ := coarse (m := m) (o := o) left.toNat X left (by omega) hp hl
  have hql : min (aheadR o X).1 left ≤ left ∧ 0 ≤ min (aheadR o X).1 left := by omega
  generalize hQ : min (aheadR o X).1 left = q at *
  have hTL : ∀ l ∈ (tkl o X q).1, lchk l = 0 := tkl_good hql.2 hl
  generalize hTK : tkl o X q = TK at *
  obtain ⟨R, hR⟩ := fine_ex (o := o) (k := left - q) hm hTL
  have hu2 := fine_det hu _ (c2 R hR)
  subst hu2
  refine ⟨hg, c1, hA, fun h => ?_, fun h => ?_, fun h1 h2 => ?_⟩
  · rw [hv]
    simp only [List.length_append] at h ⊢
    omega
  · have hR2 : R = ⟨TK.1, [], left - q, false, []⟩ := by
      by_cases h0 : left - q ≤ 0
      · exact fine_det (Fine.done h0) _ hR
      · have h2 : (aheadR o X).2 = 0 := by rcases h with h | h; omega; exact h
        exact fine_det (Fine.stop ((c3 (by omega)).1 h2)) _ hR
    rw [hv, hR2]
    simp [Fin]
  · obtain ⟨p, r, rs, t, e1, e2, e3, e4⟩ := (c3 (by omega)).2 h2
    refine ⟨p, r, rs, t, e1, e4, ?_⟩
    have hk : 0 < left - q := by omega
    rw [e1] at hR
    rcases hm with rfl | rfl | rfl
    · have hR2 := fine_det (Fine.taker hk e2 e3 rfl) _ hR
      refine .inr ⟨rfl, ?_⟩
      rw [hv, hR2]
      simp [Fin, dropX, dropI, dropLf, dropGn]
    · cases hR with
      | done h => omega
      | stop h => have := h _ _ rfl; simp only [] at this; rw [e2] at this; cases this
      | taker _ _ _ h => omega
      | both _ _ _ h => omega
      | fill _ _ h => exact absurd e3 h
      | maker _ _ _ _ h =>
        refine .inl ⟨by simp [dropLf]; omega, by simp [dropGn], _, by simpa [dropX, dropLf] using h, ?_⟩
        rw [hv]
        simp [dropI]
    · have hR2 := fine_det (Fine.both hk e2 e3 rfl) _ hR
      refine .inr ⟨rfl, ?_⟩
      rw [hv, hR2]
      simp [Fin, dropX, dropI, dropLf, dropGn]
theorem link_end {m : Int} {o : O} {v : V} {X : List L} {ts : List T} {ids : List Int} {left gone : Int} (h : Link m o v X ts ids left gone) (hp : ¬ 0 < left) : Fin v X ts ids left gone := by
  rcases h with ⟨h0, -⟩ | ⟨-, h⟩
  · omega
  · exact h
theorem dropX_less {m p : Int} {r : R} {rs : List R} {t : List L} (hl : ∀ l ∈ (⟨p, r :: rs⟩ :: t : List L), lchk l = 0) : Less (⟨p, r :: rs⟩ :: t) (dropX m p r rs t) := by
  unfold dropX
  split
  · exact Less.refl _
  · exact less_out hl
theorem dropX_good {m p : Int} {r : R} {rs : List R} {t : List L} (hl : ∀ l ∈ (⟨p, r :: rs⟩ :: t : List L), lchk l = 0) : ∀ l ∈ dropX m p r rs t, lchk l = 0 := by
  unfold dropX
  split
  · exact hl
  · exact out_good hl
theorem dropX_count {p : Int} {r : R} {rs : List R} {t : List L} : (allR (dropX 2 p r rs t)).length + 1 = (allR (⟨p, r :: rs⟩ :: t)).length := by
  unfold dropX
  rw [if_neg (by decide), step_count, allR_cons]
  simp only [List.length_append, List.length_cons]
  omega
theorem dropI_len {m : Int} {ids : List Int} {id : Int} : (dropI m ids id).length ≤ ids.length + 1 := by
  unfold dropI
  split
  · omega
  · simp
end Go.Proofs.Ytnjpjieedgmffaa.slf
namespace Go.Proofs.Ytnjpjieedgmffaa.sid
open Go.RowKit Go.Proofs.Ytnjpjieedgmffaa.spn Go.Proofs.Ytnjpjieedgmffaa.que

/-- copy, at elements of more cells than one. -/
theorem run_copy_wide {P : Program} (w : World) (dT sT ty elem : TypeId) (size : Nat) (b o dLen dCap : Nat) (a : Addr) (sLen sCap : Nat) (cs : List Value)
    (hu : P.underlying dT = some (.slice elem)) (hs : (P.info? elem).map (·.size) = some size) (hn : cs.length = Nat.min sLen dLen * size)
    (hsrc : ∀ j v, cs[j]? = some v → w.cell? (a.add j) = some v) (ht : w.there b o cs.length) (h1 : ∀ v ∈ cs, v.oneCell' = true) :
    (Builtin.copy_ #[dT, sT] ty #[.slice (some ⟨b, o, none⟩) dLen dCap, .slice (some a) sLen sCap]).run P w = .ok (goInt (Nat.min sLen dLen)) (w.setCells b o cs) := by
  have hl := run_firstCells_some (P := P) w size (Nat.min sLen dLen) a sLen sCap cs hn hsrc
  have hst := run_storeCells_cells (P := P) b o cs 0 w (by simpa using fun j hj => (ht j hj).1) (by simpa using fun j hj => (ht j hj).2) h1
  cases hq : P.info? elem with
  | none => simp [hq] at hs
  | some i =>
    have hi : i.size = size := by simpa [hq] using hs
    simp [Builtin.copy_, run_underlying hu, Builtin.lenOf, sizeOf, typeInfo, hq, hi]
    rw [show Nat.min sLen dLen = min sLen dLen from rfl] at hl
    simp [hl, hst]
theorem setCells_blk (g : Nat) (e : TypeId) (fr : Nat × Nat) : ∀ (vs : List Value) (o : Nat) (w : World) (cur : Array Value), w.heap[g]? = some (.cells cur e fr) → ∃ cur', (w.setCells g o vs).heap[g]? = some (.cells cur' e fr) ∧ cur'.size = cur.size
  | [], _, w, cur, h => ⟨cur, h, rfl⟩
  | v :: r, o, w, cur, h => by
    have hlt : g < w.heap.size := (Array.getElem?_eq_some_iff.1 h).1
    have h1 : (w.setCell ⟨g, o, none⟩ v).heap[g]? = some (.cells (cur.setIfInBounds o v) e fr) := by
      rw [setCell_eq_setRow w g o cur e fr v h]; exact setRow_heap w g cur _ e fr h
    obtain ⟨c, h2, h3⟩ := setCells_blk g e fr r (o + 1) _ _ h1
    exact ⟨c, h2, by rw [h3]; simp⟩
theorem gr_setCells (g : Nat) : ∀ (vs : List Value) (o : Nat) (w : World), w.grownBy (w.setCells g o vs) (some g)
  | [], _, _ => ⟨rfl, rfl, rfl, Nat.le_refl _, fun _ _ _ => rfl⟩
  | v :: r, o, w => gr_trans (gr_setCell w g o v) (gr_setCells g r (o + 1) _)
theorem gr_drew (w : World) (row : Option Nat) : w.grownBy w.drew row := ⟨rfl, rfl, rfl, Nat.le_refl _, fun _ _ _ => rfl⟩
theorem gr_alloc (w : World) (o : Obj) (row : Option Nat) : w.grownBy (w.alloc o) row := gr_below ((Below.refl _ _).alloc (Nat.le_refl _) _) row

/-- What a slice of the call's own says of the cells. -/
theorem own_of {w : World} {base : Nat} {e : TypeId} {sz : Nat} {g off n cap : Nat} {xs : List Value} (hl : xs.length = n * sz) (hb : base ≤ g) {cur : Array Value} (hg : w.heap[g]? = some (.cells cur e (0, 0)))
    (hs : off + cap * sz ≤ cur.size) (hn : n ≤ cap) (hm : cap ≤ maxLen) (hr : w.rangeAt g off xs) : OwnM w base e sz (.slice (some ⟨g, off, none⟩) n cap) n xs := by
  refine ⟨hl, .inr ⟨g, off, cap, cur, rfl, hb, hg, hn, hm, hs, ?_⟩⟩
  apply List.ext_getElem?
  intro j
  rw [List.getElem?_take]
  have hle : n * sz ≤ cap * sz := Nat.mul_le_mul_right _ hn
  by_cases hj : j < n * sz
  · rw [if_pos hj, List.getElem?_drop]
    have hx : xs[j]? = some xs[j] := List.getElem?_eq_getElem (by omega)
    rw [hx, Array.getElem?_toList, ← cell_of_row w g (off + j) cur e (0, 0) hg]
    exact hr j _ hx
  · rw [if_neg hj, List.getElem?_eq_none (by omega)]
theorem own_range {w : World} {base : Nat} {e : TypeId} {sz : Nat} {g off n cap : Nat} {xs : List Value} (h : OwnM w base e sz (.slice (some ⟨g, off, none⟩) n cap) n xs) :
    xs.length = n * sz ∧ base ≤ g ∧ (∃ cur, w.heap[g]? = some (.cells cur e (0, 0)) ∧ off + cap * sz ≤ cur.size) ∧ n ≤ cap ∧ cap ≤ maxLen ∧ w.rangeAt g off xs ∧ w.there g off (cap * sz) := by
  obtain ⟨hc, hf, hb, -⟩ := OwnM.cells h
  rcases h.2 with ⟨h1, _⟩ | ⟨g', off', cap', cur, h1, h2, h3, h4, h5, h6, h7⟩
  · cases h1
  · cases h1
    refine ⟨h.1, hb, ⟨cur, h3, h6⟩, h4, h5, hc, fun j hj => ⟨?_, hf _⟩⟩
    rw [cell_of_row w g (off + j) cur e (0, 0) h3, Array.getElem?_eq_getElem (by omega)]; rfl
theorem range_append {w : World} {b o : Nat} {xs ys : List Value} (h1 : w.rangeAt b o xs) (h2 : w.rangeAt b (o + xs.length) ys) : w.rangeAt b o (xs ++ ys) := by
  intro j v hv
  by_cases hj : j < xs.length
  · rw [List.getElem?_append_left hj] at hv; exact h1 j v hv
  · rw [List.getElem?_append_right (by omega)] at hv
    have := h2 (j - xs.length) v hv
    rwa [show o + xs.length + (j - xs.length) = o + j by omega] at this
theorem range_left {w : World} {b o : Nat} {xs ys : List Value} (h : w.rangeAt b o (xs ++ ys)) : w.rangeAt b o xs := fun j v hv => h j v (by rw [List.getElem?_append_left (List.getElem?_eq_some_iff.1 hv).1]; exact hv)
theorem range_right {w : World} {b o : Nat} {xs ys : List Value} (h : w.rangeAt b o (xs ++ ys)) : w.rangeAt b (o + xs.length) ys := fun j v hv => by
  have := h (xs.length + j) v (by rw [List.getElem?_append_right (by omega)]; simpa using hv)
  rwa [← Nat.add_assoc] at this

theorem own_cap (q : Option Addr) (n c d : Nat) : (Value.slice q n c).ownBlock = (Value.slice q n d).ownBlock := by cases q <;> rfl
/-- What Insert answers: the levels with others between, in the same block or in a new one. -/
def InsPost (w : World) (base : Nat) (v : Value) (n : Nat) (xs : List Value) (e : Ending) (w' : World) : Prop :=
  ∃ v', e = .returned v' ∧ OwnM w' base 31 2 v' n xs ∧ w.grownBy w' v.ownBlock ∧ (v'.ownBlock = v.ownBlock ∨ ∃ k, v'.ownBlock = some k ∧ w.heap.size ≤ k)

set_option maxRecDepth 100000 in
set_option maxHeartbeats 1000000 in
/-- Insert at the end. -/
theorem insert_end (w : World) (base : Nat) (v : Value) (n : Nat) (xs : List Value) (vb m vc : Nat) (vs : List Value) (ho : OwnM w base 31 2 v n xs) (hbase : base ≤ w.heap.size) (hm : 0 < m) (hml : m ≤ 1000) (hnl : n ≤ 10000)
    (hvl : vs.length = m * 2) (hvs : w.rangeAt vb 0 vs) (h1 : ∀ u ∈ vs, u.oneCell' = true) :
    Calls Try.prog 82 #[v, .int .i64 n, .slice (some ⟨vb, 0, none⟩) m vc] w fun e w' => InsPost w base v (n + m) (xs ++ vs) e w' := by
  obtain ⟨i0, hi, hz0, hz1, hz2⟩ := rlv.infoR'
  have HI : Hid (Try.prog.info? 31 = some i0) := hi
  have HO : Hid (OwnM w base 31 2 v n xs) := ho
  obtain ⟨q, c, hv⟩ := OwnM.form ho
  have HC : Hid (n ≤ c ∧ c ≤ 9223372036854775807) := by
    rcases ho.2 with ⟨e, hn0⟩ | ⟨g, off, cap, cur, e, -, -, hcap, hcm, -, -⟩
    · rw [e] at hv; cases hv; exact ⟨by omega, by omega⟩
    · rw [e] at hv; cases hv; exact ⟨hcap, by simpa [maxLen] using hcm⟩
  have HVS : Hid (∀ j u, vs[j]? = some u → w.cell? ((⟨vb, 0, none⟩ : Addr).add j) = some u) := fun j u hu => by rw [Addr.add_lit]; exact hvs j u hu
  have HPOST : Hid (∀ v' w', OwnM w' base 31 2 v' (n + m) (xs ++ vs) → w.grownBy w' v.ownBlock → (v'.ownBlock = v.ownBlock ∨ v'.ownBlock = some w.heap.size) → InsPost w base v (n + m) (xs ++ vs) (.returned v') w') := fun v' w' h1 h2 h3 => ⟨v', rfl, h1, h2, h3.imp id (fun e => ⟨_, e, Nat.le_refl _⟩)⟩
  generalize InsPost w base v (n + m) (xs ++ vs) = POST at *
  clear hi ho hvs
  obtain ⟨hc1, hc2⟩ := HC.out
  have hz3 : ¬ ((m : Int) = 0) := by omega
  have hz4 : ¬ (m = 0) := by omega
  have hn0 : ¬ ((n : Int) < 0) := by omega
  subst hv
  go_enter Try.func82, Try.ntmps82
  go_wp2_with (at_builtin; (refine wpList_append_mid _ rfl _ _ 22 rfl base 31 i0 rlv.zeroR 2 32 Try.underlying22 HI.out hz0 hz1 hz2 rfl (.slice q n c) n xs rfl HO.out ⟨vb, 0, none⟩ m vc vs rfl hvl HVS.out h1 (by unfold maxLen; omega) (by omega) hbase ?_))
  all_goals
    intro v' w' hO' hgr hat
    have HX := HPOST.out v' w' hO' (by rw [own_cap q n c 0]; rw [own_cap q n _ 0] at hgr; exact hgr) (by rw [own_cap q n c 0]; rw [own_cap q n _ 0] at hat; exact hat)
    clear hO' hgr hat HPOST
    go_wp2_with fail
    exact HX
end Go.Proofs.Ytnjpjieedgmffaa.sid
namespace Go.Proofs.Ytnjpjieedgmffaa.sid
open Go.RowKit Go.Proofs.Ytnjpjieedgmffaa.spn Go.Proofs.Ytnjpjieedgmffaa.que

/-- clear, at elements of more cells than one. -/
theorem run_clear_wide {P : Program} (w : World) (t e ty : TypeId) (z : Value) (size : Nat) (ht : P.underlying t = some (.slice e)) (hv : ∀ w, (zeroValue e).run P w = .ok z w) (hz : z.cells.size = size) (h1 : z.cells.all (·.oneCell') = true) (b o n c : Nat) (hn : 0 < n) (hth : w.there b o (n * size)) :
    (Builtin.clear_ #[t] ty #[.slice (some ⟨b, o, none⟩) n c]).run P w = .ok (.tuple #[]) (w.setCells b o (Builtin.zeroCells z.cells n).toList) := by
  have hl : (Builtin.zeroCells z.cells n).toList.length = n * size := by rw [Array.length_toList, size_zeroCells, hz]
  have h1c : ∀ v ∈ (Builtin.zeroCells z.cells n).toList, v.oneCell' = true := by
    intro v hv'
    rw [Array.mem_toList_iff] at hv'
    simp only [Builtin.zeroCells] at hv'
    rw [Array.all_eq_true] at h1
    rw [Array.mem_map] at hv'
    obtain ⟨k, hk, rfl⟩ := hv'
    rw [Array.mem_range] at hk
    have hpos : 0 < z.cells.size := Nat.pos_of_ne_zero fun e => by rw [e] at hk; simp at hk
    have hp : k % z.cells.size < z.cells.size := Nat.mod_lt _ hpos
    rw [getElem!_pos z.cells _ hp]
    exact h1 _ hp
  have hst := run_storeCells_cells (P := P) b o (Builtin.zeroCells z.cells n).toList 0 w (by rw [hl]; simpa using fun j hj => (hth j hj).1) (by rw [hl]; simpa using fun j hj => (hth j hj).2) h1c
  simp only [Nat.add_zero] at hst
  obtain ⟨m, rfl⟩ : ∃ m, n = m + 1 := ⟨n - 1, by omega⟩
  simp [Builtin.clear_, run_underlying ht, hv, hst]
theorem sizeL : (Try.prog.info? 31).map (·.size) = some 2 := by kernel_rfl
theorem sizeOfL (w : World) : (Go.sizeOf 31).run Try.prog w = .ok 2 w := by kernel_rfl

set_option maxRecDepth 100000 in
set_option maxHeartbeats 4000000 in
/-- Insert between others, where there is room. -/
theorem insert_shift (w : World) (base g off n c i vb m vc : Nat) (xs vs : List Value) (vcur : Array Value) (tA : TypeId) (ho : OwnM w base 31 2 (.slice (some ⟨g, off, none⟩) n c) n xs) (hi : i < n) (hm : 0 < m) (hml : m ≤ 1000) (hroom : n + m ≤ c)
    (hvb : vb ≠ g) (hvl : vs.length = m * 2) (hvs : w.rangeAt vb 0 vs) (hvc : w.heap[vb]? = some (.cells vcur tA (0, 0))) (h1x : ∀ u ∈ xs, u.oneCell' = true) (h1 : ∀ u ∈ vs, u.oneCell' = true) :
    Calls Try.prog 82 #[.slice (some ⟨g, off, none⟩) n c, .int .i64 i, .slice (some ⟨vb, 0, none⟩) m vc] w fun e w' => InsPost w base (.slice (some ⟨g, off, none⟩) n c) (n + m) (xs.take (i * 2) ++ vs ++ xs.drop (i * 2)) e w' := by
  obtain ⟨hxl, hbg, ⟨cur, hcur, hcs⟩, hnc, hcm, hrg, hth⟩ := own_range ho
  have hc63 : c ≤ 9223372036854775807 := by simpa [maxLen] using hcm
  have hcs2 : 0 < cur.size := by omega
  have hov : ∀ lb cb, (callFunc 86 #[.slice (some ⟨vb, 0, none⟩) m vc, .slice (some ⟨g, off + (i + m) * 2, none⟩) lb cb]).run Try.prog w = .ok (.value (.bool false)) w := fun lb cb => by
    rw [run_callFunc_extern Try.func86 (by kernel_rfl) (by kernel_rfl) (by kernel_rfl) (e := Extern.SlicesOverlaps.overlaps #[22, 22] #[4]) (by kernel_rfl),
      Lib.run_overlaps_apart w 22 4 31 Try.underlying22 2 sizeOfL ⟨vb, 0, none⟩ ⟨g, off + (i + m) * 2, none⟩ m vc lb cb hvb tA 31 vcur.size cur.size (by simp [World.shape?, hvc]) (by simp [World.shape?, hcur]) (by omega) (by simp [World.frozen?, hvc]) (by simp [World.frozen?, hvc])]
    rfl
  have hdl : (xs.drop (i * 2)).length = (n - i) * 2 := by rw [List.length_drop, hxl]; omega
  have htl : (xs.take (i * 2)).length = i * 2 := by rw [List.length_take, hxl]; omega
  have hx : xs = xs.take (i * 2) ++ xs.drop (i * 2) := (List.take_append_drop _ _).symm
  have hr1 : w.rangeAt g off (xs.take (i * 2)) := by rw [hx] at hrg; exact range_left hrg
  have hr2 : w.rangeAt g (off + i * 2) (xs.drop (i * 2)) := by rw [hx] at hrg; have := range_right hrg; rwa [htl] at this
  have hthX : ∀ o k, o + k ≤ c * 2 → w.there g (off + o) k := fun o k hk j hj => by rw [Nat.add_assoc]; exact hth (o + j) (by omega)
  have hcp1 : ∀ ty dc sc, (Builtin.copy_ #[22, 22] ty #[.slice (some ⟨g, off + (i + m) * 2, none⟩) (n + m - (i + m)) dc, .slice (some ⟨g, off + i * 2, none⟩) (n + m - i) sc]).run Try.prog w.drew = .ok (goInt ((n - i : Nat) : Int)) (w.drew.setCells g (off + (i + m) * 2) (xs.drop (i * 2))) := fun ty dc sc => by
    have := run_copy_wide (P := Try.prog) w.drew 22 22 ty 31 2 g (off + (i + m) * 2) (n + m - (i + m)) dc ⟨g, off + i * 2, none⟩ (n + m - i) sc (xs.drop (i * 2)) Try.underlying22 sizeL (by rw [hdl]; congr 1; simp only [Nat.min_def]; split <;> omega)
      (fun j v hj => by rw [Addr.add_lit]; exact hr2 j v hj) ((World.there_drew _ _ _ _).2 (hthX _ _ (by rw [hdl]; omega))) (fun v hv => h1x v (List.mem_of_mem_drop hv))
    rw [show Nat.min (n + m - i) (n + m - (i + m)) = n - i by simp only [Nat.min_def]; split <;> omega] at this
    exact this
  obtain ⟨W1, hW1⟩ : ∃ W1, W1 = w.drew.setCells g (off + (i + m) * 2) (xs.drop (i * 2)) := ⟨_, rfl⟩
  have hvs1 : W1.rangeAt vb 0 vs := by rw [hW1]; exact World.rangeAt_setCells_apart ((World.rangeAt_drew _ _ _ _).2 hvs) _ _ _ (.inl hvb)
  have hth1 : W1.there g (off + i * 2) (m * 2) := by rw [hW1]; exact World.there_setCells ((World.there_drew _ _ _ _).2 (hthX _ _ (by omega))) _ _ _
  have hcp2 : ∀ (W : World), (∀ x, W.cell? x = W1.cell? x) → (∀ x, W.frozen? x = W1.frozen? x) → ∀ ty dc, (Builtin.copy_ #[22, 22] ty #[.slice (some ⟨g, off + i * 2, none⟩) (n + m - i) dc, .slice (some ⟨vb, 0, none⟩) m vc]).run Try.prog W = .ok (goInt m) (W.setCells g (off + i * 2) vs) := fun W hWc hWf ty dc => by
    have := run_copy_wide (P := Try.prog) W 22 22 ty 31 2 g (off + i * 2) (n + m - i) dc ⟨vb, 0, none⟩ m vc vs Try.underlying22 sizeL (by rw [hvl]; congr 1; simp only [Nat.min_def]; split <;> omega)
      (fun j v hj => by rw [Addr.add_lit, hWc]; exact hvs1 j v hj) (fun j hj => by rw [hvl] at hj; rw [hWc, hWf]; exact hth1 j hj) h1
    rw [show Nat.min m (n + m - i) = m by simp only [Nat.min_def]; split <;> omega] at this
    exact this
  have HPOST : Hid (InsPost w base (.slice (some ⟨g, off, none⟩) n c) (n + m) (xs.take (i * 2) ++ vs ++ xs.drop (i * 2)) (.returned (.slice (some ⟨g, off, none⟩) (n + m) c)) (W1.setCells g (off + i * 2) vs)) := by
    obtain ⟨cur1, hb1, hs1⟩ := setCells_blk g 31 (0, 0) (xs.drop (i * 2)) (off + (i + m) * 2) w.drew cur hcur
    rw [← hW1] at hb1
    obtain ⟨cur2, hb2, hs2⟩ := setCells_blk g 31 (0, 0) vs (off + i * 2) W1 cur1 hb1
    refine ⟨_, rfl, own_of ?_ hbg hb2 (by rw [hs2, hs1]; exact hcs) hroom hcm ?_, ?_, .inl rfl⟩
    · rw [List.length_append, List.length_append, htl, hvl, hdl]; omega
    · refine range_append (range_append ?_ ?_) ?_
      · refine World.rangeAt_setCells_apart ?_ _ _ _ (.inr (.inl (by rw [htl]; omega)))
        rw [hW1]
        exact World.rangeAt_setCells_apart ((World.rangeAt_drew _ _ _ _).2 hr1) _ _ _ (.inr (.inl (by rw [htl]; omega)))
      · rw [htl]
        exact World.rangeAt_setCells_same _ _ _ _ (by rw [hvl]; exact hth1)
      · rw [List.length_append, htl, hvl]
        refine World.rangeAt_setCells_apart ?_ _ _ _ (.inr (.inr (by rw [hvl]; omega)))
        rw [hW1, show off + (i * 2 + m * 2) = off + (i + m) * 2 by omega]
        exact World.rangeAt_setCells_same _ _ _ _ ((World.there_drew _ _ _ _).2 (hthX _ _ (by rw [hdl]; omega)))
    · rw [hW1]
      exact gr_trans (gr_trans (gr_drew _ _) (gr_setCells g _ _ _)) (gr_setCells g _ _ _)
  generalize InsPost w base (.slice (some ⟨g, off, none⟩) n c) (n + m) (xs.take (i * 2) ++ vs ++ xs.drop (i * 2)) = POST at *
  rw [← hW1] at hcp1
  have hz1 : ¬ ((m : Int) = 0) := by omega
  have hz4 : ¬ (m = 0) := by omega
  have hz2 : ¬ ((i : Int) = (n : Int)) := by omega
  have hw1 : IntKind.i64.wrap ((i : Int) + (m : Int)) = (i : Int) + (m : Int) := by rw [IntKind.wrap_i64]; omega
  have hb1 : (0 : Int) ≤ (i : Int) + (m : Int) := by omega
  have hin : i ≤ n := by omega
  have htn : ((i : Int) + (m : Int)).toNat = i + m := by omega
  have hb2 : ¬ (c = i + m) := by omega
  have hb3 : (i : Int) ≤ (n : Int) + (m : Int) := by omega
  have hb4 : ¬ (c = i) := by omega
  have hn63 : (n : Int) + (m : Int) ≤ 9223372036854775807 := by omega
  clear ho hxl hcur hcs hrg hth hdl htl hx hr1 hr2 hthX hvs1 hth1 hvl hvs hvc h1 h1x hcm hbg hcs2
  have mixed : Try.prog.follows Departure.mixedOrders = true := by kernel_rfl
  go_enter Try.func82, Try.ntmps82
  go_wp2_with (simp only [hov])
  go_region_law_o (refine step_copy_runI rfl _ _ 22 22 rfl _ _ (by simp [Act.eval, Act.put]) (by simp [Act.eval, Act.put]) (hcp1 _ _ _) ?_)
  go_wp2_with (at_builtin; refine wpList_copy_runI _ rfl _ _ 22 22 rfl _ _ rfl rfl (hcp2 _ (fun _ => rfl) (fun _ => rfl) _ _) ?_)
  have HX := HPOST.out
  first | exact HX | (rw [hW1] at HX; exact HX)
end Go.Proofs.Ytnjpjieedgmffaa.sid
