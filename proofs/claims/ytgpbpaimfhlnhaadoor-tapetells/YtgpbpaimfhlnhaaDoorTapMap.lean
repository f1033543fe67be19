/- Contracts over this seat's translation: package tape's set, hear: what is heard, by id. -/
import Derived.Test.YtgpbpaimfhlnhaaDoorTapTrd
import Derived.Maps.OwnSet
import Derived.Maps.Ext
namespace Go.Proofs.YtgpbpaimfhlnhaaDoor.tap
open Go.RowKit Go.Proofs.YtgpbpaimfhlnhaaDoor.mee Go.Proofs.YtgpbpaimfhlnhaaDoor.flr Go.Maps
open Go.Proofs.YtgpbpaimfhlnhaaDoor.spn (keeps rangeE errV errV_zero errV_of)

/-- What rests of an order, and at which price. -/
abbrev Am : Type := Int × Int
/-- What was heard of each id. -/
abbrev Fm : Type := Int → Option Am
def setF (f : Fm) (id : Int) (a : Am) : Fm := fun k => if k = id then (if a.1 ≤ 0 then none else some a) else f k
def delF (f : Fm) (id : Int) : Fm := fun k => if k = id then none else f k
def hearF (f : Fm) (e : Ev) : Fm :=
  if e.what = 1 then setF f e.id (e.qty, e.price)
  else if e.what = 2 then setF f e.tr.maker (((f e.tr.maker).getD (0, 0)).1 - e.tr.qty, ((f e.tr.maker).getD (0, 0)).2)
  else if e.what = 3 then delF f e.id else f
def heardF (l : List Ev) : Fm := l.foldl hearF fun _ => none
theorem heardF_take {l : List Ev} {k : Nat} (h : k < l.length) : heardF (l.take (k + 1)) = hearF (heardF (l.take k)) l[k]! := by
  unfold heardF
  rw [take_succ_at h, List.foldl_append]
  rfl
/-- All that was heard is in its bounds. -/
def FOk (f : Fm) : Prop := ∀ id a, f id = some a → 1 ≤ id ∧ id ≤ 9999 ∧ 1 ≤ a.1 ∧ a.1 ≤ 10000 ∧ 0 ≤ a.2 ∧ a.2 ≤ 10000
theorem FOk.none : FOk fun _ => none := fun _ _ h => by cases h
theorem FOk.set {f : Fm} (h : FOk f) {id : Int} {a : Am} (h1 : 1 ≤ id ∧ id ≤ 9999) (h2 : a.1 ≤ 10000) (h3 : 0 ≤ a.2 ∧ a.2 ≤ 10000) : FOk (setF f id a) := by
  intro k b hb
  unfold setF at hb
  split at hb
  · split at hb
    · cases hb
    · cases hb; subst k; omega
  · exact h k b hb
theorem FOk.del {f : Fm} (h : FOk f) (id : Int) : FOk (delF f id) := by
  intro k b hb
  unfold delF at hb
  split at hb
  · cases hb
  · exact h k b hb
theorem FOk.get {f : Fm} (h : FOk f) (id : Int) : 0 ≤ ((f id).getD (0, 0)).1 ∧ ((f id).getD (0, 0)).1 ≤ 10000 ∧ 0 ≤ ((f id).getD (0, 0)).2 ∧ ((f id).getD (0, 0)).2 ≤ 10000 := by
  cases hq : f id with
  | none => simp
  | some a => have := h id a hq; simp; omega
theorem FOk.hear {f : Fm} (h : FOk f) {e : Ev} (he : evB e = true) : FOk (hearF f e) := by
  unfold evB at he
  unfold hearF
  by_cases h2 : e.what = 2
  · rw [if_pos h2] at he
    rw [if_neg (by omega), if_pos h2]
    simp [tdB] at he
    have hg := h.get e.tr.maker
    exact h.set (by omega) (by simp only; omega) (by simp only; omega)
  · rw [if_neg h2] at he
    rw [if_neg h2]
    simp [otB] at he
    split
    · exact h.set (by omega) (by simp only; omega) (by simp only; omega)
    · split
      · exact h.del _
      · exact h
theorem FOk.heard {l : List Ev} (h : ∀ e ∈ l, evB e = true) : ∀ k, FOk (heardF (l.take k)) := by
  intro k
  induction k with
  | zero => exact FOk.none
  | succ k ih =>
    by_cases hk : k < l.length
    · rw [heardF_take hk]
      exact ih.hear (h _ (by rw [getE _ _ hk]; exact List.getElem_mem hk))
    · rw [List.take_of_length_le (by omega)]
      rw [List.take_of_length_le (by omega)] at ih
      exact ih

/-- An amount as the map holds it, and how it reads. -/
def amD (a : Am) : DataW Unit := .agg [.lit (.int .i64 a.1), .lit (.int .i64 a.2)]
theorem amD_inj {a b : Am} (h : amD a = amD b) : a = b := by
  unfold amD at h
  simp at h
  exact Prod.ext h.1 h.2
def amR (v : Value) : Option (DataW Unit × List MemPlace) :=
  match v with
  | .agg a => match a.toList with
    | [.int .i64 x0, .int .i64 x1] => some (amD (x0, x1), [])
    | _ => none
  | _ => none
theorem amR_mk (a b : Int) : amR (.agg #[.int .i64 a, .int .i64 b]) = some (amD (a, b), []) := rfl
theorem amR_inv {v : Value} {y : DataW Unit × List MemPlace} (h : amR v = some y) : ∃ a b : Int, v = .agg #[.int .i64 a, .int .i64 b] ∧ y = (amD (a, b), []) := by
  unfold amR at h
  split at h
  · rename_i a
    split at h
    · rename_i x0 x1 hl
      refine ⟨x0, x1, ?_, by cases h; rfl⟩
      congr 1
      exact Array.toList_inj.1 hl
    · cases h
  · cases h
theorem lawI : Keyed Tryd.prog 3 := int_keyed Tryd.underlying3
theorem small_wf {n : Int} (h0 : 0 ≤ n) (h1 : n ≤ 99999) : (Lit.int .i64 n).wf = true := by
  have a1 : IntKind.i64.min = -9223372036854775808 := rfl
  have a2 : IntKind.i64.max = 9223372036854775807 := rfl
  show (decide (IntKind.i64.min ≤ n) && decide (n ≤ IntKind.i64.max)) = true
  rw [a1, a2]
  simp
  omega
/-- A map of the call's own that holds what was heard. -/
structure MapIs (D : DataW Unit) (f : Fm) : Prop where
  tidy : Tidy D
  at_ : ∀ id zd, D.atKey (.int .i64 id) zd = match f id with
    | some a => amD a
    | none => zd
  has_ : ∀ id, Maps.has D (.int .i64 id) = (f id).isSome
theorem MapIs.empty : MapIs (.map []) fun _ => none := ⟨tidy_empty, fun _ _ => rfl, fun _ => rfl⟩
theorem lit_ne {k id : Int} (h : k ≠ id) : (Lit.int .i64 k) ≠ .int .i64 id := fun e => h (by cases e; rfl)
theorem isKeyI (n : Int) : WideAt.IsKeyLit (.int .i64 n) := trivial
theorem MapIs.put {D : DataW Unit} {f : Fm} (h : MapIs D f) {id : Int} {a : Am} (h0 : ¬ a.1 ≤ 0) : MapIs (D.put (.int .i64 id) (amD a)) (setF f id a) := by
  refine ⟨h.tidy.put (isKeyI _) _, fun k zd => ?_, fun k => ?_⟩
  · unfold setF
    by_cases hk : k = id
    · subst hk
      rw [atKey_put_same h.tidy.isMap (isKeyI _), if_pos rfl, if_neg h0]
    · rw [atKey_put_other (lit_ne hk), if_neg hk]
      exact h.at_ k zd
  · unfold setF
    by_cases hk : k = id
    · subst hk
      rw [has_put_same h.tidy.isMap (isKeyI _), if_pos rfl, if_neg h0]
      rfl
    · rw [has_put_other (lit_ne hk), if_neg hk]
      exact h.has_ k
theorem MapIs.del {D : DataW Unit} {f : Fm} (h : MapIs D f) (id : Int) : MapIs (D.del (.int .i64 id)) (delF f id) := by
  refine ⟨h.tidy.del _, fun k zd => ?_, fun k => ?_⟩
  · unfold delF
    by_cases hk : k = id
    · subst hk
      rw [atKey_del_same, if_pos rfl]
    · rw [atKey_del_other (lit_ne hk), if_neg hk]
      exact h.at_ k zd
  · unfold delF
    by_cases hk : k = id
    · subst hk
      rw [has_del_same, if_pos rfl]
      rfl
    · rw [has_del_other (lit_ne hk), if_neg hk]
      exact h.has_ k
theorem setF_gone {f : Fm} {id : Int} {a : Am} (h : a.1 ≤ 0) : setF f id a = delF f id := by
  funext k
  unfold setF delF
  rw [if_pos h]
/-- The map in memory. -/
def HM (w : World) (b n : Nat) (f : Fm) : Prop := ∃ D, w.ownsMap Tryd.prog 3 amR b n D ∧ MapIs D f
theorem HM.alloc {w : World} {b n : Nat} {f : Fm} (h : HM w b n f) (o : Obj) : HM (w.alloc o) b n f := by
  obtain ⟨D, h1, h2⟩ := h
  exact ⟨D, h1.alloc o, h2⟩
theorem HM.mono {w : World} {b n m : Nat} {f : Fm} (h : HM w b n f) (hm : n ≤ m) : HM w b m f := by
  obtain ⟨D, h1, h2⟩ := h
  exact ⟨D, h1.mono hm, h2⟩
theorem HM.lt {w : World} {b n : Nat} {f : Fm} (h : HM w b n f) : b < w.heap.size := by
  obtain ⟨D, h1, -⟩ := h
  exact h1.lt
theorem HM.made (w : World) : HM (w.alloc (.map #[] 0)) w.heap.size 0 fun _ => none := ⟨.map [], World.ownsMap_made _ _ _ _, MapIs.empty⟩

set_option maxRecDepth 100000 in
theorem set_any (b n : Nat) (f : Fm) (id q p : Int) (w : World) (h : HM w b n f) (hn : n < 1000) (hi : 1 ≤ id ∧ id ≤ 9999) :
    Calls Tryd.prog 38 #[.map (some b), .int .i64 id, .agg #[.int .i64 q, .int .i64 p]] w fun e w' => e = .returned (.tuple #[]) ∧ HM w' b (n + 1) (setF f id (q, p)) ∧ w.grownBy w' (some b) := by
  obtain ⟨D, hown, hD⟩ := h
  have hkey : keyOf Tryd.prog 3 (.int .i64 id) = some (.int .i64 id) := keyOf_int_mk Tryd.underlying3 (small_wf (by omega) (by omega))
  have HO : Hid ((w.alloc (.cells #[.int .i64 q, .int .i64 p] 82)).ownsMap Tryd.prog 3 amR b n D) := hown.alloc _
  have HG : Hid (w.grownBy (w.alloc (.cells #[.int .i64 q, .int .i64 p] 82)) (some b)) := wak.gr_alloc _ _ _
  have HN : Hid (n < maxLen) := by show n < maxLen; unfold maxLen; omega
  clear hown hi hn
  by_cases hq : q ≤ 0
  · have HD : Hid (MapIs (D.del (.int .i64 id)) (setF f id (q, p))) := by
      rw [show Hid (MapIs (D.del (.int .i64 id)) (setF f id (q, p))) = MapIs (D.del (.int .i64 id)) (setF f id (q, p)) from rfl, setF_gone (show (q, p).1 ≤ 0 from hq)]
      exact hD.del id
    clear hD
    go_enter Tryd.func38, Tryd.ntmps38
    go_wp2_with (at_delete; refine wpList_delete_own _ rfl _ _ 66 3 rfl 82 lawI Tryd.underlying66 amR b n D rfl HO.out _ _ rfl hkey ?_; intro w1 hown1 hturn)
    go_wp2_with fail
    refine bodyPost_ret (results_none rfl _ _ _) rfl ?_
    exact ⟨rfl, ⟨_, hown1.mono (Nat.le_succ _), HD.out⟩, wak.gr_trans HG.out hturn.grown⟩
  · have HD : Hid (MapIs (D.put (.int .i64 id) (amD (q, p))) (setF f id (q, p))) := hD.put hq
    clear hD
    go_enter Tryd.func38, Tryd.ntmps38
    go_wp2_with (at_mapUpdate; refine wpList_mapUpdate_own _ rfl _ _ _ 66 rfl 3 82 lawI Tryd.underlying66 amR b n D rfl HO.out HN.out _ _ _ rfl rfl hkey _ [] (amR_mk _ _) ?_; intro w1 hown1 hgrow1)
    go_end0
    exact ⟨rfl, ⟨_, hown1, HD.out⟩, wak.gr_trans HG.out hgrow1⟩

set_option maxRecDepth 100000 in
theorem hear_one (b n : Nat) (f : Fm) (e2 e3 e4 t1 t2 t3 t4 t5 t6 : Int) (w : World) (h : HM w b n f) (hn : n < 1000) (hi : 1 ≤ e2 ∧ e2 ≤ 9999) :
    Calls Tryd.prog 26 #[.map (some b), .agg #[.int .i64 1, .int .i64 e2, .int .i64 e3, .int .i64 e4, .int .i64 t1, .int .i64 t2, .int .i64 t3, .int .i64 t4, .int .i64 t5, .int .i64 t6]] w fun e w' => e = .returned (.tuple #[]) ∧ HM w' b (n + 1) (setF f e2 (e3, e4)) ∧ w.grownBy w' (some b) := by
  have HS := hidT (set_any b n f e2 e3 e4 _ (h.alloc (.cells #[.int .i64 1, .int .i64 e2, .int .i64 e3, .int .i64 e4, .int .i64 t1, .int .i64 t2, .int .i64 t3, .int .i64 t4, .int .i64 t5, .int .i64 t6] 33)) hn hi)
  have HG : Hid (w.grownBy (w.alloc (.cells #[.int .i64 1, .int .i64 e2, .int .i64 e3, .int .i64 e4, .int .i64 t1, .int .i64 t2, .int .i64 t3, .int .i64 t4, .int .i64 t5, .int .i64 t6] 33)) (some b)) := wak.gr_alloc _ _ _
  clear h hn hi
  go_enter Tryd.func26, Tryd.ntmps26
  go_wp2_with fail
  refine HS.out.mono ?_
  rintro e w1 ⟨rfl, hm, hg⟩
  have HR := hidT (wak.gr_trans HG.out hg)
  have HM1 := hidT hm
  clear hm hg
  go_wp2_with fail
  first | go_end0 | refine bodyPost_ret (results_none rfl _ _ _) rfl ?_
  exact ⟨rfl, HM1.out, HR.out⟩
set_option maxRecDepth 100000 in
theorem hear_gone (b n : Nat) (f : Fm) (e2 e3 e4 t1 t2 t3 t4 t5 t6 : Int) (w : World) (h : HM w b n f) (hi : 1 ≤ e2 ∧ e2 ≤ 9999) :
    Calls Tryd.prog 26 #[.map (some b), .agg #[.int .i64 3, .int .i64 e2, .int .i64 e3, .int .i64 e4, .int .i64 t1, .int .i64 t2, .int .i64 t3, .int .i64 t4, .int .i64 t5, .int .i64 t6]] w fun e w' => e = .returned (.tuple #[]) ∧ HM w' b (n + 1) (delF f e2) ∧ w.grownBy w' (some b) := by
  obtain ⟨D, hown, hD⟩ := h
  have hkey : keyOf Tryd.prog 3 (.int .i64 e2) = some (.int .i64 e2) := keyOf_int_mk Tryd.underlying3 (small_wf (by omega) (by omega))
  have HO : Hid ((w.alloc (.cells #[.int .i64 3, .int .i64 e2, .int .i64 e3, .int .i64 e4, .int .i64 t1, .int .i64 t2, .int .i64 t3, .int .i64 t4, .int .i64 t5, .int .i64 t6] 33)).ownsMap Tryd.prog 3 amR b n D) := hown.alloc _
  have HG : Hid (w.grownBy (w.alloc (.cells #[.int .i64 3, .int .i64 e2, .int .i64 e3, .int .i64 e4, .int .i64 t1, .int .i64 t2, .int .i64 t3, .int .i64 t4, .int .i64 t5, .int .i64 t6] 33)) (some b)) := wak.gr_alloc _ _ _
  have HD := hidT (hD.del e2)
  clear hown hD hi
  go_enter Tryd.func26, Tryd.ntmps26
  go_wp2_with (at_delete; refine wpList_delete_own _ rfl _ _ 66 3 rfl 82 lawI Tryd.underlying66 amR b n D rfl HO.out _ _ rfl hkey ?_; intro w1 hown1 hturn)
  go_wp2_with fail
  first | go_end0 | refine bodyPost_ret (results_none rfl _ _ _) rfl ?_
  exact ⟨rfl, ⟨_, hown1.mono (Nat.le_succ _), HD.out⟩, wak.gr_trans HG.out hturn.grown⟩
set_option maxRecDepth 100000 in
theorem hear_other (b n : Nat) (f : Fm) (e1 e2 e3 e4 t1 t2 t3 t4 t5 t6 : Int) (w : World) (h : HM w b n f) (h1 : (e1 == 1) = false) (h2 : (e1 == 2) = false) (h3 : (e1 == 3) = false) :
    Calls Tryd.prog 26 #[.map (some b), .agg #[.int .i64 e1, .int .i64 e2, .int .i64 e3, .int .i64 e4, .int .i64 t1, .int .i64 t2, .int .i64 t3, .int .i64 t4, .int .i64 t5, .int .i64 t6]] w fun e w' => e = .returned (.tuple #[]) ∧ HM w' b (n + 1) (f) ∧ w.grownBy w' (some b) := by
  have HS := hidT (h.alloc (.cells #[.int .i64 e1, .int .i64 e2, .int .i64 e3, .int .i64 e4, .int .i64 t1, .int .i64 t2, .int .i64 t3, .int .i64 t4, .int .i64 t5, .int .i64 t6] 33))
  have HG : Hid (w.grownBy (w.alloc (.cells #[.int .i64 e1, .int .i64 e2, .int .i64 e3, .int .i64 e4, .int .i64 t1, .int .i64 t2, .int .i64 t3, .int .i64 t4, .int .i64 t5, .int .i64 t6] 33)) (some b)) := wak.gr_alloc _ _ _
  clear h
  go_enter Tryd.func26, Tryd.ntmps26
  go_wp2_with fail
  first | go_end0 | refine bodyPost_ret (results_none rfl _ _ _) rfl ?_
  exact ⟨rfl, HS.out.mono (Nat.le_succ _), HG.out⟩
set_option maxRecDepth 100000 in
theorem hear_two (b n : Nat) (f : Fm) (e2 e3 e4 t1 t2 t3 t4 t5 t6 : Int) (w : World) (h : HM w b n f) (hf : FOk f) (hn : n < 1000) (hi : 1 ≤ t1 ∧ t1 ≤ 9999) (hq : 1 ≤ t6 ∧ t6 ≤ 10000) :
    Calls Tryd.prog 26 #[.map (some b), .agg #[.int .i64 2, .int .i64 e2, .int .i64 e3, .int .i64 e4, .int .i64 t1, .int .i64 t2, .int .i64 t3, .int .i64 t4, .int .i64 t5, .int .i64 t6]] w fun e w' => e = .returned (.tuple #[]) ∧ HM w' b (n + 1) (setF f t1 (((f t1).getD (0, 0)).1 - t6, ((f t1).getD (0, 0)).2)) ∧ w.grownBy w' (some b) := by
  have hkey : keyOf Tryd.prog 3 (.int .i64 t1) = some (.int .i64 t1) := keyOf_int_mk Tryd.underlying3 (small_wf (by omega) (by omega))
  have hgt := hf.get t1
  obtain ⟨⟨qa, qc⟩, hA⟩ : ∃ A : Am, (f t1).getD (0, 0) = A := ⟨_, rfl⟩
  rw [hA] at hgt ⊢
  simp only at hgt ⊢
  have HH := hidT h
  have HG : Hid (w.grownBy (w.alloc (.cells #[.int .i64 2, .int .i64 e2, .int .i64 e3, .int .i64 e4, .int .i64 t1, .int .i64 t2, .int .i64 t3, .int .i64 t4, .int .i64 t5, .int .i64 t6] 33)) (some b)) := wak.gr_alloc _ _ _
  have hR := heap_alloc_new w (.cells #[.int .i64 2, .int .i64 e2, .int .i64 e3, .int .i64 e4, .int .i64 t1, .int .i64 t2, .int .i64 t3, .int .i64 t4, .int .i64 t5, .int .i64 t6] 33)
  have hb : b < w.heap.size := h.lt
  go_enter Tryd.func26, Tryd.ntmps26
  go_upto_region 5 with fail
  have hm := h.alloc (.cells #[.int .i64 2, .int .i64 e2, .int .i64 e3, .int .i64 e4, .int .i64 t1, .int .i64 t2, .int .i64 t3, .int .i64 t4, .int .i64 t5, .int .i64 t6] 33)
  have hz : w.heap.size < (w.alloc (.cells #[.int .i64 2, .int .i64 e2, .int .i64 e3, .int .i64 e4, .int .i64 t1, .int .i64 t2, .int .i64 t3, .int .i64 t4, .int .i64 t5, .int .i64 t6] 33)).heap.size := by simp
  clear h
  generalize w.alloc (.cells #[.int .i64 2, .int .i64 e2, .int .i64 e3, .int .i64 e4, .int .i64 t1, .int .i64 t2, .int .i64 t3, .int .i64 t4, .int .i64 t5, .int .i64 t6] 33) = V at *
  obtain ⟨D, hown, hD⟩ := hm
  obtain ⟨v, ps, hrun, hv⟩ := hown.lookup lawI Tryd.underlying66 (z := .agg #[.int .i64 0, .int .i64 0]) (by simp [Tryd.zeroValue82]) (amR_mk 0 0) hkey
  obtain ⟨a, c, rfl, hac⟩ := amR_inv hv
  have hfa : (f t1).getD (0, 0) = (a, c) := by
    have h1 := congrArg Prod.fst hac
    simp only at h1
    rw [hD.at_] at h1
    cases hq2 : f t1 with
    | none => rw [hq2] at h1; exact amD_inj h1
    | some x => rw [hq2] at h1; exact amD_inj h1
  rw [hA] at hfa
  obtain ⟨rfl, rfl⟩ := Prod.mk.inj hfa
  have HW : Hid (wrap64 (qa - t6) = qa - t6) := by show _ = _; unfold wrap64; omega
  have c0 : V.cell? ⟨w.heap.size, 4, none⟩ = some (.int .i64 t1) := by simp [World.cell?, hR]
  have c1 : V.cell? ⟨w.heap.size, 9, none⟩ = some (.int .i64 t6) := by simp [World.cell?, hR]
  have HM2 := hidT (HM.alloc (show HM V b n f from ⟨D, hown, hD⟩) (.cells #[.int .i64 qa, .int .i64 qc] 82))
  have HS := hidT (set_any b n f t1 (qa - t6) qc _ HM2.out hn hi)
  have HG2 : Hid (w.grownBy (V.alloc (.cells #[.int .i64 qa, .int .i64 qc] 82)) (some b)) := wak.gr_trans HG.out (wak.gr_alloc _ _ _)
  clear hac hv hfa hgt hA hown hD hR hn hi hq HH HM2 hb hf hkey
  have hws := HW.out
  go_wp2_with fail
  refine HS.out.mono ?_
  rintro e w1 ⟨rfl, hm, hg⟩
  have HR := hidT (wak.gr_trans HG2.out hg)
  have HM1 := hidT hm
  clear hm hg hws HS
  go_wp2_with fail
  first | go_end0 | refine bodyPost_ret (results_none rfl _ _ _) rfl ?_
  exact ⟨rfl, HM1.out, HR.out⟩
theorem hear_any (b n : Nat) (f : Fm) (x : Ev) (w : World) (h : HM w b n f) (hf : FOk f) (hn : n < 1000) (he : evB x = true) :
    Calls Tryd.prog 26 #[.map (some b), .agg (evL x).toArray] w fun e w' => e = .returned (.tuple #[]) ∧ HM w' b (n + 1) (hearF f x) ∧ w.grownBy w' (some b) := by
  obtain ⟨e1, e2, e3, e4, ⟨t1, t2, t3, t4, t5, t6⟩⟩ := x
  unfold evB at he
  unfold hearF
  by_cases h2 : e1 = 2
  · subst h2
    simp [tdB] at he
    exact hear_two b n f e2 e3 e4 t1 t2 t3 t4 t5 t6 w h hf hn (by omega) (by omega)
  · simp only at he ⊢
    rw [if_neg h2] at he
    rw [if_neg h2]
    simp [otB] at he
    by_cases h1 : e1 = 1
    · subst h1
      rw [if_pos rfl]
      exact hear_one b n f e2 e3 e4 t1 t2 t3 t4 t5 t6 w h hn (by omega)
    · rw [if_neg h1]
      by_cases h3 : e1 = 3
      · subst h3
        rw [if_pos rfl]
        exact hear_gone b n f e2 e3 e4 t1 t2 t3 t4 t5 t6 w h (by omega)
      · rw [if_neg h3]
        exact hear_other b n f e1 e2 e3 e4 t1 t2 t3 t4 t5 t6 w h (by simp [h1]) (by simp [h2]) (by simp [h3])
end Go.Proofs.YtgpbpaimfhlnhaaDoor.tap
