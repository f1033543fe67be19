/- A trade, and its cells. Plain facts on who comes and who rests: what an order takes of the other side, level by level. No walk. Plain facts on the map of places: what it holds behind some stores. No walk. -/
import Derived.Test.YtnjpjieedgmffaaMeeOrd
import Derived.Test.YtnjpjieedgmffaaSidChk
import Derived.Test.YtnjpjieedgmffaaQuePure2
import Derived.Test.YtnjpjieedgmffaaBokArg
import Derived.Maps.OwnSet
namespace Go.Proofs.Ytnjpjieedgmffaa.mee
open Go.RowKit

/-- A trade. -/
structure T where
  maker : Int
  taker : Int
  frm : Int
  into : Int
  price : Int
  qty : Int
deriving DecidableEq, Inhabited
/-- The six cells of a trade. -/
def tV (t : T) : List Value := [.int .i64 t.maker, .int .i64 t.taker, .int .i64 t.frm, .int .i64 t.into, .int .i64 t.price, .int .i64 t.qty]
end Go.Proofs.Ytnjpjieedgmffaa.mee
namespace Go.Proofs.Ytnjpjieedgmffaa.mee
open Go.RowKit Go.Proofs.Ytnjpjieedgmffaa.spn Go.Proofs.Ytnjpjieedgmffaa.que Go.Proofs.Ytnjpjieedgmffaa.sid
open Go.Proofs.Ytnjpjieedgmffaa.ord (O mB chk)

/-- The trade of a fill. -/
def trd (o : O) (p : Int) (f : F) : T := if o.side = 1 then ⟨f.id, o.id, f.who, o.who, p, f.qty⟩ else ⟨f.id, o.id, o.who, f.who, p, f.qty⟩
/-- What an order takes of levels: what is left of them, the trades, what is left of it. -/
def tkl (o : O) : List L → Int → List L × List T × Int
  | [], q => ([], [], q)
  | l :: t, q => if q ≤ 0 then (l :: t, [], q) else if mB o l.price = false then (l :: t, [], q) else
      if (take q l.rests).2 = [] then ((tkl o t (q - sum (take q l.rests).1)).1, (take q l.rests).1.map (trd o l.price) ++ (tkl o t (q - sum (take q l.rests).1)).2.1, (tkl o t (q - sum (take q l.rests).1)).2.2)
      else (⟨l.price, (take q l.rests).2⟩ :: t, (take q l.rests).1.map (trd o l.price), q - sum (take q l.rests).1)
theorem tkl_zero {o : O} {ls : List L} {q : Int} (h : q ≤ 0) : tkl o ls q = (ls, [], q) := by
  cases ls with
  | nil => rfl
  | cons l t => unfold tkl; rw [if_pos h]
theorem tkl_stop {o : O} {l : L} {t : List L} {q : Int} (h : mB o l.price = false) : tkl o (l :: t) q = (l :: t, [], q) := by
  unfold tkl
  by_cases h0 : q ≤ 0
  · rw [if_pos h0]
  · rw [if_neg h0, if_pos h]
theorem tkl_gone {o : O} {l : L} {t : List L} {q : Int} (h : 0 < q) (hm : mB o l.price = true) (he : (take q l.rests).2 = []) :
    tkl o (l :: t) q = ((tkl o t (q - sum (take q l.rests).1)).1, (take q l.rests).1.map (trd o l.price) ++ (tkl o t (q - sum (take q l.rests).1)).2.1, (tkl o t (q - sum (take q l.rests).1)).2.2) := by
  rw [tkl, if_neg (by omega), if_neg (by rw [hm]; decide), if_pos he]
theorem tkl_last {o : O} {l : L} {t : List L} {q : Int} (h : 0 < q) (hm : mB o l.price = true) (he : ¬ (take q l.rests).2 = []) :
    tkl o (l :: t) q = (⟨l.price, (take q l.rests).2⟩ :: t, (take q l.rests).1.map (trd o l.price), q - sum (take q l.rests).1) := by
  rw [tkl, if_neg (by omega), if_neg (by rw [hm]; decide), if_neg he]

theorem sum_append (a b : List F) : sum (a ++ b) = sum a + sum b := by
  induction a with
  | nil => simp [sum]
  | cons x t ih => simp only [List.cons_append, sum, ih]; omega
theorem sum_take (fs : List F) (k : Nat) (hk : k < fs.length) : sum (fs.take (k + 1)) = sum (fs.take k) + fs[k]!.qty := by
  rw [List.take_succ_eq_append_getElem hk, sum_append, getE _ _ hk]; simp only [sum]; omega
theorem sum_len (fs : List F) (h : ∀ f ∈ fs, 1 ≤ f.qty) : (fs.length : Int) ≤ sum fs := by
  induction fs with
  | nil => simp [sum]
  | cons x t ih =>
    have h1 := h x (by simp)
    have h2 := ih (fun f hf => h f (by simp [hf]))
    simp only [sum, List.length_cons]; omega
theorem sum_pos (fs : List F) (h : ∀ f ∈ fs, 1 ≤ f.qty) : 0 ≤ sum fs := by have := sum_len fs h; omega
theorem sum_take_le (fs : List F) (k : Nat) (h : ∀ f ∈ fs, 1 ≤ f.qty) : 0 ≤ sum (fs.take k) ∧ sum (fs.take k) ≤ sum fs := by
  have h1 := sum_pos (fs.take k) (fun f hf => h f (List.mem_of_mem_take hf))
  have h2 := sum_pos (fs.drop k) (fun f hf => h f (List.mem_of_mem_drop hf))
  have h3 := sum_append (fs.take k) (fs.drop k)
  rw [List.take_append_drop] at h3
  omega
/-- What is taken of a queue that is right. -/
theorem take_all {q : Int} {zs : List R} (h0 : qchk zs = 0) (h1 : 1 ≤ q) : sum (take q zs).1 ≤ q ∧ 0 ≤ sum (take q zs).1 ∧ ((take q zs).1.length : Int) ≤ sum (take q zs).1 ∧ qchk (take q zs).2 = 0 ∧ (sum (take q zs).1 < q → (take q zs).2 = []) ∧
    (∀ f ∈ (take q zs).1, 1 ≤ f.qty ∧ f.qty ≤ q) ∧ sum (take q zs).1 + tot (take q zs).2 = tot zs := by
  obtain ⟨h60, hg⟩ := (qchk_zero zs).1 h0
  obtain ⟨f1, f2, f3, f4, f5, f6, f7, f8⟩ := take_facts q.toNat q zs (by omega) hg (by omega)
  exact ⟨f4, f8, sum_len _ (fun f hf => (f5 f hf).1), (qchk_zero _).2 ⟨by omega, f1⟩, f6, f5, f3⟩
/-- Where something is left of the rests nothing is left of what was wanted. -/
theorem take_last {q : Int} {zs : List R} (h0 : qchk zs = 0) (h1 : 1 ≤ q) (he : ¬ (take q zs).2 = []) : q - sum (take q zs).1 = 0 := by
  obtain ⟨a, b, c, d, e, f⟩ := take_all h0 h1
  by_cases h : sum (take q zs).1 < q
  · exact absurd (e h) he
  · omega
end Go.Proofs.Ytnjpjieedgmffaa.mee
namespace Go.Proofs.Ytnjpjieedgmffaa.sid
open Go.RowKit Go.Proofs.Ytnjpjieedgmffaa.spn Go.Proofs.Ytnjpjieedgmffaa.que Go.Maps

theorem snocRec {α : Type} {p : List α → Prop} (nil : p []) (snoc : ∀ l x, p l → p (l ++ [x])) (l : List α) : p l := by
  have h : ∀ r : List α, p r.reverse := by
    intro r
    induction r with
    | nil => exact nil
    | cons x t ih => rw [List.reverse_cons]; exact snoc _ _ ih
  have := h l.reverse
  rwa [List.reverse_reverse] at this
/-- A place as the program holds it, and how it reads. -/
def plV (i k : Int) : Value := .agg #[.int .i64 i, .int .i64 k]
def plD (i k : Int) : DataW Unit := .agg [.lit (.int .i64 i), .lit (.int .i64 k)]
def plR (v : Value) : Option (DataW Unit × List MemPlace) :=
  match v with
  | .agg a => match a.toList with
    | [.int .i64 x, .int .i64 y] => some (plD x y, [])
    | _ => none
  | _ => none
theorem plR_mk (i k : Int) : plR (.agg #[.int .i64 i, .int .i64 k]) = some (plD i k, []) := rfl
theorem plR_inv {v : Value} {i k : Int} {ps : List MemPlace} (h : plR v = some (plD i k, ps)) : v = .agg #[.int .i64 i, .int .i64 k] := by
  unfold plR at h
  split at h
  · rename_i a
    split at h
    · rename_i x y e
      simp only [plD, Option.some.injEq, Prod.mk.injEq, DataW.agg.injEq, List.cons.injEq, DataW.lit.injEq, Lit.int.injEq, true_and, and_true] at h
      obtain ⟨⟨rfl, rfl⟩, -⟩ := h
      rw [show a = #[.int .i64 x, .int .i64 y] from by rw [← Array.toArray_toList (xs := a), e]]
    · cases h
  · cases h

/-- The stores, in their order: an id, a level, a place there. -/
abbrev P3 := Int × Int × Int
def mapD (ps : List P3) : DataW Unit := ps.foldl (fun D x => D.put (.int .i64 x.1) (plD x.2.1 x.2.2)) (.map [])
theorem mapD_nil : mapD [] = .map [] := rfl
theorem mapD_snoc (ps : List P3) (x : P3) : mapD (ps ++ [x]) = (mapD ps).put (.int .i64 x.1) (plD x.2.1 x.2.2) := by
  unfold mapD; rw [List.foldl_append]; rfl
theorem isKey (n : Int) : WideAt.IsKeyLit (.int .i64 n) := by simp [WideAt.IsKeyLit]
theorem mapD_tidy (ps : List P3) : Tidy (mapD ps) := by
  induction ps using snocRec with
  | nil => exact tidy_empty
  | snoc ps x ih => rw [mapD_snoc]; exact ih.put (isKey _) _
theorem mapD_has (ps : List P3) (id : Int) : Maps.has (mapD ps) (.int .i64 id) = ps.any (fun x => decide (x.1 = id)) := by
  induction ps using snocRec with
  | nil => rfl
  | snoc ps x ih =>
    rw [mapD_snoc, List.any_append]
    by_cases h : x.1 = id
    · rw [← h, has_put_same (mapD_tidy ps).isMap (isKey _)]; simp
    · rw [has_put_other (by simp; exact fun e => h e.symm), ih]; simp [h]
/-- The last store at an id. -/
def lastAt (ps : List P3) (id : Int) : Option P3 := ps.reverse.find? (fun x => decide (x.1 = id))
theorem mapD_at (ps : List P3) (id : Int) (z : DataW Unit) : (mapD ps).atKey (.int .i64 id) z = match lastAt ps id with | some x => plD x.2.1 x.2.2 | none => z := by
  induction ps using snocRec with
  | nil => rfl
  | snoc ps x ih =>
    rw [mapD_snoc]
    unfold lastAt
    rw [List.reverse_append]
    by_cases h : x.1 = id
    · rw [← h, atKey_put_same (mapD_tidy ps).isMap (isKey _)]; simp
    · rw [atKey_put_other (by simp; exact fun e => h e.symm), ih]; simp [h, lastAt]
theorem mapD_le (ps : List P3) : Maps.size (mapD ps) ≤ ps.length := by
  induction ps using snocRec with
  | nil => exact Nat.le_refl _
  | snoc ps x ih => rw [mapD_snoc, size_put (mapD_tidy ps)]; simp; split <;> omega
/-- As many entries as stores just where no id was stored twice. -/
theorem mapD_size (ps : List P3) : Maps.size (mapD ps) = ps.length ↔ (ps.map (·.1)).Nodup := by
  induction ps using snocRec with
  | nil => simp [mapD, Maps.size]
  | snoc ps x ih =>
    rw [mapD_snoc, size_put (mapD_tidy ps), mapD_has]
    have hle := mapD_le ps
    rw [List.map_append, List.nodup_append, List.length_append]
    by_cases h : ps.any (fun y => decide (y.1 = x.1)) = true
    · rw [if_pos h]
      constructor
      · intro e; simp at e; omega
      · rintro ⟨-, -, h3⟩
        obtain ⟨y, hy, e⟩ := List.any_eq_true.1 h
        exact absurd (of_decide_eq_true e) (h3 y.1 (List.mem_map.2 ⟨y, hy, rfl⟩) x.1 (by simp))
    · rw [if_neg h]
      constructor
      · intro e
        refine ⟨ih.1 (by simp at e; omega), by simp, ?_⟩
        intro a ha b hb e2
        obtain ⟨y, hy, rfl⟩ := List.mem_map.1 ha
        simp at hb
        exact h (List.any_eq_true.2 ⟨y, hy, by simp [e2, hb]⟩)
      · rintro ⟨h1, -, -⟩
        rw [ih.2 h1]; simp

/-- The stores of a level, and of levels. -/
def rowP (i : Int) (k : Int) : List R → List P3
  | [] => []
  | r :: t => (r.id, i, k) :: rowP i (k + 1) t
def flatP (i : Int) : List L → List P3
  | [] => []
  | l :: t => rowP i 0 l.rests ++ flatP (i + 1) t
theorem rowP_snoc (i k : Int) (zs : List R) (r : R) : rowP i k (zs ++ [r]) = rowP i k zs ++ [(r.id, i, k + zs.length)] := by
  induction zs generalizing k with
  | nil => simp [rowP]
  | cons x t ih =>
    simp only [List.cons_append, rowP, ih, List.length_cons]
    rw [show k + 1 + (t.length : Int) = k + ((t.length + 1 : Nat) : Int) by omega]
theorem flatP_snoc (i : Int) (ls : List L) (l : L) : flatP i (ls ++ [l]) = flatP i ls ++ rowP (i + ls.length) 0 l.rests := by
  induction ls generalizing i with
  | nil => simp [flatP]
  | cons x t ih =>
    simp only [List.cons_append, flatP, ih, List.length_cons, List.append_assoc]
    rw [show i + 1 + (t.length : Int) = i + ((t.length + 1 : Nat) : Int) by omega]
theorem rowP_len (i k : Int) (zs : List R) : (rowP i k zs).length = zs.length := by
  induction zs generalizing k with
  | nil => rfl
  | cons x t ih => simp [rowP, ih]
theorem flatP_len (i : Int) (ls : List L) : ((flatP i ls).length : Int) = cnt ls := by
  induction ls generalizing i with
  | nil => rfl
  | cons x t ih => simp only [flatP, List.length_append, rowP_len, cnt, ← ih (i + 1)]; omega
theorem rowP_ids (i k : Int) (zs : List R) : (rowP i k zs).map (·.1) = zs.map (·.id) := by
  induction zs generalizing k with
  | nil => rfl
  | cons x t ih => simp [rowP, ih]
theorem flatP_ids (i : Int) (ls : List L) : (flatP i ls).map (·.1) = (ls.flatMap (·.rests)).map (·.id) := by
  induction ls generalizing i with
  | nil => rfl
  | cons x t ih => simp only [flatP, List.map_append, rowP_ids, ih, List.flatMap_cons]
end Go.Proofs.Ytnjpjieedgmffaa.sid
