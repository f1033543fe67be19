/- Contracts over this seat's translation: side.count. Plain facts on the map of places: what it holds behind some stores. No walk. -/
import Derived.Test.YtnjpjieedgmffaaMeePure
import Derived.Maps.OwnSet
namespace Go.Proofs.Ytnjpjieedgmffaa.sid
open Go.RowKit Go.Proofs.Ytnjpjieedgmffaa.spn Go.Proofs.Ytnjpjieedgmffaa.que

/-- Levels lie there one behind the other, and the rests of each where its slice points. -/
def LL (w : World) (b o : Nat) (ls : List L) : Prop := ∀ k, k < ls.length → w.cell? ⟨b, o + k * 2, none⟩ = some (.int .i64 ls[k]!.price) ∧ ∃ v, w.cell? ⟨b, o + k * 2 + 1, none⟩ = some v ∧ SLe w v ls[k]!.rests
/-- A slice value that reads as a list of levels. -/
def LS (w : World) (v : Value) (ls : List L) : Prop :=
  (v = .slice none 0 0 ∧ ls = []) ∨ ∃ b o c, v = .slice (some ⟨b, o, none⟩) ls.length c ∧ ls.length ≤ c ∧ c ≤ 9223372036854775807 ∧ b < w.heap.size ∧ LL w b o ls
theorem LL.below {w w' : World} {b o : Nat} {ls : List L} (h : LL w b o ls) (hb : b < w.heap.size) (hB : Below w.heap.size w w') : LL w' b o ls := by
  intro k hk
  obtain ⟨h1, v, h2, h3⟩ := h k hk
  exact ⟨(hB.cell (p := ⟨b, o + k * 2, none⟩) hb).trans h1, v, (hB.cell (p := ⟨b, o + k * 2 + 1, none⟩) hb).trans h2, h3.below hB⟩
theorem LS.below {w w' : World} {v : Value} {ls : List L} (h : LS w v ls) (hB : Below w.heap.size w w') : LS w' v ls := by
  rcases h with h | ⟨b, o, c, h1, h2, h3, h4, h5⟩
  · exact .inl h
  · exact .inr ⟨b, o, c, h1, h2, h3, Nat.lt_of_lt_of_le h4 hB.size, h5.below h4 hB⟩
theorem LL.at {w : World} {b o k : Nat} {ls : List L} (h : LL w b o ls) (hk : k < ls.length) {p : Int} {zs : List R} (he : ls[k]! = ⟨p, zs⟩) :
    ∃ q c, w.cell? ⟨b, o + k * 2, none⟩ = some (.int .i64 p) ∧ w.cell? ⟨b, o + k * 2 + 1, none⟩ = some (.slice q zs.length c) ∧ SLe w (.slice q zs.length c) zs := by
  obtain ⟨h1, v, h2, h3⟩ := h k hk
  rw [he] at h1 h3
  obtain ⟨q, c, hv⟩ := sl_form h3
  subst hv
  exact ⟨q, c, h1, h2, h3⟩
theorem ldrop_at {ls : List L} {k : Nat} (hk : k < ls.length) : ls.drop k = ls[k]! :: ls.drop (k + 1) := by
  rw [List.drop_eq_getElem_cons hk, getE _ _ hk]
theorem ltake_at {ls : List L} {k : Nat} (hk : k < ls.length) : ls.take (k + 1) = ls.take k ++ [ls[k]!] := by
  rw [List.take_succ_eq_append_getElem hk, getE _ _ hk]
theorem cnt_append (a b : List L) : cnt (a ++ b) = cnt a + cnt b := by
  induction a with
  | nil => simp [cnt]
  | cons x t ih => simp only [List.cons_append, cnt, ih]; omega
theorem cnt_take (ls : List L) (k : Nat) (hk : k < ls.length) : cnt (ls.take (k + 1)) = cnt (ls.take k) + (ls[k]!.rests.length : Int) := by
  rw [ltake_at hk, cnt_append]; simp only [cnt]; omega
theorem cnt_le (ls : List L) (h : ∀ l ∈ ls, l.rests.length ≤ 60) : 0 ≤ cnt ls ∧ cnt ls ≤ 60 * (ls.length : Int) := by
  induction ls with
  | nil => simp [cnt]
  | cons x t ih =>
    have h1 := h x (by simp)
    have h2 := ih (fun l hl => h l (by simp [hl]))
    simp only [cnt, List.length_cons]
    omega

set_option maxRecDepth 100000 in
set_option maxHeartbeats 1000000 in
theorem count_some (b o c : Nat) (ls : List L) (w : World) (hb : b < w.heap.size) (hc : ls.length ≤ c) (hl : LL w b o ls) (h60 : ∀ l ∈ ls, l.rests.length ≤ 60) (h10 : ls.length ≤ 10000) :
    Calls Try.prog 78 #[.slice (some ⟨b, o, none⟩) ls.length c] w fun e w' => e = .returned (.int .i64 (cnt ls)) ∧ Below w.heap.size w w' := by
  have HG : Hid (∀ l ∈ ls, l.rests.length ≤ 60) := h60
  have HL : Hid (LL w b o ls) := hl
  clear hl h60
  generalize hT : cnt ls = T
  have HT : Hid (cnt ls = T) := hT
  clear hT
  generalize hn : ls.length = n at *
  have HN : Hid (ls.length = n) := hn
  clear hn
  go_enter Try.func78, Try.ntmps78
  go_wp2_with fail
  go_loopg [3, 5, 8] n (fun gg s5 _ s15 wr => ∃ kk : Nat, kk ≤ n ∧ n - kk ≤ gg ∧ s15 = .int .i64 kk ∧ s5 = .int .i64 (cnt (ls.take kk)) ∧ Aside (Below w.heap.size w wr))
  case atStart => exact ⟨0, Nat.zero_le _, by omega, rfl, rfl, Below.refl _ _⟩
  case round =>
    obtain ⟨kk, hkk, hg, rfl, rfl, BW⟩ := hrel
    have hA : Hid (0 ≤ cnt (ls.take kk) ∧ cnt (ls.take kk) ≤ 60 * (kk : Int)) := by
      have := cnt_le (ls.take kk) (fun r hr => HG.out r (List.mem_of_mem_take hr))
      rw [List.length_take, HN.out, Nat.min_eq_left hkk] at this
      exact this
    by_cases hlt : kk < n
    · have hltz : (kk : Int) < (n : Int) := by omega
      have hlz : kk < ls.length := by rw [HN.out]; exact hlt
      have LW : Hid (LL wr b o ls) := HL.out.below hb BW.out
      obtain ⟨r, hr⟩ : ∃ r, ls[kk]! = r := ⟨_, rfl⟩
      obtain ⟨p, zs⟩ := r
      obtain ⟨q, cc, c0, c1, hs⟩ := LW.out.at hlz hr
      have hq := HG.out ls[kk]! (by rw [getE _ _ hlz]; exact List.getElem_mem hlz)
      rw [hr] at hq
      simp only [] at hq
      have hTT : Hid (cnt (ls.take (kk + 1)) = cnt (ls.take kk) + (zs.length : Int)) := by
        have := cnt_take ls kk hlz
        rw [hr] at this
        exact this
      clear hr hs
      obtain ⟨t1, t2⟩ := hA.out
      clear hA
      generalize cnt (ls.take kk) = t at *
      generalize zs.length = m at *
      have hbw : b < wr.heap.size := Nat.lt_of_lt_of_le hb BW.out.size
      have hin1 : ¬ ((kk : Int) < 0) := by omega
      have e2 : wrap64 (t + (m : Int)) = t + (m : Int) := by unfold wrap64; omega
      go_wp2_with fail
      go_roundg (n - (kk + 1))
      case measure => omega
      case rel => exact ⟨kk + 1, by omega, by omega, by go_num, by rw [hTT.out], BW.out.alloc BW.out.size _⟩
    · have hltz : ¬ (kk : Int) < (n : Int) := by omega
      have hk : kk = n := by omega
      subst hk
      have hT2 : cnt (ls.take kk) = T := by rw [← HT.out, List.take_of_length_le (by rw [HN.out]; exact Nat.le_refl _)]
      rw [hT2]
      go_wp2_with fail
      go_ret
      exact ⟨rfl, BW.out⟩
theorem count_nil (w : World) :
    Calls Try.prog 78 #[.slice none 0 0] w fun e w' => e = .returned (.int .i64 0) ∧ Below w.heap.size w w' := by
  go_enter Try.func78, Try.ntmps78
  go_wp2_with fail
  go_loopg [3, 5, 8] 0 (fun _ s5 _ s15 wr => s15 = .int .i64 0 ∧ s5 = .int .i64 0 ∧ wr = w)
  case atStart => exact ⟨rfl, rfl, rfl⟩
  case round =>
    obtain ⟨rfl, rfl, rfl⟩ := hrel
    go_wp2_with fail
    go_ret
    exact ⟨rfl, Below.refl _ _⟩
/-- count, at a side whose levels are not too many. -/
theorem count_any (v : Value) (ls : List L) (w : World) (h : LS w v ls) (h60 : ∀ l ∈ ls, l.rests.length ≤ 60) (h10 : ls.length ≤ 10000) :
    Calls Try.prog 78 #[v] w fun e w' => e = .returned (.int .i64 (cnt ls)) ∧ Below w.heap.size w w' := by
  rcases h with ⟨rfl, rfl⟩ | ⟨b, o, c, rfl, h2, h3, h4, h5⟩
  · exact count_nil w
  · exact count_some b o c ls w h4 h2 h5 h60 h10
end Go.Proofs.Ytnjpjieedgmffaa.sid
namespace Go.Proofs.Ytnjpjieedgmffaa.sid
open Go.RowKit Go.Proofs.Ytnjpjieedgmffaa.spn Go.Proofs.Ytnjpjieedgmffaa.que Go.Maps

theorem snocRec {α : Type} {p : List α → Prop} (nil : p []) (snoc : ∀ l x, p l → p (l ++ [x])) (l : List α) : p l := by
  have h : ∀ r : List α, p r.reverse := by
    intro r
    induction r with
    | nil => exact nil
    | cons x t ih => rw [List.reverse_cons]; exact snoc _ _ ih
  have := h l.reverse
  rwa [List.reverse_reverse] at this
/-- A place as the program holds it, and how it reads. -/
def plV (i k : Int) : Value := .agg #[.int .i64 i, .int .i64 k]
def plD (i k : Int) : DataW Unit := .agg [.lit (.int .i64 i), .lit (.int .i64 k)]
def plR (v : Value) : Option (DataW Unit × List MemPlace) :=
  match v with
  | .agg a => match a.toList with
    | [.int .i64 x, .int .i64 y] => some (plD x y, [])
    | _ => none
  | _ => none
theorem plR_mk (i k : Int) : plR (.agg #[.int .i64 i, .int .i64 k]) = some (plD i k, []) := rfl
theorem plR_inv {v : Value} {i k : Int} {ps : List MemPlace} (h : plR v = some (plD i k, ps)) : v = .agg #[.int .i64 i, .int .i64 k] := by
  unfold plR at h
  split at h
  · rename_i a
    split at h
    · rename_i x y e
      simp only [plD, Option.some.injEq, Prod.mk.injEq, DataW.agg.injEq, List.cons.injEq, DataW.lit.injEq, Lit.int.injEq, true_and, and_true] at h
      obtain ⟨⟨rfl, rfl⟩, -⟩ := h
      rw [show a = #[.int .i64 x, .int .i64 y] from by rw [← Array.toArray_toList (xs := a), e]]
    · cases h
  · cases h

/-- The stores, in their order: an id, a level, a place there. -/
abbrev P3 := Int × Int × Int
def mapD (ps : List P3) : DataW Unit := ps.foldl (fun D x => D.put (.int .i64 x.1) (plD x.2.1 x.2.2)) (.map [])
theorem mapD_nil : mapD [] = .map [] := rfl
theorem mapD_snoc (ps : List P3) (x : P3) : mapD (ps ++ [x]) = (mapD ps).put (.int .i64 x.1) (plD x.2.1 x.2.2) := by
  unfold mapD; rw [List.foldl_append]; rfl
theorem isKey (n : Int) : WideAt.IsKeyLit (.int .i64 n) := by simp [WideAt.IsKeyLit]
theorem mapD_tidy (ps : List P3) : Tidy (mapD ps) := by
  induction ps using snocRec with
  | nil => exact tidy_empty
  | snoc ps x ih => rw [mapD_snoc]; exact ih.put (isKey _) _
theorem mapD_has (ps : List P3) (id : Int) : Maps.has (mapD ps) (.int .i64 id) = ps.any (fun x => decide (x.1 = id)) := by
  induction ps using snocRec with
  | nil => rfl
  | snoc ps x ih =>
    rw [mapD_snoc, List.any_append]
    by_cases h : x.1 = id
    · rw [← h, has_put_same (mapD_tidy ps).isMap (isKey _)]; simp
    · rw [has_put_other (by simp; exact fun e => h e.symm), ih]; simp [h]
/-- The last store at an id. -/
def lastAt (ps : List P3) (id : Int) : Option P3 := ps.reverse.find? (fun x => decide (x.1 = id))
theorem mapD_at (ps : List P3) (id : Int) (z : DataW Unit) : (mapD ps).atKey (.int .i64 id) z = match lastAt ps id with | some x => plD x.2.1 x.2.2 | none => z := by
  induction ps using snocRec with
  | nil => rfl
  | snoc ps x ih =>
    rw [mapD_snoc]
    unfold lastAt
    rw [List.reverse_append]
    by_cases h : x.1 = id
    · rw [← h, atKey_put_same (mapD_tidy ps).isMap (isKey _)]; simp
    · rw [atKey_put_other (by simp; exact fun e => h e.symm), ih]; simp [h, lastAt]
theorem mapD_le (ps : List P3) : Maps.size (mapD ps) ≤ ps.length := by
  induction ps using snocRec with
  | nil => exact Nat.le_refl _
  | snoc ps x ih => rw [mapD_snoc, size_put (mapD_tidy ps)]; simp; split <;> omega
/-- As many entries as stores just where no id was stored twice. -/
theorem mapD_size (ps : List P3) : Maps.size (mapD ps) = ps.length ↔ (ps.map (·.1)).Nodup := by
  induction ps using snocRec with
  | nil => simp [mapD, Maps.size]
  | snoc ps x ih =>
    rw [mapD_snoc, size_put (mapD_tidy ps), mapD_has]
    have hle := mapD_le ps
    rw [List.map_append, List.nodup_append, List.length_append]
    by_cases h : ps.any (fun y => decide (y.1 = x.1)) = true
    · rw [if_pos h]
      constructor
      · intro e; simp at e; omega
      · rintro ⟨-, -, h3⟩
        obtain ⟨y, hy, e⟩ := List.any_eq_true.1 h
        exact absurd (of_decide_eq_true e) (h3 y.1 (List.mem_map.2 ⟨y, hy, rfl⟩) x.1 (by simp))
    · rw [if_neg h]
      constructor
      · intro e
        refine ⟨ih.1 (by simp at e; omega), by simp, ?_⟩
        intro a ha b hb e2
        obtain ⟨y, hy, rfl⟩ := List.mem_map.1 ha
        simp at hb
        exact h (List.any_eq_true.2 ⟨y, hy, by simp [e2, hb]⟩)
      · rintro ⟨h1, -, -⟩
        rw [ih.2 h1]; simp

/-- The stores of a level, and of levels. -/
def rowP (i : Int) (k : Int) : List R → List P3
  | [] => []
  | r :: t => (r.id, i, k) :: rowP i (k + 1) t
def flatP (i : Int) : List L → List P3
  | [] => []
  | l :: t => rowP i 0 l.rests ++ flatP (i + 1) t
theorem rowP_snoc (i k : Int) (zs : List R) (r : R) : rowP i k (zs ++ [r]) = rowP i k zs ++ [(r.id, i, k + zs.length)] := by
  induction zs generalizing k with
  | nil => simp [rowP]
  | cons x t ih =>
    simp only [List.cons_append, rowP, ih, List.length_cons]
    rw [show k + 1 + (t.length : Int) = k + ((t.length + 1 : Nat) : Int) by omega]
theorem flatP_snoc (i : Int) (ls : List L) (l : L) : flatP i (ls ++ [l]) = flatP i ls ++ rowP (i + ls.length) 0 l.rests := by
  induction ls generalizing i with
  | nil => simp [flatP]
  | cons x t ih =>
    simp only [List.cons_append, flatP, ih, List.length_cons, List.append_assoc]
    rw [show i + 1 + (t.length : Int) = i + ((t.length + 1 : Nat) : Int) by omega]
theorem rowP_len (i k : Int) (zs : List R) : (rowP i k zs).length = zs.length := by
  induction zs generalizing k with
  | nil => rfl
  | cons x t ih => simp [rowP, ih]
theorem flatP_len (i : Int) (ls : List L) : ((flatP i ls).length : Int) = cnt ls := by
  induction ls generalizing i with
  | nil => rfl
  | cons x t ih => simp only [flatP, List.length_append, rowP_len, cnt, ← ih (i + 1)]; omega
theorem rowP_ids (i k : Int) (zs : List R) : (rowP i k zs).map (·.1) = zs.map (·.id) := by
  induction zs generalizing k with
  | nil => rfl
  | cons x t ih => simp [rowP, ih]
theorem flatP_ids (i : Int) (ls : List L) : (flatP i ls).map (·.1) = (ls.flatMap (·.rests)).map (·.id) := by
  induction ls generalizing i with
  | nil => rfl
  | cons x t ih => simp only [flatP, List.map_append, rowP_ids, ih, List.flatMap_cons]
end Go.Proofs.Ytnjpjieedgmffaa.sid
