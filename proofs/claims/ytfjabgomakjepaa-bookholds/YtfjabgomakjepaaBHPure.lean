/- Plain facts for the law BookHolds. -/
import Derived.Test.YtfjabgomakjepaaSidFacts
import Derived.Test.YtfjabgomakjepaaBokCancel
namespace Go.Proofs.Ytfjabgomakjepaa.bok
open Go.RowKit Go.Proofs.Ytfjabgomakjepaa.spn Go.Proofs.Ytfjabgomakjepaa.que Go.Proofs.Ytfjabgomakjepaa.sid
open Go.Proofs.Ytfjabgomakjepaa.tickP (priceB sideB)

theorem put_zero {bs ss : List L} {s p : Int} {r : R} (h : putE bs ss s p r = 0) : bookE bs ss = 0 ∧ addE s (if s = 1 then bs else ss) p r = 0 ∧ bookE (put1 bs s p r) (put2 ss s p r) = 0 := by
  unfold putE at h
  by_cases h0 : bookE bs ss = 0
  · rw [if_pos h0] at h
    by_cases h1 : addE s (if s = 1 then bs else ss) p r = 0
    · rw [if_pos h1] at h; exact ⟨h0, h1, h⟩
    · rw [if_neg h1] at h; exact absurd h h1
  · rw [if_neg h0] at h; exact absurd h h0
theorem put_side {bs ss : List L} {s p : Int} {r : R} (h : putE bs ss s p r = 0) : s = 1 ∨ s = 2 := by
  have := (schk_zero (add_zero (put_zero h).2.1).1).1
  simpa [sideB] using this
theorem top_apart {bs ss : List L} (h : bookE bs ss = 0) : bestI bs = 0 ∨ bestI ss = 0 ∨ bestI bs < bestI ss := by
  obtain ⟨-, -, hx, -, -⟩ := book_zero h
  cases bs with
  | nil => exact .inl rfl
  | cons x t =>
    cases ss with
    | nil => exact .inr (.inl rfl)
    | cons y u =>
      right; right
      unfold crossB at hx
      simp at hx
      omega
/-- What is known of a book behind a Put that went well, on the side at which it came. -/
structure Held (S : Int) (X bs : List L) (p : Int) (r : R) (i k : Nat) : Prop where
  hi : i < X.length
  hk : k < X[i].rests.length
  price : X[i].price = p
  rest : X[i].rests[k] = r
  fe : findE S X r.id = 0
  fp : findP S X r.id = ((i : Int), (k : Int))
  drop : dropL X i k = bs
theorem held_of {s p : Int} {r : R} {ls : List L} (h : addE s ls p r = 0) : ∃ i k, Held s (putL s p r ls) ls p r i k := by
  obtain ⟨hs, i, k, hi, e1, e2, e3, e4, e5, e6⟩ := add_facts h
  have hk : k < (putL s p r ls)[i].rests.length := by rw [getE _ _ hi] at e2; omega
  refine ⟨i, k, hi, hk, by rw [getE _ _ hi] at e1; exact e1, ?_, e4, e5, e6⟩
  rw [getE _ _ hi, getE _ _ hk] at e3
  exact e3
theorem count_put (s p : Int) (r : R) (a ls : List L) : (allR a ++ allR (putL s p r ls)).length = (allR a ++ allR ls).length + 1 ∧ (allR (putL s p r ls) ++ allR a).length = (allR ls ++ allR a).length + 1 := by
  have := (put_perm s p r ls).length_eq
  simp only [List.length_append, this, List.length_cons]
  omega
/-- An id that is among the Sells is not among the Buys. -/
theorem not_buy {bs ss : List L} (h : bookE bs ss = 0) {i k : Nat} (hi : i < ss.length) (hk : k < ss[i].rests.length) : findE 1 bs ss[i].rests[k].id = 5 := by
  obtain ⟨h1, -, -, ht, -⟩ := book_zero h
  unfold twiceB at ht
  simp only [decide_eq_false_iff_not, Classical.not_not] at ht
  rw [List.map_append, List.nodup_append] at ht
  have hm : ss[i].rests[k] ∈ allR ss := List.mem_flatMap.2 ⟨ss[i], List.getElem_mem hi, List.getElem_mem hk⟩
  have hn : ss[i].rests[k].id ∉ ids bs := fun e => by
    rw [ids_allR] at e
    exact ht.2.2 _ e _ (List.mem_map.2 ⟨_, hm, rfl⟩) rfl
  have : lastAt (flatP 0 bs) ss[i].rests[k].id = none := by
    cases hl : lastAt (flatP 0 bs) ss[i].rests[k].id with
    | none => rfl
    | some t => exact absurd (id_ids.2 (by rw [hl]; simp)) hn
  unfold findE
  rw [if_pos h1, this]
  rfl
theorem fact_zero : putE [] [] 2 100 ⟨1, 1, 5, 0, 0⟩ = 0 := by decide
/-- What the first Put of the law gives. -/
theorem fact_any (w : World) : Calls Try.prog 10 #[.agg #[.slice none 0 0, .slice none 0 0], .int .i64 2, .int .i64 100, .agg #[.int .i64 1, .int .i64 1, .int .i64 5, .int .i64 0, .int .i64 0]] w fun x w' => ∃ u1 u2 d1 d2, x = .returned (.tuple #[.agg #[.slice u1 0 d1, .slice u2 1 d2], .nilIface]) ∧ Below w.heap.size w w' :=
  (put_any 2 100 none none 0 0 0 0 1 1 5 0 0 [] [] w (ls_nil _) (ls_nil _)).mono fun x w' h => by
    obtain ⟨u1, u2, m1, m2, d1, d2, g1, g2, g3, g4⟩ := h
    rw [fact_zero, errV_zero] at g1
    rw [if_pos fact_zero] at g2 g3
    have e1 := ls_len g2
    have e2 := ls_len g3
    have e3 : m1 = 0 := e1
    have e4 : m2 = 1 := e2
    rw [e3, e4] at g1
    exact ⟨u1, u2, d1, d2, g1, g4⟩
end Go.Proofs.Ytfjabgomakjepaa.bok
