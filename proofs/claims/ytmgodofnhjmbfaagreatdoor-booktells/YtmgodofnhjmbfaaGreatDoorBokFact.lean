/- Plain facts: what an Add that went well gives. Plain facts on a book behind a Put that went well. No walk. -/
import Derived.Test.YtmgodofnhjmbfaaGreatDoorSidAdd
import Derived.Test.YtmgodofnhjmbfaaGreatDoorQueCat
import Derived.Test.YtmgodofnhjmbfaaGreatDoorSidDL
import Derived.Test.YtmgodofnhjmbfaaGreatDoorBokPut2
import Derived.Test.YtmgodofnhjmbfaaGreatDoorBokFind
namespace Go.Proofs.YtmgodofnhjmbfaaGreatDoor.sid
open Go.RowKit Go.Proofs.YtmgodofnhjmbfaaGreatDoor.spn Go.Proofs.YtmgodofnhjmbfaaGreatDoor.que Go.Maps
open Go.Proofs.YtmgodofnhjmbfaaGreatDoor.tickP (priceB sideB)

theorem add_zero {s : Int} {ls : List L} {p : Int} {r : R} (h : addE s ls p r = 0) : schk s ls = 0 ∧ priceB p = true ∧ rchk r = 0 ∧ r.id ∉ ids ls ∧ cnt ls ≠ 60 := by
  unfold addE at h
  by_cases h0 : schk s ls = 0
  · rw [if_pos h0] at h
    by_cases h1 : priceB p = true
    · rw [if_pos h1] at h
      by_cases h2 : rchk r = 0
      · rw [if_pos h2] at h
        by_cases h3 : r.id ∈ ids ls
        · rw [if_pos h3] at h; cases h
        · rw [if_neg h3] at h
          by_cases h4 : cnt ls = 60
          · rw [if_pos h4] at h; cases h
          · exact ⟨h0, h1, h2, h3, h4⟩
      · rw [if_neg h2] at h; exact absurd h h2
    · rw [if_neg h1] at h; cases h
  · rw [if_neg h0] at h; exact absurd h h0
/-- What an Add that went well gives. -/
theorem add_facts {s : Int} {ls : List L} {p : Int} {r : R} (h : addE s ls p r = 0) : schk s (putL s p r ls) = 0 ∧ ∃ i k : Nat, i < (putL s p r ls).length ∧ (putL s p r ls)[i]!.price = p ∧ k + 1 = (putL s p r ls)[i]!.rests.length ∧ (putL s p r ls)[i]!.rests[k]! = r ∧
    findE s (putL s p r ls) r.id = 0 ∧ findP s (putL s p r ls) r.id = ((i : Int), (k : Int)) ∧ dropL (putL s p r ls) i k = ls := by
  obtain ⟨h0, h1, h2, h3, h4⟩ := add_zero h
  obtain ⟨z1, z2, z3, z4⟩ := schk_zero h0
  have hs := schk_put h0 h1 h2 h3 (by omega)
  obtain ⟨y1, y2, y3, y4⟩ := schk_zero hs
  obtain ⟨i, k, hi, hk, e1, e2, e3, e4⟩ := drop_put (s := s) (p := p) (r := r) (ls := ls) (sgo_each z2)
  have hl := last_at y4 hi hk
  rw [e2] at hl
  have hf : findE s (putL s p r ls) r.id = 0 := by unfold findE; rw [if_pos hs, hl]; rfl
  refine ⟨hs, i, k, hi, by rw [getE _ _ hi]; exact e1, by rw [getE _ _ hi]; exact e3, by rw [getE _ _ hi, getE _ _ hk]; exact e2, hf, ?_, e4⟩
  unfold findP; rw [if_pos hf, hl]; rfl
end Go.Proofs.YtmgodofnhjmbfaaGreatDoor.sid
namespace Go.Proofs.YtmgodofnhjmbfaaGreatDoor.bok
open Go.RowKit Go.Proofs.YtmgodofnhjmbfaaGreatDoor.spn Go.Proofs.YtmgodofnhjmbfaaGreatDoor.que Go.Proofs.YtmgodofnhjmbfaaGreatDoor.sid
open Go.Proofs.YtmgodofnhjmbfaaGreatDoor.tickP (priceB sideB)

theorem put_zero {bs ss : List L} {s p : Int} {r : R} (h : putE bs ss s p r = 0) : bookE bs ss = 0 ∧ addE s (if s = 1 then bs else ss) p r = 0 ∧ bookE (put1 bs s p r) (put2 ss s p r) = 0 := by
  unfold putE at h
  by_cases h0 : bookE bs ss = 0
  · rw [if_pos h0] at h
    by_cases h1 : addE s (if s = 1 then bs else ss) p r = 0
    · rw [if_pos h1] at h; exact ⟨h0, h1, h⟩
    · rw [if_neg h1] at h; exact absurd h h1
  · rw [if_neg h0] at h; exact absurd h h0
theorem put_side {bs ss : List L} {s p : Int} {r : R} (h : putE bs ss s p r = 0) : s = 1 ∨ s = 2 := by
  have := (schk_zero (add_zero (put_zero h).2.1).1).1
  simpa [sideB] using this
theorem top_apart {bs ss : List L} (h : bookE bs ss = 0) : bestI bs = 0 ∨ bestI ss = 0 ∨ bestI bs < bestI ss := by
  obtain ⟨-, -, hx, -, -⟩ := book_zero h
  cases bs with
  | nil => exact .inl rfl
  | cons x t =>
    cases ss with
    | nil => exact .inr (.inl rfl)
    | cons y u =>
      right; right
      unfold crossB at hx
      simp at hx
      omega
/-- What is known of a book behind a Put that went well, on the side at which it came. -/
structure Held (S : Int) (X bs : List L) (p : Int) (r : R) (i k : Nat) : Prop where
  hi : i < X.length
  hk : k < X[i].rests.length
  price : X[i].price = p
  rest : X[i].rests[k] = r
  fe : findE S X r.id = 0
  fp : findP S X r.id = ((i : Int), (k : Int))
  drop : dropL X i k = bs
theorem held_of {s p : Int} {r : R} {ls : List L} (h : addE s ls p r = 0) : ∃ i k, Held s (putL s p r ls) ls p r i k := by
  obtain ⟨hs, i, k, hi, e1, e2, e3, e4, e5, e6⟩ := add_facts h
  have hk : k < (putL s p r ls)[i].rests.length := by rw [getE _ _ hi] at e2; omega
  refine ⟨i, k, hi, hk, by rw [getE _ _ hi] at e1; exact e1, ?_, e4, e5, e6⟩
  rw [getE _ _ hi, getE _ _ hk] at e3
  exact e3
theorem count_put (s p : Int) (r : R) (a ls : List L) : (allR a ++ allR (putL s p r ls)).length = (allR a ++ allR ls).length + 1 ∧ (allR (putL s p r ls) ++ allR a).length = (allR ls ++ allR a).length + 1 := by
  have := (put_perm s p r ls).length_eq
  simp only [List.length_append, this, List.length_cons]
  omega
/-- An id that is among the Sells is not among the Buys. -/
theorem not_buy {bs ss : List L} (h : bookE bs ss = 0) {i k : Nat} (hi : i < ss.length) (hk : k < ss[i].rests.length) : findE 1 bs ss[i].rests[k].id = 5 := by
  obtain ⟨h1, -, -, ht, -⟩ := book_zero h
  unfold twiceB at ht
  simp only [decide_eq_false_iff_not, Classical.not_not] at ht
  rw [List.map_append, List.nodup_append] at ht
  have hm : ss[i].rests[k] ∈ allR ss := List.mem_flatMap.2 ⟨ss[i], List.getElem_mem hi, List.getElem_mem hk⟩
  have hn : ss[i].rests[k].id ∉ ids bs := fun e => by
    rw [ids_allR] at e
    exact ht.2.2 _ e _ (List.mem_map.2 ⟨_, hm, rfl⟩) rfl
  have : lastAt (flatP 0 bs) ss[i].rests[k].id = none := by
    cases hl : lastAt (flatP 0 bs) ss[i].rests[k].id with
    | none => rfl
    | some t => exact absurd (id_ids.2 (by rw [hl]; simp)) hn
  unfold findE
  rw [if_pos h1, this]
  rfl
end Go.Proofs.YtmgodofnhjmbfaaGreatDoor.bok
