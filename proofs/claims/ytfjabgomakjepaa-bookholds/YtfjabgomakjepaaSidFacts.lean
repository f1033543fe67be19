/- Plain facts: what an Add that went well gives. -/
import Derived.Test.YtfjabgomakjepaaSidDrop3
namespace Go.Proofs.Ytfjabgomakjepaa.sid
open Go.RowKit Go.Proofs.Ytfjabgomakjepaa.spn Go.Proofs.Ytfjabgomakjepaa.que Go.Maps
open Go.Proofs.Ytfjabgomakjepaa.tickP (priceB sideB)

theorem add_zero {s : Int} {ls : List L} {p : Int} {r : R} (h : addE s ls p r = 0) : schk s ls = 0 ∧ priceB p = true ∧ rchk r = 0 ∧ r.id ∉ ids ls ∧ cnt ls ≠ 60 := by
  unfold addE at h
  by_cases h0 : schk s ls = 0
  · rw [if_pos h0] at h
    by_cases h1 : priceB p = true
    · rw [if_pos h1] at h
      by_cases h2 : rchk r = 0
      · rw [if_pos h2] at h
        by_cases h3 : r.id ∈ ids ls
        · rw [if_pos h3] at h; cases h
        · rw [if_neg h3] at h
          by_cases h4 : cnt ls = 60
          · rw [if_pos h4] at h; cases h
          · exact ⟨h0, h1, h2, h3, h4⟩
      · rw [if_neg h2] at h; exact absurd h h2
    · rw [if_neg h1] at h; cases h
  · rw [if_neg h0] at h; exact absurd h h0
/-- What an Add that went well gives. -/
theorem add_facts {s : Int} {ls : List L} {p : Int} {r : R} (h : addE s ls p r = 0) : schk s (putL s p r ls) = 0 ∧ ∃ i k : Nat, i < (putL s p r ls).length ∧ (putL s p r ls)[i]!.price = p ∧ k + 1 = (putL s p r ls)[i]!.rests.length ∧ (putL s p r ls)[i]!.rests[k]! = r ∧
    findE s (putL s p r ls) r.id = 0 ∧ findP s (putL s p r ls) r.id = ((i : Int), (k : Int)) ∧ dropL (putL s p r ls) i k = ls := by
  obtain ⟨h0, h1, h2, h3, h4⟩ := add_zero h
  obtain ⟨z1, z2, z3, z4⟩ := schk_zero h0
  have hs := schk_put h0 h1 h2 h3 (by omega)
  obtain ⟨y1, y2, y3, y4⟩ := schk_zero hs
  obtain ⟨i, k, hi, hk, e1, e2, e3, e4⟩ := drop_put (s := s) (p := p) (r := r) (ls := ls) (sgo_each z2)
  have hl := last_at y4 hi hk
  rw [e2] at hl
  have hf : findE s (putL s p r ls) r.id = 0 := by unfold findE; rw [if_pos hs, hl]; rfl
  refine ⟨hs, i, k, hi, by rw [getE _ _ hi]; exact e1, by rw [getE _ _ hi]; exact e3, by rw [getE _ _ hi, getE _ _ hk]; exact e2, hf, ?_, e4⟩
  unfold findP; rw [if_pos hf, hl]; rfl
end Go.Proofs.Ytfjabgomakjepaa.sid
