/- Plain facts of BookTells. -/
import Derived.Test.YtmgodofnhjmbfaaGreatDoorBTBad
import Derived.Test.YtmgodofnhjmbfaaGreatDoorSidLay
namespace Go.Proofs.YtmgodofnhjmbfaaGreatDoor.bokt
open Go.RowKit Go.Proofs.YtmgodofnhjmbfaaGreatDoor.que Go.Proofs.YtmgodofnhjmbfaaGreatDoor.sid Go.Proofs.YtmgodofnhjmbfaaGreatDoor.bok Go.Proofs.YtmgodofnhjmbfaaGreatDoor.kin
open Go.Proofs.YtmgodofnhjmbfaaGreatDoor.tickP (priceB sideB)

theorem lchk_mk {l : L} (hp : 1 ≤ l.price ∧ l.price ≤ 10000) (hne : l.rests ≠ []) (hq : qchk l.rests = 0) : lchk l = 0 := by
  unfold lchk
  rw [if_pos (by unfold priceB; simp only [Bool.and_eq_true, decide_eq_true_eq]; exact hp), if_neg hne, hq]
theorem drop_lv {ls : List L} {i k : Nat} (h : ∀ l ∈ ls, lchk l = 0) (hi : i < ls.length) (hk : k < ls[i].rests.length) : ∀ l ∈ dropL ls i k, lchk l = 0 := by
  intro l hl
  unfold dropL at hl
  rw [getE _ _ hi] at hl
  by_cases h1 : ls[i].rests.length = 1
  · rw [if_pos h1] at hl
    exact h l ((List.eraseIdx_sublist ls i).subset hl)
  · rw [if_neg h1] at hl
    rcases List.mem_or_eq_of_mem_set hl with hm | rfl
    · exact h l hm
    · obtain ⟨z1, z2, z3⟩ := lchk_zero (h ls[i] (List.getElem_mem hi))
      obtain ⟨z4, z5, z6⟩ := (qchk_zero _).1 z3
      have hs := List.eraseIdx_sublist ls[i].rests k
      refine lchk_mk z1 ?_ ((qchk_zero _).2 ⟨Nat.le_trans hs.length_le z4, fun r hr => z5 r (hs.subset hr), z6.sublist (hs.map _)⟩)
      intro e
      have := congrArg List.length e
      rw [List.length_eraseIdx_of_lt hk] at this
      simp at this
      omega
theorem put_noside {bs ss : List L} {s p : Int} {r : R} (h0 : bookE bs ss = 0) (hs : sideB s = false) : putE bs ss s p r = 1 := by
  unfold putE
  have ha : addE s (if s = 1 then bs else ss) p r = 1 := by unfold addE; rw [schk_side hs, if_neg (by decide)]
  rw [if_pos h0, ha, if_neg (by decide)]
theorem side_or {s : Int} (h : sideB s = true) : s = 1 ∨ s = 2 := by
  unfold sideB at h
  simp only [Bool.or_eq_true, decide_eq_true_eq] at h
  exact h
theorem best_at {w : World} {q : Option Addr} {n c : Nat} {ls : List L} (h : LS w (.slice q n c) ls) (hne : ∀ l ∈ ls, l.rests ≠ []) : (n = 0 ∧ bestI ls = 0) ∨ (0 < n ∧ ∃ b o, q = some ⟨b, o, none⟩ ∧ w.cell? ⟨b, o, none⟩ = some (.int .i64 (bestI ls))) := by
  have hn := ls_len h
  cases ls with
  | nil => exact .inl ⟨hn, rfl⟩
  | cons l t =>
    right
    obtain ⟨b, o, rb, ro, rc, e1, -, e2, -⟩ := ls_at h hne (kk := 0) (by simp)
    refine ⟨by rw [hn]; simp, b, o, e1, ?_⟩
    simpa [bestI] using e2
theorem put_lv {bs ss : List L} {s p : Int} {r : R} (h : putE bs ss s p r = 0) : (∀ l ∈ put1 bs s p r, lchk l = 0) ∧ (∀ l ∈ put2 ss s p r, lchk l = 0) := book_lv (put_zero h).2.2
theorem count_sum {bs ss : List L} (h : bookE bs ss = 0) : wrap64 (cnt bs + cnt ss) = (((allR bs ++ allR ss).length : Nat) : Int) := by
  obtain ⟨e1, e2, -⟩ := book_zero h
  have h1 := allR_len e1
  have h2 := allR_len e2
  rw [cnt_allR, cnt_allR, List.length_append]
  unfold wrap64
  omega
end Go.Proofs.YtmgodofnhjmbfaaGreatDoor.bokt
