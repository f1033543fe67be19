/- Plain facts: where a visit stands between two parts of it. No walk. -/
import Derived.Test.YtalhdjlopkdnbaaGreatDoorSelMem
namespace Go.Proofs.YtalhdjlopkdnbaaGreatDoor.slf
open Go.RowKit Go.Proofs.YtalhdjlopkdnbaaGreatDoor.spn Go.Proofs.YtalhdjlopkdnbaaGreatDoor.que Go.Proofs.YtalhdjlopkdnbaaGreatDoor.sid Go.Proofs.YtalhdjlopkdnbaaGreatDoor.bok Go.Proofs.YtalhdjlopkdnbaaGreatDoor.mee
open Go.Proofs.YtalhdjlopkdnbaaGreatDoor.ord (O mB chk)

/-- A visit that is over. -/
def Fin (v : V) (X : List L) (ts : List T) (ids : List Int) (left gone : Int) : Prop :=
  v.ls = X ∧ v.ts = ts ∧ v.ids = ids ∧ left = (if v.ends = true then 0 else v.left) ∧ gone = (if v.ends = true then v.left else 0)
def Link (m : Int) (o : O) (v : V) (X : List L) (ts : List T) (ids : List Int) (left gone : Int) : Prop :=
  (0 < left ∧ gone = 0 ∧ ∃ u, Fine m o X left u ∧ v = ⟨u.ls, ts ++ u.ts, u.left, u.ends, ids ++ u.ids⟩) ∨ (left = 0 ∧ Fin v X ts ids left gone)
def dropX (m p : Int) (r : R) (rs : List R) (t : List L) : List L := if m = 1 then ⟨p, r :: rs⟩ :: t else stepL p rs t
def dropI (m : Int) (ids : List Int) (id : Int) : List Int := if m = 1 then ids else ids ++ [id]
def dropLf (m left : Int) : Int := if m = 2 then left else 0
def dropGn (m gone left : Int) : Int := if m = 2 then gone else left

theorem link_first {m : Int} {o : O} {v : V} {X : List L} {k : Int} (h : Fine m o X k v) (hk : 0 < k) : Link m o v X [] [] k 0 := .inl ⟨hk, rfl, v, h, by simp⟩
theorem link_round {m : Int} {o : O} {v : V} {X : List L} {ts : List T} {ids : List Int} {left gone : Int} (hm : m = 1 ∨ m = 2 ∨ m = 3) (h : Link m o v X ts ids left gone) (hp : 0 < left) (hl : ∀ l ∈ X, lchk l = 0) :
    gone = 0 ∧ (tkl o X (min (aheadR o X).1 left)).2.2 = 0 ∧ 0 ≤ (aheadR o X).1 ∧
    (¬ (ts ++ (tkl o X (min (aheadR o X).1 left)).2.1).length ≤ 400 → ¬ v.ts.length ≤ 400) ∧
    ((left - min (aheadR o X).1 left = 0 ∨ (aheadR o X).2 = 0) → Fin v (tkl o X (min (aheadR o X).1 left)).1 (ts ++ (tkl o X (min (aheadR o X).1 left)).2.1) ids (left - min (aheadR o X).1 left) 0) ∧
    (¬ left - min (aheadR o X).1 left = 0 → ¬ (aheadR o X).2 = 0 → ∃ p r rs t, (tkl o X (min (aheadR o X).1 left)).1 = ⟨p, r :: rs⟩ :: t ∧ r.id = (aheadR o X).2 ∧
      Link m o v (dropX m p r rs t) (ts ++ (tkl o X (min (aheadR o X).1 left)).2.1) (dropI m ids r.id) (dropLf m (left - min (aheadR o X).1 left)) (dropGn m 0 (left - min (aheadR o X).1 left))) := by
  rcases h with ⟨-, hg, u, hu, hv⟩ | ⟨h0, -⟩
  rotate_left
  · omega
  have hA := (ahead_le (o := o) X hl).1
  obtain ⟨c1, c2, c3⟩ := coarse (m := m) (o := o) left.toNat X left (by omega) hp hl
  have hql : min (aheadR o X).1 left ≤ left ∧ 0 ≤ min (aheadR o X).1 left := by omega
  generalize hQ : min (aheadR o X).1 left = q at *
  have hTL : ∀ l ∈ (tkl o X q).1, lchk l = 0 := tkl_good hql.2 hl
  generalize hTK : tkl o X q = TK at *
  obtain ⟨R, hR⟩ := fine_ex (o := o) (k := left - q) hm hTL
  have hu2 := fine_det hu _ (c2 R hR)
  subst hu2
  refine ⟨hg, c1, hA, fun h => ?_, fun h => ?_, fun h1 h2 => ?_⟩
  · rw [hv]
    simp only [List.length_append] at h ⊢
    omega
  · have hR2 : R = ⟨TK.1, [], left - q, false, []⟩ := by
      by_cases h0 : left - q ≤ 0
      · exact fine_det (Fine.done h0) _ hR
      · have h2 : (aheadR o X).2 = 0 := by rcases h with h | h; omega; exact h
        exact fine_det (Fine.stop ((c3 (by omega)).1 h2)) _ hR
    rw [hv, hR2]
    simp [Fin]
  · obtain ⟨p, r, rs, t, e1, e2, e3, e4⟩ := (c3 (by omega)).2 h2
    refine ⟨p, r, rs, t, e1, e4, ?_⟩
    have hk : 0 < left - q := by omega
    rw [e1] at hR
    rcases hm with rfl | rfl | rfl
    · have hR2 := fine_det (Fine.taker hk e2 e3 rfl) _ hR
      refine .inr ⟨rfl, ?_⟩
      rw [hv, hR2]
      simp [Fin, dropX, dropI, dropLf, dropGn]
    · cases hR with
      | done h => omega
      | stop h => have := h _ _ rfl; simp only [] at this; rw [e2] at this; cases this
      | taker _ _ _ h => omega
      | both _ _ _ h => omega
      | fill _ _ h => exact absurd e3 h
      | maker _ _ _ _ h =>
        refine .inl ⟨by simp [dropLf]; omega, by simp [dropGn], _, by simpa [dropX, dropLf] using h, ?_⟩
        rw [hv]
        simp [dropI]
    · have hR2 := fine_det (Fine.both hk e2 e3 rfl) _ hR
      refine .inr ⟨rfl, ?_⟩
      rw [hv, hR2]
      simp [Fin, dropX, dropI, dropLf, dropGn]
theorem link_end {m : Int} {o : O} {v : V} {X : List L} {ts : List T} {ids : List Int} {left gone : Int} (h : Link m o v X ts ids left gone) (hp : ¬ 0 < left) : Fin v X ts ids left gone := by
  rcases h with ⟨h0, -⟩ | ⟨-, h⟩
  · omega
  · exact h
theorem dropX_less {m p : Int} {r : R} {rs : List R} {t : List L} (hl : ∀ l ∈ (⟨p, r :: rs⟩ :: t : List L), lchk l = 0) : Less (⟨p, r :: rs⟩ :: t) (dropX m p r rs t) := by
  unfold dropX
  split
  · exact Less.refl _
  · exact less_out hl
theorem dropX_good {m p : Int} {r : R} {rs : List R} {t : List L} (hl : ∀ l ∈ (⟨p, r :: rs⟩ :: t : List L), lchk l = 0) : ∀ l ∈ dropX m p r rs t, lchk l = 0 := by
  unfold dropX
  split
  · exact hl
  · exact out_good hl
theorem dropX_count {p : Int} {r : R} {rs : List R} {t : List L} : (allR (dropX 2 p r rs t)).length + 1 = (allR (⟨p, r :: rs⟩ :: t)).length := by
  unfold dropX
  rw [if_neg (by decide), step_count, allR_cons]
  simp only [List.length_append, List.length_cons]
  omega
theorem dropI_len {m : Int} {ids : List Int} {id : Int} : (dropI m ids id).length ≤ ids.length + 1 := by
  unfold dropI
  split
  · omega
  · simp
end Go.Proofs.YtalhdjlopkdnbaaGreatDoor.slf
