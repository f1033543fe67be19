/- Plain facts on those that wait: each is an order, no Id is there twice, twenty at most. -/
import Derived.Test.YtcfeailakljpnaaDoorWakWake
namespace Go.Proofs.YtcfeailakljpnaaDoor.wak
open Go.Proofs.YtcfeailakljpnaaDoor.ord Go.Sort

def Good (os : List O) : Prop := (∀ o ∈ os, chk o = 0) ∧ os.Pairwise (fun a b => a.id ≠ b.id) ∧ os.length ≤ 20
theorem good_nil : Good [] := ⟨fun _ ho => (List.not_mem_nil ho).elim, List.Pairwise.nil, Nat.zero_le _⟩
theorem idx_neg {id : Int} {zs : List O} (h : idx id zs < 0) : ∀ o ∈ zs, o.id ≠ id := by
  induction zs with
  | nil => intro o ho; cases ho
  | cons r t ih =>
    rw [idx_cons] at h
    by_cases h1 : r.id = id
    · rw [if_pos h1] at h; omega
    · rw [if_neg h1] at h
      by_cases h2 : idx id t < 0
      · intro o ho
        rcases List.mem_cons.1 ho with rfl | ho
        · exact h1
        · exact ih h2 o ho
      · rw [if_neg h2] at h; omega
theorem put_zero {os : List O} {o : O} (h : putE os o = 0) : chk o = 0 ∧ ¬ o.stop = 0 ∧ idx o.id os < 0 ∧ ¬ os.length = 20 := by
  unfold putE at h
  by_cases h1 : chk o = 0
  · rw [if_pos h1] at h
    by_cases h2 : o.stop = 0
    · rw [if_pos h2] at h; omega
    · rw [if_neg h2] at h
      by_cases h3 : 0 ≤ idx o.id os
      · rw [if_pos h3] at h; omega
      · rw [if_neg h3] at h
        by_cases h4 : os.length = 20
        · rw [if_pos h4] at h; omega
        · exact ⟨h1, h2, by omega, h4⟩
  · rw [if_neg h1] at h; exact absurd h h1
theorem good_put {os : List O} (h : Good os) (o : O) : Good (putL os o) := by
  unfold putL
  by_cases h0 : putE os o = 0
  · rw [if_pos h0]
    obtain ⟨h1, -, h3, h4⟩ := put_zero h0
    refine ⟨fun x hx => ?_, ?_, ?_⟩
    · rcases List.mem_append.1 hx with hx | hx
      · exact h.1 x hx
      · rw [List.mem_singleton.1 hx]; exact h1
    · rw [List.pairwise_append]
      exact ⟨h.2.1, List.pairwise_singleton _ _, fun a ha b hb => by rw [List.mem_singleton.1 hb]; exact idx_neg h3 a ha⟩
    · rw [List.length_append]
      have := h.2.2
      show os.length + 1 ≤ 20
      omega
  · rw [if_neg h0]; exact h
theorem chk_zst {o : O} (h : chk o = 0) : chk (zst o) = 0 := by
  obtain ⟨h1, h2, h3, h4, -⟩ := chk_zero h
  unfold chk
  rw [show headB (zst o) = headB o from rfl, show priceOkB (zst o) = priceOkB o from rfl, show qtyB (zst o) = qtyB o from rfl, show shapeB (zst o) = shapeB o from rfl, h1, h2, h3, h4]
  rfl
theorem chk_side {o : O} (h : chk o = 0) : o.side = 1 ∨ o.side = 2 := by
  obtain ⟨h1, -⟩ := chk_zero h
  unfold headB at h1
  simp only [Bool.and_eq_true, decide_eq_true_eq] at h1
  omega
theorem srt_mem {x : Int} {os : List O} {o : O} (h : o ∈ srt x os) : o ∈ os ∧ wkB x o = true := by
  have := (isort_perm (ltOf cf) (os.filter (wkB x))).mem_iff.1 h
  exact List.mem_filter.1 this
theorem woke_mem {x : Int} {os : List O} (hg : Good os) {o : O} (h : o ∈ woke x os) : chk o = 0 ∧ o.stop = 0 := by
  unfold woke at h
  obtain ⟨y, hy, rfl⟩ := List.mem_map.1 h
  exact ⟨chk_zst (hg.1 y (srt_mem hy).1), rfl⟩
theorem woke_ids {x : Int} {os : List O} (hg : Good os) : (woke x os).Pairwise (fun a b => a.id ≠ b.id) := by
  unfold woke
  rw [List.pairwise_map]
  show (srt x os).Pairwise (fun a b => a.id ≠ b.id)
  unfold srt
  refine (List.Perm.pairwise_iff (R := fun a b : O => a.id ≠ b.id) (fun h => Ne.symm h) (isort_perm _ _)).2 ?_
  exact hg.2.1.filter _
theorem left_mem {x : Int} {os : List O} (hg : Good os) {o : O} (h : o ∈ left x os) : chk o = 0 ∧ wkB x o = false := by
  unfold left at h
  have := List.mem_filter.1 h
  exact ⟨hg.1 o this.1, by simpa using this.2⟩
theorem woke_left (x : Int) (os : List O) : woke x (left x os) = [] := by
  unfold woke srt left
  rw [List.filter_filter, List.filter_eq_nil_iff.2 (by intro o _; simp)]
  rfl
theorem left_good {x : Int} {os : List O} (hg : Good os) : Good (left x os) := by
  unfold left
  exact ⟨fun o ho => hg.1 o (List.mem_filter.1 ho).1, hg.2.1.filter _, Nat.le_trans (List.length_filter_le _ _) hg.2.2⟩
theorem mem_at {l : List O} {k : Nat} (h : k < l.length) : l[k]! ∈ l := by rw [getE _ _ h]; exact List.getElem_mem h
theorem ids_at {l : List O} (h : l.Pairwise (fun a b => a.id ≠ b.id)) {k i : Nat} (hk : k < i) (hi : i < l.length) : l[k]!.id ≠ l[i]!.id := by
  rw [getE _ _ (by omega), getE _ _ hi]
  exact (List.pairwise_iff_getElem.1 h) k i (by omega) hi hk
/-- What lies where an order of a slice does. -/
theorem sl_at {w : World} {q : Option Addr} {n c : Nat} {zs : List O} (h : SL w (.slice q n c) zs) (hn : n = zs.length) {k : Nat} (hk : k < n) : ∃ g off, q = some ⟨g, off, none⟩ ∧ ∀ i v, (oL zs[k]!)[i]? = some v → w.cell? ⟨g, off + k * 8 + i, none⟩ = some v := by
  rcases h with ⟨h1, h2⟩ | ⟨g, off, cc, h1, h2, h3, h4, h5⟩
  · cases h1; omega
  · cases h1; exact ⟨g, off, rfl, h5 k (by omega)⟩
end Go.Proofs.YtcfeailakljpnaaDoor.wak
