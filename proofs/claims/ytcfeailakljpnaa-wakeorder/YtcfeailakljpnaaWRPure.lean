/- Plain facts of WakeOrder: orders of Buy that come one by one, and the order in which they wake. -/
import Derived.Test.YtcfeailakljpnaaWOPure
namespace Go.Proofs.Ytcfeailakljpnaa.wak
open Go.Proofs.Ytcfeailakljpnaa.ord Go.Sort

/-- The order that the law puts. -/
def od (k : Nat) (s : Int) : O := ⟨(k : Int) + 1, 1, 1, 2, 0, 1, 0, s⟩
def mk (l : List Int) : Nat → List O
  | 0 => []
  | k + 1 => mk l k ++ (if 1 ≤ l[k]! ∧ l[k]! ≤ 5000 then [od k l[k]!] else [])
theorem mk_len (l : List Int) (k : Nat) : (mk l k).length ≤ k := by
  induction k with
  | zero => exact Nat.le_refl _
  | succ k ih =>
    unfold mk
    rw [List.length_append]
    split
    · show _ + 1 ≤ _; omega
    · show _ + 0 ≤ _; omega
theorem mk_mem {l : List Int} {k : Nat} {o : O} (h : o ∈ mk l k) : ∃ j, j < k ∧ o = od j l[j]! ∧ 1 ≤ l[j]! ∧ l[j]! ≤ 5000 := by
  induction k with
  | zero => cases h
  | succ k ih =>
    unfold mk at h
    rcases List.mem_append.1 h with h | h
    · obtain ⟨j, hj, h2⟩ := ih h
      exact ⟨j, by omega, h2⟩
    · split at h
      · rename_i hc
        rw [List.mem_singleton] at h
        exact ⟨k, by omega, h, hc⟩
      · cases h
theorem mk_pw (l : List Int) (k : Nat) : (mk l k).Pairwise (fun a b => a.id < b.id) := by
  induction k with
  | zero => exact List.Pairwise.nil
  | succ k ih =>
    unfold mk
    rw [List.pairwise_append]
    refine ⟨ih, ?_, fun a ha b hb => ?_⟩
    · split
      · exact List.pairwise_singleton _ _
      · exact List.Pairwise.nil
    · obtain ⟨j, hj, rfl, -⟩ := mk_mem ha
      split at hb
      · rw [List.mem_singleton] at hb
        subst hb
        show (j : Int) + 1 < (k : Int) + 1
        omega
      · cases hb
theorem idx_none {id : Int} {zs : List O} (h : ∀ o ∈ zs, o.id ≠ id) : idx id zs < 0 := by
  induction zs with
  | nil => show (-1 : Int) < 0; omega
  | cons r t ih =>
    rw [idx_cons, if_neg (h r List.mem_cons_self), if_pos (ih fun o ho => h o (List.mem_cons_of_mem _ ho))]
    omega
theorem od_chk {k : Nat} {s : Int} (hk : k < 20) (hs : 1 ≤ s ∧ s ≤ 5000) : chk (od k s) = 0 := by
  have h1 : headB (od k s) = true := by
    unfold headB od
    simp only [Bool.and_eq_true, decide_eq_true_eq]
    omega
  have h2 : stopB (od k s) = true := by
    unfold stopB prB od
    simp only [Bool.or_eq_true, Bool.and_eq_true, decide_eq_true_eq]
    omega
  unfold chk
  rw [h1, h2, show priceOkB (od k s) = true from rfl, show qtyB (od k s) = true from rfl, show shapeB (od k s) = true from rfl]
  rfl
theorem mk_put {l : List Int} {k : Nat} {s : Int} (hk : k < 20) (hs : 1 ≤ s ∧ s ≤ 5000) : putE (mk l k) (od k s) = 0 := by
  unfold putE
  rw [if_pos (od_chk hk hs), if_neg (show ¬ (od k s).stop = 0 from fun e => by have : s = 0 := e; omega), if_neg ?_, if_neg ?_]
  · have := mk_len l k; omega
  · have := idx_none (id := (k : Int) + 1) (zs := mk l k) fun o ho => by
      obtain ⟨j, hj, rfl, -⟩ := mk_mem ho
      show (j : Int) + 1 ≠ (k : Int) + 1
      omega
    show ¬ 0 ≤ idx ((k : Int) + 1) (mk l k)
    omega
theorem mk_wk {l : List Int} {k : Nat} {o : O} (h : o ∈ mk l k) : wkB 5000 o = true := by
  obtain ⟨j, hj, rfl, h1, h2⟩ := mk_mem h
  unfold wkB
  rw [if_pos (show (od j l[j]!).side = 1 from rfl)]
  exact decide_eq_true h2
theorem mk_filter (l : List Int) (k : Nat) : (mk l k).filter (wkB 5000) = mk l k := List.filter_eq_self.2 fun _ h => mk_wk h
theorem mk_left (l : List Int) (k : Nat) : left 5000 (mk l k) = [] := by
  unfold left
  exact List.filter_eq_nil_iff.2 fun o h => by rw [mk_wk h]; decide
theorem mk_woke_len (l : List Int) (k : Nat) : (woke 5000 (mk l k)).length = (mk l k).length := by rw [woke_len, mk_filter]
theorem woke_get (l : List Int) (k i : Nat) (h : i < (mk l k).length) : (woke 5000 (mk l k))[i]! = zst (srt 5000 (mk l k))[i]! := by
  have h1 : i < (srt 5000 (mk l k)).length := by rw [srt_len, mk_filter]; exact h
  have h2 : i < (woke 5000 (mk l k)).length := by rw [mk_woke_len]; exact h
  rw [getE _ _ h2, getE _ _ h1]
  exact List.getElem_map zst
/-- Who woke at a place. -/
theorem woke_at (l : List Int) (k i : Nat) (h : i < (mk l k).length) : ∃ j, j < k ∧ (woke 5000 (mk l k))[i]!.id = (j : Int) + 1 := by
  have h1 : i < (srt 5000 (mk l k)).length := by rw [srt_len, mk_filter]; exact h
  obtain ⟨j, hj, he, -⟩ := mk_mem (srt_mem (mem_at h1)).1
  refine ⟨j, hj, ?_⟩
  rw [woke_get l k i h, he]
  rfl
/-- Two that woke one behind the other. -/
theorem woke_two (l : List Int) (k i : Nat) (h : i + 1 < (mk l k).length) : ∃ a b, a < k ∧ b < k ∧ (woke 5000 (mk l k))[i]!.id = (a : Int) + 1 ∧ (woke 5000 (mk l k))[i + 1]!.id = (b : Int) + 1 ∧ (l[a]! < l[b]! ∨ (l[a]! = l[b]! ∧ a < b)) := by
  have hl : (srt 5000 (mk l k)).length = (mk l k).length := by rw [srt_len, mk_filter]
  have h1 : i < (srt 5000 (mk l k)).length := by omega
  have h2 : i + 1 < (srt 5000 (mk l k)).length := by omega
  obtain ⟨a, ha, ea, -⟩ := mk_mem (srt_mem (mem_at h1)).1
  obtain ⟨b, hb, eb, -⟩ := mk_mem (srt_mem (mem_at h2)).1
  have hp := isort_pw cf_swo (fun a b : O => a.id < b.id) ((mk l k).filter (wkB 5000)) ((mk_pw l k).filter _)
  have hr := (List.pairwise_iff_getElem.1 hp) i (i + 1) h1 h2 (by omega)
  have e1 : (isort (ltOf cf) ((mk l k).filter (wkB 5000)))[i]'h1 = od a l[a]! := by rw [← ea, getE _ _ h1]; rfl
  have e2 : (isort (ltOf cf) ((mk l k).filter (wkB 5000)))[i + 1]'h2 = od b l[b]! := by rw [← eb, getE _ _ h2]; rfl
  rw [e1, e2] at hr
  refine ⟨a, b, ha, hb, ?_, ?_, ?_⟩
  · rw [woke_get l k i (by omega), ea]; rfl
  · rw [woke_get l k (i + 1) h, eb]; rfl
  · unfold Rr at hr
    rw [lt_iff, lt_no] at hr
    generalize l[a]! = x at *
    generalize l[b]! = y at *
    rcases hr with hr | ⟨hr, ht⟩
    · simp only [od] at hr
      omega
    · have hr2 : ¬ y < x := fun e => hr (.inr ⟨rfl, .inl ⟨rfl, e⟩⟩)
      have ht2 : (a : Int) + 1 < (b : Int) + 1 := ht
      clear hr
      omega
theorem mk_good (l : List Int) (k : Nat) (h : k ≤ 20) : (mk l k).length ≤ 20 := Nat.le_trans (mk_len l k) h
end Go.Proofs.Ytcfeailakljpnaa.wak
