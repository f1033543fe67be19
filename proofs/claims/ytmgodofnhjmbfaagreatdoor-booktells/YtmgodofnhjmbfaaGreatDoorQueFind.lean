/- Contracts over this seat's translation: queue.find and queue.behind. -/
import Derived.Test.YtmgodofnhjmbfaaGreatDoorQueRest
namespace Go.Proofs.YtmgodofnhjmbfaaGreatDoor.que
open Go.RowKit Go.Proofs.YtmgodofnhjmbfaaGreatDoor.spn

/-- Rests lie in a block from an offset on. -/
def Lies (w : World) (b o : Nat) (zs : List R) : Prop := ∀ j, j < zs.length → ∀ i v, (rV zs[j]!)[i]? = some v → w.cell? ⟨b, o + j * 5 + i, none⟩ = some v
/-- A slice value that reads as a list of rests. -/
def SL (w : World) (v : Value) (zs : List R) : Prop :=
  (v = .slice none 0 0 ∧ zs = []) ∨ ∃ b o c, v = .slice (some ⟨b, o, none⟩) zs.length c ∧ zs.length ≤ c ∧ c ≤ 9223372036854775807 ∧ b < w.heap.size ∧ Lies w b o zs

theorem Lies.below {w w' : World} {b o : Nat} {zs : List R} (h : Lies w b o zs) (hb : b < w.heap.size) (hB : Below w.heap.size w w') : Lies w' b o zs :=
  fun j hj i v hv => (hB.cell (p := ⟨b, o + j * 5 + i, none⟩) hb).trans (h j hj i v hv)
theorem SL.below {w w' : World} {v : Value} {zs : List R} (h : SL w v zs) (hB : Below w.heap.size w w') : SL w' v zs := by
  rcases h with h | ⟨b, o, c, h1, h2, h3, h4, h5⟩
  · exact .inl h
  · exact .inr ⟨b, o, c, h1, h2, h3, Nat.lt_of_lt_of_le h4 hB.size, h5.below h4 hB⟩
theorem getE {α : Type} [Inhabited α] (l : List α) (j : Nat) (h : j < l.length) : l[j]! = l[j] := by simp [h]
theorem Lies.take {w : World} {b o : Nat} {zs : List R} (h : Lies w b o zs) (n : Nat) : Lies w b o (zs.take n) := by
  intro j hj i v hv
  have hj2 : j < n ∧ j < zs.length := by rw [List.length_take] at hj; omega
  have e : (zs.take n)[j]! = zs[j]! := by
    rw [getE _ _ hj, getE _ _ hj2.2, List.getElem_take]
  rw [e] at hv
  exact h j hj2.2 i v hv

theorem idxFrom (id : Int) (x : R) (zs : List R) : ∀ i, Lib.idxByFrom (fun _ y => decide (y.id = id)) x zs i = if idx id zs < 0 then -1 else (i : Int) + idx id zs := by
  induction zs with
  | nil => intro i; rfl
  | cons r t ih =>
    intro i
    have := idx_ge id t
    show (if decide (r.id = id) = true then (i : Int) else Lib.idxByFrom (fun _ y => decide (y.id = id)) x t (i + 1)) = _
    rw [ih, idx_cons]
    by_cases h : r.id = id
    · rw [if_pos (decide_eq_true h), if_pos h, if_neg (by omega), Int.add_zero]
    · rw [if_neg (by simpa using h), if_neg h]
      by_cases h2 : idx id t < 0
      · rw [if_pos h2, if_pos h2, if_pos (by omega)]
      · rw [if_neg h2, if_neg h2, if_neg (by omega)]; omega
theorem idxBy_is (id : Int) (x : R) (zs : List R) : Lib.idxBy (fun _ y => decide (y.id = id)) zs x = idx id zs := by
  have := idx_ge id zs
  unfold Lib.idxBy
  rw [idxFrom]
  split <;> omega

theorem find_pred (id : Int) (B : Nat) (w : World) (hB : B < w.heap.size) (hc : w.cell? ⟨B, 0, none⟩ = some (.int .i64 id)) :
    PredBelow Tryz.prog 113 #[.pointer (some ⟨B, 0, none⟩)] (fun x => .agg (rV x).toArray) (fun x => decide (x.id = id)) w := by
  intro W x hb
  obtain ⟨a, b, c, d, e⟩ := x
  show Calls Tryz.prog 113 #[.agg #[.int .i64 a, .int .i64 b, .int .i64 c, .int .i64 d, .int .i64 e], .pointer (some ⟨B, 0, none⟩)] W _
  have hc2 := keeps hb hc
  have hz : B < W.heap.size := Nat.lt_of_lt_of_le hB hb.size
  go_enter Tryz.func113, Tryz.ntmps113
  go_wp2
  go_ret
  exact ⟨rfl, hb.alloc hb.size _⟩

theorem find_nil (id : Int) (w : World) :
    Calls Tryz.prog 105 #[.slice none 0 0, .int .i64 id] w fun e w' => e = .returned (.int .i64 (-1)) ∧ Below w.heap.size w w' := by
  have h0 : ∀ (B : Nat) (W : World), Calls Tryz.prog 112 #[.slice none 0 0, .func (.func 113) #[] #[.pointer (some ⟨B, 0, none⟩)]] W fun e w' => e = .returned (.int .i64 (-1)) ∧ w' = W := by
    intro B W
    go_enter Tryz.func112, Tryz.ntmps112
    go_wp2
    go_loopg [5, 8] 0 (fun _ _ s8 wr => s8 = .int .i64 0 ∧ wr = W)
    case atStart => exact ⟨rfl, rfl⟩
    case round =>
      obtain ⟨rfl, rfl⟩ := hrel
      go_wp2
      go_ret
      exact ⟨rfl, rfl⟩
  go_enter Tryz.func105, Tryz.ntmps105
  go_wp2_with (go_at_call 112; refine (h0 _ _).mono ?_; rintro e w' ⟨rfl, rfl⟩)
  go_ret
  exact ⟨rfl, (Below.refl _ _).alloc (Nat.le_refl _) _⟩

theorem find_some (id : Int) (b o c : Nat) (zs : List R) (w : World) (hb : b < w.heap.size) (hn : zs.length ≤ 9223372036854775807) (hl : Lies w b o zs) :
    Calls Tryz.prog 105 #[.slice (some ⟨b, o, none⟩) zs.length c, .int .i64 id] w fun e w' => e = .returned (.int .i64 (idx id zs)) ∧ Below w.heap.size w w' := by
  have eg : ∀ args w, (callFunc 113 args).run Tryz.prog w = .ok (.enter 113 args) w := enters_of Tryz.func113 (by kernel_rfl) rfl
  have hB : Below w.heap.size w (w.alloc (.cells #[.int .i64 id] 3)) := (Below.refl _ _).alloc (Nat.le_refl _) _
  have hcon := AnyQ.slices_IndexFunc Tryz.lq6 5 Tryz.isAgg26 Tryz.sizeOf26 rV (fun x => rfl) (fun x => decide (x.id = id)) 113 #[.pointer (some ⟨w.heap.size, 0, none⟩)] eg b o zs.length c zs
    (w.alloc (.cells #[.int .i64 id] 3)) (find_pred id w.heap.size _ (by simp) (by simp [go_sem])) (Nat.le_refl _) hn (by simp; omega) (hl.below hb hB)
  change Calls Tryz.prog 112 _ _ _ at hcon
  rw [List.take_length, idxBy_is] at hcon
  generalize idx id zs = k at *
  clear hl
  generalize zs.length = n at *
  go_enter Tryz.func105, Tryz.ntmps105
  go_wp2_with (go_at_call 112; refine hcon.mono ?_; rintro e w' ⟨rfl, hb'⟩)
  go_ret
  exact ⟨rfl, hB.trans (hb'.mono (by simp))⟩

theorem find_any (id : Int) (v : Value) (zs : List R) (w : World) (h : SL w v zs) :
    Calls Tryz.prog 105 #[v, .int .i64 id] w fun e w' => e = .returned (.int .i64 (idx id zs)) ∧ Below w.heap.size w w' := by
  rcases h with ⟨rfl, rfl⟩ | ⟨b, o, c, rfl, h2, h3, h4, h5⟩
  · exact find_nil id w
  · exact find_some id b o c zs w h4 (by omega) h5

/-- behind. -/
theorem behind_any (v : Value) (zs : List R) (a b c d e : Int) (w : World) (h : SL w v zs) :
    Calls Tryz.prog 99 #[v, .agg #[.int .i64 a, .int .i64 b, .int .i64 c, .int .i64 d, .int .i64 e]] w fun x w' => x = .returned (errV (bchk zs ⟨a, b, c, d, e⟩)) ∧ Below w.heap.size w w' := by
  have hr := rest_any a b c d e
  have e1 : bchk zs ⟨a, b, c, d, e⟩ = if rchk ⟨a, b, c, d, e⟩ = 0 then (if 0 ≤ idx a zs then 7 else 0) else rchk ⟨a, b, c, d, e⟩ := by
    unfold bchk
    rw [has_idx]
    simp only [decide_eq_true_eq]
  rw [e1]
  clear e1
  generalize rchk ⟨a, b, c, d, e⟩ = k at *
  have HF := fun W hW => find_any a v zs W hW
  have H : Hid (∀ W, SL W v zs → Calls Tryz.prog 105 #[v, .int .i64 a] W fun e w' => e = .returned (.int .i64 (idx a zs)) ∧ Below W.heap.size W w') := HF
  clear HF
  have HS : Hid (SL w v zs) := h
  clear h
  generalize idx a zs = m at *
  by_cases hk : k = 0
  · subst hk
    rw [if_pos rfl]
    rw [errV_zero] at hr
    by_cases hm : 0 ≤ m
    · rw [if_pos hm]
      go_enter Tryz.func99, Tryz.ntmps99
      go_wp2_with fail
      refine (hr _).mono ?_
      rintro x w1 ⟨rfl, hb1⟩
      have hB : Below w.heap.size w w1 := ((Below.refl _ _).alloc (Nat.le_refl _) _).trans (hb1.mono (by simp))
      obtain ⟨hc1, hf1⟩ := bcell hb1
      clear hr
      go_wp2_with fail
      refine (H.out _ (HS.out.below hB)).mono ?_
      rintro x w2 ⟨rfl, hb2⟩
      clear hc1 hf1
      go_wp2_with fail
      go_ret
      exact ⟨rfl, hB.trans (hb2.mono hB.size)⟩
    · rw [if_neg hm]
      go_enter Tryz.func99, Tryz.ntmps99
      go_wp2_with fail
      refine (hr _).mono ?_
      rintro x w1 ⟨rfl, hb1⟩
      have hB : Below w.heap.size w w1 := ((Below.refl _ _).alloc (Nat.le_refl _) _).trans (hb1.mono (by simp))
      obtain ⟨hc1, hf1⟩ := bcell hb1
      clear hr
      go_wp2_with fail
      refine (H.out _ (HS.out.below hB)).mono ?_
      rintro x w2 ⟨rfl, hb2⟩
      clear hc1 hf1
      go_wp2_with fail
      go_ret
      exact ⟨rfl, hB.trans (hb2.mono hB.size)⟩
  · rw [if_neg hk]
    rw [errV_of hk] at hr ⊢
    go_enter Tryz.func99, Tryz.ntmps99
    go_wp2_with fail
    refine (hr _).mono ?_
    rintro x w1 ⟨rfl, hb1⟩
    have hB : Below w.heap.size w w1 := ((Below.refl _ _).alloc (Nat.le_refl _) _).trans (hb1.mono (by simp))
    clear hr
    go_wp2_with fail
    go_ret
    exact ⟨rfl, hB⟩

end Go.Proofs.YtmgodofnhjmbfaaGreatDoor.que
