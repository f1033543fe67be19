/- Contracts over this seat's translation: side.withLevel. -/
import Derived.Test.YtdeahageabacbaaSidIns3
import Derived.Test.YtdeahageabacbaaSidPut
namespace Go.Proofs.Ytdeahageabacbaa.sid
open Go.RowKit Go.Proofs.Ytdeahageabacbaa.spn Go.Proofs.Ytdeahageabacbaa.que
open Go.Proofs.Ytdeahageabacbaa.tickP (priceB sideB betOk betR)

theorem put_app {s p : Int} {r : R} (a b : List L) (h : ∀ l ∈ a, leadB s l.price p = true) : putL s p r (a ++ b) = a ++ putL s p r b := by
  induction a with
  | nil => rfl
  | cons x t ih =>
    rw [List.cons_append, putL, if_pos (h x (by simp)), ih (fun l hl => h l (by simp [hl]))]; rfl
/-- Where a price comes to stand among levels. -/
theorem split_at (s p : Int) (ps : List RP) : ∃ a b, ps = a ++ b ∧ (∀ y ∈ a, leadB s y.1.price p = true) ∧ (b = [] ∨ ∃ x t, b = x :: t ∧ leadB s x.1.price p = false) := by
  induction ps with
  | nil => exact ⟨[], [], rfl, by simp, .inl rfl⟩
  | cons x t ih =>
    cases hl : leadB s x.1.price p
    · exact ⟨[], x :: t, rfl, by simp, .inr ⟨x, t, rfl, hl⟩⟩
    · obtain ⟨a, b, e, h1, h2⟩ := ih
      refine ⟨x :: a, b, by rw [e]; rfl, ?_, h2⟩
      intro y hy
      rcases List.mem_cons.1 hy with rfl | hy
      · exact hl
      · exact h1 y hy
theorem idx_skip {α : Type} (f : α → Bool) (x : α) (a b : List α) (h : ∀ y ∈ a, f y = false) : ∀ i, Lib.idxByFrom (fun _ y => f y) x (a ++ b) i = Lib.idxByFrom (fun _ y => f y) x b (i + a.length) := by
  induction a with
  | nil => intro i; rfl
  | cons y t ih =>
    intro i
    show (if f y = true then (i : Int) else Lib.idxByFrom (fun _ y => f y) x (t ++ b) (i + 1)) = _
    rw [if_neg (by rw [h y (by simp)]; simp), ih (fun z hz => h z (by simp [hz])), List.length_cons, show i + 1 + t.length = i + (t.length + 1) by omega]
theorem idx_all {α : Type} (f : α → Bool) (x : α) (a : List α) (h : ∀ y ∈ a, f y = false) : Lib.idxBy (fun _ y => f y) a x = -1 := by
  have := idx_skip f x a [] h 0
  rw [List.append_nil] at this
  unfold Lib.idxBy
  rw [this]; rfl
theorem idx_first {α : Type} (f : α → Bool) (x : α) (a : List α) (y : α) (b : List α) (h : ∀ z ∈ a, f z = false) (hy : f y = true) : Lib.idxBy (fun _ y => f y) (a ++ y :: b) x = a.length := by
  have := idx_skip f x a (y :: b) h 0
  unfold Lib.idxBy
  rw [this]
  show (if f y = true then ((0 + a.length : Nat) : Int) else _) = _
  rw [if_pos hy, Nat.zero_add]

theorem with_pred (s p : Int) (B1 B2 : Nat) (w : World) (h1 : B1 < w.heap.size) (h2 : B2 < w.heap.size) (c1 : w.cell? ⟨B1, 0, none⟩ = some (.int .i64 s)) (c2 : w.cell? ⟨B2, 0, none⟩ = some (.int .i64 p)) :
    PredBelow Try.prog 67 #[.pointer (some ⟨B1, 0, none⟩), .pointer (some ⟨B2, 0, none⟩)] (fun x => .agg (rlv.rV x).toArray) (fun x => !leadB s x.price p) w := by
  intro W x hb
  obtain ⟨pp, q, n, c⟩ := x
  show Calls Try.prog 67 #[.agg #[.int .i64 pp, .slice q n c], .pointer (some ⟨B1, 0, none⟩), .pointer (some ⟨B2, 0, none⟩)] W _
  have d1 := keeps hb c1
  have d2 := keeps hb c2
  have hz1 : B1 < W.heap.size := Nat.lt_of_lt_of_le h1 hb.size
  have hz2 : B2 < W.heap.size := Nat.lt_of_lt_of_le h2 hb.size
  have hb2 : Below w.heap.size w (W.alloc (.cells #[.int .i64 pp, .slice q n c] 62)) := hb.alloc hb.size _
  have hcon := leads_V w s pp p _ hb2
  simp only []
  generalize leadB s pp p = ld at *
  go_enter Try.func67, Try.ntmps67
  go_wp2_with fail
  refine hcon.mono ?_
  rintro e w1 ⟨rfl, h3⟩
  clear hcon
  go_wp2_with fail
  go_ret
  exact ⟨rfl, h3⟩

theorem index_nil (cl : Value) (w : World) :
    Calls Try.prog 66 #[.slice none 0 0, cl] w fun e w' => e = .returned (.int .i64 (-1)) ∧ Below w.heap.size w w' := by
  go_enter Try.func66, Try.ntmps66
  go_wp2
  go_loopg [5, 8] 0 (fun _ _ s8 wr => s8 = .int .i64 0 ∧ wr = w)
  case atStart => exact ⟨rfl, rfl⟩
  case round =>
    obtain ⟨rfl, rfl⟩ := hrel
    go_wp2
    go_ret
    exact ⟨rfl, Below.refl _ _⟩
theorem index_any (s p : Int) (B1 B2 : Nat) (v : Value) (zs : List rlv.RL) (w : World) (h : rlv.SL w v zs) (h1 : B1 < w.heap.size) (h2 : B2 < w.heap.size) (c1 : w.cell? ⟨B1, 0, none⟩ = some (.int .i64 s)) (c2 : w.cell? ⟨B2, 0, none⟩ = some (.int .i64 p)) :
    Calls Try.prog 66 #[v, .func (.func 67) #[] #[.pointer (some ⟨B1, 0, none⟩), .pointer (some ⟨B2, 0, none⟩)]] w fun e w' => e = .returned (.int .i64 (Lib.idxBy (fun _ y => !leadB s y.price p) zs default)) ∧ Below w.heap.size w w' := by
  rcases h with ⟨rfl, rfl⟩ | ⟨b, o, c, rfl, hc, hm, hb, hl⟩
  · exact index_nil _ w
  · have eg : ∀ args w, (callFunc 67 args).run Try.prog w = .ok (.enter 67 args) w := enters_of Try.func67 (by kernel_rfl) rfl
    have hcon := AnyQ.slices_IndexFunc Try.lq6l 2 Try.isAgg62 Try.sizeOf62 rlv.rV (fun x => rfl) (fun x => !leadB s x.price p) 67 #[.pointer (some ⟨B1, 0, none⟩), .pointer (some ⟨B2, 0, none⟩)] eg b o zs.length c zs
      w (with_pred s p B1 B2 w h1 h2 c1 c2) (Nat.le_refl _) (by omega) hb hl
    change Calls Try.prog 66 _ _ _ at hcon
    rw [List.take_length] at hcon
    exact hcon
end Go.Proofs.Ytdeahageabacbaa.sid
