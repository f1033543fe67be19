/- Contracts over this seat's translation: side.Drop. -/
import Derived.Test.YtfjabgomakjepaaSidAdd
import Derived.Test.YtfjabgomakjepaaSidDel
import Derived.Test.YtfjabgomakjepaaSidDelR
namespace Go.Proofs.Ytfjabgomakjepaa.sid
open Go.RowKit Go.Proofs.Ytfjabgomakjepaa.spn Go.Proofs.Ytfjabgomakjepaa.que Go.Maps

/-- Five stores, cell by cell, into a block of five. -/
theorem setFive {w : World} {B : Nat} {y0 y1 y2 y3 y4 : Value} {t : TypeId} (h : w.heap[B]? = some (.cells #[y0, y1, y2, y3, y4] t (0, 0))) (x0 x1 x2 x3 x4 : Value) :
    (((((w.setCell ⟨B, 0, none⟩ x0).setCell ⟨B, 1, none⟩ x1).setCell ⟨B, 2, none⟩ x2).setCell ⟨B, 3, none⟩ x3).setCell ⟨B, 4, none⟩ x4).heap[B]? = some (.cells #[x0, x1, x2, x3, x4] t (0, 0)) := by
  have h0 := heap_setCell_same w B 0 _ _ x0 h
  have h1 := heap_setCell_same _ B 1 _ _ x1 h0
  have h2 := heap_setCell_same _ B 2 _ _ x2 h1
  have h3 := heap_setCell_same _ B 3 _ _ x3 h2
  have h4 := heap_setCell_same _ B 4 _ _ x4 h3
  exact h4
theorem rowFive {w : World} {B : Nat} {x0 x1 x2 x3 x4 : Value} {t : TypeId} (h : w.heap[B]? = some (.cells #[x0, x1, x2, x3, x4] t (0, 0))) :
    w.cell? ⟨B, 0, none⟩ = some x0 ∧ w.cell? ⟨B, 1, none⟩ = some x1 ∧ w.cell? ⟨B, 2, none⟩ = some x2 ∧ w.cell? ⟨B, 3, none⟩ = some x3 ∧ w.cell? ⟨B, 4, none⟩ = some x4 ∧ ∀ j, w.frozen? ⟨B, j, none⟩ = false :=
  ⟨by simp [World.cell?, h], by simp [World.cell?, h], by simp [World.cell?, h], by simp [World.cell?, h], by simp [World.cell?, h], fun j => frozen_of_row w _ j _ _ h⟩
theorem grFive (w : World) (B : Nat) (x0 x1 x2 x3 x4 : Value) : w.grownBy (((((w.setCell ⟨B, 0, none⟩ x0).setCell ⟨B, 1, none⟩ x1).setCell ⟨B, 2, none⟩ x2).setCell ⟨B, 3, none⟩ x3).setCell ⟨B, 4, none⟩ x4) (some B) :=
  gr_trans (gr_trans (gr_trans (gr_trans (gr_setCell _ _ _ _) (gr_setCell _ _ _ _)) (gr_setCell _ _ _ _)) (gr_setCell _ _ _ _)) (gr_setCell _ _ _ _)
/-- Where one block has turned, in which no level and no rests are, a side stands. -/
theorem DeepT.other {w w' : World} {base : Nat} {v : Value} {ps : List RP} {tl : List rlv.RL} {B : Nat} (h : DeepT w base v ps tl) (hg : w.grownBy w' (some B)) (hB : B < base) : DeepT w' base v ps tl :=
  ⟨kept_of h.own hg (fun x hx e => by have := (OwnM.lt h.own x hx).1; simp at e; omega), fun p hp => kept_of (h.each p hp) hg (fun x hx e => by have := (OwnM.lt (h.each p hp) x hx).1; simp at e; omega), h.apart, h.far⟩

theorem qflat_take (zs : List R) (i : Nat) : flat (zs.take i) = (flat zs).take (i * 5) := by
  induction zs generalizing i with
  | nil => simp [flat]
  | cons r t ih =>
    cases i with
    | zero => simp [flat]
    | succ i => rw [List.take_succ_cons, flat_cons, flat_cons, ih, show (i + 1) * 5 = (rV r).length + i * 5 by show _ = 5 + i * 5; omega, List.take_length_add_append]
theorem qflat_drop (zs : List R) (i : Nat) : flat (zs.drop i) = (flat zs).drop (i * 5) := by
  induction zs generalizing i with
  | nil => simp [flat]
  | cons r t ih =>
    cases i with
    | zero => simp
    | succ i => rw [List.drop_succ_cons, flat_cons, ih, show (i + 1) * 5 = (rV r).length + i * 5 by show _ = 5 + i * 5; omega, List.drop_length_add_append]
/-- A level is gone. -/
theorem DeepT.delete {w w' : World} {base : Nat} {v v' : Value} {a : List RP} {x : RP} {b : List RP} (h : Deep w base v (a ++ x :: b)) (ho : rlv.OwnQ w' base v' ((a ++ b).map (·.1))) (hg : w.grownBy w' v.ownBlock) (hv : v'.ownBlock = v.ownBlock) : Deep w' base v' (a ++ b) := by
  have hm : ∀ y ∈ a ++ b, y ∈ a ++ x :: b := fun y hy => by
    rcases List.mem_append.1 hy with hy | hy <;> simp [hy]
  refine ⟨by rw [List.append_nil]; exact ho, fun y hy => kept_of (h.each y (hm y hy)) hg (fun z hz => h.far y (hm y hy) z hz), ?_, fun y hy z hz => by rw [hv]; exact h.far y (hm y hy) z hz⟩
  obtain ⟨p1, p2, p3⟩ := List.pairwise_append.1 h.apart
  exact List.pairwise_append.2 ⟨p1, (List.pairwise_cons.1 p2).2, fun y hy z hz => p3 y hy z (by simp [hz])⟩

/-- What Drop answers. -/
def dropE (s : Int) (ls : List L) (id : Int) : List L := if findE s ls id = 0 then dropL ls (findP s ls id).1.toNat (findP s ls id).2.toNat else []
def dropRest (s : Int) (ls : List L) (id : Int) : R := if findE s ls id = 0 then ls[(findP s ls id).1.toNat]!.rests[(findP s ls id).2.toNat]! else ⟨0, 0, 0, 0, 0⟩
def dropPrice (s : Int) (ls : List L) (id : Int) : Int := if findE s ls id = 0 then ls[(findP s ls id).1.toNat]!.price else 0
def DropPost (s : Int) (ls : List L) (id : Int) (w : World) (x : Ending) (w' : World) : Prop :=
  Below w.heap.size w w' ∧ ∃ v', x = .returned (.tuple #[v', .agg (rV (dropRest s ls id)).toArray, .int .i64 (dropPrice s ls id), errV (findE s ls id)]) ∧ DL w' w.heap.size v' (dropE s ls id)

theorem drop_err (s : Int) (vq : Option Addr) (vm vc : Nat) (ls : List L) (id : Int) (w : World) (h : LS w (.slice vq vm vc) ls) (hid : (Lit.int .i64 id).wf = true) (h0 : ¬ findE s ls id = 0) :
    Calls Try.prog 7 #[.int .i64 s, .slice vq vm vc, .int .i64 id] w fun x w' => DropPost s ls id w x w' := by
  have HC := fun W (hW : Below w.heap.size w W) => find_any s _ ls id W (h.below hW) hid
  have hf : findV s ls id = .tuple #[.int .i64 0, .int .i64 0, .iface 60 (.int .i64 (findE s ls id))] := by
    unfold findV findP; rw [if_neg h0, errV_of h0]
  rw [hf] at HC
  have HP : Hid (∀ W, Below w.heap.size w W → DropPost s ls id w (.returned (.tuple #[.slice none 0 0, .agg #[.int .i64 0, .int .i64 0, .int .i64 0, .int .i64 0, .int .i64 0], .int .i64 0, .iface 60 (.int .i64 (findE s ls id))])) W) := fun W hW => by
    refine ⟨hW, .slice none 0 0, ?_, ?_⟩
    · unfold dropRest dropPrice; rw [if_neg h0, if_neg h0, errV_of h0]; rfl
    · unfold dropE; rw [if_neg h0]; exact dl_nil _ _
  generalize DropPost s ls id w = POST at *
  generalize findE s ls id = k at *
  clear h hid h0 hf
  go_enter Try.func7, Try.ntmps7
  go_wp2_with fail
  refine (HC _ ((Below.refl _ _).alloc (Nat.le_refl _) _)).mono ?_
  rintro x w1 ⟨rfl, hb1⟩
  have hB : Below w.heap.size w w1 := ((Below.refl _ _).alloc (Nat.le_refl _) _).trans (hb1.mono (by simp))
  have hR1 : w1.heap[w.heap.size]? = some (.cells #[.int .i64 0, .int .i64 0, .int .i64 0, .int .i64 0, .int .i64 0] 24 (0, 0)) := by
    rw [hb1.block w.heap.size (by simp)]
    exact heap_alloc_new w _
  clear hb1 HC
  obtain ⟨c0, c1, c2, c3, c4, hf⟩ := rowFive hR1
  have f0 := hf 0
  have f1 := hf 1
  have f2 := hf 2
  have f3 := hf 3
  have f4 := hf 4
  clear hf
  have HX := setFive hR1 (.int .i64 0) (.int .i64 0) (.int .i64 0) (.int .i64 0) (.int .i64 0)
  have HBX : Below w.heap.size w (((((w1.setCell ⟨w.heap.size, 0, none⟩ (.int .i64 0)).setCell ⟨w.heap.size, 1, none⟩ (.int .i64 0)).setCell ⟨w.heap.size, 2, none⟩ (.int .i64 0)).setCell ⟨w.heap.size, 3, none⟩ (.int .i64 0)).setCell ⟨w.heap.size, 4, none⟩ (.int .i64 0)) := ((((hB.setCell (Nat.le_refl _) _).setCell (Nat.le_refl _) _).setCell (Nat.le_refl _) _).setCell (Nat.le_refl _) _).setCell (Nat.le_refl _) _
  go_wp2_with fail
  generalize (((((w1.setCell ⟨w.heap.size, 0, none⟩ (.int .i64 0)).setCell ⟨w.heap.size, 1, none⟩ (.int .i64 0)).setCell ⟨w.heap.size, 2, none⟩ (.int .i64 0)).setCell ⟨w.heap.size, 3, none⟩ (.int .i64 0)).setCell ⟨w.heap.size, 4, none⟩ (.int .i64 0)) = V at *
  obtain ⟨d0, d1, d2, d3, d4, -⟩ := rowFive HX
  clear HX
  exact bodyPost_ret (v := .tuple #[.slice none 0 0, .agg #[.int .i64 0, .int .i64 0, .int .i64 0, .int .i64 0, .int .i64 0], .int .i64 0, .iface 60 (.int .i64 k)]) (by simp [results, Try.results7, go_sem, d0, d1, d2, d3, d4]) rfl (HP.out V HBX)
end Go.Proofs.Ytfjabgomakjepaa.sid
