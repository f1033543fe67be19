/- Contracts over this seat's translation: side.Drop. -/
import Derived.Test.YtifgikhdlilobaaDoorSidAdd
import Derived.Test.YtifgikhdlilobaaDoorSidDelR
namespace Go.Proofs.YtifgikhdlilobaaDoor.sid
open Go.RowKit Go.Proofs.YtifgikhdlilobaaDoor.spn Go.Proofs.YtifgikhdlilobaaDoor.que Go.Maps

theorem qflat_take (zs : List R) (i : Nat) : flat (zs.take i) = (flat zs).take (i * 5) := by
  induction zs generalizing i with
  | nil => simp [flat]
  | cons r t ih =>
    cases i with
    | zero => simp [flat]
    | succ i => rw [List.take_succ_cons, flat_cons, flat_cons, ih, show (i + 1) * 5 = (rV r).length + i * 5 by show _ = 5 + i * 5; omega, List.take_length_add_append]
theorem qflat_drop (zs : List R) (i : Nat) : flat (zs.drop i) = (flat zs).drop (i * 5) := by
  induction zs generalizing i with
  | nil => simp [flat]
  | cons r t ih =>
    cases i with
    | zero => simp
    | succ i => rw [List.drop_succ_cons, flat_cons, ih, show (i + 1) * 5 = (rV r).length + i * 5 by show _ = 5 + i * 5; omega, List.drop_length_add_append]
/-- A level is gone. -/
theorem DeepT.delete {w w' : World} {base : Nat} {v v' : Value} {a : List RP} {x : RP} {b : List RP} (h : Deep w base v (a ++ x :: b)) (ho : rlv.OwnQ w' base v' ((a ++ b).map (·.1))) (hg : w.grownBy w' v.ownBlock) (hv : v'.ownBlock = v.ownBlock) : Deep w' base v' (a ++ b) := by
  have hm : ∀ y ∈ a ++ b, y ∈ a ++ x :: b := fun y hy => by
    rcases List.mem_append.1 hy with hy | hy <;> simp [hy]
  refine ⟨by rw [List.append_nil]; exact ho, fun y hy => kept_of (h.each y (hm y hy)) hg (fun z hz => h.far y (hm y hy) z hz), ?_, fun y hy z hz => by rw [hv]; exact h.far y (hm y hy) z hz⟩
  obtain ⟨p1, p2, p3⟩ := List.pairwise_append.1 h.apart
  exact List.pairwise_append.2 ⟨p1, (List.pairwise_cons.1 p2).2, fun y hy z hz => p3 y hy z (by simp [hz])⟩

/-- What Drop answers. -/
def dropE (s : Int) (ls : List L) (id : Int) : List L := if findE s ls id = 0 then dropL ls (findP s ls id).1.toNat (findP s ls id).2.toNat else []
def dropRest (s : Int) (ls : List L) (id : Int) : R := if findE s ls id = 0 then ls[(findP s ls id).1.toNat]!.rests[(findP s ls id).2.toNat]! else ⟨0, 0, 0, 0, 0⟩
def dropPrice (s : Int) (ls : List L) (id : Int) : Int := if findE s ls id = 0 then ls[(findP s ls id).1.toNat]!.price else 0
def DropPost (s : Int) (ls : List L) (id : Int) (w : World) (x : Ending) (w' : World) : Prop :=
  Below w.heap.size w w' ∧ ∃ v', x = .returned (.tuple #[v', .agg (rV (dropRest s ls id)).toArray, .int .i64 (dropPrice s ls id), errV (findE s ls id)]) ∧ DL w' w.heap.size v' (dropE s ls id)

theorem drop_err (s : Int) (vq : Option Addr) (vm vc : Nat) (ls : List L) (id : Int) (w : World) (h : LS w (.slice vq vm vc) ls) (hid : (Lit.int .i64 id).wf = true) (h0 : ¬ findE s ls id = 0) :
    Calls Tryd.prog 14 #[.int .i64 s, .slice vq vm vc, .int .i64 id] w fun x w' => DropPost s ls id w x w' := by
  have HC := fun W (hW : Below w.heap.size w W) => find_any s _ ls id W (h.below hW) hid
  have hf : findV s ls id = .tuple #[.int .i64 0, .int .i64 0, .iface 58 (.int .i64 (findE s ls id))] := by
    unfold findV findP; rw [if_neg h0, errV_of h0]
  rw [hf] at HC
  have HP : Hid (∀ W, Below w.heap.size w W → DropPost s ls id w (.returned (.tuple #[.slice none 0 0, .agg #[.int .i64 0, .int .i64 0, .int .i64 0, .int .i64 0, .int .i64 0], .int .i64 0, .iface 58 (.int .i64 (findE s ls id))])) W) := fun W hW => by
    refine ⟨hW, .slice none 0 0, ?_, ?_⟩
    · unfold dropRest dropPrice; rw [if_neg h0, if_neg h0, errV_of h0]; rfl
    · unfold dropE; rw [if_neg h0]; exact dl_nil _ _
  generalize DropPost s ls id w = POST at *
  generalize findE s ls id = k at *
  clear h hid h0 hf
  go_enter Tryd.func14, Tryd.ntmps14
  go_wp2_with fail
  refine (HC _ ((Below.refl _ _).alloc (Nat.le_refl _) _)).mono ?_
  rintro x w1 ⟨rfl, hb1⟩
  have hB : Below w.heap.size w w1 := ((Below.refl _ _).alloc (Nat.le_refl _) _).trans (hb1.mono (by simp))
  have hR1 : w1.heap[w.heap.size]? = some (.cells #[.int .i64 0, .int .i64 0, .int .i64 0, .int .i64 0, .int .i64 0] 24 (0, 0)) := by
    rw [hb1.block w.heap.size (by simp)]
    exact heap_alloc_new w _
  clear hb1 HC
  obtain ⟨c0, c1, c2, c3, c4, hf⟩ := rowFive hR1
  have f0 := hf 0
  have f1 := hf 1
  have f2 := hf 2
  have f3 := hf 3
  have f4 := hf 4
  clear hf
  have HX := setFive hR1 (.int .i64 0) (.int .i64 0) (.int .i64 0) (.int .i64 0) (.int .i64 0)
  have HBX : Below w.heap.size w (((((w1.setCell ⟨w.heap.size, 0, none⟩ (.int .i64 0)).setCell ⟨w.heap.size, 1, none⟩ (.int .i64 0)).setCell ⟨w.heap.size, 2, none⟩ (.int .i64 0)).setCell ⟨w.heap.size, 3, none⟩ (.int .i64 0)).setCell ⟨w.heap.size, 4, none⟩ (.int .i64 0)) := ((((hB.setCell (Nat.le_refl _) _).setCell (Nat.le_refl _) _).setCell (Nat.le_refl _) _).setCell (Nat.le_refl _) _).setCell (Nat.le_refl _) _
  go_wp2_with fail
  generalize (((((w1.setCell ⟨w.heap.size, 0, none⟩ (.int .i64 0)).setCell ⟨w.heap.size, 1, none⟩ (.int .i64 0)).setCell ⟨w.heap.size, 2, none⟩ (.int .i64 0)).setCell ⟨w.heap.size, 3, none⟩ (.int .i64 0)).setCell ⟨w.heap.size, 4, none⟩ (.int .i64 0)) = V at *
  obtain ⟨d0, d1, d2, d3, d4, -⟩ := rowFive HX
  clear HX
  exact bodyPost_ret (v := .tuple #[.slice none 0 0, .agg #[.int .i64 0, .int .i64 0, .int .i64 0, .int .i64 0, .int .i64 0], .int .i64 0, .iface 58 (.int .i64 k)]) (by simp [results, Tryd.results14, go_sem, d0, d1, d2, d3, d4]) rfl (HP.out V HBX)
end Go.Proofs.YtifgikhdlilobaaDoor.sid
