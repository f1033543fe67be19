/- Contracts over this seat's translation: package bars' checkBar. -/
import Derived.Test.YtkbegagpliiljaaDoorBarSl
import Derived.Deep.RegionHeld3
namespace Go.Proofs.YtkbegagpliiljaaDoor.bar
open Go.RowKit Go.Proofs.YtkbegagpliiljaaDoor.mee
open Go.Proofs.YtkbegagpliiljaaDoor.spn (keeps bcell spanB spanV of_any scheck_is scheck4 rangeE errV errV_zero errV_of)

/-- A new block of three cells. -/
def Z3 (W : World) (p : Nat) : Prop := W.heap[p]? = some (.cells #[.int .i64 0, .int .i64 0, .int .i64 0] 47 (0, 0))
/-- A block of three cells that holds these. -/
def R3 (x y z : Value) (W : World) (p : Nat) : Prop := W.heap[p]? = some (.cells #[x, y, z] 47 (0, 0))
theorem Z3.new (W : World) : Z3 (W.alloc (.cells #[.int .i64 0, .int .i64 0, .int .i64 0] 47)) W.heap.size := heap_alloc_new W _
theorem Z3.lt {W : World} {p : Nat} (h : Z3 W p) : p < W.heap.size := (Array.getElem?_eq_some_iff.1 h).1
theorem Z3.alloc {W : World} {p : Nat} (h : Z3 W p) (o : Obj) : Z3 (W.alloc o) p := (Below.heap_alloc W o p h.lt).trans h
theorem Z3.below {W W' : World} (hB : Below W.heap.size W W') (p : Nat) (h : Z3 W p) : Z3 W' p := (hB.block p h.lt).trans h
theorem Z3.facts {W : World} {p : Nat} (h : Z3 W p) : W.cell? ⟨p, 0, none⟩ = some (.int .i64 0) ∧ W.cell? ⟨p, 1, none⟩ = some (.int .i64 0) ∧ W.cell? ⟨p, 2, none⟩ = some (.int .i64 0) ∧ W.frozen? ⟨p, 0, none⟩ = false ∧ W.frozen? ⟨p, 1, none⟩ = false ∧ W.frozen? ⟨p, 2, none⟩ = false := by
  have h' : W.heap[p]? = some (.cells #[.int .i64 0, .int .i64 0, .int .i64 0] 47 (0, 0)) := h
  exact ⟨by simp [World.cell?, h'], by simp [World.cell?, h'], by simp [World.cell?, h'], by simp [World.frozen?, h'], by simp [World.frozen?, h'], by simp [World.frozen?, h']⟩
theorem far3 {W : World} {p k : Nat} (x y z : Value) (h : p ≠ k) : (((W.setCell ⟨p, 0, none⟩ x).setCell ⟨p, 1, none⟩ y).setCell ⟨p, 2, none⟩ z).heap[k]? = W.heap[k]? :=
  (Below.heap_setCell _ ⟨p, 2, none⟩ z k (Ne.symm h)).trans ((Below.heap_setCell _ ⟨p, 1, none⟩ y k (Ne.symm h)).trans (Below.heap_setCell _ ⟨p, 0, none⟩ x k (Ne.symm h)))
theorem Z3.set {W : World} {p k : Nat} (h : Z3 W k) (hn : p ≠ k) (x y z : Value) : Z3 (((W.setCell ⟨p, 0, none⟩ x).setCell ⟨p, 1, none⟩ y).setCell ⟨p, 2, none⟩ z) k := (far3 x y z hn).trans h
theorem R3.set {a b c : Value} {W : World} {p k : Nat} (h : R3 a b c W k) (hn : p ≠ k) (x y z : Value) : R3 a b c (((W.setCell ⟨p, 0, none⟩ x).setCell ⟨p, 1, none⟩ y).setCell ⟨p, 2, none⟩ z) k := (far3 x y z hn).trans h
theorem Z3.put {W : World} {p : Nat} (h : Z3 W p) (x y z : Value) : R3 x y z (((W.setCell ⟨p, 0, none⟩ x).setCell ⟨p, 1, none⟩ y).setCell ⟨p, 2, none⟩ z) p := by
  have h0 := heap_setCell_same W p 0 _ _ x h
  have h1 := heap_setCell_same _ p 1 _ _ y h0
  have h2 := heap_setCell_same _ p 2 _ _ z h1
  simpa [R3] using h2
theorem R3.cells {a b c : Value} {W : World} {p : Nat} (h : R3 a b c W p) : W.cell? ⟨p, 0, none⟩ = some a ∧ W.cell? ⟨p, 1, none⟩ = some b ∧ W.cell? ⟨p, 2, none⟩ = some c := by
  have h' : W.heap[p]? = some (.cells #[a, b, c] 47 (0, 0)) := h
  exact ⟨by simp [World.cell?, h'], by simp [World.cell?, h'], by simp [World.cell?, h']⟩
/-- A call of a function that keeps what lay there. -/
structure Kept (V W W' : World) : Prop where
  far : Below V.heap.size V W'
  zed : ∀ b, Z3 W b → Z3 W' b
theorem ofK (V : World) (n lo hi : Int) (w : World) (h : Below V.heap.size V w) :
    Calls Tryd.prog 15 #[.int .i64 n, .int .i64 lo, .int .i64 hi] w fun e w' => e = .returned (.agg #[.int .i64 n, .int .i64 lo, .int .i64 hi]) ∧ Kept V w w' :=
  (of_any n lo hi w).mono fun _ _ h' => ⟨h'.1, h.trans (h'.2.mono h.size), Z3.below h'.2⟩
theorem ofB (V : World) (n lo hi : Int) (w : World) (h : Below V.heap.size V w) :
    Calls Tryd.prog 15 #[.int .i64 n, .int .i64 lo, .int .i64 hi] w fun e w' => e = .returned (.agg #[.int .i64 n, .int .i64 lo, .int .i64 hi]) ∧ Below V.heap.size V w' :=
  (of_any n lo hi w).mono fun _ _ h' => ⟨h'.1, h.trans (h'.2.mono h.size)⟩

/-- The operations of checkBar's first statement. -/
noncomputable abbrev ops1 : Array Oper := match Tryd.f22.body with
  | some (.seq _ (.seq (.region _ o _) _)) => o
  | _ => #[]
/-- Its frame. -/
def act (ag : Value) (G : Nat) (o h l c : Int) (x3 x4 x5 x10 x17 x24 : Value) : Act :=
  { tmps := #[ag, .pointer (some ⟨G, 0, none⟩), .nilIface, x3, x4, x5, .pointer (some ⟨G, 2, none⟩), .int .i64 l, .pointer (some ⟨G, 1, none⟩), .int .i64 h, x10, .pointer (some ⟨G, 0, none⟩), .int .i64 o, .pointer (some ⟨G, 2, none⟩), .int .i64 l, .pointer (some ⟨G, 1, none⟩), .int .i64 h, x17,
      .pointer (some ⟨G, 3, none⟩), .int .i64 c, .pointer (some ⟨G, 2, none⟩), .int .i64 l, .pointer (some ⟨G, 1, none⟩), .int .i64 h, x24, undef, undef, undef, undef, undef, undef, undef, undef, undef, undef], defers := [] }
/-- What is so all along. -/
def S5 (G : Nat) (o h l c : Int) (V W : World) : Prop := Below V.heap.size V W ∧ W.cell? ⟨G, 0, none⟩ = some (.int .i64 o) ∧ W.cell? ⟨G, 1, none⟩ = some (.int .i64 h) ∧ W.cell? ⟨G, 2, none⟩ = some (.int .i64 l) ∧ W.cell? ⟨G, 3, none⟩ = some (.int .i64 c)
def HidS (G : Nat) (o h l c : Int) (V : World) : Prop := ∀ W, Below V.heap.size V W → S5 G o h l c V W
theorem HidS.out {G : Nat} {o h l c : Int} {V : World} (h' : HidS G o h l c V) : ∀ W, Below V.heap.size V W → S5 G o h l c V W := h'
/-- What is so behind it. -/
def QF (ag : Value) (G : Nat) (o h l c : Int) (V : World) : Exit → Act → World → Prop
  | .normal, a, W => ∃ p1 p2 p3, a = act ag G o h l c (.pointer (some ⟨p1, 0, none⟩)) (.pointer (some ⟨p2, 0, none⟩)) (.pointer (some ⟨p3, 0, none⟩)) (.agg #[.int .i64 l, .int .i64 1, .int .i64 h]) (.agg #[.int .i64 o, .int .i64 l, .int .i64 h]) (.agg #[.int .i64 c, .int .i64 l, .int .i64 h]) ∧ Below V.heap.size V W ∧
      R3 (.int .i64 l) (.int .i64 1) (.int .i64 h) W p1 ∧ R3 (.int .i64 o) (.int .i64 l) (.int .i64 h) W p2 ∧ R3 (.int .i64 c) (.int .i64 l) (.int .i64 h) W p3
  | _, _, _ => False

set_option maxRecDepth 100000
theorem fin3 {ag : Value} {G : Nat} {o h l c : Int} {V : World} {p1 p2 p3 : Nat} {W : World} (hW : Below V.heap.size V W) (z1 : R3 (.int .i64 l) (.int .i64 1) (.int .i64 h) W p1) (z2 : R3 (.int .i64 o) (.int .i64 l) (.int .i64 h) W p2) (z3 : R3 (.int .i64 c) (.int .i64 l) (.int .i64 h) W p3) :
    wpAnyH Tryd.prog .any ops1 (QF ag G o h l c V) (S5 G o h l c V) 0 #[true, true, true, true, true, true, true, true, true, true, true, true, true, true, true, true, true, true, true, true, true, true, true, true, true] (act ag G o h l c (.pointer (some ⟨p1, 0, none⟩)) (.pointer (some ⟨p2, 0, none⟩)) (.pointer (some ⟨p3, 0, none⟩)) (.agg #[.int .i64 l, .int .i64 1, .int .i64 h]) (.agg #[.int .i64 o, .int .i64 l, .int .i64 h]) (.agg #[.int .i64 c, .int .i64 l, .int .i64 h])) W := by
  exact wpAnyH_done (by kernel_rfl) ⟨_, _, _, rfl, hW, z1, z2, z3⟩ _
theorem fin2 {ag : Value} {G : Nat} {o h l c : Int} {V : World} {p1 p2 p3 : Nat} {W : World} (HO : HidS G o h l c V) (hW : Below V.heap.size V W) (z1 : R3 (.int .i64 l) (.int .i64 1) (.int .i64 h) W p1) (z2 : R3 (.int .i64 o) (.int .i64 l) (.int .i64 h) W p2) (z3 : Z3 W p3) (_ : p1 ≠ p2) (n13 : p1 ≠ p3) (n23 : p2 ≠ p3) (_ : V.heap.size ≤ p1) (_ : V.heap.size ≤ p2) (b3 : V.heap.size ≤ p3) :
    wpAnyH Tryd.prog .any ops1 (QF ag G o h l c V) (S5 G o h l c V) 1 #[true, true, true, true, true, true, true, true, true, true, true, true, true, true, true, true, true, true, true, true, true, true, true, true, false] (act ag G o h l c (.pointer (some ⟨p1, 0, none⟩)) (.pointer (some ⟨p2, 0, none⟩)) (.pointer (some ⟨p3, 0, none⟩)) (.agg #[.int .i64 l, .int .i64 1, .int .i64 h]) (.agg #[.int .i64 o, .int .i64 l, .int .i64 h]) (.agg #[.int .i64 c, .int .i64 l, .int .i64 h])) W := by
  unfold act
  refine wpAnyH_ready (rs := [24]) (by kernel_rfl) (by simp) ?_
  refine AllReadyH.cons (o := { dst := none, op := .store 47 (.tmp 5) (.tmp 24), type := 0, pos := "join.go:34", after := _, guard := none }) rfl (fun K hK => ?_) AllReadyH.nil
  obtain ⟨c0, c1, c2, f0, f1, f2⟩ := z3.facts
  have hB := ((hW.setCell (p := ⟨p3, 0, none⟩) b3 (.int .i64 c)).setCell (p := ⟨p3, 1, none⟩) b3 (.int .i64 l)).setCell (p := ⟨p3, 2, none⟩) b3 (.int .i64 h)
  go_simp
  refine hK.out _ _ (HO.out _ hB) (fun _ => ?_)
  exact fin3 hB (z1.set (n13.symm) _ _ _) (z2.set (n23.symm) _ _ _) (z3.put _ _ _)
theorem fin1 {ag : Value} {G : Nat} {o h l c : Int} {V : World} {p1 p2 p3 : Nat} {W : World} (HO : HidS G o h l c V) (hW : Below V.heap.size V W) (z1 : R3 (.int .i64 l) (.int .i64 1) (.int .i64 h) W p1) (z2 : Z3 W p2) (z3 : Z3 W p3) (n12 : p1 ≠ p2) (n13 : p1 ≠ p3) (n23 : p2 ≠ p3) (b1 : V.heap.size ≤ p1) (b2 : V.heap.size ≤ p2) (b3 : V.heap.size ≤ p3) :
    wpAnyH Tryd.prog .any ops1 (QF ag G o h l c V) (S5 G o h l c V) 2 #[true, true, true, true, true, true, true, true, true, true, true, true, true, true, true, true, true, true, true, true, true, true, true, false, false] (act ag G o h l c (.pointer (some ⟨p1, 0, none⟩)) (.pointer (some ⟨p2, 0, none⟩)) (.pointer (some ⟨p3, 0, none⟩)) (.agg #[.int .i64 l, .int .i64 1, .int .i64 h]) (.agg #[.int .i64 o, .int .i64 l, .int .i64 h]) (.agg #[.int .i64 c, .int .i64 l, .int .i64 h])) W := by
  unfold act
  refine wpAnyH_ready (rs := [23]) (by kernel_rfl) (by simp) ?_
  refine AllReadyH.cons (o := { dst := none, op := .store 47 (.tmp 4) (.tmp 17), type := 0, pos := "join.go:34", after := _, guard := none }) rfl (fun K hK => ?_) AllReadyH.nil
  obtain ⟨c0, c1, c2, f0, f1, f2⟩ := z2.facts
  have hB := ((hW.setCell (p := ⟨p2, 0, none⟩) b2 (.int .i64 o)).setCell (p := ⟨p2, 1, none⟩) b2 (.int .i64 l)).setCell (p := ⟨p2, 2, none⟩) b2 (.int .i64 h)
  go_simp
  refine hK.out _ _ (HO.out _ hB) (fun _ => ?_)
  exact fin2 HO hB (z1.set (n12.symm) _ _ _) (z2.put _ _ _) (z3.set (n23) _ _ _) n12 n13 n23 b1 b2 b3
theorem fin0 {ag : Value} {G : Nat} {o h l c : Int} {V : World} {p1 p2 p3 : Nat} {W : World} (HO : HidS G o h l c V) (hW : Below V.heap.size V W) (z1 : Z3 W p1) (z2 : Z3 W p2) (z3 : Z3 W p3) (n12 : p1 ≠ p2) (n13 : p1 ≠ p3) (n23 : p2 ≠ p3) (b1 : V.heap.size ≤ p1) (b2 : V.heap.size ≤ p2) (b3 : V.heap.size ≤ p3) :
    wpAnyH Tryd.prog .any ops1 (QF ag G o h l c V) (S5 G o h l c V) 3 #[true, true, true, true, true, true, true, true, true, true, true, true, true, true, true, true, true, true, true, true, true, true, false, false, false] (act ag G o h l c (.pointer (some ⟨p1, 0, none⟩)) (.pointer (some ⟨p2, 0, none⟩)) (.pointer (some ⟨p3, 0, none⟩)) (.agg #[.int .i64 l, .int .i64 1, .int .i64 h]) (.agg #[.int .i64 o, .int .i64 l, .int .i64 h]) (.agg #[.int .i64 c, .int .i64 l, .int .i64 h])) W := by
  unfold act
  refine wpAnyH_ready (rs := [22]) (by kernel_rfl) (by simp) ?_
  refine AllReadyH.cons (o := { dst := none, op := .store 47 (.tmp 3) (.tmp 10), type := 0, pos := "join.go:34", after := _, guard := none }) rfl (fun K hK => ?_) AllReadyH.nil
  obtain ⟨c0, c1, c2, f0, f1, f2⟩ := z1.facts
  have hB := ((hW.setCell (p := ⟨p1, 0, none⟩) b1 (.int .i64 l)).setCell (p := ⟨p1, 1, none⟩) b1 (.int .i64 1)).setCell (p := ⟨p1, 2, none⟩) b1 (.int .i64 h)
  go_simp
  refine hK.out _ _ (HO.out _ hB) (fun _ => ?_)
  exact fin1 HO hB (z1.put _ _ _) (z2.set (n12) _ _ _) (z3.set (n13) _ _ _) n12 n13 n23 b1 b2 b3
theorem st312 {ag : Value} {G : Nat} {o h l c : Int} {V : World} {p1 p2 : Nat} {W : World} (HO : HidS G o h l c V) (hW : Below V.heap.size V W) (z1 : Z3 W p1) (z2 : Z3 W p2) (n12 : p1 ≠ p2) (b1 : V.heap.size ≤ p1) (b2 : V.heap.size ≤ p2) :
    wpAnyH Tryd.prog .any ops1 (QF ag G o h l c V) (S5 G o h l c V) 4 #[true, true, true, true, true, true, true, true, true, true, true, true, true, true, true, true, true, true, true, true, true, false, false, false, false] (act ag G o h l c (.pointer (some ⟨p1, 0, none⟩)) (.pointer (some ⟨p2, 0, none⟩)) (undef) (.agg #[.int .i64 l, .int .i64 1, .int .i64 h]) (.agg #[.int .i64 o, .int .i64 l, .int .i64 h]) (.agg #[.int .i64 c, .int .i64 l, .int .i64 h])) W := by
  unfold act
  refine wpAnyH_ready (rs := [21]) (by kernel_rfl) (by simp) ?_
  refine AllReadyH.cons (o := { dst := some 5, op := .alloc 47, type := 0, pos := "join.go:34", after := _, guard := none }) rfl (fun K hK => ?_) ?_
  · go_simp
    refine hK.out _ _ (HO.out _ (bal hW _)) (fun _ => ?_)
    exact fin0 HO (bal hW _) (z1.alloc _) (z2.alloc _) (Z3.new W) n12 (Nat.ne_of_lt z1.lt) (Nat.ne_of_lt z2.lt) b1 b2 hW.size
  exact AllReadyH.nil
theorem st313 {ag : Value} {G : Nat} {o h l c : Int} {V : World} {p1 p3 : Nat} {W : World} (HO : HidS G o h l c V) (hW : Below V.heap.size V W) (z1 : Z3 W p1) (z3 : Z3 W p3) (n13 : p1 ≠ p3) (b1 : V.heap.size ≤ p1) (b3 : V.heap.size ≤ p3) :
    wpAnyH Tryd.prog .any ops1 (QF ag G o h l c V) (S5 G o h l c V) 4 #[true, true, true, true, true, true, true, true, true, true, true, true, true, true, true, true, true, true, true, true, false, true, false, false, false] (act ag G o h l c (.pointer (some ⟨p1, 0, none⟩)) (undef) (.pointer (some ⟨p3, 0, none⟩)) (.agg #[.int .i64 l, .int .i64 1, .int .i64 h]) (.agg #[.int .i64 o, .int .i64 l, .int .i64 h]) (.agg #[.int .i64 c, .int .i64 l, .int .i64 h])) W := by
  unfold act
  refine wpAnyH_ready (rs := [20]) (by kernel_rfl) (by simp) ?_
  refine AllReadyH.cons (o := { dst := some 4, op := .alloc 47, type := 0, pos := "join.go:34", after := _, guard := none }) rfl (fun K hK => ?_) ?_
  · go_simp
    refine hK.out _ _ (HO.out _ (bal hW _)) (fun _ => ?_)
    exact fin0 HO (bal hW _) (z1.alloc _) (Z3.new W) (z3.alloc _) (Nat.ne_of_lt z1.lt) n13 (Nat.ne_of_gt z3.lt) b1 hW.size b3
  exact AllReadyH.nil
theorem st323 {ag : Value} {G : Nat} {o h l c : Int} {V : World} {p2 p3 : Nat} {W : World} (HO : HidS G o h l c V) (hW : Below V.heap.size V W) (z2 : Z3 W p2) (z3 : Z3 W p3) (n23 : p2 ≠ p3) (b2 : V.heap.size ≤ p2) (b3 : V.heap.size ≤ p3) :
    wpAnyH Tryd.prog .any ops1 (QF ag G o h l c V) (S5 G o h l c V) 4 #[true, true, true, true, true, true, true, true, true, true, true, true, true, true, true, true, true, true, true, false, true, true, false, false, false] (act ag G o h l c (undef) (.pointer (some ⟨p2, 0, none⟩)) (.pointer (some ⟨p3, 0, none⟩)) (.agg #[.int .i64 l, .int .i64 1, .int .i64 h]) (.agg #[.int .i64 o, .int .i64 l, .int .i64 h]) (.agg #[.int .i64 c, .int .i64 l, .int .i64 h])) W := by
  unfold act
  refine wpAnyH_ready (rs := [19]) (by kernel_rfl) (by simp) ?_
  refine AllReadyH.cons (o := { dst := some 3, op := .alloc 47, type := 0, pos := "join.go:34", after := _, guard := none }) rfl (fun K hK => ?_) ?_
  · go_simp
    refine hK.out _ _ (HO.out _ (bal hW _)) (fun _ => ?_)
    exact fin0 HO (bal hW _) (Z3.new W) (z2.alloc _) (z3.alloc _) (Nat.ne_of_gt z2.lt) (Nat.ne_of_gt z3.lt) n23 hW.size b2 b3
  exact AllReadyH.nil
theorem st31 {ag : Value} {G : Nat} {o h l c : Int} {V : World} {p1 : Nat} {W : World} (HO : HidS G o h l c V) (hW : Below V.heap.size V W) (z1 : Z3 W p1) (b1 : V.heap.size ≤ p1) :
    wpAnyH Tryd.prog .any ops1 (QF ag G o h l c V) (S5 G o h l c V) 5 #[true, true, true, true, true, true, true, true, true, true, true, true, true, true, true, true, true, true, true, true, false, false, false, false, false] (act ag G o h l c (.pointer (some ⟨p1, 0, none⟩)) (undef) (undef) (.agg #[.int .i64 l, .int .i64 1, .int .i64 h]) (.agg #[.int .i64 o, .int .i64 l, .int .i64 h]) (.agg #[.int .i64 c, .int .i64 l, .int .i64 h])) W := by
  unfold act
  refine wpAnyH_ready (rs := [20, 21]) (by kernel_rfl) (by simp) ?_
  refine AllReadyH.cons (o := { dst := some 4, op := .alloc 47, type := 0, pos := "join.go:34", after := _, guard := none }) rfl (fun K hK => ?_) ?_
  · go_simp
    refine hK.out _ _ (HO.out _ (bal hW _)) (fun _ => ?_)
    exact st312 HO (bal hW _) (z1.alloc _) (Z3.new W) (Nat.ne_of_lt z1.lt) b1 hW.size
  refine AllReadyH.cons (o := { dst := some 5, op := .alloc 47, type := 0, pos := "join.go:34", after := _, guard := none }) rfl (fun K hK => ?_) ?_
  · go_simp
    refine hK.out _ _ (HO.out _ (bal hW _)) (fun _ => ?_)
    exact st313 HO (bal hW _) (z1.alloc _) (Z3.new W) (Nat.ne_of_lt z1.lt) b1 hW.size
  exact AllReadyH.nil
theorem st32 {ag : Value} {G : Nat} {o h l c : Int} {V : World} {p2 : Nat} {W : World} (HO : HidS G o h l c V) (hW : Below V.heap.size V W) (z2 : Z3 W p2) (b2 : V.heap.size ≤ p2) :
    wpAnyH Tryd.prog .any ops1 (QF ag G o h l c V) (S5 G o h l c V) 5 #[true, true, true, true, true, true, true, true, true, true, true, true, true, true, true, true, true, true, true, false, true, false, false, false, false] (act ag G o h l c (undef) (.pointer (some ⟨p2, 0, none⟩)) (undef) (.agg #[.int .i64 l, .int .i64 1, .int .i64 h]) (.agg #[.int .i64 o, .int .i64 l, .int .i64 h]) (.agg #[.int .i64 c, .int .i64 l, .int .i64 h])) W := by
  unfold act
  refine wpAnyH_ready (rs := [19, 21]) (by kernel_rfl) (by simp) ?_
  refine AllReadyH.cons (o := { dst := some 3, op := .alloc 47, type := 0, pos := "join.go:34", after := _, guard := none }) rfl (fun K hK => ?_) ?_
  · go_simp
    refine hK.out _ _ (HO.out _ (bal hW _)) (fun _ => ?_)
    exact st312 HO (bal hW _) (Z3.new W) (z2.alloc _) (Nat.ne_of_gt z2.lt) hW.size b2
  refine AllReadyH.cons (o := { dst := some 5, op := .alloc 47, type := 0, pos := "join.go:34", after := _, guard := none }) rfl (fun K hK => ?_) ?_
  · go_simp
    refine hK.out _ _ (HO.out _ (bal hW _)) (fun _ => ?_)
    exact st323 HO (bal hW _) (z2.alloc _) (Z3.new W) (Nat.ne_of_lt z2.lt) b2 hW.size
  exact AllReadyH.nil
theorem st33 {ag : Value} {G : Nat} {o h l c : Int} {V : World} {p3 : Nat} {W : World} (HO : HidS G o h l c V) (hW : Below V.heap.size V W) (z3 : Z3 W p3) (b3 : V.heap.size ≤ p3) :
    wpAnyH Tryd.prog .any ops1 (QF ag G o h l c V) (S5 G o h l c V) 5 #[true, true, true, true, true, true, true, true, true, true, true, true, true, true, true, true, true, true, true, false, false, true, false, false, false] (act ag G o h l c (undef) (undef) (.pointer (some ⟨p3, 0, none⟩)) (.agg #[.int .i64 l, .int .i64 1, .int .i64 h]) (.agg #[.int .i64 o, .int .i64 l, .int .i64 h]) (.agg #[.int .i64 c, .int .i64 l, .int .i64 h])) W := by
  unfold act
  refine wpAnyH_ready (rs := [19, 20]) (by kernel_rfl) (by simp) ?_
  refine AllReadyH.cons (o := { dst := some 3, op := .alloc 47, type := 0, pos := "join.go:34", after := _, guard := none }) rfl (fun K hK => ?_) ?_
  · go_simp
    refine hK.out _ _ (HO.out _ (bal hW _)) (fun _ => ?_)
    exact st313 HO (bal hW _) (Z3.new W) (z3.alloc _) (Nat.ne_of_gt z3.lt) hW.size b3
  refine AllReadyH.cons (o := { dst := some 4, op := .alloc 47, type := 0, pos := "join.go:34", after := _, guard := none }) rfl (fun K hK => ?_) ?_
  · go_simp
    refine hK.out _ _ (HO.out _ (bal hW _)) (fun _ => ?_)
    exact st323 HO (bal hW _) (Z3.new W) (z3.alloc _) (Nat.ne_of_gt z3.lt) hW.size b3
  exact AllReadyH.nil
theorem st30 {ag : Value} {G : Nat} {o h l c : Int} {V : World} {W : World} (HO : HidS G o h l c V) (hW : Below V.heap.size V W) :
    wpAnyH Tryd.prog .any ops1 (QF ag G o h l c V) (S5 G o h l c V) 6 #[true, true, true, true, true, true, true, true, true, true, true, true, true, true, true, true, true, true, true, false, false, false, false, false, false] (act ag G o h l c (undef) (undef) (undef) (.agg #[.int .i64 l, .int .i64 1, .int .i64 h]) (.agg #[.int .i64 o, .int .i64 l, .int .i64 h]) (.agg #[.int .i64 c, .int .i64 l, .int .i64 h])) W := by
  unfold act
  refine wpAnyH_ready (rs := [19, 20, 21]) (by kernel_rfl) (by simp) ?_
  refine AllReadyH.cons (o := { dst := some 3, op := .alloc 47, type := 0, pos := "join.go:34", after := _, guard := none }) rfl (fun K hK => ?_) ?_
  · go_simp
    refine hK.out _ _ (HO.out _ (bal hW _)) (fun _ => ?_)
    exact st31 HO (bal hW _) (Z3.new W) hW.size
  refine AllReadyH.cons (o := { dst := some 4, op := .alloc 47, type := 0, pos := "join.go:34", after := _, guard := none }) rfl (fun K hK => ?_) ?_
  · go_simp
    refine hK.out _ _ (HO.out _ (bal hW _)) (fun _ => ?_)
    exact st32 HO (bal hW _) (Z3.new W) hW.size
  refine AllReadyH.cons (o := { dst := some 5, op := .alloc 47, type := 0, pos := "join.go:34", after := _, guard := none }) rfl (fun K hK => ?_) ?_
  · go_simp
    refine hK.out _ _ (HO.out _ (bal hW _)) (fun _ => ?_)
    exact st33 HO (bal hW _) (Z3.new W) hW.size
  exact AllReadyH.nil
theorem st2123 {ag : Value} {G : Nat} {o h l c : Int} {V : World} {p1 p2 p3 : Nat} {W : World} (HO : HidS G o h l c V) (hW : Below V.heap.size V W) (z1 : Z3 W p1) (z2 : Z3 W p2) (z3 : Z3 W p3) (n12 : p1 ≠ p2) (n13 : p1 ≠ p3) (n23 : p2 ≠ p3) (b1 : V.heap.size ≤ p1) (b2 : V.heap.size ≤ p2) (b3 : V.heap.size ≤ p3) :
    wpAnyH Tryd.prog .any ops1 (QF ag G o h l c V) (S5 G o h l c V) 4 #[true, true, true, true, true, true, true, true, true, true, true, true, true, true, true, true, true, true, false, true, true, true, false, false, false] (act ag G o h l c (.pointer (some ⟨p1, 0, none⟩)) (.pointer (some ⟨p2, 0, none⟩)) (.pointer (some ⟨p3, 0, none⟩)) (.agg #[.int .i64 l, .int .i64 1, .int .i64 h]) (.agg #[.int .i64 o, .int .i64 l, .int .i64 h]) (undef)) W := by
  unfold act
  refine wpAnyH_ready (rs := [18]) (by kernel_rfl) (by simp) ?_
  refine AllReadyH.cons (o := { dst := some 24, op := .call { callee := .value (.func 15), args := #[.tmp 19, .tmp 21, .tmp 23], argTypes := #[3, 3, 3] }, type := 47, pos := "join.go:34", after := _, guard := none }) rfl (fun K hK => ?_) ?_
  · go_simp
    refine (ofK V _ _ _ W hW).mono ?_
    rintro e W2 ⟨rfl, hk⟩
    refine hK.out _ _ (HO.out _ hk.far) (fun _ => ?_)
    exact fin0 HO hk.far (hk.zed _ z1) (hk.zed _ z2) (hk.zed _ z3) n12 n13 n23 b1 b2 b3
  exact AllReadyH.nil
theorem st212 {ag : Value} {G : Nat} {o h l c : Int} {V : World} {p1 p2 : Nat} {W : World} (HO : HidS G o h l c V) (hW : Below V.heap.size V W) (z1 : Z3 W p1) (z2 : Z3 W p2) (n12 : p1 ≠ p2) (b1 : V.heap.size ≤ p1) (b2 : V.heap.size ≤ p2) :
    wpAnyH Tryd.prog .any ops1 (QF ag G o h l c V) (S5 G o h l c V) 5 #[true, true, true, true, true, true, true, true, true, true, true, true, true, true, true, true, true, true, false, true, true, false, false, false, false] (act ag G o h l c (.pointer (some ⟨p1, 0, none⟩)) (.pointer (some ⟨p2, 0, none⟩)) (undef) (.agg #[.int .i64 l, .int .i64 1, .int .i64 h]) (.agg #[.int .i64 o, .int .i64 l, .int .i64 h]) (undef)) W := by
  unfold act
  refine wpAnyH_ready (rs := [18, 21]) (by kernel_rfl) (by simp) ?_
  refine AllReadyH.cons (o := { dst := some 24, op := .call { callee := .value (.func 15), args := #[.tmp 19, .tmp 21, .tmp 23], argTypes := #[3, 3, 3] }, type := 47, pos := "join.go:34", after := _, guard := none }) rfl (fun K hK => ?_) ?_
  · go_simp
    refine (ofK V _ _ _ W hW).mono ?_
    rintro e W2 ⟨rfl, hk⟩
    refine hK.out _ _ (HO.out _ hk.far) (fun _ => ?_)
    exact st312 HO hk.far (hk.zed _ z1) (hk.zed _ z2) n12 b1 b2
  refine AllReadyH.cons (o := { dst := some 5, op := .alloc 47, type := 0, pos := "join.go:34", after := _, guard := none }) rfl (fun K hK => ?_) ?_
  · go_simp
    refine hK.out _ _ (HO.out _ (bal hW _)) (fun _ => ?_)
    exact st2123 HO (bal hW _) (z1.alloc _) (z2.alloc _) (Z3.new W) n12 (Nat.ne_of_lt z1.lt) (Nat.ne_of_lt z2.lt) b1 b2 hW.size
  exact AllReadyH.nil
theorem st213 {ag : Value} {G : Nat} {o h l c : Int} {V : World} {p1 p3 : Nat} {W : World} (HO : HidS G o h l c V) (hW : Below V.heap.size V W) (z1 : Z3 W p1) (z3 : Z3 W p3) (n13 : p1 ≠ p3) (b1 : V.heap.size ≤ p1) (b3 : V.heap.size ≤ p3) :
    wpAnyH Tryd.prog .any ops1 (QF ag G o h l c V) (S5 G o h l c V) 5 #[true, true, true, true, true, true, true, true, true, true, true, true, true, true, true, true, true, true, false, true, false, true, false, false, false] (act ag G o h l c (.pointer (some ⟨p1, 0, none⟩)) (undef) (.pointer (some ⟨p3, 0, none⟩)) (.agg #[.int .i64 l, .int .i64 1, .int .i64 h]) (.agg #[.int .i64 o, .int .i64 l, .int .i64 h]) (undef)) W := by
  unfold act
  refine wpAnyH_ready (rs := [18, 20]) (by kernel_rfl) (by simp) ?_
  refine AllReadyH.cons (o := { dst := some 24, op := .call { callee := .value (.func 15), args := #[.tmp 19, .tmp 21, .tmp 23], argTypes := #[3, 3, 3] }, type := 47, pos := "join.go:34", after := _, guard := none }) rfl (fun K hK => ?_) ?_
  · go_simp
    refine (ofK V _ _ _ W hW).mono ?_
    rintro e W2 ⟨rfl, hk⟩
    refine hK.out _ _ (HO.out _ hk.far) (fun _ => ?_)
    exact st313 HO hk.far (hk.zed _ z1) (hk.zed _ z3) n13 b1 b3
  refine AllReadyH.cons (o := { dst := some 4, op := .alloc 47, type := 0, pos := "join.go:34", after := _, guard := none }) rfl (fun K hK => ?_) ?_
  · go_simp
    refine hK.out _ _ (HO.out _ (bal hW _)) (fun _ => ?_)
    exact st2123 HO (bal hW _) (z1.alloc _) (Z3.new W) (z3.alloc _) (Nat.ne_of_lt z1.lt) n13 (Nat.ne_of_gt z3.lt) b1 hW.size b3
  exact AllReadyH.nil
theorem st223 {ag : Value} {G : Nat} {o h l c : Int} {V : World} {p2 p3 : Nat} {W : World} (HO : HidS G o h l c V) (hW : Below V.heap.size V W) (z2 : Z3 W p2) (z3 : Z3 W p3) (n23 : p2 ≠ p3) (b2 : V.heap.size ≤ p2) (b3 : V.heap.size ≤ p3) :
    wpAnyH Tryd.prog .any ops1 (QF ag G o h l c V) (S5 G o h l c V) 5 #[true, true, true, true, true, true, true, true, true, true, true, true, true, true, true, true, true, true, false, false, true, true, false, false, false] (act ag G o h l c (undef) (.pointer (some ⟨p2, 0, none⟩)) (.pointer (some ⟨p3, 0, none⟩)) (.agg #[.int .i64 l, .int .i64 1, .int .i64 h]) (.agg #[.int .i64 o, .int .i64 l, .int .i64 h]) (undef)) W := by
  unfold act
  refine wpAnyH_ready (rs := [18, 19]) (by kernel_rfl) (by simp) ?_
  refine AllReadyH.cons (o := { dst := some 24, op := .call { callee := .value (.func 15), args := #[.tmp 19, .tmp 21, .tmp 23], argTypes := #[3, 3, 3] }, type := 47, pos := "join.go:34", after := _, guard := none }) rfl (fun K hK => ?_) ?_
  · go_simp
    refine (ofK V _ _ _ W hW).mono ?_
    rintro e W2 ⟨rfl, hk⟩
    refine hK.out _ _ (HO.out _ hk.far) (fun _ => ?_)
    exact st323 HO hk.far (hk.zed _ z2) (hk.zed _ z3) n23 b2 b3
  refine AllReadyH.cons (o := { dst := some 3, op := .alloc 47, type := 0, pos := "join.go:34", after := _, guard := none }) rfl (fun K hK => ?_) ?_
  · go_simp
    refine hK.out _ _ (HO.out _ (bal hW _)) (fun _ => ?_)
    exact st2123 HO (bal hW _) (Z3.new W) (z2.alloc _) (z3.alloc _) (Nat.ne_of_gt z2.lt) (Nat.ne_of_gt z3.lt) n23 hW.size b2 b3
  exact AllReadyH.nil
theorem st21 {ag : Value} {G : Nat} {o h l c : Int} {V : World} {p1 : Nat} {W : World} (HO : HidS G o h l c V) (hW : Below V.heap.size V W) (z1 : Z3 W p1) (b1 : V.heap.size ≤ p1) :
    wpAnyH Tryd.prog .any ops1 (QF ag G o h l c V) (S5 G o h l c V) 6 #[true, true, true, true, true, true, true, true, true, true, true, true, true, true, true, true, true, true, false, true, false, false, false, false, false] (act ag G o h l c (.pointer (some ⟨p1, 0, none⟩)) (undef) (undef) (.agg #[.int .i64 l, .int .i64 1, .int .i64 h]) (.agg #[.int .i64 o, .int .i64 l, .int .i64 h]) (undef)) W := by
  unfold act
  refine wpAnyH_ready (rs := [18, 20, 21]) (by kernel_rfl) (by simp) ?_
  refine AllReadyH.cons (o := { dst := some 24, op := .call { callee := .value (.func 15), args := #[.tmp 19, .tmp 21, .tmp 23], argTypes := #[3, 3, 3] }, type := 47, pos := "join.go:34", after := _, guard := none }) rfl (fun K hK => ?_) ?_
  · go_simp
    refine (ofK V _ _ _ W hW).mono ?_
    rintro e W2 ⟨rfl, hk⟩
    refine hK.out _ _ (HO.out _ hk.far) (fun _ => ?_)
    exact st31 HO hk.far (hk.zed _ z1) b1
  refine AllReadyH.cons (o := { dst := some 4, op := .alloc 47, type := 0, pos := "join.go:34", after := _, guard := none }) rfl (fun K hK => ?_) ?_
  · go_simp
    refine hK.out _ _ (HO.out _ (bal hW _)) (fun _ => ?_)
    exact st212 HO (bal hW _) (z1.alloc _) (Z3.new W) (Nat.ne_of_lt z1.lt) b1 hW.size
  refine AllReadyH.cons (o := { dst := some 5, op := .alloc 47, type := 0, pos := "join.go:34", after := _, guard := none }) rfl (fun K hK => ?_) ?_
  · go_simp
    refine hK.out _ _ (HO.out _ (bal hW _)) (fun _ => ?_)
    exact st213 HO (bal hW _) (z1.alloc _) (Z3.new W) (Nat.ne_of_lt z1.lt) b1 hW.size
  exact AllReadyH.nil
theorem st22 {ag : Value} {G : Nat} {o h l c : Int} {V : World} {p2 : Nat} {W : World} (HO : HidS G o h l c V) (hW : Below V.heap.size V W) (z2 : Z3 W p2) (b2 : V.heap.size ≤ p2) :
    wpAnyH Tryd.prog .any ops1 (QF ag G o h l c V) (S5 G o h l c V) 6 #[true, true, true, true, true, true, true, true, true, true, true, true, true, true, true, true, true, true, false, false, true, false, false, false, false] (act ag G o h l c (undef) (.pointer (some ⟨p2, 0, none⟩)) (undef) (.agg #[.int .i64 l, .int .i64 1, .int .i64 h]) (.agg #[.int .i64 o, .int .i64 l, .int .i64 h]) (undef)) W := by
  unfold act
  refine wpAnyH_ready (rs := [18, 19, 21]) (by kernel_rfl) (by simp) ?_
  refine AllReadyH.cons (o := { dst := some 24, op := .call { callee := .value (.func 15), args := #[.tmp 19, .tmp 21, .tmp 23], argTypes := #[3, 3, 3] }, type := 47, pos := "join.go:34", after := _, guard := none }) rfl (fun K hK => ?_) ?_
  · go_simp
    refine (ofK V _ _ _ W hW).mono ?_
    rintro e W2 ⟨rfl, hk⟩
    refine hK.out _ _ (HO.out _ hk.far) (fun _ => ?_)
    exact st32 HO hk.far (hk.zed _ z2) b2
  refine AllReadyH.cons (o := { dst := some 3, op := .alloc 47, type := 0, pos := "join.go:34", after := _, guard := none }) rfl (fun K hK => ?_) ?_
  · go_simp
    refine hK.out _ _ (HO.out _ (bal hW _)) (fun _ => ?_)
    exact st212 HO (bal hW _) (Z3.new W) (z2.alloc _) (Nat.ne_of_gt z2.lt) hW.size b2
  refine AllReadyH.cons (o := { dst := some 5, op := .alloc 47, type := 0, pos := "join.go:34", after := _, guard := none }) rfl (fun K hK => ?_) ?_
  · go_simp
    refine hK.out _ _ (HO.out _ (bal hW _)) (fun _ => ?_)
    exact st223 HO (bal hW _) (z2.alloc _) (Z3.new W) (Nat.ne_of_lt z2.lt) b2 hW.size
  exact AllReadyH.nil
theorem st23 {ag : Value} {G : Nat} {o h l c : Int} {V : World} {p3 : Nat} {W : World} (HO : HidS G o h l c V) (hW : Below V.heap.size V W) (z3 : Z3 W p3) (b3 : V.heap.size ≤ p3) :
    wpAnyH Tryd.prog .any ops1 (QF ag G o h l c V) (S5 G o h l c V) 6 #[true, true, true, true, true, true, true, true, true, true, true, true, true, true, true, true, true, true, false, false, false, true, false, false, false] (act ag G o h l c (undef) (undef) (.pointer (some ⟨p3, 0, none⟩)) (.agg #[.int .i64 l, .int .i64 1, .int .i64 h]) (.agg #[.int .i64 o, .int .i64 l, .int .i64 h]) (undef)) W := by
  unfold act
  refine wpAnyH_ready (rs := [18, 19, 20]) (by kernel_rfl) (by simp) ?_
  refine AllReadyH.cons (o := { dst := some 24, op := .call { callee := .value (.func 15), args := #[.tmp 19, .tmp 21, .tmp 23], argTypes := #[3, 3, 3] }, type := 47, pos := "join.go:34", after := _, guard := none }) rfl (fun K hK => ?_) ?_
  · go_simp
    refine (ofK V _ _ _ W hW).mono ?_
    rintro e W2 ⟨rfl, hk⟩
    refine hK.out _ _ (HO.out _ hk.far) (fun _ => ?_)
    exact st33 HO hk.far (hk.zed _ z3) b3
  refine AllReadyH.cons (o := { dst := some 3, op := .alloc 47, type := 0, pos := "join.go:34", after := _, guard := none }) rfl (fun K hK => ?_) ?_
  · go_simp
    refine hK.out _ _ (HO.out _ (bal hW _)) (fun _ => ?_)
    exact st213 HO (bal hW _) (Z3.new W) (z3.alloc _) (Nat.ne_of_gt z3.lt) hW.size b3
  refine AllReadyH.cons (o := { dst := some 4, op := .alloc 47, type := 0, pos := "join.go:34", after := _, guard := none }) rfl (fun K hK => ?_) ?_
  · go_simp
    refine hK.out _ _ (HO.out _ (bal hW _)) (fun _ => ?_)
    exact st223 HO (bal hW _) (Z3.new W) (z3.alloc _) (Nat.ne_of_gt z3.lt) hW.size b3
  exact AllReadyH.nil
theorem st20 {ag : Value} {G : Nat} {o h l c : Int} {V : World} {W : World} (HO : HidS G o h l c V) (hW : Below V.heap.size V W) :
    wpAnyH Tryd.prog .any ops1 (QF ag G o h l c V) (S5 G o h l c V) 7 #[true, true, true, true, true, true, true, true, true, true, true, true, true, true, true, true, true, true, false, false, false, false, false, false, false] (act ag G o h l c (undef) (undef) (undef) (.agg #[.int .i64 l, .int .i64 1, .int .i64 h]) (.agg #[.int .i64 o, .int .i64 l, .int .i64 h]) (undef)) W := by
  unfold act
  refine wpAnyH_ready (rs := [18, 19, 20, 21]) (by kernel_rfl) (by simp) ?_
  refine AllReadyH.cons (o := { dst := some 24, op := .call { callee := .value (.func 15), args := #[.tmp 19, .tmp 21, .tmp 23], argTypes := #[3, 3, 3] }, type := 47, pos := "join.go:34", after := _, guard := none }) rfl (fun K hK => ?_) ?_
  · go_simp
    refine (ofK V _ _ _ W hW).mono ?_
    rintro e W2 ⟨rfl, hk⟩
    refine hK.out _ _ (HO.out _ hk.far) (fun _ => ?_)
    exact st30 HO hk.far
  refine AllReadyH.cons (o := { dst := some 3, op := .alloc 47, type := 0, pos := "join.go:34", after := _, guard := none }) rfl (fun K hK => ?_) ?_
  · go_simp
    refine hK.out _ _ (HO.out _ (bal hW _)) (fun _ => ?_)
    exact st21 HO (bal hW _) (Z3.new W) hW.size
  refine AllReadyH.cons (o := { dst := some 4, op := .alloc 47, type := 0, pos := "join.go:34", after := _, guard := none }) rfl (fun K hK => ?_) ?_
  · go_simp
    refine hK.out _ _ (HO.out _ (bal hW _)) (fun _ => ?_)
    exact st22 HO (bal hW _) (Z3.new W) hW.size
  refine AllReadyH.cons (o := { dst := some 5, op := .alloc 47, type := 0, pos := "join.go:34", after := _, guard := none }) rfl (fun K hK => ?_) ?_
  · go_simp
    refine hK.out _ _ (HO.out _ (bal hW _)) (fun _ => ?_)
    exact st23 HO (bal hW _) (Z3.new W) hW.size
  exact AllReadyH.nil
theorem st1123 {ag : Value} {G : Nat} {o h l c : Int} {V : World} {p1 p2 p3 : Nat} {W : World} (HO : HidS G o h l c V) (hW : Below V.heap.size V W) (z1 : Z3 W p1) (z2 : Z3 W p2) (z3 : Z3 W p3) (n12 : p1 ≠ p2) (n13 : p1 ≠ p3) (n23 : p2 ≠ p3) (b1 : V.heap.size ≤ p1) (b2 : V.heap.size ≤ p2) (b3 : V.heap.size ≤ p3) :
    wpAnyH Tryd.prog .any ops1 (QF ag G o h l c V) (S5 G o h l c V) 5 #[true, true, true, true, true, true, true, true, true, true, true, false, true, true, true, true, true, true, false, true, true, true, false, false, false] (act ag G o h l c (.pointer (some ⟨p1, 0, none⟩)) (.pointer (some ⟨p2, 0, none⟩)) (.pointer (some ⟨p3, 0, none⟩)) (.agg #[.int .i64 l, .int .i64 1, .int .i64 h]) (undef) (undef)) W := by
  unfold act
  refine wpAnyH_ready (rs := [11]) (by kernel_rfl) (by simp) ?_
  refine AllReadyH.cons (o := { dst := some 17, op := .call { callee := .value (.func 15), args := #[.tmp 12, .tmp 14, .tmp 16], argTypes := #[3, 3, 3] }, type := 47, pos := "join.go:34", after := _, guard := none }) rfl (fun K hK => ?_) ?_
  · go_simp
    refine (ofK V _ _ _ W hW).mono ?_
    rintro e W2 ⟨rfl, hk⟩
    refine hK.out _ _ (HO.out _ hk.far) (fun _ => ?_)
    exact st2123 HO hk.far (hk.zed _ z1) (hk.zed _ z2) (hk.zed _ z3) n12 n13 n23 b1 b2 b3
  exact AllReadyH.nil
theorem st112 {ag : Value} {G : Nat} {o h l c : Int} {V : World} {p1 p2 : Nat} {W : World} (HO : HidS G o h l c V) (hW : Below V.heap.size V W) (z1 : Z3 W p1) (z2 : Z3 W p2) (n12 : p1 ≠ p2) (b1 : V.heap.size ≤ p1) (b2 : V.heap.size ≤ p2) :
    wpAnyH Tryd.prog .any ops1 (QF ag G o h l c V) (S5 G o h l c V) 6 #[true, true, true, true, true, true, true, true, true, true, true, false, true, true, true, true, true, true, false, true, true, false, false, false, false] (act ag G o h l c (.pointer (some ⟨p1, 0, none⟩)) (.pointer (some ⟨p2, 0, none⟩)) (undef) (.agg #[.int .i64 l, .int .i64 1, .int .i64 h]) (undef) (undef)) W := by
  unfold act
  refine wpAnyH_ready (rs := [11, 21]) (by kernel_rfl) (by simp) ?_
  refine AllReadyH.cons (o := { dst := some 17, op := .call { callee := .value (.func 15), args := #[.tmp 12, .tmp 14, .tmp 16], argTypes := #[3, 3, 3] }, type := 47, pos := "join.go:34", after := _, guard := none }) rfl (fun K hK => ?_) ?_
  · go_simp
    refine (ofK V _ _ _ W hW).mono ?_
    rintro e W2 ⟨rfl, hk⟩
    refine hK.out _ _ (HO.out _ hk.far) (fun _ => ?_)
    exact st212 HO hk.far (hk.zed _ z1) (hk.zed _ z2) n12 b1 b2
  refine AllReadyH.cons (o := { dst := some 5, op := .alloc 47, type := 0, pos := "join.go:34", after := _, guard := none }) rfl (fun K hK => ?_) ?_
  · go_simp
    refine hK.out _ _ (HO.out _ (bal hW _)) (fun _ => ?_)
    exact st1123 HO (bal hW _) (z1.alloc _) (z2.alloc _) (Z3.new W) n12 (Nat.ne_of_lt z1.lt) (Nat.ne_of_lt z2.lt) b1 b2 hW.size
  exact AllReadyH.nil
theorem st113 {ag : Value} {G : Nat} {o h l c : Int} {V : World} {p1 p3 : Nat} {W : World} (HO : HidS G o h l c V) (hW : Below V.heap.size V W) (z1 : Z3 W p1) (z3 : Z3 W p3) (n13 : p1 ≠ p3) (b1 : V.heap.size ≤ p1) (b3 : V.heap.size ≤ p3) :
    wpAnyH Tryd.prog .any ops1 (QF ag G o h l c V) (S5 G o h l c V) 6 #[true, true, true, true, true, true, true, true, true, true, true, false, true, true, true, true, true, true, false, true, false, true, false, false, false] (act ag G o h l c (.pointer (some ⟨p1, 0, none⟩)) (undef) (.pointer (some ⟨p3, 0, none⟩)) (.agg #[.int .i64 l, .int .i64 1, .int .i64 h]) (undef) (undef)) W := by
  unfold act
  refine wpAnyH_ready (rs := [11, 20]) (by kernel_rfl) (by simp) ?_
  refine AllReadyH.cons (o := { dst := some 17, op := .call { callee := .value (.func 15), args := #[.tmp 12, .tmp 14, .tmp 16], argTypes := #[3, 3, 3] }, type := 47, pos := "join.go:34", after := _, guard := none }) rfl (fun K hK => ?_) ?_
  · go_simp
    refine (ofK V _ _ _ W hW).mono ?_
    rintro e W2 ⟨rfl, hk⟩
    refine hK.out _ _ (HO.out _ hk.far) (fun _ => ?_)
    exact st213 HO hk.far (hk.zed _ z1) (hk.zed _ z3) n13 b1 b3
  refine AllReadyH.cons (o := { dst := some 4, op := .alloc 47, type := 0, pos := "join.go:34", after := _, guard := none }) rfl (fun K hK => ?_) ?_
  · go_simp
    refine hK.out _ _ (HO.out _ (bal hW _)) (fun _ => ?_)
    exact st1123 HO (bal hW _) (z1.alloc _) (Z3.new W) (z3.alloc _) (Nat.ne_of_lt z1.lt) n13 (Nat.ne_of_gt z3.lt) b1 hW.size b3
  exact AllReadyH.nil
theorem st123 {ag : Value} {G : Nat} {o h l c : Int} {V : World} {p2 p3 : Nat} {W : World} (HO : HidS G o h l c V) (hW : Below V.heap.size V W) (z2 : Z3 W p2) (z3 : Z3 W p3) (n23 : p2 ≠ p3) (b2 : V.heap.size ≤ p2) (b3 : V.heap.size ≤ p3) :
    wpAnyH Tryd.prog .any ops1 (QF ag G o h l c V) (S5 G o h l c V) 6 #[true, true, true, true, true, true, true, true, true, true, true, false, true, true, true, true, true, true, false, false, true, true, false, false, false] (act ag G o h l c (undef) (.pointer (some ⟨p2, 0, none⟩)) (.pointer (some ⟨p3, 0, none⟩)) (.agg #[.int .i64 l, .int .i64 1, .int .i64 h]) (undef) (undef)) W := by
  unfold act
  refine wpAnyH_ready (rs := [11, 19]) (by kernel_rfl) (by simp) ?_
  refine AllReadyH.cons (o := { dst := some 17, op := .call { callee := .value (.func 15), args := #[.tmp 12, .tmp 14, .tmp 16], argTypes := #[3, 3, 3] }, type := 47, pos := "join.go:34", after := _, guard := none }) rfl (fun K hK => ?_) ?_
  · go_simp
    refine (ofK V _ _ _ W hW).mono ?_
    rintro e W2 ⟨rfl, hk⟩
    refine hK.out _ _ (HO.out _ hk.far) (fun _ => ?_)
    exact st223 HO hk.far (hk.zed _ z2) (hk.zed _ z3) n23 b2 b3
  refine AllReadyH.cons (o := { dst := some 3, op := .alloc 47, type := 0, pos := "join.go:34", after := _, guard := none }) rfl (fun K hK => ?_) ?_
  · go_simp
    refine hK.out _ _ (HO.out _ (bal hW _)) (fun _ => ?_)
    exact st1123 HO (bal hW _) (Z3.new W) (z2.alloc _) (z3.alloc _) (Nat.ne_of_gt z2.lt) (Nat.ne_of_gt z3.lt) n23 hW.size b2 b3
  exact AllReadyH.nil
theorem st11 {ag : Value} {G : Nat} {o h l c : Int} {V : World} {p1 : Nat} {W : World} (HO : HidS G o h l c V) (hW : Below V.heap.size V W) (z1 : Z3 W p1) (b1 : V.heap.size ≤ p1) :
    wpAnyH Tryd.prog .any ops1 (QF ag G o h l c V) (S5 G o h l c V) 7 #[true, true, true, true, true, true, true, true, true, true, true, false, true, true, true, true, true, true, false, true, false, false, false, false, false] (act ag G o h l c (.pointer (some ⟨p1, 0, none⟩)) (undef) (undef) (.agg #[.int .i64 l, .int .i64 1, .int .i64 h]) (undef) (undef)) W := by
  unfold act
  refine wpAnyH_ready (rs := [11, 20, 21]) (by kernel_rfl) (by simp) ?_
  refine AllReadyH.cons (o := { dst := some 17, op := .call { callee := .value (.func 15), args := #[.tmp 12, .tmp 14, .tmp 16], argTypes := #[3, 3, 3] }, type := 47, pos := "join.go:34", after := _, guard := none }) rfl (fun K hK => ?_) ?_
  · go_simp
    refine (ofK V _ _ _ W hW).mono ?_
    rintro e W2 ⟨rfl, hk⟩
    refine hK.out _ _ (HO.out _ hk.far) (fun _ => ?_)
    exact st21 HO hk.far (hk.zed _ z1) b1
  refine AllReadyH.cons (o := { dst := some 4, op := .alloc 47, type := 0, pos := "join.go:34", after := _, guard := none }) rfl (fun K hK => ?_) ?_
  · go_simp
    refine hK.out _ _ (HO.out _ (bal hW _)) (fun _ => ?_)
    exact st112 HO (bal hW _) (z1.alloc _) (Z3.new W) (Nat.ne_of_lt z1.lt) b1 hW.size
  refine AllReadyH.cons (o := { dst := some 5, op := .alloc 47, type := 0, pos := "join.go:34", after := _, guard := none }) rfl (fun K hK => ?_) ?_
  · go_simp
    refine hK.out _ _ (HO.out _ (bal hW _)) (fun _ => ?_)
    exact st113 HO (bal hW _) (z1.alloc _) (Z3.new W) (Nat.ne_of_lt z1.lt) b1 hW.size
  exact AllReadyH.nil
theorem st12 {ag : Value} {G : Nat} {o h l c : Int} {V : World} {p2 : Nat} {W : World} (HO : HidS G o h l c V) (hW : Below V.heap.size V W) (z2 : Z3 W p2) (b2 : V.heap.size ≤ p2) :
    wpAnyH Tryd.prog .any ops1 (QF ag G o h l c V) (S5 G o h l c V) 7 #[true, true, true, true, true, true, true, true, true, true, true, false, true, true, true, true, true, true, false, false, true, false, false, false, false] (act ag G o h l c (undef) (.pointer (some ⟨p2, 0, none⟩)) (undef) (.agg #[.int .i64 l, .int .i64 1, .int .i64 h]) (undef) (undef)) W := by
  unfold act
  refine wpAnyH_ready (rs := [11, 19, 21]) (by kernel_rfl) (by simp) ?_
  refine AllReadyH.cons (o := { dst := some 17, op := .call { callee := .value (.func 15), args := #[.tmp 12, .tmp 14, .tmp 16], argTypes := #[3, 3, 3] }, type := 47, pos := "join.go:34", after := _, guard := none }) rfl (fun K hK => ?_) ?_
  · go_simp
    refine (ofK V _ _ _ W hW).mono ?_
    rintro e W2 ⟨rfl, hk⟩
    refine hK.out _ _ (HO.out _ hk.far) (fun _ => ?_)
    exact st22 HO hk.far (hk.zed _ z2) b2
  refine AllReadyH.cons (o := { dst := some 3, op := .alloc 47, type := 0, pos := "join.go:34", after := _, guard := none }) rfl (fun K hK => ?_) ?_
  · go_simp
    refine hK.out _ _ (HO.out _ (bal hW _)) (fun _ => ?_)
    exact st112 HO (bal hW _) (Z3.new W) (z2.alloc _) (Nat.ne_of_gt z2.lt) hW.size b2
  refine AllReadyH.cons (o := { dst := some 5, op := .alloc 47, type := 0, pos := "join.go:34", after := _, guard := none }) rfl (fun K hK => ?_) ?_
  · go_simp
    refine hK.out _ _ (HO.out _ (bal hW _)) (fun _ => ?_)
    exact st123 HO (bal hW _) (z2.alloc _) (Z3.new W) (Nat.ne_of_lt z2.lt) b2 hW.size
  exact AllReadyH.nil
theorem st13 {ag : Value} {G : Nat} {o h l c : Int} {V : World} {p3 : Nat} {W : World} (HO : HidS G o h l c V) (hW : Below V.heap.size V W) (z3 : Z3 W p3) (b3 : V.heap.size ≤ p3) :
    wpAnyH Tryd.prog .any ops1 (QF ag G o h l c V) (S5 G o h l c V) 7 #[true, true, true, true, true, true, true, true, true, true, true, false, true, true, true, true, true, true, false, false, false, true, false, false, false] (act ag G o h l c (undef) (undef) (.pointer (some ⟨p3, 0, none⟩)) (.agg #[.int .i64 l, .int .i64 1, .int .i64 h]) (undef) (undef)) W := by
  unfold act
  refine wpAnyH_ready (rs := [11, 19, 20]) (by kernel_rfl) (by simp) ?_
  refine AllReadyH.cons (o := { dst := some 17, op := .call { callee := .value (.func 15), args := #[.tmp 12, .tmp 14, .tmp 16], argTypes := #[3, 3, 3] }, type := 47, pos := "join.go:34", after := _, guard := none }) rfl (fun K hK => ?_) ?_
  · go_simp
    refine (ofK V _ _ _ W hW).mono ?_
    rintro e W2 ⟨rfl, hk⟩
    refine hK.out _ _ (HO.out _ hk.far) (fun _ => ?_)
    exact st23 HO hk.far (hk.zed _ z3) b3
  refine AllReadyH.cons (o := { dst := some 3, op := .alloc 47, type := 0, pos := "join.go:34", after := _, guard := none }) rfl (fun K hK => ?_) ?_
  · go_simp
    refine hK.out _ _ (HO.out _ (bal hW _)) (fun _ => ?_)
    exact st113 HO (bal hW _) (Z3.new W) (z3.alloc _) (Nat.ne_of_gt z3.lt) hW.size b3
  refine AllReadyH.cons (o := { dst := some 4, op := .alloc 47, type := 0, pos := "join.go:34", after := _, guard := none }) rfl (fun K hK => ?_) ?_
  · go_simp
    refine hK.out _ _ (HO.out _ (bal hW _)) (fun _ => ?_)
    exact st123 HO (bal hW _) (Z3.new W) (z3.alloc _) (Nat.ne_of_gt z3.lt) hW.size b3
  exact AllReadyH.nil
theorem st10 {ag : Value} {G : Nat} {o h l c : Int} {V : World} {W : World} (HO : HidS G o h l c V) (hW : Below V.heap.size V W) :
    wpAnyH Tryd.prog .any ops1 (QF ag G o h l c V) (S5 G o h l c V) 8 #[true, true, true, true, true, true, true, true, true, true, true, false, true, true, true, true, true, true, false, false, false, false, false, false, false] (act ag G o h l c (undef) (undef) (undef) (.agg #[.int .i64 l, .int .i64 1, .int .i64 h]) (undef) (undef)) W := by
  unfold act
  refine wpAnyH_ready (rs := [11, 19, 20, 21]) (by kernel_rfl) (by simp) ?_
  refine AllReadyH.cons (o := { dst := some 17, op := .call { callee := .value (.func 15), args := #[.tmp 12, .tmp 14, .tmp 16], argTypes := #[3, 3, 3] }, type := 47, pos := "join.go:34", after := _, guard := none }) rfl (fun K hK => ?_) ?_
  · go_simp
    refine (ofK V _ _ _ W hW).mono ?_
    rintro e W2 ⟨rfl, hk⟩
    refine hK.out _ _ (HO.out _ hk.far) (fun _ => ?_)
    exact st20 HO hk.far
  refine AllReadyH.cons (o := { dst := some 3, op := .alloc 47, type := 0, pos := "join.go:34", after := _, guard := none }) rfl (fun K hK => ?_) ?_
  · go_simp
    refine hK.out _ _ (HO.out _ (bal hW _)) (fun _ => ?_)
    exact st11 HO (bal hW _) (Z3.new W) hW.size
  refine AllReadyH.cons (o := { dst := some 4, op := .alloc 47, type := 0, pos := "join.go:34", after := _, guard := none }) rfl (fun K hK => ?_) ?_
  · go_simp
    refine hK.out _ _ (HO.out _ (bal hW _)) (fun _ => ?_)
    exact st12 HO (bal hW _) (Z3.new W) hW.size
  refine AllReadyH.cons (o := { dst := some 5, op := .alloc 47, type := 0, pos := "join.go:34", after := _, guard := none }) rfl (fun K hK => ?_) ?_
  · go_simp
    refine hK.out _ _ (HO.out _ (bal hW _)) (fun _ => ?_)
    exact st13 HO (bal hW _) (Z3.new W) hW.size
  exact AllReadyH.nil
theorem st0123 {ag : Value} {G : Nat} {o h l c : Int} {V : World} {p1 p2 p3 : Nat} {W : World} (HO : HidS G o h l c V) (hW : Below V.heap.size V W) (z1 : Z3 W p1) (z2 : Z3 W p2) (z3 : Z3 W p3) (n12 : p1 ≠ p2) (n13 : p1 ≠ p3) (n23 : p2 ≠ p3) (b1 : V.heap.size ≤ p1) (b2 : V.heap.size ≤ p2) (b3 : V.heap.size ≤ p3) :
    wpAnyH Tryd.prog .any ops1 (QF ag G o h l c V) (S5 G o h l c V) 6 #[true, true, true, true, false, true, true, true, true, true, true, false, true, true, true, true, true, true, false, true, true, true, false, false, false] (act ag G o h l c (.pointer (some ⟨p1, 0, none⟩)) (.pointer (some ⟨p2, 0, none⟩)) (.pointer (some ⟨p3, 0, none⟩)) (undef) (undef) (undef)) W := by
  unfold act
  refine wpAnyH_ready (rs := [4]) (by kernel_rfl) (by simp) ?_
  refine AllReadyH.cons (o := { dst := some 10, op := .call { callee := .value (.func 15), args := #[.tmp 7, .const (.int .i64 1), .tmp 9], argTypes := #[3, 3, 3] }, type := 47, pos := "join.go:34", after := _, guard := none }) rfl (fun K hK => ?_) ?_
  · go_simp
    refine (ofK V _ _ _ W hW).mono ?_
    rintro e W2 ⟨rfl, hk⟩
    refine hK.out _ _ (HO.out _ hk.far) (fun _ => ?_)
    exact st1123 HO hk.far (hk.zed _ z1) (hk.zed _ z2) (hk.zed _ z3) n12 n13 n23 b1 b2 b3
  exact AllReadyH.nil
theorem st012 {ag : Value} {G : Nat} {o h l c : Int} {V : World} {p1 p2 : Nat} {W : World} (HO : HidS G o h l c V) (hW : Below V.heap.size V W) (z1 : Z3 W p1) (z2 : Z3 W p2) (n12 : p1 ≠ p2) (b1 : V.heap.size ≤ p1) (b2 : V.heap.size ≤ p2) :
    wpAnyH Tryd.prog .any ops1 (QF ag G o h l c V) (S5 G o h l c V) 7 #[true, true, true, true, false, true, true, true, true, true, true, false, true, true, true, true, true, true, false, true, true, false, false, false, false] (act ag G o h l c (.pointer (some ⟨p1, 0, none⟩)) (.pointer (some ⟨p2, 0, none⟩)) (undef) (undef) (undef) (undef)) W := by
  unfold act
  refine wpAnyH_ready (rs := [4, 21]) (by kernel_rfl) (by simp) ?_
  refine AllReadyH.cons (o := { dst := some 10, op := .call { callee := .value (.func 15), args := #[.tmp 7, .const (.int .i64 1), .tmp 9], argTypes := #[3, 3, 3] }, type := 47, pos := "join.go:34", after := _, guard := none }) rfl (fun K hK => ?_) ?_
  · go_simp
    refine (ofK V _ _ _ W hW).mono ?_
    rintro e W2 ⟨rfl, hk⟩
    refine hK.out _ _ (HO.out _ hk.far) (fun _ => ?_)
    exact st112 HO hk.far (hk.zed _ z1) (hk.zed _ z2) n12 b1 b2
  refine AllReadyH.cons (o := { dst := some 5, op := .alloc 47, type := 0, pos := "join.go:34", after := _, guard := none }) rfl (fun K hK => ?_) ?_
  · go_simp
    refine hK.out _ _ (HO.out _ (bal hW _)) (fun _ => ?_)
    exact st0123 HO (bal hW _) (z1.alloc _) (z2.alloc _) (Z3.new W) n12 (Nat.ne_of_lt z1.lt) (Nat.ne_of_lt z2.lt) b1 b2 hW.size
  exact AllReadyH.nil
theorem st013 {ag : Value} {G : Nat} {o h l c : Int} {V : World} {p1 p3 : Nat} {W : World} (HO : HidS G o h l c V) (hW : Below V.heap.size V W) (z1 : Z3 W p1) (z3 : Z3 W p3) (n13 : p1 ≠ p3) (b1 : V.heap.size ≤ p1) (b3 : V.heap.size ≤ p3) :
    wpAnyH Tryd.prog .any ops1 (QF ag G o h l c V) (S5 G o h l c V) 7 #[true, true, true, true, false, true, true, true, true, true, true, false, true, true, true, true, true, true, false, true, false, true, false, false, false] (act ag G o h l c (.pointer (some ⟨p1, 0, none⟩)) (undef) (.pointer (some ⟨p3, 0, none⟩)) (undef) (undef) (undef)) W := by
  unfold act
  refine wpAnyH_ready (rs := [4, 20]) (by kernel_rfl) (by simp) ?_
  refine AllReadyH.cons (o := { dst := some 10, op := .call { callee := .value (.func 15), args := #[.tmp 7, .const (.int .i64 1), .tmp 9], argTypes := #[3, 3, 3] }, type := 47, pos := "join.go:34", after := _, guard := none }) rfl (fun K hK => ?_) ?_
  · go_simp
    refine (ofK V _ _ _ W hW).mono ?_
    rintro e W2 ⟨rfl, hk⟩
    refine hK.out _ _ (HO.out _ hk.far) (fun _ => ?_)
    exact st113 HO hk.far (hk.zed _ z1) (hk.zed _ z3) n13 b1 b3
  refine AllReadyH.cons (o := { dst := some 4, op := .alloc 47, type := 0, pos := "join.go:34", after := _, guard := none }) rfl (fun K hK => ?_) ?_
  · go_simp
    refine hK.out _ _ (HO.out _ (bal hW _)) (fun _ => ?_)
    exact st0123 HO (bal hW _) (z1.alloc _) (Z3.new W) (z3.alloc _) (Nat.ne_of_lt z1.lt) n13 (Nat.ne_of_gt z3.lt) b1 hW.size b3
  exact AllReadyH.nil
theorem st023 {ag : Value} {G : Nat} {o h l c : Int} {V : World} {p2 p3 : Nat} {W : World} (HO : HidS G o h l c V) (hW : Below V.heap.size V W) (z2 : Z3 W p2) (z3 : Z3 W p3) (n23 : p2 ≠ p3) (b2 : V.heap.size ≤ p2) (b3 : V.heap.size ≤ p3) :
    wpAnyH Tryd.prog .any ops1 (QF ag G o h l c V) (S5 G o h l c V) 7 #[true, true, true, true, false, true, true, true, true, true, true, false, true, true, true, true, true, true, false, false, true, true, false, false, false] (act ag G o h l c (undef) (.pointer (some ⟨p2, 0, none⟩)) (.pointer (some ⟨p3, 0, none⟩)) (undef) (undef) (undef)) W := by
  unfold act
  refine wpAnyH_ready (rs := [4, 19]) (by kernel_rfl) (by simp) ?_
  refine AllReadyH.cons (o := { dst := some 10, op := .call { callee := .value (.func 15), args := #[.tmp 7, .const (.int .i64 1), .tmp 9], argTypes := #[3, 3, 3] }, type := 47, pos := "join.go:34", after := _, guard := none }) rfl (fun K hK => ?_) ?_
  · go_simp
    refine (ofK V _ _ _ W hW).mono ?_
    rintro e W2 ⟨rfl, hk⟩
    refine hK.out _ _ (HO.out _ hk.far) (fun _ => ?_)
    exact st123 HO hk.far (hk.zed _ z2) (hk.zed _ z3) n23 b2 b3
  refine AllReadyH.cons (o := { dst := some 3, op := .alloc 47, type := 0, pos := "join.go:34", after := _, guard := none }) rfl (fun K hK => ?_) ?_
  · go_simp
    refine hK.out _ _ (HO.out _ (bal hW _)) (fun _ => ?_)
    exact st0123 HO (bal hW _) (Z3.new W) (z2.alloc _) (z3.alloc _) (Nat.ne_of_gt z2.lt) (Nat.ne_of_gt z3.lt) n23 hW.size b2 b3
  exact AllReadyH.nil
theorem st01 {ag : Value} {G : Nat} {o h l c : Int} {V : World} {p1 : Nat} {W : World} (HO : HidS G o h l c V) (hW : Below V.heap.size V W) (z1 : Z3 W p1) (b1 : V.heap.size ≤ p1) :
    wpAnyH Tryd.prog .any ops1 (QF ag G o h l c V) (S5 G o h l c V) 8 #[true, true, true, true, false, true, true, true, true, true, true, false, true, true, true, true, true, true, false, true, false, false, false, false, false] (act ag G o h l c (.pointer (some ⟨p1, 0, none⟩)) (undef) (undef) (undef) (undef) (undef)) W := by
  unfold act
  refine wpAnyH_ready (rs := [4, 20, 21]) (by kernel_rfl) (by simp) ?_
  refine AllReadyH.cons (o := { dst := some 10, op := .call { callee := .value (.func 15), args := #[.tmp 7, .const (.int .i64 1), .tmp 9], argTypes := #[3, 3, 3] }, type := 47, pos := "join.go:34", after := _, guard := none }) rfl (fun K hK => ?_) ?_
  · go_simp
    refine (ofK V _ _ _ W hW).mono ?_
    rintro e W2 ⟨rfl, hk⟩
    refine hK.out _ _ (HO.out _ hk.far) (fun _ => ?_)
    exact st11 HO hk.far (hk.zed _ z1) b1
  refine AllReadyH.cons (o := { dst := some 4, op := .alloc 47, type := 0, pos := "join.go:34", after := _, guard := none }) rfl (fun K hK => ?_) ?_
  · go_simp
    refine hK.out _ _ (HO.out _ (bal hW _)) (fun _ => ?_)
    exact st012 HO (bal hW _) (z1.alloc _) (Z3.new W) (Nat.ne_of_lt z1.lt) b1 hW.size
  refine AllReadyH.cons (o := { dst := some 5, op := .alloc 47, type := 0, pos := "join.go:34", after := _, guard := none }) rfl (fun K hK => ?_) ?_
  · go_simp
    refine hK.out _ _ (HO.out _ (bal hW _)) (fun _ => ?_)
    exact st013 HO (bal hW _) (z1.alloc _) (Z3.new W) (Nat.ne_of_lt z1.lt) b1 hW.size
  exact AllReadyH.nil
theorem st02 {ag : Value} {G : Nat} {o h l c : Int} {V : World} {p2 : Nat} {W : World} (HO : HidS G o h l c V) (hW : Below V.heap.size V W) (z2 : Z3 W p2) (b2 : V.heap.size ≤ p2) :
    wpAnyH Tryd.prog .any ops1 (QF ag G o h l c V) (S5 G o h l c V) 8 #[true, true, true, true, false, true, true, true, true, true, true, false, true, true, true, true, true, true, false, false, true, false, false, false, false] (act ag G o h l c (undef) (.pointer (some ⟨p2, 0, none⟩)) (undef) (undef) (undef) (undef)) W := by
  unfold act
  refine wpAnyH_ready (rs := [4, 19, 21]) (by kernel_rfl) (by simp) ?_
  refine AllReadyH.cons (o := { dst := some 10, op := .call { callee := .value (.func 15), args := #[.tmp 7, .const (.int .i64 1), .tmp 9], argTypes := #[3, 3, 3] }, type := 47, pos := "join.go:34", after := _, guard := none }) rfl (fun K hK => ?_) ?_
  · go_simp
    refine (ofK V _ _ _ W hW).mono ?_
    rintro e W2 ⟨rfl, hk⟩
    refine hK.out _ _ (HO.out _ hk.far) (fun _ => ?_)
    exact st12 HO hk.far (hk.zed _ z2) b2
  refine AllReadyH.cons (o := { dst := some 3, op := .alloc 47, type := 0, pos := "join.go:34", after := _, guard := none }) rfl (fun K hK => ?_) ?_
  · go_simp
    refine hK.out _ _ (HO.out _ (bal hW _)) (fun _ => ?_)
    exact st012 HO (bal hW _) (Z3.new W) (z2.alloc _) (Nat.ne_of_gt z2.lt) hW.size b2
  refine AllReadyH.cons (o := { dst := some 5, op := .alloc 47, type := 0, pos := "join.go:34", after := _, guard := none }) rfl (fun K hK => ?_) ?_
  · go_simp
    refine hK.out _ _ (HO.out _ (bal hW _)) (fun _ => ?_)
    exact st023 HO (bal hW _) (z2.alloc _) (Z3.new W) (Nat.ne_of_lt z2.lt) b2 hW.size
  exact AllReadyH.nil
theorem st03 {ag : Value} {G : Nat} {o h l c : Int} {V : World} {p3 : Nat} {W : World} (HO : HidS G o h l c V) (hW : Below V.heap.size V W) (z3 : Z3 W p3) (b3 : V.heap.size ≤ p3) :
    wpAnyH Tryd.prog .any ops1 (QF ag G o h l c V) (S5 G o h l c V) 8 #[true, true, true, true, false, true, true, true, true, true, true, false, true, true, true, true, true, true, false, false, false, true, false, false, false] (act ag G o h l c (undef) (undef) (.pointer (some ⟨p3, 0, none⟩)) (undef) (undef) (undef)) W := by
  unfold act
  refine wpAnyH_ready (rs := [4, 19, 20]) (by kernel_rfl) (by simp) ?_
  refine AllReadyH.cons (o := { dst := some 10, op := .call { callee := .value (.func 15), args := #[.tmp 7, .const (.int .i64 1), .tmp 9], argTypes := #[3, 3, 3] }, type := 47, pos := "join.go:34", after := _, guard := none }) rfl (fun K hK => ?_) ?_
  · go_simp
    refine (ofK V _ _ _ W hW).mono ?_
    rintro e W2 ⟨rfl, hk⟩
    refine hK.out _ _ (HO.out _ hk.far) (fun _ => ?_)
    exact st13 HO hk.far (hk.zed _ z3) b3
  refine AllReadyH.cons (o := { dst := some 3, op := .alloc 47, type := 0, pos := "join.go:34", after := _, guard := none }) rfl (fun K hK => ?_) ?_
  · go_simp
    refine hK.out _ _ (HO.out _ (bal hW _)) (fun _ => ?_)
    exact st013 HO (bal hW _) (Z3.new W) (z3.alloc _) (Nat.ne_of_gt z3.lt) hW.size b3
  refine AllReadyH.cons (o := { dst := some 4, op := .alloc 47, type := 0, pos := "join.go:34", after := _, guard := none }) rfl (fun K hK => ?_) ?_
  · go_simp
    refine hK.out _ _ (HO.out _ (bal hW _)) (fun _ => ?_)
    exact st023 HO (bal hW _) (Z3.new W) (z3.alloc _) (Nat.ne_of_gt z3.lt) hW.size b3
  exact AllReadyH.nil
theorem st00 {ag : Value} {G : Nat} {o h l c : Int} {V : World} {W : World} (HO : HidS G o h l c V) (hW : Below V.heap.size V W) :
    wpAnyH Tryd.prog .any ops1 (QF ag G o h l c V) (S5 G o h l c V) 9 #[true, true, true, true, false, true, true, true, true, true, true, false, true, true, true, true, true, true, false, false, false, false, false, false, false] (act ag G o h l c (undef) (undef) (undef) (undef) (undef) (undef)) W := by
  unfold act
  refine wpAnyH_ready (rs := [4, 19, 20, 21]) (by kernel_rfl) (by simp) ?_
  refine AllReadyH.cons (o := { dst := some 10, op := .call { callee := .value (.func 15), args := #[.tmp 7, .const (.int .i64 1), .tmp 9], argTypes := #[3, 3, 3] }, type := 47, pos := "join.go:34", after := _, guard := none }) rfl (fun K hK => ?_) ?_
  · go_simp
    refine (ofK V _ _ _ W hW).mono ?_
    rintro e W2 ⟨rfl, hk⟩
    refine hK.out _ _ (HO.out _ hk.far) (fun _ => ?_)
    exact st10 HO hk.far
  refine AllReadyH.cons (o := { dst := some 3, op := .alloc 47, type := 0, pos := "join.go:34", after := _, guard := none }) rfl (fun K hK => ?_) ?_
  · go_simp
    refine hK.out _ _ (HO.out _ (bal hW _)) (fun _ => ?_)
    exact st01 HO (bal hW _) (Z3.new W) hW.size
  refine AllReadyH.cons (o := { dst := some 4, op := .alloc 47, type := 0, pos := "join.go:34", after := _, guard := none }) rfl (fun K hK => ?_) ?_
  · go_simp
    refine hK.out _ _ (HO.out _ (bal hW _)) (fun _ => ?_)
    exact st02 HO (bal hW _) (Z3.new W) hW.size
  refine AllReadyH.cons (o := { dst := some 5, op := .alloc 47, type := 0, pos := "join.go:34", after := _, guard := none }) rfl (fun K hK => ?_) ?_
  · go_simp
    refine hK.out _ _ (HO.out _ (bal hW _)) (fun _ => ?_)
    exact st03 HO (bal hW _) (Z3.new W) hW.size
  exact AllReadyH.nil
theorem region1 {ag : Value} {G : Nat} {o h l c : Int} {V : World} (HO : HidS G o h l c V) :
    (Code.region 1 ops1 true).wp Tryd.prog (QF ag G o h l c V) { tmps := #[ag, .pointer (some ⟨G, 0, none⟩), .nilIface, undef, undef, undef, undef, undef, undef, undef, undef, undef, undef, undef, undef, undef, undef, undef, undef, undef, undef, undef, undef, undef, undef, undef, undef, undef, undef, undef, undef, undef, undef, undef, undef], defers := [] } V := by
  have hsz : ops1.size = 25 := by kernel_rfl
  have hD : Below V.heap.size V V.drew := ⟨rfl, rfl, rfl, Nat.le_refl _, fun _ _ => rfl⟩
  refine wp_region_held_drew (S := S5 G o h l c V) (by kernel_rfl) (HO.out _ hD) (fun hS => ?_)
  rw [hsz]
  refine wpAnyH_take (i := 0) (oi := { dst := some 6, op := .fieldAddr 26 (.tmp 1) 2, type := 0, pos := "join.go:34", after := _, guard := none }) (v := .pointer (some ⟨G, 2, none⟩)) rfl (by kernel_rfl) (by kernel_rfl) (by kernel_rfl) (fun _ _ _ h => h) (Or.inl ⟨by rfl, ?_⟩) hS ?_
  · intro W hSw
    obtain ⟨_, c0, c1, c2, c3⟩ := hSw
    go_simp
  simp only [Act.put, List.setIfInBounds_toArray, List.set_cons_zero, List.set_cons_succ]
  refine wpAnyH_take (i := 1) (oi := { dst := some 7, op := .load 3 (.tmp 6), type := 3, pos := "join.go:34", after := _, guard := none }) (v := .int .i64 l) rfl (by kernel_rfl) (by kernel_rfl) (by kernel_rfl) (fun _ _ _ h => h) (Or.inl ⟨by rfl, ?_⟩) hS ?_
  · intro W hSw
    obtain ⟨_, c0, c1, c2, c3⟩ := hSw
    go_simp
  simp only [Act.put, List.setIfInBounds_toArray, List.set_cons_zero, List.set_cons_succ]
  refine wpAnyH_take (i := 2) (oi := { dst := some 8, op := .fieldAddr 26 (.tmp 1) 1, type := 0, pos := "join.go:34", after := _, guard := none }) (v := .pointer (some ⟨G, 1, none⟩)) rfl (by kernel_rfl) (by kernel_rfl) (by kernel_rfl) (fun _ _ _ h => h) (Or.inl ⟨by rfl, ?_⟩) hS ?_
  · intro W hSw
    obtain ⟨_, c0, c1, c2, c3⟩ := hSw
    go_simp
  simp only [Act.put, List.setIfInBounds_toArray, List.set_cons_zero, List.set_cons_succ]
  refine wpAnyH_take (i := 3) (oi := { dst := some 9, op := .load 3 (.tmp 8), type := 3, pos := "join.go:34", after := _, guard := none }) (v := .int .i64 h) rfl (by kernel_rfl) (by kernel_rfl) (by kernel_rfl) (fun _ _ _ h => h) (Or.inl ⟨by rfl, ?_⟩) hS ?_
  · intro W hSw
    obtain ⟨_, c0, c1, c2, c3⟩ := hSw
    go_simp
  simp only [Act.put, List.setIfInBounds_toArray, List.set_cons_zero, List.set_cons_succ]
  refine wpAnyH_take (i := 5) (oi := { dst := some 11, op := .fieldAddr 26 (.tmp 1) 0, type := 0, pos := "join.go:34", after := _, guard := none }) (v := .pointer (some ⟨G, 0, none⟩)) rfl (by kernel_rfl) (by kernel_rfl) (by kernel_rfl) (fun _ _ _ h => h) (Or.inl ⟨by rfl, ?_⟩) hS ?_
  · intro W hSw
    obtain ⟨_, c0, c1, c2, c3⟩ := hSw
    go_simp
  simp only [Act.put, List.setIfInBounds_toArray, List.set_cons_zero, List.set_cons_succ]
  refine wpAnyH_take (i := 6) (oi := { dst := some 12, op := .load 3 (.tmp 11), type := 3, pos := "join.go:34", after := _, guard := none }) (v := .int .i64 o) rfl (by kernel_rfl) (by kernel_rfl) (by kernel_rfl) (fun _ _ _ h => h) (Or.inl ⟨by rfl, ?_⟩) hS ?_
  · intro W hSw
    obtain ⟨_, c0, c1, c2, c3⟩ := hSw
    go_simp
  simp only [Act.put, List.setIfInBounds_toArray, List.set_cons_zero, List.set_cons_succ]
  refine wpAnyH_take (i := 7) (oi := { dst := some 13, op := .fieldAddr 26 (.tmp 1) 2, type := 0, pos := "join.go:34", after := _, guard := none }) (v := .pointer (some ⟨G, 2, none⟩)) rfl (by kernel_rfl) (by kernel_rfl) (by kernel_rfl) (fun _ _ _ h => h) (Or.inl ⟨by rfl, ?_⟩) hS ?_
  · intro W hSw
    obtain ⟨_, c0, c1, c2, c3⟩ := hSw
    go_simp
  simp only [Act.put, List.setIfInBounds_toArray, List.set_cons_zero, List.set_cons_succ]
  refine wpAnyH_take (i := 8) (oi := { dst := some 14, op := .load 3 (.tmp 13), type := 3, pos := "join.go:34", after := _, guard := none }) (v := .int .i64 l) rfl (by kernel_rfl) (by kernel_rfl) (by kernel_rfl) (fun _ _ _ h => h) (Or.inl ⟨by rfl, ?_⟩) hS ?_
  · intro W hSw
    obtain ⟨_, c0, c1, c2, c3⟩ := hSw
    go_simp
  simp only [Act.put, List.setIfInBounds_toArray, List.set_cons_zero, List.set_cons_succ]
  refine wpAnyH_take (i := 9) (oi := { dst := some 15, op := .fieldAddr 26 (.tmp 1) 1, type := 0, pos := "join.go:34", after := _, guard := none }) (v := .pointer (some ⟨G, 1, none⟩)) rfl (by kernel_rfl) (by kernel_rfl) (by kernel_rfl) (fun _ _ _ h => h) (Or.inl ⟨by rfl, ?_⟩) hS ?_
  · intro W hSw
    obtain ⟨_, c0, c1, c2, c3⟩ := hSw
    go_simp
  simp only [Act.put, List.setIfInBounds_toArray, List.set_cons_zero, List.set_cons_succ]
  refine wpAnyH_take (i := 10) (oi := { dst := some 16, op := .load 3 (.tmp 15), type := 3, pos := "join.go:34", after := _, guard := none }) (v := .int .i64 h) rfl (by kernel_rfl) (by kernel_rfl) (by kernel_rfl) (fun _ _ _ h => h) (Or.inl ⟨by rfl, ?_⟩) hS ?_
  · intro W hSw
    obtain ⟨_, c0, c1, c2, c3⟩ := hSw
    go_simp
  simp only [Act.put, List.setIfInBounds_toArray, List.set_cons_zero, List.set_cons_succ]
  refine wpAnyH_take (i := 12) (oi := { dst := some 18, op := .fieldAddr 26 (.tmp 1) 3, type := 0, pos := "join.go:34", after := _, guard := none }) (v := .pointer (some ⟨G, 3, none⟩)) rfl (by kernel_rfl) (by kernel_rfl) (by kernel_rfl) (fun _ _ _ h => h) (Or.inl ⟨by rfl, ?_⟩) hS ?_
  · intro W hSw
    obtain ⟨_, c0, c1, c2, c3⟩ := hSw
    go_simp
  simp only [Act.put, List.setIfInBounds_toArray, List.set_cons_zero, List.set_cons_succ]
  refine wpAnyH_take (i := 13) (oi := { dst := some 19, op := .load 3 (.tmp 18), type := 3, pos := "join.go:34", after := _, guard := none }) (v := .int .i64 c) rfl (by kernel_rfl) (by kernel_rfl) (by kernel_rfl) (fun _ _ _ h => h) (Or.inl ⟨by rfl, ?_⟩) hS ?_
  · intro W hSw
    obtain ⟨_, c0, c1, c2, c3⟩ := hSw
    go_simp
  simp only [Act.put, List.setIfInBounds_toArray, List.set_cons_zero, List.set_cons_succ]
  refine wpAnyH_take (i := 14) (oi := { dst := some 20, op := .fieldAddr 26 (.tmp 1) 2, type := 0, pos := "join.go:34", after := _, guard := none }) (v := .pointer (some ⟨G, 2, none⟩)) rfl (by kernel_rfl) (by kernel_rfl) (by kernel_rfl) (fun _ _ _ h => h) (Or.inl ⟨by rfl, ?_⟩) hS ?_
  · intro W hSw
    obtain ⟨_, c0, c1, c2, c3⟩ := hSw
    go_simp
  simp only [Act.put, List.setIfInBounds_toArray, List.set_cons_zero, List.set_cons_succ]
  refine wpAnyH_take (i := 15) (oi := { dst := some 21, op := .load 3 (.tmp 20), type := 3, pos := "join.go:34", after := _, guard := none }) (v := .int .i64 l) rfl (by kernel_rfl) (by kernel_rfl) (by kernel_rfl) (fun _ _ _ h => h) (Or.inl ⟨by rfl, ?_⟩) hS ?_
  · intro W hSw
    obtain ⟨_, c0, c1, c2, c3⟩ := hSw
    go_simp
  simp only [Act.put, List.setIfInBounds_toArray, List.set_cons_zero, List.set_cons_succ]
  refine wpAnyH_take (i := 16) (oi := { dst := some 22, op := .fieldAddr 26 (.tmp 1) 1, type := 0, pos := "join.go:34", after := _, guard := none }) (v := .pointer (some ⟨G, 1, none⟩)) rfl (by kernel_rfl) (by kernel_rfl) (by kernel_rfl) (fun _ _ _ h => h) (Or.inl ⟨by rfl, ?_⟩) hS ?_
  · intro W hSw
    obtain ⟨_, c0, c1, c2, c3⟩ := hSw
    go_simp
  simp only [Act.put, List.setIfInBounds_toArray, List.set_cons_zero, List.set_cons_succ]
  refine wpAnyH_take (i := 17) (oi := { dst := some 23, op := .load 3 (.tmp 22), type := 3, pos := "join.go:34", after := _, guard := none }) (v := .int .i64 h) rfl (by kernel_rfl) (by kernel_rfl) (by kernel_rfl) (fun _ _ _ h => h) (Or.inl ⟨by rfl, ?_⟩) hS ?_
  · intro W hSw
    obtain ⟨_, c0, c1, c2, c3⟩ := hSw
    go_simp
  simp only [Act.put, List.setIfInBounds_toArray, List.set_cons_zero, List.set_cons_succ]
  exact st00 HO hD
/-- A bar that is wrong. -/
def badB (b : B) : Bool := [(b.l, 1, b.h), (b.o, b.l, b.h), (b.c, b.l, b.h), (b.q, 1, 4000000)].any spanB
def shapeE (r : Bool) : Int := if r = true then 3 else 0
theorem cbar_walk (o h l c q : Int) (r : Bool) (w : World) (hr : [(l, 1, h), (o, l, h), (c, l, h), (q, 1, 4000000)].any spanB = r) :
    Calls Tryd.prog 22 #[.agg #[.int .i64 o, .int .i64 h, .int .i64 l, .int .i64 c, .int .i64 q]] w
      fun x w' => x = .returned (errV (shapeE r)) ∧ Below w.heap.size w w' := by
  have HR := hidT hr
  clear hr
  go_enter Tryd.func22, Tryd.ntmps22
  go_upto_region 1 with fail
  have hV : Below w.heap.size w (w.alloc (.cells #[.int .i64 o, .int .i64 h, .int .i64 l, .int .i64 c, .int .i64 q] 26)) := (Below.refl _ _).alloc (Nat.le_refl _) _
  have hR := heap_alloc_new w (.cells #[.int .i64 o, .int .i64 h, .int .i64 l, .int .i64 c, .int .i64 q] 26)
  generalize w.alloc (.cells #[.int .i64 o, .int .i64 h, .int .i64 l, .int .i64 c, .int .i64 q] 26) = V at *
  have cel : ∀ i, V.cell? ⟨w.heap.size, i, none⟩ = (#[.int .i64 o, .int .i64 h, .int .i64 l, .int .i64 c, .int .i64 q] : Array Value)[i]? := fun i => by simp [World.cell?, hR]
  have c0 := cel 0
  have c1 := cel 1
  have c2 := cel 2
  have c3 := cel 3
  have c4 := cel 4
  simp only [List.getElem?_toArray, List.getElem?_cons_zero, List.getElem?_cons_succ] at c0 c1 c2 c3 c4
  have HV := hidT hV
  obtain ⟨G, hG⟩ : ∃ G, G = w.heap.size := ⟨_, rfl⟩
  rw [← hG] at c0 c1 c2 c3 c4
  simp only [← hG]
  have HS : HidS G o h l c V := fun W hW => ⟨hW, keeps hW c0, keeps hW c1, keeps hW c2, keeps hW c3⟩
  have HC4 : Hid (∀ W, Below V.heap.size V W → W.cell? ⟨G, 4, none⟩ = some (.int .i64 q)) := fun W hW => keeps hW c4
  clear cel hR hV c0 c1 c2 c3 c4 hG
  refine Code.wp_mono ?_ (region1 HS)
  intro e a wc he
  match e, he with
  | .normal, ⟨p1, p2, p3, ha, hb, z1, z2, z3⟩ =>
    subst ha
    obtain ⟨x0, x1, x2⟩ := z1.cells
    obtain ⟨y0, y1, y2⟩ := z2.cells
    obtain ⟨t0, t1, t2⟩ := z3.cells
    have d4 := HC4.out wc hb
    have HW0 := hidT (HV.out.trans (hb.mono HV.out.size))
    clear HS HC4 HV hb z1 z2 z3
    unfold act
    have SO : Hid (∀ W, Below wc.heap.size wc W → (Below wc.heap.size wc W ∧ W.cell? ⟨G, 4, none⟩ = some (.int .i64 q) ∧ W.cell? ⟨p1, 0, none⟩ = some (.int .i64 l) ∧ W.cell? ⟨p1, 1, none⟩ = some (.int .i64 1) ∧ W.cell? ⟨p1, 2, none⟩ = some (.int .i64 h) ∧ W.cell? ⟨p2, 0, none⟩ = some (.int .i64 o) ∧ W.cell? ⟨p2, 1, none⟩ = some (.int .i64 l) ∧ W.cell? ⟨p2, 2, none⟩ = some (.int .i64 h) ∧ W.cell? ⟨p3, 0, none⟩ = some (.int .i64 c) ∧ W.cell? ⟨p3, 1, none⟩ = some (.int .i64 l) ∧ W.cell? ⟨p3, 2, none⟩ = some (.int .i64 h))) := fun W hW => ⟨hW, keeps hW d4, keeps hW x0, keeps hW x1, keeps hW x2, keeps hW y0, keeps hW y1, keeps hW y2, keeps hW t0, keeps hW t1, keeps hW t2⟩
    go_upto_region 2 with fail
    cases r
    · go_region_held3 (fun W => Below wc.heap.size wc W ∧ W.cell? ⟨G, 4, none⟩ = some (.int .i64 q) ∧ W.cell? ⟨p1, 0, none⟩ = some (.int .i64 l) ∧ W.cell? ⟨p1, 1, none⟩ = some (.int .i64 1) ∧ W.cell? ⟨p1, 2, none⟩ = some (.int .i64 h) ∧ W.cell? ⟨p2, 0, none⟩ = some (.int .i64 o) ∧ W.cell? ⟨p2, 1, none⟩ = some (.int .i64 l) ∧ W.cell? ⟨p2, 2, none⟩ = some (.int .i64 h) ∧ W.cell? ⟨p3, 0, none⟩ = some (.int .i64 c) ∧ W.cell? ⟨p3, 1, none⟩ = some (.int .i64 l) ∧ W.cell? ⟨p3, 2, none⟩ = some (.int .i64 h))
        ((refine SO.out _ ?_; (repeat' (first | with_reducible assumption | with_reducible refine bal ?_ _ | with_reducible refine Below.setCell ?_ ?_ _ | with_reducible refine Below.drew ?_ | with_reducible exact Below.refl _ _ | with_reducible exact Nat.le_refl _ | with_reducible exact Below.size (by with_reducible assumption) | with_reducible refine Nat.le_succ_of_le ?_))))
        (first | (go_at_call 15; refine (ofB wc _ _ _ _ ?_).mono ?_; (repeat' (first | with_reducible assumption | with_reducible refine bal ?_ _ | with_reducible refine Below.setCell ?_ ?_ _ | with_reducible refine Below.drew ?_ | with_reducible exact Below.refl _ _ | with_reducible exact Nat.le_refl _ | with_reducible exact Below.size (by with_reducible assumption) | with_reducible refine Nat.le_succ_of_le ?_)); rintro x W ⟨rfl, hbn⟩) | (go_at_call 14; refine (scheck4 false _ _ _ _ _ _ _ _ _ _ _ _ _ _ rfl HR.out).mono ?_; rintro x W2 ⟨rfl, hbs⟩; simp only [show errV (rangeE false) = .nilIface from rfl]; have hbn := Below.trans (by with_reducible assumption) (hbs.mono (Below.size (by with_reducible assumption)))))
      have HW : Hid (Below w.heap.size w W2) := HW0.out.trans (hbn.mono HW0.out.size)
      clear SO HW0 HR hbs hbn d4 x0 x1 x2 y0 y1 y2 t0 t1 t2
      go_wp2_with fail
      go_ret
      exact ⟨rfl, HW.out⟩
    · go_region_held3 (fun W => Below wc.heap.size wc W ∧ W.cell? ⟨G, 4, none⟩ = some (.int .i64 q) ∧ W.cell? ⟨p1, 0, none⟩ = some (.int .i64 l) ∧ W.cell? ⟨p1, 1, none⟩ = some (.int .i64 1) ∧ W.cell? ⟨p1, 2, none⟩ = some (.int .i64 h) ∧ W.cell? ⟨p2, 0, none⟩ = some (.int .i64 o) ∧ W.cell? ⟨p2, 1, none⟩ = some (.int .i64 l) ∧ W.cell? ⟨p2, 2, none⟩ = some (.int .i64 h) ∧ W.cell? ⟨p3, 0, none⟩ = some (.int .i64 c) ∧ W.cell? ⟨p3, 1, none⟩ = some (.int .i64 l) ∧ W.cell? ⟨p3, 2, none⟩ = some (.int .i64 h))
        ((refine SO.out _ ?_; (repeat' (first | with_reducible assumption | with_reducible refine bal ?_ _ | with_reducible refine Below.setCell ?_ ?_ _ | with_reducible refine Below.drew ?_ | with_reducible exact Below.refl _ _ | with_reducible exact Nat.le_refl _ | with_reducible exact Below.size (by with_reducible assumption) | with_reducible refine Nat.le_succ_of_le ?_))))
        (first | (go_at_call 15; refine (ofB wc _ _ _ _ ?_).mono ?_; (repeat' (first | with_reducible assumption | with_reducible refine bal ?_ _ | with_reducible refine Below.setCell ?_ ?_ _ | with_reducible refine Below.drew ?_ | with_reducible exact Below.refl _ _ | with_reducible exact Nat.le_refl _ | with_reducible exact Below.size (by with_reducible assumption) | with_reducible refine Nat.le_succ_of_le ?_)); rintro x W ⟨rfl, hbn⟩) | (go_at_call 14; refine (scheck4 true _ _ _ _ _ _ _ _ _ _ _ _ _ _ rfl HR.out).mono ?_; rintro x W2 ⟨rfl, hbs⟩; simp only [show errV (rangeE true) = .iface 52 (.int .i64 1) from rfl]; have hbn := Below.trans (by with_reducible assumption) (hbs.mono (Below.size (by with_reducible assumption)))))
      have HW : Hid (Below w.heap.size w W2) := HW0.out.trans (hbn.mono HW0.out.size)
      clear SO HW0 HR hbs hbn d4 x0 x1 x2 y0 y1 y2 t0 t1 t2
      go_wp2_with fail
      go_ret
      exact ⟨rfl, HW.out⟩
end Go.Proofs.YtkbegagpliiljaaDoor.bar

