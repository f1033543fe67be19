/- Contracts over this seat's translation: the document's Trade of purses. -/
import Derived.Test.YthndnndejdckeaaDoorPPRef
import Derived.BigQuiet
namespace Go.Proofs.YthndnndejdckeaaDoor.pur
open Go.RowKit Go.Proofs.YthndnndejdckeaaDoor.spn

def priB (p : Int) : Bool := decide (1 ≤ p) && decide (p ≤ 10000)
theorem rprice_any (p : Int) (w : World) :
    Calls Tryd.prog 23 #[.int .i64 p] w fun e w' => e = .returned (.bool (priB p)) ∧ w' = w := by
  by_cases h : 1 ≤ p
  · have e : priB p = decide (p ≤ 10000) := by simp [priB, h]
    rw [e]
    go_enter Tryd.func23, Tryd.ntmps23
    go_wp2
    go_ret
    exact ⟨rfl, rfl⟩
  · have e : priB p = false := by simp [priB, h]
    rw [e]
    go_enter Tryd.func23, Tryd.ntmps23
    go_wp2
    go_ret
    exact ⟨rfl, rfl⟩
theorem badT_c {f t p q : Int} (h : badT f t p q = true) : whoB f = false ∨ (whoB f = true ∧ whoB t = false) ∨ (whoB f = true ∧ whoB t = true ∧ priB p = false) ∨ (whoB f = true ∧ whoB t = true ∧ priB p = true ∧ q < 1) ∨ (whoB f = true ∧ whoB t = true ∧ priB p = true ∧ ¬ q < 1 ∧ 10000 < q) := by
  cases e1 : whoB f with
  | false => exact .inl rfl
  | true =>
    cases e2 : whoB t with
    | false => exact .inr (.inl ⟨rfl, rfl⟩)
    | true =>
      cases e3 : priB p with
      | false => exact .inr (.inr (.inl ⟨rfl, rfl, rfl⟩))
      | true =>
        simp [whoB] at e1 e2
        simp [priB] at e3
        simp [badT, spanB] at h
        simp only [true_and]
        omega
/-- What lies in memory while the document trades. -/
structure RT (w : World) (X M : Nat) (mk tk f t p q : Int) (wr : World) (ps : List Pz) : Prop where
  rs : RS wr M ps
  tr : wr.heap[X]? = some (.cells #[.int .i64 mk, .int .i64 tk, .int .i64 f, .int .i64 t, .int .i64 p, .int .i64 q] 40 (0, 0))
  ne : X ≠ M
  gr : w.grownBy wr (some M)
section
variable {w wr w' : World} {X M : Nat} {mk tk f t p q : Int} {ps : List Pz}
theorem RT.drawn (h : RT w X M mk tk f t p q wr ps) (n : Nat) : RT w X M mk tk f t p q (wr.drewN n) ps := ⟨h.rs.same rfl, h.tr, h.ne, grT h.gr (grDN _ _ _)⟩
theorem RT.drawn1 (h : RT w X M mk tk f t p q wr ps) : RT w X M mk tk f t p q wr.drew ps := ⟨h.rs.same rfl, h.tr, h.ne, grT h.gr (grD _ _)⟩
theorem RT.cells (h : RT w X M mk tk f t p q wr ps) : wr.cell? ⟨X, 2, none⟩ = some (.int .i64 f) ∧ wr.cell? ⟨X, 3, none⟩ = some (.int .i64 t) ∧ wr.cell? ⟨X, 4, none⟩ = some (.int .i64 p) ∧ wr.cell? ⟨X, 5, none⟩ = some (.int .i64 q) :=
  ⟨by simp [World.cell?, h.tr], by simp [World.cell?, h.tr], by simp [World.cell?, h.tr], by simp [World.cell?, h.tr]⟩
theorem RT.adT {j : Nat} (h : RT w X M mk tk f t p q wr ps) (hp : ps.length = 9) (k : Nat) (h1 : 1 ≤ k) (h9 : k ≤ 9) (d y : Int) (hy : y = (ps[k - 1]!).hs + d) (hj : j = 4 := by rfl) : RT w X M mk tk f t p q (wr.setCell ⟨M, k * 5 + j, none⟩ (.int .i64 y)) (on (pur.adT d) (k - 1) ps) := by
  subst hj
  refine ⟨h.rs.put1 hp k h1 h9 4 (.int .i64 y) (pur.adT d) (by omega) (fun a b e => ?_) (fun z hz => ?_), (heap_setCell_other wr ⟨M, k * 5 + 4, none⟩ X _ h.ne).trans h.tr, h.ne, grT h.gr (grC wr M _ _)⟩
  · obtain ⟨e1, e2, e3, e4⟩ := e
    refine ⟨?_, ?_, ?_, ?_⟩ <;> simp only [pur.adT] <;> omega
  · obtain ⟨z1, z2, z3, z4⟩ := hz
    have e : y = z.hs + d := by omega
    rw [e]
    rfl
theorem RT.adS {j : Nat} (h : RT w X M mk tk f t p q wr ps) (hp : ps.length = 9) (k : Nat) (h1 : 1 ≤ k) (h9 : k ≤ 9) (d y : Int) (hy : y = (ps[k - 1]!).stock + d) (hj : j = 3 := by rfl) : RT w X M mk tk f t p q (wr.setCell ⟨M, k * 5 + j, none⟩ (.int .i64 y)) (on (pur.adS d) (k - 1) ps) := by
  subst hj
  refine ⟨h.rs.put1 hp k h1 h9 3 (.int .i64 y) (pur.adS d) (by omega) (fun a b e => ?_) (fun z hz => ?_), (heap_setCell_other wr ⟨M, k * 5 + 3, none⟩ X _ h.ne).trans h.tr, h.ne, grT h.gr (grC wr M _ _)⟩
  · obtain ⟨e1, e2, e3, e4⟩ := e
    refine ⟨?_, ?_, ?_, ?_⟩ <;> simp only [pur.adS] <;> omega
  · obtain ⟨z1, z2, z3, z4⟩ := hz
    have e : y = z.stock + d := by omega
    rw [e]
    rfl
theorem RT.adC {j : Nat} (h : RT w X M mk tk f t p q wr ps) (hp : ps.length = 9) (k : Nat) (h1 : 1 ≤ k) (h9 : k ≤ 9) (d y : Int) (hy : y = (ps[k - 1]!).cash + d) (hj : j = 1 := by rfl) : RT w X M mk tk f t p q (wr.setCell ⟨M, k * 5 + j, none⟩ (.int .i64 y)) (on (pur.adC d) (k - 1) ps) := by
  subst hj
  refine ⟨h.rs.put1 hp k h1 h9 1 (.int .i64 y) (pur.adC d) (by omega) (fun a b e => ?_) (fun z hz => ?_), (heap_setCell_other wr ⟨M, k * 5 + 1, none⟩ X _ h.ne).trans h.tr, h.ne, grT h.gr (grC wr M _ _)⟩
  · obtain ⟨e1, e2, e3, e4⟩ := e
    refine ⟨?_, ?_, ?_, ?_⟩ <;> simp only [pur.adC] <;> omega
  · obtain ⟨z1, z2, z3, z4⟩ := hz
    have e : y = z.cash + d := by omega
    rw [e]
    rfl
theorem RT.adH {j : Nat} (h : RT w X M mk tk f t p q wr ps) (hp : ps.length = 9) (k : Nat) (h1 : 1 ≤ k) (h9 : k ≤ 9) (d y : Int) (hy : y = (ps[k - 1]!).held + d) (hj : j = 2 := by rfl) : RT w X M mk tk f t p q (wr.setCell ⟨M, k * 5 + j, none⟩ (.int .i64 y)) (on (pur.adH d) (k - 1) ps) := by
  subst hj
  refine ⟨h.rs.put1 hp k h1 h9 2 (.int .i64 y) (pur.adH d) (by omega) (fun a b e => ?_) (fun z hz => ?_), (heap_setCell_other wr ⟨M, k * 5 + 2, none⟩ X _ h.ne).trans h.tr, h.ne, grT h.gr (grC wr M _ _)⟩
  · obtain ⟨e1, e2, e3, e4⟩ := e
    refine ⟨?_, ?_, ?_, ?_⟩ <;> simp only [pur.adH] <;> omega
  · obtain ⟨z1, z2, z3, z4⟩ := hz
    have e : y = z.held + d := by omega
    rw [e]
    rfl
end

end Go.Proofs.YthndnndejdckeaaDoor.pur
