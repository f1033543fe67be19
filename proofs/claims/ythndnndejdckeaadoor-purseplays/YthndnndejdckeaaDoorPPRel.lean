/- Plain facts: the document's purses beside the program's. -/
import Derived.Test.YthndnndejdckeaaDoorPSPure
namespace Go.Proofs.YthndnndejdckeaaDoor.pur
open Go.RowKit Go.Proofs.YthndnndejdckeaaDoor.spn

/-- The document's purse has the same; whose it is may not be written there. -/
structure Lk (z y : Pz) : Prop where
  c : y.cash = z.cash
  h : y.held = z.held
  s : y.stock = z.stock
  t : y.hs = z.hs
/-- The document's ten purses, the first of which is nobody's, beside the program's nine. -/
structure Rel (ps rs : List Pz) : Prop where
  len : rs.length = 10
  all : ∀ i, 1 ≤ i → i ≤ 9 → Lk ps[i - 1]! rs[i]!
theorem set_at (l : List Pz) (k : Nat) (z : Pz) (i : Nat) (hi : i < l.length) : (l.set k z)[i]! = if i = k then z else l[i]! := on_at (fun _ => z) k l i hi
theorem Rel.put {ps rs : List Pz} (h : Rel ps rs) (hp : ps.length = 9) {k : Nat} (h1 : 1 ≤ k) (h9 : k ≤ 9) {z y : Pz} (hl : Lk z y) : Rel (ps.set (k - 1) z) (rs.set k y) := by
  refine ⟨by rw [List.length_set]; exact h.len, fun i hi1 hi9 => ?_⟩
  rw [set_at ps (k - 1) z (i - 1) (by omega), set_at rs k y i (by rw [h.len]; omega)]
  by_cases e : i = k
  · rw [if_pos (by omega), if_pos e]; exact hl
  · rw [if_neg (by omega), if_neg e]; exact h.all i hi1 hi9
theorem on_on (f g : Pz → Pz) (k : Nat) (ps : List Pz) (hk : k < ps.length) : on g k (on f k ps) = ps.set k (g (f ps[k]!)) := by
  have e := on_at f k ps k hk
  rw [if_pos rfl] at e
  show (on f k ps).set k (g (on f k ps)[k]!) = _
  rw [e]
  unfold on
  rw [List.set_set]
theorem ix_nat (A : Nat) : ix (A : Int) = A - 1 := by unfold ix; omega
theorem ix_nat1 {A : Nat} (h : 1 ≤ A) : ((A - 1 : Nat) : Int) + 1 = (A : Int) := by omega
/-- The same trade in the document's order. -/
def tradeR (a b : Nat) (c q : Int) (ps : List Pz) : List Pz := on (adS q) b (on (adC (-c)) b (on (adH (-c)) b (on (adC c) a (on (adS (-q)) a (on (adT (-q)) a ps)))))
theorem tradeR_at {a b : Nat} {c q : Int} {ps : List Pz} (h : ps.length = 9) (i : Nat) (hi : i < 9) :
    (tradeR a b c q ps)[i]! = ⟨(ps[i]!).who, (ps[i]!).cash + (if i = b then -c else 0) + (if i = a then c else 0), (ps[i]!).held + (if i = b then -c else 0), (ps[i]!).stock + (if i = a then -q else 0) + (if i = b then q else 0), (ps[i]!).hs + (if i = a then -q else 0)⟩ := by
  have h1 := on_len9 (f := adT (-q)) (k := a) h
  have h2 := on_len9 (f := adS (-q)) (k := a) h1
  have h3 := on_len9 (f := adC c) (k := a) h2
  have h4 := on_len9 (f := adH (-c)) (k := b) h3
  have h5 := on_len9 (f := adC (-c)) (k := b) h4
  unfold tradeR
  rw [on_at _ _ _ i (by omega), on_at _ _ _ i (by omega), on_at _ _ _ i (by omega), on_at _ _ _ i (by omega), on_at _ _ _ i (by omega), on_at _ _ _ i (by omega)]
  by_cases ea : i = a
  · by_cases eb : i = b
    · simp only [if_pos ea, if_pos eb, adC, adH, adS, adT, Pz.mk.injEq, true_and, and_true]
      omega
    · simp only [if_pos ea, if_neg eb, adC, adH, adS, adT, Int.add_zero]
  · by_cases eb : i = b
    · simp only [if_neg ea, if_pos eb, adC, adH, adS, adT, Int.add_zero]
    · simp only [if_neg ea, if_neg eb, Int.add_zero]
theorem tradeR_is {a b : Nat} {c q : Int} {ps : List Pz} (h : ps.length = 9) : tradeR a b c q ps = tradeL a b c q ps := by
  refine ext9 (n := 9) (by unfold tradeR; simp only [on_len]; exact h) (by unfold tradeL; simp only [on_len]; exact h) (fun i hi => ?_)
  rw [tradeR_at h i hi, tradeL_at h i hi]

/-- Five cells of a purse have other numbers. -/
theorem Pu.put5 {t : TypeId} {n : Nat} {w : World} {P : Nat} {ps : List Pz} (h : Pu t n w P ps) (k : Nat) (z : Pz) (hk : k < n) :
    Pu t n (((((w.setCell ⟨P, k * 5, none⟩ (.int .i64 z.who)).setCell ⟨P, k * 5 + 1, none⟩ (.int .i64 z.cash)).setCell ⟨P, k * 5 + 2, none⟩ (.int .i64 z.held)).setCell ⟨P, k * 5 + 3, none⟩ (.int .i64 z.stock)).setCell ⟨P, k * 5 + 4, none⟩ (.int .i64 z.hs)) P (ps.set k z) := by
  have hl : k < ps.length := by rw [h.1]; exact hk
  have e1 : ∀ y, (ps.set k y)[k]! = y := fun y => by rw [set_at ps k y k hl, if_pos rfl]
  have p0 := h.put k 0 (.int .i64 z.who) ⟨z.who, (ps[k]!).cash, (ps[k]!).held, (ps[k]!).stock, (ps[k]!).hs⟩ hk (by omega) rfl
  have p1 := p0.put k 1 (.int .i64 z.cash) ⟨z.who, z.cash, (ps[k]!).held, (ps[k]!).stock, (ps[k]!).hs⟩ hk (by omega) (by rw [e1]; rfl)
  rw [List.set_set] at p1
  have p2 := p1.put k 2 (.int .i64 z.held) ⟨z.who, z.cash, z.held, (ps[k]!).stock, (ps[k]!).hs⟩ hk (by omega) (by rw [e1]; rfl)
  rw [List.set_set] at p2
  have p3 := p2.put k 3 (.int .i64 z.stock) ⟨z.who, z.cash, z.held, z.stock, (ps[k]!).hs⟩ hk (by omega) (by rw [e1]; rfl)
  rw [List.set_set] at p3
  have p4 := p3.put k 4 (.int .i64 z.hs) z hk (by omega) (by rw [e1]; rfl)
  rw [List.set_set] at p4
  exact p4

/-- The document's purses as they lie, beside the program's. -/
def RS (w : World) (M : Nat) (ps : List Pz) : Prop := ∃ rs, Pu 29 10 w M rs ∧ Rel ps rs
section
variable {w w' : World} {M : Nat} {ps : List Pz}
theorem RS.same (h : RS w M ps) (e : w'.heap[M]? = w.heap[M]?) : RS w' M ps := by obtain ⟨rs, h1, h2⟩ := h; exact ⟨rs, h1.same e, h2⟩
theorem RS.lt (h : RS w M ps) : M < w.heap.size := by obtain ⟨rs, h1, h2⟩ := h; exact h1.lt
theorem RS.below (h : RS w M ps) (hb : Below w.heap.size w w') : RS w' M ps := h.same (hb.block M h.lt)
theorem RS.keep {row : Option Nat} (h : RS w M ps) (hg : w.grownBy w' row) (hr : some M ≠ row) : RS w' M ps := h.same (hg.block M h.lt hr)
theorem RS.froz (h : RS w M ps) (j : Nat) : w.frozen? ⟨M, j, none⟩ = false := by obtain ⟨rs, h1, h2⟩ := h; exact h1.froz j
theorem RS.cells (h : RS w M ps) (k : Nat) (h1 : 1 ≤ k) (h9 : k ≤ 9) : ∃ x, w.cell? ⟨M, k * 5, none⟩ = some (.int .i64 x) ∧ w.cell? ⟨M, k * 5 + 1, none⟩ = some (.int .i64 (ps[k - 1]!).cash) ∧ w.cell? ⟨M, k * 5 + 2, none⟩ = some (.int .i64 (ps[k - 1]!).held) ∧ w.cell? ⟨M, k * 5 + 3, none⟩ = some (.int .i64 (ps[k - 1]!).stock) ∧ w.cell? ⟨M, k * 5 + 4, none⟩ = some (.int .i64 (ps[k - 1]!).hs) := by
  obtain ⟨rs, hp, hr⟩ := h
  obtain ⟨e1, e2, e3, e4⟩ := hr.all k h1 h9
  rw [← e1, ← e2, ← e3, ← e4]
  exact ⟨_, hp.cell k (by omega) 0 _ rfl, hp.cell k (by omega) 1 _ rfl, hp.cell k (by omega) 2 _ rfl, hp.cell k (by omega) 3 _ rfl, hp.cell k (by omega) 4 _ rfl⟩
theorem RS.put5 (h : RS w M ps) (hp : ps.length = 9) (k : Nat) (h1 : 1 ≤ k) (h9 : k ≤ 9) (x c d e f : Int) (z : Pz) (hz : z.cash = c ∧ z.held = d ∧ z.stock = e ∧ z.hs = f) :
    RS (((((w.setCell ⟨M, k * 5, none⟩ (.int .i64 x)).setCell ⟨M, k * 5 + 1, none⟩ (.int .i64 c)).setCell ⟨M, k * 5 + 2, none⟩ (.int .i64 d)).setCell ⟨M, k * 5 + 3, none⟩ (.int .i64 e)).setCell ⟨M, k * 5 + 4, none⟩ (.int .i64 f)) M (ps.set (k - 1) z) := by
  obtain ⟨rs, hq, hr⟩ := h
  obtain ⟨rfl, rfl, rfl, rfl⟩ := hz
  exact ⟨_, hq.put5 k ⟨x, z.cash, z.held, z.stock, z.hs⟩ (by omega), hr.put hp h1 h9 ⟨rfl, rfl, rfl, rfl⟩⟩
theorem RS.put1 (h : RS w M ps) (hp : ps.length = 9) (k : Nat) (h1 : 1 ≤ k) (h9 : k ≤ 9) (j : Nat) (v : Value) (g : Pz → Pz) (hj : j < 5) (hl : ∀ z y, Lk z y → Lk (g z) (g y)) (hg : ∀ y, (y.cash = (ps[k - 1]!).cash ∧ y.held = (ps[k - 1]!).held ∧ y.stock = (ps[k - 1]!).stock ∧ y.hs = (ps[k - 1]!).hs) → (pL y).set j v = pL (g y)) :
    RS (w.setCell ⟨M, k * 5 + j, none⟩ v) M (on g (k - 1) ps) := by
  obtain ⟨rs, hq, hr⟩ := h
  have hk := hr.all k h1 h9
  exact ⟨_, hq.put k j v (g rs[k]!) (by omega) hj (hg _ ⟨hk.c, hk.h, hk.s, hk.t⟩), hr.put hp h1 h9 (hl _ _ hk)⟩
end
end Go.Proofs.YthndnndejdckeaaDoor.pur
