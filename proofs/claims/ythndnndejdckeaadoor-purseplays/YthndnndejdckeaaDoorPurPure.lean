/- Plain facts: what becomes of purses. -/
import Derived.Test.YthndnndejdckeaaDoorPurSmall
namespace Go.Proofs.YthndnndejdckeaaDoor.pur
open Go.RowKit Go.Proofs.YthndnndejdckeaaDoor.spn

/-- Where a trader's purse lies. -/
def ix (who : Int) : Nat := (who - 1).toNat
theorem ix_of {who : Int} (h1 : 1 ≤ who) (h2 : who ≤ 9) : ∃ k : Nat, who = (k : Int) + 1 ∧ k < 9 ∧ ix who = k := ⟨(who - 1).toNat, by omega, by omega, rfl⟩
theorem ix_is (k : Nat) : ix ((k : Int) + 1) = k := by unfold ix; omega
/-- More of cash, of what is put by, of stock, of stock that is put by. -/
def adC (d : Int) (z : Pz) : Pz := { z with cash := z.cash + d }
def adH (d : Int) (z : Pz) : Pz := { z with held := z.held + d }
def adS (d : Int) (z : Pz) : Pz := { z with stock := z.stock + d }
def adT (d : Int) (z : Pz) : Pz := { z with hs := z.hs + d }
/-- One purse is turned. -/
def on (f : Pz → Pz) (k : Nat) (ps : List Pz) : List Pz := ps.set k (f ps[k]!)
theorem on_len (f : Pz → Pz) (k : Nat) (ps : List Pz) : (on f k ps).length = ps.length := by unfold on; rw [List.length_set]
theorem on_at (f : Pz → Pz) (k : Nat) (ps : List Pz) (i : Nat) (hi : i < ps.length) : (on f k ps)[i]! = if i = k then f ps[i]! else ps[i]! := by
  unfold on
  rw [getP _ i (by rw [List.length_set]; exact hi), getP ps i hi]
  by_cases h : i = k
  · subst h
    rw [if_pos rfl, List.getElem_set_self, getP ps i hi]
  · rw [if_neg h, List.getElem_set_ne (fun e => h e.symm)]
theorem ext9 {a b : List Pz} {n : Nat} (ha : a.length = n) (hb : b.length = n) (h : ∀ i, i < n → a[i]! = b[i]!) : a = b := by
  refine List.ext_getElem (by omega) (fun i h1 h2 => ?_)
  have := h i (by omega)
  rwa [getP a i h1, getP b i h2] at this

/-- Nobody has less than nothing, less than is put by, or too much. -/
structure Fz (i : Nat) (z : Pz) : Prop where
  who : z.who = (i : Int) + 1
  h0 : 0 ≤ z.held
  hc : z.held ≤ z.cash
  cm : z.cash ≤ 1000000000
  t0 : 0 ≤ z.hs
  ts : z.hs ≤ z.stock
  sm : z.stock ≤ 1000000000
structure Ok (ps : List Pz) : Prop where
  len : ps.length = 9
  all : ∀ i, i < 9 → Fz i ps[i]!
theorem Ok.on {ps : List Pz} (h : Ok ps) {f : Pz → Pz} {k : Nat} (hf : k < 9 → Fz k (f ps[k]!)) : Ok (on f k ps) := by
  refine ⟨(on_len f k ps).trans h.len, fun i hi => ?_⟩
  rw [on_at f k ps i (by rw [h.len]; exact hi)]
  by_cases e : i = k
  · subst e; rw [if_pos rfl]; exact hf hi
  · rw [if_neg e]; exact h.all i hi

/-- Pay's error; Give's. -/
def payE (ps : List Pz) (who n : Int) : Int := if badG who n = true then 1 else if 1000000000 < (ps[ix who]!).cash + n then 4 else 0
def giveE (ps : List Pz) (who n : Int) : Int := if badG who n = true then 1 else if 1000000000 < (ps[ix who]!).stock + n then 4 else 0
def payP (ps : List Pz) (who n : Int) : List Pz := if payE ps who n = 0 then on (adC n) (ix who) ps else ps
def giveP (ps : List Pz) (who n : Int) : List Pz := if giveE ps who n = 0 then on (adS n) (ix who) ps else ps
/-- Hold's, and Free's. -/
def holdE (ps : List Pz) (who c s : Int) : Int := if badH who c s = true then 1 else if (ps[ix who]!).cash - (ps[ix who]!).held < c ∨ (ps[ix who]!).stock - (ps[ix who]!).hs < s then 9 else 0
def freeE (ps : List Pz) (who c s : Int) : Int := if badH who c s = true then 1 else if (ps[ix who]!).held < c ∨ (ps[ix who]!).hs < s then 9 else 0
def holdP (ps : List Pz) (who c s : Int) : List Pz := if holdE ps who c s = 0 then on (adT s) (ix who) (on (adH c) (ix who) ps) else ps
def freeP (ps : List Pz) (who c s : Int) : List Pz := if freeE ps who c s = 0 then on (adT (-s)) (ix who) (on (adH (-c)) (ix who) ps) else ps
/-- Trade's. -/
def badT (f t p q : Int) : Bool := [(f, 1, 9), (t, 1, 9), (p, 1, 10000), (q, 1, 10000)].any spanB
theorem badT_no {f t p q : Int} (h : badT f t p q = false) : 1 ≤ f ∧ f ≤ 9 ∧ 1 ≤ t ∧ t ≤ 9 ∧ 1 ≤ p ∧ p ≤ 10000 ∧ 1 ≤ q ∧ q ≤ 10000 := by
  simp [badT, spanB] at h
  omega
def tradeE (ps : List Pz) (f t p q : Int) : Int :=
  if badT f t p q = true then 1 else if (ps[ix f]!).hs < q ∨ (ps[ix t]!).held < p * q then 9
  else if ¬ f = t ∧ (1000000000 < (ps[ix f]!).cash + p * q ∨ 1000000000 < (ps[ix t]!).stock + q) then 4 else 0
def tradeL (a b : Nat) (c q : Int) (ps : List Pz) : List Pz := on (adC c) a (on (adC (-c)) b (on (adH (-c)) b (on (adS q) b (on (adS (-q)) a (on (adT (-q)) a ps)))))
def tradeP (ps : List Pz) (f t p q : Int) : List Pz := if tradeE ps f t p q = 0 then tradeL (ix f) (ix t) (p * q) q ps else ps

theorem on_len9 {f : Pz → Pz} {k : Nat} {ps : List Pz} (h : ps.length = 9) : (on f k ps).length = 9 := (on_len f k ps).trans h
theorem tradeL_at {a b : Nat} {c q : Int} {ps : List Pz} (h : ps.length = 9) (i : Nat) (hi : i < 9) :
    (tradeL a b c q ps)[i]! = ⟨(ps[i]!).who, (ps[i]!).cash + (if i = b then -c else 0) + (if i = a then c else 0), (ps[i]!).held + (if i = b then -c else 0), (ps[i]!).stock + (if i = a then -q else 0) + (if i = b then q else 0), (ps[i]!).hs + (if i = a then -q else 0)⟩ := by
  have h1 := on_len9 (f := adT (-q)) (k := a) h
  have h2 := on_len9 (f := adS (-q)) (k := a) h1
  have h3 := on_len9 (f := adS q) (k := b) h2
  have h4 := on_len9 (f := adH (-c)) (k := b) h3
  have h5 := on_len9 (f := adC (-c)) (k := b) h4
  unfold tradeL
  rw [on_at _ _ _ i (by omega), on_at _ _ _ i (by omega), on_at _ _ _ i (by omega), on_at _ _ _ i (by omega), on_at _ _ _ i (by omega), on_at _ _ _ i (by omega)]
  by_cases ea : i = a
  · by_cases eb : i = b
    · simp only [if_pos ea, if_pos eb, adC, adH, adS, adT]
    · simp only [if_pos ea, if_neg eb, adC, adH, adS, adT, Int.add_zero]
  · by_cases eb : i = b
    · simp only [if_neg ea, if_pos eb, adC, adH, adS, adT, Int.add_zero]
    · simp only [if_neg ea, if_neg eb, Int.add_zero]

theorem pay_ok {ps : List Pz} (h : Ok ps) (who n : Int) : Ok (payP ps who n) := by
  unfold payP
  by_cases e : payE ps who n = 0
  · rw [if_pos e]
    unfold payE at e
    by_cases hb : badG who n = true
    · rw [if_pos hb] at e; omega
    · rw [if_neg hb] at e
      have hb' := badG_no (by simpa using hb)
      by_cases hf : 1000000000 < (ps[ix who]!).cash + n
      · rw [if_pos hf] at e; omega
      · refine h.on (fun hk => ?_)
        have z := h.all _ hk
        exact ⟨z.who, z.h0, by have := z.hc; simp only [adC]; omega, by simp only [adC]; omega, z.t0, z.ts, z.sm⟩
  · rw [if_neg e]; exact h
theorem give_ok {ps : List Pz} (h : Ok ps) (who n : Int) : Ok (giveP ps who n) := by
  unfold giveP
  by_cases e : giveE ps who n = 0
  · rw [if_pos e]
    unfold giveE at e
    by_cases hb : badG who n = true
    · rw [if_pos hb] at e; omega
    · rw [if_neg hb] at e
      have hb' := badG_no (by simpa using hb)
      by_cases hf : 1000000000 < (ps[ix who]!).stock + n
      · rw [if_pos hf] at e; omega
      · refine h.on (fun hk => ?_)
        have z := h.all _ hk
        exact ⟨z.who, z.h0, z.hc, z.cm, z.t0, by have := z.ts; simp only [adS]; omega, by simp only [adS]; omega⟩
  · rw [if_neg e]; exact h
theorem hold_ok {ps : List Pz} (h : Ok ps) (who c s : Int) : Ok (holdP ps who c s) := by
  unfold holdP
  by_cases e : holdE ps who c s = 0
  · rw [if_pos e]
    unfold holdE at e
    by_cases hb : badH who c s = true
    · rw [if_pos hb] at e; omega
    · rw [if_neg hb] at e
      have hb' := badH_no (by simpa using hb)
      by_cases hf : (ps[ix who]!).cash - (ps[ix who]!).held < c ∨ (ps[ix who]!).stock - (ps[ix who]!).hs < s
      · rw [if_pos hf] at e; omega
      · have h1 : Ok (on (adH c) (ix who) ps) := h.on (fun hk => by
          have z := h.all _ hk
          exact ⟨z.who, by have := z.h0; simp only [adH]; omega, by simp only [adH]; omega, z.cm, z.t0, z.ts, z.sm⟩)
        refine h1.on (fun hk => ?_)
        have z := h1.all _ hk
        have z0 := h.all _ hk
        rw [on_at (adH c) (ix who) ps _ (by rw [h.len]; exact hk), if_pos rfl] at z ⊢
        exact ⟨z.who, z.h0, z.hc, z.cm, by have := z0.t0; show 0 ≤ (ps[ix who]!).hs + s; omega, by show (ps[ix who]!).hs + s ≤ (ps[ix who]!).stock; omega, z.sm⟩
  · rw [if_neg e]; exact h
theorem free_ok {ps : List Pz} (h : Ok ps) (who c s : Int) : Ok (freeP ps who c s) := by
  unfold freeP
  by_cases e : freeE ps who c s = 0
  · rw [if_pos e]
    unfold freeE at e
    by_cases hb : badH who c s = true
    · rw [if_pos hb] at e; omega
    · rw [if_neg hb] at e
      have hb' := badH_no (by simpa using hb)
      by_cases hf : (ps[ix who]!).held < c ∨ (ps[ix who]!).hs < s
      · rw [if_pos hf] at e; omega
      · have h1 : Ok (on (adH (-c)) (ix who) ps) := h.on (fun hk => by
          have z := h.all _ hk
          exact ⟨z.who, by simp only [adH]; omega, by have := z.hc; simp only [adH]; omega, z.cm, z.t0, z.ts, z.sm⟩)
        refine h1.on (fun hk => ?_)
        have z := h1.all _ hk
        have z0 := h.all _ hk
        rw [on_at (adH (-c)) (ix who) ps _ (by rw [h.len]; exact hk), if_pos rfl] at z ⊢
        exact ⟨z.who, z.h0, z.hc, z.cm, by show 0 ≤ (ps[ix who]!).hs + -s; omega, by have := z0.ts; show (ps[ix who]!).hs + -s ≤ (ps[ix who]!).stock; omega, z.sm⟩
  · rw [if_neg e]; exact h
theorem mul_bound {p q : Int} (h1 : 1 ≤ p) (h2 : p ≤ 10000) (h3 : 1 ≤ q) (h4 : q ≤ 10000) : 1 ≤ p * q ∧ p * q ≤ 100000000 := by
  have a : 1 * 1 ≤ p * q := Int.mul_le_mul h1 h3 (by omega) (by omega)
  have b : p * q ≤ 10000 * 10000 := Int.mul_le_mul h2 h4 (by omega) (by omega)
  omega
theorem trade_facts {ps : List Pz} {f t p q : Int} (e : tradeE ps f t p q = 0) : badT f t p q = false ∧ ¬ (ps[ix f]!).hs < q ∧ ¬ (ps[ix t]!).held < p * q ∧ (¬ f = t → ¬ 1000000000 < (ps[ix f]!).cash + p * q ∧ ¬ 1000000000 < (ps[ix t]!).stock + q) := by
  unfold tradeE at e
  by_cases hb : badT f t p q = true
  · rw [if_pos hb] at e; omega
  · rw [if_neg hb] at e
    by_cases h1 : (ps[ix f]!).hs < q ∨ (ps[ix t]!).held < p * q
    · rw [if_pos h1] at e; omega
    · rw [if_neg h1] at e
      by_cases h2 : ¬ f = t ∧ (1000000000 < (ps[ix f]!).cash + p * q ∨ 1000000000 < (ps[ix t]!).stock + q)
      · rw [if_pos h2] at e; omega
      · exact ⟨by simpa using hb, fun h => h1 (.inl h), fun h => h1 (.inr h), fun hne => ⟨fun h => h2 ⟨hne, .inl h⟩, fun h => h2 ⟨hne, .inr h⟩⟩⟩
theorem trade_ok {ps : List Pz} (h : Ok ps) (f t p q : Int) : Ok (tradeP ps f t p q) := by
  unfold tradeP
  by_cases e : tradeE ps f t p q = 0
  · rw [if_pos e]
    obtain ⟨hb, h1, h2, h3⟩ := trade_facts e
    obtain ⟨b1, b2, b3, b4, b5, b6, b7, b8⟩ := badT_no hb
    have hm := mul_bound b5 b6 b7 b8
    generalize p * q = c at *
    have hft : ix f = ix t → f = t := by unfold ix; omega
    refine ⟨by unfold tradeL; simp only [on_len]; exact h.len, fun i hi => ?_⟩
    rw [tradeL_at h.len i hi]
    have z := h.all i hi
    by_cases ea : i = ix f
    · by_cases eb : i = ix t
      · rw [← ea] at h1 h3
        rw [← eb] at h2
        simp only [if_pos ea, if_pos eb]
        exact ⟨z.who, by dsimp only; omega, by have := z.hc; dsimp only; omega, by have := z.cm; dsimp only; omega, by dsimp only; omega, by have := z.ts; dsimp only; omega, by have := z.sm; dsimp only; omega⟩
      · have h4 := h3 (fun e => eb (by rw [ea, e]))
        rw [← ea] at h1 h4
        simp only [if_pos ea, if_neg eb, Int.add_zero]
        exact ⟨z.who, z.h0, by have := z.hc; dsimp only; omega, by dsimp only; omega, by dsimp only; omega, by have := z.ts; dsimp only; omega, by have := z.sm; dsimp only; omega⟩
    · by_cases eb : i = ix t
      · have h4 := h3 (fun e => ea (by rw [eb, e]))
        rw [← eb] at h2 h4
        simp only [if_neg ea, if_pos eb, Int.add_zero]
        exact ⟨z.who, by dsimp only; omega, by have := z.hc; dsimp only; omega, by have := z.cm; dsimp only; omega, z.t0, by have := z.ts; dsimp only; omega, by dsimp only; omega⟩
      · simp only [if_neg ea, if_neg eb, Int.add_zero]
        exact z
  · rw [if_neg e]; exact h

/-- All cash, and all stock. -/
def sumC (ps : List Pz) : Int := (ps.map (·.cash)).sum
def sumS (ps : List Pz) : Int := (ps.map (·.stock)).sum
end Go.Proofs.YthndnndejdckeaaDoor.pur
