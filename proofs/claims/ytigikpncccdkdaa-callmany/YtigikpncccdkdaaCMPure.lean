/- Plain facts: one against many. -/
import Derived.Test.YtigikpncccdkdaaCalFact
namespace Go.Proofs.Ytigikpncccdkdaa.cal
open Go.Proofs.Ytigikpncccdkdaa.ord
open Go.Proofs.Ytigikpncccdkdaa.wak (getE)

def mBuy (W : Int) : O := ⟨99, 9, 1, 1, 200, W, 0, 0⟩
def mSell (K : Int) (i : Nat) : O := ⟨(i : Int) + 1, 1, 2, 1, 100, K, 0, 0⟩
def many (K W : Int) (k : Nat) : List O := mBuy W :: (List.range k).map (mSell K)
theorem many_len (K W : Int) (k : Nat) : (many K W k).length = k + 1 := by unfold many; simp
theorem many_succ (K W : Int) (k : Nat) : many K W (k + 1) = many K W k ++ [mSell K k] := by unfold many; rw [List.range_succ, List.map_append]; rfl
theorem fine_buy {W : Int} (h1 : 1 ≤ W) (h2 : W ≤ 10000) : Fine (mBuy W) := by
  refine ⟨?_, rfl, rfl, rfl⟩
  unfold mBuy chk headB priceOkB qtyB shapeB stopB prB
  simp [h1, h2]
  omega
theorem fine_sell {K : Int} {i : Nat} (h1 : 1 ≤ K) (h2 : K ≤ 10000) (hi : i < 50) : Fine (mSell K i) := by
  refine ⟨?_, rfl, rfl, rfl⟩
  have a1 : (1 : Int) ≤ (i : Int) + 1 := by omega
  have a2 : (i : Int) + 1 ≤ 9999 := by omega
  have a3 : (0 : Int) ≤ K := by omega
  unfold mSell chk headB priceOkB qtyB shapeB stopB prB
  simp [h1, h2, a1, a2, a3]
theorem many_good {K W : Int} {k : Nat} (hK : 1 ≤ K) (hK2 : K ≤ 10000) (hW : 1 ≤ W) (hW2 : W ≤ 10000) (hk : k ≤ 50) : Good (many K W k) := by
  refine ⟨by rw [many_len]; omega, fun o ho => ?_, ?_⟩
  · unfold many at ho
    rcases List.mem_cons.1 ho with rfl | ho
    · exact fine_buy hW hW2
    · obtain ⟨i, hi, rfl⟩ := List.mem_map.1 ho
      exact fine_sell hK hK2 (by have := List.mem_range.1 hi; omega)
  · unfold many
    refine List.pairwise_cons.2 ⟨fun o ho => ?_, ?_⟩
    · obtain ⟨i, hi, rfl⟩ := List.mem_map.1 ho
      have := List.mem_range.1 hi
      show ¬ (99 : Int) = (i : Int) + 1
      omega
    · rw [List.pairwise_map]
      refine List.pairwise_lt_range.imp ?_
      intro a b hab e
      have : ((a : Int) + 1) = (b : Int) + 1 := e
      omega
theorem many_ws1 (K W p : Int) (k : Nat) (hp : p ≤ 200) : ws 1 p (many K W k) = W := by
  have : ∀ l : List Nat, ws 1 p (l.map (mSell K)) = 0 := by
    intro l
    induction l with
    | nil => rfl
    | cons a t ih =>
      rw [List.map_cons, ws, ih, if_neg (fun x => absurd (show (2 : Int) = 1 from x.1) (by decide))]
      rfl
  unfold many
  rw [ws, this, if_pos ⟨rfl, by unfold at_ mBuy; rw [if_pos rfl]; exact decide_eq_true hp⟩]
  show W + 0 = W
  omega
theorem many_ws2 (K W p : Int) (k : Nat) (hp : 100 ≤ p) : ws 2 p (many K W k) = (k : Int) * K := by
  have : ∀ l : List Nat, ws 2 p (l.map (mSell K)) = (l.length : Int) * K := by
    intro l
    induction l with
    | nil => simp [ws]
    | cons a t ih =>
      rw [List.map_cons, ws, ih, if_pos ⟨rfl, by unfold at_ mSell; rw [if_neg (show ¬ (2 : Int) = 1 by decide)]; exact decide_eq_true hp⟩, List.length_cons]
      show K + (t.length : Int) * K = ((t.length + 1 : Nat) : Int) * K
      rw [Int.natCast_add, Int.add_mul]
      omega
  unfold many
  rw [ws, this, if_neg (fun x => absurd (show (1 : Int) = 2 from x.1) (by decide)), List.length_range]
  omega
theorem many_of (K W : Int) (k : Nat) (p : Int) (h1 : 100 ≤ p) (h2 : p ≤ 200) : (ofAt (many K W k) p).vol = min W ((k : Int) * K) := by
  show min (ws 1 p (many K W k)) (ws 2 p (many K W k)) = _
  rw [many_ws1 K W p k h2, many_ws2 K W p k h1]
theorem many_price {K W : Int} {k : Nat} (hK : 1 ≤ K) (hK2 : K ≤ 10000) (hW : 1 ≤ W) (hW2 : W ≤ 10000) (hk : k ≤ 50) (hk0 : 1 ≤ k) : pE (many K W k) = 0 ∧ pV (many K W k) = min W ((k : Int) * K) := by
  have hg := many_good hK hK2 hW hW2 hk
  have hpos : 0 < (k : Int) * K := Int.mul_pos (by omega) (by omega)
  have h1 : mBuy W ∈ many K W k := List.mem_cons_self
  have hge := best_ge (many K W k) _ h1
  have e200 := many_of K W k 200 (by decide) (by decide)
  have hb : (mBuy W).price = 200 := rfl
  rw [hb, e200] at hge
  have hv : ¬ (best (many K W k)).vol = 0 := by omega
  have hE : pE (many K W k) = 0 := by unfold pE; rw [if_pos (cE_of hg), if_neg hv]
  refine ⟨hE, ?_⟩
  obtain ⟨-, hP, hV, hVm, -, -, -, o, ho, hpo⟩ := price_zero hE
  have hpr : pP (many K W k) = 200 ∨ pP (many K W k) = 100 := by
    unfold many at ho
    rcases List.mem_cons.1 ho with rfl | ho
    · exact .inl hpo
    · obtain ⟨i, hi, rfl⟩ := List.mem_map.1 ho
      exact .inr hpo
  rw [hVm]
  rcases hpr with e | e <;> rw [e]
  · rw [many_ws1 K W 200 k (by decide), many_ws2 K W 200 k (by decide)]
  · rw [many_ws1 K W 100 k (by decide), many_ws2 K W 100 k (by decide)]

/-- As many trades as it needs. -/
theorem many_count {p v : Int} {os : List O} {ts : List T} {os' : List O} {K : Int} {b0 : Nat} (hK : 1 ≤ K) (h : U p v os ts os') : (∀ j, j < os.length → (os[j]!).side = 1 → j = b0) → (0 < v → ∀ j, j < os.length → (os[j]!).side = 2 → (os[j]!).qty = 0 ∨ (os[j]!).qty = K) → (ts.length : Int) = (v + K - 1) / K := by
  induction h with
  | done os =>
    intro _ _
    show (0 : Int) = (0 + K - 1) / K
    rw [Int.ediv_eq_zero_of_lt (by omega) (by omega)]
  | fill v os b s ts os' hv hb hs hu ih =>
    intro h1 h2
    have eb := h1 b hb.lt hb.sd
    have ek : (os[s]!).qty = K := by
      rcases h2 hv s hs.lt hs.sd with e | e
      · have := hs.left; omega
      · exact e
    have hne : b ≠ s := fun e => by
      have x1 := hb.sd
      have x2 := hs.sd
      rw [e, x2] at x1
      exact absurd x1 (by decide)
    have hx := hb.left
    rw [ek] at ih hu
    rw [List.length_cons]
    by_cases hc : K ≤ (os[b]!).qty
    · rw [Int.min_eq_right hc] at ih hu
      have := ih (fun j hj hs1 => h1 j (by rwa [dq_len, dq_len] at hj) (by rwa [dq_side, dq_side] at hs1)) (fun _ j hj hs2 => by
        rw [dq_len, dq_len] at hj
        rw [dq_side, dq_side] at hs2
        by_cases ejs : j = s
        · subst ejs
          left
          rw [dq_at _ j K (by rw [dq_len]; exact hs.lt), dq_ne os b K j (fun e => hne e.symm)]
          show (os[j]!).qty - K = 0
          omega
        · rw [dq_ne _ s K j ejs, dq_ne os b K j (fun e => by rw [e, hb.sd] at hs2; exact absurd hs2 (by decide))]
          exact h2 hv j hj hs2)
      rw [Int.natCast_add, this]
      have e : v + K - 1 = (v - K + K - 1) + 1 * K := by omega
      rw [e, Int.add_mul_ediv_right _ _ (by omega)]
      rfl
    · have hm : min (os[b]!).qty K = (os[b]!).qty := by omega
      rw [hm] at hu
      have hz : v - (os[b]!).qty = 0 ∧ ts = [] := by
        generalize hvv : v - (os[b]!).qty = v' at hu
        generalize hoo : dq (dq os b (os[b]!).qty) s (os[b]!).qty = oo at hu
        cases hu with
        | done => exact ⟨rfl, rfl⟩
        | fill _ _ b' s' ts' _ hv' hb' hs' _ =>
          exfalso
          have hl := hb'.lt
          have hsd := hb'.sd
          have hlf := hb'.left
          subst hoo
          rw [dq_len, dq_len] at hl
          rw [dq_side, dq_side] at hsd
          have e' := h1 b' hl hsd
          have ebb : b' = b := by omega
          subst ebb
          rw [dq_ne _ s _ b' hne, dq_at os b' _ hl] at hlf
          have : 0 < (os[b']!).qty - (os[b']!).qty := hlf
          omega
      rw [hz.2]
      show ((0 + 1 : Nat) : Int) = _
      have e : v = (os[b]!).qty := by omega
      have e2 : v + K - 1 = (v - 1) + 1 * K := by omega
      rw [e2, Int.add_mul_ediv_right _ _ (by omega), Int.ediv_eq_zero_of_lt (by omega) (by omega)]
      rfl
theorem many_get (K W : Int) (k j : Nat) (hj : j < k) : (many K W k)[j + 1]! = mSell K j := by
  unfold many
  have : (mBuy W :: (List.range k).map (mSell K))[j + 1]! = ((List.range k).map (mSell K))[j]! := rfl
  rw [this, getE _ j (by simpa using hj)]
  simp
theorem many_trades {K W p : Int} {k : Nat} {ts : List T} {os' : List O} {v : Int} (hK : 1 ≤ K) (h : U p v (many K W k) ts os') : (ts.length : Int) = (v + K - 1) / K := by
  refine many_count (b0 := 0) hK h (fun j hj hs => ?_) (fun _ j hj hs => ?_)
  · cases j with
    | zero => rfl
    | succ j =>
      rw [many_len] at hj
      rw [many_get K W k j (by omega)] at hs
      exact absurd (show (2 : Int) = 1 from hs) (by decide)
  · cases j with
    | zero => exact absurd (show (1 : Int) = 2 from hs) (by decide)
    | succ j =>
      rw [many_len] at hj
      rw [many_get K W k j (by omega)]
      exact .inr rfl
end Go.Proofs.Ytigikpncccdkdaa.cal
