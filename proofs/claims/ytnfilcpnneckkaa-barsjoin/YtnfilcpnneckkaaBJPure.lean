/- Bars of parts, joined, are the bar of all; what trades were worth in the mean is between their prices. -/
import Derived.Test.YtnfilcpnneckkaaBarBars
import Derived.Test.YtnfilcpnneckkaaBarMean
import Derived.Test.YtnfilcpnneckkaaBarJo
namespace Go.Proofs.Ytnfilcpnneckkaa.bar
open Go.RowKit Go.Proofs.Ytnfilcpnneckkaa.mee
open Go.Proofs.Ytnfilcpnneckkaa.spn (spanB)

theorem joinOf_snoc {l : List B} (h : l ≠ []) (b : B) : joinOf (l ++ [b]) = bhd (joinOf l) b := by
  cases l with
  | nil => exact absurd rfl h
  | cons x r => simp [joinOf, List.foldl_append]
theorem wrap_assoc (a b c : Int) : wrap64 (wrap64 (a + b) + c) = wrap64 (a + wrap64 (b + c)) := by unfold wrap64; omega
theorem bhd_assoc (a b c : B) : bhd (bhd a b) c = bhd a (bhd b c) := by
  obtain ⟨a1, a2, a3, a4, a5⟩ := a
  obtain ⟨b1, b2, b3, b4, b5⟩ := b
  obtain ⟨c1, c2, c3, c4, c5⟩ := c
  simp only [bhd, B.mk.injEq]
  exact ⟨trivial, Int.max_assoc .., Int.min_assoc .., trivial, wrap_assoc ..⟩
theorem barF_bhd (a b : B) (r : List T) : barF (bhd a b) r = bhd a (barF b r) := by
  induction r generalizing b with
  | nil => rfl
  | cons t r ih =>
    show barF (bhd (bhd a b) (sgl t)) r = _
    rw [bhd_assoc, ih]
    rfl
theorem barOf_append {p q : List T} (hp : p ≠ []) (hq : q ≠ []) : barOf (p ++ q) = bhd (barOf p) (barOf q) := by
  cases p with
  | nil => exact absurd rfl hp
  | cons t r =>
    cases q with
    | nil => exact absurd rfl hq
    | cons u s =>
      show barF (sgl t) (r ++ u :: s) = bhd (barF (sgl t) r) (barF (sgl u) s)
      unfold barF
      rw [List.foldl_append, List.foldl_cons]
      exact barF_bhd _ _ _
theorem cnt_mul {n len : Nat} (hn : 1 ≤ n) : len ≤ cnt n len * n := by
  unfold cnt
  have h := Nat.div_add_mod (len + n - 1) n
  have h2 := Nat.mod_lt (len + n - 1) (show 0 < n by omega)
  rw [Nat.mul_comm] at h
  omega
theorem cnt_lt' {n k j : Nat} (hn : 1 ≤ n) (h : j < cnt n k) : j * n < k := by
  unfold cnt at h
  have h1 : (j + 1) * n ≤ k + n - 1 := (Nat.le_div_iff_mul_le (by omega)).1 (show j + 1 ≤ (k + n - 1) / n from h)
  rw [Nat.add_mul] at h1
  omega
theorem cnt_le {n len : Nat} (hn : 1 ≤ n) : cnt n len ≤ len := by
  unfold cnt
  rcases Nat.eq_zero_or_pos len with rfl | h
  · rw [Nat.div_eq_of_lt (by omega)]; exact Nat.le_refl _
  · refine Nat.le_of_lt_succ ((Nat.div_lt_iff_lt_mul (by omega)).2 ?_)
    have : len * 1 ≤ len * n := Nat.mul_le_mul_left _ hn
    rw [show len.succ * n = len * n + n by rw [Nat.succ_mul]]
    omega
theorem cnt_pos {n len : Nat} (hn : 1 ≤ n) (h : 0 < len) : 0 < cnt n len := by
  have := cnt_mul (len := len) hn
  rcases Nat.eq_zero_or_pos (cnt n len) with h0 | h0
  · rw [h0] at this; omega
  · exact h0
theorem cnt_one {n : Nat} (h : 0 < n) : cnt n n = 1 := by
  unfold cnt
  rw [Nat.div_eq_iff (by omega)]
  omega
theorem bars_len' (zs : List T) (n : Nat) : (barsOf zs n).length = cnt n zs.length := by simp [barsOf, barsAt, parts]
theorem bars_at' (zs : List T) (n j : Nat) (h : j < cnt n zs.length) : (barsOf zs n)[j]! = barOf (partL n zs (j * n)) := by
  rw [getE _ _ (by rw [bars_len']; exact h)]
  simp [barsOf, barsAt, parts]
theorem part_ne {zs : List T} {n o : Nat} (hn : 1 ≤ n) (h : o < zs.length) : partL n zs o ≠ [] := by
  intro h0
  have := congrArg List.length h0
  simp [partL] at this
  omega
theorem join_take (zs : List T) (n : Nat) (hn : 1 ≤ n) : ∀ k, k + 1 ≤ cnt n zs.length → joinOf (barsAt n zs (parts n (k + 1))) = barOf (zs.take ((k + 1) * n))
  | 0, _ => by simp [parts, barsAt, joinOf, partL]
  | k + 1, h => by
    have ih := join_take zs n hn k (by omega)
    rw [parts_succ]
    have e : barsAt n zs (parts n (k + 1) ++ [(k + 1) * n]) = barsAt n zs (parts n (k + 1)) ++ [barOf (partL n zs ((k + 1) * n))] := by simp [barsAt]
    rw [e, joinOf_snoc (by simp [barsAt, parts_succ]), ih]
    have hlt := cnt_lt' hn (show k + 1 < cnt n zs.length by omega)
    have hne : zs.take ((k + 1) * n) ≠ [] := by
      intro h0
      have h1 := congrArg List.length h0
      rw [List.length_take, List.length_nil] at h1
      have h2 : n ≤ (k + 1) * n := by rw [Nat.add_mul]; omega
      omega
    rw [← barOf_append hne (part_ne hn hlt)]
    unfold partL
    rw [← List.take_add, show (k + 1 + 1) * n = (k + 1) * n + n by rw [Nat.add_mul (k + 1)]; omega]
theorem join_all {zs : List T} {n : Nat} (hn : 1 ≤ n) (h : 0 < zs.length) : joinOf (barsOf zs n) = barOf zs := by
  obtain ⟨k, hk⟩ : ∃ k, cnt n zs.length = k + 1 := ⟨cnt n zs.length - 1, by have := cnt_pos hn h; omega⟩
  have h1 := join_take zs n hn k (by omega)
  have h2 := cnt_mul (len := zs.length) hn
  unfold barsOf
  rw [hk] at h2 ⊢
  rw [h1, List.take_of_length_le h2]

/-- What one knows of the bar of good trades. -/
structure Fine (b : B) (m : Nat) : Prop where
  l1 : 1 ≤ b.l
  lo : b.l ≤ b.o
  oh : b.o ≤ b.h
  lc : b.l ≤ b.c
  ch : b.c ≤ b.h
  h1 : b.h ≤ 10000
  q1 : (m : Int) ≤ b.q
  q2 : b.q ≤ 10000 * m
theorem fine_sgl {t : T} (h : 1 ≤ t.price ∧ t.price ≤ 10000 ∧ 1 ≤ t.qty ∧ t.qty ≤ 10000) : Fine (sgl t) 1 := by
  obtain ⟨h1, h2, h3, h4⟩ := h
  exact ⟨h1, Int.le_refl _, Int.le_refl _, Int.le_refl _, Int.le_refl _, h2, by simpa [sgl] using h3, by simpa [sgl] using h4⟩
theorem fine_bhd {a b : B} {m k : Nat} (ha : Fine a m) (hb : Fine b k) (h : m + k ≤ 400) : Fine (bhd a b) (m + k) := by
  obtain ⟨a1, a2, a3, a4, a5, a6, a7, a8⟩ := ha
  obtain ⟨b1, b2, b3, b4, b5, b6, b7, b8⟩ := hb
  have hw : wrap64 (a.q + b.q) = a.q + b.q := by unfold wrap64; omega
  refine ⟨?_, ?_, ?_, ?_, ?_, ?_, ?_, ?_⟩ <;> simp only [bhd, hw] <;> omega
theorem fine_barF : ∀ (r : List T) (a : B) (m : Nat), Fine a m → r.any badT = false → m + r.length ≤ 400 → Fine (barF a r) (m + r.length)
  | [], a, m, h, _, _ => h
  | t :: r, a, m, h, hr, hl => by
    have ht := good_mem hr (List.mem_cons_self : t ∈ t :: r)
    have hr' : r.any badT = false := by
      rw [List.any_cons] at hr
      cases hq : badT t <;> simp_all
    rw [List.length_cons] at hl ⊢
    have := fine_barF r (bhd a (sgl t)) (m + 1) (fine_bhd h (fine_sgl ht) (by omega)) hr' (by omega)
    rw [show m + (r.length + 1) = m + 1 + r.length by omega]
    exact this
theorem fine_barOf {zs : List T} (h : zs.any badT = false) (h0 : 0 < zs.length) (h4 : zs.length ≤ 400) : Fine (barOf zs) zs.length := by
  cases zs with
  | nil => simp at h0
  | cons t r =>
    have ht := good_mem h (List.mem_cons_self : t ∈ t :: r)
    have hr' : r.any badT = false := by
      rw [List.any_cons] at h
      cases hq : badT t <;> simp_all
    rw [List.length_cons] at h4 ⊢
    have := fine_barF r (sgl t) 1 (fine_sgl ht) hr' (by omega)
    rw [Nat.add_comm] at this
    exact this
theorem fine_good {b : B} {m : Nat} (h : Fine b m) (h1 : 1 ≤ m) (h4 : m ≤ 400) : badB b = false := by
  obtain ⟨a1, a2, a3, a4, a5, a6, a7, a8⟩ := h
  unfold badB
  simp only [List.any_cons, List.any_nil, Bool.or_eq_false_iff, Bool.or_false]
  simp only [spanB]
  refine ⟨?_, ?_, ?_, ?_⟩ <;> (simp; omega)
theorem any_part {zs : List T} (h : zs.any badT = false) (n o : Nat) : (partL n zs o).any badT = false := by
  rw [List.any_eq_false] at h ⊢
  exact fun t ht => h t (List.mem_of_mem_drop (List.mem_of_mem_take ht))
theorem bars_joinE {zs : List T} {n : Nat} (hn : 1 ≤ n) (h : zs.any badT = false) (h0 : 0 < zs.length) (h4 : zs.length ≤ 400) : joinE (barsOf zs n) = 0 := by
  unfold joinE
  have h1 := cnt_le (len := zs.length) hn
  have h2 := cnt_pos hn h0
  rw [bars_len', if_neg (by omega), if_neg (by omega), if_neg]
  intro hh
  rw [List.any_eq_true] at hh
  obtain ⟨b, hb, hbad⟩ := hh
  simp only [barsOf, barsAt, parts, List.mem_map, List.mem_range] at hb
  obtain ⟨o, ⟨j, hj, rfl⟩, rfl⟩ := hb
  have hlt := cnt_lt' hn hj
  have hl : 0 < (partL n zs (j * n)).length := List.length_pos_iff.2 (part_ne hn hlt)
  have hl4 : (partL n zs (j * n)).length ≤ 400 := by simp [partL]; omega
  rw [fine_good (fine_barOf (any_part h n (j * n)) hl hl4) hl hl4] at hbad
  cases hbad

theorem wor_bounds : ∀ (zs : List T) (lo hi : Int), (∀ t ∈ zs, lo ≤ t.price ∧ t.price ≤ hi ∧ 1 ≤ t.qty) → lo * qty zs ≤ wor zs ∧ wor zs ≤ hi * qty zs
  | [], _, _, _ => by simp [qty, wor]
  | t :: r, lo, hi, h => by
    have ih := wor_bounds r lo hi (fun x hx => h x (List.mem_cons_of_mem _ hx))
    have ht := h t List.mem_cons_self
    rw [qty, wor, Int.mul_add, Int.mul_add]
    have h1 : lo * t.qty ≤ t.price * t.qty := Int.mul_le_mul_of_nonneg_right ht.1 (by omega)
    have h2 : t.price * t.qty ≤ hi * t.qty := Int.mul_le_mul_of_nonneg_right ht.2.1 (by omega)
    omega
theorem barF_l : ∀ (r : List T) (a : B), (barF a r).l ≤ a.l ∧ a.h ≤ (barF a r).h ∧ (barF a r).o = a.o ∧ ∀ t ∈ r, (barF a r).l ≤ t.price ∧ t.price ≤ (barF a r).h
  | [], a => ⟨Int.le_refl _, Int.le_refl _, rfl, fun t ht => by cases ht⟩
  | t :: r, a => by
    obtain ⟨h1, h2, h3, h4⟩ := barF_l r (bhd a (sgl t))
    show (barF (bhd a (sgl t)) r).l ≤ _ ∧ _ ≤ (barF (bhd a (sgl t)) r).h ∧ (barF (bhd a (sgl t)) r).o = _ ∧ ∀ x ∈ t :: r, (barF (bhd a (sgl t)) r).l ≤ x.price ∧ x.price ≤ (barF (bhd a (sgl t)) r).h
    simp only [bhd, sgl] at h1 h2 h3 h4 ⊢
    refine ⟨by omega, by omega, h3, fun x hx => ?_⟩
    rcases List.mem_cons.1 hx with rfl | hx
    · exact ⟨by omega, by omega⟩
    · exact h4 x hx
theorem barOf_price {zs : List T} : ∀ t ∈ zs, (barOf zs).l ≤ t.price ∧ t.price ≤ (barOf zs).h := by
  cases zs with
  | nil => intro t ht; cases ht
  | cons u r =>
    intro t ht
    obtain ⟨h1, h2, _, h4⟩ := barF_l r (sgl u)
    show (barF (sgl u) r).l ≤ t.price ∧ t.price ≤ (barF (sgl u) r).h
    rcases List.mem_cons.1 ht with rfl | ht
    · simp only [sgl] at h1 h2 ⊢; exact ⟨h1, h2⟩
    · exact h4 t ht
theorem mean_in {zs : List T} (h : zs.any badT = false) (h0 : 0 < zs.length) : (barOf zs).l ≤ (wor zs).tdiv (qty zs) ∧ (wor zs).tdiv (qty zs) ≤ (barOf zs).h := by
  have h1 := sum_bound zs h
  have h2 := wor_bounds zs (barOf zs).l (barOf zs).h (fun t ht => ⟨(barOf_price t ht).1, (barOf_price t ht).2, (good_mem h ht).2.2.1⟩)
  have hq : 0 < qty zs := by omega
  rw [Int.tdiv_eq_ediv_of_nonneg h1.2.1]
  exact ⟨Int.le_ediv_of_mul_le hq h2.1, Int.ediv_le_of_le_mul hq h2.2⟩
theorem barOf_o {zs : List T} (h : 0 < zs.length) : (barOf zs).o = (zs[0]!).price := by
  cases zs with
  | nil => simp at h
  | cons u r => exact (barF_l r (sgl u)).2.2.1
theorem barF_c : ∀ (r : List T) (a : B), (barF a r).c = (match r.getLast? with | none => a.c | some t => t.price)
  | [], a => rfl
  | t :: r, a => by
    show (barF (bhd a (sgl t)) r).c = _
    rw [barF_c r (bhd a (sgl t)), List.getLast?_cons]
    cases r.getLast? <;> rfl
theorem barOf_c {zs : List T} (h : 0 < zs.length) : (barOf zs).c = (zs[zs.length - 1]!).price := by
  cases zs with
  | nil => simp at h
  | cons u r =>
    show (barF (sgl u) r).c = _
    rw [barF_c, getE _ _ (by simp), ← List.getLast_eq_getElem (by simp)]
    cases r with
    | nil => rfl
    | cons x s => rw [List.getLast?_eq_some_getLast (by simp)]; simp
end Go.Proofs.Ytnfilcpnneckkaa.bar
