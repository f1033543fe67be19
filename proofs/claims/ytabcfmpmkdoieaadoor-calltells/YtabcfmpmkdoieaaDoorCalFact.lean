/- Plain facts: what a call trades, and what it leaves. -/
import Derived.Test.YtabcfmpmkdoieaaDoorCalUnc
namespace Go.Proofs.YtabcfmpmkdoieaaDoor.cal
open Go.Proofs.YtabcfmpmkdoieaaDoor.ord
open Go.Proofs.YtabcfmpmkdoieaaDoor.wak (getE)

def sumT : List T → Int
  | [] => 0
  | t :: r => t.qty + sumT r
def sumQ : List O → Int
  | [] => 0
  | o :: r => o.qty + sumQ r
theorem sumT_append (a b : List T) : sumT (a ++ b) = sumT a + sumT b := by
  induction a with
  | nil => simp [sumT]
  | cons t r ih => rw [List.cons_append, sumT, sumT, ih]; omega
theorem sumQ_append (a b : List O) : sumQ (a ++ b) = sumQ a + sumQ b := by
  induction a with
  | nil => simp [sumQ]
  | cons t r ih => rw [List.cons_append, sumQ, sumQ, ih]; omega
theorem sumQ_set : ∀ (os : List O) (i : Nat) (r : Int), i < os.length → sumQ (os.set i (wq os[i]! r)) = sumQ os + (r - (os[i]!).qty)
  | [], i, r, h => by simp at h
  | o :: t, 0, r, _ => by
    have e : (o :: t)[0]! = o := rfl
    rw [e, List.set_cons_zero, sumQ, sumQ]
    have e4 : (wq o r).qty = r := rfl
    rw [e4]; omega
  | o :: t, i + 1, r, h => by
    have hi : i < t.length := by simpa using h
    have e : (o :: t)[i + 1]! = t[i]! := rfl
    rw [e, List.set_cons_succ, sumQ, sumQ, sumQ_set t i r hi]
    omega
theorem sumQ_dq (os : List O) (i : Nat) (q : Int) (h : i < os.length) : sumQ (dq os i q) = sumQ os - q := by
  unfold dq; rw [sumQ_set os i _ h]; omega
theorem sumQ_nz (os : List O) : sumQ (os.filter nz) = sumQ os := by
  induction os with
  | nil => rfl
  | cons o t ih =>
    rw [sumQ]
    by_cases h : o.qty = 0
    · rw [List.filter_cons_of_neg (by unfold nz; simpa using h), ih]; omega
    · rw [List.filter_cons_of_pos (by unfold nz; simpa using h), sumQ, ih]
theorem ws_nz (side p : Int) (os : List O) : ws side p (os.filter nz) = ws side p os := by
  induction os with
  | nil => rfl
  | cons o t ih =>
    rw [ws]
    by_cases h : o.qty = 0
    · rw [List.filter_cons_of_neg (by unfold nz; simpa using h), ih]
      split <;> omega
    · rw [List.filter_cons_of_pos (by unfold nz; simpa using h), ws, ih]

/-- What holds of two orders that trade. -/
structure Pair (zs : List O) (p : Int) (t : T) (b s : Nat) : Prop where
  bl : b < zs.length
  sl : s < zs.length
  bs : (zs[b]!).side = 1
  ss : (zs[s]!).side = 2
  ba : at_ zs[b]! p = true
  sa : at_ zs[s]! p = true
  tt : t.tak = (zs[b]!).id
  mm : t.mak = (zs[s]!).id
  pr : t.price = p
  q1 : 1 ≤ t.qty
  q2 : t.qty ≤ 10000
theorem u_facts {zs : List O} {p : Int} {v : Int} {os : List O} {ts : List T} {os' : List O} (h : U p v os ts os') : Sh zs os → Nn os → v = min (ws 1 p os) (ws 2 p os) →
    sumT ts = v ∧ min (ws 1 p os') (ws 2 p os') = 0 ∧ sumQ os - sumQ os' = 2 * v ∧ ∀ t ∈ ts, ∃ b s, Pair zs p t b s := by
  induction h with
  | done os =>
    intro _ _ hv
    exact ⟨rfl, hv.symm, by omega, by simp⟩
  | fill v os b s ts os' hv hb hs _ ih =>
    intro hsh hnn hvol
    obtain ⟨q, hq⟩ : ∃ q, q = min (os[b]!).qty (os[s]!).qty := ⟨_, rfl⟩
    rw [← hq] at ih ⊢
    have hne : b ≠ s := fun e => by
      have h1 := hb.sd
      have h2 := hs.sd
      rw [e, h2] at h1
      exact absurd h1 (by decide)
    have hbl := hb.left
    have hsl := hs.left
    have g1 := ws_ge 1 p os b hnn hb.lt hb.sd hb.may
    have g2 := ws_ge 2 p os s hnn hs.lt hs.sd hs.may
    have es : (dq os b q)[s]! = os[s]! := dq_ne os b q s (fun e => hne e.symm)
    have hn1 := nn_dq hnn b q (by omega) (by omega)
    obtain ⟨k1, k2, k3, k4⟩ := ih (sh_dq (sh_dq hsh b q) s q) (nn_dq hn1 s q (by omega) (by rw [es]; omega)) (by
      rw [ws_dq 1 p _ s q (by rw [dq_len]; exact hs.lt), ws_dq 2 p _ s q (by rw [dq_len]; exact hs.lt), ws_dq 1 p os b q hb.lt, ws_dq 2 p os b q hb.lt, es, hb.sd, hs.sd, hb.may, hs.may]
      rw [if_pos ⟨rfl, rfl⟩, if_neg (fun x => absurd x.1 (by decide)), if_neg (fun x => absurd x.1 (by decide)), if_pos ⟨rfl, rfl⟩]
      omega)
    rw [sumQ_dq _ s q (by rw [dq_len]; exact hs.lt), sumQ_dq os b q hb.lt] at k3
    refine ⟨?_, k2, by omega, ?_⟩
    · have e : (trOf os b s p q).qty = q := rfl
      rw [sumT, e, k1]; omega
    · intro t ht
      rcases List.mem_cons.1 ht with rfl | ht
      · obtain ⟨r1, e1⟩ := hsh.2 b
        obtain ⟨r2, e2⟩ := hsh.2 s
        have hl := hsh.1
        have hb10 := (hnn b).2
        refine ⟨b, s, ⟨by have := hb.lt; omega, by have := hs.lt; omega, ?_, ?_, ?_, ?_, ?_, ?_, rfl, ?_, ?_⟩⟩
        · have := hb.sd; rw [e1] at this; exact this
        · have := hs.sd; rw [e2] at this; exact this
        · have := hb.may; rw [e1] at this; exact this
        · have := hs.may; rw [e2] at this; exact this
        · show (os[b]!).id = _; rw [e1]; rfl
        · show (os[s]!).id = _; rw [e2]; rfl
        · show 1 ≤ q; omega
        · show q ≤ 10000; omega
      · exact k4 t ht

/-- What is left of a call is a call. -/
theorem good_rest {zs os : List O} (hg : Good zs) (hs : Sh zs os) (hn : Nn os) : Good (os.filter nz) := by
  have hmem : ∀ o ∈ os, nz o = true → Fine o ∧ 1 ≤ o.qty ∧ o.qty ≤ 10000 := by
    intro o ho hz
    obtain ⟨i, hi, rfl⟩ := List.mem_iff_getElem.1 ho
    have e0 := getE os i hi
    obtain ⟨r, e⟩ := hs.2 i
    have h1 := hn i
    rw [e0] at e h1
    have hiz : i < zs.length := by have := hs.1; omega
    have hf := hg.fine zs[i]! (by rw [getE zs i hiz]; exact List.getElem_mem _)
    have hb := hf.bounds
    have h2 : ¬ os[i].qty = 0 := of_decide_eq_true hz
    generalize os[i] = o at *
    rw [e] at h1 h2 ⊢
    have q1 : (wq zs[i]! r).qty = r := rfl
    rw [q1] at h1 h2
    obtain ⟨c1, c2, c3, c4, c5⟩ := chk_zero hf.ok
    refine ⟨⟨?_, hf.kind, hf.shw, hf.stop⟩, by rw [q1]; omega, by rw [q1]; omega⟩
    have d3 : qtyB (wq zs[i]! r) = true := by
      unfold qtyB
      have : (wq zs[i]! r).shw = 0 := hf.shw
      rw [this, q1]
      simp only [Bool.and_eq_true, decide_eq_true_eq]
      omega
    have d1 : headB (wq zs[i]! r) = true := c1
    have d2 : priceOkB (wq zs[i]! r) = true := c2
    have d4 : shapeB (wq zs[i]! r) = true := c4
    have d5 : stopB (wq zs[i]! r) = true := c5
    rw [chk_fine d1 d2 d3, d4, d5]
    rfl
  have hid : os.Pairwise (fun a b => ¬ a.id = b.id) := by
    rw [List.pairwise_iff_getElem]
    intro i j hi hj hij
    have hl := hs.1
    obtain ⟨r, e⟩ := hs.2 i
    obtain ⟨r', e'⟩ := hs.2 j
    rw [getE os i hi] at e
    rw [getE os j hj] at e'
    rw [e, e']
    have := List.pairwise_iff_getElem.1 hg.apart i j (by omega) (by omega) hij
    rw [getE zs i (by omega), getE zs j (by omega)]
    exact this
  refine ⟨?_, fun o ho => ?_, hid.filter _⟩
  · have := List.length_filter_le nz os
    have := hs.1
    have := hg.few
    omega
  · have := List.mem_filter.1 ho
    exact (hmem o this.1 this.2).1

theorem ap_nonneg (a : Of) : 0 ≤ ap a := by unfold ap; omega
theorem bet_vol {a b : Of} (h : bet a b = true) : b.vol ≤ a.vol := by
  unfold bet at h
  by_cases e : a.vol = b.vol
  · omega
  · rw [if_neg e] at h
    have := of_decide_eq_true h
    omega
theorem nbet_vol {a b : Of} (h : ¬ bet a b = true) : a.vol ≤ b.vol := by
  unfold bet at h
  by_cases e : a.vol = b.vol
  · omega
  · rw [if_neg e] at h
    have : ¬ b.vol < a.vol := fun x => h (decide_eq_true x)
    omega
theorem bestF_ge (zs : List O) : ∀ (l : List O) (b : Of), b.vol ≤ (bestF zs l b).vol ∧ ∀ o ∈ l, (ofAt zs o.price).vol ≤ (bestF zs l b).vol
  | [], b => ⟨Int.le_refl _, by simp⟩
  | o :: t, b => by
    rw [bestF]
    by_cases h : bet (ofAt zs o.price) b = true
    · rw [if_pos h]
      obtain ⟨h1, h2⟩ := bestF_ge zs t (ofAt zs o.price)
      have h3 := bet_vol h
      refine ⟨by omega, fun x hx => ?_⟩
      rcases List.mem_cons.1 hx with rfl | hx
      · exact h1
      · exact h2 x hx
    · rw [if_neg h]
      obtain ⟨h1, h2⟩ := bestF_ge zs t b
      have h3 := nbet_vol h
      refine ⟨h1, fun x hx => ?_⟩
      rcases List.mem_cons.1 hx with rfl | hx
      · omega
      · exact h2 x hx
theorem best_ge (zs : List O) : ∀ o ∈ zs, (ofAt zs o.price).vol ≤ (best zs).vol := (bestF_ge zs zs _).2

/-- The highest price of a sell that is not above p. -/
theorem ws_two_down (p : Int) : ∀ (l : List O), (∀ o ∈ l, o.side = 1 ∨ o.side = 2) → (∀ o ∈ l, 1 ≤ o.qty) → 0 < ws 2 p l → ∃ q, q ≤ p ∧ (∃ o ∈ l, o.side = 2 ∧ o.price = q) ∧ ∀ o ∈ l, o.side = 2 → o.price ≤ p → o.price ≤ q
  | [], _, _, h => by simp [ws] at h
  | o :: t, hs, hq, h => by
    have hs' := fun x hx => hs x (List.mem_cons_of_mem o hx)
    have hq' := fun x hx => hq x (List.mem_cons_of_mem o hx)
    by_cases ht : 0 < ws 2 p t
    · obtain ⟨q, h1, ⟨x, hx, x1, x2⟩, h3⟩ := ws_two_down p t hs' hq' ht
      by_cases ho : o.side = 2 ∧ o.price ≤ p ∧ q < o.price
      · refine ⟨o.price, ho.2.1, ⟨o, List.mem_cons_self, ho.1, rfl⟩, fun y hy y1 y2 => ?_⟩
        rcases List.mem_cons.1 hy with rfl | hy
        · exact Int.le_refl _
        · have := h3 y hy y1 y2; omega
      · refine ⟨q, h1, ⟨x, List.mem_cons_of_mem _ hx, x1, x2⟩, fun y hy y1 y2 => ?_⟩
        rcases List.mem_cons.1 hy with rfl | hy
        · by_cases c : q < y.price
          · exact (ho ⟨y1, y2, c⟩).elim
          · omega
        · exact h3 y hy y1 y2
    · have hn : ∀ y ∈ t, ¬ (y.side = 2 ∧ at_ y p = true) := by
        intro y hy hc
        apply ht
        have hN : ∀ z ∈ t, 0 ≤ z.qty := fun z hz => by have := hq' z hz; omega
        clear hs hq h hs'
        induction t with
        | nil => simp at hy
        | cons a r ih =>
          rw [ws]
          have hr : 0 ≤ ws 2 p r := by
            have : ∀ (l : List O), (∀ z ∈ l, 0 ≤ z.qty) → 0 ≤ ws 2 p l := by
              intro l
              induction l with
              | nil => intro _; exact Int.le_refl 0
              | cons c d ihd =>
                intro hh
                rw [ws]
                have h1 := ihd (fun z hz => hh z (List.mem_cons_of_mem _ hz))
                have h2 := hh c List.mem_cons_self
                split <;> omega
            exact this r (fun z hz => hN z (List.mem_cons_of_mem _ hz))
          have h0 := hN a List.mem_cons_self
          rcases List.mem_cons.1 hy with rfl | hy
          · rw [if_pos hc]
            have := hq' y List.mem_cons_self
            omega
          · have h3 := ih (fun z hz => hq' z (List.mem_cons_of_mem _ hz)) (fun hh => by
              apply ht
              rw [ws]
              split <;> omega) hy (fun z hz => hN z (List.mem_cons_of_mem _ hz))
            split <;> omega
      rw [ws] at h
      by_cases hc : o.side = 2 ∧ at_ o p = true
      · have hp : o.price ≤ p := by
          have := hc.2
          unfold at_ at this
          rw [hc.1, if_neg (by decide)] at this
          exact of_decide_eq_true this
        refine ⟨o.price, hp, ⟨o, List.mem_cons_self, hc.1, rfl⟩, fun y hy y1 y2 => ?_⟩
        rcases List.mem_cons.1 hy with rfl | hy
        · exact Int.le_refl _
        · refine (hn y hy ⟨y1, ?_⟩).elim
          unfold at_
          rw [y1, if_neg (by decide)]
          exact decide_eq_true y2
      · rw [if_neg hc] at h
        omega
theorem ws_two_same (p q : Int) : ∀ (l : List O), q ≤ p → (∀ o ∈ l, o.side = 2 → o.price ≤ p → o.price ≤ q) → ws 2 q l = ws 2 p l
  | [], _, _ => rfl
  | o :: t, h, h2 => by
    rw [ws, ws, ws_two_same p q t h (fun x hx => h2 x (List.mem_cons_of_mem _ hx))]
    have := h2 o List.mem_cons_self
    congr 1
    by_cases hs : o.side = 2
    · have e : ∀ x, at_ o x = decide (o.price ≤ x) := fun x => by unfold at_; rw [hs, if_neg (by decide)]
      rw [e, e]
      by_cases hp : o.price ≤ p
      · have := this hs hp
        rw [decide_eq_true hp, decide_eq_true this]
      · have : ¬ o.price ≤ q := by omega
        rw [decide_eq_false hp, decide_eq_false this]
    · rw [if_neg (fun x => hs x.1), if_neg (fun x => hs x.1)]
theorem ws_one_down (p q : Int) : ∀ (l : List O), q ≤ p → (∀ o ∈ l, 0 ≤ o.qty) → ws 1 p l ≤ ws 1 q l
  | [], _, _ => Int.le_refl _
  | o :: t, h, h2 => by
    rw [ws, ws]
    have h3 := ws_one_down p q t h (fun x hx => h2 x (List.mem_cons_of_mem _ hx))
    have h4 := h2 o List.mem_cons_self
    by_cases hs : o.side = 1
    · have e : ∀ x, at_ o x = decide (x ≤ o.price) := fun x => by unfold at_; rw [hs, if_pos rfl]
      rw [e, e]
      by_cases hp : p ≤ o.price
      · have : q ≤ o.price := by omega
        rw [decide_eq_true hp, decide_eq_true this]
        omega
      · rw [decide_eq_false hp, if_neg (fun x => absurd x.2 (by decide))]
        split <;> omega
    · rw [if_neg (fun x => hs x.1), if_neg (fun x => hs x.1)]
      omega
/-- No price trades more. -/
theorem vol_max {zs : List O} (hg : Good zs) (p : Int) : (ofAt zs p).vol ≤ (best zs).vol := by
  have hb := fun o ho => (hg.fine o ho).bounds
  have h1 := ws_small hg 1 p zs.length
  have h2 := ws_small hg 2 p zs.length
  rw [List.take_length] at h1 h2
  have hv : (ofAt zs p).vol = min (ws 1 p zs) (ws 2 p zs) := rfl
  by_cases h0 : 0 < ws 2 p zs
  · obtain ⟨q, q1, ⟨x, hx, x1, x2⟩, q3⟩ := ws_two_down p zs (fun o ho => (hb o ho).1) (fun o ho => by have := hb o ho; omega) h0
    have e1 := ws_two_same p q zs q1 q3
    have e2 := ws_one_down p q zs q1 (fun o ho => by have := hb o ho; omega)
    have e3 := best_ge zs x hx
    rw [x2] at e3
    have hq : (ofAt zs q).vol = min (ws 1 q zs) (ws 2 q zs) := rfl
    omega
  · have := (bestF_ge zs zs ⟨0, 0, 0⟩).1
    have e : (bestF zs zs ⟨0, 0, 0⟩).vol = (best zs).vol := rfl
    rw [e] at this
    simp only at this
    omega
end Go.Proofs.YtabcfmpmkdoieaaDoor.cal
