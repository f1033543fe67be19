/- Plain facts: levels that have as much at each price, and what is taken of them. No walk. Trades of the call's own, place by place. -/
import Derived.Test.YtegbicmfgblphaaDoorMeeDo2
import Derived.Test.YtegbicmfgblphaaDoorMeeLvl
namespace Go.Proofs.YtegbicmfgblphaaDoor.mee
open Go.RowKit Go.Proofs.YtegbicmfgblphaaDoor.spn Go.Proofs.YtegbicmfgblphaaDoor.que Go.Proofs.YtegbicmfgblphaaDoor.sid Go.Proofs.YtegbicmfgblphaaDoor.bok
open Go.Proofs.YtegbicmfgblphaaDoor.ord (O oV mB mE chk meets_any)
open Go.Proofs.YtegbicmfgblphaaDoor.tickP (priceB sideB betOk betR)

/-- So many levels from the k-th on. -/
def swL (k : Nat) (qty : Int) : Nat → List L
  | 0 => []
  | m + 1 => ⟨100 + (k : Int), [⟨(k : Int) + 1, 1, qty, 0, 0⟩]⟩ :: swL (k + 1) qty m
theorem swL_len (k : Nat) (qty : Int) (m : Nat) : (swL k qty m).length = m := by
  induction m generalizing k with
  | zero => rfl
  | succ m ih => simp [swL, ih]
theorem swL_snoc (k : Nat) (qty : Int) (m : Nat) : swL k qty (m + 1) = swL k qty m ++ [⟨100 + ((k + m : Nat) : Int), [⟨((k + m : Nat) : Int) + 1, 1, qty, 0, 0⟩]⟩] := by
  induction m generalizing k with
  | zero => simp [swL]
  | succ m ih =>
    rw [swL, ih (k + 1)]
    rw [show swL k qty (m + 1) = ⟨100 + (k : Int), [⟨(k : Int) + 1, 1, qty, 0, 0⟩]⟩ :: swL (k + 1) qty m from rfl, show k + 1 + m = k + (m + 1) by omega]
    rfl
theorem swL_mem {k : Nat} {qty : Int} {m : Nat} {l : L} (h : l ∈ swL k qty m) : ∃ j : Nat, k ≤ j ∧ j < k + m ∧ l = ⟨100 + (j : Int), [⟨(j : Int) + 1, 1, qty, 0, 0⟩]⟩ := by
  induction m generalizing k with
  | zero => cases h
  | succ m ih =>
    rcases List.mem_cons.1 h with rfl | h
    · exact ⟨k, Nat.le_refl _, by omega, rfl⟩
    · obtain ⟨j, h1, h2, e⟩ := ih h
      exact ⟨j, by omega, by omega, e⟩
theorem sw_rchk {j : Nat} {qty : Int} (hj : j < 100) (h1 : 1 ≤ qty) (h2 : qty ≤ 100) : rchk ⟨(j : Int) + 1, 1, qty, 0, 0⟩ = 0 := rchk_of ⟨⟨h1, by simp only []; omega⟩, ⟨by simp, by simp⟩, ⟨by simp, by simp⟩, fun _ => rfl, fun h => absurd rfl h, ⟨by simp only []; omega, by simp only []; omega⟩, ⟨by simp, by simp⟩⟩
theorem sw_lchk {j : Nat} {qty : Int} (hj : j < 100) (h1 : 1 ≤ qty) (h2 : qty ≤ 100) : lchk ⟨100 + (j : Int), [⟨(j : Int) + 1, 1, qty, 0, 0⟩]⟩ = 0 :=
  lchk_of (by simp [priceB]; omega) (by simp) ((qchk_zero _).2 ⟨by simp, good_one (sw_rchk hj h1 h2)⟩)
theorem sw_sgo {qty : Int} (h1 : 1 ≤ qty) (h2 : qty ≤ 100) : ∀ (m k : Nat) (prev : Option Int), k + m ≤ 40 → (prev = none ∨ prev = some (100 + (k : Int) - 1)) → (prev ≠ none → 1 ≤ k) → sgo 2 prev (swL k qty m) = 0 := by
  intro m
  induction m with
  | zero => intro k prev _ _ _; cases prev <;> rfl
  | succ m ih =>
    intro k prev hk hp hp2
    refine sgo_mk (sw_lchk (by omega) h1 h2) ?_ (ih (k + 1) _ (by omega) (.inr (by congr 1; simp only []; omega)) (fun _ => by omega))
    rcases hp with rfl | rfl
    · rfl
    · have hk1 := hp2 (by simp)
      show leadB 2 _ _ = true
      unfold leadB betR betOk
      have e : wrap64 (3 - 2) = 1 := by unfold wrap64; omega
      rw [e]
      simp [sideB, priceB]
      omega
theorem sw_cnt (k : Nat) (qty : Int) (m : Nat) : cnt (swL k qty m) = m := by
  induction m generalizing k with
  | zero => rfl
  | succ m ih => simp only [swL, cnt, ih]; simp; omega
theorem sw_ids (k : Nat) (qty : Int) (m : Nat) : (allR (swL k qty m)).map (·.id) = (List.range' k m).map (fun j : Nat => (j : Int) + 1) := by
  induction m generalizing k with
  | zero => rfl
  | succ m ih =>
    rw [show swL k qty (m + 1) = ⟨100 + (k : Int), [⟨(k : Int) + 1, 1, qty, 0, 0⟩]⟩ :: swL (k + 1) qty m from rfl, allR_cons, List.map_append, ih, List.range'_succ]
    rfl
theorem sw_nodup (k : Nat) (qty : Int) (m : Nat) : ((allR (swL k qty m)).map (·.id)).Nodup := by
  rw [sw_ids]
  refine List.Pairwise.map _ ?_ (List.nodup_range' (s := k) (n := m))
  intro a b h e
  simp at e
  omega
theorem sw_book {qty : Int} {n : Nat} (hn : n ≤ 30) (h1 : 1 ≤ qty) (h2 : qty ≤ 100) : bookE [] (swL 0 qty n) = 0 := by
  have e1 : schk 1 [] = 0 := schk_ok (by decide) rfl (by simp [cnt]) (by simp [ids, flatP])
  have e2 : schk 2 (swL 0 qty n) = 0 := schk_ok (by decide) (sw_sgo h1 h2 n 0 none (by omega) (.inl rfl) (fun h => absurd rfl h)) (by rw [sw_cnt]; omega) (by rw [ids_allR]; exact sw_nodup 0 qty n)
  have hl : (allR (swL 0 qty n)).length = n := by
    have := cnt_allR (swL 0 qty n)
    rw [sw_cnt] at this
    omega
  unfold bookE
  rw [if_pos e1, if_pos e2, if_neg (by simp [crossB])]
  rw [show allR [] = [] from rfl, List.nil_append]
  rw [if_neg (by unfold twiceB; simpa using sw_nodup 0 qty n), if_neg (by omega)]
theorem sw_come {qty want : Int} {n : Nat} (hn : n ≤ 30) (h1 : 1 ≤ qty) (h2 : qty ≤ 100) (w1 : 1 ≤ want) (w2 : want ≤ 10000) : comeE [] (swL 0 qty n) ⟨99, 2, 1, 2, 0, want, 0, 0⟩ = 0 := by
  have hc : chk ⟨99, 2, 1, 2, 0, want, 0, 0⟩ = 0 := by
    unfold chk
    simp [ord.headB, ord.priceOkB, ord.qtyB, ord.shapeB, ord.stopB]
    omega
  unfold comeE
  rw [if_pos (sw_book hn h1 h2), if_pos hc, if_pos rfl, if_neg]
  unfold inBook
  simp only [decide_eq_true_eq]
  rintro (h | h)
  · simp [ids, flatP] at h
  · rw [ids_allR, sw_ids] at h
    obtain ⟨j, hj, e⟩ := List.mem_map.1 h
    have := (List.mem_range'_1.1 hj)
    have e2 : (j : Int) + 1 = 99 := e
    omega

theorem sw_take {q qty : Int} {j : Int} (hr : rchk ⟨j, 1, qty, 0, 0⟩ = 0) (hq : 0 < q) : take q [⟨j, 1, qty, 0, 0⟩] = if q < qty then ([⟨j, 1, q⟩], [⟨j, 1, qty - q, 0, 0⟩]) else ([⟨j, 1, qty⟩], []) := by
  have hb := (rchk_zero hr).1
  rw [take_cons q _ _ hq (good_one hr)]
  by_cases h : q < qty
  · rw [if_pos h]
    simp only [show min q qty = q by omega]
    unfold tk1
    simp only [if_pos h, Int.sub_self]
    rw [take_done 0 _ (Int.le_refl _)]
  · rw [if_neg h]
    simp only [show min q qty = qty by omega]
    unfold tk1
    simp only [Int.lt_irrefl, if_false, if_true]
    rw [take_nil]
structure SwR (k : Nat) (r : List L × List T × Int) (m : Nat) (qty want : Int) : Prop where
  len : r.2.1.length ≤ m
  each : ∀ i, i < r.2.1.length → r.2.1[i]!.price = 100 + ((k + i : Nat) : Int) ∧ r.2.1[i]!.maker = ((k + i : Nat) : Int) + 1
  more : (m : Int) * qty ≤ want → r.2.1.length = m ∧ r.2.2 = want - (m : Int) * qty
  less : ¬ (m : Int) * qty ≤ want → r.2.2 = 0 ∧ (r.2.1.length : Int) = (want + qty - 1) / qty
theorem sw_taken {o : O} (hm : ∀ p, mB o p = true) {qty : Int} (h1 : 1 ≤ qty) (h2 : qty ≤ 100) : ∀ (m k : Nat) (want : Int), k + m ≤ 40 → 0 ≤ want → SwR k (tkl o (swL k qty m) want) m qty want := by
  intro m
  induction m with
  | zero =>
    intro k want _ hw
    refine ⟨by simp [swL, tkl], fun i hi => by simp [swL, tkl] at hi, fun _ => by simp [swL, tkl], fun h => absurd (by simpa using hw) h⟩
  | succ m ih =>
    intro k want hk hw
    have hmul : ((m + 1 : Nat) : Int) * qty = (m : Int) * qty + qty := by rw [Int.natCast_add, Int.add_mul]; simp
    have hmp : 0 ≤ (m : Int) * qty := Int.mul_nonneg (Int.natCast_nonneg _) (by omega)
    by_cases h0 : want = 0
    · subst h0
      rw [tkl_zero (Int.le_refl _)]
      refine ⟨by simp, fun i hi => by simp at hi, fun h => by rw [hmul] at h; omega, fun _ => ⟨rfl, ?_⟩⟩
      simp
      rw [Int.ediv_eq_zero_of_lt (by omega) (by omega)]
    · have hr := sw_rchk (j := k) (by omega) h1 h2
      have hl := sw_lchk (j := k) (by omega) h1 h2
      have et := sw_take hr (q := want) (by omega)
      by_cases hlt : want < qty
      · rw [if_pos hlt] at et
        have e := tkl_last (o := o) (l := ⟨100 + (k : Int), [⟨(k : Int) + 1, 1, qty, 0, 0⟩]⟩) (t := swL (k + 1) qty m) (q := want) (by omega) (hm _) (by rw [et]; simp)
        rw [et] at e
        rw [show swL k qty (m + 1) = ⟨100 + (k : Int), [⟨(k : Int) + 1, 1, qty, 0, 0⟩]⟩ :: swL (k + 1) qty m from rfl, e]
        refine ⟨by simp, fun i hi => ?_, fun h => by rw [hmul] at h; omega, fun _ => ⟨by simp [sum], ?_⟩⟩
        · simp at hi
          subst hi
          obtain ⟨-, t2, -, t4⟩ := trd_facts o (100 + (k : Int)) ⟨(k : Int) + 1, 1, want⟩
          simp [t2, t4]
        · have : (want + qty - 1) / qty = 1 := by
            rw [show want + qty - 1 = (want - 1) + 1 * qty by omega, Int.add_mul_ediv_right _ _ (by omega), Int.ediv_eq_zero_of_lt (by omega) (by omega)]
            rfl
          rw [this]
          simp
      · rw [if_neg hlt] at et
        have e := tkl_gone (o := o) (l := ⟨100 + (k : Int), [⟨(k : Int) + 1, 1, qty, 0, 0⟩]⟩) (t := swL (k + 1) qty m) (q := want) (by omega) (hm _) (by rw [et])
        rw [et] at e
        have es : sum [(⟨(k : Int) + 1, 1, qty⟩ : F)] = qty := by simp [sum]
        simp only [es] at e
        obtain ⟨i1, i2, i3, i4⟩ := ih (k + 1) (want - qty) (by omega) (by omega)
        rw [show swL k qty (m + 1) = ⟨100 + (k : Int), [⟨(k : Int) + 1, 1, qty, 0, 0⟩]⟩ :: swL (k + 1) qty m from rfl, e]
        generalize tkl o (swL (k + 1) qty m) (want - qty) = R at *
        obtain ⟨t1, t2, t3, t4⟩ := trd_facts o (100 + (k : Int)) ⟨(k : Int) + 1, 1, qty⟩
        refine ⟨by simp; omega, fun i hi => ?_, fun h => ?_, fun h => ?_⟩
        · cases i with
          | zero => simp [t2, t4]
          | succ i =>
            simp at hi
            have := i2 i (by omega)
            simp only [List.map_cons, List.map_nil, List.cons_append, List.nil_append, List.getElem!_cons_succ]
            rw [show k + (i + 1) = k + 1 + i by omega]
            exact this
        · rw [hmul] at h
          obtain ⟨a, b⟩ := i3 (by omega)
          refine ⟨by simp [a], ?_⟩
          simp only [b]
          rw [hmul]
          omega
        · rw [hmul] at h
          obtain ⟨a, b⟩ := i4 (by omega)
          refine ⟨a, ?_⟩
          simp only [List.map_cons, List.map_nil, List.cons_append, List.nil_append, List.length_cons]
          rw [Int.natCast_add, b]
          rw [show want + qty - 1 = (want - qty + qty - 1) + 1 * qty by omega, Int.add_mul_ediv_right _ _ (by omega)]
          rfl
end Go.Proofs.YtegbicmfgblphaaDoor.mee
namespace Go.Proofs.YtegbicmfgblphaaDoor.mee
open Go.RowKit Go.Proofs.YtegbicmfgblphaaDoor.spn Go.Proofs.YtegbicmfgblphaaDoor.que Go.Proofs.YtegbicmfgblphaaDoor.sid

theorem flatT_get (ts : List T) : ∀ j, j < ts.length → ∀ i, i < 6 → (flatT ts)[j * 6 + i]? = (tV ts[j]!)[i]? := by
  induction ts with
  | nil => intro j hj; simp at hj
  | cons r t ih =>
    intro j hj i hi
    have e : flatT (r :: t) = tV r ++ flatT t := rfl
    rw [e]
    cases j with
    | zero => rw [Nat.zero_mul, Nat.zero_add, List.getElem?_append_left (by show i < 6; exact hi)]; rfl
    | succ j =>
      rw [List.getElem?_append_right (by show 6 ≤ _; omega)]
      have : (j + 1) * 6 + i - (tV r).length = j * 6 + i := by show (j + 1) * 6 + i - 6 = _; omega
      rw [this, ih j (by simpa using hj) i hi]
      rfl
/-- Trades of the call's own, place by place. -/
theorem OwnT.at {w : World} {base : Nat} {q : Option Addr} {n c : Nat} {ts : List T} (h : OwnT w base (.slice q n c) ts) {k : Nat} (hk : k < ts.length) : ∃ g off, q = some ⟨g, off, none⟩ ∧ g < w.heap.size ∧ w.cell? ⟨g, off + k * 6, none⟩ = some (.int .i64 ts[k]!.maker) ∧ w.cell? ⟨g, off + k * 6 + 1, none⟩ = some (.int .i64 ts[k]!.taker) ∧ w.cell? ⟨g, off + k * 6 + 2, none⟩ = some (.int .i64 ts[k]!.frm) ∧ w.cell? ⟨g, off + k * 6 + 3, none⟩ = some (.int .i64 ts[k]!.into) ∧ w.cell? ⟨g, off + k * 6 + 4, none⟩ = some (.int .i64 ts[k]!.price) ∧ w.cell? ⟨g, off + k * 6 + 5, none⟩ = some (.int .i64 ts[k]!.qty) := by
  have hn : n = ts.length := by obtain ⟨q', c', e⟩ := OwnM.form h; cases e; rfl
  subst hn
  cases q with
  | none =>
    rcases h.2 with ⟨e, hn⟩ | ⟨g, off, cap, cur, e, _⟩
    · rw [hn] at hk; exact absurd hk (Nat.not_lt_zero _)
    · cases e
  | some a =>
    rcases h.2 with ⟨e, hn⟩ | ⟨g, off, cap, cur, e, _⟩
    · cases e
    · cases e
      obtain ⟨hc, -, -, hlt⟩ := OwnM.cells h
      have hh : ∀ i u, i < 6 → (tV ts[k]!)[i]? = some u → w.cell? ⟨g, off + (k * 6 + i), none⟩ = some u := fun i u hi hu => hc (k * 6 + i) u (by rw [flatT_get ts k hk i hi]; exact hu)
      exact ⟨g, off, rfl, hlt, hh 0 _ (by omega) rfl, hh 1 _ (by omega) rfl, hh 2 _ (by omega) rfl, hh 3 _ (by omega) rfl, hh 4 _ (by omega) rfl, hh 5 _ (by omega) rfl⟩

end Go.Proofs.YtegbicmfgblphaaDoor.mee
