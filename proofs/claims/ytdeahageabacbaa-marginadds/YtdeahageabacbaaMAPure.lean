/- Plain facts for the law MarginAdds. -/
import Derived.Test.YtdeahageabacbaaKKPure
import Derived.Test.YtdeahageabacbaaMrgBack
import Derived.Test.YtdeahageabacbaaMrgLeft
namespace Go.Proofs.Ytdeahageabacbaa.mrg
open Go.RowKit Go.Proofs.Ytdeahageabacbaa.mee Go.Proofs.Ytdeahageabacbaa.que Go.Proofs.Ytdeahageabacbaa.sid Go.Proofs.Ytdeahageabacbaa.bok Go.Proofs.Ytdeahageabacbaa.kin
open Go.Proofs.Ytdeahageabacbaa.ord (O oV chk mB prB errV errV_zero)

/-- Trades of the call's own read as trades. -/
theorem own_tl {w : World} {base : Nat} {v : Value} {ts : List T} (h : OwnT w base v ts) : TL w v ts := by
  rcases h.2 with ⟨e, hn⟩ | ⟨g, off, cap, cur, e, hb, hg, hnc, hcm, hcs, htake⟩
  · exact .inl ⟨e, List.eq_nil_of_length_eq_zero hn⟩
  · subst e
    refine .inr ⟨g, off, cap, rfl, hnc, hcm, (Array.getElem?_eq_some_iff.1 hg).1, fun j hj i u hu => ?_⟩
    obtain ⟨g', off', e, -, z0, z1, z2, z3, z4, z5⟩ := OwnT.at h hj
    cases e
    have hi : i < 6 := (List.getElem?_eq_some_iff.1 hu).1
    have : i = 0 ∨ i = 1 ∨ i = 2 ∨ i = 3 ∨ i = 4 ∨ i = 5 := by omega
    rcases this with rfl | rfl | rfl | rfl | rfl | rfl <;> cases hu <;> assumption

def sumPQ : List T → Int
  | [] => 0
  | x :: t => x.price * x.qty + sumPQ t
theorem sumPQ_append (a b : List T) : sumPQ (a ++ b) = sumPQ a + sumPQ b := by
  induction a with
  | nil => simp [sumPQ]
  | cons x t ih => rw [List.cons_append, sumPQ, sumPQ, ih]; omega
theorem sumPQ_take (ts : List T) (k : Nat) (hk : k < ts.length) : sumPQ (ts.take (k + 1)) = sumPQ (ts.take k) + ts[k]!.price * ts[k]!.qty := by
  rw [List.take_succ_eq_append_getElem hk, sumPQ_append, getE _ _ hk]; simp only [sumPQ]; omega
theorem sumT_take (ts : List T) (k : Nat) (hk : k < ts.length) : sumT (ts.take (k + 1)) = sumT (ts.take k) + ts[k]!.qty := by
  rw [List.take_succ_eq_append_getElem hk, sumT_append, getE _ _ hk]; simp only [sumT]; omega
theorem pq_bound {x y : Int} (h1 : 1 ≤ x) (h2 : x ≤ 10000) (h3 : 1 ≤ y) : 1 ≤ x * y ∧ x * y ≤ 10000 * y := by
  have a1 : 1 * y ≤ x * y := Int.mul_le_mul_of_nonneg_right h1 (by omega)
  have a2 : x * y ≤ 10000 * y := Int.mul_le_mul_of_nonneg_right h2 (by omega)
  omega
theorem sums_bound (ts : List T) (h : ∀ x ∈ ts, 1 ≤ x.price ∧ x.price ≤ 10000 ∧ 1 ≤ x.qty) : 0 ≤ sumT ts ∧ 0 ≤ sumPQ ts ∧ sumPQ ts ≤ 10000 * sumT ts := by
  induction ts with
  | nil => simp [sumT, sumPQ]
  | cons x t ih =>
    have h1 := h x (by simp)
    have h2 := ih (fun y hy => h y (by simp [hy]))
    have h3 := pq_bound h1.1 h1.2.1 h1.2.2
    simp only [sumT, sumPQ]
    omega
theorem sums_take (ts : List T) (h : ∀ x ∈ ts, 1 ≤ x.price ∧ x.price ≤ 10000 ∧ 1 ≤ x.qty) (k : Nat) : 0 ≤ sumT (ts.take k) ∧ sumT (ts.take k) ≤ sumT ts ∧ 0 ≤ sumPQ (ts.take k) ∧ sumPQ (ts.take k) ≤ sumPQ ts := by
  have h1 := sums_bound (ts.take k) (fun f hf => h f (List.mem_of_mem_take hf))
  have h2 := sums_bound (ts.drop k) (fun f hf => h f (List.mem_of_mem_drop hf))
  have h3 := sumT_append (ts.take k) (ts.drop k)
  have h4 := sumPQ_append (ts.take k) (ts.drop k)
  rw [List.take_append_drop] at h3 h4
  omega

/-- Each trade of an order that comes is one that it may have made. -/
theorem each_ct {bs ss : List L} {o : O} (hC : comeE bs ss o = 0) : ∀ x ∈ (metR bs ss o).2.1, ctE o x = 0 := by
  obtain ⟨hbk, hck, -, -⟩ := come_zero hC
  have hq := qty_of hck
  intro x hx
  obtain ⟨b1, b2, b3, b4, l, hl, hlp⟩ := tkl_each (o := o) (otherL bs ss o) o.qty (by omega) (other_good hbk) x hx
  have hl2 := other_good hbk l hl
  have hp : tickP.priceB l.price = true := by
    unfold lchk at hl2
    by_cases h : tickP.priceB l.price = true
    · exact h
    · rw [if_neg h] at hl2; omega
  rw [hlp] at hp
  have hp2 : prB x.price = true := hp
  have hq2 : qtB x.qty = true := by simp [qtB]; omega
  unfold ctE
  rw [hp2, hq2]
  show (if x.taker = o.id ∧ mB o x.price = true then (0 : Int) else 3) = 0
  rw [if_pos ⟨b1, b4⟩]
theorem bkE_all {o : O} {ts : List T} (h : ∀ x ∈ ts, ctE o x = 0) : bkE o ts = 0 := by
  induction ts with
  | nil => rfl
  | cons x t ih =>
    unfold bkE
    rw [if_pos (h x (by simp))]
    exact ih (fun y hy => h y (by simp [hy]))
theorem buy_resv {o : O} {x : Int} (hs : o.side = 1) (hm : mB o x = true) (hx : x ≤ 10000) : x ≤ resv o := by
  unfold mB at hm
  unfold resv
  rw [if_pos hs] at hm
  by_cases hk : o.kind = 2
  · rw [if_pos hk]; exact hx
  · rw [if_neg hk]
    simp [hk] at hm
    exact hm
theorem bk_buy {o : O} (hs : o.side = 1) (hr : 0 ≤ resv o ∧ resv o ≤ 10000) : ∀ (ts : List T) (c : Int), (∀ x ∈ ts, 1 ≤ x.price ∧ x.price ≤ resv o ∧ 1 ≤ x.qty) → 0 ≤ c → c + 10000 * sumT ts ≤ 1000000000000 → bkC o c ts = c + resv o * sumT ts - sumPQ ts := by
  intro ts
  induction ts with
  | nil => intro c _ _ _; simp [bkC, sumT, sumPQ]
  | cons x t ih =>
    intro c h h0 hb
    have hx := h x (by simp)
    have ht : ∀ y ∈ t, 1 ≤ y.price ∧ y.price ≤ resv o ∧ 1 ≤ y.qty := fun y hy => h y (by simp [hy])
    have hb2 := sums_bound t (fun y hy => ⟨(ht y hy).1, by have := (ht y hy).2.1; omega, (ht y hy).2.2⟩)
    simp only [sumT] at hb
    have a1 : 0 * x.qty ≤ (resv o - x.price) * x.qty := Int.mul_le_mul_of_nonneg_right (by omega) (by omega)
    have a2 : (resv o - x.price) * x.qty ≤ 10000 * x.qty := Int.mul_le_mul_of_nonneg_right (by omega) (by omega)
    have e1 : wrap64 (c + (resv o - x.price) * x.qty) = c + (resv o - x.price) * x.qty := by
      generalize (resv o - x.price) * x.qty = z at *
      unfold wrap64
      omega
    unfold bkC
    rw [if_pos hs, e1, ih _ ht (by omega) (by omega)]
    simp only [sumT, sumPQ]
    rw [Int.mul_add, Int.sub_mul]
    omega
theorem bk_sell {o : O} (hs : ¬ o.side = 1) : ∀ (ts : List T) (c : Int), bkC o c ts = c := by
  intro ts
  induction ts with
  | nil => intro c; rfl
  | cons x t ih => intro c; unfold bkC; rw [if_neg hs]; exact ih c

/-- What the law has counted behind so many trades. -/
def cA (o : O) (bc : Int) (ts : List T) (k : Nat) : Int := if o.side = 1 then bc + sumPQ (ts.take k) else bc
def dA (o : O) (bs : Int) (ts : List T) (k : Nat) : Int := if o.side = 1 then bs else bs + sumT (ts.take k)

/-- What is known of an order that came, and of what was put by. -/
structure MF (o : O) (ts : List T) (lf g fc fs bc bst : Int) : Prop where
  ok : chk o = 0
  fore : forC o = fc ∧ forS o = fs
  back : backE o ts g = 0 ∧ backC o ts g = bc ∧ backS o ts g = bst
  each : ∀ x ∈ ts, 1 ≤ x.price ∧ x.price ≤ 10000 ∧ 1 ≤ x.qty ∧ x.qty ≤ 10000
  cB : ∀ k, 0 ≤ cA o bc ts k ∧ cA o bc ts k ≤ 1000000000
  dB : ∀ k, 0 ≤ dA o bst ts k ∧ dA o bst ts k ≤ 1000000000
  out : stayB o lf = false → cA o bc ts ts.length = fc ∧ dA o bst ts ts.length = fs
  stay : stayB o lf = true → cA o bc ts ts.length + putC o.side o.price lf = fc ∧ dA o bst ts ts.length + putS o.side lf = fs ∧ 0 ≤ fc ∧ fc ≤ 100000000 ∧ 0 ≤ fs ∧ fs ≤ 100000000

theorem small_wrap {z : Int} (h1 : 0 ≤ z) (h2 : z ≤ 2000000000) : wrap64 z = z := by unfold wrap64; omega
theorem facts_of {bs ss : List L} {o : O} (h : kdoE bs ss o = 0) : MF o (metR bs ss o).2.1 (metR bs ss o).2.2 (kdoG bs ss o) (forC o) (forS o) (backC o (metR bs ss o).2.1 (kdoG bs ss o)) (backS o (metR bs ss o).2.1 (kdoG bs ss o)) := by
  have hK := kdo_facts h
  have hC := hK.come
  have hct := each_ct hC
  obtain ⟨o1, o2, o3, o4, o5⟩ := ord_small hK.ok
  have hsum := hK.sum
  have hl0 := hK.left0
  have hs0 := hK.sum0
  have hG : kdoG bs ss o = setG o (metR bs ss o).2.2 := rfl
  rw [hG]
  generalize (metR bs ss o).2.1 = ts at *
  generalize (metR bs ss o).2.2 = lf at *
  have hg : 0 ≤ setG o lf ∧ setG o lf ≤ o.qty := by
    unfold setG
    split <;> omega
  have hsm : ∀ x ∈ ts, 1 ≤ x.price ∧ x.price ≤ 10000 ∧ 1 ≤ x.qty ∧ x.qty ≤ 10000 := fun x hx => by
    obtain ⟨a, b, c, d, -, -⟩ := ct_small (hct x hx)
    exact ⟨a, b, c, d⟩
  have hsm3 : ∀ x ∈ ts, 1 ≤ x.price ∧ x.price ≤ 10000 ∧ 1 ≤ x.qty := fun x hx => ⟨(hsm x hx).1, (hsm x hx).2.1, (hsm x hx).2.2.1⟩
  have hbE : backE o ts (setG o lf) = 0 := by
    unfold backE
    rw [if_pos hK.ok, if_pos hg]
    exact bkE_all hct
  have eC : backC o ts (setG o lf) = bkC o (putC o.side (resv o) (setG o lf)) ts := if_pos hbE
  have eS : backS o ts (setG o lf) = putS o.side (setG o lf) := if_pos hbE
  have eF : forC o = putC o.side (resv o) o.qty := if_pos hK.ok
  have eT : forS o = putS o.side o.qty := if_pos hK.ok
  have hst := sums_bound ts hsm3
  have htk := sums_take ts hsm3
  rcases o5 with hs | hs
  · -- who buys
    have w1 : ∀ x : Int, 0 ≤ x → x ≤ 10000 → putC o.side (resv o) x = resv o * x ∧ 0 ≤ resv o * x ∧ resv o * x ≤ 100000000 := fun x x1 x2 => by
      have a1 : 0 * x ≤ resv o * x := Int.mul_le_mul_of_nonneg_right o1 x1
      have a2 : resv o * x ≤ 10000 * x := Int.mul_le_mul_of_nonneg_right o2 x1
      unfold putC
      rw [if_pos hs]
      exact ⟨small_wrap (by omega) (by omega), by omega, by omega⟩
    obtain ⟨g1, g2, g3⟩ := w1 _ hg.1 (by omega)
    obtain ⟨f1, f2, f3⟩ := w1 o.qty (by omega) o4
    have hbk := bk_buy hs ⟨o1, o2⟩ ts (putC o.side (resv o) (setG o lf)) (fun x hx => ⟨(hsm x hx).1, buy_resv hs (ct_small (hct x hx)).2.2.2.2.2 (hsm x hx).2.1, (hsm x hx).2.2.1⟩) (by omega) (by omega)
    rw [g1] at hbk
    have hz : ∀ k, cA o (backC o ts (setG o lf)) ts k = resv o * setG o lf + resv o * sumT ts - sumPQ ts + sumPQ (ts.take k) := fun k => by
      unfold cA
      rw [if_pos hs, eC, g1, hbk]
    have hd : ∀ k, dA o (backS o ts (setG o lf)) ts k = 0 := fun k => by
      unfold dA
      rw [if_pos hs, eS]
      unfold putS
      rw [if_pos hs]
    have hfs : forS o = 0 := by rw [eT]; unfold putS; rw [if_pos hs]
    have s1 : 0 * sumT ts ≤ resv o * sumT ts := Int.mul_le_mul_of_nonneg_right o1 hs0
    have s2 : resv o * sumT ts ≤ 10000 * sumT ts := Int.mul_le_mul_of_nonneg_right o2 hs0
    have s3 : sumPQ ts ≤ resv o * sumT ts := by
      have : ∀ l : List T, (∀ x ∈ l, x ∈ ts) → sumPQ l ≤ resv o * sumT l := fun l => by
        induction l with
        | nil => intro _; simp [sumPQ, sumT]
        | cons x t ih =>
          intro hl
          have i1 := ih (fun y hy => hl y (by simp [hy]))
          have hx := hl x (by simp)
          have i2 : x.price * x.qty ≤ resv o * x.qty := Int.mul_le_mul_of_nonneg_right (buy_resv hs (ct_small (hct x hx)).2.2.2.2.2 (hsm x hx).2.1) (by have := (hsm x hx).2.2.1; omega)
          simp only [sumPQ, sumT]
          rw [Int.mul_add]
          omega
      exact this ts (fun x hx => hx)
    have hfull : ∀ k : Nat, sumPQ (ts.take ts.length) = sumPQ ts := fun _ => by rw [List.take_of_length_le (Nat.le_refl _)]
    have hall := hz ts.length
    rw [hfull 0] at hall
    refine ⟨hK.ok, ⟨rfl, rfl⟩, ⟨hbE, rfl, rfl⟩, hsm, fun k => ?_, fun k => ?_, fun hn => ?_, fun hy => ?_⟩
    · have := htk k
      rw [hz k]
      omega
    · rw [hd k]; omega
    · have hgl : setG o lf = lf := by unfold setG; rw [hn]; rfl
      rw [hall, hd, hfs, eF, f1, ← hsum]
      rw [hgl, Int.mul_add]
      exact ⟨by omega, rfl⟩
    · have hgl : setG o lf = 0 := by unfold setG; rw [hy]; rfl
      have hrp : resv o = o.price := by
        unfold resv
        rw [if_neg (by rcases (stay_kind hy).2 with h | h <;> omega)]
      have el := w1 lf hl0 (by omega)
      rw [hrp] at el
      have ep : putS o.side lf = 0 := by unfold putS; rw [if_pos hs]
      rw [hall, hd, hfs, eF, f1, ep, el.1]
      rw [hgl]
      have hm : resv o * o.qty = o.price * sumT ts + o.price * lf := by rw [← hsum, Int.mul_add, hrp]
      refine ⟨?_, by omega, by omega, by omega, by omega, by omega⟩
      rw [hm, hrp]
      omega
  · -- who sells
    have hs1 : ¬ o.side = 1 := by omega
    have p1 : ∀ x y : Int, putC o.side x y = 0 := fun x y => by unfold putC; rw [if_neg hs1]
    have p2 : ∀ y : Int, putS o.side y = y := fun y => by unfold putS; rw [if_neg hs1]
    have hz : ∀ k, cA o (backC o ts (setG o lf)) ts k = 0 := fun k => by
      unfold cA
      rw [if_neg hs1, eC, bk_sell hs1, p1]
    have hd : ∀ k, dA o (backS o ts (setG o lf)) ts k = setG o lf + sumT (ts.take k) := fun k => by
      unfold dA
      rw [if_neg hs1, eS, p2]
    have hall := hd ts.length
    rw [List.take_of_length_le (Nat.le_refl _)] at hall
    refine ⟨hK.ok, ⟨rfl, rfl⟩, ⟨hbE, rfl, rfl⟩, hsm, fun k => ?_, fun k => ?_, fun hn => ?_, fun hy => ?_⟩
    · rw [hz k]; omega
    · have := htk k
      rw [hd k]
      omega
    · have hgl : setG o lf = lf := by unfold setG; rw [hn]; rfl
      rw [hz, hall, eF, eT, p1, p2, hgl]
      exact ⟨rfl, by omega⟩
    · have hgl : setG o lf = 0 := by unfold setG; rw [hy]; rfl
      rw [hz, hall, eF, eT, p1, p2, p1, p2, hgl]
      exact ⟨by omega, by omega, by omega, by omega, by omega, by omega⟩
/-- One round of the law's loop. -/
theorem step_buy {o : O} {bc bst : Int} {ts : List T} {k : Nat} (hk : k < ts.length) (hs : o.side = 1) (hx : 1 ≤ ts[k]!.price ∧ ts[k]!.price ≤ 10000 ∧ 1 ≤ ts[k]!.qty ∧ ts[k]!.qty ≤ 10000) (hB : 0 ≤ cA o bc ts (k + 1) ∧ cA o bc ts (k + 1) ≤ 1000000000) :
    wrap64 (cA o bc ts k + wrap64 (ts[k]!.price * ts[k]!.qty)) = cA o bc ts (k + 1) ∧ IntKind.i64.wrap (cA o bc ts k + IntKind.i64.wrap (ts[k]!.price * ts[k]!.qty)) = cA o bc ts (k + 1) ∧ dA o bst ts k = dA o bst ts (k + 1) := by
  have e := sumPQ_take ts k hk
  have h3 := pq_bound hx.1 hx.2.1 hx.2.2.1
  have e1 : cA o bc ts (k + 1) = cA o bc ts k + ts[k]!.price * ts[k]!.qty := by
    unfold cA
    rw [if_pos hs, if_pos hs, e]
    omega
  have e2 : wrap64 (ts[k]!.price * ts[k]!.qty) = ts[k]!.price * ts[k]!.qty := small_wrap (by omega) (by omega)
  have e3 : wrap64 (cA o bc ts k + ts[k]!.price * ts[k]!.qty) = cA o bc ts (k + 1) := by rw [← e1]; exact small_wrap (by omega) (by omega)
  refine ⟨by rw [e2, e3], ?_, ?_⟩
  · rw [(IntWalk.i64_left _).trans e2]
    exact (IntWalk.i64_left _).trans e3
  · unfold dA
    rw [if_pos hs, if_pos hs]
theorem step_sell {o : O} {bc bst : Int} {ts : List T} {k : Nat} (hk : k < ts.length) (hs : ¬ o.side = 1) (hB : 0 ≤ dA o bst ts (k + 1) ∧ dA o bst ts (k + 1) ≤ 1000000000) :
    wrap64 (dA o bst ts k + ts[k]!.qty) = dA o bst ts (k + 1) ∧ cA o bc ts k = cA o bc ts (k + 1) := by
  have e := sumT_take ts k hk
  have e1 : dA o bst ts (k + 1) = dA o bst ts k + ts[k]!.qty := by
    unfold dA
    rw [if_neg hs, if_neg hs, e]
    omega
  refine ⟨by rw [← e1]; exact small_wrap (by omega) (by omega), ?_⟩
  unfold cA
  rw [if_neg hs, if_neg hs]
/-- What rests is a rest, and what Left tells of it. -/
theorem kept_left {bs ss : List L} {o : O} (h : kdoE bs ss o = 0) (hst : stayB o (metR bs ss o).2.2 = true) : leftE (keptR o (metR bs ss o).2.2) o.side o.price = 0 ∧ leftC (keptR o (metR bs ss o).2.2) o.side o.price = putC o.side o.price (metR bs ss o).2.2 ∧ leftS (keptR o (metR bs ss o).2.2) o.side o.price = putS o.side (metR bs ss o).2.2 := by
  obtain ⟨k1, k2, k3⟩ := kdo_zero h
  obtain ⟨hr, hp⟩ := set_put k3 hst
  obtain ⟨p1, p2, p3⟩ := put_zero hp
  have hside := put_side hp
  obtain ⟨-, a2, a3, -, -⟩ := add_zero p2
  have e0 : leftE (keptR o (metR bs ss o).2.2) o.side o.price = 0 := by
    unfold leftE
    rw [if_pos a3]
    have s1 : sidB o.side = true := by simp [sidB]; omega
    have s2 : prB o.price = true := a2
    rw [s1, s2]
    rfl
  have eq : (keptR o (metR bs ss o).2.2).qty + (keptR o (metR bs ss o).2.2).hid = (metR bs ss o).2.2 := by
    unfold keptR
    simp only
    omega
  refine ⟨e0, ?_, ?_⟩
  · unfold leftC
    rw [if_pos e0, eq]
  · unfold leftS
    rw [if_pos e0, eq]
theorem fact_for (w : World) : Calls Try.prog 5 #[.agg #[.int .i64 2, .int .i64 2, .int .i64 1, .int .i64 1, .int .i64 100, .int .i64 7, .int .i64 0, .int .i64 0]] w fun e w' => e = .returned (.tuple #[.int .i64 700, .int .i64 0, .nilIface]) ∧ Below w.heap.size w w' := by
  have h := for_any ⟨2, 2, 1, 1, 100, 7, 0, 0⟩ w
  have e0 : chk ⟨2, 2, 1, 1, 100, 7, 0, 0⟩ = 0 := by decide
  have e1 : forC ⟨2, 2, 1, 1, 100, 7, 0, 0⟩ = 700 := by
    unfold forC
    rw [if_pos e0]
    show wrap64 (100 * 7) = 700
    exact small_wrap (z := 700) (by omega) (by omega)
  have e2 : forS ⟨2, 2, 1, 1, 100, 7, 0, 0⟩ = 0 := by decide
  rw [e0, e1, e2, errV_zero] at h
  exact h
end Go.Proofs.Ytdeahageabacbaa.mrg
