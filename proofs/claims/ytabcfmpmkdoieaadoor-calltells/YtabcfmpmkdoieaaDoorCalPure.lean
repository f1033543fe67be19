/- Plain facts: what is wrong with a call, and how much would be traded at a price. -/
import Derived.Test.YtabcfmpmkdoieaaDoorWakSl
namespace Go.Proofs.YtabcfmpmkdoieaaDoor.cal
open Go.Proofs.YtabcfmpmkdoieaaDoor.ord
open Go.Proofs.YtabcfmpmkdoieaaDoor.wak (getE)

def has (id : Int) (zs : List O) : Bool := zs.any (fun r => decide (r.id = id))
/-- What is wrong with an order that comes behind others. -/
def behE (pre : List O) (o : O) : Int := if chk o = 0 then (if o.kind = 1 ∧ o.shw = 0 ∧ o.stop = 0 then (if has o.id pre = true then 7 else 0) else 3) else chk o
def ckF (pre : List O) : List O → Int
  | [] => 0
  | o :: t => if behE pre o = 0 then ckF (pre ++ [o]) t else behE pre o
/-- What is wrong with a call. -/
def cE (zs : List O) : Int := if 60 < zs.length then 4 else ckF [] zs

theorem ckF_step (zs : List O) (k : Nat) (h : k < zs.length) : ckF (zs.take k) (zs.drop k) = if behE (zs.take k) zs[k]! = 0 then ckF (zs.take (k + 1)) (zs.drop (k + 1)) else behE (zs.take k) zs[k]! := by
  have hk : zs[k]! = zs[k] := getE zs k h
  rw [hk]
  conv => lhs; rw [List.drop_eq_getElem_cons h]
  rw [ckF, List.take_succ_eq_append_getElem h]
theorem ckF_end (zs : List O) : ckF (zs.take zs.length) (zs.drop zs.length) = 0 := by simp [ckF]

/-- An order of a call. -/
structure Fine (o : O) : Prop where
  ok : chk o = 0
  kind : o.kind = 1
  shw : o.shw = 0
  stop : o.stop = 0
theorem beh_zero {pre : List O} {o : O} (h : behE pre o = 0) : Fine o ∧ has o.id pre = false := by
  unfold behE at h
  by_cases h0 : chk o = 0
  · rw [if_pos h0] at h
    by_cases h1 : o.kind = 1 ∧ o.shw = 0 ∧ o.stop = 0
    · rw [if_pos h1] at h
      refine ⟨⟨h0, h1.1, h1.2.1, h1.2.2⟩, ?_⟩
      cases hh : has o.id pre with
      | false => rfl
      | true => rw [hh] at h; simp at h
    · rw [if_neg h1] at h; simp at h
  · rw [if_neg h0] at h; exact absurd h h0
theorem ckF_zero : ∀ (zs pre : List O), ckF pre zs = 0 → (∀ o ∈ zs, Fine o) ∧ (∀ o ∈ zs, ∀ r ∈ pre, ¬ r.id = o.id) ∧ zs.Pairwise (fun a b => ¬ a.id = b.id)
  | [], _, _ => ⟨by simp, by simp, List.Pairwise.nil⟩
  | o :: t, pre, h => by
    rw [ckF] at h
    by_cases hb : behE pre o = 0
    · rw [if_pos hb] at h
      obtain ⟨h1, h2, h3⟩ := ckF_zero t _ h
      obtain ⟨b1, b2⟩ := beh_zero hb
      have hp : ∀ r ∈ pre, ¬ r.id = o.id := by
        intro r hr e
        unfold has at b2
        rw [List.any_eq_false] at b2
        exact b2 r hr (decide_eq_true e)
      refine ⟨fun x hx => ?_, fun x hx r hr => ?_, List.pairwise_cons.2 ⟨fun x hx => ?_, h3⟩⟩
      · rcases List.mem_cons.1 hx with rfl | hx
        · exact b1
        · exact h1 x hx
      · rcases List.mem_cons.1 hx with rfl | hx
        · exact hp r hr
        · exact h2 x hx r (List.mem_append_left _ hr)
      · exact h2 x hx o (List.mem_append_right _ (List.mem_singleton.2 rfl))
    · rw [if_neg hb] at h; exact absurd h hb
/-- A call with which nothing is wrong. -/
structure Good (zs : List O) : Prop where
  few : zs.length ≤ 60
  fine : ∀ o ∈ zs, Fine o
  apart : zs.Pairwise (fun a b => ¬ a.id = b.id)
theorem good_of {zs : List O} (h : cE zs = 0) : Good zs := by
  unfold cE at h
  by_cases h1 : 60 < zs.length
  · rw [if_pos h1] at h; simp at h
  · rw [if_neg h1] at h
    obtain ⟨a, -, c⟩ := ckF_zero zs [] h
    exact ⟨by omega, a, c⟩
theorem ckF_of : ∀ (zs pre : List O), (∀ o ∈ zs, Fine o) → (∀ o ∈ zs, ∀ r ∈ pre, ¬ r.id = o.id) → zs.Pairwise (fun a b => ¬ a.id = b.id) → ckF pre zs = 0
  | [], _, _, _, _ => rfl
  | o :: t, pre, h1, h2, h3 => by
    have hf := h1 o List.mem_cons_self
    have hh : has o.id pre = false := by
      unfold has
      rw [List.any_eq_false]
      intro r hr e
      exact h2 o List.mem_cons_self r hr (of_decide_eq_true e)
    have hb : behE pre o = 0 := by
      unfold behE
      rw [if_pos hf.ok, if_pos ⟨hf.kind, hf.shw, hf.stop⟩, hh]
      rfl
    rw [ckF, if_pos hb]
    rw [List.pairwise_cons] at h3
    refine ckF_of t _ (fun x hx => h1 x (List.mem_cons_of_mem _ hx)) (fun x hx r hr => ?_) h3.2
    rcases List.mem_append.1 hr with hr | hr
    · exact h2 x (List.mem_cons_of_mem _ hx) r hr
    · rw [List.mem_singleton.1 hr]; exact h3.1 x hx
theorem cE_of {zs : List O} (h : Good zs) : cE zs = 0 := by
  unfold cE
  rw [if_neg (by have := h.few; omega)]
  exact ckF_of zs [] h.fine (fun _ _ _ hr => by simp at hr) h.apart

theorem Fine.bounds {o : O} (h : Fine o) : (o.side = 1 ∨ o.side = 2) ∧ 1 ≤ o.price ∧ o.price ≤ 10000 ∧ 1 ≤ o.qty ∧ o.qty ≤ 10000 ∧ 1 ≤ o.id ∧ o.id ≤ 9999 ∧ 1 ≤ o.who ∧ o.who ≤ 9 := by
  obtain ⟨h1, h2, h3, -, -⟩ := chk_zero h.ok
  have hk := h.kind
  unfold headB at h1
  unfold priceOkB at h2
  unfold qtyB at h3
  rw [hk, if_neg (by decide)] at h2
  unfold prB at h2
  simp only [Bool.and_eq_true, decide_eq_true_eq] at h1 h2 h3
  omega
theorem Fine.pr {o : O} (h : Fine o) : prB o.price = true := by
  have := h.bounds
  unfold prB
  simp only [Bool.and_eq_true, decide_eq_true_eq]
  omega
theorem Fine.meets {o : O} (h : Fine o) (x : Int) (hx : prB x = true) : mE o x = 0 := by
  unfold mE
  rw [if_pos h.ok, hx]
  rfl
/-- Whether an order would trade at a price. -/
def at_ (o : O) (p : Int) : Bool := if o.side = 1 then decide (p ≤ o.price) else decide (o.price ≤ p)
theorem Fine.mB {o : O} (h : Fine o) (x : Int) : mB o x = at_ o x := by
  unfold ord.mB at_
  rw [show decide (o.kind = 2) = false from by rw [h.kind]; rfl, Bool.false_or]

/-- What all of a side who may trade at a price want. -/
def ws (side p : Int) : List O → Int
  | [] => 0
  | o :: t => (if o.side = side ∧ at_ o p = true then o.qty else 0) + ws side p t
theorem ws_append (side p : Int) (a b : List O) : ws side p (a ++ b) = ws side p a + ws side p b := by
  induction a with
  | nil => simp [ws]
  | cons o t ih => rw [List.cons_append, ws, ws, ih]; omega
theorem ws_take (side p : Int) (zs : List O) (k : Nat) (h : k < zs.length) : ws side p (zs.take (k + 1)) = ws side p (zs.take k) + (if (zs[k]!).side = side ∧ at_ zs[k]! p = true then (zs[k]!).qty else 0) := by
  rw [List.take_succ_eq_append_getElem h, ws_append, getE zs k h]
  simp [ws]
theorem ws_bounds (side p : Int) : ∀ (zs : List O), (∀ o ∈ zs, 0 ≤ o.qty ∧ o.qty ≤ 10000) → 0 ≤ ws side p zs ∧ ws side p zs ≤ 10000 * zs.length
  | [], _ => by simp [ws]
  | o :: t, h => by
    have ih := ws_bounds side p t (fun x hx => h x (List.mem_cons_of_mem _ hx))
    have := h o List.mem_cons_self
    rw [ws, List.length_cons]
    split <;> omega
theorem ws_small {zs : List O} (h : Good zs) (side p : Int) (k : Nat) : 0 ≤ ws side p (zs.take k) ∧ ws side p (zs.take k) ≤ 600000 := by
  have := ws_bounds side p (zs.take k) (fun o ho => by have := (h.fine o (List.mem_of_mem_take ho)).bounds; omega)
  have h2 := h.few
  have h3 : (zs.take k).length ≤ zs.length := by rw [List.length_take]; omega
  omega

/-- An offer: its price, its volume, what is left over. -/
structure Of where
  price : Int
  vol : Int
  over : Int
instance : Inhabited Of := ⟨⟨0, 0, 0⟩⟩
def ofAt (zs : List O) (p : Int) : Of := ⟨p, min (ws 1 p zs) (ws 2 p zs), ws 1 p zs - ws 2 p zs⟩
def ap (a : Of) : Int := max a.over (- a.over)
def bet (a b : Of) : Bool := if a.vol = b.vol then (if ap a = ap b then decide (a.price < b.price) else decide (ap a < ap b)) else decide (b.vol < a.vol)
def bestF (zs : List O) : List O → Of → Of
  | [], b => b
  | o :: t, b => bestF zs t (if bet (ofAt zs o.price) b = true then ofAt zs o.price else b)
/-- The offer at which a call trades. -/
def best (zs : List O) : Of := bestF zs zs ⟨0, 0, 0⟩
theorem bestF_step (zs : List O) (k : Nat) (b : Of) (h : k < zs.length) : bestF zs (zs.drop k) b = bestF zs (zs.drop (k + 1)) (if bet (ofAt zs (zs[k]!).price) b = true then ofAt zs (zs[k]!).price else b) := by
  conv => lhs; rw [List.drop_eq_getElem_cons h]
  rw [bestF, getE zs k h]
/-- Price's error. -/
def pE (zs : List O) : Int := if cE zs = 0 then (if (best zs).vol = 0 then 5 else 0) else cE zs
end Go.Proofs.YtabcfmpmkdoieaaDoor.cal
