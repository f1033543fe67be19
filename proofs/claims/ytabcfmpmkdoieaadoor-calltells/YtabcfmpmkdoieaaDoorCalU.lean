/- Plain facts: what is traded of a call at a price, trade by trade. -/
import Derived.Test.YtabcfmpmkdoieaaDoorCalPure
import Derived.Test.YtabcfmpmkdoieaaDoorCalLine
namespace Go.Proofs.YtabcfmpmkdoieaaDoor.cal
open Go.Proofs.YtabcfmpmkdoieaaDoor.ord
open Go.Proofs.YtabcfmpmkdoieaaDoor.wak (getE)

/-- A trade. -/
structure T where
  mak : Int
  tak : Int
  frm : Int
  too : Int
  price : Int
  qty : Int
def wq (o : O) (q : Int) : O := { o with qty := q }
theorem wq_self (o : O) : wq o o.qty = o := rfl
/-- So much less of one. -/
def dq (os : List O) (i : Nat) (q : Int) : List O := os.set i (wq os[i]! ((os[i]!).qty - q))
theorem dq_len (os : List O) (i : Nat) (q : Int) : (dq os i q).length = os.length := by unfold dq; rw [List.length_set]
theorem dq_at (os : List O) (i : Nat) (q : Int) (h : i < os.length) : (dq os i q)[i]! = wq os[i]! ((os[i]!).qty - q) := by
  unfold dq
  rw [getE _ i (by rw [List.length_set]; exact h), List.getElem_set_self]
theorem dq_ne (os : List O) (i : Nat) (q : Int) (x : Nat) (h : x ≠ i) : (dq os i q)[x]! = os[x]! := by
  unfold dq
  by_cases hx : x < os.length
  · rw [getE _ x (by rw [List.length_set]; exact hx), getE _ x hx, List.getElem_set_ne (fun e => h e.symm)]
  · rw [getElem!_neg (os.set i (wq os[i]! ((os[i]!).qty - q))) x (by rw [List.length_set]; exact hx), getElem!_neg os x hx]
theorem dq_wq (os : List O) (i : Nat) (q : Int) (x : Nat) : ∃ r, (dq os i q)[x]! = wq os[x]! r := by
  by_cases h : x = i
  · subst h
    by_cases hx : x < os.length
    · exact ⟨_, dq_at os x q hx⟩
    · refine ⟨(os[x]!).qty, ?_⟩
      rw [wq_self, getElem!_neg (dq os x q) x (by rw [dq_len]; exact hx), getElem!_neg os x hx]
  · exact ⟨(os[x]!).qty, by rw [dq_ne os i q x h]; rfl⟩
theorem dq_side (os : List O) (i : Nat) (q : Int) (x : Nat) : ((dq os i q)[x]!).side = (os[x]!).side := by obtain ⟨r, h⟩ := dq_wq os i q x; rw [h]; rfl
theorem dq_price (os : List O) (i : Nat) (q : Int) (x : Nat) : ((dq os i q)[x]!).price = (os[x]!).price := by obtain ⟨r, h⟩ := dq_wq os i q x; rw [h]; rfl
theorem dq_atp (os : List O) (i : Nat) (q : Int) (x : Nat) (p : Int) : at_ (dq os i q)[x]! p = at_ os[x]! p := by obtain ⟨r, h⟩ := dq_wq os i q x; rw [h]; rfl

/-- By what orders of a side stand ahead. -/
def keyO (side : Int) (os : List O) (x : Nat) : Int := if side = 1 then - (os[x]!).price else (os[x]!).price
theorem keyO_dq (side : Int) (os : List O) (i : Nat) (q : Int) : keyO side (dq os i q) = keyO side os := by
  funext x; unfold keyO; rw [dq_price]
/-- The first of a side who may trade at a price. -/
structure Bst (os : List O) (side p : Int) (i : Nat) : Prop where
  lt : i < os.length
  sd : (os[i]!).side = side
  left : 0 < (os[i]!).qty
  may : at_ os[i]! p = true
  first : ∀ j, j < os.length → (os[j]!).side = side → 0 < (os[j]!).qty → at_ os[j]! p = true → j = i ∨ lt2 (keyO side os) i j
theorem lt2_not {key : Nat → Int} {i j : Nat} (h : lt2 key i j) (k : lt2 key j i) : False := by
  rcases h with h | ⟨h1, h2⟩ <;> rcases k with k | ⟨k1, k2⟩ <;> omega
theorem bst_det {os : List O} {side p : Int} {i j : Nat} (h : Bst os side p i) (k : Bst os side p j) : i = j := by
  rcases h.first j k.lt k.sd k.left k.may with e | h1
  · exact e.symm
  · rcases k.first i h.lt h.sd h.left h.may with e | h2
    · exact e
    · exact (lt2_not h1 h2).elim

def trOf (os : List O) (b s : Nat) (p q : Int) : T := ⟨(os[s]!).id, (os[b]!).id, (os[s]!).who, (os[b]!).who, p, q⟩
/-- Trades of a call at a price, so much. -/
inductive U (p : Int) : Int → List O → List T → List O → Prop
  | done (os : List O) : U p 0 os [] os
  | fill (v : Int) (os : List O) (b s : Nat) (ts : List T) (os' : List O) (hv : 0 < v) (hb : Bst os 1 p b) (hs : Bst os 2 p s)
      (h : U p (v - min (os[b]!).qty (os[s]!).qty) (dq (dq os b (min (os[b]!).qty (os[s]!).qty)) s (min (os[b]!).qty (os[s]!).qty)) ts os') : U p v os (trOf os b s p (min (os[b]!).qty (os[s]!).qty) :: ts) os'
theorem u_det {p v : Int} {os : List O} {ts ts' : List T} {os1 os2 : List O} (h : U p v os ts os1) : U p v os ts' os2 → ts = ts' ∧ os1 = os2 := by
  induction h generalizing ts' os2 with
  | done os =>
    intro k
    cases k with
    | done => exact ⟨rfl, rfl⟩
    | fill _ _ _ _ _ _ hv => omega
  | fill v os b s ts os' hv hb hs _ ih =>
    intro k
    cases k with
    | done => omega
    | fill _ _ b' s' ts' _ hv' hb' hs' k' =>
      have e1 := bst_det hb hb'
      have e2 := bst_det hs hs'
      subst e1
      subst e2
      obtain ⟨e3, e4⟩ := ih k'
      exact ⟨by rw [e3], e4⟩

/-- The orders as they were, but for how much is left. -/
def Sh (zs os : List O) : Prop := os.length = zs.length ∧ ∀ x : Nat, ∃ r, os[x]! = wq zs[x]! r
theorem Sh.refl (zs : List O) : Sh zs zs := ⟨rfl, fun x => ⟨(zs[x]!).qty, rfl⟩⟩
theorem sh_dq {zs os : List O} (h : Sh zs os) (i : Nat) (q : Int) : Sh zs (dq os i q) := by
  refine ⟨(dq_len os i q).trans h.1, fun x => ?_⟩
  obtain ⟨r, e⟩ := dq_wq os i q x
  obtain ⟨r', e'⟩ := h.2 x
  exact ⟨r, by rw [e, e']; rfl⟩

/-- How much of each is left. -/
def Nn (os : List O) : Prop := ∀ x : Nat, 0 ≤ (os[x]!).qty ∧ (os[x]!).qty ≤ 10000
theorem nn_dq {os : List O} (h : Nn os) (i : Nat) (q : Int) (h0 : 0 ≤ q) (hq : q ≤ (os[i]!).qty) : Nn (dq os i q) := by
  intro x
  by_cases hx : x = i
  · subst hx
    by_cases hl : x < os.length
    · rw [dq_at os x q hl]
      have := h x
      show 0 ≤ (os[x]!).qty - q ∧ (os[x]!).qty - q ≤ 10000
      omega
    · rw [getElem!_neg (dq os x q) x (by rw [dq_len]; exact hl)]
      exact ⟨Int.le_refl 0, by decide⟩
  · rw [dq_ne os i q x hx]; exact h x

theorem ws_set (side p : Int) : ∀ (os : List O) (i : Nat) (r : Int), i < os.length → ws side p (os.set i (wq os[i]! r)) = ws side p os + (if (os[i]!).side = side ∧ at_ os[i]! p = true then r - (os[i]!).qty else 0)
  | [], i, r, h => by simp at h
  | o :: t, 0, r, _ => by
    have e : (o :: t)[0]! = o := rfl
    rw [e, List.set_cons_zero, ws, ws]
    have e2 : (wq o r).side = o.side := rfl
    have e3 : at_ (wq o r) p = at_ o p := rfl
    have e4 : (wq o r).qty = r := rfl
    rw [e2, e3, e4]
    split <;> omega
  | o :: t, i + 1, r, h => by
    have hi : i < t.length := by simpa using h
    have e : (o :: t)[i + 1]! = t[i]! := rfl
    rw [e, List.set_cons_succ, ws, ws, ws_set side p t i r hi]
    omega
theorem ws_dq (side p : Int) (os : List O) (i : Nat) (q : Int) (h : i < os.length) : ws side p (dq os i q) = ws side p os - (if (os[i]!).side = side ∧ at_ os[i]! p = true then q else 0) := by
  unfold dq
  rw [ws_set side p os i _ h]
  split <;> omega
theorem ws_nonneg (side p : Int) : ∀ (os : List O), Nn os → 0 ≤ ws side p os
  | [], _ => Int.le_refl 0
  | o :: t, h => by
    have h1 := ws_nonneg side p t (fun x => h (x + 1))
    have h2 := h 0
    have e : (o :: t)[0]! = o := rfl
    rw [e] at h2
    rw [ws]
    split <;> omega
theorem ws_ge (side p : Int) : ∀ (os : List O) (i : Nat), Nn os → i < os.length → (os[i]!).side = side → at_ os[i]! p = true → (os[i]!).qty ≤ ws side p os
  | [], i, _, h, _, _ => by simp at h
  | o :: t, 0, hn, _, h1, h2 => by
    have e : (o :: t)[0]! = o := rfl
    rw [e] at h1 h2 ⊢
    have h3 := ws_nonneg side p t (fun x => hn (x + 1))
    rw [ws, if_pos ⟨h1, h2⟩]
    omega
  | o :: t, i + 1, hn, h, h1, h2 => by
    have hi : i < t.length := by simpa using h
    have e : (o :: t)[i + 1]! = t[i]! := rfl
    rw [e] at h1 h2 ⊢
    have h3 := ws_ge side p t i (fun x => hn (x + 1)) hi h1 h2
    have h4 := hn 0
    have e' : (o :: t)[0]! = o := rfl
    rw [e'] at h4
    rw [ws]
    split <;> omega
theorem ws_pos (side p : Int) : ∀ (os : List O), Nn os → 0 < ws side p os → ∃ j, j < os.length ∧ (os[j]!).side = side ∧ 0 < (os[j]!).qty ∧ at_ os[j]! p = true
  | [], _, h => by simp [ws] at h
  | o :: t, hn, h => by
    have e : (o :: t)[0]! = o := rfl
    by_cases hc : 0 < ws side p t
    · obtain ⟨j, h1, h2, h3, h4⟩ := ws_pos side p t (fun x => hn (x + 1)) hc
      exact ⟨j + 1, by simpa using h1, h2, h3, h4⟩
    · rw [ws] at h
      by_cases hb : o.side = side ∧ at_ o p = true
      · rw [if_pos hb] at h
        exact ⟨0, by simp, by rw [e]; exact hb.1, by rw [e]; omega, by rw [e]; exact hb.2⟩
      · rw [if_neg hb] at h
        omega

/-- A line of those who have something left. -/
structure Ln (side : Int) (os : List O) (is : List Nat) : Prop where
  srt : is.Pairwise (lt2 (keyO side os))
  mem : ∀ x, x ∈ is ↔ x < os.length ∧ (os[x]!).side = side ∧ 0 < (os[x]!).qty
theorem Ln.other {side : Int} {os : List O} {is : List Nat} (h : Ln side os is) (i : Nat) (q : Int) (hi : (os[i]!).side ≠ side) : Ln side (dq os i q) is := by
  refine ⟨by rw [keyO_dq]; exact h.srt, fun x => ?_⟩
  rw [h.mem, dq_len, dq_side]
  by_cases hx : x = i
  · subst hx
    exact ⟨fun h' => (hi h'.2.1).elim, fun h' => (hi h'.2.1).elim⟩
  · rw [dq_ne os i q x hx]
theorem Ln.take {side : Int} {os : List O} {b : Nat} {t : List Nat} (h : Ln side os (b :: t)) (q : Int) (hq : q ≤ (os[b]!).qty) : Ln side (dq os b q) (if (os[b]!).qty - q = 0 then t else b :: t) := by
  have hb := (h.mem b).1 List.mem_cons_self
  have hs := List.pairwise_cons.1 h.srt
  have hne : ∀ x ∈ t, x ≠ b := fun x hx e => by subst e; exact lt2_not (hs.1 x hx) (hs.1 x hx)
  by_cases h0 : (os[b]!).qty - q = 0
  · rw [if_pos h0]
    refine ⟨by rw [keyO_dq]; exact hs.2, fun x => ?_⟩
    rw [dq_len, dq_side]
    by_cases hx : x = b
    · subst hx
      rw [dq_at os x q hb.1]
      refine ⟨fun h' => (hne x h' rfl).elim, fun h' => ?_⟩
      have h3 : 0 < (os[x]!).qty - q := h'.2.2
      omega
    · rw [dq_ne os b q x hx]
      have := h.mem x
      rw [List.mem_cons] at this
      constructor
      · intro h'; exact this.1 (.inr h')
      · intro h'
        rcases this.2 h' with e | e
        · exact (hx e).elim
        · exact e
  · rw [if_neg h0]
    refine ⟨by rw [keyO_dq]; exact h.srt, fun x => ?_⟩
    rw [dq_len, dq_side, h.mem]
    by_cases hx : x = b
    · subst hx
      rw [dq_at os x q hb.1]
      refine ⟨fun h' => ⟨h'.1, h'.2.1, ?_⟩, fun h' => ⟨h'.1, h'.2.1, hb.2.2⟩⟩
      show 0 < (os[x]!).qty - q
      omega
    · rw [dq_ne os b q x hx]
theorem at_mono {side p : Int} {os : List O} {i j : Nat} (hs : side = 1 ∨ side = 2) (hi : (os[i]!).side = side) (hj : (os[j]!).side = side) (hk : keyO side os i ≤ keyO side os j) (h : at_ os[j]! p = true) : at_ os[i]! p = true := by
  unfold at_ at h ⊢
  unfold keyO at hk
  rw [hi]
  rw [hj] at h
  rcases hs with rfl | rfl
  · rw [if_pos rfl, if_pos rfl] at hk
    rw [if_pos rfl] at h ⊢
    have := of_decide_eq_true h
    exact decide_eq_true (by omega)
  · rw [if_neg (by decide), if_neg (by decide)] at hk
    rw [if_neg (by decide)] at h ⊢
    have := of_decide_eq_true h
    exact decide_eq_true (by omega)
theorem ln_head {side p : Int} {os : List O} {is : List Nat} (hs : side = 1 ∨ side = 2) (hn : Nn os) (h : Ln side os is) (hw : 0 < ws side p os) : ∃ b t, is = b :: t ∧ Bst os side p b := by
  obtain ⟨j, j1, j2, j3, j4⟩ := ws_pos side p os hn hw
  have hj := (h.mem j).2 ⟨j1, j2, j3⟩
  cases is with
  | nil => simp at hj
  | cons b t =>
    refine ⟨b, t, rfl, ?_⟩
    have hb := (h.mem b).1 List.mem_cons_self
    have hsr := List.pairwise_cons.1 h.srt
    refine ⟨hb.1, hb.2.1, hb.2.2, ?_, fun x x1 x2 x3 _ => ?_⟩
    · refine at_mono hs hb.2.1 j2 ?_ j4
      rcases List.mem_cons.1 hj with e | e
      · rw [e]; exact Int.le_refl _
      · rcases hsr.1 j e with h1 | h1 <;> omega
    · rcases List.mem_cons.1 ((h.mem x).2 ⟨x1, x2, x3⟩) with e | e
      · exact .inl e
      · exact .inr (hsr.1 x e)

/-- What holds while a call is traded. -/
structure TI (zs : List O) (p V : Int) (os : List O) (bs ss : List Nat) (v : Int) (ts : List T) : Prop where
  sh : Sh zs os
  nn : Nn os
  lb : Ln 1 os bs
  ls : Ln 2 os ss
  vol : v = min (ws 1 p os) (ws 2 p os)
  go : ∀ ts' os', U p v os ts' os' → U p V zs (ts ++ ts') os'
theorem TI.start {zs : List O} {p V : Int} {bs ss : List Nat} (hn : Nn zs) (hb : Ln 1 zs bs) (hs : Ln 2 zs ss) (hv : V = min (ws 1 p zs) (ws 2 p zs)) : TI zs p V zs bs ss V [] :=
  ⟨Sh.refl zs, hn, hb, hs, hv, fun _ _ h => h⟩
theorem TI.last {zs os : List O} {p V : Int} {bs ss : List Nat} {v : Int} {ts : List T} (h : TI zs p V os bs ss v ts) (hv : ¬ 0 < v) : U p V zs ts os := by
  have h1 := ws_nonneg 1 p os h.nn
  have h2 := ws_nonneg 2 p os h.nn
  have h3 := h.vol
  have e : v = 0 := by omega
  have := h.go [] os (by rw [e]; exact U.done os)
  rwa [List.append_nil] at this
/-- One trade more. -/
theorem TI.step {zs os : List O} {p V : Int} {bs ss : List Nat} {v : Int} {ts : List T} (h : TI zs p V os bs ss v ts) (hv : 0 < v) :
    ∃ b bt s st, bs = b :: bt ∧ ss = s :: st ∧ b < zs.length ∧ s < zs.length ∧ b ≠ s ∧ Bst os 1 p b ∧ Bst os 2 p s ∧ 0 < min (os[b]!).qty (os[s]!).qty ∧ min (os[b]!).qty (os[s]!).qty ≤ v ∧
      TI zs p V (dq (dq os b (min (os[b]!).qty (os[s]!).qty)) s (min (os[b]!).qty (os[s]!).qty)) (if (os[b]!).qty - min (os[b]!).qty (os[s]!).qty = 0 then bt else b :: bt) (if (os[s]!).qty - min (os[b]!).qty (os[s]!).qty = 0 then st else s :: st) (v - min (os[b]!).qty (os[s]!).qty) (ts ++ [trOf os b s p (min (os[b]!).qty (os[s]!).qty)]) := by
  have hvol := h.vol
  obtain ⟨b, bt, rfl, hb⟩ := ln_head (p := p) (.inl rfl) h.nn h.lb (by omega)
  obtain ⟨s, st, rfl, hs⟩ := ln_head (p := p) (.inr rfl) h.nn h.ls (by omega)
  have hne : b ≠ s := fun e => by
    have h1 := hb.sd
    have h2 := hs.sd
    rw [e, h2] at h1
    exact absurd h1 (by decide)
  have g1 := ws_ge 1 p os b h.nn hb.lt hb.sd hb.may
  have g2 := ws_ge 2 p os s h.nn hs.lt hs.sd hs.may
  have hbl := hb.left
  have hsl := hs.left
  obtain ⟨q, hq⟩ : ∃ q, q = min (os[b]!).qty (os[s]!).qty := ⟨_, rfl⟩
  have hl := h.sh.1
  refine ⟨b, bt, s, st, rfl, rfl, by have := hb.lt; omega, by have := hs.lt; omega, hne, hb, hs, ?_, ?_, ?_⟩
  · omega
  · omega
  · have hgo : ∀ ts' os', U p (v - q) (dq (dq os b q) s q) ts' os' → U p V zs ((ts ++ [trOf os b s p q]) ++ ts') os' := by
      intro ts' os' hu
      have := h.go _ _ (U.fill v os b s ts' os' hv hb hs (by rw [← hq]; exact hu))
      rw [← hq] at this
      rw [List.append_assoc]
      exact this
    rw [← hq]
    have es : (dq os b q)[s]! = os[s]! := dq_ne os b q s (fun e => hne e.symm)
    have hn1 := nn_dq h.nn b q (by omega) (by omega)
    refine ⟨sh_dq (sh_dq h.sh b q) s q, nn_dq hn1 s q (by omega) (by rw [es]; omega), ?_, ?_, ?_, hgo⟩
    · have := h.lb.take q (by omega)
      exact this.other s q (by rw [es, hs.sd]; decide)
    · have h1 := h.ls.other b q (by rw [hb.sd]; decide)
      have h2 := h1.take q (by rw [es]; omega)
      rw [es] at h2
      exact h2
    · rw [ws_dq 1 p _ s q (by rw [dq_len]; exact hs.lt), ws_dq 2 p _ s q (by rw [dq_len]; exact hs.lt), ws_dq 1 p os b q hb.lt, ws_dq 2 p os b q hb.lt, es, hb.sd, hs.sd, hb.may, hs.may]
      rw [if_pos ⟨rfl, rfl⟩, if_neg (fun x => absurd x.1 (by decide)), if_neg (fun x => absurd x.1 (by decide)), if_pos ⟨rfl, rfl⟩]
      omega

theorem keyP_is (side : Int) (zs : List O) (x : Nat) (h : x < zs.length) : keyP side zs x = keyO side zs x := by
  unfold keyP keyO prOf
  rw [Nat.mod_eq_of_lt h]
/-- A line that call.line makes. -/
theorem ln_of {side : Int} {zs : List O} {is : List Nat} (hg : Good zs) (h : Line side zs is) : Ln side zs is := by
  have hpos : ∀ x, x < zs.length → 0 < (zs[x]!).qty := fun x hx => by
    have := (hg.fine zs[x]! (by rw [getE zs x hx]; exact List.getElem_mem _)).bounds
    omega
  refine ⟨?_, fun x => ?_⟩
  · refine h.1.imp_of_mem ?_
    intro a b ha hb hab
    have h1 := ((h.2 a).1 ha).1
    have h2 := ((h.2 b).1 hb).1
    unfold lt2 at hab ⊢
    rwa [keyP_is side zs a h1, keyP_is side zs b h2] at hab
  · rw [h.2]
    exact ⟨fun ⟨a, b⟩ => ⟨a, b, hpos x a⟩, fun ⟨a, b, _⟩ => ⟨a, b⟩⟩
theorem nn_of {zs : List O} (hg : Good zs) : Nn zs := by
  intro x
  by_cases hx : x < zs.length
  · have := (hg.fine zs[x]! (by rw [getE zs x hx]; exact List.getElem_mem _)).bounds
    omega
  · rw [getElem!_neg zs x hx]
    exact ⟨Int.le_refl 0, by decide⟩
end Go.Proofs.YtabcfmpmkdoieaaDoor.cal
