/- Plain facts: where an id rests in a book; a book in which a rest stands in place of another one with its id. No walk. -/
import Derived.Test.YtjphhieloicdeaaBokFind2
import Derived.Test.YtjphhieloicdeaaSidDL
namespace Go.Proofs.Ytjphhieloicdeaa.swp
open Go.RowKit Go.Proofs.Ytjphhieloicdeaa.spn Go.Proofs.Ytjphhieloicdeaa.que Go.Proofs.Ytjphhieloicdeaa.sid Go.Proofs.Ytjphhieloicdeaa.bok

theorem hidW {P : Prop} (h : P) : Hid P := h
/-- Levels, one rest of which has become another one. -/
def setL (ls : List L) (i k : Nat) (r : R) : List L := ls.set i ⟨ls[i]!.price, ls[i]!.rests.set k r⟩
def kB (s : Int) (bs : List L) (i k : Nat) (r : R) : List L := if s = 1 then setL bs i k r else bs
def kS (s : Int) (ss : List L) (i k : Nat) (r : R) : List L := if s = 1 then ss else setL ss i k r
def cB (s : Int) (bs : List L) (i k : Nat) : List L := if s = 1 then dropL bs i k else bs
def cS (s : Int) (ss : List L) (i k : Nat) : List L := if s = 1 then ss else dropL ss i k
/-- Where an id rests in a book that is right. -/
structure Spot (bs ss : List L) (id s : Int) (ls : List L) (i k : Nat) : Prop where
  h0 : bookE bs ss = 0
  hi : i < ls.length
  hk : k < ls[i].rests.length
  hr : ls[i].rests[k].id = id
  side : (s = 1 ∧ ls = bs ∧ findE 1 bs id = 0 ∧ findP 1 bs id = ((i : Int), (k : Int))) ∨ (s = 2 ∧ ls = ss ∧ findE 1 bs id = 5 ∧ findE 2 ss id = 0 ∧ findP 2 ss id = ((i : Int), (k : Int)))
theorem spot_of {bs ss : List L} {id : Int} (h0 : bookE bs ss = 0) (hin : inBook bs ss id = true) : ∃ s ls i k, Spot bs ss id s ls i k := by
  obtain ⟨e1, e2, -⟩ := book_zero h0
  by_cases hb : id ∈ ids bs
  · obtain ⟨-, i, k, hi, hk, hr, hp⟩ := find_spot (findE_in e1 hb)
    exact ⟨1, bs, i, k, h0, hi, hk, hr, .inl ⟨rfl, rfl, findE_in e1 hb, hp⟩⟩
  · have hs : id ∈ ids ss := by
      unfold inBook at hin
      simpa [hb] using hin
    obtain ⟨-, i, k, hi, hk, hr, hp⟩ := find_spot (findE_in e2 hs)
    exact ⟨2, ss, i, k, h0, hi, hk, hr, .inr ⟨rfl, rfl, findE_out e1 hb, findE_in e2 hs, hp⟩⟩
theorem Spot.sides {bs ss : List L} {id s : Int} {ls : List L} {i k : Nat} (h : Spot bs ss id s ls i k) : schk s ls = 0 := by
  obtain ⟨e1, e2, -⟩ := book_zero h.h0
  rcases h.side with ⟨rfl, rfl, -⟩ | ⟨rfl, rfl, -⟩
  · exact e1
  · exact e2
theorem Spot.level {bs ss : List L} {id s : Int} {ls : List L} {i k : Nat} (h : Spot bs ss id s ls i k) : lchk (ls[i]'h.hi) = 0 := sgo_each (schk_zero h.sides).2.1 _ (List.getElem_mem h.hi)
theorem Spot.rest {bs ss : List L} {id s : Int} {ls : List L} {i k : Nat} (h : Spot bs ss id s ls i k) : rchk ((ls[i]'h.hi).rests[k]'h.hk) = 0 :=
  ((qchk_zero _).1 (lchk_zero h.level).2.2).2.1 _ (List.getElem_mem h.hk)
theorem Spot.wf {bs ss : List L} {id s : Int} {ls : List L} {i k : Nat} (h : Spot bs ss id s ls i k) : (Lit.int .i64 id).wf = true := by
  have := wf_id h.rest
  rwa [h.hr] at this
/-- A list, cut at one of its members. -/
theorem cut_at {α : Type} {l : List α} {i : Nat} (hi : i < l.length) : ∃ a b, l = a ++ l[i] :: b ∧ a.length = i :=
  ⟨l.take i, l.drop (i + 1), by rw [← List.drop_eq_getElem_cons hi, List.take_append_drop], by rw [List.length_take]; omega⟩
theorem cut_level {ls : List L} {i k : Nat} (hi : i < ls.length) (hk : k < ls[i].rests.length) : ∃ a b c d, ls = a ++ ⟨ls[i].price, c ++ ls[i].rests[k] :: d⟩ :: b ∧ a.length = i ∧ ls[i].rests = c ++ ls[i].rests[k] :: d ∧ c.length = k := by
  obtain ⟨a, b, e1, e2⟩ := cut_at hi
  obtain ⟨c, d, e3, e4⟩ := cut_at hk
  exact ⟨a, b, c, d, by rw [← e3]; exact e1, e2, e3, e4⟩
theorem setL_mid (a b : List L) (p : Int) (c d : List R) (r r' : R) : setL (a ++ ⟨p, c ++ r :: d⟩ :: b) a.length c.length r' = a ++ ⟨p, c ++ r' :: d⟩ :: b := by
  unfold setL
  rw [get_mid, set_mid, set_mid]
theorem dropL_mid (a b : List L) (p : Int) (c d : List R) (r : R) : dropL (a ++ ⟨p, c ++ r :: d⟩ :: b) a.length c.length = if c.length + d.length = 0 then a ++ b else a ++ ⟨p, c ++ d⟩ :: b := by
  unfold dropL
  rw [get_mid, erase_mid, set_mid, erase_mid]
  simp only [List.length_append, List.length_cons]
  by_cases h : c.length + d.length = 0
  · rw [if_pos h, if_pos (by omega)]
  · rw [if_neg h, if_neg (by omega)]
theorem setL_len (ls : List L) (i k : Nat) (r : R) : (setL ls i k r).length = ls.length := by unfold setL; rw [List.length_set]
theorem setL_at {ls : List L} {i k : Nat} {r : R} (hi : i < ls.length) (h2 : i < (setL ls i k r).length) : (setL ls i k r)[i] = ⟨ls[i].price, ls[i].rests.set k r⟩ := by
  simp [setL, hi]
theorem rowP_same (i : Int) (c d : List R) {r r' : R} (h : r'.id = r.id) : ∀ j : Int, rowP i j (c ++ r' :: d) = rowP i j (c ++ r :: d) := by
  induction c with
  | nil => intro j; show (r'.id, i, j) :: _ = (r.id, i, j) :: _; rw [h]
  | cons x t ih => intro j; show _ :: rowP i (j + 1) (t ++ r' :: d) = _ :: rowP i (j + 1) (t ++ r :: d); rw [ih]
theorem flatP_same (a b : List L) (p : Int) (c d : List R) {r r' : R} (h : r'.id = r.id) : ∀ j : Int, flatP j (a ++ ⟨p, c ++ r' :: d⟩ :: b) = flatP j (a ++ ⟨p, c ++ r :: d⟩ :: b) := by
  induction a with
  | nil => intro j; show rowP j 0 (c ++ r' :: d) ++ _ = rowP j 0 (c ++ r :: d) ++ _; rw [rowP_same _ _ _ h]
  | cons x t ih => intro j; show rowP j 0 x.rests ++ flatP (j + 1) (t ++ _) = rowP j 0 x.rests ++ flatP (j + 1) (t ++ _); rw [ih]
theorem sgo_mid {s : Int} (p : Int) {zs zs' : List R} (hz : lchk ⟨p, zs'⟩ = 0) (a b : List L) : ∀ prev, sgo s prev (a ++ ⟨p, zs⟩ :: b) = 0 → sgo s prev (a ++ ⟨p, zs'⟩ :: b) = 0 := by
  induction a with
  | nil =>
    intro prev h
    obtain ⟨-, h2, h3⟩ := sgo_cons h
    exact sgo_mk hz h2 h3
  | cons x t ih =>
    intro prev h
    obtain ⟨h1, h2, h3⟩ := sgo_cons h
    exact sgo_mk h1 h2 (ih _ h3)
theorem allR_mid (a b : List L) (p : Int) (zs : List R) : allR (a ++ ⟨p, zs⟩ :: b) = allR a ++ (zs ++ allR b) := by rw [allR_append, allR_cons]
theorem schk_set {s : Int} {ls : List L} {i k : Nat} {r' : R} (h : schk s ls = 0) (hi : i < ls.length) (hk : k < ls[i].rests.length) (hid : r'.id = ls[i].rests[k].id) (hr : rchk r' = 0) :
    schk s (setL ls i k r') = 0 ∧ flatP 0 (setL ls i k r') = flatP 0 ls ∧ cnt (setL ls i k r') = cnt ls ∧ (allR (setL ls i k r')).map (·.id) = (allR ls).map (·.id) := by
  obtain ⟨z1, z2, z3, z4⟩ := schk_zero h
  have hl : lchk ls[i] = 0 := sgo_each z2 _ (List.getElem_mem hi)
  obtain ⟨a, b, c, d, e1, e2, e3, e4⟩ := cut_level hi hk
  obtain ⟨l1, l2, l3⟩ := lchk_zero hl
  obtain ⟨q1, q2⟩ := (qchk_zero _).1 l3
  generalize ls[i].rests[k] = r at *
  generalize ls[i].price = p at *
  rw [e3] at q1 q2
  subst e1
  subst e2
  subst e4
  have hf := flatP_same a b p c d hid 0
  have hq : qchk (c ++ r' :: d) = 0 := (qchk_zero _).2 ⟨by simpa using q1, fun x hx => by
      rcases List.mem_append.1 hx with hx | hx
      · exact q2.1 x (by simp [hx])
      · rcases List.mem_cons.1 hx with rfl | hx
        · exact hr
        · exact q2.1 x (by simp [hx]), by have := q2.2; simpa [hid] using this⟩
  have hpB : tickP.priceB p = true := by simp [tickP.priceB, l1.1, l1.2]
  have hc : cnt (a ++ ⟨p, c ++ r' :: d⟩ :: b) = cnt (a ++ ⟨p, c ++ r :: d⟩ :: b) := by rw [← flatP_len 0, ← flatP_len 0, hf]
  rw [setL_mid]
  refine ⟨schk_ok z1 (sgo_mid p (lchk_of hpB (by simp) hq) a b none z2) (by rw [hc]; omega) (by unfold ids at z4 ⊢; rw [hf]; exact z4), hf, hc, ?_⟩
  rw [allR_mid, allR_mid]
  simp [hid]
theorem best_set {ls : List L} {i k : Nat} {r' : R} (hi : i < ls.length) : bestI (setL ls i k r') = bestI ls := by
  unfold setL
  cases ls with
  | nil => simp at hi
  | cons x t =>
    cases i with
    | zero => rfl
    | succ i => rfl
theorem twice_ids {a b : List R} (h : a.map (·.id) = b.map (·.id)) : twiceB a = twiceB b := by
  unfold twiceB
  rw [h]
theorem empty_set {ls : List L} {i k : Nat} {r' : R} : (setL ls i k r').isEmpty = ls.isEmpty := by
  have := setL_len ls i k r'
  cases ls with
  | nil => rfl
  | cons x t =>
    cases h : setL (x :: t) i k r' with
    | nil => rw [h] at this; simp at this
    | cons y u => rfl
/-- A book is right where its ids, its prices and each side are as they were. -/
theorem book_like {bs ss bs' ss' : List L} (h : bookE bs ss = 0) (k1 : schk 1 bs' = 0) (k2 : schk 2 ss' = 0) (b1 : bestI bs' = bestI bs) (b2 : bestI ss' = bestI ss) (m1 : bs'.isEmpty = bs.isEmpty) (m2 : ss'.isEmpty = ss.isEmpty) (i1 : (allR bs').map (·.id) = (allR bs).map (·.id)) (i2 : (allR ss').map (·.id) = (allR ss).map (·.id)) : bookE bs' ss' = 0 := by
  obtain ⟨-, -, z3, z4, z5⟩ := book_zero h
  have n1 : (allR bs').length = (allR bs).length := by have := congrArg List.length i1; simpa using this
  have n2 : (allR ss').length = (allR ss).length := by have := congrArg List.length i2; simpa using this
  have c : crossB bs' ss' = crossB bs ss := by unfold crossB; rw [b1, b2, m1, m2]
  have t : twiceB (allR bs' ++ allR ss') = twiceB (allR bs ++ allR ss) := twice_ids (by rw [List.map_append, List.map_append, i1, i2])
  unfold bookE
  rw [if_pos k1, if_pos k2, c, z3, t, z4, if_neg (by simp), if_neg (by simp), if_neg (by rw [List.length_append] at z5 ⊢; omega)]
theorem find_like {s : Int} {ls ls' : List L} {id : Int} (h : schk s ls = 0) (h' : schk s ls' = 0) (hf : flatP 0 ls' = flatP 0 ls) : findE s ls' id = findE s ls id ∧ findP s ls' id = findP s ls id := by
  have e : findE s ls' id = findE s ls id := by unfold findE; rw [if_pos h, if_pos h', hf]
  exact ⟨e, by unfold findP; rw [e, hf]⟩
theorem Spot.keep {bs ss : List L} {id s : Int} {ls : List L} {i k : Nat} {r' : R} (h : Spot bs ss id s ls i k) (hid : r'.id = id) (hr : rchk r' = 0) : Spot (kB s bs i k r') (kS s ss i k r') id s (setL ls i k r') i k := by
  have hi := h.hi
  have hk := h.hk
  obtain ⟨g1, g2, g3, g4⟩ := schk_set h.sides hi hk (hid.trans h.hr.symm) hr
  obtain ⟨e1, e2, -⟩ := book_zero h.h0
  have hl : i < (setL ls i k r').length := by rw [setL_len]; exact hi
  have ha := setL_at (k := k) (r := r') hi hl
  have hk2 : k < ((setL ls i k r')[i]).rests.length := by rw [ha]; simpa using hk
  have hrr : ((setL ls i k r')[i]).rests[k].id = id := by
    have : ((setL ls i k r')[i]).rests[k] = r' := by
      simp only [ha, List.getElem_set_self]
    rw [this, hid]
  rcases h.side with ⟨rfl, rfl, f1, f2⟩ | ⟨rfl, rfl, f0, f1, f2⟩
  · obtain ⟨w1, w2⟩ := find_like (id := id) e1 g1 g2
    refine ⟨?_, hl, hk2, hrr, .inl ⟨rfl, ?_, ?_, ?_⟩⟩
    · unfold kB kS; rw [if_pos rfl, if_pos rfl]
      exact book_like h.h0 g1 e2 (best_set hi) rfl empty_set rfl g4 rfl
    · unfold kB; rw [if_pos rfl]
    · unfold kB; rw [if_pos rfl, w1]; exact f1
    · unfold kB; rw [if_pos rfl, w2]; exact f2
  · obtain ⟨w1, w2⟩ := find_like (id := id) e2 g1 g2
    refine ⟨?_, hl, hk2, hrr, .inr ⟨rfl, ?_, ?_, ?_, ?_⟩⟩
    · unfold kB kS; rw [if_neg (by decide), if_neg (by decide)]
      exact book_like h.h0 e1 g1 rfl (best_set hi) rfl empty_set rfl g4
    · unfold kS; rw [if_neg (by decide)]
    · unfold kB; rw [if_neg (by decide)]; exact f0
    · unfold kS; rw [if_neg (by decide), w1]; exact f1
    · unfold kS; rw [if_neg (by decide), w2]; exact f2
theorem drop_set {ls : List L} {i k : Nat} {r' : R} (hi : i < ls.length) (hk : k < ls[i].rests.length) : dropL (setL ls i k r') i k = dropL ls i k := by
  obtain ⟨a, b, c, d, e1, e2, e3, e4⟩ := cut_level hi hk
  generalize ls[i].rests[k] = r at *
  generalize ls[i].price = p at *
  subst e1
  subst e2
  subst e4
  rw [setL_mid, dropL_mid, dropL_mid]
theorem Spot.drop {bs ss : List L} {id s : Int} {ls : List L} {i k : Nat} {r' : R} (h : Spot bs ss id s ls i k) : cB s (kB s bs i k r') i k = cB s bs i k ∧ cS s (kS s ss i k r') i k = cS s ss i k := by
  have hi := h.hi
  have hk := h.hk
  unfold cB cS kB kS
  rcases h.side with ⟨rfl, rfl, -⟩ | ⟨rfl, rfl, -⟩
  · rw [if_pos rfl, if_pos rfl, if_pos rfl, if_pos rfl, if_pos rfl, if_pos rfl]; exact ⟨drop_set hi hk, rfl⟩
  · rw [if_neg (by decide), if_neg (by decide), if_neg (by decide), if_neg (by decide), if_neg (by decide), if_neg (by decide)]; exact ⟨rfl, drop_set hi hk⟩
/-- A rest that wants no more than so much. -/
def lessR (r : R) (q : Int) : R := ⟨r.id, r.who, min r.qty q, q - min r.qty q, r.shw⟩
theorem rchk_less {r : R} {q : Int} (h : rchk r = 0) (h1 : 1 ≤ q) (h2 : q ≤ r.qty + r.hid) : rchk (lessR r q) = 0 := by
  obtain ⟨a, b, c, d, e, f, g⟩ := rchk_zero h
  refine rchk_of ⟨?_, ?_, c, ?_, ?_, f, g⟩
  · show 1 ≤ min r.qty q ∧ min r.qty q ≤ 10000; omega
  · show 0 ≤ q - min r.qty q ∧ q - min r.qty q ≤ 10000; omega
  · intro h0; have h3 := d h0; show q - min r.qty q = 0; omega
  · intro h0; have h3 := e h0; show min r.qty q ≤ r.shw; omega
/-- How many stand ahead of an id at a price; -1: it is not there. -/
def placeV (p id : Int) : List L → Int
  | [] => -1
  | l :: t => if l.price = p then idx id l.rests else placeV p id t
theorem idx_same (id : Int) {zs zs' : List R} (h : zs'.map (·.id) = zs.map (·.id)) : idx id zs' = idx id zs := by
  induction zs generalizing zs' with
  | nil => have : zs' = [] := by simpa using h
           rw [this]
  | cons r t ih =>
    cases zs' with
    | nil => simp at h
    | cons r' t' =>
      simp only [List.map_cons, List.cons.injEq] at h
      rw [idx_cons, idx_cons, h.1, ih h.2]
theorem place_mid (p id : Int) (a b : List L) {p0 : Int} {zs zs' : List R} (h : zs'.map (·.id) = zs.map (·.id)) : placeV p id (a ++ ⟨p0, zs'⟩ :: b) = placeV p id (a ++ ⟨p0, zs⟩ :: b) := by
  induction a with
  | nil =>
    show (if p0 = p then idx id zs' else _) = (if p0 = p then idx id zs else _)
    rw [idx_same id h]
  | cons x t ih =>
    show (if x.price = p then _ else placeV p id (t ++ _)) = (if x.price = p then _ else placeV p id (t ++ _))
    rw [ih]
theorem place_set {ls : List L} {i k : Nat} {r' : R} (p id : Int) (hi : i < ls.length) (hk : k < ls[i].rests.length) (hid : r'.id = ls[i].rests[k].id) : placeV p id (setL ls i k r') = placeV p id ls := by
  obtain ⟨a, b, c, d, e1, e2, e3, e4⟩ := cut_level hi hk
  generalize ls[i].rests[k] = r at *
  generalize ls[i].price = p0 at *
  subst e1
  subst e2
  subst e4
  rw [setL_mid]
  exact place_mid p id a b (by simp [hid])
end Go.Proofs.Ytjphhieloicdeaa.swp
