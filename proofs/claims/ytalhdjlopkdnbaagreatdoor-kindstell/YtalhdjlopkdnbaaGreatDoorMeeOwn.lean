/- Plain facts: what an Add that went well gives. Plain facts on a book behind a Put that went well. No walk. Plain facts on who comes and who rests: the document goes fill by fill, the program level by level; both take the same. No walk. Trades of the call's own, place by place. -/
import Derived.Test.YtalhdjlopkdnbaaGreatDoorSidAdd
import Derived.Test.YtalhdjlopkdnbaaGreatDoorSidFind2
import Derived.Test.YtalhdjlopkdnbaaGreatDoorQueTake1
import Derived.Test.YtalhdjlopkdnbaaGreatDoorBokPut2
import Derived.Test.YtalhdjlopkdnbaaGreatDoorBokFind
import Derived.Test.YtalhdjlopkdnbaaGreatDoorSidMap
import Derived.Test.YtalhdjlopkdnbaaGreatDoorSidPut
import Derived.Test.YtalhdjlopkdnbaaGreatDoorMeeLvl
namespace Go.Proofs.YtalhdjlopkdnbaaGreatDoor.sid
open Go.RowKit Go.Proofs.YtalhdjlopkdnbaaGreatDoor.spn Go.Proofs.YtalhdjlopkdnbaaGreatDoor.que Go.Maps
open Go.Proofs.YtalhdjlopkdnbaaGreatDoor.tickP (priceB sideB)

theorem add_zero {s : Int} {ls : List L} {p : Int} {r : R} (h : addE s ls p r = 0) : schk s ls = 0 ∧ priceB p = true ∧ rchk r = 0 ∧ r.id ∉ ids ls ∧ cnt ls ≠ 60 := by
  unfold addE at h
  by_cases h0 : schk s ls = 0
  · rw [if_pos h0] at h
    by_cases h1 : priceB p = true
    · rw [if_pos h1] at h
      by_cases h2 : rchk r = 0
      · rw [if_pos h2] at h
        by_cases h3 : r.id ∈ ids ls
        · rw [if_pos h3] at h; cases h
        · rw [if_neg h3] at h
          by_cases h4 : cnt ls = 60
          · rw [if_pos h4] at h; cases h
          · exact ⟨h0, h1, h2, h3, h4⟩
      · rw [if_neg h2] at h; exact absurd h h2
    · rw [if_neg h1] at h; cases h
  · rw [if_neg h0] at h; exact absurd h h0
/-- What an Add that went well gives. -/
theorem add_facts {s : Int} {ls : List L} {p : Int} {r : R} (h : addE s ls p r = 0) : schk s (putL s p r ls) = 0 ∧ ∃ i k : Nat, i < (putL s p r ls).length ∧ (putL s p r ls)[i]!.price = p ∧ k + 1 = (putL s p r ls)[i]!.rests.length ∧ (putL s p r ls)[i]!.rests[k]! = r ∧
    findE s (putL s p r ls) r.id = 0 ∧ findP s (putL s p r ls) r.id = ((i : Int), (k : Int)) ∧ dropL (putL s p r ls) i k = ls := by
  obtain ⟨h0, h1, h2, h3, h4⟩ := add_zero h
  obtain ⟨z1, z2, z3, z4⟩ := schk_zero h0
  have hs := schk_put h0 h1 h2 h3 (by omega)
  obtain ⟨y1, y2, y3, y4⟩ := schk_zero hs
  obtain ⟨i, k, hi, hk, e1, e2, e3, e4⟩ := drop_put (s := s) (p := p) (r := r) (ls := ls) (sgo_each z2)
  have hl := last_at y4 hi hk
  rw [e2] at hl
  have hf : findE s (putL s p r ls) r.id = 0 := by unfold findE; rw [if_pos hs, hl]; rfl
  refine ⟨hs, i, k, hi, by rw [getE _ _ hi]; exact e1, by rw [getE _ _ hi]; exact e3, by rw [getE _ _ hi, getE _ _ hk]; exact e2, hf, ?_, e4⟩
  unfold findP; rw [if_pos hf, hl]; rfl
end Go.Proofs.YtalhdjlopkdnbaaGreatDoor.sid
namespace Go.Proofs.YtalhdjlopkdnbaaGreatDoor.bok
open Go.RowKit Go.Proofs.YtalhdjlopkdnbaaGreatDoor.spn Go.Proofs.YtalhdjlopkdnbaaGreatDoor.que Go.Proofs.YtalhdjlopkdnbaaGreatDoor.sid
open Go.Proofs.YtalhdjlopkdnbaaGreatDoor.tickP (priceB sideB)

theorem put_zero {bs ss : List L} {s p : Int} {r : R} (h : putE bs ss s p r = 0) : bookE bs ss = 0 ∧ addE s (if s = 1 then bs else ss) p r = 0 ∧ bookE (put1 bs s p r) (put2 ss s p r) = 0 := by
  unfold putE at h
  by_cases h0 : bookE bs ss = 0
  · rw [if_pos h0] at h
    by_cases h1 : addE s (if s = 1 then bs else ss) p r = 0
    · rw [if_pos h1] at h; exact ⟨h0, h1, h⟩
    · rw [if_neg h1] at h; exact absurd h h1
  · rw [if_neg h0] at h; exact absurd h h0
theorem put_side {bs ss : List L} {s p : Int} {r : R} (h : putE bs ss s p r = 0) : s = 1 ∨ s = 2 := by
  have := (schk_zero (add_zero (put_zero h).2.1).1).1
  simpa [sideB] using this
theorem top_apart {bs ss : List L} (h : bookE bs ss = 0) : bestI bs = 0 ∨ bestI ss = 0 ∨ bestI bs < bestI ss := by
  obtain ⟨-, -, hx, -, -⟩ := book_zero h
  cases bs with
  | nil => exact .inl rfl
  | cons x t =>
    cases ss with
    | nil => exact .inr (.inl rfl)
    | cons y u =>
      right; right
      unfold crossB at hx
      simp at hx
      omega
/-- What is known of a book behind a Put that went well, on the side at which it came. -/
structure Held (S : Int) (X bs : List L) (p : Int) (r : R) (i k : Nat) : Prop where
  hi : i < X.length
  hk : k < X[i].rests.length
  price : X[i].price = p
  rest : X[i].rests[k] = r
  fe : findE S X r.id = 0
  fp : findP S X r.id = ((i : Int), (k : Int))
  drop : dropL X i k = bs
theorem held_of {s p : Int} {r : R} {ls : List L} (h : addE s ls p r = 0) : ∃ i k, Held s (putL s p r ls) ls p r i k := by
  obtain ⟨hs, i, k, hi, e1, e2, e3, e4, e5, e6⟩ := add_facts h
  have hk : k < (putL s p r ls)[i].rests.length := by rw [getE _ _ hi] at e2; omega
  refine ⟨i, k, hi, hk, by rw [getE _ _ hi] at e1; exact e1, ?_, e4, e5, e6⟩
  rw [getE _ _ hi, getE _ _ hk] at e3
  exact e3
theorem count_put (s p : Int) (r : R) (a ls : List L) : (allR a ++ allR (putL s p r ls)).length = (allR a ++ allR ls).length + 1 ∧ (allR (putL s p r ls) ++ allR a).length = (allR ls ++ allR a).length + 1 := by
  have := (put_perm s p r ls).length_eq
  simp only [List.length_append, this, List.length_cons]
  omega
/-- An id that is among the Sells is not among the Buys. -/
theorem not_buy {bs ss : List L} (h : bookE bs ss = 0) {i k : Nat} (hi : i < ss.length) (hk : k < ss[i].rests.length) : findE 1 bs ss[i].rests[k].id = 5 := by
  obtain ⟨h1, -, -, ht, -⟩ := book_zero h
  unfold twiceB at ht
  simp only [decide_eq_false_iff_not, Classical.not_not] at ht
  rw [List.map_append, List.nodup_append] at ht
  have hm : ss[i].rests[k] ∈ allR ss := List.mem_flatMap.2 ⟨ss[i], List.getElem_mem hi, List.getElem_mem hk⟩
  have hn : ss[i].rests[k].id ∉ ids bs := fun e => by
    rw [ids_allR] at e
    exact ht.2.2 _ e _ (List.mem_map.2 ⟨_, hm, rfl⟩) rfl
  have : lastAt (flatP 0 bs) ss[i].rests[k].id = none := by
    cases hl : lastAt (flatP 0 bs) ss[i].rests[k].id with
    | none => rfl
    | some t => exact absurd (id_ids.2 (by rw [hl]; simp)) hn
  unfold findE
  rw [if_pos h1, this]
  rfl
end Go.Proofs.YtalhdjlopkdnbaaGreatDoor.bok
namespace Go.Proofs.YtalhdjlopkdnbaaGreatDoor.mee
open Go.RowKit Go.Proofs.YtalhdjlopkdnbaaGreatDoor.spn Go.Proofs.YtalhdjlopkdnbaaGreatDoor.que Go.Proofs.YtalhdjlopkdnbaaGreatDoor.sid
open Go.Proofs.YtalhdjlopkdnbaaGreatDoor.ord (O mB chk)

/-- The levels behind one fill of the first rest. -/
def stepL (p : Int) (z : List R) (t : List L) : List L := if z = [] then t else ⟨p, z⟩ :: t
theorem rest_pos {r : R} {rs : List R} (h : qchk (r :: rs) = 0) : 1 ≤ r.qty ∧ r.qty ≤ 10000 := by
  obtain ⟨-, hg⟩ := (qchk_zero _).1 h
  exact (rchk_zero (hg.1 r (by simp))).1
theorem step_queue {q : Int} {r : R} {rs : List R} (h : 0 < q) (hg : qchk (r :: rs) = 0) : qchk (tk1 (min q r.qty) r rs) = 0 ∧ tot (tk1 (min q r.qty) r rs) = tot (r :: rs) - min q r.qty := by
  have hp := rest_pos hg
  obtain ⟨h60, hgg⟩ := (qchk_zero _).1 hg
  obtain ⟨a, b, c⟩ := tk1_good hgg (show 1 ≤ min q r.qty by omega) (by omega)
  exact ⟨(qchk_zero _).2 ⟨by omega, a⟩, b⟩
theorem step_good {q p : Int} {r : R} {rs : List R} {t : List L} (h : 0 < q) (hl : ∀ l ∈ (⟨p, r :: rs⟩ :: t : List L), lchk l = 0) : ∀ l ∈ stepL p (tk1 (min q r.qty) r rs) t, lchk l = 0 := by
  have h1 : lchk ⟨p, r :: rs⟩ = 0 := hl _ (by simp)
  obtain ⟨hp, -, hq⟩ := lchk_zero h1
  have hz := (step_queue h hq).1
  intro l hm
  unfold stepL at hm
  by_cases e : tk1 (min q r.qty) r rs = []
  · rw [if_pos e] at hm; exact hl l (by simp [hm])
  · rw [if_neg e] at hm
    rcases List.mem_cons.1 hm with rfl | hm
    · exact lchk_of (by show (decide _ && decide _) = true; simp; exact hp) e hz
    · exact hl l (by simp [hm])
theorem tkl_fill {o : O} {p q : Int} {r : R} {rs : List R} {t : List L} (h : 0 < q) (hm : mB o p = true) (hg : qchk (r :: rs) = 0) :
    tkl o (⟨p, r :: rs⟩ :: t) q = ((tkl o (stepL p (tk1 (min q r.qty) r rs) t) (q - min q r.qty)).1, trd o p ⟨r.id, r.who, min q r.qty⟩ :: (tkl o (stepL p (tk1 (min q r.qty) r rs) t) (q - min q r.qty)).2.1, (tkl o (stepL p (tk1 (min q r.qty) r rs) t) (q - min q r.qty)).2.2) := by
  have hp := rest_pos hg
  have hgg := ((qchk_zero _).1 hg).2
  have hc := take_cons q r rs h hgg
  generalize hk : min q r.qty = k at *
  have hkp : 1 ≤ k ∧ k ≤ q := by omega
  generalize tk1 k r rs = z at *
  unfold stepL
  by_cases hz : z = []
  · subst hz
    rw [take_nil] at hc
    rw [if_pos rfl, tkl_gone h hm (by rw [hc])]
    simp only [hc]
    have e : q - sum [⟨r.id, r.who, k⟩] = q - k := by simp [sum]
    rw [e]
    rfl
  · rw [if_neg hz]
    by_cases h0 : q - k ≤ 0
    · rw [take_done _ _ h0] at hc
      rw [tkl_last h hm (by rw [hc]; exact hz), tkl_zero h0]
      simp only [hc]
      have e : q - sum [⟨r.id, r.who, k⟩] = q - k := by simp [sum]
      rw [e]
      rfl
    · have hs : ∀ S : List F, q - sum (⟨r.id, r.who, k⟩ :: S) = q - k - sum S := fun S => by simp only [sum]; omega
      by_cases he : (take (q - k) z).2 = []
      · rw [tkl_gone (l := ⟨p, z⟩) (by omega) hm he, tkl_gone h hm (by rw [hc]; exact he)]
        simp only [hc, hs]
        rfl
      · rw [tkl_last (l := ⟨p, z⟩) (by omega) hm he, tkl_last h hm (by rw [hc]; exact he)]
        simp only [hc, hs]
        rfl
end Go.Proofs.YtalhdjlopkdnbaaGreatDoor.mee
namespace Go.Proofs.YtalhdjlopkdnbaaGreatDoor.mee
open Go.RowKit Go.Proofs.YtalhdjlopkdnbaaGreatDoor.spn Go.Proofs.YtalhdjlopkdnbaaGreatDoor.que Go.Proofs.YtalhdjlopkdnbaaGreatDoor.sid

theorem flatT_get (ts : List T) : ∀ j, j < ts.length → ∀ i, i < 6 → (flatT ts)[j * 6 + i]? = (tV ts[j]!)[i]? := by
  induction ts with
  | nil => intro j hj; simp at hj
  | cons r t ih =>
    intro j hj i hi
    have e : flatT (r :: t) = tV r ++ flatT t := rfl
    rw [e]
    cases j with
    | zero => rw [Nat.zero_mul, Nat.zero_add, List.getElem?_append_left (by show i < 6; exact hi)]; rfl
    | succ j =>
      rw [List.getElem?_append_right (by show 6 ≤ _; omega)]
      have : (j + 1) * 6 + i - (tV r).length = j * 6 + i := by show (j + 1) * 6 + i - 6 = _; omega
      rw [this, ih j (by simpa using hj) i hi]
      rfl
/-- Trades of the call's own, place by place. -/
theorem OwnT.at {w : World} {base : Nat} {q : Option Addr} {n c : Nat} {ts : List T} (h : OwnT w base (.slice q n c) ts) {k : Nat} (hk : k < ts.length) : ∃ g off, q = some ⟨g, off, none⟩ ∧ g < w.heap.size ∧ w.cell? ⟨g, off + k * 6, none⟩ = some (.int .i64 ts[k]!.maker) ∧ w.cell? ⟨g, off + k * 6 + 1, none⟩ = some (.int .i64 ts[k]!.taker) ∧ w.cell? ⟨g, off + k * 6 + 2, none⟩ = some (.int .i64 ts[k]!.frm) ∧ w.cell? ⟨g, off + k * 6 + 3, none⟩ = some (.int .i64 ts[k]!.into) ∧ w.cell? ⟨g, off + k * 6 + 4, none⟩ = some (.int .i64 ts[k]!.price) ∧ w.cell? ⟨g, off + k * 6 + 5, none⟩ = some (.int .i64 ts[k]!.qty) := by
  have hn : n = ts.length := by obtain ⟨q', c', e⟩ := OwnM.form h; cases e; rfl
  subst hn
  cases q with
  | none =>
    rcases h.2 with ⟨e, hn⟩ | ⟨g, off, cap, cur, e, _⟩
    · rw [hn] at hk; exact absurd hk (Nat.not_lt_zero _)
    · cases e
  | some a =>
    rcases h.2 with ⟨e, hn⟩ | ⟨g, off, cap, cur, e, _⟩
    · cases e
    · cases e
      obtain ⟨hc, -, -, hlt⟩ := OwnM.cells h
      have hh : ∀ i u, i < 6 → (tV ts[k]!)[i]? = some u → w.cell? ⟨g, off + (k * 6 + i), none⟩ = some u := fun i u hi hu => hc (k * 6 + i) u (by rw [flatT_get ts k hk i hi]; exact hu)
      exact ⟨g, off, rfl, hlt, hh 0 _ (by omega) rfl, hh 1 _ (by omega) rfl, hh 2 _ (by omega) rfl, hh 3 _ (by omega) rfl, hh 4 _ (by omega) rfl, hh 5 _ (by omega) rfl⟩

end Go.Proofs.YtalhdjlopkdnbaaGreatDoor.mee
