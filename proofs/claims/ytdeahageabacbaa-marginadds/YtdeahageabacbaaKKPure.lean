/- Plain facts: what an Add that went well gives. Plain facts on a book behind a Put that went well. No walk. Trades of the call's own, place by place. Plain facts, and what Find finds, for the law KindsKeep. -/
import Derived.Test.YtdeahageabacbaaSidAdd
import Derived.Test.YtdeahageabacbaaSidFind2
import Derived.Test.YtdeahageabacbaaSidDL
import Derived.Test.YtdeahageabacbaaBokPut2
import Derived.Test.YtdeahageabacbaaBokFind
import Derived.Test.YtdeahageabacbaaMeeLvl
import Derived.Test.YtdeahageabacbaaKinDo
import Derived.Test.YtdeahageabacbaaBokFind2
namespace Go.Proofs.Ytdeahageabacbaa.sid
open Go.RowKit Go.Proofs.Ytdeahageabacbaa.spn Go.Proofs.Ytdeahageabacbaa.que Go.Maps
open Go.Proofs.Ytdeahageabacbaa.tickP (priceB sideB)

theorem add_zero {s : Int} {ls : List L} {p : Int} {r : R} (h : addE s ls p r = 0) : schk s ls = 0 ∧ priceB p = true ∧ rchk r = 0 ∧ r.id ∉ ids ls ∧ cnt ls ≠ 60 := by
  unfold addE at h
  by_cases h0 : schk s ls = 0
  · rw [if_pos h0] at h
    by_cases h1 : priceB p = true
    · rw [if_pos h1] at h
      by_cases h2 : rchk r = 0
      · rw [if_pos h2] at h
        by_cases h3 : r.id ∈ ids ls
        · rw [if_pos h3] at h; cases h
        · rw [if_neg h3] at h
          by_cases h4 : cnt ls = 60
          · rw [if_pos h4] at h; cases h
          · exact ⟨h0, h1, h2, h3, h4⟩
      · rw [if_neg h2] at h; exact absurd h h2
    · rw [if_neg h1] at h; cases h
  · rw [if_neg h0] at h; exact absurd h h0
/-- What an Add that went well gives. -/
theorem add_facts {s : Int} {ls : List L} {p : Int} {r : R} (h : addE s ls p r = 0) : schk s (putL s p r ls) = 0 ∧ ∃ i k : Nat, i < (putL s p r ls).length ∧ (putL s p r ls)[i]!.price = p ∧ k + 1 = (putL s p r ls)[i]!.rests.length ∧ (putL s p r ls)[i]!.rests[k]! = r ∧
    findE s (putL s p r ls) r.id = 0 ∧ findP s (putL s p r ls) r.id = ((i : Int), (k : Int)) ∧ dropL (putL s p r ls) i k = ls := by
  obtain ⟨h0, h1, h2, h3, h4⟩ := add_zero h
  obtain ⟨z1, z2, z3, z4⟩ := schk_zero h0
  have hs := schk_put h0 h1 h2 h3 (by omega)
  obtain ⟨y1, y2, y3, y4⟩ := schk_zero hs
  obtain ⟨i, k, hi, hk, e1, e2, e3, e4⟩ := drop_put (s := s) (p := p) (r := r) (ls := ls) (sgo_each z2)
  have hl := last_at y4 hi hk
  rw [e2] at hl
  have hf : findE s (putL s p r ls) r.id = 0 := by unfold findE; rw [if_pos hs, hl]; rfl
  refine ⟨hs, i, k, hi, by rw [getE _ _ hi]; exact e1, by rw [getE _ _ hi]; exact e3, by rw [getE _ _ hi, getE _ _ hk]; exact e2, hf, ?_, e4⟩
  unfold findP; rw [if_pos hf, hl]; rfl
end Go.Proofs.Ytdeahageabacbaa.sid
namespace Go.Proofs.Ytdeahageabacbaa.bok
open Go.RowKit Go.Proofs.Ytdeahageabacbaa.spn Go.Proofs.Ytdeahageabacbaa.que Go.Proofs.Ytdeahageabacbaa.sid
open Go.Proofs.Ytdeahageabacbaa.tickP (priceB sideB)

theorem put_zero {bs ss : List L} {s p : Int} {r : R} (h : putE bs ss s p r = 0) : bookE bs ss = 0 ∧ addE s (if s = 1 then bs else ss) p r = 0 ∧ bookE (put1 bs s p r) (put2 ss s p r) = 0 := by
  unfold putE at h
  by_cases h0 : bookE bs ss = 0
  · rw [if_pos h0] at h
    by_cases h1 : addE s (if s = 1 then bs else ss) p r = 0
    · rw [if_pos h1] at h; exact ⟨h0, h1, h⟩
    · rw [if_neg h1] at h; exact absurd h h1
  · rw [if_neg h0] at h; exact absurd h h0
theorem put_side {bs ss : List L} {s p : Int} {r : R} (h : putE bs ss s p r = 0) : s = 1 ∨ s = 2 := by
  have := (schk_zero (add_zero (put_zero h).2.1).1).1
  simpa [sideB] using this
theorem top_apart {bs ss : List L} (h : bookE bs ss = 0) : bestI bs = 0 ∨ bestI ss = 0 ∨ bestI bs < bestI ss := by
  obtain ⟨-, -, hx, -, -⟩ := book_zero h
  cases bs with
  | nil => exact .inl rfl
  | cons x t =>
    cases ss with
    | nil => exact .inr (.inl rfl)
    | cons y u =>
      right; right
      unfold crossB at hx
      simp at hx
      omega
/-- What is known of a book behind a Put that went well, on the side at which it came. -/
structure Held (S : Int) (X bs : List L) (p : Int) (r : R) (i k : Nat) : Prop where
  hi : i < X.length
  hk : k < X[i].rests.length
  price : X[i].price = p
  rest : X[i].rests[k] = r
  fe : findE S X r.id = 0
  fp : findP S X r.id = ((i : Int), (k : Int))
  drop : dropL X i k = bs
theorem held_of {s p : Int} {r : R} {ls : List L} (h : addE s ls p r = 0) : ∃ i k, Held s (putL s p r ls) ls p r i k := by
  obtain ⟨hs, i, k, hi, e1, e2, e3, e4, e5, e6⟩ := add_facts h
  have hk : k < (putL s p r ls)[i].rests.length := by rw [getE _ _ hi] at e2; omega
  refine ⟨i, k, hi, hk, by rw [getE _ _ hi] at e1; exact e1, ?_, e4, e5, e6⟩
  rw [getE _ _ hi, getE _ _ hk] at e3
  exact e3
theorem count_put (s p : Int) (r : R) (a ls : List L) : (allR a ++ allR (putL s p r ls)).length = (allR a ++ allR ls).length + 1 ∧ (allR (putL s p r ls) ++ allR a).length = (allR ls ++ allR a).length + 1 := by
  have := (put_perm s p r ls).length_eq
  simp only [List.length_append, this, List.length_cons]
  omega
/-- An id that is among the Sells is not among the Buys. -/
theorem not_buy {bs ss : List L} (h : bookE bs ss = 0) {i k : Nat} (hi : i < ss.length) (hk : k < ss[i].rests.length) : findE 1 bs ss[i].rests[k].id = 5 := by
  obtain ⟨h1, -, -, ht, -⟩ := book_zero h
  unfold twiceB at ht
  simp only [decide_eq_false_iff_not, Classical.not_not] at ht
  rw [List.map_append, List.nodup_append] at ht
  have hm : ss[i].rests[k] ∈ allR ss := List.mem_flatMap.2 ⟨ss[i], List.getElem_mem hi, List.getElem_mem hk⟩
  have hn : ss[i].rests[k].id ∉ ids bs := fun e => by
    rw [ids_allR] at e
    exact ht.2.2 _ e _ (List.mem_map.2 ⟨_, hm, rfl⟩) rfl
  have : lastAt (flatP 0 bs) ss[i].rests[k].id = none := by
    cases hl : lastAt (flatP 0 bs) ss[i].rests[k].id with
    | none => rfl
    | some t => exact absurd (id_ids.2 (by rw [hl]; simp)) hn
  unfold findE
  rw [if_pos h1, this]
  rfl
end Go.Proofs.Ytdeahageabacbaa.bok
namespace Go.Proofs.Ytdeahageabacbaa.mee
open Go.RowKit Go.Proofs.Ytdeahageabacbaa.spn Go.Proofs.Ytdeahageabacbaa.que Go.Proofs.Ytdeahageabacbaa.sid

theorem flatT_get (ts : List T) : ∀ j, j < ts.length → ∀ i, i < 6 → (flatT ts)[j * 6 + i]? = (tV ts[j]!)[i]? := by
  induction ts with
  | nil => intro j hj; simp at hj
  | cons r t ih =>
    intro j hj i hi
    have e : flatT (r :: t) = tV r ++ flatT t := rfl
    rw [e]
    cases j with
    | zero => rw [Nat.zero_mul, Nat.zero_add, List.getElem?_append_left (by show i < 6; exact hi)]; rfl
    | succ j =>
      rw [List.getElem?_append_right (by show 6 ≤ _; omega)]
      have : (j + 1) * 6 + i - (tV r).length = j * 6 + i := by show (j + 1) * 6 + i - 6 = _; omega
      rw [this, ih j (by simpa using hj) i hi]
      rfl
/-- Trades of the call's own, place by place. -/
theorem OwnT.at {w : World} {base : Nat} {q : Option Addr} {n c : Nat} {ts : List T} (h : OwnT w base (.slice q n c) ts) {k : Nat} (hk : k < ts.length) : ∃ g off, q = some ⟨g, off, none⟩ ∧ g < w.heap.size ∧ w.cell? ⟨g, off + k * 6, none⟩ = some (.int .i64 ts[k]!.maker) ∧ w.cell? ⟨g, off + k * 6 + 1, none⟩ = some (.int .i64 ts[k]!.taker) ∧ w.cell? ⟨g, off + k * 6 + 2, none⟩ = some (.int .i64 ts[k]!.frm) ∧ w.cell? ⟨g, off + k * 6 + 3, none⟩ = some (.int .i64 ts[k]!.into) ∧ w.cell? ⟨g, off + k * 6 + 4, none⟩ = some (.int .i64 ts[k]!.price) ∧ w.cell? ⟨g, off + k * 6 + 5, none⟩ = some (.int .i64 ts[k]!.qty) := by
  have hn : n = ts.length := by obtain ⟨q', c', e⟩ := OwnM.form h; cases e; rfl
  subst hn
  cases q with
  | none =>
    rcases h.2 with ⟨e, hn⟩ | ⟨g, off, cap, cur, e, _⟩
    · rw [hn] at hk; exact absurd hk (Nat.not_lt_zero _)
    · cases e
  | some a =>
    rcases h.2 with ⟨e, hn⟩ | ⟨g, off, cap, cur, e, _⟩
    · cases e
    · cases e
      obtain ⟨hc, -, -, hlt⟩ := OwnM.cells h
      have hh : ∀ i u, i < 6 → (tV ts[k]!)[i]? = some u → w.cell? ⟨g, off + (k * 6 + i), none⟩ = some u := fun i u hi hu => hc (k * 6 + i) u (by rw [flatT_get ts k hk i hi]; exact hu)
      exact ⟨g, off, rfl, hlt, hh 0 _ (by omega) rfl, hh 1 _ (by omega) rfl, hh 2 _ (by omega) rfl, hh 3 _ (by omega) rfl, hh 4 _ (by omega) rfl, hh 5 _ (by omega) rfl⟩

end Go.Proofs.Ytdeahageabacbaa.mee
namespace Go.Proofs.Ytdeahageabacbaa.kin
open Go.RowKit Go.Proofs.Ytdeahageabacbaa.spn Go.Proofs.Ytdeahageabacbaa.que Go.Proofs.Ytdeahageabacbaa.sid Go.Proofs.Ytdeahageabacbaa.bok Go.Proofs.Ytdeahageabacbaa.mee
open Go.Proofs.Ytdeahageabacbaa.ord (O oV mB mE chk meets_any)
open Go.Proofs.Ytdeahageabacbaa.tickP (priceB sideB betOk betR)

theorem set_put {bs ss : List L} {o : O} {k : Int} (h : setE bs ss o k = 0) (hst : stayB o k = true) : restE o k = 0 ∧ putE bs ss o.side o.price (keptR o k) = 0 := by
  unfold setE at h
  rw [if_pos hst] at h
  by_cases hr : restE o k = 0
  · rw [if_pos hr] at h; exact ⟨hr, h⟩
  · rw [if_neg hr] at h; exact absurd h hr
theorem kdo_book {bs ss : List L} {o : O} (h : kdoE bs ss o = 0) : bookE (kdoB bs ss o) (kdoS bs ss o) = 0 := by
  obtain ⟨h1, h2, h3⟩ := kdo_zero h
  unfold kdoB kdoS setB setS
  by_cases hst : stayB o (metR bs ss o).2.2 = true
  · rw [if_pos hst, if_pos hst]
    exact (put_zero (set_put h3 hst).2).2.2
  · rw [if_neg hst, if_neg hst]
    exact met_book (doE_zero h1).1
/-- What is known of the answer. -/
structure KF (bs ss : List L) (o : O) : Prop where
  come : comeE bs ss o = 0
  ok : chk o = 0
  book : bookE (kdoB bs ss o) (kdoS bs ss o) = 0
  sum : sumT (metR bs ss o).2.1 + (metR bs ss o).2.2 = o.qty
  left0 : 0 ≤ (metR bs ss o).2.2
  sum0 : 0 ≤ sumT (metR bs ss o).2.1
  q1 : 1 ≤ o.qty
  q2 : o.qty ≤ 10000
  len : (metR bs ss o).2.1.length ≤ 400
  each : ∀ x ∈ (metR bs ss o).2.1, 1 ≤ x.qty ∧ x.qty ≤ o.qty
  whole : o.kind = 4 → (metR bs ss o).2.2 = 0
  post : o.kind = 5 → (metR bs ss o).2.2 = o.qty
theorem kdo_facts {bs ss : List L} {o : O} (h : kdoE bs ss o = 0) : KF bs ss o := by
  obtain ⟨h1, h2, h3⟩ := kdo_zero h
  obtain ⟨hC, h4⟩ := doE_zero h1
  obtain ⟨hbk, hck, -, -⟩ := come_zero hC
  obtain ⟨a1, a2, a3, a4⟩ := met_sum hC
  have hq := qty_of hck
  refine ⟨hC, hck, kdo_book h, a1, a2, a3, hq.1, hq.2, h4, fun x hx => ?_, fun hk => ?_, fun hk => ?_⟩
  · obtain ⟨-, b2, b3, -⟩ := tkl_each (o := o) (otherL bs ss o) o.qty (by omega) (other_good hbk) x hx
    exact ⟨b2, b3⟩
  · unfold refE at h2
    by_cases h0 : 0 < (metR bs ss o).2.2
    · rw [if_pos ⟨hk, h0⟩] at h2; omega
    · omega
  · unfold refE at h2
    rw [if_neg (by omega)] at h2
    by_cases h0 : (metR bs ss o).2.2 < o.qty
    · rw [if_pos ⟨hk, h0⟩] at h2; omega
    · omega
theorem stay_kind {o : O} {k : Int} (h : stayB o k = true) : ¬ k = 0 ∧ (o.kind = 1 ∨ o.kind = 5) := by
  unfold stayB mayK at h
  simp at h
  exact h
theorem stay_no {o : O} {k : Int} (h : stayB o k = false) : k = 0 ∨ (¬ o.kind = 1 ∧ ¬ o.kind = 5) := by
  unfold stayB mayK at h
  by_cases hk : k = 0
  · exact .inl hk
  · refine .inr ?_
    simp [hk] at h
    exact h
theorem kdo_stay {bs ss : List L} {o : O} (hst : stayB o (metR bs ss o).2.2 = true) : kdoB bs ss o = put1 (metB bs ss o) o.side o.price (keptR o (metR bs ss o).2.2) ∧ kdoS bs ss o = put2 (metS bs ss o) o.side o.price (keptR o (metR bs ss o).2.2) := by
  unfold kdoB kdoS setB setS
  rw [if_pos hst, if_pos hst]
  exact ⟨rfl, rfl⟩
theorem kfind_in (q1 q2 : Option Addr) (n1 n2 c1 c2 : Nat) (bs ss : List L) (o : O) (w : World) (h : kdoE bs ss o = 0) (hst : stayB o (metR bs ss o).2.2 = true) (h1 : LS w (.slice q1 n1 c1) (kdoB bs ss o)) (h2 : LS w (.slice q2 n2 c2) (kdoS bs ss o)) :
    Calls Try.prog 8 #[.agg #[.slice q1 n1 c1, .slice q2 n2 c2], .int .i64 o.id] w fun e w' => e = .returned (.tuple #[.int .i64 o.side, .int .i64 o.price, rB (keptR o (metR bs ss o).2.2), .nilIface]) ∧ Below w.heap.size w w' := by
  obtain ⟨k1, k2, k3⟩ := kdo_zero h
  obtain ⟨hr, hp⟩ := set_put k3 hst
  have hK := kdo_facts h
  have hB := hK.book
  have hid := id_wf' hK.ok
  obtain ⟨p1, p2, p3⟩ := put_zero hp
  have hside := put_side hp
  obtain ⟨eB, eS⟩ := kdo_stay hst
  rw [eB] at h1 hB
  rw [eS] at h2 hB
  have hI : (keptR o (metR bs ss o).2.2).id = o.id := rfl
  generalize keptR o (metR bs ss o).2.2 = r at *
  rcases hside with hs | hs
  · have f1 : put1 (metB bs ss o) o.side o.price r = putL o.side o.price r (metB bs ss o) := by unfold put1; rw [if_pos hs]
    have f2 : put2 (metS bs ss o) o.side o.price r = metS bs ss o := by unfold put2; rw [if_pos hs]
    rw [f1] at h1 hB
    rw [f2] at h2 hB
    rw [if_pos hs] at p2
    obtain ⟨i, k, H⟩ := held_of p2
    have e1 := H.fe
    have e2 := H.fp
    rw [hI] at e1 e2
    have hv : findV 1 (putL o.side o.price r (metB bs ss o)) o.id = .tuple #[.int .i64 i, .int .i64 k, .nilIface] := by
      rw [hs] at e1 e2 ⊢
      unfold findV
      rw [e2, e1]
      rfl
    refine (find_in1 q1 q2 n1 n2 c1 c2 _ _ o.id hid i k w h1 h2 hB H.hi H.hk hv).mono ?_
    rintro e w' ⟨rfl, b⟩
    rw [H.price, H.rest, hs]
    exact ⟨rfl, b⟩
  · have f1 : put1 (metB bs ss o) o.side o.price r = metB bs ss o := by unfold put1; rw [if_neg (by omega)]
    have f2 : put2 (metS bs ss o) o.side o.price r = putL o.side o.price r (metS bs ss o) := by unfold put2; rw [if_neg (by omega)]
    rw [f1] at h1 hB
    rw [f2] at h2 hB
    rw [if_neg (by omega)] at p2
    obtain ⟨i, k, H⟩ := held_of p2
    have e1 := H.fe
    have e2 := H.fp
    rw [hI] at e1 e2
    have hv : findV 2 (putL o.side o.price r (metS bs ss o)) o.id = .tuple #[.int .i64 i, .int .i64 k, .nilIface] := by
      rw [hs] at e1 e2 ⊢
      unfold findV
      rw [e2, e1]
      rfl
    have hno := not_buy hB H.hi H.hk
    rw [H.rest, hI] at hno
    refine (find_in2 q1 q2 n1 n2 c1 c2 _ _ o.id hid i k w h1 h2 hB hno H.hi H.hk hv).mono ?_
    rintro e w' ⟨rfl, b⟩
    rw [H.price, H.rest, hs]
    exact ⟨rfl, b⟩
theorem kfind_out (q1 q2 : Option Addr) (n1 n2 c1 c2 : Nat) (bs ss : List L) (o : O) (w : World) (h : kdoE bs ss o = 0) (hst : stayB o (metR bs ss o).2.2 = false) (h1 : LS w (.slice q1 n1 c1) (kdoB bs ss o)) (h2 : LS w (.slice q2 n2 c2) (kdoS bs ss o)) :
    Calls Try.prog 8 #[.agg #[.slice q1 n1 c1, .slice q2 n2 c2], .int .i64 o.id] w fun e w' => e = .returned (.tuple #[.int .i64 0, .int .i64 0, .agg #[.int .i64 0, .int .i64 0, .int .i64 0, .int .i64 0, .int .i64 0], .iface 63 (.int .i64 5)]) ∧ Below w.heap.size w w' := by
  have hK := kdo_facts h
  have hid := id_wf' hK.ok
  have hn : ¬ stayB o (metR bs ss o).2.2 = true := by rw [hst]; decide
  unfold kdoB setB at h1
  unfold kdoS setS at h2
  rw [if_neg hn] at h1 h2
  obtain ⟨hb, -, -, hin⟩ := come_zero (met_come hK.come)
  obtain ⟨e1, e2, -⟩ := book_zero hb
  unfold inBook at hin
  simp only [decide_eq_false_iff_not] at hin
  exact find_no q1 q2 n1 n2 c1 c2 _ _ o.id hid w h1 h2 hb (findE_out e1 (fun h => hin (.inl h))) (findE_out e2 (fun h => hin (.inr h)))
/-- The fact. -/
def factK : O := ⟨2, 2, 1, 1, 101, 7, 3, 0⟩
theorem factK_zero : kdoE [] [] factK = 0 := by decide
theorem factK_book : kdoB [] [] factK = [⟨101, [⟨2, 2, 3, 4, 3⟩]⟩] := by rfl
theorem factK_gone : kdoG [] [] factK = 0 := by decide
theorem ls_one {w : World} {q : Option Addr} {n c : Nat} {p r1 r2 r3 r4 r5 : Int} (h : LS w (.slice q n c) [⟨p, [⟨r1, r2, r3, r4, r5⟩]⟩]) : n = 1 ∧ ∃ g off g2 off2 c2, q = some ⟨g, off, none⟩ ∧ w.cell? ⟨g, off + 1, none⟩ = some (.slice (some ⟨g2, off2, none⟩) 1 c2) ∧ w.cell? ⟨g2, off2 + 3, none⟩ = some (.int .i64 r4) := by
  refine ⟨ls_len h, ?_⟩
  rcases h with ⟨-, e2⟩ | ⟨b, o, c', e, -, -, hb, hl⟩
  · cases e2
  · cases e
    obtain ⟨rq, rc, c0, c1, hsl⟩ := LL.at hl (k := 0) (by simp) rfl
    have hs := hsl.sl (by simp)
    rcases hs with ⟨-, e2⟩ | ⟨b2, o2, c2, e3, -, -, -, h5⟩
    · cases e2
    · have e4 := h5 0 (by simp) 3 (.int .i64 r4) rfl
      simp only [Nat.zero_mul, Nat.add_zero] at c1 e4
      cases e3
      exact ⟨b, o, b2, o2, rc, rfl, c1, e4⟩
theorem factK_do (w : World) :
    Calls Try.prog 6 #[.agg #[.slice none 0 0, .slice none 0 0], .agg #[.int .i64 2, .int .i64 2, .int .i64 1, .int .i64 1, .int .i64 101, .int .i64 7, .int .i64 3, .int .i64 0]] w fun e w' => ∃ k1 u2 m2 k2 tv g off g2 off2 c2, e = .returned (.tuple #[.agg #[.slice (some ⟨g, off, none⟩) 1 k1, .slice u2 m2 k2], tv, .int .i64 0, .nilIface]) ∧ w'.cell? ⟨g, off + 1, none⟩ = some (.slice (some ⟨g2, off2, none⟩) 1 c2) ∧ w'.cell? ⟨g2, off2 + 3, none⟩ = some (.int .i64 4) ∧ Below w.heap.size w w' := by
  refine (kdo_any none none 0 0 0 0 [] [] 2 2 1 1 101 7 3 0 w (ls_nil _) (ls_nil _)).mono ?_
  rintro e w' ⟨i1, -, i3⟩
  obtain ⟨u1, u2, m1, m2, k1, k2, tv, rfl, hD, -, -⟩ := i1 factK_zero
  have hL := hD.ls
  have eB : kdoB [] [] ⟨2, 2, 1, 1, 101, 7, 3, 0⟩ = [⟨101, [⟨2, 2, 3, 4, 3⟩]⟩] := factK_book
  rw [eB] at hL
  obtain ⟨rfl, g, off, g2, off2, c2, rfl, h1, h2⟩ := ls_one hL
  have eG : kdoG [] [] ⟨2, 2, 1, 1, 101, 7, 3, 0⟩ = 0 := factK_gone
  exact ⟨k1, u2, m2, k2, tv, g, off, g2, off2, c2, by rw [eG], h1, h2, i3⟩
end Go.Proofs.Ytdeahageabacbaa.kin
