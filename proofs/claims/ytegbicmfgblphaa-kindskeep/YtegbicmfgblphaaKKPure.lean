/- Plain facts, and what Find finds, for the law KindsKeep. -/
import Derived.Test.YtegbicmfgblphaaKinDo
import Derived.Test.YtegbicmfgblphaaMeeOwn
import Derived.Test.YtegbicmfgblphaaBokFind2
namespace Go.Proofs.Ytegbicmfgblphaa.kin
open Go.RowKit Go.Proofs.Ytegbicmfgblphaa.spn Go.Proofs.Ytegbicmfgblphaa.que Go.Proofs.Ytegbicmfgblphaa.sid Go.Proofs.Ytegbicmfgblphaa.bok Go.Proofs.Ytegbicmfgblphaa.mee
open Go.Proofs.Ytegbicmfgblphaa.ord (O oV mB mE chk meets_any)
open Go.Proofs.Ytegbicmfgblphaa.tickP (priceB sideB betOk betR)

theorem set_put {bs ss : List L} {o : O} {k : Int} (h : setE bs ss o k = 0) (hst : stayB o k = true) : restE o k = 0 ∧ putE bs ss o.side o.price (keptR o k) = 0 := by
  unfold setE at h
  rw [if_pos hst] at h
  by_cases hr : restE o k = 0
  · rw [if_pos hr] at h; exact ⟨hr, h⟩
  · rw [if_neg hr] at h; exact absurd h hr
theorem kdo_book {bs ss : List L} {o : O} (h : kdoE bs ss o = 0) : bookE (kdoB bs ss o) (kdoS bs ss o) = 0 := by
  obtain ⟨h1, h2, h3⟩ := kdo_zero h
  unfold kdoB kdoS setB setS
  by_cases hst : stayB o (metR bs ss o).2.2 = true
  · rw [if_pos hst, if_pos hst]
    exact (put_zero (set_put h3 hst).2).2.2
  · rw [if_neg hst, if_neg hst]
    exact met_book (doE_zero h1).1
/-- What is known of the answer. -/
structure KF (bs ss : List L) (o : O) : Prop where
  come : comeE bs ss o = 0
  ok : chk o = 0
  book : bookE (kdoB bs ss o) (kdoS bs ss o) = 0
  sum : sumT (metR bs ss o).2.1 + (metR bs ss o).2.2 = o.qty
  left0 : 0 ≤ (metR bs ss o).2.2
  sum0 : 0 ≤ sumT (metR bs ss o).2.1
  q1 : 1 ≤ o.qty
  q2 : o.qty ≤ 10000
  len : (metR bs ss o).2.1.length ≤ 400
  each : ∀ x ∈ (metR bs ss o).2.1, 1 ≤ x.qty ∧ x.qty ≤ o.qty
  whole : o.kind = 4 → (metR bs ss o).2.2 = 0
  post : o.kind = 5 → (metR bs ss o).2.2 = o.qty
theorem kdo_facts {bs ss : List L} {o : O} (h : kdoE bs ss o = 0) : KF bs ss o := by
  obtain ⟨h1, h2, h3⟩ := kdo_zero h
  obtain ⟨hC, h4⟩ := doE_zero h1
  obtain ⟨hbk, hck, -, -⟩ := come_zero hC
  obtain ⟨a1, a2, a3, a4⟩ := met_sum hC
  have hq := qty_of hck
  refine ⟨hC, hck, kdo_book h, a1, a2, a3, hq.1, hq.2, h4, fun x hx => ?_, fun hk => ?_, fun hk => ?_⟩
  · obtain ⟨-, b2, b3, -⟩ := tkl_each (o := o) (otherL bs ss o) o.qty (by omega) (other_good hbk) x hx
    exact ⟨b2, b3⟩
  · unfold refE at h2
    by_cases h0 : 0 < (metR bs ss o).2.2
    · rw [if_pos ⟨hk, h0⟩] at h2; omega
    · omega
  · unfold refE at h2
    rw [if_neg (by omega)] at h2
    by_cases h0 : (metR bs ss o).2.2 < o.qty
    · rw [if_pos ⟨hk, h0⟩] at h2; omega
    · omega
theorem stay_kind {o : O} {k : Int} (h : stayB o k = true) : ¬ k = 0 ∧ (o.kind = 1 ∨ o.kind = 5) := by
  unfold stayB mayK at h
  simp at h
  exact h
theorem stay_no {o : O} {k : Int} (h : stayB o k = false) : k = 0 ∨ (¬ o.kind = 1 ∧ ¬ o.kind = 5) := by
  unfold stayB mayK at h
  by_cases hk : k = 0
  · exact .inl hk
  · refine .inr ?_
    simp [hk] at h
    exact h
theorem kdo_stay {bs ss : List L} {o : O} (hst : stayB o (metR bs ss o).2.2 = true) : kdoB bs ss o = put1 (metB bs ss o) o.side o.price (keptR o (metR bs ss o).2.2) ∧ kdoS bs ss o = put2 (metS bs ss o) o.side o.price (keptR o (metR bs ss o).2.2) := by
  unfold kdoB kdoS setB setS
  rw [if_pos hst, if_pos hst]
  exact ⟨rfl, rfl⟩
theorem kfind_in (q1 q2 : Option Addr) (n1 n2 c1 c2 : Nat) (bs ss : List L) (o : O) (w : World) (h : kdoE bs ss o = 0) (hst : stayB o (metR bs ss o).2.2 = true) (h1 : LS w (.slice q1 n1 c1) (kdoB bs ss o)) (h2 : LS w (.slice q2 n2 c2) (kdoS bs ss o)) :
    Calls Try.prog 15 #[.agg #[.slice q1 n1 c1, .slice q2 n2 c2], .int .i64 o.id] w fun e w' => e = .returned (.tuple #[.int .i64 o.side, .int .i64 o.price, rB (keptR o (metR bs ss o).2.2), .nilIface]) ∧ Below w.heap.size w w' := by
  obtain ⟨k1, k2, k3⟩ := kdo_zero h
  obtain ⟨hr, hp⟩ := set_put k3 hst
  have hK := kdo_facts h
  have hB := hK.book
  have hid := id_wf' hK.ok
  obtain ⟨p1, p2, p3⟩ := put_zero hp
  have hside := put_side hp
  obtain ⟨eB, eS⟩ := kdo_stay hst
  rw [eB] at h1 hB
  rw [eS] at h2 hB
  have hI : (keptR o (metR bs ss o).2.2).id = o.id := rfl
  generalize keptR o (metR bs ss o).2.2 = r at *
  rcases hside with hs | hs
  · have f1 : put1 (metB bs ss o) o.side o.price r = putL o.side o.price r (metB bs ss o) := by unfold put1; rw [if_pos hs]
    have f2 : put2 (metS bs ss o) o.side o.price r = metS bs ss o := by unfold put2; rw [if_pos hs]
    rw [f1] at h1 hB
    rw [f2] at h2 hB
    rw [if_pos hs] at p2
    obtain ⟨i, k, H⟩ := held_of p2
    have e1 := H.fe
    have e2 := H.fp
    rw [hI] at e1 e2
    have hv : findV 1 (putL o.side o.price r (metB bs ss o)) o.id = .tuple #[.int .i64 i, .int .i64 k, .nilIface] := by
      rw [hs] at e1 e2 ⊢
      unfold findV
      rw [e2, e1]
      rfl
    refine (find_in1 q1 q2 n1 n2 c1 c2 _ _ o.id hid i k w h1 h2 hB H.hi H.hk hv).mono ?_
    rintro e w' ⟨rfl, b⟩
    rw [H.price, H.rest, hs]
    exact ⟨rfl, b⟩
  · have f1 : put1 (metB bs ss o) o.side o.price r = metB bs ss o := by unfold put1; rw [if_neg (by omega)]
    have f2 : put2 (metS bs ss o) o.side o.price r = putL o.side o.price r (metS bs ss o) := by unfold put2; rw [if_neg (by omega)]
    rw [f1] at h1 hB
    rw [f2] at h2 hB
    rw [if_neg (by omega)] at p2
    obtain ⟨i, k, H⟩ := held_of p2
    have e1 := H.fe
    have e2 := H.fp
    rw [hI] at e1 e2
    have hv : findV 2 (putL o.side o.price r (metS bs ss o)) o.id = .tuple #[.int .i64 i, .int .i64 k, .nilIface] := by
      rw [hs] at e1 e2 ⊢
      unfold findV
      rw [e2, e1]
      rfl
    have hno := not_buy hB H.hi H.hk
    rw [H.rest, hI] at hno
    refine (find_in2 q1 q2 n1 n2 c1 c2 _ _ o.id hid i k w h1 h2 hB hno H.hi H.hk hv).mono ?_
    rintro e w' ⟨rfl, b⟩
    rw [H.price, H.rest, hs]
    exact ⟨rfl, b⟩
theorem kfind_out (q1 q2 : Option Addr) (n1 n2 c1 c2 : Nat) (bs ss : List L) (o : O) (w : World) (h : kdoE bs ss o = 0) (hst : stayB o (metR bs ss o).2.2 = false) (h1 : LS w (.slice q1 n1 c1) (kdoB bs ss o)) (h2 : LS w (.slice q2 n2 c2) (kdoS bs ss o)) :
    Calls Try.prog 15 #[.agg #[.slice q1 n1 c1, .slice q2 n2 c2], .int .i64 o.id] w fun e w' => e = .returned (.tuple #[.int .i64 0, .int .i64 0, .agg #[.int .i64 0, .int .i64 0, .int .i64 0, .int .i64 0, .int .i64 0], .iface 59 (.int .i64 5)]) ∧ Below w.heap.size w w' := by
  have hK := kdo_facts h
  have hid := id_wf' hK.ok
  have hn : ¬ stayB o (metR bs ss o).2.2 = true := by rw [hst]; decide
  unfold kdoB setB at h1
  unfold kdoS setS at h2
  rw [if_neg hn] at h1 h2
  obtain ⟨hb, -, -, hin⟩ := come_zero (met_come hK.come)
  obtain ⟨e1, e2, -⟩ := book_zero hb
  unfold inBook at hin
  simp only [decide_eq_false_iff_not] at hin
  exact find_no q1 q2 n1 n2 c1 c2 _ _ o.id hid w h1 h2 hb (findE_out e1 (fun h => hin (.inl h))) (findE_out e2 (fun h => hin (.inr h)))
/-- The fact. -/
def factK : O := ⟨2, 2, 1, 1, 101, 7, 3, 0⟩
theorem factK_zero : kdoE [] [] factK = 0 := by decide
theorem factK_book : kdoB [] [] factK = [⟨101, [⟨2, 2, 3, 4, 3⟩]⟩] := by rfl
theorem factK_gone : kdoG [] [] factK = 0 := by decide
theorem ls_one {w : World} {q : Option Addr} {n c : Nat} {p r1 r2 r3 r4 r5 : Int} (h : LS w (.slice q n c) [⟨p, [⟨r1, r2, r3, r4, r5⟩]⟩]) : n = 1 ∧ ∃ g off g2 off2 c2, q = some ⟨g, off, none⟩ ∧ w.cell? ⟨g, off + 1, none⟩ = some (.slice (some ⟨g2, off2, none⟩) 1 c2) ∧ w.cell? ⟨g2, off2 + 3, none⟩ = some (.int .i64 r4) := by
  refine ⟨ls_len h, ?_⟩
  rcases h with ⟨-, e2⟩ | ⟨b, o, c', e, -, -, hb, hl⟩
  · cases e2
  · cases e
    obtain ⟨rq, rc, c0, c1, hsl⟩ := LL.at hl (k := 0) (by simp) rfl
    have hs := hsl.sl (by simp)
    rcases hs with ⟨-, e2⟩ | ⟨b2, o2, c2, e3, -, -, -, h5⟩
    · cases e2
    · have e4 := h5 0 (by simp) 3 (.int .i64 r4) rfl
      simp only [Nat.zero_mul, Nat.add_zero] at c1 e4
      cases e3
      exact ⟨b, o, b2, o2, rc, rfl, c1, e4⟩
theorem factK_do (w : World) :
    Calls Try.prog 14 #[.agg #[.slice none 0 0, .slice none 0 0], .agg #[.int .i64 2, .int .i64 2, .int .i64 1, .int .i64 1, .int .i64 101, .int .i64 7, .int .i64 3, .int .i64 0]] w fun e w' => ∃ k1 u2 m2 k2 tv g off g2 off2 c2, e = .returned (.tuple #[.agg #[.slice (some ⟨g, off, none⟩) 1 k1, .slice u2 m2 k2], tv, .int .i64 0, .nilIface]) ∧ w'.cell? ⟨g, off + 1, none⟩ = some (.slice (some ⟨g2, off2, none⟩) 1 c2) ∧ w'.cell? ⟨g2, off2 + 3, none⟩ = some (.int .i64 4) ∧ Below w.heap.size w w' := by
  refine (kdo_any none none 0 0 0 0 [] [] 2 2 1 1 101 7 3 0 w (ls_nil _) (ls_nil _)).mono ?_
  rintro e w' ⟨i1, -, i3⟩
  obtain ⟨u1, u2, m1, m2, k1, k2, tv, rfl, hD, -, -⟩ := i1 factK_zero
  have hL := hD.ls
  have eB : kdoB [] [] ⟨2, 2, 1, 1, 101, 7, 3, 0⟩ = [⟨101, [⟨2, 2, 3, 4, 3⟩]⟩] := factK_book
  rw [eB] at hL
  obtain ⟨rfl, g, off, g2, off2, c2, rfl, h1, h2⟩ := ls_one hL
  have eG : kdoG [] [] ⟨2, 2, 1, 1, 101, 7, 3, 0⟩ = 0 := factK_gone
  exact ⟨k1, u2, m2, k2, tv, g, off, g2, off2, c2, by rw [eG], h1, h2, i3⟩
end Go.Proofs.Ytegbicmfgblphaa.kin
