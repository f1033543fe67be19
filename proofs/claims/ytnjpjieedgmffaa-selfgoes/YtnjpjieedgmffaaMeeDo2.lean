/- Contracts over this seat's translation: meet.Do, meet.Could. -/
import Derived.Test.YtnjpjieedgmffaaMeeDo
import Derived.Test.YtnjpjieedgmffaaMeeFact
namespace Go.Proofs.Ytnjpjieedgmffaa.mee
open Go.RowKit Go.Proofs.Ytnjpjieedgmffaa.spn Go.Proofs.Ytnjpjieedgmffaa.que Go.Proofs.Ytnjpjieedgmffaa.sid Go.Proofs.Ytnjpjieedgmffaa.bok
open Go.Proofs.Ytnjpjieedgmffaa.ord (O oV mB mE chk meets_any)

theorem other_good {bs ss : List L} {o : O} (h : bookE bs ss = 0) : ∀ l ∈ otherL bs ss o, lchk l = 0 := by
  obtain ⟨e1, e2, -⟩ := book_zero h
  unfold otherL
  split
  · exact sgo_each (schk_zero e2).2.1
  · exact sgo_each (schk_zero e1).2.1
theorem qty_of {o : O} (h : chk o = 0) : 1 ≤ o.qty ∧ o.qty ≤ 10000 := by
  obtain ⟨-, -, h3, -, -⟩ := ord.chk_zero h
  simp [ord.qtyB] at h3
  exact ⟨h3.1.1.1, h3.1.1.2⟩
theorem met_sum {bs ss : List L} {o : O} (h : comeE bs ss o = 0) : sumT (metR bs ss o).2.1 + (metR bs ss o).2.2 = o.qty ∧ 0 ≤ (metR bs ss o).2.2 ∧ 0 ≤ sumT (metR bs ss o).2.1 ∧ ((metR bs ss o).2.1.length : Int) ≤ sumT (metR bs ss o).2.1 := by
  obtain ⟨h1, h2, -⟩ := come_zero h
  obtain ⟨a, b, c, d, -⟩ := tkl_sum (o := o) (otherL bs ss o) o.qty (by have := qty_of h2; omega) (other_good h1)
  exact ⟨a, b, c, d⟩

/-- What is wrong with Do. -/
def doE (bs ss : List L) (o : O) : Int := if comeE bs ss o = 0 then (if 400 < (metR bs ss o).2.1.length then 4 else 0) else comeE bs ss o
def DoPostD (bs ss : List L) (o : O) (w : World) (e : Ending) (w' : World) : Prop :=
  (doE bs ss o = 0 → ∃ q1 q2 n1 n2 c1 c2 tv, e = .returned (.tuple #[.agg #[.slice q1 n1 c1, .slice q2 n2 c2], tv, .int .i64 (metR bs ss o).2.2, .nilIface]) ∧ DL w' w.heap.size (.slice q1 n1 c1) (metB bs ss o) ∧ DL w' w.heap.size (.slice q2 n2 c2) (metS bs ss o) ∧ OwnT w' w.heap.size tv (metR bs ss o).2.1) ∧
  (¬ doE bs ss o = 0 → e = .returned (.tuple #[.agg #[.slice none 0 0, .slice none 0 0], .slice none 0 0, .int .i64 0, errV (doE bs ss o)])) ∧ Below w.heap.size w w'

set_option maxRecDepth 100000 in
set_option maxHeartbeats 4000000 in
theorem do_anyD (q1 q2 : Option Addr) (n1 n2 c1 c2 : Nat) (bs ss : List L) (a b c d p q s t : Int) (w : World) (h1 : LS w (.slice q1 n1 c1) bs) (h2 : LS w (.slice q2 n2 c2) ss) :
    Calls Try.prog 16 #[.agg #[.slice q1 n1 c1, .slice q2 n2 c2], .agg #[.int .i64 a, .int .i64 b, .int .i64 c, .int .i64 d, .int .i64 p, .int .i64 q, .int .i64 s, .int .i64 t]] w fun e w' => DoPostD bs ss ⟨a, b, c, d, p, q, s, t⟩ w e w' := by
  obtain ⟨V2, hV2⟩ : ∃ V2, V2 = (w.alloc (.cells #[.slice q1 n1 c1, .slice q2 n2 c2] 24)).alloc (.cells #[.int .i64 a, .int .i64 b, .int .i64 c, .int .i64 d, .int .i64 p, .int .i64 q, .int .i64 s, .int .i64 t] 26) := ⟨_, rfl⟩
  have hs2 : V2.heap.size = w.heap.size + 2 := by rw [hV2]; simp
  have hB2 : Below w.heap.size w V2 := by rw [hV2]; exact ((Below.refl _ _).alloc (Nat.le_refl _) _).alloc (by simp) _
  obtain ⟨V, hV⟩ : ∃ V, V = V2.alloc (.cells #[.slice none 0 0, .slice none 0 0] 24) := ⟨_, rfl⟩
  have hBV : Below V2.heap.size V2 V := by rw [hV]; exact (Below.refl _ _).alloc (Nat.le_refl _) _
  have HB : Hid (Below w.heap.size w V) := hB2.trans (hBV.mono hB2.size)
  have hR0 : V.heap[V2.heap.size]? = some (.cells #[.slice none 0 0, .slice none 0 0] 24 (0, 0)) := by rw [hV]; exact heap_alloc_new V2 _
  obtain ⟨P, hP⟩ : ∃ P, P = w.heap.size + 2 := ⟨_, rfl⟩
  rw [show V2.heap.size = P by rw [hs2, hP]] at hR0
  have HP : Hid (P = w.heap.size + 2) := hP
  have HTK : Hid (Calls Try.prog 30 #[.agg #[.slice q1 n1 c1, .slice q2 n2 c2], .agg #[.int .i64 a, .int .i64 b, .int .i64 c, .int .i64 d, .int .i64 p, .int .i64 q, .int .i64 s, .int .i64 t]] V fun e w' => TakePost bs ss ⟨a, b, c, d, p, q, s, t⟩ V e w') := take_any q1 q2 n1 n2 c1 c2 bs ss a b c d p q s t V (h1.below HB.out) (h2.below HB.out)
  have hPV : P < V.heap.size := (Array.getElem?_eq_some_iff.1 hR0).1
  clear h1 h2 hs2 hB2 hBV
  go_enter Try.func16, Try.ntmps16
  go_wp2_with fail
  rw [← hV2, ← hV]
  simp only [← hP]
  clear hV2 hV hP
  refine HTK.out.mono ?_
  rintro e w1 ⟨i1, i2, b1⟩
  have HW1 : Hid (Below w.heap.size w w1) := HB.out.trans (b1.mono HB.out.size)
  have hR1 : w1.heap[P]? = some (.cells #[.slice none 0 0, .slice none 0 0] 24 (0, 0)) := (b1.block P hPV).trans hR0
  have hP1 : P < w1.heap.size := (Array.getElem?_eq_some_iff.1 hR1).1
  by_cases hC : comeE bs ss ⟨a, b, c, d, p, q, s, t⟩ = 0
  · obtain ⟨u1, u2, m1, m2, k1, k2, tv, rfl, D1, D2, OT⟩ := i1 hC
    obtain ⟨tq, tc, htv⟩ := OwnM.form OT
    subst htv
    have hBa : Below w1.heap.size w1 (w1.alloc (.cells #[.slice u1 m1 k1, .slice u2 m2 k2] 24)) := (Below.refl _ _).alloc (Nat.le_refl _) _
    have hR2 : (w1.alloc (.cells #[.slice u1 m1 k1, .slice u2 m2 k2] 24)).heap[P]? = some (.cells #[.slice none 0 0, .slice none 0 0] 24 (0, 0)) := (hBa.block P hP1).trans hR1
    have hRG : (w1.alloc (.cells #[.slice u1 m1 k1, .slice u2 m2 k2] 24)).heap[w1.heap.size]? = some (.cells #[.slice u1 m1 k1, .slice u2 m2 k2] 24 (0, 0)) := heap_alloc_new w1 _
    have HD1 : Hid (DL (w1.alloc (.cells #[.slice u1 m1 k1, .slice u2 m2 k2] 24)) V.heap.size (.slice u1 m1 k1) (metB bs ss ⟨a, b, c, d, p, q, s, t⟩)) := D1.below hBa
    have HD2 : Hid (DL (w1.alloc (.cells #[.slice u1 m1 k1, .slice u2 m2 k2] 24)) V.heap.size (.slice u2 m2 k2) (metS bs ss ⟨a, b, c, d, p, q, s, t⟩)) := D2.below hBa
    have HOT : Hid (OwnT (w1.alloc (.cells #[.slice u1 m1 k1, .slice u2 m2 k2] 24)) V.heap.size (.slice tq (metR bs ss ⟨a, b, c, d, p, q, s, t⟩).2.1.length tc) (metR bs ss ⟨a, b, c, d, p, q, s, t⟩).2.1) := OwnM.below OT hBa
    have HW2 : Hid (Below w.heap.size w (w1.alloc (.cells #[.slice u1 m1 k1, .slice u2 m2 k2] 24))) := HW1.out.trans (hBa.mono HW1.out.size)
    clear i1 i2 b1 D1 D2 OT hBa HTK
    go_upto_region 2 with fail
    generalize w1.alloc (.cells #[.slice u1 m1 k1, .slice u2 m2 k2] 24) = W at *
    generalize w1.heap.size = G at *
    obtain ⟨g0, g1, -⟩ := rowTwo hRG
    obtain ⟨z0, z1, zf⟩ := rowTwo hR2
    have zf0 := zf 0
    have zf1 := zf 1
    have HPV : Hid (P < V.heap.size) := hPV
    by_cases h4 : 400 < (metR bs ss ⟨a, b, c, d, p, q, s, t⟩).2.1.length
    · have hD : doE bs ss ⟨a, b, c, d, p, q, s, t⟩ = 4 := by unfold doE; rw [if_pos hC, if_pos h4]
      have HRF := setTwo hR2 (.slice none 0 0) (.slice none 0 0)
      have hg := grTwo W P (.slice none 0 0) (.slice none 0 0)
      have hPO : DoPostD bs ss ⟨a, b, c, d, p, q, s, t⟩ w (.returned (.tuple #[.agg #[.slice none 0 0, .slice none 0 0], .slice none 0 0, .int .i64 0, .iface 64 (.int .i64 4)])) ((W.setCell ⟨P, 0, none⟩ (.slice none 0 0)).setCell ⟨P, 1, none⟩ (.slice none 0 0)) :=
        ⟨fun h => by rw [hD] at h; omega, fun _ => by rw [hD]; rfl, HW2.out.grown hg HW2.out.size (fun k hk => by cases hk; have := HP.out; omega)⟩
      have HHX : Hid (((W.setCell ⟨P, 0, none⟩ (.slice none 0 0)).setCell ⟨P, 1, none⟩ (.slice none 0 0)).heap[P]? = some (.cells #[.slice none 0 0, .slice none 0 0] 24 (0, 0))) := HRF
      have h4z : (400 : Int) < ((metR bs ss ⟨a, b, c, d, p, q, s, t⟩).2.1.length : Int) := by omega
      generalize (metR bs ss ⟨a, b, c, d, p, q, s, t⟩).2.1.length = tl at *
      generalize (metR bs ss ⟨a, b, c, d, p, q, s, t⟩).2.2 = lf at *
      clear HRF hg hR2 zf hRG HD1 HD2 HOT hD hC hR1 hR0
      go_wp2_with fail
      generalize ((W.setCell ⟨P, 0, none⟩ (.slice none 0 0)).setCell ⟨P, 1, none⟩ (.slice none 0 0)) = Z at *
      obtain ⟨r0, r1, -⟩ := rowTwo HHX.out
      exact bodyPost_ret (v := .tuple #[.agg #[.slice none 0 0, .slice none 0 0], .slice none 0 0, .int .i64 0, .iface 64 (.int .i64 4)]) (by simp [results, Try.results16, go_sem, r0, r1]) rfl hPO
    · have hD : doE bs ss ⟨a, b, c, d, p, q, s, t⟩ = 0 := by unfold doE; rw [if_pos hC, if_neg h4]
      have HRF := setTwo hR2 (.slice u1 m1 k1) (.slice u2 m2 k2)
      have hg := grTwo W P (.slice u1 m1 k1) (.slice u2 m2 k2)
      have hPO : DoPostD bs ss ⟨a, b, c, d, p, q, s, t⟩ w (.returned (.tuple #[.agg #[.slice u1 m1 k1, .slice u2 m2 k2], .slice tq (metR bs ss ⟨a, b, c, d, p, q, s, t⟩).2.1.length tc, .int .i64 (metR bs ss ⟨a, b, c, d, p, q, s, t⟩).2.2, .nilIface])) ((W.setCell ⟨P, 0, none⟩ (.slice u1 m1 k1)).setCell ⟨P, 1, none⟩ (.slice u2 m2 k2)) :=
        ⟨fun _ => ⟨u1, u2, m1, m2, k1, k2, _, rfl, (DL.other HD1.out hg hPV).mono HB.out.size, (DL.other HD2.out hg hPV).mono HB.out.size, OwnM.mono (kept_of HOT.out hg (fun z hz e => by cases e; have := (OwnM.lt HOT.out P hz).1; omega)) HB.out.size⟩, fun h => absurd hD h, HW2.out.grown hg HW2.out.size (fun k hk => by cases hk; have := HP.out; omega)⟩
      have HHX : Hid (((W.setCell ⟨P, 0, none⟩ (.slice u1 m1 k1)).setCell ⟨P, 1, none⟩ (.slice u2 m2 k2)).heap[P]? = some (.cells #[.slice u1 m1 k1, .slice u2 m2 k2] 24 (0, 0))) := HRF
      have h4z : ¬ (400 : Int) < ((metR bs ss ⟨a, b, c, d, p, q, s, t⟩).2.1.length : Int) := by omega
      have HPO : Hid (DoPostD bs ss ⟨a, b, c, d, p, q, s, t⟩ w (.returned (.tuple #[.agg #[.slice u1 m1 k1, .slice u2 m2 k2], .slice tq (metR bs ss ⟨a, b, c, d, p, q, s, t⟩).2.1.length tc, .int .i64 (metR bs ss ⟨a, b, c, d, p, q, s, t⟩).2.2, .nilIface])) ((W.setCell ⟨P, 0, none⟩ (.slice u1 m1 k1)).setCell ⟨P, 1, none⟩ (.slice u2 m2 k2))) := hPO
      clear hPO HRF hg hR2 zf hRG HD1 HD2 HOT hD hC hR1 hR0
      generalize (metR bs ss ⟨a, b, c, d, p, q, s, t⟩).2.1.length = tl at *
      generalize (metR bs ss ⟨a, b, c, d, p, q, s, t⟩).2.2 = lf at *
      go_wp2_with fail
      generalize ((W.setCell ⟨P, 0, none⟩ (.slice u1 m1 k1)).setCell ⟨P, 1, none⟩ (.slice u2 m2 k2)) = Z at *
      obtain ⟨r0, r1, -⟩ := rowTwo HHX.out
      exact bodyPost_ret (v := .tuple #[.agg #[.slice u1 m1 k1, .slice u2 m2 k2], .slice tq tl tc, .int .i64 lf, .nilIface]) (by simp [results, Try.results16, go_sem, r0, r1]) rfl HPO.out
  · have e2 := i2 hC
    subst e2
    have hD : doE bs ss ⟨a, b, c, d, p, q, s, t⟩ = comeE bs ss ⟨a, b, c, d, p, q, s, t⟩ := by unfold doE; rw [if_neg hC]
    have hBa : Below w1.heap.size w1 (w1.alloc (.cells #[.slice none 0 0, .slice none 0 0] 24)) := (Below.refl _ _).alloc (Nat.le_refl _) _
    have hR2 : (w1.alloc (.cells #[.slice none 0 0, .slice none 0 0] 24)).heap[P]? = some (.cells #[.slice none 0 0, .slice none 0 0] 24 (0, 0)) := (hBa.block P hP1).trans hR1
    have HW2 : Hid (Below w.heap.size w (w1.alloc (.cells #[.slice none 0 0, .slice none 0 0] 24))) := HW1.out.trans (hBa.mono HW1.out.size)
    rw [errV_of hC]
    clear i1 i2 b1 hBa HTK
    go_upto_region 2 with fail
    generalize w1.alloc (.cells #[.slice none 0 0, .slice none 0 0] 24) = W at *
    generalize w1.heap.size = G at *
    obtain ⟨z0, z1, zf⟩ := rowTwo hR2
    have zf0 := zf 0
    have zf1 := zf 1
    have HRF := setTwo hR2 (.slice none 0 0) (.slice none 0 0)
    have hg := grTwo W P (.slice none 0 0) (.slice none 0 0)
    have hPO : DoPostD bs ss ⟨a, b, c, d, p, q, s, t⟩ w (.returned (.tuple #[.agg #[.slice none 0 0, .slice none 0 0], .slice none 0 0, .int .i64 0, .iface 64 (.int .i64 (comeE bs ss ⟨a, b, c, d, p, q, s, t⟩))])) ((W.setCell ⟨P, 0, none⟩ (.slice none 0 0)).setCell ⟨P, 1, none⟩ (.slice none 0 0)) :=
      ⟨fun h => by rw [hD] at h; exact absurd h hC, fun _ => by rw [hD, errV_of hC], HW2.out.grown hg HW2.out.size (fun k hk => by cases hk; have := HP.out; omega)⟩
    have HHX : Hid (((W.setCell ⟨P, 0, none⟩ (.slice none 0 0)).setCell ⟨P, 1, none⟩ (.slice none 0 0)).heap[P]? = some (.cells #[.slice none 0 0, .slice none 0 0] 24 (0, 0))) := HRF
    have HPO : Hid (DoPostD bs ss ⟨a, b, c, d, p, q, s, t⟩ w (.returned (.tuple #[.agg #[.slice none 0 0, .slice none 0 0], .slice none 0 0, .int .i64 0, .iface 64 (.int .i64 (comeE bs ss ⟨a, b, c, d, p, q, s, t⟩))])) ((W.setCell ⟨P, 0, none⟩ (.slice none 0 0)).setCell ⟨P, 1, none⟩ (.slice none 0 0))) := hPO
    clear hPO HRF hg hR2 zf hD hR1 hR0
    go_wp2_with fail
    generalize ((W.setCell ⟨P, 0, none⟩ (.slice none 0 0)).setCell ⟨P, 1, none⟩ (.slice none 0 0)) = Z at *
    obtain ⟨r0, r1, -⟩ := rowTwo HHX.out
    exact bodyPost_ret (v := .tuple #[.agg #[.slice none 0 0, .slice none 0 0], .slice none 0 0, .int .i64 0, .iface 64 (.int .i64 (comeE bs ss ⟨a, b, c, d, p, q, s, t⟩))]) (by simp [results, Try.results16, go_sem, r0, r1]) rfl HPO.out
def DoPost (bs ss : List L) (o : O) (w : World) (e : Ending) (w' : World) : Prop :=
  (doE bs ss o = 0 → ∃ q1 q2 n1 n2 c1 c2 tv, e = .returned (.tuple #[.agg #[.slice q1 n1 c1, .slice q2 n2 c2], tv, .int .i64 (metR bs ss o).2.2, .nilIface]) ∧ LS w' (.slice q1 n1 c1) (metB bs ss o) ∧ LS w' (.slice q2 n2 c2) (metS bs ss o) ∧ OwnT w' w.heap.size tv (metR bs ss o).2.1) ∧
  (¬ doE bs ss o = 0 → e = .returned (.tuple #[.agg #[.slice none 0 0, .slice none 0 0], .slice none 0 0, .int .i64 0, errV (doE bs ss o)])) ∧ Below w.heap.size w w'
theorem do_any (q1 q2 : Option Addr) (n1 n2 c1 c2 : Nat) (bs ss : List L) (a b c d p q s t : Int) (w : World) (h1 : LS w (.slice q1 n1 c1) bs) (h2 : LS w (.slice q2 n2 c2) ss) :
    Calls Try.prog 16 #[.agg #[.slice q1 n1 c1, .slice q2 n2 c2], .agg #[.int .i64 a, .int .i64 b, .int .i64 c, .int .i64 d, .int .i64 p, .int .i64 q, .int .i64 s, .int .i64 t]] w fun e w' => DoPost bs ss ⟨a, b, c, d, p, q, s, t⟩ w e w' :=
  (do_anyD q1 q2 n1 n2 c1 c2 bs ss a b c d p q s t w h1 h2).mono fun _ _ ⟨i1, i2, i3⟩ => ⟨fun h => by
    obtain ⟨u1, u2, m1, m2, k1, k2, tv, g1, g2, g3, g4⟩ := i1 h
    exact ⟨u1, u2, m1, m2, k1, k2, tv, g1, g2.ls, g3.ls, g4⟩, i2, i3⟩
end Go.Proofs.Ytnjpjieedgmffaa.mee
