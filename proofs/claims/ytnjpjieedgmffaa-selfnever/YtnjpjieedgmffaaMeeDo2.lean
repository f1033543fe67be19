/- Plain facts on what an order takes of levels that are right. No walk. Contracts over this seat's translation: meet.Do, meet.Could. -/
import Derived.Test.YtnjpjieedgmffaaSidMap
import Derived.Test.YtnjpjieedgmffaaSidPut
import Derived.Test.YtnjpjieedgmffaaMeeDo
namespace Go.Proofs.Ytnjpjieedgmffaa.mee
open Go.RowKit Go.Proofs.Ytnjpjieedgmffaa.spn Go.Proofs.Ytnjpjieedgmffaa.que Go.Proofs.Ytnjpjieedgmffaa.sid
open Go.Proofs.Ytnjpjieedgmffaa.ord (O mB chk)
open Go.Proofs.Ytnjpjieedgmffaa.tickP (priceB sideB betOk betR)

def sumT : List T → Int
  | [] => 0
  | t :: r => t.qty + sumT r
theorem sumT_append (a b : List T) : sumT (a ++ b) = sumT a + sumT b := by
  induction a with
  | nil => simp [sumT]
  | cons x t ih => simp only [List.cons_append, sumT, ih]; omega
theorem sumT_map (o : O) (p : Int) (fs : List F) : sumT (fs.map (trd o p)) = sum fs := by
  induction fs with
  | nil => rfl
  | cons x t ih =>
    simp only [List.map_cons, sumT, sum, ih]
    have : (trd o p x).qty = x.qty := by unfold trd; split <;> rfl
    rw [this]
def totL : List L → Int
  | [] => 0
  | l :: t => tot l.rests + totL t
theorem trd_facts (o : O) (p : Int) (f : F) : (trd o p f).taker = o.id ∧ (trd o p f).price = p ∧ (trd o p f).qty = f.qty ∧ (trd o p f).maker = f.id := by
  unfold trd; split <;> exact ⟨rfl, rfl, rfl, rfl⟩

theorem tkl_step {o : O} {l : L} {t : List L} {q : Int} (h : 0 < q) (hm : mB o l.price = true) (hl : lchk l = 0) :
    (((take q l.rests).2 = [] ∧ tkl o (l :: t) q = ((tkl o t (q - sum (take q l.rests).1)).1, (take q l.rests).1.map (trd o l.price) ++ (tkl o t (q - sum (take q l.rests).1)).2.1, (tkl o t (q - sum (take q l.rests).1)).2.2)) ∨
     (¬ (take q l.rests).2 = [] ∧ q - sum (take q l.rests).1 = 0 ∧ tkl o (l :: t) q = (⟨l.price, (take q l.rests).2⟩ :: t, (take q l.rests).1.map (trd o l.price), q - sum (take q l.rests).1))) := by
  by_cases he : (take q l.rests).2 = []
  · exact .inl ⟨he, tkl_gone h hm he⟩
  · exact .inr ⟨he, take_last (lchk_zero hl).2.2 (by omega) he, tkl_last h hm he⟩
theorem tkl_done {o : O} {l : L} {t : List L} {q : Int} (h : ¬ (0 < q ∧ mB o l.price = true)) : tkl o (l :: t) q = (l :: t, [], q) := by
  by_cases hq : 0 < q
  · exact tkl_stop (by
      cases hm : mB o l.price with
      | false => rfl
      | true => exact absurd ⟨hq, hm⟩ h)
  · exact tkl_zero (by omega)

/-- How much. -/
theorem tkl_sum {o : O} : ∀ (ls : List L) (q : Int), 0 ≤ q → (∀ l ∈ ls, lchk l = 0) → sumT (tkl o ls q).2.1 + (tkl o ls q).2.2 = q ∧ 0 ≤ (tkl o ls q).2.2 ∧ 0 ≤ sumT (tkl o ls q).2.1 ∧ ((tkl o ls q).2.1.length : Int) ≤ sumT (tkl o ls q).2.1 ∧ totL (tkl o ls q).1 + sumT (tkl o ls q).2.1 = totL ls := by
  intro ls
  induction ls with
  | nil => intro q h _; simp [tkl, sumT]; exact h
  | cons l t ih =>
    intro q h hg
    by_cases hc : 0 < q ∧ mB o l.price = true
    · have hl := hg l (by simp)
      obtain ⟨f1, f2, f3, f4, f5, f6, f7⟩ := take_all (lchk_zero hl).2.2 (q := q) (by omega)
      rcases tkl_step (t := t) hc.1 hc.2 hl with ⟨he, e⟩ | ⟨he, hz, e⟩
      · obtain ⟨i1, i2, i3, i4, i5⟩ := ih (q - sum (take q l.rests).1) (by omega) (fun x hx => hg x (by simp [hx]))
        rw [e]
        simp only [sumT_append, sumT_map, List.length_append, List.length_map, totL]
        rw [he] at f7
        simp only [tot] at f7
        refine ⟨by omega, i2, by omega, by omega, by omega⟩
      · rw [e]
        simp only [sumT_map, List.length_map, totL]
        refine ⟨by omega, by omega, f2, f3, by omega⟩
    · rw [tkl_done hc]
      simp [sumT]
      exact h
/-- Each trade. -/
theorem tkl_each {o : O} : ∀ (ls : List L) (q : Int), 0 ≤ q → (∀ l ∈ ls, lchk l = 0) → ∀ x ∈ (tkl o ls q).2.1, x.taker = o.id ∧ 1 ≤ x.qty ∧ x.qty ≤ q ∧ mB o x.price = true ∧ ∃ l ∈ ls, l.price = x.price := by
  intro ls
  induction ls with
  | nil => intro q _ _ x hx; simp [tkl] at hx
  | cons l t ih =>
    intro q h hg x hx
    by_cases hc : 0 < q ∧ mB o l.price = true
    · have hl := hg l (by simp)
      obtain ⟨f1, f2, f3, f4, f5, f6, f7⟩ := take_all (lchk_zero hl).2.2 (q := q) (by omega)
      have hfs : ∀ y ∈ (take q l.rests).1.map (trd o l.price), y.taker = o.id ∧ 1 ≤ y.qty ∧ y.qty ≤ q ∧ mB o y.price = true ∧ ∃ l' ∈ l :: t, l'.price = y.price := fun y hy => by
        obtain ⟨f, hf, rfl⟩ := List.mem_map.1 hy
        obtain ⟨t1, t2, t3, -⟩ := trd_facts o l.price f
        have := f6 f hf
        exact ⟨t1, by rw [t3]; exact this.1, by rw [t3]; exact this.2, by rw [t2]; exact hc.2, l, by simp, t2.symm⟩
      rcases tkl_step (t := t) hc.1 hc.2 hl with ⟨he, e⟩ | ⟨he, hz, e⟩
      · rw [e] at hx
        rcases List.mem_append.1 hx with hx | hx
        · exact hfs x hx
        · obtain ⟨a1, a2, a3, a4, l', hl', a5⟩ := ih _ (by omega) (fun y hy => hg y (by simp [hy])) x hx
          exact ⟨a1, a2, by omega, a4, l', by simp [hl'], a5⟩
      · rw [e] at hx
        exact hfs x hx
    · rw [tkl_done hc] at hx; simp at hx
/-- What is left meets nothing any more. -/
theorem tkl_rest {o : O} : ∀ (ls : List L) (q : Int), 0 ≤ q → (∀ l ∈ ls, lchk l = 0) → ¬ (tkl o ls q).2.2 = 0 → ∀ q', tkl o (tkl o ls q).1 q' = ((tkl o ls q).1, [], q') := by
  intro ls
  induction ls with
  | nil => intro q _ _ _ q'; rfl
  | cons l t ih =>
    intro q h hg hn q'
    by_cases hc : 0 < q ∧ mB o l.price = true
    · have hl := hg l (by simp)
      obtain ⟨f1, f2, f3, f4, f5, f6, f7⟩ := take_all (lchk_zero hl).2.2 (q := q) (by omega)
      rcases tkl_step (t := t) hc.1 hc.2 hl with ⟨he, e⟩ | ⟨he, hz, e⟩
      · rw [e] at hn ⊢
        exact ih _ (by omega) (fun y hy => hg y (by simp [hy])) hn q'
      · rw [e] at hn
        exact absurd hz hn
    · rw [tkl_done hc] at hn ⊢
      simp only [] at hn ⊢
      exact tkl_done (fun h2 => hc ⟨by omega, h2.2⟩)

/-- The prices of levels, one behind the other. -/
def ahd (s : Int) (a b : Int) : Prop := if s = 1 then b < a else a < b
theorem lead_ahd {s a b : Int} (hs : sideB s = true) (h : leadB s a b = true) : ahd s a b := by
  simp [sideB] at hs
  unfold leadB betR at h
  unfold ahd
  rcases hs with rfl | rfl
  · have e : wrap64 (3 - 1) = 2 := by unfold wrap64; omega
    rw [e] at h
    simp at h
    simp
    exact h.2
  · have e : wrap64 (3 - 2) = 1 := by unfold wrap64; omega
    rw [e] at h
    simp at h
    simp
    exact h.2
theorem ahd_trans {s a b c : Int} (h1 : ahd s a b) (h2 : ahd s b c) : ahd s a c := by
  unfold ahd at *
  split at h1 <;> simp_all <;> omega
theorem sgo_ahd {s : Int} (hs : sideB s = true) : ∀ (ls : List L) (prev : Option Int), sgo s prev ls = 0 → (ls.Pairwise fun a b => ahd s a.price b.price) ∧ ∀ x, prev = some x → ∀ l ∈ ls, ahd s x l.price := by
  intro ls
  induction ls with
  | nil => intro prev _; exact ⟨List.Pairwise.nil, fun x _ l hl => by cases hl⟩
  | cons l t ih =>
    intro prev h
    obtain ⟨h1, h2, h3⟩ := sgo_cons h
    obtain ⟨i1, i2⟩ := ih (some l.price) h3
    refine ⟨List.pairwise_cons.2 ⟨fun b hb => i2 _ rfl b hb, i1⟩, fun x hx b hb => ?_⟩
    subst hx
    have hxl : ahd s x l.price := lead_ahd hs h2
    rcases List.mem_cons.1 hb with rfl | hb
    · exact hxl
    · exact ahd_trans hxl (i2 _ rfl b hb)
/-- From trade to trade no better. -/
theorem tkl_sorted {o : O} {s : Int} : ∀ (ls : List L) (q : Int), 0 ≤ q → (∀ l ∈ ls, lchk l = 0) → (ls.Pairwise fun a b => ahd s a.price b.price) → (tkl o ls q).2.1.Pairwise fun a b => ¬ ahd s b.price a.price := by
  intro ls
  induction ls with
  | nil => intro q _ _ _; exact List.Pairwise.nil
  | cons l t ih =>
    intro q h hg hp
    obtain ⟨p1, p2⟩ := List.pairwise_cons.1 hp
    by_cases hc : 0 < q ∧ mB o l.price = true
    · have hl := hg l (by simp)
      obtain ⟨f1, f2, f3, f4, f5, f6, f7⟩ := take_all (lchk_zero hl).2.2 (q := q) (by omega)
      have hfs : ((take q l.rests).1.map (trd o l.price)).Pairwise fun a b => ¬ ahd s b.price a.price := by
        rw [List.pairwise_map]
        refine List.Pairwise.imp_of_mem ?_ (List.pairwise_of_forall (R := fun _ _ => True) (fun _ _ => trivial))
        intro a b _ _ _
        rw [(trd_facts o l.price a).2.1, (trd_facts o l.price b).2.1]
        unfold ahd; split <;> omega
      rcases tkl_step (t := t) hc.1 hc.2 hl with ⟨he, e⟩ | ⟨he, hz, e⟩
      · rw [e]
        refine List.pairwise_append.2 ⟨hfs, ih _ (by omega) (fun y hy => hg y (by simp [hy])) p2, fun a ha b hb => ?_⟩
        obtain ⟨f, hf, rfl⟩ := List.mem_map.1 ha
        obtain ⟨-, -, -, -, l', hl', e5⟩ := tkl_each t _ (by omega) (fun y hy => hg y (by simp [hy])) b hb
        rw [(trd_facts o l.price f).2.1, ← e5]
        have := p1 l' hl'
        unfold ahd at *
        split at this <;> simp_all <;> omega
      · rw [e]; exact hfs
    · rw [tkl_done hc]; exact List.Pairwise.nil
end Go.Proofs.Ytnjpjieedgmffaa.mee
namespace Go.Proofs.Ytnjpjieedgmffaa.mee
open Go.RowKit Go.Proofs.Ytnjpjieedgmffaa.spn Go.Proofs.Ytnjpjieedgmffaa.que Go.Proofs.Ytnjpjieedgmffaa.sid Go.Proofs.Ytnjpjieedgmffaa.bok
open Go.Proofs.Ytnjpjieedgmffaa.ord (O oV mB mE chk meets_any)

theorem other_good {bs ss : List L} {o : O} (h : bookE bs ss = 0) : ∀ l ∈ otherL bs ss o, lchk l = 0 := by
  obtain ⟨e1, e2, -⟩ := book_zero h
  unfold otherL
  split
  · exact sgo_each (schk_zero e2).2.1
  · exact sgo_each (schk_zero e1).2.1
theorem qty_of {o : O} (h : chk o = 0) : 1 ≤ o.qty ∧ o.qty ≤ 10000 := by
  obtain ⟨-, -, h3, -, -⟩ := ord.chk_zero h
  simp [ord.qtyB] at h3
  exact ⟨h3.1.1.1, h3.1.1.2⟩
theorem met_sum {bs ss : List L} {o : O} (h : comeE bs ss o = 0) : sumT (metR bs ss o).2.1 + (metR bs ss o).2.2 = o.qty ∧ 0 ≤ (metR bs ss o).2.2 ∧ 0 ≤ sumT (metR bs ss o).2.1 ∧ ((metR bs ss o).2.1.length : Int) ≤ sumT (metR bs ss o).2.1 := by
  obtain ⟨h1, h2, -⟩ := come_zero h
  obtain ⟨a, b, c, d, -⟩ := tkl_sum (o := o) (otherL bs ss o) o.qty (by have := qty_of h2; omega) (other_good h1)
  exact ⟨a, b, c, d⟩

/-- What is wrong with Do. -/
def doE (bs ss : List L) (o : O) : Int := if comeE bs ss o = 0 then (if 400 < (metR bs ss o).2.1.length then 4 else 0) else comeE bs ss o
def DoPostD (bs ss : List L) (o : O) (w : World) (e : Ending) (w' : World) : Prop :=
  (doE bs ss o = 0 → ∃ q1 q2 n1 n2 c1 c2 tv, e = .returned (.tuple #[.agg #[.slice q1 n1 c1, .slice q2 n2 c2], tv, .int .i64 (metR bs ss o).2.2, .nilIface]) ∧ DL w' w.heap.size (.slice q1 n1 c1) (metB bs ss o) ∧ DL w' w.heap.size (.slice q2 n2 c2) (metS bs ss o) ∧ OwnT w' w.heap.size tv (metR bs ss o).2.1) ∧
  (¬ doE bs ss o = 0 → e = .returned (.tuple #[.agg #[.slice none 0 0, .slice none 0 0], .slice none 0 0, .int .i64 0, errV (doE bs ss o)])) ∧ Below w.heap.size w w'

set_option maxRecDepth 100000 in
set_option maxHeartbeats 4000000 in
theorem do_anyD (q1 q2 : Option Addr) (n1 n2 c1 c2 : Nat) (bs ss : List L) (a b c d p q s t : Int) (w : World) (h1 : LS w (.slice q1 n1 c1) bs) (h2 : LS w (.slice q2 n2 c2) ss) :
    Calls Try.prog 16 #[.agg #[.slice q1 n1 c1, .slice q2 n2 c2], .agg #[.int .i64 a, .int .i64 b, .int .i64 c, .int .i64 d, .int .i64 p, .int .i64 q, .int .i64 s, .int .i64 t]] w fun e w' => DoPostD bs ss ⟨a, b, c, d, p, q, s, t⟩ w e w' := by
  obtain ⟨V2, hV2⟩ : ∃ V2, V2 = (w.alloc (.cells #[.slice q1 n1 c1, .slice q2 n2 c2] 24)).alloc (.cells #[.int .i64 a, .int .i64 b, .int .i64 c, .int .i64 d, .int .i64 p, .int .i64 q, .int .i64 s, .int .i64 t] 26) := ⟨_, rfl⟩
  have hs2 : V2.heap.size = w.heap.size + 2 := by rw [hV2]; simp
  have hB2 : Below w.heap.size w V2 := by rw [hV2]; exact ((Below.refl _ _).alloc (Nat.le_refl _) _).alloc (by simp) _
  obtain ⟨V, hV⟩ : ∃ V, V = V2.alloc (.cells #[.slice none 0 0, .slice none 0 0] 24) := ⟨_, rfl⟩
  have hBV : Below V2.heap.size V2 V := by rw [hV]; exact (Below.refl _ _).alloc (Nat.le_refl _) _
  have HB : Hid (Below w.heap.size w V) := hB2.trans (hBV.mono hB2.size)
  have hR0 : V.heap[V2.heap.size]? = some (.cells #[.slice none 0 0, .slice none 0 0] 24 (0, 0)) := by rw [hV]; exact heap_alloc_new V2 _
  obtain ⟨P, hP⟩ : ∃ P, P = w.heap.size + 2 := ⟨_, rfl⟩
  rw [show V2.heap.size = P by rw [hs2, hP]] at hR0
  have HP : Hid (P = w.heap.size + 2) := hP
  have HTK : Hid (Calls Try.prog 30 #[.agg #[.slice q1 n1 c1, .slice q2 n2 c2], .agg #[.int .i64 a, .int .i64 b, .int .i64 c, .int .i64 d, .int .i64 p, .int .i64 q, .int .i64 s, .int .i64 t]] V fun e w' => TakePost bs ss ⟨a, b, c, d, p, q, s, t⟩ V e w') := take_any q1 q2 n1 n2 c1 c2 bs ss a b c d p q s t V (h1.below HB.out) (h2.below HB.out)
  have hPV : P < V.heap.size := (Array.getElem?_eq_some_iff.1 hR0).1
  clear h1 h2 hs2 hB2 hBV
  go_enter Try.func16, Try.ntmps16
  go_wp2_with fail
  rw [← hV2, ← hV]
  simp only [← hP]
  clear hV2 hV hP
  refine HTK.out.mono ?_
  rintro e w1 ⟨i1, i2, b1⟩
  have HW1 : Hid (Below w.heap.size w w1) := HB.out.trans (b1.mono HB.out.size)
  have hR1 : w1.heap[P]? = some (.cells #[.slice none 0 0, .slice none 0 0] 24 (0, 0)) := (b1.block P hPV).trans hR0
  have hP1 : P < w1.heap.size := (Array.getElem?_eq_some_iff.1 hR1).1
  by_cases hC : comeE bs ss ⟨a, b, c, d, p, q, s, t⟩ = 0
  · obtain ⟨u1, u2, m1, m2, k1, k2, tv, rfl, D1, D2, OT⟩ := i1 hC
    obtain ⟨tq, tc, htv⟩ := OwnM.form OT
    subst htv
    have hBa : Below w1.heap.size w1 (w1.alloc (.cells #[.slice u1 m1 k1, .slice u2 m2 k2] 24)) := (Below.refl _ _).alloc (Nat.le_refl _) _
    have hR2 : (w1.alloc (.cells #[.slice u1 m1 k1, .slice u2 m2 k2] 24)).heap[P]? = some (.cells #[.slice none 0 0, .slice none 0 0] 24 (0, 0)) := (hBa.block P hP1).trans hR1
    have hRG : (w1.alloc (.cells #[.slice u1 m1 k1, .slice u2 m2 k2] 24)).heap[w1.heap.size]? = some (.cells #[.slice u1 m1 k1, .slice u2 m2 k2] 24 (0, 0)) := heap_alloc_new w1 _
    have HD1 : Hid (DL (w1.alloc (.cells #[.slice u1 m1 k1, .slice u2 m2 k2] 24)) V.heap.size (.slice u1 m1 k1) (metB bs ss ⟨a, b, c, d, p, q, s, t⟩)) := D1.below hBa
    have HD2 : Hid (DL (w1.alloc (.cells #[.slice u1 m1 k1, .slice u2 m2 k2] 24)) V.heap.size (.slice u2 m2 k2) (metS bs ss ⟨a, b, c, d, p, q, s, t⟩)) := D2.below hBa
    have HOT : Hid (OwnT (w1.alloc (.cells #[.slice u1 m1 k1, .slice u2 m2 k2] 24)) V.heap.size (.slice tq (metR bs ss ⟨a, b, c, d, p, q, s, t⟩).2.1.length tc) (metR bs ss ⟨a, b, c, d, p, q, s, t⟩).2.1) := OwnM.below OT hBa
    have HW2 : Hid (Below w.heap.size w (w1.alloc (.cells #[.slice u1 m1 k1, .slice u2 m2 k2] 24))) := HW1.out.trans (hBa.mono HW1.out.size)
    clear i1 i2 b1 D1 D2 OT hBa HTK
    go_upto_region 2 with fail
    generalize w1.alloc (.cells #[.slice u1 m1 k1, .slice u2 m2 k2] 24) = W at *
    generalize w1.heap.size = G at *
    obtain ⟨g0, g1, -⟩ := rowTwo hRG
    obtain ⟨z0, z1, zf⟩ := rowTwo hR2
    have zf0 := zf 0
    have zf1 := zf 1
    have HPV : Hid (P < V.heap.size) := hPV
    by_cases h4 : 400 < (metR bs ss ⟨a, b, c, d, p, q, s, t⟩).2.1.length
    · have hD : doE bs ss ⟨a, b, c, d, p, q, s, t⟩ = 4 := by unfold doE; rw [if_pos hC, if_pos h4]
      have HRF := setTwo hR2 (.slice none 0 0) (.slice none 0 0)
      have hg := grTwo W P (.slice none 0 0) (.slice none 0 0)
      have hPO : DoPostD bs ss ⟨a, b, c, d, p, q, s, t⟩ w (.returned (.tuple #[.agg #[.slice none 0 0, .slice none 0 0], .slice none 0 0, .int .i64 0, .iface 64 (.int .i64 4)])) ((W.setCell ⟨P, 0, none⟩ (.slice none 0 0)).setCell ⟨P, 1, none⟩ (.slice none 0 0)) :=
        ⟨fun h => by rw [hD] at h; omega, fun _ => by rw [hD]; rfl, HW2.out.grown hg HW2.out.size (fun k hk => by cases hk; have := HP.out; omega)⟩
      have HHX : Hid (((W.setCell ⟨P, 0, none⟩ (.slice none 0 0)).setCell ⟨P, 1, none⟩ (.slice none 0 0)).heap[P]? = some (.cells #[.slice none 0 0, .slice none 0 0] 24 (0, 0))) := HRF
      have h4z : (400 : Int) < ((metR bs ss ⟨a, b, c, d, p, q, s, t⟩).2.1.length : Int) := by omega
      generalize (metR bs ss ⟨a, b, c, d, p, q, s, t⟩).2.1.length = tl at *
      generalize (metR bs ss ⟨a, b, c, d, p, q, s, t⟩).2.2 = lf at *
      clear HRF hg hR2 zf hRG HD1 HD2 HOT hD hC hR1 hR0
      go_wp2_with fail
      generalize ((W.setCell ⟨P, 0, none⟩ (.slice none 0 0)).setCell ⟨P, 1, none⟩ (.slice none 0 0)) = Z at *
      obtain ⟨r0, r1, -⟩ := rowTwo HHX.out
      exact bodyPost_ret (v := .tuple #[.agg #[.slice none 0 0, .slice none 0 0], .slice none 0 0, .int .i64 0, .iface 64 (.int .i64 4)]) (by simp [results, Try.results16, go_sem, r0, r1]) rfl hPO
    · have hD : doE bs ss ⟨a, b, c, d, p, q, s, t⟩ = 0 := by unfold doE; rw [if_pos hC, if_neg h4]
      have HRF := setTwo hR2 (.slice u1 m1 k1) (.slice u2 m2 k2)
      have hg := grTwo W P (.slice u1 m1 k1) (.slice u2 m2 k2)
      have hPO : DoPostD bs ss ⟨a, b, c, d, p, q, s, t⟩ w (.returned (.tuple #[.agg #[.slice u1 m1 k1, .slice u2 m2 k2], .slice tq (metR bs ss ⟨a, b, c, d, p, q, s, t⟩).2.1.length tc, .int .i64 (metR bs ss ⟨a, b, c, d, p, q, s, t⟩).2.2, .nilIface])) ((W.setCell ⟨P, 0, none⟩ (.slice u1 m1 k1)).setCell ⟨P, 1, none⟩ (.slice u2 m2 k2)) :=
        ⟨fun _ => ⟨u1, u2, m1, m2, k1, k2, _, rfl, (DL.other HD1.out hg hPV).mono HB.out.size, (DL.other HD2.out hg hPV).mono HB.out.size, OwnM.mono (kept_of HOT.out hg (fun z hz e => by cases e; have := (OwnM.lt HOT.out P hz).1; omega)) HB.out.size⟩, fun h => absurd hD h, HW2.out.grown hg HW2.out.size (fun k hk => by cases hk; have := HP.out; omega)⟩
      have HHX : Hid (((W.setCell ⟨P, 0, none⟩ (.slice u1 m1 k1)).setCell ⟨P, 1, none⟩ (.slice u2 m2 k2)).heap[P]? = some (.cells #[.slice u1 m1 k1, .slice u2 m2 k2] 24 (0, 0))) := HRF
      have h4z : ¬ (400 : Int) < ((metR bs ss ⟨a, b, c, d, p, q, s, t⟩).2.1.length : Int) := by omega
      have HPO : Hid (DoPostD bs ss ⟨a, b, c, d, p, q, s, t⟩ w (.returned (.tuple #[.agg #[.slice u1 m1 k1, .slice u2 m2 k2], .slice tq (metR bs ss ⟨a, b, c, d, p, q, s, t⟩).2.1.length tc, .int .i64 (metR bs ss ⟨a, b, c, d, p, q, s, t⟩).2.2, .nilIface])) ((W.setCell ⟨P, 0, none⟩ (.slice u1 m1 k1)).setCell ⟨P, 1, none⟩ (.slice u2 m2 k2))) := hPO
      clear hPO HRF hg hR2 zf hRG HD1 HD2 HOT hD hC hR1 hR0
      generalize (metR bs ss ⟨a, b, c, d, p, q, s, t⟩).2.1.length = tl at *
      generalize (metR bs ss ⟨a, b, c, d, p, q, s, t⟩).2.2 = lf at *
      go_wp2_with fail
      generalize ((W.setCell ⟨P, 0, none⟩ (.slice u1 m1 k1)).setCell ⟨P, 1, none⟩ (.slice u2 m2 k2)) = Z at *
      obtain ⟨r0, r1, -⟩ := rowTwo HHX.out
      exact bodyPost_ret (v := .tuple #[.agg #[.slice u1 m1 k1, .slice u2 m2 k2], .slice tq tl tc, .int .i64 lf, .nilIface]) (by simp [results, Try.results16, go_sem, r0, r1]) rfl HPO.out
  · have e2 := i2 hC
    subst e2
    have hD : doE bs ss ⟨a, b, c, d, p, q, s, t⟩ = comeE bs ss ⟨a, b, c, d, p, q, s, t⟩ := by unfold doE; rw [if_neg hC]
    have hBa : Below w1.heap.size w1 (w1.alloc (.cells #[.slice none 0 0, .slice none 0 0] 24)) := (Below.refl _ _).alloc (Nat.le_refl _) _
    have hR2 : (w1.alloc (.cells #[.slice none 0 0, .slice none 0 0] 24)).heap[P]? = some (.cells #[.slice none 0 0, .slice none 0 0] 24 (0, 0)) := (hBa.block P hP1).trans hR1
    have HW2 : Hid (Below w.heap.size w (w1.alloc (.cells #[.slice none 0 0, .slice none 0 0] 24))) := HW1.out.trans (hBa.mono HW1.out.size)
    rw [errV_of hC]
    clear i1 i2 b1 hBa HTK
    go_upto_region 2 with fail
    generalize w1.alloc (.cells #[.slice none 0 0, .slice none 0 0] 24) = W at *
    generalize w1.heap.size = G at *
    obtain ⟨z0, z1, zf⟩ := rowTwo hR2
    have zf0 := zf 0
    have zf1 := zf 1
    have HRF := setTwo hR2 (.slice none 0 0) (.slice none 0 0)
    have hg := grTwo W P (.slice none 0 0) (.slice none 0 0)
    have hPO : DoPostD bs ss ⟨a, b, c, d, p, q, s, t⟩ w (.returned (.tuple #[.agg #[.slice none 0 0, .slice none 0 0], .slice none 0 0, .int .i64 0, .iface 64 (.int .i64 (comeE bs ss ⟨a, b, c, d, p, q, s, t⟩))])) ((W.setCell ⟨P, 0, none⟩ (.slice none 0 0)).setCell ⟨P, 1, none⟩ (.slice none 0 0)) :=
      ⟨fun h => by rw [hD] at h; exact absurd h hC, fun _ => by rw [hD, errV_of hC], HW2.out.grown hg HW2.out.size (fun k hk => by cases hk; have := HP.out; omega)⟩
    have HHX : Hid (((W.setCell ⟨P, 0, none⟩ (.slice none 0 0)).setCell ⟨P, 1, none⟩ (.slice none 0 0)).heap[P]? = some (.cells #[.slice none 0 0, .slice none 0 0] 24 (0, 0))) := HRF
    have HPO : Hid (DoPostD bs ss ⟨a, b, c, d, p, q, s, t⟩ w (.returned (.tuple #[.agg #[.slice none 0 0, .slice none 0 0], .slice none 0 0, .int .i64 0, .iface 64 (.int .i64 (comeE bs ss ⟨a, b, c, d, p, q, s, t⟩))])) ((W.setCell ⟨P, 0, none⟩ (.slice none 0 0)).setCell ⟨P, 1, none⟩ (.slice none 0 0))) := hPO
    clear hPO HRF hg hR2 zf hD hR1 hR0
    go_wp2_with fail
    generalize ((W.setCell ⟨P, 0, none⟩ (.slice none 0 0)).setCell ⟨P, 1, none⟩ (.slice none 0 0)) = Z at *
    obtain ⟨r0, r1, -⟩ := rowTwo HHX.out
    exact bodyPost_ret (v := .tuple #[.agg #[.slice none 0 0, .slice none 0 0], .slice none 0 0, .int .i64 0, .iface 64 (.int .i64 (comeE bs ss ⟨a, b, c, d, p, q, s, t⟩))]) (by simp [results, Try.results16, go_sem, r0, r1]) rfl HPO.out
def DoPost (bs ss : List L) (o : O) (w : World) (e : Ending) (w' : World) : Prop :=
  (doE bs ss o = 0 → ∃ q1 q2 n1 n2 c1 c2 tv, e = .returned (.tuple #[.agg #[.slice q1 n1 c1, .slice q2 n2 c2], tv, .int .i64 (metR bs ss o).2.2, .nilIface]) ∧ LS w' (.slice q1 n1 c1) (metB bs ss o) ∧ LS w' (.slice q2 n2 c2) (metS bs ss o) ∧ OwnT w' w.heap.size tv (metR bs ss o).2.1) ∧
  (¬ doE bs ss o = 0 → e = .returned (.tuple #[.agg #[.slice none 0 0, .slice none 0 0], .slice none 0 0, .int .i64 0, errV (doE bs ss o)])) ∧ Below w.heap.size w w'
theorem do_any (q1 q2 : Option Addr) (n1 n2 c1 c2 : Nat) (bs ss : List L) (a b c d p q s t : Int) (w : World) (h1 : LS w (.slice q1 n1 c1) bs) (h2 : LS w (.slice q2 n2 c2) ss) :
    Calls Try.prog 16 #[.agg #[.slice q1 n1 c1, .slice q2 n2 c2], .agg #[.int .i64 a, .int .i64 b, .int .i64 c, .int .i64 d, .int .i64 p, .int .i64 q, .int .i64 s, .int .i64 t]] w fun e w' => DoPost bs ss ⟨a, b, c, d, p, q, s, t⟩ w e w' :=
  (do_anyD q1 q2 n1 n2 c1 c2 bs ss a b c d p q s t w h1 h2).mono fun _ _ ⟨i1, i2, i3⟩ => ⟨fun h => by
    obtain ⟨u1, u2, m1, m2, k1, k2, tv, g1, g2, g3, g4⟩ := i1 h
    exact ⟨u1, u2, m1, m2, k1, k2, tv, g1, g2.ls, g3.ls, g4⟩, i2, i3⟩
end Go.Proofs.Ytnjpjieedgmffaa.mee
