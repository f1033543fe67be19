/- The walk of MeetFair. -/
import Derived.Test.YtegbicmfgblphaaMSWalk
import Derived.Test.YtegbicmfgblphaaMeeWho
namespace Go.Proofs.Ytegbicmfgblphaa.mee
open Go.RowKit Go.Proofs.Ytegbicmfgblphaa.spn Go.Proofs.Ytegbicmfgblphaa.que Go.Proofs.Ytegbicmfgblphaa.sid Go.Proofs.Ytegbicmfgblphaa.bok
open Go.Proofs.Ytegbicmfgblphaa.ord (O oV mB mE chk meets_any)
open Go.Proofs.Ytegbicmfgblphaa.tickP (priceB sideB betOk betR better_V errB)

theorem sumT_take (ts : List T) (k : Nat) (hk : k < ts.length) : sumT (ts.take (k + 1)) = sumT (ts.take k) + ts[k]!.qty := by
  rw [List.take_succ_eq_append_getElem hk, sumT_append, getE _ _ hk]; simp only [sumT]; omega
theorem sumT_pos (ts : List T) (h : ∀ x ∈ ts, 1 ≤ x.qty) : 0 ≤ sumT ts := by
  induction ts with
  | nil => simp [sumT]
  | cons x t ih =>
    have h1 := h x (by simp)
    have h2 := ih (fun y hy => h y (by simp [hy]))
    simp only [sumT]; omega
theorem sumT_bound (ts : List T) (h : ∀ x ∈ ts, 1 ≤ x.qty) (k : Nat) : 0 ≤ sumT (ts.take k) ∧ sumT (ts.take k) ≤ sumT ts := by
  have h1 := sumT_pos (ts.take k) (fun f hf => h f (List.mem_of_mem_take hf))
  have h2 := sumT_pos (ts.drop k) (fun f hf => h f (List.mem_of_mem_drop hf))
  have h3 := sumT_append (ts.take k) (ts.drop k)
  rw [List.take_append_drop] at h3
  omega
def factL : List L := [⟨100, [⟨1, 1, 5, 0, 0⟩]⟩]
def factO : O := ⟨2, 2, 1, 1, 101, 7, 0, 0⟩
theorem fact_come : comeE [] factL factO = 0 := by
  have hb : bookE [] factL = 0 := sw_book (n := 1) (qty := 5) (by omega) (by omega) (by omega)
  unfold comeE
  rw [if_pos hb, if_pos (show chk factO = 0 by decide), if_pos (show factO.stop = 0 by decide), if_neg (show ¬ inBook [] factL factO.id = true by decide)]
theorem fact_met : metR [] factL factO = ([], [⟨1, 2, 1, 2, 100, 5⟩], 2) := by
  have et : take 7 [(⟨1, 1, 5, 0, 0⟩ : R)] = ([⟨1, 1, 5⟩], []) := by
    have h := sw_take (q := 7) (qty := 5) (j := 1) (by decide) (by omega)
    rw [h]
    rfl
  show tkl factO factL 7 = _
  have e := tkl_gone (o := factO) (l := ⟨100, [⟨1, 1, 5, 0, 0⟩]⟩) (t := []) (q := 7) (by omega) (by decide) (by rw [et])
  rw [et] at e
  exact e
theorem fact_ls {w : World} {R0 L0 : Nat} (hr : w.heap[R0]? = some (.cells #[.int .i64 1, .int .i64 1, .int .i64 5, .int .i64 0, .int .i64 0] 28 (0, 0))) (hl : w.heap[L0]? = some (.cells #[.int .i64 100, .slice (some ⟨R0, 0, none⟩) 1 1] 31 (0, 0))) : LS w (.slice (some ⟨L0, 0, none⟩) 1 1) factL := by
  refine .inr ⟨L0, 0, 1, rfl, Nat.le_refl _, by omega, (Array.getElem?_eq_some_iff.1 hl).1, fun k hk => ?_⟩
  have hk0 : k = 0 := by simp [factL] at hk; exact hk
  subst hk0
  obtain ⟨l0, l1, -⟩ := rowTwo hl
  refine ⟨l0, _, l1, .inl (.inr ⟨R0, 0, 1, rfl, Nat.le_refl _, by omega, (Array.getElem?_eq_some_iff.1 hr).1, fun j hj i u hu => ?_⟩)⟩
  have hj0 : j = 0 := by simp [factL] at hj; exact hj
  subst hj0
  obtain ⟨r0, r1, r2, r3, r4, -⟩ := rowFive hr
  match i, hu with
  | 0, hu => simp [rV, factL] at hu; subst hu; exact r0
  | 1, hu => simp [rV, factL] at hu; subst hu; exact r1
  | 2, hu => simp [rV, factL] at hu; subst hu; exact r2
  | 3, hu => simp [rV, factL] at hu; subst hu; exact r3
  | 4, hu => simp [rV, factL] at hu; subst hu; exact r4
  | i + 5, hu => simp [rV, factL] at hu
/-- The fact: Do at that book. -/
theorem fact_do (w : World) (L0 : Nat) (h : LS w (.slice (some ⟨L0, 0, none⟩) 1 1) factL) :
    Calls Try.prog 8 #[.agg #[.slice none 0 0, .slice (some ⟨L0, 0, none⟩) 1 1], .agg #[.int .i64 2, .int .i64 2, .int .i64 1, .int .i64 1, .int .i64 101, .int .i64 7, .int .i64 0, .int .i64 0]] w fun e w' => ∃ u1 u2 m1 m2 k1 k2 g off tc, e = .returned (.tuple #[.agg #[.slice u1 m1 k1, .slice u2 m2 k2], .slice (some ⟨g, off, none⟩) 1 tc, .int .i64 2, .nilIface]) ∧ w'.cell? ⟨g, off + 3, none⟩ = some (.int .i64 2) ∧ w'.cell? ⟨g, off + 4, none⟩ = some (.int .i64 100) ∧ w'.cell? ⟨g, off + 5, none⟩ = some (.int .i64 5) ∧ Below w.heap.size w w' := by
  refine (do_any none (some ⟨L0, 0, none⟩) 0 1 0 1 [] factL 2 2 1 1 101 7 0 0 w (ls_nil _) h).mono ?_
  rintro e w' ⟨i1, -, i3⟩
  have hdo : doE [] factL factO = 0 := by unfold doE; rw [if_pos fact_come, fact_met]; rfl
  obtain ⟨u1, u2, m1, m2, k1, k2, tv, rfl, -, -, hT⟩ := i1 hdo
  have hm : metR [] factL ⟨2, 2, 1, 1, 101, 7, 0, 0⟩ = ([], [⟨1, 2, 1, 2, 100, 5⟩], 2) := fact_met
  rw [hm] at hT
  obtain ⟨tq, tc, htv⟩ := OwnM.form hT
  subst htv
  obtain ⟨g, off, htq, -, -, -, -, c3, c4, c5⟩ := OwnT.at hT (k := 0) (by simp)
  subst htq
  simp only [Nat.zero_mul, Nat.add_zero] at c3 c4 c5
  exact ⟨u1, u2, m1, m2, k1, k2, g, off, tc, by rw [hm]; rfl, c3, c4, c5, i3⟩

set_option maxRecDepth 100000 in
set_option maxHeartbeats 4000000 in
theorem fair_walk (q1 q2 : Option Addr) (n1 n2 c1 c2 : Nat) (bs ss : List L) (a b c d p q s t : Int) (w : World) (h1 : LS w (.slice q1 n1 c1) bs) (h2 : LS w (.slice q2 n2 c2) ss) :
    Calls Try.prog 3 #[.agg #[.slice q1 n1 c1, .slice q2 n2 c2], .agg #[.int .i64 a, .int .i64 b, .int .i64 c, .int .i64 d, .int .i64 p, .int .i64 q, .int .i64 s, .int .i64 t]] w fun e w' => e = .returned (.bool true) ∧ Below w.heap.size w w' := by
  obtain ⟨V, hV⟩ : ∃ V, V = (w.alloc (.cells #[.slice q1 n1 c1, .slice q2 n2 c2] 24)).alloc (.cells #[.int .i64 a, .int .i64 b, .int .i64 c, .int .i64 d, .int .i64 p, .int .i64 q, .int .i64 s, .int .i64 t] 26) := ⟨_, rfl⟩
  have HB : Hid (Below w.heap.size w V) := by rw [hV]; exact ((Below.refl _ _).alloc (Nat.le_refl _) _).alloc (by simp) _
  have v0 : V.cell? ⟨w.heap.size, 0, none⟩ = some (.slice q1 n1 c1) := by rw [hV]; simp [go_sem]
  have v1 : V.cell? ⟨w.heap.size, 1, none⟩ = some (.slice q2 n2 c2) := by rw [hV]; simp [go_sem]
  have hR : V.heap[w.heap.size + 1]? = some (.cells #[.int .i64 a, .int .i64 b, .int .i64 c, .int .i64 d, .int .i64 p, .int .i64 q, .int .i64 s, .int .i64 t] 26 (0, 0)) := by
    rw [hV]
    have := heap_alloc_new (w.alloc (.cells #[.slice q1 n1 c1, .slice q2 n2 c2] 24)) (.cells #[.int .i64 a, .int .i64 b, .int .i64 c, .int .i64 d, .int .i64 p, .int .i64 q, .int .i64 s, .int .i64 t] 26)
    simpa using this
  have hVs : V.heap.size = w.heap.size + 2 := by rw [hV]; simp
  have cel : ∀ i, V.cell? ⟨w.heap.size + 1, i, none⟩ = (#[.int .i64 a, .int .i64 b, .int .i64 c, .int .i64 d, .int .i64 p, .int .i64 q, .int .i64 s, .int .i64 t] : Array Value)[i]? := fun i => by simp [World.cell?, hR]
  have HSO : Hid (∀ W, Below V.heap.size V W → Below w.heap.size w W ∧ W.cell? ⟨w.heap.size, 0, none⟩ = some (.slice q1 n1 c1) ∧ W.cell? ⟨w.heap.size, 1, none⟩ = some (.slice q2 n2 c2) ∧ W.cell? ⟨w.heap.size + 1, 0, none⟩ = some (.int .i64 a) ∧ W.cell? ⟨w.heap.size + 1, 1, none⟩ = some (.int .i64 b) ∧ W.cell? ⟨w.heap.size + 1, 2, none⟩ = some (.int .i64 c) ∧ W.cell? ⟨w.heap.size + 1, 3, none⟩ = some (.int .i64 d) ∧ W.cell? ⟨w.heap.size + 1, 4, none⟩ = some (.int .i64 p) ∧ W.cell? ⟨w.heap.size + 1, 5, none⟩ = some (.int .i64 q) ∧ W.cell? ⟨w.heap.size + 1, 6, none⟩ = some (.int .i64 s) ∧ W.cell? ⟨w.heap.size + 1, 7, none⟩ = some (.int .i64 t)) :=
    fun W hW => ⟨HB.out.trans (hW.mono HB.out.size), keeps hW v0, keeps hW v1, keeps hW (cel 0), keeps hW (cel 1), keeps hW (cel 2), keeps hW (cel 3), keeps hW (cel 4), keeps hW (cel 5), keeps hW (cel 6), keeps hW (cel 7)⟩
  have HLS : Hid (LS w (.slice q1 n1 c1) bs ∧ LS w (.slice q2 n2 c2) ss) := ⟨h1, h2⟩
  clear h1 h2 hR v0 v1 cel
  -- the constant book
  obtain ⟨V1, hV1⟩ : ∃ V1, V1 = V.alloc (.cells #[.int .i64 1, .int .i64 1, .int .i64 5, .int .i64 0, .int .i64 0] 28) := ⟨_, rfl⟩
  obtain ⟨V2, hV2⟩ : ∃ V2, V2 = V1.alloc (.cells #[.int .i64 100, .slice (some ⟨w.heap.size + 2, 0, none⟩) 1 1] 31) := ⟨_, rfl⟩
  obtain ⟨V3, hV3⟩ : ∃ V3, V3 = V2.alloc (.cells #[.slice none 0 0, .slice (some ⟨w.heap.size + 3, 0, none⟩) 1 1] 24) := ⟨_, rfl⟩
  have s1 : V1.heap.size = w.heap.size + 3 := by rw [hV1]; simp [hVs]
  have s2 : V2.heap.size = w.heap.size + 4 := by rw [hV2]; simp [s1]
  have b1 : Below V.heap.size V V1 := by rw [hV1]; exact (Below.refl _ _).alloc (Nat.le_refl _) _
  have b2 : Below V1.heap.size V1 V2 := by rw [hV2]; exact (Below.refl _ _).alloc (Nat.le_refl _) _
  have b3 : Below V2.heap.size V2 V3 := by rw [hV3]; exact (Below.refl _ _).alloc (Nat.le_refl _) _
  have hr1 : V1.heap[w.heap.size + 2]? = some (.cells #[.int .i64 1, .int .i64 1, .int .i64 5, .int .i64 0, .int .i64 0] 28 (0, 0)) := by rw [← hVs, hV1]; exact heap_alloc_new V _
  have hl2 : V2.heap[w.heap.size + 3]? = some (.cells #[.int .i64 100, .slice (some ⟨w.heap.size + 2, 0, none⟩) 1 1] 31 (0, 0)) := by rw [← s1, hV2]; exact heap_alloc_new V1 _
  have hb3 : V3.heap[w.heap.size + 4]? = some (.cells #[.slice none 0 0, .slice (some ⟨w.heap.size + 3, 0, none⟩) 1 1] 24 (0, 0)) := by rw [← s2, hV3]; exact heap_alloc_new V2 _
  have HFD : Hid (Calls Try.prog 8 #[.agg #[.slice none 0 0, .slice (some ⟨w.heap.size + 3, 0, none⟩) 1 1], .agg #[.int .i64 2, .int .i64 2, .int .i64 1, .int .i64 1, .int .i64 101, .int .i64 7, .int .i64 0, .int .i64 0]] V3 fun e w' => ∃ u1 u2 m1 m2 k1 k2 g off tc, e = .returned (.tuple #[.agg #[.slice u1 m1 k1, .slice u2 m2 k2], .slice (some ⟨g, off, none⟩) 1 tc, .int .i64 2, .nilIface]) ∧ w'.cell? ⟨g, off + 3, none⟩ = some (.int .i64 2) ∧ w'.cell? ⟨g, off + 4, none⟩ = some (.int .i64 100) ∧ w'.cell? ⟨g, off + 5, none⟩ = some (.int .i64 5) ∧ Below V3.heap.size V3 w') :=
    fact_do V3 (w.heap.size + 3) (fact_ls (R0 := w.heap.size + 2) (by rw [b3.block _ (by omega), b2.block _ (by omega)]; exact hr1) (by rw [b3.block _ (by omega)]; exact hl2))
  have HV3 : Hid (Below V.heap.size V V3) := (b1.trans (b2.mono b1.size)).trans (b3.mono (b1.trans (b2.mono b1.size)).size)
  obtain ⟨y0, y1, -⟩ := rowTwo hb3
  clear s1 s2 b1 b2 b3 hr1 hl2 hb3
  go_enter Try.func3, Try.ntmps3
  go_upto_region 2 with fail
  rw [← hV, ← hV1, ← hV2, ← hV3]
  clear hV hV1 hV2 hV3
  go_wp2_with fail
  refine HFD.out.mono ?_
  rintro e w1 ⟨u1, u2, m1, m2, k1, k2, g, off, tc, rfl, f3, f4, f5, b1⟩
  have hBa : Below w1.heap.size w1 (w1.alloc (.cells #[.slice u1 m1 k1, .slice u2 m2 k2] 24)) := (Below.refl _ _).alloc (Nat.le_refl _) _
  have HW1 : Hid (Below V.heap.size V (w1.alloc (.cells #[.slice u1 m1 k1, .slice u2 m2 k2] 24))) := by
    have h := HV3.out.trans (b1.mono HV3.out.size)
    exact h.trans (hBa.mono h.size)
  have x3 := keeps hBa f3
  have x4 := keeps hBa f4
  have x5 := keeps hBa f5
  clear b1 hBa f3 f4 f5 y0 y1 HFD HV3
  go_upto_region 3 with fail
  generalize w1.alloc (.cells #[.slice u1 m1 k1, .slice u2 m2 k2] 24) = W1 at *
  go_upto_region 5 with fail
  clear x3 x4 x5
  obtain ⟨hw1, y0, y1, o0, o1, o2, o3, o4, o5, o6, o7⟩ := HSO.out W1 HW1.out
  go_wp2_with fail
  refine (do_any q1 q2 n1 n2 c1 c2 bs ss a b c d p q s t W1 (HLS.out.1.below hw1) (HLS.out.2.below hw1)).mono ?_
  rintro e w2 ⟨i1, i2, b2⟩
  have HW2 : Hid (Below V.heap.size V w2) := HW1.out.trans (b2.mono HW1.out.size)
  have HW2w : Hid (Below w.heap.size w w2) := hw1.trans (b2.mono hw1.size)
  clear y0 y1 o0 o1 o2 o3 o4 o5 o6 o7
  by_cases hD : doE bs ss ⟨a, b, c, d, p, q, s, t⟩ = 0
  rotate_left
  · have e2 := i2 hD
    subst e2
    rw [errV_of hD]
    clear i1 i2 b2
    go_wp2_with fail
    go_ret
    exact ⟨rfl, HW2w.out.alloc HW2w.out.size _⟩
  have hC : comeE bs ss ⟨a, b, c, d, p, q, s, t⟩ = 0 := by
    unfold doE at hD
    by_cases hC : comeE bs ss ⟨a, b, c, d, p, q, s, t⟩ = 0
    · exact hC
    · rw [if_neg hC] at hD; exact absurd hD hC
  obtain ⟨u1, u2, m1, m2, k1, k2, tv, rfl, L1, L2, OT⟩ := i1 hD
  obtain ⟨tq, tc, htv⟩ := OwnM.form OT
  subst htv
  obtain ⟨W, hW⟩ : ∃ W, W = w2.alloc (.cells #[.slice u1 m1 k1, .slice u2 m2 k2] 24) := ⟨_, rfl⟩
  have hBa : Below w2.heap.size w2 W := by rw [hW]; exact (Below.refl _ _).alloc (Nat.le_refl _) _
  have hRW : W.heap[w2.heap.size]? = some (.cells #[.slice u1 m1 k1, .slice u2 m2 k2] 24 (0, 0)) := by rw [hW]; exact heap_alloc_new w2 _
  have HW : Hid (Below V.heap.size V W) := HW2.out.trans (hBa.mono HW2.out.size)
  have HX : Hid (LS W (.slice u1 m1 k1) (metB bs ss ⟨a, b, c, d, p, q, s, t⟩) ∧ LS W (.slice u2 m2 k2) (metS bs ss ⟨a, b, c, d, p, q, s, t⟩)) := ⟨L1.below hBa, L2.below hBa⟩
  have HT : Hid (OwnT W W1.heap.size (.slice tq (metR bs ss ⟨a, b, c, d, p, q, s, t⟩).2.1.length tc) (metR bs ss ⟨a, b, c, d, p, q, s, t⟩).2.1) := OwnM.below OT hBa
  have HC : Hid (comeE bs ss ⟨a, b, c, d, p, q, s, t⟩ = 0) := hC
  obtain ⟨hbk, hck, -, -⟩ := come_zero hC
  have hqty := qty_of hck
  have HS : Hid (sumT (metR bs ss ⟨a, b, c, d, p, q, s, t⟩).2.1 + (metR bs ss ⟨a, b, c, d, p, q, s, t⟩).2.2 = q ∧ 0 ≤ (metR bs ss ⟨a, b, c, d, p, q, s, t⟩).2.2 ∧ 0 ≤ sumT (metR bs ss ⟨a, b, c, d, p, q, s, t⟩).2.1 ∧ ((metR bs ss ⟨a, b, c, d, p, q, s, t⟩).2.1.length : Int) ≤ sumT (metR bs ss ⟨a, b, c, d, p, q, s, t⟩).2.1 ∧ 1 ≤ q ∧ q ≤ 10000) := by
    obtain ⟨a1, a2, a3, a4⟩ := met_sum hC
    exact ⟨a1, a2, a3, a4, hqty⟩
  have hother := other_good (o := ⟨a, b, c, d, p, q, s, t⟩) hbk
  have HEA : Hid (∀ x ∈ (metR bs ss ⟨a, b, c, d, p, q, s, t⟩).2.1, x.taker = a ∧ 1 ≤ x.qty ∧ x.qty ≤ q ∧ mB ⟨a, b, c, d, p, q, s, t⟩ x.price = true ∧ priceB x.price = true) := fun x hx => by
    obtain ⟨a1, a2, a3, a4, l, hl, a5⟩ := tkl_each (o := ⟨a, b, c, d, p, q, s, t⟩) (otherL bs ss ⟨a, b, c, d, p, q, s, t⟩) q (by have := hqty; simp only [] at this; omega) hother x hx
    exact ⟨a1, a2, a3, a4, by rw [← a5]; exact price_of (hother l hl)⟩
  have HSO2 : Hid ((metR bs ss ⟨a, b, c, d, p, q, s, t⟩).2.1.Pairwise fun x y => betR c y.price x.price = false) := by
    obtain ⟨e1, e2, -⟩ := book_zero hbk
    have hp : ∀ s', (s' = 1 ∨ s' = 2) → (otherL bs ss ⟨a, b, c, d, p, q, s, t⟩).Pairwise (fun x y => ahd s' x.price y.price) → c = 3 - s' → (metR bs ss ⟨a, b, c, d, p, q, s, t⟩).2.1.Pairwise fun x y => betR c y.price x.price = false := fun s' hs' hpw hc' => by
      refine (tkl_sorted (o := ⟨a, b, c, d, p, q, s, t⟩) (s := s') (otherL bs ss ⟨a, b, c, d, p, q, s, t⟩) q (by have := hqty; simp only [] at this; omega) hother hpw).imp ?_
      intro x y hxy
      unfold ahd at hxy
      unfold betR
      subst hc'
      rcases hs' with rfl | rfl
      · simp at hxy ⊢
        intro _
        omega
      · simp at hxy ⊢
        intro _
        omega
    have hside : c = 1 ∨ c = 2 := by
      have h := (ord.chk_zero hck).1
      simp [ord.headB] at h
      omega
    rcases hside with h | h
    · refine hp 2 (.inr rfl) ?_ (by omega)
      have e : otherL bs ss ⟨a, b, c, d, p, q, s, t⟩ = ss := if_pos h
      rw [e]
      exact (sgo_ahd (schk_zero e2).1 ss none (schk_zero e2).2.1).1
    · refine hp 1 (.inl rfl) ?_ (by omega)
      have e : otherL bs ss ⟨a, b, c, d, p, q, s, t⟩ = bs := if_neg (by show ¬ c = 1; omega)
      rw [e]
      exact (sgo_ahd (schk_zero e1).1 bs none (schk_zero e1).2.1).1
  have HCK : Hid (chk ⟨a, b, c, d, p, q, s, t⟩ = 0 ∧ bookE bs ss = 0) := ⟨hck, hbk⟩
  have HFIN : Hid (bookE (metB bs ss ⟨a, b, c, d, p, q, s, t⟩) (metS bs ss ⟨a, b, c, d, p, q, s, t⟩) = 0 ∧ comeE (metB bs ss ⟨a, b, c, d, p, q, s, t⟩) (metS bs ss ⟨a, b, c, d, p, q, s, t⟩) ⟨a, b, c, d, p, q, s, t⟩ = 0 ∧ totL (metB bs ss ⟨a, b, c, d, p, q, s, t⟩) + totL (metS bs ss ⟨a, b, c, d, p, q, s, t⟩) + sumT (metR bs ss ⟨a, b, c, d, p, q, s, t⟩).2.1 = totL bs + totL ss ∧ (¬ (metR bs ss ⟨a, b, c, d, p, q, s, t⟩).2.2 = 0 → sumT (metR (metB bs ss ⟨a, b, c, d, p, q, s, t⟩) (metS bs ss ⟨a, b, c, d, p, q, s, t⟩) ⟨a, b, c, d, p, q, s, t⟩).2.1 = 0)) := ⟨met_book hC, met_come hC, met_tot hC, met_more hC⟩
  clear i1 i2 b2 L1 L2 OT hBa hD hC hbk hck hqty hother
  go_upto_region 6 with fail
  rw [← hW]
  clear hW
  generalize w2.heap.size = Y at *
  obtain ⟨yx0, yx1, -⟩ := rowTwo hRW
  generalize hTS : (metR bs ss ⟨a, b, c, d, p, q, s, t⟩).2.1 = ts at *
  have HTS : Hid ((metR bs ss ⟨a, b, c, d, p, q, s, t⟩).2.1 = ts) := hTS
  clear hTS
  generalize hLF : (metR bs ss ⟨a, b, c, d, p, q, s, t⟩).2.2 = lf at *
  generalize htl : ts.length = tl at *
  have HTL : Hid (ts.length = tl) := htl
  clear htl hLF hRW
  go_wp2_with fail
  go_loopg [14, 15, 16, 17, 18, 19] tl (fun gg s14 s15 _ _ _ _ wr => ∃ kk : Nat, kk ≤ tl ∧ tl - kk ≤ gg ∧ s15 = .int .i64 kk ∧ s14 = .int .i64 (sumT (ts.take kk)) ∧ Aside (Below W.heap.size W wr))
  case atStart => exact ⟨0, Nat.zero_le _, by omega, rfl, rfl, Below.refl _ _⟩
  case round =>
    obtain ⟨kk, hkk, hg, rfl, rfl, BW⟩ := hrel
    have HBW : Hid (Below V.heap.size V wr) := HW.out.trans (BW.out.mono HW.out.size)
    obtain ⟨hwr, y0, y1, o0, o1, o2, o3, o4, o5, o6, o7⟩ := HSO.out wr HBW.out
    by_cases hlt : kk < tl
    · have hltz : (kk : Int) < (tl : Int) := by omega
      have hkt : kk < ts.length := by rw [HTL.out]; exact hlt
      obtain ⟨g, off, htq, -, z0, z1, z2, z3, z4, z5⟩ := OwnT.at (by have h := HT.out; rw [← HTL.out] at h; exact h) hkt
      subst htq
      have hea := HEA.out ts[kk]! (by rw [getE _ _ hkt]; exact List.getElem_mem hkt)
      obtain ⟨px, hpx⟩ : ∃ px, ts[kk]!.price = px := ⟨_, rfl⟩
      obtain ⟨qx, hqx⟩ : ∃ qx, ts[kk]!.qty = qx := ⟨_, rfl⟩
      rw [hpx] at z4
      rw [hqx] at z5
      rw [hea.1] at z1
      rw [hpx, hqx] at hea
      have t1 := keeps BW.out z1
      have t4 := keeps BW.out z4
      have t5 := keeps BW.out z5
      have HEX : Hid (1 ≤ qx ∧ qx ≤ q ∧ mB ⟨a, b, c, d, p, q, s, t⟩ px = true ∧ priceB px = true) := hea.2
      have hin1 : ¬ ((kk : Int) < 0) := Int.not_lt.2 (Int.natCast_nonneg _)
      have HMT : Hid (∀ U, Below wr.heap.size wr U → Calls Try.prog 9 #[.agg #[.int .i64 a, .int .i64 b, .int .i64 c, .int .i64 d, .int .i64 p, .int .i64 q, .int .i64 s, .int .i64 t], .int .i64 px] U fun e w' => e = .returned (.tuple #[.bool true, .nilIface]) ∧ Below wr.heap.size wr w') := fun U hU => by
        refine (meets_any ⟨a, b, c, d, p, q, s, t⟩ px U).mono ?_
        rintro e w' ⟨rfl, hb⟩
        have e0 : mE ⟨a, b, c, d, p, q, s, t⟩ px = 0 := by unfold mE; rw [if_pos HCK.out.1, show ord.prB px = true from HEX.out.2.2.2]; rfl
        rw [e0, if_pos rfl, HEX.out.2.2.1]
        exact ⟨rfl, hU.trans (hb.mono hU.size)⟩
      have HM : Hid (tl - (kk + 1) < gk ∧ kk < tl) := ⟨by omega, hlt⟩
      have SO : Hid (∀ W, Below wr.heap.size wr W → (Below wr.heap.size wr W ∧ W.cell? ⟨w.heap.size + 1, 0, none⟩ = some (.int .i64 a) ∧ W.cell? ⟨w.heap.size + 1, 1, none⟩ = some (.int .i64 b) ∧ W.cell? ⟨w.heap.size + 1, 2, none⟩ = some (.int .i64 c) ∧ W.cell? ⟨w.heap.size + 1, 3, none⟩ = some (.int .i64 d) ∧ W.cell? ⟨w.heap.size + 1, 4, none⟩ = some (.int .i64 p) ∧ W.cell? ⟨w.heap.size + 1, 5, none⟩ = some (.int .i64 q) ∧ W.cell? ⟨w.heap.size + 1, 6, none⟩ = some (.int .i64 s) ∧ W.cell? ⟨w.heap.size + 1, 7, none⟩ = some (.int .i64 t) ∧ W.cell? ⟨g, off + kk * 6 + 4, none⟩ = some (.int .i64 px))) := fun W hW => ⟨hW, keeps hW o0, keeps hW o1, keeps hW o2, keeps hW o3, keeps hW o4, keeps hW o5, keeps hW o6, keeps hW o7, keeps hW t4⟩
      clear z0 z1 z2 z3 z4 z5 hea hkk hg hlt
      go_upto_region 12 with fail
      go_region_held3 (fun W => Below wr.heap.size wr W ∧ W.cell? ⟨w.heap.size + 1, 0, none⟩ = some (.int .i64 a) ∧ W.cell? ⟨w.heap.size + 1, 1, none⟩ = some (.int .i64 b) ∧ W.cell? ⟨w.heap.size + 1, 2, none⟩ = some (.int .i64 c) ∧ W.cell? ⟨w.heap.size + 1, 3, none⟩ = some (.int .i64 d) ∧ W.cell? ⟨w.heap.size + 1, 4, none⟩ = some (.int .i64 p) ∧ W.cell? ⟨w.heap.size + 1, 5, none⟩ = some (.int .i64 q) ∧ W.cell? ⟨w.heap.size + 1, 6, none⟩ = some (.int .i64 s) ∧ W.cell? ⟨w.heap.size + 1, 7, none⟩ = some (.int .i64 t) ∧ W.cell? ⟨g, off + kk * 6 + 4, none⟩ = some (.int .i64 px))
        ((refine SO.out _ ?_; (repeat' (first | with_reducible assumption | with_reducible refine bal ?_ _ | with_reducible refine Below.drew ?_ | with_reducible exact Below.refl _ _ | with_reducible exact Nat.le_refl _ | with_reducible exact Below.size (by with_reducible assumption)))))
        (first | (go_at_call 9; refine (HMT.out _ ?_).mono ?_; (repeat' (first | with_reducible assumption | with_reducible refine bal ?_ _ | with_reducible refine Below.drew ?_ | with_reducible exact Below.refl _ _ | with_reducible exact Nat.le_refl _ | with_reducible exact Below.size (by with_reducible assumption))); rintro x Wm ⟨rfl, hbm⟩))
      have m0 := keeps hbm o0
      have m2 := keeps hbm o2
      have m5 := keeps hbm o5
      have m1t := keeps hbm t1
      have m4t := keeps hbm t4
      have m5t := keeps hbm t5
      have hq1 : ¬ qx < 1 := by have := HEX.out.1; omega
      have hq2 : ¬ q < qx := by have := HEX.out.2.1; omega
      have hq3 : decide (qx < 1) = false := by simp [hq1]
      have hq4 : decide (q < qx) = false := by simp [hq2]
      have hsT := sumT_take ts kk hkt
      rw [hqx] at hsT
      have hsB := sumT_bound ts (fun x hx => (HEA.out x hx).2.1) kk
      have hsB2 := sumT_bound ts (fun x hx => (HEA.out x hx).2.1) (kk + 1)
      have hsA := HS.out
      have E1 : Hid (wrap64 (sumT (ts.take kk) + qx) = sumT (ts.take (kk + 1))) := by show _ = _; rw [← hsT]; unfold wrap64; omega
      have htl2 : tl ≤ 10000 := by omega
      have E2 : Hid (wrap64 ((kk : Int) + 1) = ((kk + 1 : Nat) : Int)) := by
        have h := HM.out.2
        show _ = _
        clear hsT hsB hsB2 hsA
        unfold wrap64
        omega
      have HBM : Hid (Below W.heap.size W Wm) := BW.out.trans (hbm.mono BW.out.size)
      obtain ⟨Sn, hSn⟩ : ∃ Sn, sumT (ts.take (kk + 1)) = Sn := ⟨_, rfl⟩
      have HSn : Hid (sumT (ts.take (kk + 1)) = Sn) := hSn
      rw [hSn] at E1
      clear hsT hsB hsB2 hsA hSn htl2 SO HMT o0 o1 o2 o3 o4 o5 o6 o7 t1 t4 t5 y0 y1 hbm
      generalize hS0 : sumT (ts.take kk) = S0 at *
      clear hS0
      go_wp2_with fail
      go_quiet (fail)
      go_upto_if 131 with fail
      by_cases hk0 : kk = 0
      · have hk0z : ¬ (0 : Int) < (kk : Int) := by omega
        have hk0n : ¬ 0 < kk := by omega
        have x1 := E1.out
        have x2 := E2.out
        clear hk0
        go_wp2_with fail
        go_roundg (tl - (kk + 1))
        case measure => exact HM.out.1
        case rel => exact ⟨kk + 1, HM.out.2, Nat.le_refl _, by go_num, by rw [HSn.out] <;> exact congrArg (Value.int .i64) E1.out, belowN HBM.out _⟩
      · obtain ⟨k1', hk1'⟩ : ∃ k1', kk = k1' + 1 := ⟨kk - 1, by omega⟩
        have hk1t : k1' < ts.length := by omega
        obtain ⟨g2, off2, htq2, -, -, -, -, -, zz4, -⟩ := OwnT.at (by have h := HT.out; rw [← HTL.out] at h; exact h) hk1t
        simp only [Option.some.injEq, Addr.mk.injEq, and_true] at htq2
        obtain ⟨rfl, rfl⟩ := htq2
        have mpp := keeps HBM.out zz4
        have hea2 := HEA.out ts[k1']! (by rw [getE _ _ hk1t]; exact List.getElem_mem hk1t)
        have hpw := List.pairwise_iff_getElem.1 HSO2.out k1' kk hk1t hkt (by omega)
        rw [← getE _ _ hk1t, ← getE _ _ hkt, hpx] at hpw
        generalize ts[k1']!.price = pp at *
        have hbo : betOk c px pp = true := by
          unfold betOk
          have h := (ord.chk_zero HCK.out.1).1
          simp [ord.headB] at h
          have h3 : sideB c = true := by simp [sideB]; omega
          rw [h3, HEX.out.2.2.2, hea2.2.2.2.2]
          rfl
        have HBT : Hid (∀ U, Below Wm.heap.size Wm U → Calls Try.prog 10 #[.int .i64 c, .int .i64 px, .int .i64 pp] U fun e w' => e = .returned (.tuple #[.bool false, .nilIface]) ∧ Below Wm.heap.size Wm w') := fun U hU => by
          have h := better_V Wm c px pp U hU
          rw [hbo, hpw] at h
          exact h
        have hk0z : (0 : Int) < (kk : Int) := by omega
        have hk0n : 0 < kk := by omega
        have X3 : Hid (wrap64 ((kk : Int) - 1) = (k1' : Int) ∧ IntKind.i64.wrap ((kk : Int) - 1) = (k1' : Int)) := by
          have h : wrap64 ((kk : Int) - 1) = (k1' : Int) := by have h5 := HM.out.2; have h6 := HS.out; rw [hk1']; unfold wrap64; omega
          exact ⟨h, by rw [IntKind.wrap_i64]; unfold wrap64 at h; exact h⟩
        have hk1l : (k1' : Int) < (tl : Int) := by omega
        have hk1p : ¬ ((k1' : Int) < 0) := Int.not_lt.2 (Int.natCast_nonneg _)
        clear hk0 hk1' hk1t hea2 hpw hbo zz4
        have SO : Hid (∀ W, Below Wm.heap.size Wm W → (Below Wm.heap.size Wm W ∧ W.cell? ⟨w.heap.size + 1, 2, none⟩ = some (.int .i64 c) ∧ W.cell? ⟨g, off + kk * 6 + 4, none⟩ = some (.int .i64 px) ∧ W.cell? ⟨g, off + k1' * 6 + 4, none⟩ = some (.int .i64 pp))) := fun W hW => ⟨hW, keeps hW m2, keeps hW m4t, keeps hW mpp⟩
        obtain ⟨x3, x4⟩ := X3.out
        go_upto_region 16 with fail
        go_region_held3 (fun W => Below Wm.heap.size Wm W ∧ W.cell? ⟨w.heap.size + 1, 2, none⟩ = some (.int .i64 c) ∧ W.cell? ⟨g, off + kk * 6 + 4, none⟩ = some (.int .i64 px) ∧ W.cell? ⟨g, off + k1' * 6 + 4, none⟩ = some (.int .i64 pp))
          ((refine SO.out _ ?_; (repeat' (first | with_reducible assumption | with_reducible refine bal ?_ _ | with_reducible refine Below.drew ?_ | with_reducible exact belowN (Below.refl _ _) _ | with_reducible exact Below.refl _ _ | with_reducible exact Nat.le_refl _ | with_reducible exact Below.size (by with_reducible assumption)))))
          (first | (go_at_call 10; refine (HBT.out _ ?_).mono ?_; (repeat' (first | with_reducible assumption | with_reducible refine bal ?_ _ | with_reducible refine Below.drew ?_ | with_reducible exact belowN (Below.refl _ _) _ | with_reducible exact Below.refl _ _ | with_reducible exact Nat.le_refl _ | with_reducible exact Below.size (by with_reducible assumption))); rintro x Wn ⟨rfl, hbn⟩))
        have n5t := keeps hbn m5t
        have HBN : Hid (Below W.heap.size W Wn) := HBM.out.trans (hbn.mono HBM.out.size)
        have x1 := E1.out
        have x2 := E2.out
        clear hbn SO HBT x3 x4 m0 m2 m5 m1t m4t m5t mpp hk0z hk0n hk1l hk1p
        go_wp2_with fail
        go_roundg (tl - (kk + 1))
        case measure => exact HM.out.1
        case rel => exact ⟨kk + 1, HM.out.2, Nat.le_refl _, by go_num, by rw [HSn.out] <;> exact congrArg (Value.int .i64) E1.out, HBN.out⟩
    · have hltz : ¬ (kk : Int) < (tl : Int) := by omega
      have hS : sumT (ts.take kk) = sumT ts := by rw [List.take_of_length_le (by rw [HTL.out]; omega)]
      rw [hS]
      clear hS
      have x0 := keeps BW.out yx0
      have x1 := keeps BW.out yx1
      have hsA := HS.out
      have HSq : Hid (wrap64 (sumT ts + lf) = q) := by show _ = _; rw [hsA.1]; unfold wrap64; omega
      have HXr : Hid (LS wr (.slice u1 m1 k1) (metB bs ss ⟨a, b, c, d, p, q, s, t⟩) ∧ LS wr (.slice u2 m2 k2) (metS bs ss ⟨a, b, c, d, p, q, s, t⟩)) := ⟨HX.out.1.below BW.out, HX.out.2.below BW.out⟩
      have HCO : Hid (Calls Try.prog 11 #[.agg #[.slice q1 n1 c1, .slice q2 n2 c2], .agg #[.int .i64 a, .int .i64 b, .int .i64 c, .int .i64 d, .int .i64 p, .int .i64 q, .int .i64 s, .int .i64 t]] wr fun e w' => e = .returned (.tuple #[.int .i64 (sumT ts), .nilIface]) ∧ Below wr.heap.size wr w') := by
        have h := could_any q1 q2 n1 n2 c1 c2 bs ss a b c d p q s t wr (HLS.out.1.below hwr) (HLS.out.2.below hwr)
        rw [if_pos HC.out, HC.out, HTS.out] at h
        exact h
      clear hkk hg hlt hsA
      go_wp2_with fail
      refine HCO.out.mono ?_
      rintro e w3 ⟨rfl, b3⟩
      have HB3 : Hid (Below V.heap.size V w3) := HBW.out.trans (b3.mono HBW.out.size)
      have HX3 : Hid (LS w3 (.slice u1 m1 k1) (metB bs ss ⟨a, b, c, d, p, q, s, t⟩) ∧ LS w3 (.slice u2 m2 k2) (metS bs ss ⟨a, b, c, d, p, q, s, t⟩)) := ⟨HXr.out.1.below b3, HXr.out.2.below b3⟩
      have j0 := keeps b3 x0
      have j1 := keeps b3 x1
      clear b3 y0 y1 o0 o1 o2 o3 o4 o5 o6 o7 x0 x1 HXr hwr HCO
      obtain ⟨hw3, y0, y1, o0, o1, o2, o3, o4, o5, o6, o7⟩ := HSO.out w3 HB3.out
      have xq := HSq.out
      generalize sumT ts = su at *
      have xq2 : IntKind.i64.wrap (su + lf) = q := (IntWalk.i64_left _).trans xq
      have hsubeq : (su != su) = false := by simp
      go_wp2_with fail
      refine (bok.check_any u1 u2 m1 m2 k1 k2 _ _ w3 HX3.out.1 HX3.out.2).mono ?_
      rintro e w4 ⟨rfl, b4⟩
      rw [HFIN.out.1, errV_zero]
      have HB4 : Hid (Below V.heap.size V w4) := HB3.out.trans (b4.mono HB3.out.size)
      have HX4 : Hid (LS w4 (.slice u1 m1 k1) (metB bs ss ⟨a, b, c, d, p, q, s, t⟩) ∧ LS w4 (.slice u2 m2 k2) (metS bs ss ⟨a, b, c, d, p, q, s, t⟩)) := ⟨HX3.out.1.below b4, HX3.out.2.below b4⟩
      have i0 := keeps b4 j0
      have i1 := keeps b4 j1
      clear b4 y0 y1 o0 o1 o2 o3 o4 o5 o6 o7 j0 j1 HX3 hw3
      obtain ⟨hw4, y0, y1, o0, o1, o2, o3, o4, o5, o6, o7⟩ := HSO.out w4 HB4.out
      go_wp2_with fail
      refine (whole_any q1 q2 n1 n2 c1 c2 bs ss w4 (HLS.out.1.below hw4) (HLS.out.2.below hw4) HCK.out.2).mono ?_
      rintro e w5 ⟨rfl, b5⟩
      have HB5 : Hid (Below V.heap.size V w5) := HB4.out.trans (b5.mono HB4.out.size)
      have HX5 : Hid (LS w5 (.slice u1 m1 k1) (metB bs ss ⟨a, b, c, d, p, q, s, t⟩) ∧ LS w5 (.slice u2 m2 k2) (metS bs ss ⟨a, b, c, d, p, q, s, t⟩)) := ⟨HX4.out.1.below b5, HX4.out.2.below b5⟩
      have j0 := keeps b5 i0
      have j1 := keeps b5 i1
      clear b5 y0 y1 o0 o1 o2 o3 o4 o5 o6 o7 i0 i1 HX4 hw4
      go_wp2_with fail
      refine (whole_any u1 u2 m1 m2 k1 k2 _ _ w5 HX5.out.1 HX5.out.2 HFIN.out.1).mono ?_
      rintro e w6 ⟨rfl, b6⟩
      have HB6 : Hid (Below V.heap.size V w6) := HB5.out.trans (b6.mono HB5.out.size)
      have HX6 : Hid (LS w6 (.slice u1 m1 k1) (metB bs ss ⟨a, b, c, d, p, q, s, t⟩) ∧ LS w6 (.slice u2 m2 k2) (metS bs ss ⟨a, b, c, d, p, q, s, t⟩)) := ⟨HX5.out.1.below b6, HX5.out.2.below b6⟩
      have i0 := keeps b6 j0
      have i1 := keeps b6 j1
      clear b6 j0 j1 HX5
      obtain ⟨hw6, y0, y1, o0, o1, o2, o3, o4, o5, o6, o7⟩ := HSO.out w6 HB6.out
      have HTO : Hid (wrap64 (totL bs + totL ss - (totL (metB bs ss ⟨a, b, c, d, p, q, s, t⟩) + totL (metS bs ss ⟨a, b, c, d, p, q, s, t⟩))) = su) := by
        have h := HFIN.out.2.2.1
        have h2 := HS.out
        show _ = _
        unfold wrap64
        omega
      have xt := HTO.out
      generalize totL bs + totL ss = TB at *
      generalize totL (metB bs ss ⟨a, b, c, d, p, q, s, t⟩) + totL (metS bs ss ⟨a, b, c, d, p, q, s, t⟩) = TX at *
      by_cases hlf : lf = 0
      · subst hlf
        go_wp2_with fail
        go_ret
        exact ⟨rfl, hw6⟩
      · have hlb : (lf == 0) = false := by simp [hlf]
        have HCX : Hid (Calls Try.prog 11 #[.agg #[.slice u1 m1 k1, .slice u2 m2 k2], .agg #[.int .i64 a, .int .i64 b, .int .i64 c, .int .i64 d, .int .i64 p, .int .i64 q, .int .i64 s, .int .i64 t]] w6 fun e w' => e = .returned (.tuple #[.int .i64 0, .nilIface]) ∧ Below w6.heap.size w6 w') := by
          have h := could_any u1 u2 m1 m2 k1 k2 (metB bs ss ⟨a, b, c, d, p, q, s, t⟩) (metS bs ss ⟨a, b, c, d, p, q, s, t⟩) a b c d p q s t w6 HX6.out.1 HX6.out.2
          rw [if_pos HFIN.out.2.1, HFIN.out.2.1, HFIN.out.2.2.2 hlf] at h
          exact h
        go_wp2_with fail
        refine HCX.out.mono ?_
        rintro e w7 ⟨rfl, b7⟩
        have hw7 : Below w.heap.size w w7 := hw6.trans (b7.mono hw6.size)
        clear b7
        go_wp2_with fail
        go_ret
        exact ⟨rfl, hw7⟩
end Go.Proofs.Ytegbicmfgblphaa.mee
