/- Contracts over this seat's translation: (*self.visit).drop. -/
import Derived.Test.YtnjpjieedgmffaaSelMem
import Derived.Test.YtnjpjieedgmffaaSidIns2
import Derived.Test.YtnjpjieedgmffaaBokCancel
import Derived.Test.YtnjpjieedgmffaaBokFind2
namespace Go.Proofs.Ytnjpjieedgmffaa.slf
open Go.RowKit Go.Proofs.Ytnjpjieedgmffaa.spn Go.Proofs.Ytnjpjieedgmffaa.que Go.Proofs.Ytnjpjieedgmffaa.sid Go.Proofs.Ytnjpjieedgmffaa.bok Go.Proofs.Ytnjpjieedgmffaa.mee
open Go.Proofs.Ytnjpjieedgmffaa.ord (O oV mB mE chk)
theorem hidD {P : Prop} (h : P) : Hid P := h

/-- book.Cancel at the first rest of the other side. -/
theorem cancel_first (o : O) (q1 q2 : Option Addr) (n1 n2 c1 c2 : Nat) (bs ss : List L) (p : Int) (r : R) (rs : List R) (t : List L) (w : World) (h1 : LS w (.slice q1 n1 c1) (repB o bs (⟨p, r :: rs⟩ :: t))) (h2 : LS w (.slice q2 n2 c2) (repS o ss (⟨p, r :: rs⟩ :: t))) (h0 : bookE (repB o bs (⟨p, r :: rs⟩ :: t)) (repS o ss (⟨p, r :: rs⟩ :: t)) = 0) :
    Calls Try.prog 42 #[.agg #[.slice q1 n1 c1, .slice q2 n2 c2], .int .i64 r.id] w fun e w' => ∃ u1 u2 m1 m2 d1 d2 x1 x2 x3 x4 x5, e = .returned (.tuple #[.agg #[.slice u1 m1 d1, .slice u2 m2 d2], .agg #[.int .i64 x1, .int .i64 x2, .int .i64 x3, .int .i64 x4, .int .i64 x5], .nilIface]) ∧ DL w' w.heap.size (.slice u1 m1 d1) (repB o bs (stepL p rs t)) ∧ DL w' w.heap.size (.slice u2 m2 d2) (repS o ss (stepL p rs t)) ∧ Below w.heap.size w w' := by
  have hX : ∀ s, schk s (⟨p, r :: rs⟩ :: t) = 0 → (Lit.int .i64 r.id).wf = true := fun s hs => side_wf hs r (by rw [allR_cons]; simp)
  have hin : 0 < (r :: rs).length := by simp
  unfold repB repS at *
  by_cases hs : o.side = 1
  · simp only [if_pos hs] at *
    obtain ⟨e1, e2, -⟩ := book_zero h0
    obtain ⟨f1, f2⟩ := first_find e2
    refine (cancel_in2D q1 q2 n1 n2 c1 c2 bs (⟨p, r :: rs⟩ :: t) r.id (hX 2 e2) 0 0 w h1 h2 h0 (first_not h0 rfl) (by simp) (by simp) f1 f2).mono ?_
    rintro e w' ⟨u1, u2, m1, m2, d1, d2, rfl, g1, g2, g3⟩
    rw [first_drop] at g2
    exact ⟨u1, u2, m1, m2, d1, d2, _, _, _, _, _, rfl, g1, g2, g3⟩
  · simp only [if_neg hs] at *
    obtain ⟨e1, e2, -⟩ := book_zero h0
    obtain ⟨f1, f2⟩ := first_find e1
    refine (cancel_in1D q1 q2 n1 n2 c1 c2 (⟨p, r :: rs⟩ :: t) ss r.id (hX 1 e1) 0 0 w h1 h2 h0 (by simp) (by simp) f1 f2).mono ?_
    rintro e w' ⟨u1, u2, m1, m2, d1, d2, rfl, g1, g2, g3⟩
    rw [first_drop] at g1
    exact ⟨u1, u2, m1, m2, d1, d2, _, _, _, _, _, rfl, g1, g2, g3⟩

theorem drop_taker (VB base : Nat) (q1 q2 : Option Addr) (n1 n2 c1 c2 : Nat) (tv iv : Value) (left gone id : Int) (w : World)
    (hrow : w.heap[VB]? = some (.cells #[.slice q1 n1 c1, .slice q2 n2 c2, tv, .int .i64 left, .int .i64 gone, iv] 53 (0, 0))) (hbase : base ≤ w.heap.size) :
    Calls Try.prog 25 #[.pointer (some ⟨VB, 0, none⟩), .int .i64 id, .int .i64 1] w fun e w' => e = .returned .nilIface ∧ w'.heap[VB]? = some (.cells #[.slice q1 n1 c1, .slice q2 n2 c2, tv, .int .i64 0, .int .i64 left, iv] 53 (0, 0)) ∧ w.grownBy w' (some VB) ∧ FarV w w' base VB := by
  obtain ⟨x0, x1, x2, x3, x4, x5, xf⟩ := rowV hrow
  have xf3 := xf 3
  have xf4 := xf 4
  have hg : w.grownBy ((w.setCell ⟨VB, 4, none⟩ (.int .i64 left)).setCell ⟨VB, 3, none⟩ (.int .i64 0)) (some VB) := gr_trans (gr_setCell _ _ _ _) (gr_setCell _ _ _ _)
  have HPO := hidD (show _ ∧ _ ∧ _ from ⟨v_at3 (v_at4 hrow (.int .i64 left)) (.int .i64 0), hg, FarV.grown (VB := VB) hg hbase (fun k hk => .inl (by cases hk; rfl))⟩)
  clear hg xf hrow
  go_enter Try.func25, Try.ntmps25
  go_wp2_with fail
  go_ret
  exact ⟨rfl, HPO.out⟩

set_option maxRecDepth 100000 in
set_option maxHeartbeats 4000000 in
theorem drop_maker (w0 : World) (m : Int) (hm : m = 2 ∨ m = 3) (VB base : Nat) (o : O) (q1 q2 : Option Addr) (n1 n2 c1 c2 : Nat) (tv iv : Value) (bs ss : List L) (p : Int) (r : R) (rs : List R) (t : List L) (ts : List T) (ids : List Int) (left gone : Int) (w : World)
    (hrow : w.heap[VB]? = some (.cells #[.slice q1 n1 c1, .slice q2 n2 c2, tv, .int .i64 left, .int .i64 gone, iv] 53 (0, 0)))
    (h1 : LS w (.slice q1 n1 c1) (repB o bs (⟨p, r :: rs⟩ :: t))) (h2 : LS w (.slice q2 n2 c2) (repS o ss (⟨p, r :: rs⟩ :: t))) (h0 : bookE (repB o bs (⟨p, r :: rs⟩ :: t)) (repS o ss (⟨p, r :: rs⟩ :: t)) = 0) (hT : OwnT w base tv ts) (hI : OwnI w base iv ids) (hVb : VB < base) (hbase : base ≤ w.heap.size) (hids : ids.length ≤ 1000) :
    Calls Try.prog 25 #[.pointer (some ⟨VB, 0, none⟩), .int .i64 r.id, .int .i64 m] w fun e w' => e = .returned .nilIface ∧ FarV w w' base VB ∧ ∃ u1 u2 m1 m2 d1 d2 iv', w'.heap[VB]? = some (.cells #[.slice u1 m1 d1, .slice u2 m2 d2, tv, .int .i64 (if m = 2 then left else 0), .int .i64 (if m = 2 then gone else left), iv'] 53 (0, 0)) ∧ SafeS w0 w' base (.slice u1 m1 d1) (repB o bs (stepL p rs t)) ∧ SafeS w0 w' base (.slice u2 m2 d2) (repS o ss (stepL p rs t)) ∧ OwnT w' base tv ts ∧ OwnI w' base iv' (ids ++ [r.id]) := by
  have HCA := hidD (cancel_first o q1 q2 n1 n2 c1 c2 bs ss p r rs t w h1 h2 h0)
  obtain ⟨x0, x1, x2, x3, x4, x5, -⟩ := rowV hrow
  have hmb : (m != 1) = true := by rcases hm with rfl | rfl <;> rfl
  have HNUM := hidD (show VB < base ∧ base ≤ w.heap.size ∧ ids.length ≤ 1000 ∧ VB < w.heap.size from ⟨hVb, hbase, hids, by omega⟩)
  have HTw := hidD hT
  have HIw := hidD hI
  have HM := hidD hm
  obtain ⟨rid, hrid⟩ : ∃ rid, r.id = rid := ⟨_, rfl⟩
  rw [hrid] at HCA ⊢
  obtain ⟨BX, hBX⟩ : ∃ BX, repB o bs (stepL p rs t) = BX := ⟨_, rfl⟩
  obtain ⟨SX, hSX⟩ : ∃ SX, repS o ss (stepL p rs t) = SX := ⟨_, rfl⟩
  rw [hBX, hSX] at HCA ⊢
  clear h1 h2 h0 hT hI hVb hbase hids hm hrid hBX hSX
  go_enter Try.func25, Try.ntmps25
  go_wp2_with fail
  refine HCA.out.mono ?_
  rintro e w1 ⟨u1, u2, m1, m2, d1, d2, z1, z2, z3, z4, z5, rfl, D1, D2, b1⟩
  have hBa : Below w1.heap.size w1 (w1.alloc (.cells #[.slice u1 m1 d1, .slice u2 m2 d2] 24)) := (Below.refl _ _).alloc (Nat.le_refl _) _
  have hRa : (w1.alloc (.cells #[.slice u1 m1 d1, .slice u2 m2 d2] 24)).heap[w1.heap.size]? = some (.cells #[.slice u1 m1 d1, .slice u2 m2 d2] 24 (0, 0)) := heap_alloc_new w1 _
  have hBb : Below (w1.alloc (.cells #[.slice u1 m1 d1, .slice u2 m2 d2] 24)).heap.size (w1.alloc (.cells #[.slice u1 m1 d1, .slice u2 m2 d2] 24)) ((w1.alloc (.cells #[.slice u1 m1 d1, .slice u2 m2 d2] 24)).alloc (.cells #[.int .i64 z1, .int .i64 z2, .int .i64 z3, .int .i64 z4, .int .i64 z5] 28)) := (Below.refl _ _).alloc (Nat.le_refl _) _
  have hRb := (hBb.block w1.heap.size (Array.getElem?_eq_some_iff.1 hRa).1).trans hRa
  have hB2 := hBa.trans (hBb.mono hBa.size)
  have HW2 := hidD (b1.trans (hB2.mono b1.size))
  have HD1 := hidD (D1.below hB2)
  have HD2 := hidD (D2.below hB2)
  clear hBa hRa hBb hB2 D1 D2 b1 HCA x0 x1 x2 x3 x4 x5
  go_upto_region 5 with fail
  generalize ((w1.alloc (.cells #[.slice u1 m1 d1, .slice u2 m2 d2] 24)).alloc (.cells #[.int .i64 z1, .int .i64 z2, .int .i64 z3, .int .i64 z4, .int .i64 z5] 28)) = W2 at *
  generalize w1.heap.size = LB at *
  obtain ⟨l0, l1, -⟩ := rowTwo hRb
  have hr2 := (HW2.out.block VB HNUM.out.2.2.2).trans hrow
  obtain ⟨x0, x1, x2, x3, x4, x5, xf⟩ := rowV hr2
  have xf0 := xf 0
  have xf1 := xf 1
  clear xf hrow
  go_upto_region 6 with fail
  clear l0 l1 hRb x0 x1 x2 x3 x4 x5 xf0 xf1
  have hr3 := v_at1 (v_at0 hr2 (.slice u1 m1 d1)) (.slice u2 m2 d2)
  have hg3 : W2.grownBy ((W2.setCell ⟨VB, 0, none⟩ (.slice u1 m1 d1)).setCell ⟨VB, 1, none⟩ (.slice u2 m2 d2)) (some VB) := grTwo W2 VB _ _
  have hnum := HNUM.out
  have HT3 := hidD (kept_of (OwnM.below HTw.out HW2.out) hg3 (fun z hz e => by cases e; have := (OwnM.lt HTw.out VB hz).1; omega))
  have HI3 := hidD (kept_of (OwnM.below HIw.out HW2.out) hg3 (fun z hz e => by cases e; have := (OwnM.lt HIw.out VB hz).1; omega))
  have HD13 := hidD (HD1.out.other hg3 hnum.2.2.2)
  have HD23 := hidD (HD2.out.other hg3 hnum.2.2.2)
  have HF3 := hidD (FarV.trans (FarV.below HW2.out hnum.2.1) (FarV.grown (VB := VB) hg3 (by have := HW2.out.size; omega) (fun k hk => .inl (by cases hk; rfl))))
  clear hg3 hnum
  generalize (W2.setCell ⟨VB, 0, none⟩ (.slice u1 m1 d1)).setCell ⟨VB, 1, none⟩ (.slice u2 m2 d2) = W3 at *
  have hnum := HNUM.out
  have hIl : ∀ z, iv.ownBlock = some z → base ≤ z ∧ z < w.heap.size := fun z hz => OwnM.lt HIw.out z hz
  obtain ⟨tq, tc, w8, A8, O8, G8⟩ := lay_id rid HI3.out (by have := HF3.out.size; omega) (by omega)
  have hr8 := (G8.block VB (Array.getElem?_eq_some_iff.1 hr3).1 (fun e => by have := (hIl VB e.symm).1; omega)).trans hr3
  have HA8 := hidD A8
  have HD18 := hidD (dl_row HD13.out G8 (fun z hz => (hIl z hz).2))
  have HD28 := hidD (dl_row HD23.out G8 (fun z hz => (hIl z hz).2))
  have HT8 := hidD (kept_of HT3.out G8 (fun x hx => own_ne HT3.out HI3.out (by decide) x hx))
  have HO8 := hidD O8
  have HF8 := hidD (HF3.out.trans (FarV.grown (VB := VB) G8 (by have := HF3.out.size; omega) (fun k hk => .inr (hIl k hk).1)))
  have hBc : Below W3.heap.size W3 (W3.alloc (.cells #[.int .i64 rid] 3)) := (Below.refl _ _).alloc (Nat.le_refl _) _
  obtain ⟨x0, x1, x2, x3, x4, x5, -⟩ := rowV hr3
  have k5 := keeps hBc x5
  obtain ⟨y0, y1, y2, y3, y4, y5, yf⟩ := rowV hr8
  have yf5 := yf 5
  clear yf hnum hIl A8 O8 G8 hBc
  generalize hTL : (ids ++ [rid]).length = TL at *
  clear hTL
  go_upto_region 7 with (at_builtin; refine Lib.wpList_append_run _ rfl _ _ _ _ rfl _ _ rfl rfl _ _ HA8.out ?_)
  have hr9 := v_at5 hr8 (.slice tq TL tc)
  have hg9 := gr_setCell w8 VB 5 (.slice tq TL tc)
  have hnum := HNUM.out
  have HPO := hidD (show FarV w (w8.setCell ⟨VB, 5, none⟩ (.slice tq TL tc)) base VB ∧ DL (w8.setCell ⟨VB, 5, none⟩ (.slice tq TL tc)) w.heap.size (.slice u1 m1 d1) BX ∧ DL (w8.setCell ⟨VB, 5, none⟩ (.slice tq TL tc)) w.heap.size (.slice u2 m2 d2) SX ∧ OwnT (w8.setCell ⟨VB, 5, none⟩ (.slice tq TL tc)) base tv ts ∧ OwnI (w8.setCell ⟨VB, 5, none⟩ (.slice tq TL tc)) base (.slice tq TL tc) (ids ++ [rid]) from
    ⟨HF8.out.trans (FarV.grown hg9 (by have := HF8.out.size; omega) (fun k hk => .inl (by cases hk; rfl))), HD18.out.other hg9 hnum.2.2.2, HD28.out.other hg9 hnum.2.2.2, kept_of HT8.out hg9 (fun z hz e => by cases e; have := (OwnM.lt HT8.out VB hz).1; omega), kept_of HO8.out hg9 (fun z hz e => by cases e; have := (OwnM.lt HO8.out VB hz).1; omega)⟩)
  clear x0 x1 x2 x3 x4 x5 y0 y1 y2 y3 y4 y5 yf5 k5 hg9 hr8 hr3 hnum HA8
  generalize w8.setCell ⟨VB, 5, none⟩ (.slice tq TL tc) = W9 at *
  obtain ⟨x0, x1, x2, x3, x4, x5, xf⟩ := rowV hr9
  have xf3 := xf 3
  have xf4 := xf 4
  have HR9 := hidD hr9
  clear xf
  by_cases hm2 : m = 2
  · subst hm2
    clear hr9
    go_wp2_with fail
    go_ret
    exact ⟨rfl, HPO.out.1, u1, u2, m1, m2, d1, d2, _, HR9.out, .inr (HPO.out.2.1.mono HNUM.out.2.1), .inr (HPO.out.2.2.1.mono HNUM.out.2.1), HPO.out.2.2.2.1, HPO.out.2.2.2.2⟩
  · have hmc : (m != 2) = true := by simp [hm2]
    have hga : W9.grownBy ((W9.setCell ⟨VB, 4, none⟩ (.int .i64 left)).setCell ⟨VB, 3, none⟩ (.int .i64 0)) (some VB) := gr_trans (gr_setCell _ _ _ _) (gr_setCell _ _ _ _)
    have hra := v_at3 (v_at4 hr9 (.int .i64 left)) (.int .i64 0)
    have hnum := HNUM.out
    have HPX := hidD (show FarV w ((W9.setCell ⟨VB, 4, none⟩ (.int .i64 left)).setCell ⟨VB, 3, none⟩ (.int .i64 0)) base VB ∧ DL ((W9.setCell ⟨VB, 4, none⟩ (.int .i64 left)).setCell ⟨VB, 3, none⟩ (.int .i64 0)) w.heap.size (.slice u1 m1 d1) BX ∧ DL ((W9.setCell ⟨VB, 4, none⟩ (.int .i64 left)).setCell ⟨VB, 3, none⟩ (.int .i64 0)) w.heap.size (.slice u2 m2 d2) SX ∧ OwnT ((W9.setCell ⟨VB, 4, none⟩ (.int .i64 left)).setCell ⟨VB, 3, none⟩ (.int .i64 0)) base tv ts ∧ OwnI ((W9.setCell ⟨VB, 4, none⟩ (.int .i64 left)).setCell ⟨VB, 3, none⟩ (.int .i64 0)) base (.slice tq TL tc) (ids ++ [rid]) from
      ⟨HPO.out.1.trans (FarV.grown hga (by have := HPO.out.1.size; omega) (fun k hk => .inl (by cases hk; rfl))), HPO.out.2.1.other hga hnum.2.2.2, HPO.out.2.2.1.other hga hnum.2.2.2, kept_of HPO.out.2.2.2.1 hga (fun z hz e => by cases e; have := (OwnM.lt HPO.out.2.2.2.1 VB hz).1; omega), kept_of HPO.out.2.2.2.2 hga (fun z hz e => by cases e; have := (OwnM.lt HPO.out.2.2.2.2 VB hz).1; omega)⟩)
    have HRA := hidD hra
    clear hga hra hnum hr9
    go_wp2_with fail
    go_ret
    exact ⟨rfl, HPX.out.1, u1, u2, m1, m2, d1, d2, _, (by first | exact HRA.out | (rw [if_neg hm2, if_neg hm2]; exact HRA.out)), .inr (HPX.out.2.1.mono HNUM.out.2.1), .inr (HPX.out.2.2.1.mono HNUM.out.2.1), HPX.out.2.2.2.1, HPX.out.2.2.2.2⟩

theorem vdrop_any (w0 : World) (m : Int) (hm : m = 1 ∨ m = 2 ∨ m = 3) (VB base : Nat) (o : O) (q1 q2 : Option Addr) (n1 n2 c1 c2 : Nat) (tv iv : Value) (bs ss : List L) (p : Int) (r : R) (rs : List R) (t : List L) (ts : List T) (ids : List Int) (left gone : Int) (w : World)
    (hrow : w.heap[VB]? = some (.cells #[.slice q1 n1 c1, .slice q2 n2 c2, tv, .int .i64 left, .int .i64 gone, iv] 53 (0, 0)))
    (hw0 : Below w0.heap.size w0 w) (h1 : SafeS w0 w base (.slice q1 n1 c1) (repB o bs (⟨p, r :: rs⟩ :: t))) (h2 : SafeS w0 w base (.slice q2 n2 c2) (repS o ss (⟨p, r :: rs⟩ :: t))) (h0 : bookE (repB o bs (⟨p, r :: rs⟩ :: t)) (repS o ss (⟨p, r :: rs⟩ :: t)) = 0) (hT : OwnT w base tv ts) (hI : OwnI w base iv ids) (hVb : VB < base) (hbase : base ≤ w.heap.size) (hids : ids.length ≤ 1000) :
    Calls Try.prog 25 #[.pointer (some ⟨VB, 0, none⟩), .int .i64 r.id, .int .i64 m] w fun e w' => e = .returned .nilIface ∧ FarV w w' base VB ∧ ∃ u1 u2 m1 m2 d1 d2 iv', w'.heap[VB]? = some (.cells #[.slice u1 m1 d1, .slice u2 m2 d2, tv, .int .i64 (dropLf m left), .int .i64 (dropGn m gone left), iv'] 53 (0, 0)) ∧ SafeS w0 w' base (.slice u1 m1 d1) (repB o bs (dropX m p r rs t)) ∧ SafeS w0 w' base (.slice u2 m2 d2) (repS o ss (dropX m p r rs t)) ∧ OwnT w' base tv ts ∧ OwnI w' base iv' (dropI m ids r.id) := by
  by_cases hm1 : m = 1
  · subst hm1
    refine (drop_taker VB base q1 q2 n1 n2 c1 c2 tv iv left gone r.id w hrow hbase).mono ?_
    rintro e w' ⟨rfl, hr, hg, hf⟩
    refine ⟨rfl, hf, q1, q2, n1, n2, c1, c2, iv, hr, h1.row hg hVb, h2.row hg hVb, kept_of hT hg (fun z hz e => by cases e; have := (OwnM.lt hT VB hz).1; omega), kept_of hI hg (fun z hz e => by cases e; have := (OwnM.lt hI VB hz).1; omega)⟩
  · refine (drop_maker w0 m (by omega) VB base o q1 q2 n1 n2 c1 c2 tv iv bs ss p r rs t ts ids left gone w hrow (h1.ls hw0) (h2.ls hw0) h0 hT hI hVb hbase hids).mono ?_
    rintro e w' ⟨rfl, hf, u1, u2, m1, m2, d1, d2, iv', g1, g2, g3, g4, g5⟩
    have eX : dropX m p r rs t = stepL p rs t := if_neg hm1
    have eI : dropI m ids r.id = ids ++ [r.id] := if_neg hm1
    rw [eX, eI]
    exact ⟨rfl, hf, u1, u2, m1, m2, d1, d2, iv', g1, g2, g3, g4, g5⟩
end Go.Proofs.Ytnjpjieedgmffaa.slf
