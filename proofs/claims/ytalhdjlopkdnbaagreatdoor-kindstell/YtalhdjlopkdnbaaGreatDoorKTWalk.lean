/- The walk of KindsTell. -/
import Derived.Test.YtalhdjlopkdnbaaGreatDoorKinRef3
import Derived.Test.YtalhdjlopkdnbaaGreatDoorTold
namespace Go.Proofs.YtalhdjlopkdnbaaGreatDoor.kindsTell
open Go.RowKit Go.Proofs.YtalhdjlopkdnbaaGreatDoor.spn Go.Proofs.YtalhdjlopkdnbaaGreatDoor.que Go.Proofs.YtalhdjlopkdnbaaGreatDoor.sid Go.Proofs.YtalhdjlopkdnbaaGreatDoor.bok Go.Proofs.YtalhdjlopkdnbaaGreatDoor.mee Go.Proofs.YtalhdjlopkdnbaaGreatDoor.kin
open Go.Proofs.YtalhdjlopkdnbaaGreatDoor.ord (O oV mB mE chk rord_any ref_may)

theorem int_eqK {a b : Int} (h : a = b) : (Value.int .i64 a) = .int .i64 b := by rw [h]
theorem bool_eqK {a b : Bool} (h : a = b) : Value.bool a = .bool b := by rw [h]
def kBk (bs ss : List L) (o : O) : List L := if kdoE bs ss o = 0 then kdoB bs ss o else []
def kSl (bs ss : List L) (o : O) : List L := if kdoE bs ss o = 0 then kdoS bs ss o else []
def kTr (bs ss : List L) (o : O) : List T := if kdoE bs ss o = 0 then (metR bs ss o).2.1 else []
def kGn (bs ss : List L) (o : O) : Int := if kdoE bs ss o = 0 then kdoG bs ss o else 0
theorem ownT_nilK (w : World) (base : Nat) : OwnT w base (.slice none 0 0) [] := ⟨rfl, .inl ⟨rfl, rfl⟩⟩
theorem kdo_one (q1 q2 : Option Addr) (n1 n2 c1 c2 : Nat) (bs ss : List L) (a b c d p q s t : Int) (w : World) (h1 : LS w (.slice q1 n1 c1) bs) (h2 : LS w (.slice q2 n2 c2) ss) :
    Calls Tryz.prog 34 #[.agg #[.slice q1 n1 c1, .slice q2 n2 c2], .agg #[.int .i64 a, .int .i64 b, .int .i64 c, .int .i64 d, .int .i64 p, .int .i64 q, .int .i64 s, .int .i64 t]] w fun e w' => ∃ u1 u2 m1 m2 k1 k2 tq tn tc, e = .returned (.tuple #[.agg #[.slice u1 m1 k1, .slice u2 m2 k2], .slice tq tn tc, .int .i64 (kGn bs ss ⟨a, b, c, d, p, q, s, t⟩), errV (kdoE bs ss ⟨a, b, c, d, p, q, s, t⟩)]) ∧ LS w' (.slice u1 m1 k1) (kBk bs ss ⟨a, b, c, d, p, q, s, t⟩) ∧ LS w' (.slice u2 m2 k2) (kSl bs ss ⟨a, b, c, d, p, q, s, t⟩) ∧ OwnT w' w.heap.size (.slice tq tn tc) (kTr bs ss ⟨a, b, c, d, p, q, s, t⟩) ∧ Below w.heap.size w w' := by
  refine (kdo_any q1 q2 n1 n2 c1 c2 bs ss a b c d p q s t w h1 h2).mono ?_
  rintro e w' ⟨i1, i2, i3⟩
  unfold kBk kSl kTr kGn
  by_cases hD : kdoE bs ss ⟨a, b, c, d, p, q, s, t⟩ = 0
  · obtain ⟨u1, u2, m1, m2, k1, k2, tv, rfl, g1, g2, g3⟩ := i1 hD
    obtain ⟨tq, tc, hf⟩ := OwnM.form g3
    subst hf
    rw [if_pos hD, if_pos hD, if_pos hD, if_pos hD]
    exact ⟨u1, u2, m1, m2, k1, k2, tq, _, tc, by rw [hD]; rfl, g1.ls, g2.ls, g3, i3⟩
  · rw [if_neg hD, if_neg hD, if_neg hD, if_neg hD]
    exact ⟨none, none, 0, 0, 0, 0, none, 0, 0, i2 hD, ls_nil _, ls_nil _, ownT_nilK _ _, i3⟩
theorem err_oneK (k : Int) (B wx : World) (h : told.Inv B wx) :
    Calls Tryz.prog 8 #[errV k, .int .i64 k] wx fun ev w' => ev = .returned (.bool true) ∧ Below wx.heap.size wx w' := by
  refine (told.error_any wx k k wx (told.Inv.start h.laid)).mono ?_
  rintro e w' ⟨rfl, h'⟩
  exact ⟨by rw [beq_self_eq_true], h'.2⟩
theorem kTr_len {bs ss : List L} {o : O} : (kTr bs ss o).length ≤ 400 := by
  unfold kTr
  by_cases hD : kdoE bs ss o = 0
  · rw [if_pos hD]; exact (doE_zero (kdo_zero hD).1).2
  · rw [if_neg hD]; simp
theorem kdo_come {bs ss : List L} {o : O} (h : ¬ comeE bs ss o = 0) : kdoE bs ss o = comeE bs ss o := by
  have hd : doE bs ss o = comeE bs ss o := by unfold doE; rw [if_neg h]
  unfold kdoE
  rw [hd, if_neg h]

set_option maxRecDepth 100000 in
set_option maxHeartbeats 8000000 in
theorem walk0 (q1 q2 : Option Addr) (n1 n2 c1 c2 : Nat) (bs ss : List L) (a b c d p q s t kq : Int) (B w : World) (hI : told.Inv B w) (h1 : LS w (.slice q1 n1 c1) bs) (h2 : LS w (.slice q2 n2 c2) ss) :
    Calls Tryz.prog 5 #[.agg #[.slice q1 n1 c1, .slice q2 n2 c2], .agg #[.int .i64 a, .int .i64 b, .int .i64 c, .int .i64 d, .int .i64 p, .int .i64 q, .int .i64 s, .int .i64 t], .int .i64 kq] w fun e w' => e = .returned (.bool true) ∧ told.Inv B w' := by
  obtain ⟨V, hV⟩ : ∃ V, V = (w.alloc (.cells #[.slice q1 n1 c1, .slice q2 n2 c2] 24)).alloc (.cells #[.int .i64 a, .int .i64 b, .int .i64 c, .int .i64 d, .int .i64 p, .int .i64 q, .int .i64 s, .int .i64 t] 60) := ⟨_, rfl⟩
  have HB : Hid (Below w.heap.size w V) := by rw [hV]; exact ((Below.refl _ _).alloc (Nat.le_refl _) _).alloc (by simp) _
  have v0 : V.cell? ⟨w.heap.size, 0, none⟩ = some (.slice q1 n1 c1) := by rw [hV]; simp [go_sem]
  have v1 : V.cell? ⟨w.heap.size, 1, none⟩ = some (.slice q2 n2 c2) := by rw [hV]; simp [go_sem]
  have hR : V.heap[w.heap.size + 1]? = some (.cells #[.int .i64 a, .int .i64 b, .int .i64 c, .int .i64 d, .int .i64 p, .int .i64 q, .int .i64 s, .int .i64 t] 60 (0, 0)) := by
    rw [hV]
    have := heap_alloc_new (w.alloc (.cells #[.slice q1 n1 c1, .slice q2 n2 c2] 24)) (.cells #[.int .i64 a, .int .i64 b, .int .i64 c, .int .i64 d, .int .i64 p, .int .i64 q, .int .i64 s, .int .i64 t] 60)
    simpa using this
  have cel : ∀ i, V.cell? ⟨w.heap.size + 1, i, none⟩ = (#[.int .i64 a, .int .i64 b, .int .i64 c, .int .i64 d, .int .i64 p, .int .i64 q, .int .i64 s, .int .i64 t] : Array Value)[i]? := fun i => by simp [World.cell?, hR]
  have HSO : Hid (∀ W, Below V.heap.size V W → (Below w.heap.size w W ∧ told.Inv B W ∧ LS W (.slice q1 n1 c1) bs ∧ LS W (.slice q2 n2 c2) ss) ∧ W.cell? ⟨w.heap.size, 0, none⟩ = some (.slice q1 n1 c1) ∧ W.cell? ⟨w.heap.size, 1, none⟩ = some (.slice q2 n2 c2) ∧ W.cell? ⟨w.heap.size + 1, 0, none⟩ = some (.int .i64 a) ∧ W.cell? ⟨w.heap.size + 1, 1, none⟩ = some (.int .i64 b) ∧ W.cell? ⟨w.heap.size + 1, 2, none⟩ = some (.int .i64 c) ∧ W.cell? ⟨w.heap.size + 1, 3, none⟩ = some (.int .i64 d) ∧ W.cell? ⟨w.heap.size + 1, 4, none⟩ = some (.int .i64 p) ∧ W.cell? ⟨w.heap.size + 1, 5, none⟩ = some (.int .i64 q) ∧ W.cell? ⟨w.heap.size + 1, 6, none⟩ = some (.int .i64 s) ∧ W.cell? ⟨w.heap.size + 1, 7, none⟩ = some (.int .i64 t)) :=
    fun W hW => by
      have hw := HB.out.trans (hW.mono HB.out.size)
      exact ⟨⟨hw, hI.on hw, h1.below hw, h2.below hw⟩, keeps hW v0, keeps hW v1, keeps hW (cel 0), keeps hW (cel 1), keeps hW (cel 2), keeps hW (cel 3), keeps hW (cel 4), keeps hW (cel 5), keeps hW (cel 6), keeps hW (cel 7)⟩
  have HLW : Hid (LS w (.slice q1 n1 c1) bs ∧ LS w (.slice q2 n2 c2) ss) := ⟨h1, h2⟩
  clear h1 h2 hI v0 v1 hR cel
  obtain ⟨-, x0, x1, o0, o1, o2, o3, o4, o5, o6, o7⟩ := HSO.out V (Below.refl _ _)
  have HLV : Hid (LS V (.slice q1 n1 c1) bs ∧ LS V (.slice q2 n2 c2) ss) := (HSO.out V (Below.refl _ _)).1.2.2
  go_enter Tryz.func5, Tryz.ntmps5
  go_wp2_with fail
  rw [← hV]
  clear hV
  refine (rcomes_any q1 q2 n1 n2 c1 c2 bs ss a b c d p q s t V HLV.out.1 HLV.out.2).mono ?_
  rintro e w1 ⟨rfl, b1⟩
  have hBa : Below w1.heap.size w1 (w1.alloc (.cells #[.slice none 0 0, .slice none 0 0, .slice none 0 0, .int .i64 0, .int .i64 0, .slice none 0 0, .bool false] 65)) := (Below.refl _ _).alloc (Nat.le_refl _) _
  have hRM : (w1.alloc (.cells #[.slice none 0 0, .slice none 0 0, .slice none 0 0, .int .i64 0, .int .i64 0, .slice none 0 0, .bool false] 65)).heap[w1.heap.size]? = some (.cells #[.slice none 0 0, .slice none 0 0, .slice none 0 0, .int .i64 0, .int .i64 0, .slice none 0 0, .bool false] 65 (0, 0)) := heap_alloc_new w1 _
  have HW2 := hidK (b1.trans (hBa.mono b1.size))
  have HSZ := hidK (show V.heap.size ≤ w1.heap.size ∧ w.heap.size ≤ w1.heap.size from ⟨b1.size, Nat.le_trans HB.out.size b1.size⟩)
  obtain ⟨E, hE⟩ : ∃ E, comeE bs ss ⟨a, b, c, d, p, q, s, t⟩ = E := ⟨_, rfl⟩
  obtain ⟨D, hD⟩ : ∃ D, kdoE bs ss ⟨a, b, c, d, p, q, s, t⟩ = D := ⟨_, rfl⟩
  obtain ⟨GN, hGN⟩ : ∃ GN, kGn bs ss ⟨a, b, c, d, p, q, s, t⟩ = GN := ⟨_, rfl⟩
  have HE := hidK hE
  have HD := hidK hD
  have HGN := hidK hGN
  rw [hE]
  clear x0 x1 o0 o1 o2 o3 o4 o5 o6 o7 b1 hBa HLV hE hD hGN
  go_upto_if 23 with fail
  generalize w1.alloc (.cells #[.slice none 0 0, .slice none 0 0, .slice none 0 0, .int .i64 0, .int .i64 0, .slice none 0 0, .bool false] 65) = W2 at *
  generalize w1.heap.size = M0 at *
  go_cut [7] from 23 to 29 (fun s7 wx => ∃ y1 y2 l1 l2 k1 k2 tq tn tc lf, s7 = .int .i64 D ∧ wx.heap[M0]? = some (.cells #[.slice y1 l1 k1, .slice y2 l2 k2, .slice tq tn tc, .int .i64 lf, .int .i64 GN, .slice none 0 0, .bool false] 65 (0, 0)) ∧ Aside (Below V.heap.size V wx ∧ LS wx (.slice y1 l1 k1) (kBk bs ss ⟨a, b, c, d, p, q, s, t⟩) ∧ LS wx (.slice y2 l2 k2) (kSl bs ss ⟨a, b, c, d, p, q, s, t⟩) ∧ OwnT wx M0 (.slice tq tn tc) (kTr bs ss ⟨a, b, c, d, p, q, s, t⟩)))
  case first =>
    obtain ⟨z0, z1, z2, z3, z4, z5, z6, zf⟩ := rowSeven hRM
    by_cases h0 : E = 0
    · subst h0
      obtain ⟨⟨-, -, hL1, hL2⟩, x0, x1, o0, o1, o2, o3, o4, o5, o6, o7⟩ := HSO.out W2 HW2.out
      have HME := hidK (rcome_any q1 q2 n1 n2 c1 c2 bs ss a b c d p q s t W2 hL1 hL2 HE.out)
      clear hL1 hL2
      go_wp2_with fail
      refine HME.out.mono ?_
      rintro e w3 ⟨i1, i2, b3⟩
      have hW3 := HW2.out.trans (b3.mono HW2.out.size)
      have hR3 := (b3.block M0 (Array.getElem?_eq_some_iff.1 hRM).1).trans hRM
      have hM2 : M0 < W2.heap.size := (Array.getElem?_eq_some_iff.1 hRM).1
      clear z0 z1 z2 z3 z4 z5 z6 zf x0 x1 o0 o1 o2 o3 o4 o5 o6 o7 HME
      obtain ⟨z0, z1, z2, z3, z4, z5, z6, zf⟩ := rowSeven hR3
      have f0 := zf 0
      have f1 := zf 1
      have f2 := zf 2
      have f3 := zf 3
      have f4 := zf 4
      have f5 := zf 5
      have f6 := zf 6
      have hB0 : V.heap.size ≤ M0 := HSZ.out.1
      by_cases hK : kdoE bs ss ⟨a, b, c, d, p, q, s, t⟩ = 0
      · obtain ⟨y1, y2, l1, l2, k1, k2, tv, lf, rfl, g1, g2, g3⟩ := i1 hK
        have hDD : D = 0 := by rw [← HD.out]; exact hK
        subst hDD
        have eG : kdoG bs ss ⟨a, b, c, d, p, q, s, t⟩ = GN := by rw [← HGN.out]; unfold kGn; rw [if_pos hK]
        have eB : kBk bs ss ⟨a, b, c, d, p, q, s, t⟩ = kdoB bs ss ⟨a, b, c, d, p, q, s, t⟩ := by unfold kBk; rw [if_pos hK]
        have eS : kSl bs ss ⟨a, b, c, d, p, q, s, t⟩ = kdoS bs ss ⟨a, b, c, d, p, q, s, t⟩ := by unfold kSl; rw [if_pos hK]
        have eT : kTr bs ss ⟨a, b, c, d, p, q, s, t⟩ = (metR bs ss ⟨a, b, c, d, p, q, s, t⟩).2.1 := by unfold kTr; rw [if_pos hK]
        rw [← eT] at g3
        obtain ⟨tq, tc, hf⟩ := OwnM.form g3
        subst hf
        rw [eG]
        generalize hln : (kTr bs ss ⟨a, b, c, d, p, q, s, t⟩).length = tn at *
        have hset := setSeven hR3 (.slice y1 l1 k1) (.slice y2 l2 k2) (.slice tq tn tc) (.int .i64 lf) (.int .i64 GN) (.slice none 0 0) (.bool false)
        have hgr := grSeven w3 M0 (.slice y1 l1 k1) (.slice y2 l2 k2) (.slice tq tn tc) (.int .i64 lf) (.int .i64 GN) (.slice none 0 0) (.bool false)
        have hlv := book_lv (kdo_bookK hK)
        have HFIN := hidK (show Below V.heap.size V (((((((w3.setCell ⟨M0, 0, none⟩ (.slice y1 l1 k1)).setCell ⟨M0, 1, none⟩ (.slice y2 l2 k2)).setCell ⟨M0, 2, none⟩ (.slice tq tn tc)).setCell ⟨M0, 3, none⟩ (.int .i64 lf)).setCell ⟨M0, 4, none⟩ (.int .i64 GN)).setCell ⟨M0, 5, none⟩ (.slice none 0 0)).setCell ⟨M0, 6, none⟩ (.bool false)) ∧ LS (((((((w3.setCell ⟨M0, 0, none⟩ (.slice y1 l1 k1)).setCell ⟨M0, 1, none⟩ (.slice y2 l2 k2)).setCell ⟨M0, 2, none⟩ (.slice tq tn tc)).setCell ⟨M0, 3, none⟩ (.int .i64 lf)).setCell ⟨M0, 4, none⟩ (.int .i64 GN)).setCell ⟨M0, 5, none⟩ (.slice none 0 0)).setCell ⟨M0, 6, none⟩ (.bool false)) (.slice y1 l1 k1) (kBk bs ss ⟨a, b, c, d, p, q, s, t⟩) ∧ LS (((((((w3.setCell ⟨M0, 0, none⟩ (.slice y1 l1 k1)).setCell ⟨M0, 1, none⟩ (.slice y2 l2 k2)).setCell ⟨M0, 2, none⟩ (.slice tq tn tc)).setCell ⟨M0, 3, none⟩ (.int .i64 lf)).setCell ⟨M0, 4, none⟩ (.int .i64 GN)).setCell ⟨M0, 5, none⟩ (.slice none 0 0)).setCell ⟨M0, 6, none⟩ (.bool false)) (.slice y2 l2 k2) (kSl bs ss ⟨a, b, c, d, p, q, s, t⟩) ∧ OwnT (((((((w3.setCell ⟨M0, 0, none⟩ (.slice y1 l1 k1)).setCell ⟨M0, 1, none⟩ (.slice y2 l2 k2)).setCell ⟨M0, 2, none⟩ (.slice tq tn tc)).setCell ⟨M0, 3, none⟩ (.int .i64 lf)).setCell ⟨M0, 4, none⟩ (.int .i64 GN)).setCell ⟨M0, 5, none⟩ (.slice none 0 0)).setCell ⟨M0, 6, none⟩ (.bool false)) M0 (.slice tq tn tc) (kTr bs ss ⟨a, b, c, d, p, q, s, t⟩) from
          ⟨hW3.grown hgr hW3.size (fun k hk => by cases hk; exact hB0), by rw [eB]; exact ls_off g1 hgr (met_no hR3) hlv.1, by rw [eS]; exact ls_off g2 hgr (met_no hR3) hlv.2, OwnM.mono (kept_of g3 hgr (fun z hz e => by cases e; have := (OwnM.lt g3 M0 hz).1; omega)) (by omega)⟩)
        have HHX := hidK hset
        clear hset hgr g1 g2 g3 i1 i2 b3 zf hR3 hW3 hln eG eB eS eT hK hlv
        go_wp2_with fail
        go_meet
        case rel => exact ⟨y1, y2, l1, l2, k1, k2, tq, tn, tc, lf, rfl, HHX.out, HFIN.out⟩
      · have e2 := i2 hK
        subst e2
        rw [HD.out]
        have hset := setSeven hR3 (.slice none 0 0) (.slice none 0 0) (.slice none 0 0) (.int .i64 0) (.int .i64 0) (.slice none 0 0) (.bool false)
        have hgr := grSeven w3 M0 (.slice none 0 0) (.slice none 0 0) (.slice none 0 0) (.int .i64 0) (.int .i64 0) (.slice none 0 0) (.bool false)
        have HFIN := hidK (hW3.grown hgr hW3.size (fun k hk => by cases hk; exact hB0))
        have HHX := hidK hset
        have HEQ := hidK (show GN = 0 ∧ kBk bs ss ⟨a, b, c, d, p, q, s, t⟩ = [] ∧ kSl bs ss ⟨a, b, c, d, p, q, s, t⟩ = [] ∧ kTr bs ss ⟨a, b, c, d, p, q, s, t⟩ = [] from ⟨by rw [← HGN.out]; unfold kGn; rw [if_neg hK], by unfold kBk; rw [if_neg hK], by unfold kSl; rw [if_neg hK], by unfold kTr; rw [if_neg hK]⟩)
        clear hset hgr i1 i2 b3 zf hR3 hW3 hK
        go_wp2_with fail
        go_meet
        case rel =>
          refine ⟨none, none, 0, 0, 0, 0, none, 0, 0, 0, rfl, by rw [HEQ.out.1]; exact HHX.out, HFIN.out, ?_⟩
          rw [HEQ.out.2.1, HEQ.out.2.2.1, HEQ.out.2.2.2]
          exact ⟨ls_nil _, ls_nil _, ownT_nilK _ _⟩
    · have h0' : (E == 0) = false := by simp [h0]
      have hDE : D = E := by rw [← HD.out, ← HE.out]; exact kdo_come (by rw [HE.out]; exact h0)
      subst hDE
      have hne : ¬ kdoE bs ss ⟨a, b, c, d, p, q, s, t⟩ = 0 := by rw [HD.out]; exact h0
      have HEQ := hidK (show GN = 0 ∧ kBk bs ss ⟨a, b, c, d, p, q, s, t⟩ = [] ∧ kSl bs ss ⟨a, b, c, d, p, q, s, t⟩ = [] ∧ kTr bs ss ⟨a, b, c, d, p, q, s, t⟩ = [] from ⟨by rw [← HGN.out]; unfold kGn; rw [if_neg hne], by unfold kBk; rw [if_neg hne], by unfold kSl; rw [if_neg hne], by unfold kTr; rw [if_neg hne]⟩)
      have HRM := hidK hRM
      clear zf hne
      go_wp2_with fail
      go_meet
      case rel =>
        refine ⟨none, none, 0, 0, 0, 0, none, 0, 0, 0, rfl, by rw [HEQ.out.1]; exact HRM.out, HW2.out, ?_⟩
        rw [HEQ.out.2.1, HEQ.out.2.2.1, HEQ.out.2.2.2]
        exact ⟨ls_nil _, ls_nil _, ownT_nilK _ _⟩
  case rest =>
  obtain ⟨y1, y2, l1, l2, k1, k2, tq, tn, tc, lf, rfl, hRM3, HA⟩ := hcut
  have HW3 := hidK HA.out.1
  have HME := hidK HA.out.2
  clear HA hRM HW2
  obtain ⟨⟨-, -, hL1, hL2⟩, x0, x1, o0, o1, o2, o3, o4, o5, o6, o7⟩ := HSO.out wc HW3.out
  have HDO := hidK (kdo_one q1 q2 n1 n2 c1 c2 bs ss a b c d p q s t wc hL1 hL2)
  rw [HD.out, HGN.out] at HDO
  clear hL1 hL2
  go_wp2_with fail
  refine HDO.out.mono ?_
  rintro e w4 ⟨u1, u2, m1, m2, j1, j2, sq, sn, sc, rfl, g1, g2, g3, b4⟩
  have hBa : Below w4.heap.size w4 (w4.alloc (.cells #[.slice u1 m1 j1, .slice u2 m2 j2] 24)) := (Below.refl _ _).alloc (Nat.le_refl _) _
  have hb4 := b4.trans (hBa.mono b4.size)
  have hRX : (w4.alloc (.cells #[.slice u1 m1 j1, .slice u2 m2 j2] 24)).heap[w4.heap.size]? = some (.cells #[.slice u1 m1 j1, .slice u2 m2 j2] 24 (0, 0)) := heap_alloc_new w4 _
  have HW5 := hidK (HW3.out.trans (hb4.mono HW3.out.size))
  have HX5 := hidK (show LS (w4.alloc (.cells #[.slice u1 m1 j1, .slice u2 m2 j2] 24)) (.slice u1 m1 j1) (kBk bs ss ⟨a, b, c, d, p, q, s, t⟩) ∧ LS (w4.alloc (.cells #[.slice u1 m1 j1, .slice u2 m2 j2] 24)) (.slice u2 m2 j2) (kSl bs ss ⟨a, b, c, d, p, q, s, t⟩) ∧ OwnT (w4.alloc (.cells #[.slice u1 m1 j1, .slice u2 m2 j2] 24)) wc.heap.size (.slice sq sn sc) (kTr bs ss ⟨a, b, c, d, p, q, s, t⟩) from ⟨g1.below hBa, g2.below hBa, OwnM.below g3 hBa⟩)
  have HM5 := hidK (show LS (w4.alloc (.cells #[.slice u1 m1 j1, .slice u2 m2 j2] 24)) (.slice y1 l1 k1) (kBk bs ss ⟨a, b, c, d, p, q, s, t⟩) ∧ LS (w4.alloc (.cells #[.slice u1 m1 j1, .slice u2 m2 j2] 24)) (.slice y2 l2 k2) (kSl bs ss ⟨a, b, c, d, p, q, s, t⟩) ∧ OwnT (w4.alloc (.cells #[.slice u1 m1 j1, .slice u2 m2 j2] 24)) M0 (.slice tq tn tc) (kTr bs ss ⟨a, b, c, d, p, q, s, t⟩) from ⟨HME.out.1.below hb4, HME.out.2.1.below hb4, OwnM.below HME.out.2.2 hb4⟩)
  have hRM5 := (hb4.block M0 (Array.getElem?_eq_some_iff.1 hRM3).1).trans hRM3
  clear x0 x1 o0 o1 o2 o3 o4 o5 o6 o7 hBa hb4 b4 g1 g2 g3 hRM3 HME HDO HW3
  go_upto_region 6 with fail
  generalize w4.alloc (.cells #[.slice u1 m1 j1, .slice u2 m2 j2] 24) = W5 at *
  generalize w4.heap.size = X0 at *
  obtain ⟨⟨-, hI5, -, -⟩, -⟩ := HSO.out W5 HW5.out
  have HE7 := hidK (err_oneK D B W5 hI5)
  clear hI5
  generalize hEV : errV D = EV at *
  clear hEV
  go_wp2_with fail
  refine HE7.out.mono ?_
  rintro e w6 ⟨rfl, b6⟩
  have HW6 := hidK (HW5.out.trans (b6.mono HW5.out.size))
  have HX6 := hidK (show LS w6 (.slice u1 m1 j1) (kBk bs ss ⟨a, b, c, d, p, q, s, t⟩) ∧ LS w6 (.slice u2 m2 j2) (kSl bs ss ⟨a, b, c, d, p, q, s, t⟩) ∧ OwnT w6 wc.heap.size (.slice sq sn sc) (kTr bs ss ⟨a, b, c, d, p, q, s, t⟩) from ⟨HX5.out.1.below b6, HX5.out.2.1.below b6, OwnM.below HX5.out.2.2 b6⟩)
  have HM6 := hidK (show LS w6 (.slice y1 l1 k1) (kBk bs ss ⟨a, b, c, d, p, q, s, t⟩) ∧ LS w6 (.slice y2 l2 k2) (kSl bs ss ⟨a, b, c, d, p, q, s, t⟩) ∧ OwnT w6 M0 (.slice tq tn tc) (kTr bs ss ⟨a, b, c, d, p, q, s, t⟩) from ⟨HM5.out.1.below b6, HM5.out.2.1.below b6, OwnM.below HM5.out.2.2 b6⟩)
  have hRM6 := (b6.block M0 (Array.getElem?_eq_some_iff.1 hRM5).1).trans hRM5
  have hRX6 := (b6.block X0 (Array.getElem?_eq_some_iff.1 hRX).1).trans hRX
  clear b6 hRM5 hRX HM5 HX5 HE7 HW5
  obtain ⟨z0, z1, z2, z3, z4, z5, z6, -⟩ := rowSeven hRM6
  obtain ⟨t0, t1, -⟩ := rowTwo hRX6
  go_wp2_with fail
  refine (book_same u1 u2 y1 y2 m1 m2 j1 j2 l1 l2 k1 k2 _ _ w6 HX6.out.1 HX6.out.2.1 HM6.out.1 HM6.out.2.1).mono ?_
  rintro e w7 ⟨rfl, b7⟩
  have HW7 := hidK (HW6.out.trans (b7.mono HW6.out.size))
  have HT7 := hidK (OwnM.below HX6.out.2.2 b7)
  have HM7 := hidK (OwnM.below HM6.out.2.2 b7)
  have hRM7 := (b7.block M0 (Array.getElem?_eq_some_iff.1 hRM6).1).trans hRM6
  clear b7 hRM6 hRX6 HM6 HX6 HW6 z0 z1 z2 z3 z4 z5 z6 t0 t1
  obtain ⟨z0, z1, z2, z3, z4, z5, z6, -⟩ := rowSeven hRM7
  have HN4 := hidK (show (kTr bs ss ⟨a, b, c, d, p, q, s, t⟩).length ≤ 9223372036854775807 by have := kTr_len (bs := bs) (ss := ss) (o := ⟨a, b, c, d, p, q, s, t⟩); omega)
  go_wp2_with fail
  refine (trades_same sq tq sn tn sc tc _ _ _ w7 HN4.out HT7.out HM7.out).mono ?_
  rintro e w8 ⟨rfl, b8⟩
  have HW8 := hidK (HW7.out.trans (b8.mono HW7.out.size))
  have hRM8 := (b8.block M0 (Array.getElem?_eq_some_iff.1 hRM7).1).trans hRM7
  clear b8 hRM7 HM7 HT7 HW7 z0 z1 z2 z3 z4 z5 z6 HN4
  obtain ⟨-, x0, x1, o0, o1, o2, o3, o4, o5, o6, o7⟩ := HSO.out w8 HW8.out
  obtain ⟨C, hC⟩ : ∃ C, chk ⟨a, b, c, d, p, q, s, t⟩ = C := ⟨_, rfl⟩
  have HC := hidK hC
  have HOR := hidK (rord_any ⟨a, b, c, d, p, q, s, t⟩ w8)
  rw [hC] at HOR
  clear hC
  go_wp2_with fail
  refine HOR.out.mono ?_
  rintro e w9 ⟨rfl, b9⟩
  have HW9 := hidK (HW8.out.trans (b9.mono HW8.out.size))
  have hRM9 := (b9.block M0 (Array.getElem?_eq_some_iff.1 hRM8).1).trans hRM8
  clear b9 hRM8 HW8 HOR x0 x1 o0 o1 o2 o3 o4 o5 o6 o7
  obtain ⟨-, x0, x1, o0, o1, o2, o3, o4, o5, o6, o7⟩ := HSO.out w9 HW9.out
  obtain ⟨RE, hRE⟩ : ∃ RE, restE ⟨a, b, c, d, p, q, s, t⟩ kq = RE := ⟨_, rfl⟩
  have HRE := hidK hRE
  have hre2 : (if C = 0 then (if 1 ≤ kq ∧ kq ≤ q then 0 else 1) else C) = RE := by rw [← hRE, ← HC.out]; rfl
  have HR2 := hidK hre2
  clear hRE hre2
  go_upto_region 10 with fail
  go_cut [62] from 51 to 62 (fun s62 wx => s62 = .bool (decide (C = 0 ∧ (kq < 1 ∨ q < kq))) ∧ wx = w9)
  case first =>
    by_cases h0 : C = 0
    · subst h0
      by_cases h1 : kq < 1
      · go_wp2_with fail
        go_meet
        case rel => exact ⟨bool_eqK (by simp [h1]), rfl⟩
      · by_cases h2 : q < kq
        · go_wp2_with fail
          go_meet
          case rel => exact ⟨bool_eqK (by simp [h2]), rfl⟩
        · go_wp2_with fail
          go_meet
          case rel => exact ⟨bool_eqK (by simp [h1, h2]), rfl⟩
    · have h0' : (C == 0) = false := by simp [h0]
      go_wp2_with fail
      go_meet
      case rel => exact ⟨bool_eqK (by simp [h0]), rfl⟩
  case rest =>
  obtain ⟨rfl, hwc⟩ := hcut
  subst hwc
  clear x0 x1 o0 o1 o2 o3 o4 o5 o6 o7
  go_upto_if 62 with fail
  go_cut [7] from 62 to 62 (fun s7 wx => s7 = .int .i64 RE ∧ wx = wc)
  case first =>
    by_cases h0 : C = 0 ∧ (kq < 1 ∨ q < kq)
    · have h0' : decide (C = 0 ∧ (kq < 1 ∨ q < kq)) = true := by simpa using h0
      have hR : RE = 1 := by rw [← HR2.out, if_pos h0.1, if_neg (by omega)]
      rw [h0']
      clear h0 h0'
      go_wp2_with fail
      go_meet
      case rel => exact ⟨int_eqK hR.symm, rfl⟩
    · have h0' : decide (C = 0 ∧ (kq < 1 ∨ q < kq)) = false := by simpa using h0
      have hR : RE = C := by
        rw [← HR2.out]
        by_cases hc : C = 0
        · rw [if_pos hc, if_pos (by omega), hc]
        · rw [if_neg hc]
      rw [h0']
      clear h0 h0'
      go_wp2_with fail
      go_meet
      case rel => exact ⟨int_eqK hR.symm, rfl⟩
  case rest =>
  obtain ⟨rfl, hwc⟩ := hcut
  subst hwc
  -- what rests
  obtain ⟨v1, v2, v3, v4, v5, hvr⟩ : ∃ v1 v2 v3 v4 v5, restV ⟨a, b, c, d, p, q, s, t⟩ kq = ⟨v1, v2, v3, v4, v5⟩ := ⟨_, _, _, _, _, rfl⟩
  have HVR := hidK hvr
  clear hvr
  have hBa : Below wc.heap.size wc (wc.alloc (.cells #[.int .i64 0, .int .i64 0, .int .i64 0, .int .i64 0, .int .i64 0] 26)) := (Below.refl _ _).alloc (Nat.le_refl _) _
  have hR0 : (wc.alloc (.cells #[.int .i64 0, .int .i64 0, .int .i64 0, .int .i64 0, .int .i64 0] 26)).heap[wc.heap.size]? = some (.cells #[.int .i64 0, .int .i64 0, .int .i64 0, .int .i64 0, .int .i64 0] 26 (0, 0)) := heap_alloc_new wc _
  have HW10 := hidK (HW9.out.trans (hBa.mono HW9.out.size))
  have hRM10 := (hBa.block M0 (Array.getElem?_eq_some_iff.1 hRM9).1).trans hRM9
  have HVS := hidK (show V.heap.size ≤ wc.heap.size ∧ M0 < wc.heap.size from ⟨HW9.out.size, (Array.getElem?_eq_some_iff.1 hRM9).1⟩)
  clear hBa hRM9 HW9
  go_upto_if 64 with fail
  generalize wc.alloc (.cells #[.int .i64 0, .int .i64 0, .int .i64 0, .int .i64 0, .int .i64 0] 26) = W10 at *
  generalize wc.heap.size = R0 at *
  go_cut [7] from 64 to 67 (fun s7 wx => s7 = .int .i64 RE ∧ wx.heap[R0]? = some (.cells #[.int .i64 v1, .int .i64 v2, .int .i64 v3, .int .i64 v4, .int .i64 v5] 26 (0, 0)) ∧ wx.heap[M0]? = some (.cells #[.slice y1 l1 k1, .slice y2 l2 k2, .slice tq tn tc, .int .i64 lf, .int .i64 GN, .slice none 0 0, .bool false] 65 (0, 0)) ∧ Aside (Below V.heap.size V wx))
  case first =>
    by_cases h0 : RE = 0
    · subst h0
      obtain ⟨hck, hk1, hk2⟩ := rest_zero HRE.out
      have hn := shw_of hck
      simp only [] at hn hk2
      have hkr : rB (keptR ⟨a, b, c, d, p, q, s, t⟩ kq) = .agg #[.int .i64 v1, .int .i64 v2, .int .i64 v3, .int .i64 v4, .int .i64 v5] := by
        have h := HVR.out
        unfold restV at h
        rw [if_pos HRE.out] at h
        rw [h]
        rfl
      have HKP := hidK (rkept_any a b c d p q s t kq W10 hn.1 (by omega) hk1 (by omega))
      rw [hkr] at HKP
      clear hck hk1 hk2 hn hkr
      obtain ⟨-, x0, x1, o0, o1, o2, o3, o4, o5, o6, o7⟩ := HSO.out W10 HW10.out
      go_wp2_with fail
      refine HKP.out.mono ?_
      rintro e w11 ⟨rfl, b11⟩
      have hR11 := (b11.block R0 (Array.getElem?_eq_some_iff.1 hR0).1).trans hR0
      have hRM11 := (b11.block M0 (Array.getElem?_eq_some_iff.1 hRM10).1).trans hRM10
      have hW11 := HW10.out.trans (b11.mono HW10.out.size)
      obtain ⟨e0, e1, e2, e3, e4, ef⟩ := rowFive hR11
      have f0 := ef 0
      have f1 := ef 1
      have f2 := ef 2
      have f3 := ef 3
      have f4 := ef 4
      have hg := grFive w11 R0 (.int .i64 v1) (.int .i64 v2) (.int .i64 v3) (.int .i64 v4) (.int .i64 v5)
      have HHX := hidK (setFive hR11 (.int .i64 v1) (.int .i64 v2) (.int .i64 v3) (.int .i64 v4) (.int .i64 v5))
      have HMX := hidK ((hg.block M0 (Array.getElem?_eq_some_iff.1 hRM11).1 (fun e => by cases e; have := HVS.out.2; omega)).trans hRM11)
      have HBX := hidK (hW11.grown hg hW11.size (fun k hk => by cases hk; exact HVS.out.1))
      clear ef hg hR11 hRM11 hW11 b11 HKP x0 x1 o0 o1 o2 o3 o4 o5 o6 o7
      go_wp2_with fail
      go_meet
      case rel => exact ⟨rfl, HHX.out, HMX.out, HBX.out⟩
    · have h0' : (RE == 0) = false := by simp [h0]
      have HHX : Hid (W10.heap[R0]? = some (.cells #[.int .i64 v1, .int .i64 v2, .int .i64 v3, .int .i64 v4, .int .i64 v5] 26 (0, 0))) := by
        have h := HVR.out
        unfold restV at h
        rw [if_neg (by rw [HRE.out]; exact h0)] at h
        unfold kin.zeroR at h
        injection h with a1 a2 a3 a4 a5
        subst a1 a2 a3 a4 a5
        exact hR0
      have HMX := hidK hRM10
      go_wp2_with fail
      go_meet
      case rel => exact ⟨rfl, HHX.out, HMX.out, HW10.out⟩
  case rest =>
  obtain ⟨rfl, hR12, hRM12, HA⟩ := hcut
  have HW12 := hidK HA.out
  clear HA hR0 hRM10 HW10
  obtain ⟨-, x0, x1, o0, o1, o2, o3, o4, o5, o6, o7⟩ := HSO.out wc HW12.out
  have HKR := hidK (krest_any a b c d p q s t kq wc)
  rw [HVR.out, HRE.out, show rB ⟨v1, v2, v3, v4, v5⟩ = .agg #[.int .i64 v1, .int .i64 v2, .int .i64 v3, .int .i64 v4, .int .i64 v5] from rfl] at HKR
  generalize hEW : errV RE = EW at *
  have HEW := hidK hEW
  clear hEW
  go_wp2_with fail
  refine HKR.out.mono ?_
  rintro e w13 ⟨rfl, b13⟩
  have hBa : Below w13.heap.size w13 (w13.alloc (.cells #[.int .i64 v1, .int .i64 v2, .int .i64 v3, .int .i64 v4, .int .i64 v5] 26)) := (Below.refl _ _).alloc (Nat.le_refl _) _
  have hb13 := b13.trans (hBa.mono b13.size)
  have hRK : (w13.alloc (.cells #[.int .i64 v1, .int .i64 v2, .int .i64 v3, .int .i64 v4, .int .i64 v5] 26)).heap[w13.heap.size]? = some (.cells #[.int .i64 v1, .int .i64 v2, .int .i64 v3, .int .i64 v4, .int .i64 v5] 26 (0, 0)) := heap_alloc_new w13 _
  have HW14 := hidK (HW12.out.trans (hb13.mono HW12.out.size))
  have hRM14 := (hb13.block M0 (Array.getElem?_eq_some_iff.1 hRM12).1).trans hRM12
  have hR14 := (hb13.block R0 (Array.getElem?_eq_some_iff.1 hR12).1).trans hR12
  clear x0 x1 o0 o1 o2 o3 o4 o5 o6 o7 HKR b13 hb13 hBa hRM12 hR12 HW12
  go_upto_region 16 with fail
  generalize w13.alloc (.cells #[.int .i64 v1, .int .i64 v2, .int .i64 v3, .int .i64 v4, .int .i64 v5] 26) = W14 at *
  generalize w13.heap.size = K0 at *
  obtain ⟨⟨-, hI14, -, -⟩, -⟩ := HSO.out W14 HW14.out
  have HE14 := hidK (err_oneK RE B W14 hI14)
  rw [HEW.out] at HE14
  clear hI14
  go_wp2_with fail
  refine HE14.out.mono ?_
  rintro e w15 ⟨rfl, b15⟩
  have HW15 := hidK (HW14.out.trans (b15.mono HW14.out.size))
  have hRM15 := (b15.block M0 (Array.getElem?_eq_some_iff.1 hRM14).1).trans hRM14
  have hR15 := (b15.block R0 (Array.getElem?_eq_some_iff.1 hR14).1).trans hR14
  have hK15 := (b15.block K0 (Array.getElem?_eq_some_iff.1 hRK).1).trans hRK
  obtain ⟨z0, z1, z2, z3, z4, z5, z6, -⟩ := rowSeven hRM15
  obtain ⟨c0', c1', c2', c3', c4', -⟩ := rowFive hR15
  obtain ⟨d0', d1', d2', d3', d4', -⟩ := rowFive hK15
  have HI15 := hidK (HSO.out w15 HW15.out).1.2.1
  have hgg : (GN == GN) = true := by simp
  clear HSO hRM15 hR15 hK15 b15 hRM14 hR14 hRK HE14
  go_wp2_with fail
  go_ret
  exact ⟨rfl, HI15.out⟩
theorem walk {w : World} (q1 q2 : Option Addr) (n1 n2 c1 c2 : Nat) (bs ss : List L) (h1 : LS w (.slice q1 n1 c1) bs) (h2 : LS w (.slice q2 n2 c2) ss) (a b c d p q s t kq : Int) (B : World) (hI : told.Inv B w) :
    Calls Tryz.prog 5 #[.agg #[.slice q1 n1 c1, .slice q2 n2 c2], .agg #[.int .i64 a, .int .i64 b, .int .i64 c, .int .i64 d, .int .i64 p, .int .i64 q, .int .i64 s, .int .i64 t], .int .i64 kq] w fun e w' => e = .returned (.bool true) ∧ told.Inv B w' :=
  walk0 q1 q2 n1 n2 c1 c2 bs ss a b c d p q s t kq B w hI h1 h2
end Go.Proofs.YtalhdjlopkdnbaaGreatDoor.kindsTell
