/- The walk of MeetTells. -/
import Derived.Test.YtalhdjlopkdnbaaGreatDoorSidSame
import Derived.Test.YtalhdjlopkdnbaaGreatDoorQueRefT
import Derived.Test.YtalhdjlopkdnbaaGreatDoorTold
import Derived.Deep.RegionHeld3
namespace Go.Proofs.YtalhdjlopkdnbaaGreatDoor.meetTells
open Go.RowKit Go.Proofs.YtalhdjlopkdnbaaGreatDoor.spn Go.Proofs.YtalhdjlopkdnbaaGreatDoor.que Go.Proofs.YtalhdjlopkdnbaaGreatDoor.sid Go.Proofs.YtalhdjlopkdnbaaGreatDoor.bok Go.Proofs.YtalhdjlopkdnbaaGreatDoor.mee
open Go.Proofs.YtalhdjlopkdnbaaGreatDoor.ord (O oV mB mE chk rord_any ref_may)

theorem int_eqM {a b : Int} (h : a = b) : (Value.int .i64 a) = .int .i64 b := by rw [h]
/-- What comes of it, whether it goes well or not. -/
def mBk (bs ss : List L) (o : O) : List L := if doE bs ss o = 0 then metB bs ss o else []
def mSl (bs ss : List L) (o : O) : List L := if doE bs ss o = 0 then metS bs ss o else []
def mTr (bs ss : List L) (o : O) : List T := if doE bs ss o = 0 then (metR bs ss o).2.1 else []
def mLf (bs ss : List L) (o : O) : Int := if doE bs ss o = 0 then (metR bs ss o).2.2 else 0
theorem ownT_nil (w : World) (base : Nat) : OwnT w base (.slice none 0 0) [] := ⟨rfl, .inl ⟨rfl, rfl⟩⟩
/-- Do, in one word. -/
theorem do_one (q1 q2 : Option Addr) (n1 n2 c1 c2 : Nat) (bs ss : List L) (a b c d p q s t : Int) (w : World) (h1 : LS w (.slice q1 n1 c1) bs) (h2 : LS w (.slice q2 n2 c2) ss) :
    Calls Tryz.prog 27 #[.agg #[.slice q1 n1 c1, .slice q2 n2 c2], .agg #[.int .i64 a, .int .i64 b, .int .i64 c, .int .i64 d, .int .i64 p, .int .i64 q, .int .i64 s, .int .i64 t]] w fun e w' => ∃ u1 u2 m1 m2 k1 k2 tq tn tc, e = .returned (.tuple #[.agg #[.slice u1 m1 k1, .slice u2 m2 k2], .slice tq tn tc, .int .i64 (mLf bs ss ⟨a, b, c, d, p, q, s, t⟩), errV (doE bs ss ⟨a, b, c, d, p, q, s, t⟩)]) ∧ LS w' (.slice u1 m1 k1) (mBk bs ss ⟨a, b, c, d, p, q, s, t⟩) ∧ LS w' (.slice u2 m2 k2) (mSl bs ss ⟨a, b, c, d, p, q, s, t⟩) ∧ OwnT w' w.heap.size (.slice tq tn tc) (mTr bs ss ⟨a, b, c, d, p, q, s, t⟩) ∧ Below w.heap.size w w' := by
  refine (do_any q1 q2 n1 n2 c1 c2 bs ss a b c d p q s t w h1 h2).mono ?_
  rintro e w' ⟨i1, i2, i3⟩
  unfold mBk mSl mTr mLf
  by_cases hD : doE bs ss ⟨a, b, c, d, p, q, s, t⟩ = 0
  · obtain ⟨u1, u2, m1, m2, k1, k2, tv, rfl, g1, g2, g3⟩ := i1 hD
    obtain ⟨tq, tc, hf⟩ := OwnM.form g3
    subst hf
    rw [if_pos hD, if_pos hD, if_pos hD, if_pos hD]
    exact ⟨u1, u2, m1, m2, k1, k2, tq, _, tc, by rw [hD]; rfl, g1, g2, g3, i3⟩
  · rw [if_neg hD, if_neg hD, if_neg hD, if_neg hD]
    exact ⟨none, none, 0, 0, 0, 0, none, 0, 0, i2 hD, ls_nil _, ls_nil _, ownT_nil _ _, i3⟩
theorem tr_one (q1 q2 : Option Addr) (n1 n2 c1 c2 : Nat) (bs ss : List L) (a b c d p q s t : Int) (w : World) (h1 : LS w (.slice q1 n1 c1) bs) (h2 : LS w (.slice q2 n2 c2) ss) :
    Calls Tryz.prog 29 #[.agg #[.slice q1 n1 c1, .slice q2 n2 c2], .agg #[.int .i64 a, .int .i64 b, .int .i64 c, .int .i64 d, .int .i64 p, .int .i64 q, .int .i64 s, .int .i64 t]] w fun e w' => ∃ tq tn tc, e = .returned (.tuple #[.slice tq tn tc, errV (doE bs ss ⟨a, b, c, d, p, q, s, t⟩)]) ∧ OwnT w' w.heap.size (.slice tq tn tc) (mTr bs ss ⟨a, b, c, d, p, q, s, t⟩) ∧ Below w.heap.size w w' := by
  refine (trades_any q1 q2 n1 n2 c1 c2 bs ss a b c d p q s t w h1 h2).mono ?_
  rintro e w' ⟨i1, i2, i3⟩
  unfold mTr
  by_cases hD : doE bs ss ⟨a, b, c, d, p, q, s, t⟩ = 0
  · obtain ⟨tq, tn, tc, rfl, g3⟩ := i1 hD
    rw [if_pos hD]
    exact ⟨tq, tn, tc, by rw [hD]; rfl, g3, i3⟩
  · rw [if_neg hD]
    exact ⟨none, 0, 0, i2 hD, ownT_nil _ _, i3⟩
theorem err_one (k : Int) (B wx : World) (h : told.Inv B wx) :
    Calls Tryz.prog 8 #[errV k, .int .i64 k] wx fun ev w' => ev = .returned (.bool true) ∧ Below wx.heap.size wx w' := by
  refine (told.error_any wx k k wx (told.Inv.start h.laid)).mono ?_
  rintro e w' ⟨rfl, h'⟩
  exact ⟨by rw [beq_self_eq_true], h'.2⟩
theorem mTr_len {bs ss : List L} {o : O} : (mTr bs ss o).length ≤ 400 := by
  unfold mTr
  by_cases hD : doE bs ss o = 0
  · rw [if_pos hD]
    unfold doE at hD
    by_cases hC : comeE bs ss o = 0
    · rw [if_pos hC] at hD
      by_cases h4 : 400 < (metR bs ss o).2.1.length
      · rw [if_pos h4] at hD; omega
      · omega
    · rw [if_neg hC] at hD; exact absurd hD hC
  · rw [if_neg hD]; simp
/-- What the document's Meet leaves behind, as the law holds it. -/
def MetAt (b0 : Nat) (bs ss : List L) (o : O) (M0 : Nat) (v1 v2 tv : Value) (wx : World) : Prop :=
  LS (hide b0 wx) v1 (mBk bs ss o) ∧ LS (hide b0 wx) v2 (mSl bs ss o) ∧ OwnT wx M0 tv (mTr bs ss o)
theorem MetAt.on {b0 : Nat} {bs ss : List L} {o : O} {M0 : Nat} {v1 v2 tv : Value} {wx wy : World} (h : MetAt b0 bs ss o M0 v1 v2 tv wx) (hB : Below wx.heap.size wx wy) : MetAt b0 bs ss o M0 v1 v2 tv wy :=
  ⟨h.1.below (hide_below hB), h.2.1.below (hide_below hB), OwnM.below h.2.2 hB⟩
theorem could_is {bs ss : List L} {o : O} (h : comeE bs ss o = 0) : sumT (metR bs ss o).2.1 = min o.qty (couL o (otherL bs ss o)) := by
  obtain ⟨hbk, hck, -, -⟩ := come_zero h
  obtain ⟨e1, e2, -⟩ := book_zero hbk
  have hq := qty_of hck
  have hs : o.side = 1 ∨ o.side = 2 := by
    have h := (ord.chk_zero hck).1
    simp [ord.headB] at h
    omega
  have hg := other_good (o := o) hbk
  rcases hs with hs | hs
  · refine tkl_could (s := 2) (.inl ⟨hs, rfl⟩) (otherL bs ss o) o.qty (by omega) hg ?_
    rw [show otherL bs ss o = ss from if_pos hs]
    exact (sgo_ahd (schk_zero e2).1 ss none (schk_zero e2).2.1).1
  · refine tkl_could (s := 1) (.inr ⟨hs, rfl⟩) (otherL bs ss o) o.qty (by omega) hg ?_
    rw [show otherL bs ss o = bs from if_neg (by omega)]
    exact (sgo_ahd (schk_zero e1).1 bs none (schk_zero e1).2.1).1

set_option maxRecDepth 100000 in
set_option maxHeartbeats 8000000 in
theorem walk0 (q1 q2 : Option Addr) (n1 n2 c1 c2 : Nat) (bs ss : List L) (a b c d p q s t : Int) (B w : World) (hI : told.Inv B w) (h1 : LS w (.slice q1 n1 c1) bs) (h2 : LS w (.slice q2 n2 c2) ss) :
    Calls Tryz.prog 4 #[.agg #[.slice q1 n1 c1, .slice q2 n2 c2], .agg #[.int .i64 a, .int .i64 b, .int .i64 c, .int .i64 d, .int .i64 p, .int .i64 q, .int .i64 s, .int .i64 t]] w fun e w' => e = .returned (.bool true) ∧ told.Inv B w' := by
  obtain ⟨V, hV⟩ : ∃ V, V = (w.alloc (.cells #[.slice q1 n1 c1, .slice q2 n2 c2] 24)).alloc (.cells #[.int .i64 a, .int .i64 b, .int .i64 c, .int .i64 d, .int .i64 p, .int .i64 q, .int .i64 s, .int .i64 t] 60) := ⟨_, rfl⟩
  have HB : Hid (Below w.heap.size w V) := by rw [hV]; exact ((Below.refl _ _).alloc (Nat.le_refl _) _).alloc (by simp) _
  have v0 : V.cell? ⟨w.heap.size, 0, none⟩ = some (.slice q1 n1 c1) := by rw [hV]; simp [go_sem]
  have v1 : V.cell? ⟨w.heap.size, 1, none⟩ = some (.slice q2 n2 c2) := by rw [hV]; simp [go_sem]
  have hR : V.heap[w.heap.size + 1]? = some (.cells #[.int .i64 a, .int .i64 b, .int .i64 c, .int .i64 d, .int .i64 p, .int .i64 q, .int .i64 s, .int .i64 t] 60 (0, 0)) := by
    rw [hV]
    have := heap_alloc_new (w.alloc (.cells #[.slice q1 n1 c1, .slice q2 n2 c2] 24)) (.cells #[.int .i64 a, .int .i64 b, .int .i64 c, .int .i64 d, .int .i64 p, .int .i64 q, .int .i64 s, .int .i64 t] 60)
    simpa using this
  have cel : ∀ i, V.cell? ⟨w.heap.size + 1, i, none⟩ = (#[.int .i64 a, .int .i64 b, .int .i64 c, .int .i64 d, .int .i64 p, .int .i64 q, .int .i64 s, .int .i64 t] : Array Value)[i]? := fun i => by simp [World.cell?, hR]
  have HSO : Hid (∀ W, Below V.heap.size V W → (Below w.heap.size w W ∧ told.Inv B W ∧ LS W (.slice q1 n1 c1) bs ∧ LS W (.slice q2 n2 c2) ss) ∧ W.cell? ⟨w.heap.size, 0, none⟩ = some (.slice q1 n1 c1) ∧ W.cell? ⟨w.heap.size, 1, none⟩ = some (.slice q2 n2 c2) ∧ W.cell? ⟨w.heap.size + 1, 0, none⟩ = some (.int .i64 a) ∧ W.cell? ⟨w.heap.size + 1, 1, none⟩ = some (.int .i64 b) ∧ W.cell? ⟨w.heap.size + 1, 2, none⟩ = some (.int .i64 c) ∧ W.cell? ⟨w.heap.size + 1, 3, none⟩ = some (.int .i64 d) ∧ W.cell? ⟨w.heap.size + 1, 4, none⟩ = some (.int .i64 p) ∧ W.cell? ⟨w.heap.size + 1, 5, none⟩ = some (.int .i64 q) ∧ W.cell? ⟨w.heap.size + 1, 6, none⟩ = some (.int .i64 s) ∧ W.cell? ⟨w.heap.size + 1, 7, none⟩ = some (.int .i64 t)) :=
    fun W hW => by
      have hw := HB.out.trans (hW.mono HB.out.size)
      exact ⟨⟨hw, hI.on hw, h1.below hw, h2.below hw⟩, keeps hW v0, keeps hW v1, keeps hW (cel 0), keeps hW (cel 1), keeps hW (cel 2), keeps hW (cel 3), keeps hW (cel 4), keeps hW (cel 5), keeps hW (cel 6), keeps hW (cel 7)⟩
  have HLW : Hid (LS w (.slice q1 n1 c1) bs ∧ LS w (.slice q2 n2 c2) ss) := ⟨h1, h2⟩
  clear h1 h2 hI v0 v1 hR cel
  obtain ⟨-, x0, x1, o0, o1, o2, o3, o4, o5, o6, o7⟩ := HSO.out V (Below.refl _ _)
  have HLV : Hid (LS V (.slice q1 n1 c1) bs ∧ LS V (.slice q2 n2 c2) ss) := (HSO.out V (Below.refl _ _)).1.2.2
  go_enter Tryz.func4, Tryz.ntmps4
  go_wp2_with fail
  rw [← hV]
  clear hV
  refine (rcomes_any q1 q2 n1 n2 c1 c2 bs ss a b c d p q s t V HLV.out.1 HLV.out.2).mono ?_
  rintro e w1 ⟨rfl, b1⟩
  have hBa : Below w1.heap.size w1 (w1.alloc (.cells #[.slice none 0 0, .slice none 0 0, .slice none 0 0, .int .i64 0, .int .i64 0, .slice none 0 0, .bool false] 65)) := (Below.refl _ _).alloc (Nat.le_refl _) _
  have hRM : (w1.alloc (.cells #[.slice none 0 0, .slice none 0 0, .slice none 0 0, .int .i64 0, .int .i64 0, .slice none 0 0, .bool false] 65)).heap[w1.heap.size]? = some (.cells #[.slice none 0 0, .slice none 0 0, .slice none 0 0, .int .i64 0, .int .i64 0, .slice none 0 0, .bool false] 65 (0, 0)) := heap_alloc_new w1 _
  have HW2 := hid_of (b1.trans (hBa.mono b1.size))
  have HSZ := hid_of (show V.heap.size ≤ w1.heap.size ∧ w.heap.size ≤ w1.heap.size from ⟨b1.size, Nat.le_trans HB.out.size b1.size⟩)
  obtain ⟨E, hE⟩ : ∃ E, comeE bs ss ⟨a, b, c, d, p, q, s, t⟩ = E := ⟨_, rfl⟩
  obtain ⟨D, hD⟩ : ∃ D, doE bs ss ⟨a, b, c, d, p, q, s, t⟩ = D := ⟨_, rfl⟩
  have HE := hid_of hE
  have HD := hid_of hD
  rw [hE]
  clear x0 x1 o0 o1 o2 o3 o4 o5 o6 o7 b1 hBa HLV hE hD
  go_upto_if 29 with fail
  generalize w1.alloc (.cells #[.slice none 0 0, .slice none 0 0, .slice none 0 0, .int .i64 0, .int .i64 0, .slice none 0 0, .bool false] 65) = W2 at *
  generalize w1.heap.size = M0 at *
  go_cut [5] from 29 to 35 (fun s5 wx => ∃ y1 y2 l1 l2 k1 k2 tq tn tc, s5 = .int .i64 D ∧ wx.heap[M0]? = some (.cells #[.slice y1 l1 k1, .slice y2 l2 k2, .slice tq tn tc, .int .i64 (mLf bs ss ⟨a, b, c, d, p, q, s, t⟩), .int .i64 0, .slice none 0 0, .bool false] 65 (0, 0)) ∧ Aside (Below V.heap.size V wx ∧ MetAt w.heap.size bs ss ⟨a, b, c, d, p, q, s, t⟩ M0 (.slice y1 l1 k1) (.slice y2 l2 k2) (.slice tq tn tc) wx))
  case first =>
    obtain ⟨z0, z1, z2, z3, z4, z5, z6, zf⟩ := rowSeven hRM
    by_cases h0 : E = 0
    · subst h0
      obtain ⟨⟨hw2, -, -, -⟩, x0, x1, o0, o1, o2, o3, o4, o5, o6, o7⟩ := HSO.out W2 HW2.out
      have HME := hid_of (rmeet_any w.heap.size q1 q2 n1 n2 c1 c2 bs ss a b c d p q s t W2 hw2.size (HLW.out.1.below (hide_first hw2)) (HLW.out.2.below (hide_first hw2)) HE.out)
      clear hw2
      go_wp2_with fail
      refine HME.out.mono ?_
      rintro e w3 ⟨i1, i2, b3⟩
      have hW3 := HW2.out.trans (b3.mono HW2.out.size)
      have hR3 := (b3.block M0 (Array.getElem?_eq_some_iff.1 hRM).1).trans hRM
      have hM2 : M0 < W2.heap.size := (Array.getElem?_eq_some_iff.1 hRM).1
      clear z0 z1 z2 z3 z4 z5 z6 zf x0 x1 o0 o1 o2 o3 o4 o5 o6 o7 HME
      obtain ⟨z0, z1, z2, z3, z4, z5, z6, zf⟩ := rowSeven hR3
      have f0 := zf 0
      have f1 := zf 1
      have f2 := zf 2
      have f3 := zf 3
      have f4 := zf 4
      have f5 := zf 5
      have f6 := zf 6
      by_cases h4 : (metR bs ss ⟨a, b, c, d, p, q, s, t⟩).2.1.length ≤ 400
      · obtain ⟨y1, y2, l1, l2, k1, k2, tv, rfl, g1, g2, g3⟩ := i1 h4
        have hD0 : doE bs ss ⟨a, b, c, d, p, q, s, t⟩ = 0 := by unfold doE; rw [if_pos HE.out, if_neg (by omega)]
        have hDD : D = 0 := by rw [← HD.out]; exact hD0
        subst hDD
        have eL : mLf bs ss ⟨a, b, c, d, p, q, s, t⟩ = (metR bs ss ⟨a, b, c, d, p, q, s, t⟩).2.2 := by unfold mLf; rw [if_pos hD0]
        have eB : mBk bs ss ⟨a, b, c, d, p, q, s, t⟩ = metB bs ss ⟨a, b, c, d, p, q, s, t⟩ := by unfold mBk; rw [if_pos hD0]
        have eS : mSl bs ss ⟨a, b, c, d, p, q, s, t⟩ = metS bs ss ⟨a, b, c, d, p, q, s, t⟩ := by unfold mSl; rw [if_pos hD0]
        have eT : mTr bs ss ⟨a, b, c, d, p, q, s, t⟩ = (metR bs ss ⟨a, b, c, d, p, q, s, t⟩).2.1 := by unfold mTr; rw [if_pos hD0]
        rw [← eB] at g1
        rw [← eS] at g2
        rw [← eT] at g3
        obtain ⟨tq, tc, hf⟩ := OwnM.form g3
        subst hf
        rw [← eL]
        generalize hln : (mTr bs ss ⟨a, b, c, d, p, q, s, t⟩).length = tn at *
        generalize mLf bs ss ⟨a, b, c, d, p, q, s, t⟩ = lf at *
        have hset := setSeven hR3 (.slice y1 l1 k1) (.slice y2 l2 k2) (.slice tq tn tc) (.int .i64 lf) (.int .i64 0) (.slice none 0 0) (.bool false)
        have hgr := grSeven w3 M0 (.slice y1 l1 k1) (.slice y2 l2 k2) (.slice tq tn tc) (.int .i64 lf) (.int .i64 0) (.slice none 0 0) (.bool false)
        have hB0 : w.heap.size ≤ M0 ∧ V.heap.size ≤ M0 := ⟨HSZ.out.2, HSZ.out.1⟩
        have hk : Below (hide w.heap.size w3).heap.size (hide w.heap.size w3) (hide w.heap.size (((((((w3.setCell ⟨M0, 0, none⟩ (.slice y1 l1 k1)).setCell ⟨M0, 1, none⟩ (.slice y2 l2 k2)).setCell ⟨M0, 2, none⟩ (.slice tq tn tc)).setCell ⟨M0, 3, none⟩ (.int .i64 lf)).setCell ⟨M0, 4, none⟩ (.int .i64 0)).setCell ⟨M0, 5, none⟩ (.slice none 0 0)).setCell ⟨M0, 6, none⟩ (.bool false))) := hide_put hgr hB0.1 ⟨_, hR3, by simp [secB]⟩ ⟨_, hset, by simp [secB]⟩
        have HFIN := hid_of (show Below V.heap.size V (((((((w3.setCell ⟨M0, 0, none⟩ (.slice y1 l1 k1)).setCell ⟨M0, 1, none⟩ (.slice y2 l2 k2)).setCell ⟨M0, 2, none⟩ (.slice tq tn tc)).setCell ⟨M0, 3, none⟩ (.int .i64 lf)).setCell ⟨M0, 4, none⟩ (.int .i64 0)).setCell ⟨M0, 5, none⟩ (.slice none 0 0)).setCell ⟨M0, 6, none⟩ (.bool false)) ∧ MetAt w.heap.size bs ss ⟨a, b, c, d, p, q, s, t⟩ M0 (.slice y1 l1 k1) (.slice y2 l2 k2) (.slice tq tn tc) (((((((w3.setCell ⟨M0, 0, none⟩ (.slice y1 l1 k1)).setCell ⟨M0, 1, none⟩ (.slice y2 l2 k2)).setCell ⟨M0, 2, none⟩ (.slice tq tn tc)).setCell ⟨M0, 3, none⟩ (.int .i64 lf)).setCell ⟨M0, 4, none⟩ (.int .i64 0)).setCell ⟨M0, 5, none⟩ (.slice none 0 0)).setCell ⟨M0, 6, none⟩ (.bool false)) from
          ⟨hW3.grown hgr hW3.size (fun k hk => by cases hk; exact hB0.2), g1.below hk, g2.below hk, OwnM.mono (kept_of g3 hgr (fun z hz e => by cases e; have := (OwnM.lt g3 M0 hz).1; omega)) (by omega)⟩)
        have HHX := hid_of hset
        clear hset hgr hk g1 g2 g3 i1 i2 b3 zf hR3 hW3 hln eL eB eS eT hD0
        go_wp2_with fail
        go_meet
        case rel => exact ⟨y1, y2, l1, l2, k1, k2, tq, tn, tc, rfl, HHX.out, HFIN.out⟩
      · have e2 := i2 h4
        subst e2
        have hD4 : doE bs ss ⟨a, b, c, d, p, q, s, t⟩ = 4 := by unfold doE; rw [if_pos HE.out, if_pos (by omega)]
        have hDD : D = 4 := by rw [← HD.out]; exact hD4
        subst hDD
        have hne : ¬ doE bs ss ⟨a, b, c, d, p, q, s, t⟩ = 0 := by rw [hD4]; decide
        have eL : mLf bs ss ⟨a, b, c, d, p, q, s, t⟩ = 0 := by unfold mLf; rw [if_neg hne]
        have eB : mBk bs ss ⟨a, b, c, d, p, q, s, t⟩ = [] := by unfold mBk; rw [if_neg hne]
        have eS : mSl bs ss ⟨a, b, c, d, p, q, s, t⟩ = [] := by unfold mSl; rw [if_neg hne]
        have eT : mTr bs ss ⟨a, b, c, d, p, q, s, t⟩ = [] := by unfold mTr; rw [if_neg hne]
        have hset := setSeven hR3 (.slice none 0 0) (.slice none 0 0) (.slice none 0 0) (.int .i64 0) (.int .i64 0) (.slice none 0 0) (.bool false)
        have hgr := grSeven w3 M0 (.slice none 0 0) (.slice none 0 0) (.slice none 0 0) (.int .i64 0) (.int .i64 0) (.slice none 0 0) (.bool false)
        have hB0 : w.heap.size ≤ M0 ∧ V.heap.size ≤ M0 := ⟨HSZ.out.2, HSZ.out.1⟩
        have HFIN := hid_of (hW3.grown hgr hW3.size (fun k hk => by cases hk; exact hB0.2))
        have HHX := hid_of hset
        have HEQ := hid_of (show mLf bs ss ⟨a, b, c, d, p, q, s, t⟩ = 0 ∧ mBk bs ss ⟨a, b, c, d, p, q, s, t⟩ = [] ∧ mSl bs ss ⟨a, b, c, d, p, q, s, t⟩ = [] ∧ mTr bs ss ⟨a, b, c, d, p, q, s, t⟩ = [] from ⟨eL, eB, eS, eT⟩)
        clear hset hgr i1 i2 b3 zf hR3 hW3 eL eB eS eT hne hD4
        go_wp2_with fail
        go_meet
        case rel =>
          refine ⟨none, none, 0, 0, 0, 0, none, 0, 0, rfl, by rw [HEQ.out.1]; exact HHX.out, HFIN.out, ?_⟩
          unfold MetAt
          rw [HEQ.out.2.1, HEQ.out.2.2.1, HEQ.out.2.2.2]
          exact ⟨ls_nil _, ls_nil _, ownT_nil _ _⟩
    · have h0' : (E == 0) = false := by simp [h0]
      have hDE : D = E := by rw [← HD.out]; unfold doE; rw [HE.out, if_neg h0]
      subst hDE
      have hne : ¬ doE bs ss ⟨a, b, c, d, p, q, s, t⟩ = 0 := by rw [HD.out]; exact h0
      have HEQ := hid_of (show mLf bs ss ⟨a, b, c, d, p, q, s, t⟩ = 0 ∧ mBk bs ss ⟨a, b, c, d, p, q, s, t⟩ = [] ∧ mSl bs ss ⟨a, b, c, d, p, q, s, t⟩ = [] ∧ mTr bs ss ⟨a, b, c, d, p, q, s, t⟩ = [] from ⟨by unfold mLf; rw [if_neg hne], by unfold mBk; rw [if_neg hne], by unfold mSl; rw [if_neg hne], by unfold mTr; rw [if_neg hne]⟩)
      have HRM := hid_of hRM
      clear zf hne
      go_wp2_with fail
      go_meet
      case rel =>
        refine ⟨none, none, 0, 0, 0, 0, none, 0, 0, rfl, by rw [HEQ.out.1]; exact HRM.out, HW2.out, ?_⟩
        unfold MetAt
        rw [HEQ.out.2.1, HEQ.out.2.2.1, HEQ.out.2.2.2]
        exact ⟨ls_nil _, ls_nil _, ownT_nil _ _⟩
  case rest =>
  obtain ⟨y1, y2, l1, l2, k1, k2, tq, tn, tc, rfl, hRM3, HA⟩ := hcut
  have HW3 := hid_of HA.out.1
  have HME := hid_of HA.out.2
  clear HA hRM HW2
  obtain ⟨⟨-, -, hL1, hL2⟩, x0, x1, o0, o1, o2, o3, o4, o5, o6, o7⟩ := HSO.out wc HW3.out
  have HDO := hid_of (do_one q1 q2 n1 n2 c1 c2 bs ss a b c d p q s t wc hL1 hL2)
  rw [HD.out] at HDO
  generalize mLf bs ss ⟨a, b, c, d, p, q, s, t⟩ = LF at *
  clear hL1 hL2
  go_wp2_with fail
  refine HDO.out.mono ?_
  rintro e w4 ⟨u1, u2, m1, m2, j1, j2, sq, sn, sc, rfl, g1, g2, g3, b4⟩
  have hBa : Below w4.heap.size w4 (w4.alloc (.cells #[.slice u1 m1 j1, .slice u2 m2 j2] 24)) := (Below.refl _ _).alloc (Nat.le_refl _) _
  have hb4 := b4.trans (hBa.mono b4.size)
  have hRX : (w4.alloc (.cells #[.slice u1 m1 j1, .slice u2 m2 j2] 24)).heap[w4.heap.size]? = some (.cells #[.slice u1 m1 j1, .slice u2 m2 j2] 24 (0, 0)) := heap_alloc_new w4 _
  have HW5 := hid_of (HW3.out.trans (hb4.mono HW3.out.size))
  have HX5 := hid_of (show LS (w4.alloc (.cells #[.slice u1 m1 j1, .slice u2 m2 j2] 24)) (.slice u1 m1 j1) (mBk bs ss ⟨a, b, c, d, p, q, s, t⟩) ∧ LS (w4.alloc (.cells #[.slice u1 m1 j1, .slice u2 m2 j2] 24)) (.slice u2 m2 j2) (mSl bs ss ⟨a, b, c, d, p, q, s, t⟩) ∧ OwnT (w4.alloc (.cells #[.slice u1 m1 j1, .slice u2 m2 j2] 24)) wc.heap.size (.slice sq sn sc) (mTr bs ss ⟨a, b, c, d, p, q, s, t⟩) from ⟨g1.below hBa, g2.below hBa, OwnM.below g3 hBa⟩)
  have HM5 := hid_of (HME.out.on hb4)
  have hRM5 := (hb4.block M0 (Array.getElem?_eq_some_iff.1 hRM3).1).trans hRM3
  clear x0 x1 o0 o1 o2 o3 o4 o5 o6 o7 hBa hb4 b4 g1 g2 g3 hRM3 HME HDO HW3
  go_upto_region 7 with fail
  generalize w4.alloc (.cells #[.slice u1 m1 j1, .slice u2 m2 j2] 24) = W5 at *
  generalize w4.heap.size = X0 at *
  obtain ⟨⟨-, hI5, -, -⟩, -⟩ := HSO.out W5 HW5.out
  have HE7 := hid_of (err_one D B W5 hI5)
  clear hI5
  generalize hEV : errV D = EV at *
  have HEV := hid_of hEV
  clear hEV
  go_wp2_with fail
  refine HE7.out.mono ?_
  rintro e w6 ⟨rfl, b6⟩
  have HW6 := hid_of (HW5.out.trans (b6.mono HW5.out.size))
  have HX6 := hid_of (show LS w6 (.slice u1 m1 j1) (mBk bs ss ⟨a, b, c, d, p, q, s, t⟩) ∧ LS w6 (.slice u2 m2 j2) (mSl bs ss ⟨a, b, c, d, p, q, s, t⟩) ∧ OwnT w6 wc.heap.size (.slice sq sn sc) (mTr bs ss ⟨a, b, c, d, p, q, s, t⟩) from ⟨HX5.out.1.below b6, HX5.out.2.1.below b6, OwnM.below HX5.out.2.2 b6⟩)
  have HM6 := hid_of (HM5.out.on b6)
  have hRM6 := (b6.block M0 (Array.getElem?_eq_some_iff.1 hRM5).1).trans hRM5
  have hRX6 := (b6.block X0 (Array.getElem?_eq_some_iff.1 hRX).1).trans hRX
  clear b6 hRM5 hRX HM5 HX5 HE7 HW5
  obtain ⟨z0, z1, z2, z3, z4, z5, z6, -⟩ := rowSeven hRM6
  obtain ⟨t0, t1, -⟩ := rowTwo hRX6
  go_wp2_with fail
  refine (book_same u1 u2 y1 y2 m1 m2 j1 j2 l1 l2 k1 k2 _ _ w6 HX6.out.1 HX6.out.2.1 (hide_ls HM6.out.1) (hide_ls HM6.out.2.1)).mono ?_
  rintro e w7 ⟨rfl, b7⟩
  have HW7 := hid_of (HW6.out.trans (b7.mono HW6.out.size))
  have HT7 := hid_of (OwnM.below HX6.out.2.2 b7)
  have HM7 := hid_of (HM6.out.on b7)
  have hRM7 := (b7.block M0 (Array.getElem?_eq_some_iff.1 hRM6).1).trans hRM6
  clear b7 hRM6 hRX6 HM6 HX6 HW6 z0 z1 z2 z3 z4 z5 z6 t0 t1
  obtain ⟨z0, z1, z2, z3, z4, z5, z6, -⟩ := rowSeven hRM7
  have hn4 : (mTr bs ss ⟨a, b, c, d, p, q, s, t⟩).length ≤ 9223372036854775807 := by have := mTr_len (bs := bs) (ss := ss) (o := ⟨a, b, c, d, p, q, s, t⟩); omega
  have HN4 := hid_of hn4
  clear hn4
  go_wp2_with fail
  refine (trades_same sq tq sn tn sc tc _ _ _ w7 HN4.out HT7.out HM7.out.2.2).mono ?_
  rintro e w8 ⟨rfl, b8⟩
  have HW8 := hid_of (HW7.out.trans (b8.mono HW7.out.size))
  have HM8 := hid_of (HM7.out.on b8)
  have hRM8 := (b8.block M0 (Array.getElem?_eq_some_iff.1 hRM7).1).trans hRM7
  clear b8 hRM7 HM7 HT7 HW7 z0 z1 z2 z3 z4 z5 z6
  obtain ⟨⟨-, -, hL1, hL2⟩, x0, x1, o0, o1, o2, o3, o4, o5, o6, o7⟩ := HSO.out w8 HW8.out
  have HTR := hid_of (tr_one q1 q2 n1 n2 c1 c2 bs ss a b c d p q s t w8 hL1 hL2)
  rw [HD.out, HEV.out] at HTR
  clear hL1 hL2
  go_wp2_with fail
  refine HTR.out.mono ?_
  rintro e w9 ⟨rq, rn, rc, rfl, g3, b9⟩
  have HW9 := hid_of (HW8.out.trans (b9.mono HW8.out.size))
  have HM9 := hid_of (HM8.out.on b9)
  have HT9 := hid_of g3
  have hRM9 := (b9.block M0 (Array.getElem?_eq_some_iff.1 hRM8).1).trans hRM8
  clear b9 hRM8 HM8 g3 HTR x0 x1 o0 o1 o2 o3 o4 o5 o6 o7
  obtain ⟨⟨-, hI9, -, -⟩, -⟩ := HSO.out w9 HW9.out
  have HE9 := hid_of (err_one D B w9 hI9)
  rw [HEV.out] at HE9
  clear hI9
  go_wp2_with fail
  refine HE9.out.mono ?_
  rintro e w10 ⟨rfl, b10⟩
  have HW10 := hid_of (HW9.out.trans (b10.mono HW9.out.size))
  have HM10 := hid_of (HM9.out.on b10)
  have HT10 := hid_of (OwnM.below HT9.out b10)
  have hRM10 := (b10.block M0 (Array.getElem?_eq_some_iff.1 hRM9).1).trans hRM9
  clear b10 hRM9 HM9 HT9 HE9 HW9 HW8
  obtain ⟨z0, z1, z2, z3, z4, z5, z6, -⟩ := rowSeven hRM10
  go_wp2_with fail
  refine (trades_same rq tq rn tn rc tc _ _ _ w10 HN4.out HT10.out HM10.out.2.2).mono ?_
  rintro e w11 ⟨rfl, b11⟩
  have HW11 := hid_of (HW10.out.trans (b11.mono HW10.out.size))
  have hRM11 := (b11.block M0 (Array.getElem?_eq_some_iff.1 hRM10).1).trans hRM10
  clear b11 hRM10 HM10 HT10 HW10 z0 z1 z2 z3 z4 z5 z6 HN4
  obtain ⟨CO, hCO⟩ : ∃ CO, (if E = 0 then sumT (metR bs ss ⟨a, b, c, d, p, q, s, t⟩).2.1 else 0) = CO := ⟨_, rfl⟩
  have HCO := hid_of hCO
  clear hCO
  go_upto_if 69 with fail
  go_cut [18, 19, 20, 21] from 69 to 102 (fun s18 _ _ _ wx => s18 = .int .i64 CO ∧ wx.heap[M0]? = some (.cells #[.slice y1 l1 k1, .slice y2 l2 k2, .slice tq tn tc, .int .i64 LF, .int .i64 0, .slice none 0 0, .bool false] 65 (0, 0)) ∧ Aside (Below V.heap.size V wx))
  case first =>
    by_cases h0 : E = 0
    rotate_left
    · have h0' : (E == 0) = false := by simp [h0]
      have hC0 : CO = 0 := by rw [← HCO.out, if_neg h0]
      subst hC0
      have HRM := hid_of hRM11
      go_wp2_with fail
      go_meet
      case rel => exact ⟨rfl, HRM.out, HW11.out⟩
    subst h0
    obtain ⟨hbk, hck, -, -⟩ := come_zero HE.out
    have hside : c = 1 ∨ c = 2 := by
      have h := (ord.chk_zero hck).1
      simp [ord.headB] at h
      omega
    have hq := qty_of hck
    simp only [] at hq
    obtain ⟨oq, on', oc, ls, hof, hlo⟩ : ∃ oq on' oc ls, (if (3 - c : Int) = 1 then Value.slice q1 n1 c1 else .slice q2 n2 c2) = .slice oq on' oc ∧ (∀ W, Below V.heap.size V W → LS W (.slice oq on' oc) ls) ∧ otherL bs ss ⟨a, b, c, d, p, q, s, t⟩ = ls := by
      rcases hside with rfl | rfl
      · exact ⟨q2, n2, c2, ss, by rw [if_neg (by decide)], fun W hW => (HSO.out W hW).1.2.2.2, if_pos rfl⟩
      · exact ⟨q1, n1, c1, bs, by rw [if_pos (by decide)], fun W hW => (HSO.out W hW).1.2.2.1, if_neg (show ¬ (2 : Int) = 1 by decide)⟩
    have HLO := hid_of hlo.1
    have hgood : ∀ l ∈ ls, lchk l = 0 := by rw [← hlo.2]; exact other_good hbk
    have hlen : ls.length ≤ 60 := by
      obtain ⟨e1, e2, -⟩ := book_zero hbk
      have g1 := len_le (side_ne e1)
      have g2 := len_le (side_ne e2)
      have g3 := (schk_zero e1).2.2.1
      have g4 := (schk_zero e2).2.2.1
      rw [← hlo.2]
      unfold otherL
      split <;> omega
    have hcould : CO = min q (couL ⟨a, b, c, d, p, q, s, t⟩ ls) := by
      rw [← HCO.out, if_pos rfl, could_is HE.out, hlo.2]
    have hnl : on' = ls.length := ls_len (hlo.1 V (Below.refl _ _))
    have HGD := hid_of (show (∀ l ∈ ls, lchk l = 0) ∧ on' = ls.length ∧ ls.length ≤ 60 ∧ CO = min q (couL ⟨a, b, c, d, p, q, s, t⟩ ls) ∧ (1 ≤ q ∧ q ≤ 10000) ∧ (c = 1 ∨ c = 2) from ⟨hgood, hnl, hlen, hcould, hq, hside⟩)
    obtain ⟨oth, hoth⟩ : ∃ oth, (3 - c : Int) = oth := ⟨_, rfl⟩
    have E0 : Hid (wrap64 (3 - c) = oth) := by show _ = _; rw [← hoth]; unfold wrap64; omega
    rw [hoth] at hof
    have HOF := hid_of hof
    clear hbk hck hside hq hlo hgood hlen hcould hnl hof hoth
    obtain ⟨-, x0, x1, o0, o1, o2, o3, o4, o5, o6, o7⟩ := HSO.out w11 HW11.out
    have e0 := E0.out
    go_wp2_with fail
    refine (rof_any oth q1 q2 n1 n2 c1 c2 w11).mono ?_
    rintro e w12 ⟨rfl, b12⟩
    rw [HOF.out]
    have HW12 := hid_of (HW11.out.trans (b12.mono HW11.out.size))
    have hRM12 := (b12.block M0 (Array.getElem?_eq_some_iff.1 hRM11).1).trans hRM11
    have hMl : M0 < w12.heap.size := (Array.getElem?_eq_some_iff.1 hRM12).1
    have HRM := hid_of hRM12
    have HML := hid_of hMl
    clear b12 e0 x0 x1 o0 o1 o2 o3 o4 o5 o6 o7 hRM12 hMl hRM11
    go_wp2_with fail
    go_loopg [18, 20, 21] on' (fun gg s18 s20 _ wr => ∃ kk : Nat, kk ≤ on' ∧ on' - kk ≤ gg ∧ s20 = .int .i64 kk ∧ s18 = .int .i64 (couL ⟨a, b, c, d, p, q, s, t⟩ (ls.take kk)) ∧ Aside (Below w12.heap.size w12 wr))
    case atStart => exact ⟨0, Nat.zero_le _, by omega, rfl, rfl, Below.refl _ _⟩
    case round =>
      obtain ⟨kk, hkk, hg, rfl, rfl, BW⟩ := hrel
      have HBW := hid_of BW.out
      have HWr := hid_of (HW12.out.trans (BW.out.mono HW12.out.size))
      have HRr := hid_of ((BW.out.block M0 HML.out).trans HRM.out)
      obtain ⟨-, x0, x1, o0, o1, o2, o3, o4, o5, o6, o7⟩ := HSO.out wr HWr.out
      clear BW x0 x1
      obtain ⟨hgd, hnl, hl60, hco, hq12, hcs⟩ := HGD.out
      by_cases hlt : kk < on'
      · have hltz : (kk : Int) < (on' : Int) := by omega
        have hkl : kk < ls.length := by rw [← hnl]; exact hlt
        obtain ⟨lb, lo, hoq, hlb, hLL⟩ : ∃ b o, oq = some ⟨b, o, none⟩ ∧ b < wr.heap.size ∧ LL wr b o ls := by
          rcases HLO.out wr HWr.out with ⟨e, e2⟩ | ⟨b, o, c', e, -, -, hb, hl⟩
          · rw [e2] at hkl; exact absurd hkl (Nat.not_lt_zero _)
          · cases e; exact ⟨b, o, rfl, hb, hl⟩
        subst hoq
        obtain ⟨r, hr⟩ : ∃ r, ls[kk]! = r := ⟨_, rfl⟩
        obtain ⟨px, zs⟩ := r
        obtain ⟨rq', rc', g0, g1, hsl⟩ := hLL.at hkl hr
        have hlk := hgd ls[kk]! (by rw [getE _ _ hkl]; exact List.getElem_mem hkl)
        rw [hr] at hlk
        have HMY := hid_of (fun U => ref_may a b c d p q s t px U hcs)
        have hst := couL_take ⟨a, b, c, d, p, q, s, t⟩ ls kk hkl
        rw [hr] at hst
        simp only [] at hst
        have hb1 := couL_le ⟨a, b, c, d, p, q, s, t⟩ (ls.take kk) (fun l hl => hgd l (List.mem_of_mem_take hl))
        have hb2 := couL_le ⟨a, b, c, d, p, q, s, t⟩ (ls.take (kk + 1)) (fun l hl => hgd l (List.mem_of_mem_take hl))
        rw [List.length_take] at hb1 hb2
        have E2 : Hid (wrap64 ((kk : Int) + 1) = ((kk + 1 : Nat) : Int)) := by show _ = _; clear hb1 hb2 hst; unfold wrap64; omega
        have hin1 : ¬ ((kk : Int) < 0) := Int.not_lt.2 (Int.natCast_nonneg _)
        have HM := hid_of (show on' - (kk + 1) < gk ∧ kk < on' from ⟨by omega, hlt⟩)
        have HTO := hid_of (fun U (hU : Below wr.heap.size wr U) => rtotal_any (.slice rq' zs.length rc') zs U ((hsl.sl (lchk_zero hlk).2.1).below hU) (lchk_zero hlk).2.2)
        obtain ⟨S0, hS0⟩ : ∃ S0, couL ⟨a, b, c, d, p, q, s, t⟩ (ls.take kk) = S0 := ⟨_, rfl⟩
        obtain ⟨S1, hS1⟩ : ∃ S1, couL ⟨a, b, c, d, p, q, s, t⟩ (ls.take (kk + 1)) = S1 := ⟨_, rfl⟩
        have HS1 := hid_of hS1
        rw [hS0, hS1] at hst
        rw [hS0] at hb1
        rw [hS1] at hb2
        rw [hS0]
        have SO : Hid (∀ W, Below wr.heap.size wr W → (Below wr.heap.size wr W ∧ W.cell? ⟨w.heap.size + 1, 0, none⟩ = some (.int .i64 a) ∧ W.cell? ⟨w.heap.size + 1, 1, none⟩ = some (.int .i64 b) ∧ W.cell? ⟨w.heap.size + 1, 2, none⟩ = some (.int .i64 c) ∧ W.cell? ⟨w.heap.size + 1, 3, none⟩ = some (.int .i64 d) ∧ W.cell? ⟨w.heap.size + 1, 4, none⟩ = some (.int .i64 p) ∧ W.cell? ⟨w.heap.size + 1, 5, none⟩ = some (.int .i64 q) ∧ W.cell? ⟨w.heap.size + 1, 6, none⟩ = some (.int .i64 s) ∧ W.cell? ⟨w.heap.size + 1, 7, none⟩ = some (.int .i64 t) ∧ W.cell? ⟨lb, lo + kk * 2, none⟩ = some (.int .i64 px))) := fun W hW => ⟨hW, keeps hW o0, keeps hW o1, keeps hW o2, keeps hW o3, keeps hW o4, keeps hW o5, keeps hW o6, keeps hW o7, keeps hW g0⟩
        have HMY2 : Hid (∀ U, Below wr.heap.size wr U → Calls Tryz.prog 30 #[.agg #[.int .i64 a, .int .i64 b, .int .i64 c, .int .i64 d, .int .i64 p, .int .i64 q, .int .i64 s, .int .i64 t], .int .i64 px] U fun e w' => e = .returned (.bool (mB ⟨a, b, c, d, p, q, s, t⟩ px)) ∧ Below wr.heap.size wr w') := fun U hU => (HMY.out U).mono fun e w' h => ⟨h.1, hU.trans (h.2.mono hU.size)⟩
        have HNUM := hid_of (show S1 = S0 + (if mB ⟨a, b, c, d, p, q, s, t⟩ px = true then tot zs else 0) ∧ (0 ≤ S0 ∧ S0 ≤ 100000000) ∧ (0 ≤ S1 ∧ S1 ≤ 100000000) from ⟨hst, ⟨hb1.1, by omega⟩, ⟨hb2.1, by omega⟩⟩)
        clear hgd hnl hl60 hco hq12 hcs hkk hg hlt hkl hLL hr hsl hlk hst hb1 hb2 hS0 hS1 HMY
        go_upto_region 19 with fail
        go_region_held3 (fun W => Below wr.heap.size wr W ∧ W.cell? ⟨w.heap.size + 1, 0, none⟩ = some (.int .i64 a) ∧ W.cell? ⟨w.heap.size + 1, 1, none⟩ = some (.int .i64 b) ∧ W.cell? ⟨w.heap.size + 1, 2, none⟩ = some (.int .i64 c) ∧ W.cell? ⟨w.heap.size + 1, 3, none⟩ = some (.int .i64 d) ∧ W.cell? ⟨w.heap.size + 1, 4, none⟩ = some (.int .i64 p) ∧ W.cell? ⟨w.heap.size + 1, 5, none⟩ = some (.int .i64 q) ∧ W.cell? ⟨w.heap.size + 1, 6, none⟩ = some (.int .i64 s) ∧ W.cell? ⟨w.heap.size + 1, 7, none⟩ = some (.int .i64 t) ∧ W.cell? ⟨lb, lo + kk * 2, none⟩ = some (.int .i64 px))
          ((refine SO.out _ ?_; (repeat' (first | with_reducible assumption | with_reducible refine bal ?_ _ | with_reducible refine Below.drew ?_ | with_reducible exact Below.refl _ _ | with_reducible exact Nat.le_refl _ | with_reducible exact Below.size (by with_reducible assumption)))))
          (first | (go_at_call 30; with_reducible refine (HMY2.out _ ?_).mono ?_; (repeat' (first | with_reducible assumption | with_reducible refine bal ?_ _ | with_reducible refine Below.drew ?_ | with_reducible exact Below.refl _ _ | with_reducible exact Nat.le_refl _ | with_reducible exact Below.size (by with_reducible assumption))); rintro x Wm ⟨rfl, hbm⟩))
        have HBm := hid_of (HBW.out.trans (hbm.mono HBW.out.size))
        have HBm2 := hid_of hbm
        have g1m := keeps hbm g1
        clear SO HMY2 o0 o1 o2 o3 o4 o5 o6 o7 g0 g1 hbm
        cases hmb : mB ⟨a, b, c, d, p, q, s, t⟩ px
        · have hS : S1 = S0 := by have h := HNUM.out.1; rw [hmb, if_neg (by decide)] at h; omega
          subst hS
          have x2 := E2.out
          clear hmb HNUM
          go_wp2_with fail
          go_roundg (on' - (kk + 1))
          case measure => exact HM.out.1
          case rel => exact ⟨kk + 1, HM.out.2, Nat.le_refl _, by go_num, by rw [HS1.out], HBm.out⟩
        · have hS : S1 = S0 + tot zs := by have h := HNUM.out.1; rw [hmb, if_pos rfl] at h; exact h
          have E1 : Hid (wrap64 (S0 + tot zs) = S1) := by show _ = _; have h := HNUM.out; rw [← hS]; unfold wrap64; omega
          clear hmb HNUM hS
          go_wp2_with fail
          refine (HTO.out Wm HBm2.out).mono ?_
          rintro e Wt ⟨rfl, bt⟩
          have HBt := hid_of (HBm.out.trans (bt.mono HBm.out.size))
          clear bt g1m
          generalize tot zs = tz at *
          have x1 := E1.out
          have x2 := E2.out
          go_wp2_with fail
          go_roundg (on' - (kk + 1))
          case measure => exact HM.out.1
          case rel => exact ⟨kk + 1, HM.out.2, Nat.le_refl _, by go_num, by rw [HS1.out] <;> exact congrArg (Value.int .i64) E1.out, HBt.out⟩
      · have hltz : ¬ (kk : Int) < (on' : Int) := by omega
        have hS : couL ⟨a, b, c, d, p, q, s, t⟩ (ls.take kk) = couL ⟨a, b, c, d, p, q, s, t⟩ ls := by rw [List.take_of_length_le (by omega)]
        rw [hS]
        obtain ⟨S1, hS1⟩ : ∃ S1, couL ⟨a, b, c, d, p, q, s, t⟩ ls = S1 := ⟨_, rfl⟩
        rw [hS1] at hco
        rw [hS1]
        clear hS hS1 hgd hnl hl60 hcs hkk hg hlt hq12
        by_cases hmore : q < S1
        · have hc2 : CO = q := by omega
          have HC2 := hid_of hc2
          clear hc2 hco
          go_wp2_with fail
          go_meet
          case rel => exact ⟨int_eqM HC2.out.symm, HRr.out, HWr.out⟩
        · have hc2 : CO = S1 := by omega
          have HC2 := hid_of hc2
          clear hc2 hco
          go_wp2_with fail
          go_meet
          case rel => exact ⟨int_eqM HC2.out.symm, HRr.out, HWr.out⟩
  case rest =>
  obtain ⟨rfl, hRM12, HA⟩ := hcut
  have HW12 := hid_of HA.out
  clear HA hRM11 HW11
  obtain ⟨⟨-, -, hL1, hL2⟩, x0, x1, o0, o1, o2, o3, o4, o5, o6, o7⟩ := HSO.out wc HW12.out
  have HCD := hid_of (could_any q1 q2 n1 n2 c1 c2 bs ss a b c d p q s t wc hL1 hL2)
  rw [HE.out, HCO.out] at HCD
  generalize hEW : errV E = EW at *
  have HEW := hid_of hEW
  clear hEW hL1 hL2
  go_wp2_with fail
  refine HCD.out.mono ?_
  rintro e w13 ⟨rfl, b13⟩
  have HW13 := hid_of (HW12.out.trans (b13.mono HW12.out.size))
  have hRM13 := (b13.block M0 (Array.getElem?_eq_some_iff.1 hRM12).1).trans hRM12
  clear b13 hRM12 HCD HW12 x0 x1 o0 o1 o2 o3 o4 o5 o6 o7
  obtain ⟨⟨-, hI13, -, -⟩, -⟩ := HSO.out w13 HW13.out
  have HE13 := hid_of (err_one E B w13 hI13)
  rw [HEW.out] at HE13
  clear hI13
  go_wp2_with fail
  refine HE13.out.mono ?_
  rintro e w14 ⟨rfl, b14⟩
  have HW14 := hid_of (HW13.out.trans (b14.mono HW13.out.size))
  have hRM14 := (b14.block M0 (Array.getElem?_eq_some_iff.1 hRM13).1).trans hRM13
  clear b14 hRM13 HE13
  obtain ⟨z0, z1, z2, z3, z4, z5, z6, -⟩ := rowSeven hRM14
  have hll : (LF == LF) = true := by simp
  have hcc : (CO == CO) = true := by simp
  have HI14 := hid_of (HSO.out w14 HW14.out).1.2.1
  clear HSO hRM14
  go_wp2_with fail
  go_ret
  exact ⟨rfl, HI14.out⟩
theorem walk {w : World} (q1 q2 : Option Addr) (n1 n2 c1 c2 : Nat) (bs ss : List L) (h1 : LS w (.slice q1 n1 c1) bs) (h2 : LS w (.slice q2 n2 c2) ss) (a b c d p q s t : Int) (B : World) (hI : told.Inv B w) :
    Calls Tryz.prog 4 #[.agg #[.slice q1 n1 c1, .slice q2 n2 c2], .agg #[.int .i64 a, .int .i64 b, .int .i64 c, .int .i64 d, .int .i64 p, .int .i64 q, .int .i64 s, .int .i64 t]] w fun e w' => e = .returned (.bool true) ∧ told.Inv B w' :=
  walk0 q1 q2 n1 n2 c1 c2 bs ss a b c d p q s t B w hI h1 h2
end Go.Proofs.YtalhdjlopkdnbaaGreatDoor.meetTells
