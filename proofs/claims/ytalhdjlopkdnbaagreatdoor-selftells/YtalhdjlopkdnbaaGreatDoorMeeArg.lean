/- The walk of SelfTells, with the contracts of self.Do and of the document's Come handed in. Contracts over this seat's translation: the document's Meet and Come at every order that comes, where nobody may trade with oneself. SelfTells: the contracts of self.Do and of the document's Come, mode by mode, and the walk. How a slice of rests that comes in is read. How a side that comes in is read: a slice of levels, each with a slice of rests. How a book that comes in is read: a struct of two slices of levels. How an order that comes in is read. -/
import Derived.Test.YtalhdjlopkdnbaaGreatDoorKinRef3
import Derived.Test.YtalhdjlopkdnbaaGreatDoorSelPure
import Derived.Test.YtalhdjlopkdnbaaGreatDoorTold
import Derived.Test.YtalhdjlopkdnbaaGreatDoorSelRC
import Derived.Test.YtalhdjlopkdnbaaGreatDoorSelMeet
import Derived.Test.YtalhdjlopkdnbaaGreatDoorSelMeetb
import Derived.Test.YtalhdjlopkdnbaaGreatDoorSelDo
import Derived.Test.YtalhdjlopkdnbaaGreatDoorRows
import Derived.Test.YtalhdjlopkdnbaaGreatDoorQueChk
import Derived.OpenShut
import Derived.Deep.Slices
import Derived.Carry
import Derived.Test.YtalhdjlopkdnbaaGreatDoorSidPure
import Derived.Test.YtalhdjlopkdnbaaGreatDoorMeeOrd
namespace Go.Proofs.YtalhdjlopkdnbaaGreatDoor.selfTells
open Go.RowKit Go.Proofs.YtalhdjlopkdnbaaGreatDoor.spn Go.Proofs.YtalhdjlopkdnbaaGreatDoor.que Go.Proofs.YtalhdjlopkdnbaaGreatDoor.sid Go.Proofs.YtalhdjlopkdnbaaGreatDoor.bok Go.Proofs.YtalhdjlopkdnbaaGreatDoor.mee Go.Proofs.YtalhdjlopkdnbaaGreatDoor.kin
open Go.Proofs.YtalhdjlopkdnbaaGreatDoor.ord (O oV mB mE chk rord_any ref_may)

theorem int_eqK {a b : Int} (h : a = b) : (Value.int .i64 a) = .int .i64 b := by rw [h]
theorem bool_eqK {a b : Bool} (h : a = b) : Value.bool a = .bool b := by rw [h]
theorem ownT_nilK (w : World) (base : Nat) : OwnT w base (.slice none 0 0) [] := ⟨rfl, .inl ⟨rfl, rfl⟩⟩
theorem ownI_nilK (w : World) (base : Nat) : slf.OwnI w base (.slice none 0 0) [] := ⟨rfl, .inl ⟨rfl, rfl⟩⟩
theorem err_oneK (k : Int) (B wx : World) (h : told.Inv B wx) :
    Calls Tryz.prog 8 #[errV k, .int .i64 k] wx fun ev w' => ev = .returned (.bool true) ∧ Below wx.heap.size wx w' := by
  refine (told.error_any wx k k wx (told.Inv.start h.laid)).mono ?_
  rintro e w' ⟨rfl, h'⟩
  exact ⟨by rw [beq_self_eq_true], h'.2⟩

set_option maxRecDepth 100000 in
set_option maxHeartbeats 8000000 in
theorem walk0 (q1 q2 : Option Addr) (n1 n2 c1 c2 : Nat) (bs ss : List L) (a b c d p q s t m : Int) (D GG E : Int) (BB SS : List L) (TS : List T) (IDS : List Int) (B w : World) (hI : told.Inv B w) (h1 : LS w (.slice q1 n1 c1) bs) (h2 : LS w (.slice q2 n2 c2) ss)
    (hE1 : (m < 0 ∨ 3 < m) → E = 1) (hE2 : ¬ (m < 0 ∨ 3 < m) → E = comeE bs ss ⟨a, b, c, d, p, q, s, t⟩)
    (hz : ¬ E = 0 → D = E ∧ GG = 0 ∧ BB = [] ∧ SS = [] ∧ TS = [] ∧ IDS = []) (hbk : bookE BB SS = 0) (hlen : TS.length ≤ 400)
    (hDO : ∀ w', LS w' (.slice q1 n1 c1) bs → LS w' (.slice q2 n2 c2) ss → Calls Tryz.prog 38 #[.agg #[.slice q1 n1 c1, .slice q2 n2 c2], .agg #[.int .i64 a, .int .i64 b, .int .i64 c, .int .i64 d, .int .i64 p, .int .i64 q, .int .i64 s, .int .i64 t], .int .i64 m] w' fun e w'' => ∃ u1 u2 m1 m2 j1 j2 sq sn sc rq rn rc, e = .returned (.tuple #[.agg #[.slice u1 m1 j1, .slice u2 m2 j2], .slice sq sn sc, .int .i64 GG, .slice rq rn rc, errV D]) ∧ (LS w'' (.slice u1 m1 j1) BB ∧ LS w'' (.slice u2 m2 j2) SS ∧ OwnT w'' w'.heap.size (.slice sq sn sc) TS ∧ slf.OwnI w'' w'.heap.size (.slice rq rn rc) IDS) ∧ Below w'.heap.size w' w'')
    (hCO : E = 0 → ∀ w', LS w' (.slice q1 n1 c1) bs → LS w' (.slice q2 n2 c2) ss → Calls Tryz.prog 33 #[.agg #[.slice q1 n1 c1, .slice q2 n2 c2], .agg #[.int .i64 a, .int .i64 b, .int .i64 c, .int .i64 d, .int .i64 p, .int .i64 q, .int .i64 s, .int .i64 t], .int .i64 m] w' fun e w'' => ∃ y1 y2 l1 l2 k1 k2 tq tn tc lf iq jn ic eb, e = .returned (.tuple #[.agg #[.slice y1 l1 k1, .slice y2 l2 k2, .slice tq tn tc, .int .i64 lf, .int .i64 GG, .slice iq jn ic, .bool eb], .int .i64 D]) ∧ (LS w'' (.slice y1 l1 k1) BB ∧ LS w'' (.slice y2 l2 k2) SS ∧ OwnT w'' w'.heap.size (.slice tq tn tc) TS ∧ slf.OwnI w'' w'.heap.size (.slice iq jn ic) IDS) ∧ Below w'.heap.size w' w'') :
    Calls Tryz.prog 6 #[.agg #[.slice q1 n1 c1, .slice q2 n2 c2], .agg #[.int .i64 a, .int .i64 b, .int .i64 c, .int .i64 d, .int .i64 p, .int .i64 q, .int .i64 s, .int .i64 t], .int .i64 m] w fun e w' => e = .returned (.bool true) ∧ told.Inv B w' := by
  have HE1 := hidK hE1
  have HE2 := hidK hE2
  have HZ := hidK hz
  have HLV0 := hidK (book_lv hbk)
  have HLEN := hidK hlen
  have HDOA := hidK hDO
  have HCOA := hidK hCO
  clear hE1 hE2 hz hbk hlen hDO hCO
  obtain ⟨V, hV⟩ : ∃ V, V = (w.alloc (.cells #[.slice q1 n1 c1, .slice q2 n2 c2] 24)).alloc (.cells #[.int .i64 a, .int .i64 b, .int .i64 c, .int .i64 d, .int .i64 p, .int .i64 q, .int .i64 s, .int .i64 t] 60) := ⟨_, rfl⟩
  have HB : Hid (Below w.heap.size w V) := by rw [hV]; exact ((Below.refl _ _).alloc (Nat.le_refl _) _).alloc (by simp) _
  have v0 : V.cell? ⟨w.heap.size, 0, none⟩ = some (.slice q1 n1 c1) := by rw [hV]; simp [go_sem]
  have v1 : V.cell? ⟨w.heap.size, 1, none⟩ = some (.slice q2 n2 c2) := by rw [hV]; simp [go_sem]
  have hR : V.heap[w.heap.size + 1]? = some (.cells #[.int .i64 a, .int .i64 b, .int .i64 c, .int .i64 d, .int .i64 p, .int .i64 q, .int .i64 s, .int .i64 t] 60 (0, 0)) := by
    rw [hV]
    have := heap_alloc_new (w.alloc (.cells #[.slice q1 n1 c1, .slice q2 n2 c2] 24)) (.cells #[.int .i64 a, .int .i64 b, .int .i64 c, .int .i64 d, .int .i64 p, .int .i64 q, .int .i64 s, .int .i64 t] 60)
    simpa using this
  have cel : ∀ i, V.cell? ⟨w.heap.size + 1, i, none⟩ = (#[.int .i64 a, .int .i64 b, .int .i64 c, .int .i64 d, .int .i64 p, .int .i64 q, .int .i64 s, .int .i64 t] : Array Value)[i]? := fun i => by simp [World.cell?, hR]
  have HSO : Hid (∀ W, Below V.heap.size V W → (Below w.heap.size w W ∧ told.Inv B W ∧ LS W (.slice q1 n1 c1) bs ∧ LS W (.slice q2 n2 c2) ss) ∧ W.cell? ⟨w.heap.size, 0, none⟩ = some (.slice q1 n1 c1) ∧ W.cell? ⟨w.heap.size, 1, none⟩ = some (.slice q2 n2 c2) ∧ W.cell? ⟨w.heap.size + 1, 0, none⟩ = some (.int .i64 a) ∧ W.cell? ⟨w.heap.size + 1, 1, none⟩ = some (.int .i64 b) ∧ W.cell? ⟨w.heap.size + 1, 2, none⟩ = some (.int .i64 c) ∧ W.cell? ⟨w.heap.size + 1, 3, none⟩ = some (.int .i64 d) ∧ W.cell? ⟨w.heap.size + 1, 4, none⟩ = some (.int .i64 p) ∧ W.cell? ⟨w.heap.size + 1, 5, none⟩ = some (.int .i64 q) ∧ W.cell? ⟨w.heap.size + 1, 6, none⟩ = some (.int .i64 s) ∧ W.cell? ⟨w.heap.size + 1, 7, none⟩ = some (.int .i64 t)) :=
    fun W hW => by
      have hw := HB.out.trans (hW.mono HB.out.size)
      exact ⟨⟨hw, hI.on hw, h1.below hw, h2.below hw⟩, keeps hW v0, keeps hW v1, keeps hW (cel 0), keeps hW (cel 1), keeps hW (cel 2), keeps hW (cel 3), keeps hW (cel 4), keeps hW (cel 5), keeps hW (cel 6), keeps hW (cel 7)⟩
  clear h1 h2 hI v0 v1 hR cel
  go_enter Tryz.func6, Tryz.ntmps6
  go_upto_region 2 with fail
  rw [← hV]
  clear hV
  go_cut [23] from 18 to 23 (fun s23 wx => s23 = .bool (decide (m < 0 ∨ 3 < m)) ∧ wx = V)
  case first =>
    by_cases h1 : m < 0
    · go_wp2_with fail
      go_meet
      case rel => exact ⟨bool_eqK (by simp [h1]), rfl⟩
    · by_cases h2 : 3 < m
      · go_wp2_with fail
        go_meet
        case rel => exact ⟨bool_eqK (by simp [h2]), rfl⟩
      · go_wp2_with fail
        go_meet
        case rel => exact ⟨bool_eqK (by simp [h1, h2]), rfl⟩
  case rest =>
  obtain ⟨rfl, hwc⟩ := hcut
  have hwd := hwc.symm
  clear hwc
  subst hwd
  go_upto_if 23 with fail
  obtain ⟨F, hF⟩ : ∃ F : Int, (if m < 0 ∨ 3 < m then 1 else 0) = F := ⟨_, rfl⟩
  have HF := hidK hF
  clear hF
  go_cut [7] from 23 to 23 (fun s7 wx => s7 = .int .i64 F ∧ wx = V)
  case first =>
    by_cases h0 : m < 0 ∨ 3 < m
    · have h0' : decide (m < 0 ∨ 3 < m) = true := by simpa using h0
      have hR : F = 1 := by rw [← HF.out, if_pos h0]
      rw [h0']
      clear h0 h0'
      go_wp2_with fail
      go_meet
      case rel => exact ⟨int_eqK hR.symm, rfl⟩
    · have h0' : decide (m < 0 ∨ 3 < m) = false := by simpa using h0
      have hR : F = 0 := by rw [← HF.out, if_neg h0]
      rw [h0']
      clear h0 h0'
      go_wp2_with fail
      go_meet
      case rel => exact ⟨int_eqK hR.symm, rfl⟩
  case rest =>
  obtain ⟨rfl, hwc⟩ := hcut
  have hwd := hwc.symm
  clear hwc
  subst hwd
  go_upto_if 25 with fail
  go_cut [7] from 25 to 28 (fun s7 wx => s7 = .int .i64 E ∧ Aside (Below V.heap.size V wx))
  case first =>
    by_cases h0 : F = 0
    · subst h0
      have hm : ¬ (m < 0 ∨ 3 < m) := fun h => by have := HF.out; rw [if_pos h] at this; omega
      have HCE := hidK (HE2.out hm)
      obtain ⟨⟨-, -, hL1, hL2⟩, x0, x1, o0, o1, o2, o3, o4, o5, o6, o7⟩ := HSO.out V (Below.refl _ _)
      have HRC := hidK (rcomes_any q1 q2 n1 n2 c1 c2 bs ss a b c d p q s t V hL1 hL2)
      rw [← HCE.out] at HRC
      clear hL1 hL2 hm
      go_wp2_with fail
      refine HRC.out.mono ?_
      rintro e w1 ⟨rfl, b1⟩
      have HB1 := hidK b1
      clear b1 HRC x0 x1 o0 o1 o2 o3 o4 o5 o6 o7
      go_wp2_with fail
      go_meet
      case rel => exact ⟨rfl, HB1.out⟩
    · have h0' : (F == 0) = false := by simp [h0]
      have hE : F = E := by
        have hm : m < 0 ∨ 3 < m := Classical.byContradiction fun h => h0 (by rw [← HF.out, if_neg h])
        rw [← HF.out, if_pos hm, HE1.out hm]
      go_wp2_with fail
      go_meet
      case rel => exact ⟨int_eqK hE, Below.refl _ _⟩
  case rest =>
  obtain ⟨rfl, HA⟩ := hcut
  have HW1 := hidK HA.out
  clear HA
  have hBa : Below wc.heap.size wc (wc.alloc (.cells #[.slice none 0 0, .slice none 0 0, .slice none 0 0, .int .i64 0, .int .i64 0, .slice none 0 0, .bool false] 65)) := (Below.refl _ _).alloc (Nat.le_refl _) _
  have hRM : (wc.alloc (.cells #[.slice none 0 0, .slice none 0 0, .slice none 0 0, .int .i64 0, .int .i64 0, .slice none 0 0, .bool false] 65)).heap[wc.heap.size]? = some (.cells #[.slice none 0 0, .slice none 0 0, .slice none 0 0, .int .i64 0, .int .i64 0, .slice none 0 0, .bool false] 65 (0, 0)) := heap_alloc_new wc _
  have HW2 := hidK (HW1.out.trans (hBa.mono HW1.out.size))
  have HSZ := hidK (show V.heap.size ≤ wc.heap.size from HW1.out.size)
  clear hBa HW1 HF HE1 HE2
  go_upto_if 30 with fail
  generalize wc.alloc (.cells #[.slice none 0 0, .slice none 0 0, .slice none 0 0, .int .i64 0, .int .i64 0, .slice none 0 0, .bool false] 65) = W2 at *
  generalize wc.heap.size = M0 at *
  go_cut [7] from 30 to 37 (fun s7 wx => ∃ y1 y2 l1 l2 k1 k2 tq tn tc lf iq jn ic eb, s7 = .int .i64 D ∧ wx.heap[M0]? = some (.cells #[.slice y1 l1 k1, .slice y2 l2 k2, .slice tq tn tc, .int .i64 lf, .int .i64 GG, .slice iq jn ic, .bool eb] 65 (0, 0)) ∧ Aside (Below V.heap.size V wx ∧ LS wx (.slice y1 l1 k1) BB ∧ LS wx (.slice y2 l2 k2) SS ∧ OwnT wx M0 (.slice tq tn tc) TS ∧ slf.OwnI wx M0 (.slice iq jn ic) IDS))
  case first =>
    obtain ⟨z0, z1, z2, z3, z4, z5, z6, zf⟩ := rowSeven hRM
    by_cases h0 : E = 0
    · obtain ⟨⟨-, -, hL1, hL2⟩, x0, x1, o0, o1, o2, o3, o4, o5, o6, o7⟩ := HSO.out W2 HW2.out
      have HME := hidK (HCOA.out h0 W2 hL1 hL2)
      clear hL1 hL2
      clear HCOA HZ
      subst h0
      go_wp2_with fail
      refine HME.out.mono ?_
      rintro e w3 ⟨y1, y2, l1, l2, k1, k2, tq, tn, tc, lf, iq, jn, ic, eb, rfl, ⟨g1, g2, g3, g4⟩, b3⟩
      have hW3 := HW2.out.trans (b3.mono HW2.out.size)
      have hR3 := (b3.block M0 (Array.getElem?_eq_some_iff.1 hRM).1).trans hRM
      have hM2 : M0 < W2.heap.size := (Array.getElem?_eq_some_iff.1 hRM).1
      clear z0 z1 z2 z3 z4 z5 z6 zf x0 x1 o0 o1 o2 o3 o4 o5 o6 o7 HME
      obtain ⟨z0, z1, z2, z3, z4, z5, z6, zf⟩ := rowSeven hR3
      have f0 := zf 0
      have f1 := zf 1
      have f2 := zf 2
      have f3 := zf 3
      have f4 := zf 4
      have f5 := zf 5
      have f6 := zf 6
      have hB0 : V.heap.size ≤ M0 := HSZ.out
      have hset := setSeven hR3 (.slice y1 l1 k1) (.slice y2 l2 k2) (.slice tq tn tc) (.int .i64 lf) (.int .i64 GG) (.slice iq jn ic) (.bool eb)
      have hgr := grSeven w3 M0 (.slice y1 l1 k1) (.slice y2 l2 k2) (.slice tq tn tc) (.int .i64 lf) (.int .i64 GG) (.slice iq jn ic) (.bool eb)
      have HFIN := hidK (show Below V.heap.size V (((((((w3.setCell ⟨M0, 0, none⟩ (.slice y1 l1 k1)).setCell ⟨M0, 1, none⟩ (.slice y2 l2 k2)).setCell ⟨M0, 2, none⟩ (.slice tq tn tc)).setCell ⟨M0, 3, none⟩ (.int .i64 lf)).setCell ⟨M0, 4, none⟩ (.int .i64 GG)).setCell ⟨M0, 5, none⟩ (.slice iq jn ic)).setCell ⟨M0, 6, none⟩ (.bool eb)) ∧ LS (((((((w3.setCell ⟨M0, 0, none⟩ (.slice y1 l1 k1)).setCell ⟨M0, 1, none⟩ (.slice y2 l2 k2)).setCell ⟨M0, 2, none⟩ (.slice tq tn tc)).setCell ⟨M0, 3, none⟩ (.int .i64 lf)).setCell ⟨M0, 4, none⟩ (.int .i64 GG)).setCell ⟨M0, 5, none⟩ (.slice iq jn ic)).setCell ⟨M0, 6, none⟩ (.bool eb)) (.slice y1 l1 k1) BB ∧ LS (((((((w3.setCell ⟨M0, 0, none⟩ (.slice y1 l1 k1)).setCell ⟨M0, 1, none⟩ (.slice y2 l2 k2)).setCell ⟨M0, 2, none⟩ (.slice tq tn tc)).setCell ⟨M0, 3, none⟩ (.int .i64 lf)).setCell ⟨M0, 4, none⟩ (.int .i64 GG)).setCell ⟨M0, 5, none⟩ (.slice iq jn ic)).setCell ⟨M0, 6, none⟩ (.bool eb)) (.slice y2 l2 k2) SS ∧ OwnT (((((((w3.setCell ⟨M0, 0, none⟩ (.slice y1 l1 k1)).setCell ⟨M0, 1, none⟩ (.slice y2 l2 k2)).setCell ⟨M0, 2, none⟩ (.slice tq tn tc)).setCell ⟨M0, 3, none⟩ (.int .i64 lf)).setCell ⟨M0, 4, none⟩ (.int .i64 GG)).setCell ⟨M0, 5, none⟩ (.slice iq jn ic)).setCell ⟨M0, 6, none⟩ (.bool eb)) M0 (.slice tq tn tc) TS ∧ slf.OwnI (((((((w3.setCell ⟨M0, 0, none⟩ (.slice y1 l1 k1)).setCell ⟨M0, 1, none⟩ (.slice y2 l2 k2)).setCell ⟨M0, 2, none⟩ (.slice tq tn tc)).setCell ⟨M0, 3, none⟩ (.int .i64 lf)).setCell ⟨M0, 4, none⟩ (.int .i64 GG)).setCell ⟨M0, 5, none⟩ (.slice iq jn ic)).setCell ⟨M0, 6, none⟩ (.bool eb)) M0 (.slice iq jn ic) IDS from
        ⟨hW3.grown hgr hW3.size (fun k hk => by cases hk; exact hB0), ls_off g1 hgr (met_no hR3) HLV0.out.1, ls_off g2 hgr (met_no hR3) HLV0.out.2, OwnM.mono (kept_of g3 hgr (fun z hz e => by cases e; have := (OwnM.lt g3 M0 hz).1; omega)) (by omega), OwnM.mono (kept_of g4 hgr (fun z hz e => by cases e; have := (OwnM.lt g4 M0 hz).1; omega)) (by omega)⟩)
      have HHX := hidK hset
      clear hset hgr g1 g2 g3 g4 b3 zf hR3 hW3
      go_wp2_with fail
      go_meet
      case rel => exact ⟨y1, y2, l1, l2, k1, k2, tq, tn, tc, lf, iq, jn, ic, eb, rfl, HHX.out, HFIN.out⟩
    · have h0' : (E == 0) = false := by simp [h0]
      have HEQ := hidK (HZ.out h0)
      have HRM := hidK hRM
      clear zf HCOA HZ HDOA
      go_wp2_with fail
      go_meet
      case rel =>
        refine ⟨none, none, 0, 0, 0, 0, none, 0, 0, 0, none, 0, 0, false, int_eqK HEQ.out.1.symm, by rw [HEQ.out.2.1]; exact HRM.out, HW2.out, ?_⟩
        rw [HEQ.out.2.2.1, HEQ.out.2.2.2.1, HEQ.out.2.2.2.2.1, HEQ.out.2.2.2.2.2]
        exact ⟨ls_nil _, ls_nil _, ownT_nilK _ _, ownI_nilK _ _⟩
  case rest =>
  obtain ⟨y1, y2, l1, l2, k1, k2, tq, tn, tc, lf, iq, jn, ic, eb, rfl, hRM3, HA⟩ := hcut
  have HW3 := hidK HA.out.1
  have HME := hidK HA.out.2
  clear HA hRM HW2 HCOA HZ
  obtain ⟨⟨-, -, hL1, hL2⟩, x0, x1, o0, o1, o2, o3, o4, o5, o6, o7⟩ := HSO.out wc HW3.out
  have HDO := hidK (HDOA.out wc hL1 hL2)
  clear hL1 hL2 HDOA
  go_wp2_with fail
  refine HDO.out.mono ?_
  rintro e w4 ⟨u1, u2, m1, m2, j1, j2, sq, sn, sc, rq, rn, rc, rfl, ⟨g1, g2, g3, g4⟩, b4⟩
  have hBa : Below w4.heap.size w4 (w4.alloc (.cells #[.slice u1 m1 j1, .slice u2 m2 j2] 24)) := (Below.refl _ _).alloc (Nat.le_refl _) _
  have hb4 := b4.trans (hBa.mono b4.size)
  have hRX : (w4.alloc (.cells #[.slice u1 m1 j1, .slice u2 m2 j2] 24)).heap[w4.heap.size]? = some (.cells #[.slice u1 m1 j1, .slice u2 m2 j2] 24 (0, 0)) := heap_alloc_new w4 _
  have HW5 := hidK (HW3.out.trans (hb4.mono HW3.out.size))
  have HX5 := hidK (show LS (w4.alloc (.cells #[.slice u1 m1 j1, .slice u2 m2 j2] 24)) (.slice u1 m1 j1) BB ∧ LS (w4.alloc (.cells #[.slice u1 m1 j1, .slice u2 m2 j2] 24)) (.slice u2 m2 j2) SS ∧ OwnT (w4.alloc (.cells #[.slice u1 m1 j1, .slice u2 m2 j2] 24)) wc.heap.size (.slice sq sn sc) TS ∧ slf.OwnI (w4.alloc (.cells #[.slice u1 m1 j1, .slice u2 m2 j2] 24)) wc.heap.size (.slice rq rn rc) IDS from ⟨g1.below hBa, g2.below hBa, OwnM.below g3 hBa, OwnM.below g4 hBa⟩)
  have HM5 := hidK (show LS (w4.alloc (.cells #[.slice u1 m1 j1, .slice u2 m2 j2] 24)) (.slice y1 l1 k1) BB ∧ LS (w4.alloc (.cells #[.slice u1 m1 j1, .slice u2 m2 j2] 24)) (.slice y2 l2 k2) SS ∧ OwnT (w4.alloc (.cells #[.slice u1 m1 j1, .slice u2 m2 j2] 24)) M0 (.slice tq tn tc) TS ∧ slf.OwnI (w4.alloc (.cells #[.slice u1 m1 j1, .slice u2 m2 j2] 24)) M0 (.slice iq jn ic) IDS from ⟨HME.out.1.below hb4, HME.out.2.1.below hb4, OwnM.below HME.out.2.2.1 hb4, OwnM.below HME.out.2.2.2 hb4⟩)
  have hRM5 := (hb4.block M0 (Array.getElem?_eq_some_iff.1 hRM3).1).trans hRM3
  clear x0 x1 o0 o1 o2 o3 o4 o5 o6 o7 hBa hb4 b4 g1 g2 g3 g4 hRM3 HME HDO HW3
  go_upto_region 10 with fail
  generalize w4.alloc (.cells #[.slice u1 m1 j1, .slice u2 m2 j2] 24) = W5 at *
  generalize w4.heap.size = X0 at *
  obtain ⟨⟨-, hI5, -, -⟩, -⟩ := HSO.out W5 HW5.out
  have HE7 := hidK (err_oneK D B W5 hI5)
  clear hI5
  generalize hEV : errV D = EV at *
  clear hEV
  go_wp2_with fail
  refine HE7.out.mono ?_
  rintro e w6 ⟨rfl, b6⟩
  have HW6 := hidK (HW5.out.trans (b6.mono HW5.out.size))
  have HX6 := hidK (show LS w6 (.slice u1 m1 j1) BB ∧ LS w6 (.slice u2 m2 j2) SS ∧ OwnT w6 wc.heap.size (.slice sq sn sc) TS ∧ slf.OwnI w6 wc.heap.size (.slice rq rn rc) IDS from ⟨HX5.out.1.below b6, HX5.out.2.1.below b6, OwnM.below HX5.out.2.2.1 b6, OwnM.below HX5.out.2.2.2 b6⟩)
  have HM6 := hidK (show LS w6 (.slice y1 l1 k1) BB ∧ LS w6 (.slice y2 l2 k2) SS ∧ OwnT w6 M0 (.slice tq tn tc) TS ∧ slf.OwnI w6 M0 (.slice iq jn ic) IDS from ⟨HM5.out.1.below b6, HM5.out.2.1.below b6, OwnM.below HM5.out.2.2.1 b6, OwnM.below HM5.out.2.2.2 b6⟩)
  have hRM6 := (b6.block M0 (Array.getElem?_eq_some_iff.1 hRM5).1).trans hRM5
  have hRX6 := (b6.block X0 (Array.getElem?_eq_some_iff.1 hRX).1).trans hRX
  clear b6 hRM5 hRX HM5 HX5 HE7 HW5
  obtain ⟨z0, z1, z2, z3, z4, z5, z6, -⟩ := rowSeven hRM6
  obtain ⟨t0, t1, -⟩ := rowTwo hRX6
  go_wp2_with fail
  refine (book_same u1 u2 y1 y2 m1 m2 j1 j2 l1 l2 k1 k2 _ _ w6 HX6.out.1 HX6.out.2.1 HM6.out.1 HM6.out.2.1).mono ?_
  rintro e w7 ⟨rfl, b7⟩
  have HW7 := hidK (HW6.out.trans (b7.mono HW6.out.size))
  have HT7 := hidK (OwnM.below HX6.out.2.2.1 b7)
  have HM7 := hidK (OwnM.below HM6.out.2.2.1 b7)
  have HI7 := hidK (OwnM.below HX6.out.2.2.2 b7)
  have HJ7 := hidK (OwnM.below HM6.out.2.2.2 b7)
  have hRM7 := (b7.block M0 (Array.getElem?_eq_some_iff.1 hRM6).1).trans hRM6
  clear b7 hRM6 hRX6 HM6 HX6 HW6 z0 z1 z2 z3 z4 z5 z6 t0 t1
  obtain ⟨z0, z1, z2, z3, z4, z5, z6, -⟩ := rowSeven hRM7
  have HN4 := hidK (show TS.length ≤ 9223372036854775807 by have := HLEN.out; omega)
  go_wp2_with fail
  refine (trades_same sq tq sn tn sc tc _ _ _ w7 HN4.out HT7.out HM7.out).mono ?_
  rintro e w8 ⟨rfl, b8⟩
  have HW8 := hidK (HW7.out.trans (b8.mono HW7.out.size))
  have HI8 := hidK (OwnM.below HI7.out b8)
  have HJ8 := hidK (OwnM.below HJ7.out b8)
  have hRM8 := (b8.block M0 (Array.getElem?_eq_some_iff.1 hRM7).1).trans hRM7
  clear b8 hRM7 HM7 HT7 HW7 HI7 HJ7 z0 z1 z2 z3 z4 z5 z6 HN4
  obtain ⟨z0, z1, z2, z3, z4, z5, z6, -⟩ := rowSeven hRM8
  go_wp2_with fail
  refine (smt.ints_same rq iq rn jn rc ic _ _ IDS w8 HI8.out HJ8.out).mono ?_
  rintro e w9 ⟨rfl, b9⟩
  have HW9 := hidK (HW8.out.trans (b9.mono HW8.out.size))
  have hRM9 := (b9.block M0 (Array.getElem?_eq_some_iff.1 hRM8).1).trans hRM8
  clear b9 hRM8 HI8 HJ8 HW8 z0 z1 z2 z3 z4 z5 z6
  obtain ⟨z0, z1, z2, z3, z4, z5, z6, -⟩ := rowSeven hRM9
  have HI15 := hidK (HSO.out w9 HW9.out).1.2.1
  have hgg : (GG == GG) = true := by simp
  clear HSO hRM9
  go_wp2_with fail
  go_ret
  exact ⟨rfl, HI15.out⟩
end Go.Proofs.YtalhdjlopkdnbaaGreatDoor.selfTells
namespace Go.Proofs.YtalhdjlopkdnbaaGreatDoor.smt
open Go.RowKit Go.Proofs.YtalhdjlopkdnbaaGreatDoor.spn Go.Proofs.YtalhdjlopkdnbaaGreatDoor.que Go.Proofs.YtalhdjlopkdnbaaGreatDoor.sid Go.Proofs.YtalhdjlopkdnbaaGreatDoor.bok Go.Proofs.YtalhdjlopkdnbaaGreatDoor.mee Go.Proofs.YtalhdjlopkdnbaaGreatDoor.kin
open Go.Proofs.YtalhdjlopkdnbaaGreatDoor.ord (O mB chk)
theorem srmeet_any (m : Int) (hmm : m = 1 ∨ m = 2 ∨ m = 3) (v : slf.V) (b0 : Nat) (q1 q2 : Option Addr) (n1 n2 c1 c2 : Nat) (bs ss : List L) (a b c d p q s t : Int) (w : World) (hb0 : b0 ≤ w.heap.size) (h1 : LS (hide b0 w) (.slice q1 n1 c1) bs) (h2 : LS (hide b0 w) (.slice q2 n2 c2) ss) (hC : comeE bs ss ⟨a, b, c, d, p, q, s, t⟩ = 0) (hv : slf.Fine m ⟨a, b, c, d, p, q, s, t⟩ (otherL bs ss ⟨a, b, c, d, p, q, s, t⟩) q v) :
    Calls Tryz.prog 26 #[.agg #[.slice q1 n1 c1, .slice q2 n2 c2], .agg #[.int .i64 a, .int .i64 b, .int .i64 c, .int .i64 d, .int .i64 p, .int .i64 q, .int .i64 s, .int .i64 t], .int .i64 m] w fun e w' => SMPost b0 bs ss ⟨a, b, c, d, p, q, s, t⟩ v w e w' := by
  have hs : c = 1 ∨ c = 2 := by
    have h := (ord.chk_zero (come_zero hC).2.1).1
    simp [ord.headB] at h
    omega
  rcases hs with rfl | rfl
  · exact srmeet_buy m hmm v b0 q1 q2 n1 n2 c1 c2 bs ss a b d p q s t w hb0 h1 h2 hC hv
  · exact srmeet_sell m hmm v b0 q1 q2 n1 n2 c1 c2 bs ss a b d p q s t w hb0 h1 h2 hC hv
theorem srcome_any (m : Int) (hmm : m = 1 ∨ m = 2 ∨ m = 3) (v : slf.V) (q1 q2 : Option Addr) (n1 n2 c1 c2 : Nat) (bs ss : List L) (a b c d p q s t : Int) (w : World) (h1 : LS w (.slice q1 n1 c1) bs) (h2 : LS w (.slice q2 n2 c2) ss) (hC : comeE bs ss ⟨a, b, c, d, p, q, s, t⟩ = 0) (hv : slf.Fine m ⟨a, b, c, d, p, q, s, t⟩ (otherL bs ss ⟨a, b, c, d, p, q, s, t⟩) q v) :
    Calls Tryz.prog 33 #[.agg #[.slice q1 n1 c1, .slice q2 n2 c2], .agg #[.int .i64 a, .int .i64 b, .int .i64 c, .int .i64 d, .int .i64 p, .int .i64 q, .int .i64 s, .int .i64 t], .int .i64 m] w fun e w' => SCPost bs ss ⟨a, b, c, d, p, q, s, t⟩ v w e w' := srcome_of srmeet_any m hmm v q1 q2 n1 n2 c1 c2 bs ss a b c d p q s t w h1 h2 hC hv
end Go.Proofs.YtalhdjlopkdnbaaGreatDoor.smt
namespace Go.Proofs.YtalhdjlopkdnbaaGreatDoor.selfTells
open Go.RowKit Go.Proofs.YtalhdjlopkdnbaaGreatDoor.spn Go.Proofs.YtalhdjlopkdnbaaGreatDoor.que Go.Proofs.YtalhdjlopkdnbaaGreatDoor.sid Go.Proofs.YtalhdjlopkdnbaaGreatDoor.bok Go.Proofs.YtalhdjlopkdnbaaGreatDoor.mee Go.Proofs.YtalhdjlopkdnbaaGreatDoor.kin
open Go.Proofs.YtalhdjlopkdnbaaGreatDoor.ord (O oV mB mE chk)
theorem kdo_come {bs ss : List L} {o : O} (h : ¬ comeE bs ss o = 0) : kdoE bs ss o = comeE bs ss o := by
  have hd : doE bs ss o = comeE bs ss o := by unfold doE; rw [if_neg h]
  unfold kdoE
  rw [hd, if_neg h]
theorem nilBook : bookE [] [] = 0 := by decide
theorem walk {w : World} (q1 q2 : Option Addr) (n1 n2 c1 c2 : Nat) (bs ss : List L) (h1 : LS w (.slice q1 n1 c1) bs) (h2 : LS w (.slice q2 n2 c2) ss) (a b c d p q s t kq : Int) (B : World) (hI : told.Inv B w) :
    Calls Tryz.prog 6 #[.agg #[.slice q1 n1 c1, .slice q2 n2 c2], .agg #[.int .i64 a, .int .i64 b, .int .i64 c, .int .i64 d, .int .i64 p, .int .i64 q, .int .i64 s, .int .i64 t], .int .i64 kq] w fun e w' => e = .returned (.bool true) ∧ told.Inv B w' := by
  by_cases hm : 0 ≤ kq ∧ kq ≤ 3
  rotate_left
  · refine walk0 q1 q2 n1 n2 c1 c2 bs ss a b c d p q s t kq 1 0 1 [] [] [] [] B w hI h1 h2 (fun _ => rfl) (fun h => absurd (by omega) h) (fun _ => ⟨rfl, rfl, rfl, rfl, rfl, rfl⟩) nilBook (by simp) (fun w' g1 g2 => ?_) (fun h => by omega)
    refine (slf.sdo_bad kq hm q1 q2 n1 n2 c1 c2 a b c d p q s t w').mono ?_
    rintro e w'' ⟨rfl, hb⟩
    exact ⟨none, none, 0, 0, 0, 0, none, 0, 0, none, 0, 0, by rw [errV_of (by omega)], ⟨ls_nil _, ls_nil _, ownT_nilK _ _, ownI_nilK _ _⟩, hb⟩
  have hmn : ¬ (kq < 0 ∨ 3 < kq) := by omega
  by_cases h0 : kq = 0
  · subst h0
    by_cases hK : kdoE bs ss ⟨a, b, c, d, p, q, s, t⟩ = 0
    · have hd := doE_zero (kdo_zero hK).1
      refine walk0 q1 q2 n1 n2 c1 c2 bs ss a b c d p q s t 0 0 (kdoG bs ss ⟨a, b, c, d, p, q, s, t⟩) (comeE bs ss ⟨a, b, c, d, p, q, s, t⟩) (kdoB bs ss ⟨a, b, c, d, p, q, s, t⟩) (kdoS bs ss ⟨a, b, c, d, p, q, s, t⟩) (metR bs ss ⟨a, b, c, d, p, q, s, t⟩).2.1 [] B w hI h1 h2 (fun h => absurd h hmn) (fun _ => rfl) (fun h => absurd hd.1 h) (kdo_bookK hK) hd.2 (fun w' g1 g2 => ?_) (fun hE w' g1 g2 => ?_)
      · refine (slf.sdo_zero q1 q2 n1 n2 c1 c2 bs ss a b c d p q s t w' g1 g2).mono ?_
        rintro e w'' ⟨i1, -, hb⟩
        obtain ⟨u1, u2, m1, m2, d1, d2, tv, rfl, D1, D2, OT⟩ := i1 hK
        obtain ⟨tq, tc, rfl⟩ := OwnM.form OT
        exact ⟨u1, u2, m1, m2, d1, d2, tq, _, tc, none, 0, 0, rfl, ⟨D1.ls, D2.ls, OT, ownI_nilK _ _⟩, hb⟩
      · refine (rcome_any q1 q2 n1 n2 c1 c2 bs ss a b c d p q s t w' g1 g2 hE).mono ?_
        rintro e w'' ⟨i1, -, hb⟩
        obtain ⟨y1, y2, l1, l2, k1, k2, tv, lf, rfl, L1, L2, OT⟩ := i1 hK
        obtain ⟨tq, tc, rfl⟩ := OwnM.form OT
        exact ⟨y1, y2, l1, l2, k1, k2, tq, _, tc, lf, none, 0, 0, false, rfl, ⟨L1, L2, OT, ownI_nilK _ _⟩, hb⟩
    · refine walk0 q1 q2 n1 n2 c1 c2 bs ss a b c d p q s t 0 (kdoE bs ss ⟨a, b, c, d, p, q, s, t⟩) 0 (comeE bs ss ⟨a, b, c, d, p, q, s, t⟩) [] [] [] [] B w hI h1 h2 (fun h => absurd h hmn) (fun _ => rfl) (fun h => ⟨kdo_come h, rfl, rfl, rfl, rfl, rfl⟩) nilBook (by simp) (fun w' g1 g2 => ?_) (fun hE w' g1 g2 => ?_)
      · refine (slf.sdo_zero q1 q2 n1 n2 c1 c2 bs ss a b c d p q s t w' g1 g2).mono ?_
        rintro e w'' ⟨-, i2, hb⟩
        exact ⟨none, none, 0, 0, 0, 0, none, 0, 0, none, 0, 0, i2 hK, ⟨ls_nil _, ls_nil _, ownT_nilK _ _, ownI_nilK _ _⟩, hb⟩
      · refine (rcome_any q1 q2 n1 n2 c1 c2 bs ss a b c d p q s t w' g1 g2 hE).mono ?_
        rintro e w'' ⟨-, i2, hb⟩
        exact ⟨none, none, 0, 0, 0, 0, none, 0, 0, 0, none, 0, 0, false, i2 hK, ⟨ls_nil _, ls_nil _, ownT_nilK _ _, ownI_nilK _ _⟩, hb⟩
  · have hm3 : kq = 1 ∨ kq = 2 ∨ kq = 3 := by omega
    by_cases hC : comeE bs ss ⟨a, b, c, d, p, q, s, t⟩ = 0
    rotate_left
    · refine walk0 q1 q2 n1 n2 c1 c2 bs ss a b c d p q s t kq (comeE bs ss ⟨a, b, c, d, p, q, s, t⟩) 0 (comeE bs ss ⟨a, b, c, d, p, q, s, t⟩) [] [] [] [] B w hI h1 h2 (fun h => absurd h hmn) (fun _ => rfl) (fun h => ⟨rfl, rfl, rfl, rfl, rfl, rfl⟩) nilBook (by simp) (fun w' g1 g2 => ?_) (fun hE => absurd hE hC)
      refine (slf.sdo_mode kq hm3 q1 q2 n1 n2 c1 c2 bs ss a b c d p q s t w' g1 g2).mono ?_
      rintro e w'' ⟨i1, -, hb⟩
      exact ⟨none, none, 0, 0, 0, 0, none, 0, 0, none, 0, 0, i1 hC, ⟨ls_nil _, ls_nil _, ownT_nilK _ _, ownI_nilK _ _⟩, hb⟩
    have hbk := (come_zero hC).1
    have hch := (come_zero hC).2.1
    have hog := other_good (o := ⟨a, b, c, d, p, q, s, t⟩) hbk
    obtain ⟨v, hv⟩ := slf.fine_ex (o := ⟨a, b, c, d, p, q, s, t⟩) (k := q) hm3 hog
    have hrb := slf.rep_book hbk (slf.fine_less hv hog (by have h : 1 ≤ q ∧ q ≤ 10000 := qty_of hch; omega))
    by_cases hs : slf.sE bs ss ⟨a, b, c, d, p, q, s, t⟩ v = 0
    · have hlen : v.ts.length ≤ 400 := by
        have h := hs
        unfold slf.sE at h
        by_cases h4 : 400 < v.ts.length
        · rw [if_pos h4] at h; omega
        · omega
      refine walk0 q1 q2 n1 n2 c1 c2 bs ss a b c d p q s t kq 0 (smt.cG ⟨a, b, c, d, p, q, s, t⟩ v) (comeE bs ss ⟨a, b, c, d, p, q, s, t⟩) (smt.cB bs ⟨a, b, c, d, p, q, s, t⟩ v) (smt.cS ss ⟨a, b, c, d, p, q, s, t⟩ v) v.ts v.ids B w hI h1 h2 (fun h => absurd h hmn) (fun _ => rfl) (fun h => absurd hC h) (smt.sc_book hrb hs) hlen (fun w' g1 g2 => ?_) (fun hE w' g1 g2 => ?_)
      · refine (slf.sdo_mode kq hm3 q1 q2 n1 n2 c1 c2 bs ss a b c d p q s t w' g1 g2).mono ?_
        rintro e w'' ⟨-, i2, hb⟩
        obtain ⟨u1, u2, m1, m2, d1, d2, tv, iv, rfl, D1, D2, OT, OI⟩ := (i2 hC v hv).1 hs
        obtain ⟨tq, tc, rfl⟩ := OwnM.form OT
        obtain ⟨iq, ic, rfl⟩ := OwnM.form OI
        exact ⟨u1, u2, m1, m2, d1, d2, tq, _, tc, iq, _, ic, rfl, ⟨D1.ls, D2.ls, OT, OI⟩, hb⟩
      · refine (smt.srcome_any kq hm3 v q1 q2 n1 n2 c1 c2 bs ss a b c d p q s t w' g1 g2 hE hv).mono ?_
        rintro e w'' ⟨i1, -, hb⟩
        obtain ⟨y1, y2, l1, l2, k1, k2, tv, lf, iv, eb, rfl, L1, L2, OT, OI⟩ := i1 hs
        obtain ⟨tq, tc, rfl⟩ := OwnM.form OT
        obtain ⟨iq, ic, rfl⟩ := OwnM.form OI
        exact ⟨y1, y2, l1, l2, k1, k2, tq, _, tc, lf, iq, _, ic, eb, rfl, ⟨L1, L2, OT, OI⟩, hb⟩
    · refine walk0 q1 q2 n1 n2 c1 c2 bs ss a b c d p q s t kq (slf.sE bs ss ⟨a, b, c, d, p, q, s, t⟩ v) 0 (comeE bs ss ⟨a, b, c, d, p, q, s, t⟩) [] [] [] [] B w hI h1 h2 (fun h => absurd h hmn) (fun _ => rfl) (fun h => absurd hC h) nilBook (by simp) (fun w' g1 g2 => ?_) (fun hE w' g1 g2 => ?_)
      · refine (slf.sdo_mode kq hm3 q1 q2 n1 n2 c1 c2 bs ss a b c d p q s t w' g1 g2).mono ?_
        rintro e w'' ⟨-, i2, hb⟩
        exact ⟨none, none, 0, 0, 0, 0, none, 0, 0, none, 0, 0, (i2 hC v hv).2 hs, ⟨ls_nil _, ls_nil _, ownT_nilK _ _, ownI_nilK _ _⟩, hb⟩
      · refine (smt.srcome_any kq hm3 v q1 q2 n1 n2 c1 c2 bs ss a b c d p q s t w' g1 g2 hE hv).mono ?_
        rintro e w'' ⟨-, i2, hb⟩
        exact ⟨none, none, 0, 0, 0, 0, none, 0, 0, 0, none, 0, 0, false, i2 hs, ⟨ls_nil _, ls_nil _, ownT_nilK _ _, ownI_nilK _ _⟩, hb⟩
end Go.Proofs.YtalhdjlopkdnbaaGreatDoor.selfTells
namespace Go.Proofs.YtalhdjlopkdnbaaGreatDoor.que
open Go.ChangeShapes Go.WideShapes Go.ChangeAt Go.RowKit Go.Deep

theorem list5 {α : Type} {l : List α} (h : l.length = 5) : ∃ c0 c1 c2 c3 c4, l = [c0, c1, c2, c3, c4] := by
  match l, h with
  | [c0, c1, c2, c3, c4], _ => exact ⟨c0, c1, c2, c3, c4, rfl⟩

theorem cellsR : Tryz.prog.cellsOf 26 = 5 := by kernel_rfl
theorem cellsI : Tryz.prog.cellsOf 3 = 1 := by kernel_rfl

section
variable {H : Type} {enc : TypeId × Value → H} {w : World} {base : Nat} {sp : Nat → Bool} {held : Bool}

set_option maxRecDepth 100000 in
theorem open_rest_cells {n : Nat} {cs : List Value} {x : DataW H × List MemPlace} (h : DataW.trod enc Tryz.prog w base sp held n 26 cs = some x) (hl : cs.length = 5) :
    ∃ r : R, cs = rV r := by
  obtain ⟨c0, c1, c2, c3, c4, rfl⟩ := list5 hl
  obtain ⟨xs, n, _, hx, _, hlen, hF⟩ := DataW.trod_struct Tryz.underlying26 h
  obtain ⟨y0, y1, y2, y3, y4, rfl⟩ := list5 hlen
  have h0 : DataW.trod enc Tryz.prog w base sp held n 3 (([c0, c1, c2, c3, c4].drop 0).take (Tryz.prog.cellsOf 3)) = some y0 := hF 0 _ rfl
  rw [cellsI] at h0
  obtain ⟨a0, e0, _, _⟩ := DataW.trod_int Tryz.underlying3 h0
  have h1 : DataW.trod enc Tryz.prog w base sp held n 3 (([c0, c1, c2, c3, c4].drop 1).take (Tryz.prog.cellsOf 3)) = some y1 := hF 1 _ rfl
  rw [cellsI] at h1
  obtain ⟨a1, e1, _, _⟩ := DataW.trod_int Tryz.underlying3 h1
  have h2 : DataW.trod enc Tryz.prog w base sp held n 3 (([c0, c1, c2, c3, c4].drop 2).take (Tryz.prog.cellsOf 3)) = some y2 := hF 2 _ rfl
  rw [cellsI] at h2
  obtain ⟨a2, e2, _, _⟩ := DataW.trod_int Tryz.underlying3 h2
  have h3 : DataW.trod enc Tryz.prog w base sp held n 3 (([c0, c1, c2, c3, c4].drop 3).take (Tryz.prog.cellsOf 3)) = some y3 := hF 3 _ rfl
  rw [cellsI] at h3
  obtain ⟨a3, e3, _, _⟩ := DataW.trod_int Tryz.underlying3 h3
  have h4 : DataW.trod enc Tryz.prog w base sp held n 3 (([c0, c1, c2, c3, c4].drop 4).take (Tryz.prog.cellsOf 3)) = some y4 := hF 4 _ rfl
  rw [cellsI] at h4
  obtain ⟨a4, e4, _, _⟩ := DataW.trod_int Tryz.underlying3 h4
  simp at e0 e1 e2 e3 e4
  subst e0 e1 e2 e3 e4
  exact ⟨⟨a0, a1, a2, a3, a4⟩, rfl⟩

set_option maxRecDepth 100000 in
/-- A rest that comes in. -/
theorem open_rest {r : Reach} {b0 : Nat} {v : Value} {d : DataW H} {ps : List MemPlace} (hv : Value.okWide Tryz.prog w r b0 26 v) (h : DataW.Trod enc Tryz.prog w base sp held 26 v d ps) :
    ∃ r : R, v = .agg #[.int .i64 r.id, .int .i64 r.who, .int .i64 r.qty, .int .i64 r.hid, .int .i64 r.shw] := by
  obtain ⟨cs, rfl, hsz⟩ := okWide_struct Tryz.underlying26 hv
  obtain ⟨fuel, hf⟩ := h
  obtain ⟨r, hr⟩ := open_rest_cells hf (by simpa [Value.cells] using hsz.trans cellsR)
  refine ⟨r, ?_⟩
  have : cs.toList = rV r := by simpa [Value.cells] using hr
  rw [show cs = (rV r).toArray from by rw [← this]]
  rfl

set_option maxRecDepth 100000 in
/-- What a slice value of any element type that comes in is: nil, or it lies in a block of memory. -/
theorem okWide_slice_lies {r : Reach} {b0 : Nat} {t e : TypeId} {v : Value} (ht : Tryz.prog.underlying t = some (.slice e)) (hv : Value.okWide Tryz.prog w r b0 t v) :
    v = .slice none 0 0 ∨ ∃ b o len cap, v = .slice (some ⟨b, o, none⟩) len cap ∧ len ≤ cap ∧ cap ≤ 9223372036854775807 ∧ b < w.heap.size := by
  obtain ⟨a, len, cap, rfl⟩ := okWide_slice ht hv
  simp only [Value.okWide, ht, Cell.okWide] at hv
  cases a with
  | none =>
    left
    cases len with
    | zero =>
      cases cap with
      | zero => rfl
      | succ c => simp [Cell.ok, ht] at hv
    | succ l => simp [Cell.ok, ht] at hv
  | some a =>
    right
    simp only [Cell.ok, ht] at hv
    obtain ⟨h1, h2, _, h4, row, cells, h5, _⟩ := hv
    obtain ⟨b, o, s⟩ := a
    simp only at h4 h5
    subst h4
    refine ⟨b, o, len, cap, rfl, h1, ?_, ?_⟩
    · have : IntKind.i64.max = 9223372036854775807 := rfl
      rw [this] at h2
      omega
    · unfold World.shape? at h5
      split at h5
      · rename_i hh
        exact (Array.getElem?_eq_some_iff.1 hh).1
      · cases h5

set_option maxRecDepth 100000 in
theorem open_rests {r : Reach} {b0 : Nat} {v : Value} {d : DataW H} {ps : List MemPlace} (hv : Value.okWide Tryz.prog w r b0 32 v) (h : DataW.Trod enc Tryz.prog w base sp held 32 v d ps) :
    ∃ zs : List R, SL w v zs := by
  rcases okWide_slice_lies Tryz.underlying32 hv with rfl | ⟨b, o, len, cap, rfl, hl, hm, hb⟩
  · exact ⟨[], .inl ⟨rfl, rfl⟩⟩
  obtain ⟨fuel, hf⟩ := h
  rcases open_slice Tryz.underlying32 hf with ⟨hcs, _⟩ | ⟨a, len', cap', m, n, D, Pl, hcs, _, hl', _, hmm, _, hx⟩
  · simp [Value.cells] at hcs
  simp [Value.cells] at hcs
  obtain ⟨rfl, rfl, rfl⟩ := hcs
  have hlm : len ≤ m := by rw [hmm]; split <;> omega
  obtain ⟨f, hf2⟩ := choose_lt (α := R) (n := len) (p := fun i r => ∀ k v, (rV r)[k]? = some v → w.cell? ⟨b, o + i * 5 + k, none⟩ = some v) (fun i hi => by
    obtain ⟨cs', h1, h2⟩ := hx i (by omega)
    rw [cellsR] at h1
    obtain ⟨_, hlen, hcell⟩ := World.cells?_some h1
    obtain ⟨r, rfl⟩ := open_rest_cells h2 hlen
    refine ⟨r, fun k v hk => ?_⟩
    have hk5 : k < 5 := (List.getElem?_eq_some_iff.1 hk).1
    have := hcell k hk5
    rw [hk, Addr.add_lit, Addr.add_lit] at this
    exact this)
  refine ⟨(List.range len).map f, .inr ⟨b, o, cap, by simp, by simpa using hl, hm, hb, ?_⟩⟩
  intro j hj k v hk
  have hj' : j < len := by simpa using hj
  rw [getE _ _ hj] at hk
  simp only [List.getElem_map, List.getElem_range] at hk
  exact hf2 j hj' k v hk
end

theorem laidOut : laidOutB Tryz.prog = true := by kernel_rfl

end Go.Proofs.YtalhdjlopkdnbaaGreatDoor.que
namespace Go.Proofs.YtalhdjlopkdnbaaGreatDoor.sid
open Go.ChangeShapes Go.WideShapes Go.ChangeAt Go.RowKit Go.Deep Go.Proofs.YtalhdjlopkdnbaaGreatDoor.que

theorem cellsL : Tryz.prog.cellsOf 34 = 2 := by kernel_rfl
theorem cellsS : Tryz.prog.cellsOf 32 = 1 := by kernel_rfl
theorem list2 {α : Type} {l : List α} (h : l.length = 2) : ∃ c0 c1, l = [c0, c1] := by
  match l, h with
  | [c0, c1], _ => exact ⟨c0, c1, rfl⟩
/-- An address at which a cell is read is one of a block. -/
theorem addr_plain {w : World} {a : Addr} {v : Value} (h : w.cell? a = some v) : a.spot = none ∧ a.block < w.heap.size := by
  refine ⟨?_, World.block_lt_of_cell? w a h⟩
  obtain ⟨b, o, s⟩ := a
  cases s with
  | none => rfl
  | some s =>
    exfalso
    simp only [World.cell?] at h
    split at h
    · simp at h
    · cases h

section
variable {H : Type} {enc : TypeId × Value → H} {w : World} {base : Nat} {sp : Nat → Bool} {held : Bool}

set_option maxRecDepth 100000 in
/-- Rests within a level. -/
theorem open_rests_in {n : Nat} {v : Value} {x : DataW H × List MemPlace} (h : DataW.trod enc Tryz.prog w base sp held n 32 [v] = some x) : ∃ zs : List R, SLe w v zs := by
  rcases open_slice Tryz.underlying32 h with ⟨hcs, _⟩ | ⟨a, len, cap, m, n, D, Pl, hcs, _, hl, hcap, hmm, _, hx⟩
  · simp at hcs
    exact ⟨[], .inl (.inl ⟨hcs, rfl⟩)⟩
  simp at hcs
  subst hcs
  by_cases hz : len = 0
  · subst hz
    exact ⟨[], .inr ⟨rfl, _, _, rfl⟩⟩
  have hlm : len ≤ m := by rw [hmm]; split <;> omega
  obtain ⟨hspot, hb⟩ : a.spot = none ∧ a.block < w.heap.size := by
    obtain ⟨cs', h1, h2⟩ := hx 0 (by omega)
    rw [cellsR] at h1
    obtain ⟨_, hlen, hcell⟩ := World.cells?_some h1
    have := hcell 0 (by omega)
    rw [List.getElem?_eq_getElem (by omega)] at this
    rw [Nat.zero_mul, show (a.add 0).add 0 = a from rfl] at this
    exact addr_plain this
  obtain ⟨b, o, s⟩ := a
  simp only at hspot hb
  subst hspot
  obtain ⟨f, hf2⟩ := choose_lt (α := R) (n := len) (p := fun i r => ∀ k v, (rV r)[k]? = some v → w.cell? ⟨b, o + i * 5 + k, none⟩ = some v) (fun i hi => by
    obtain ⟨cs', h1, h2⟩ := hx i (by omega)
    rw [cellsR] at h1
    obtain ⟨_, hlen, hcell⟩ := World.cells?_some h1
    obtain ⟨r, rfl⟩ := open_rest_cells h2 hlen
    refine ⟨r, fun k v hk => ?_⟩
    have hk5 : k < 5 := (List.getElem?_eq_some_iff.1 hk).1
    have := hcell k hk5
    rw [hk, Addr.add_lit, Addr.add_lit] at this
    exact this)
  refine ⟨(List.range len).map f, .inl (.inr ⟨b, o, cap, by simp, by simpa using hl, by simpa [maxLen] using hcap, hb, ?_⟩)⟩
  intro j hj k v hk
  have hj' : j < len := by simpa using hj
  rw [getE _ _ hj] at hk
  simp only [List.getElem_map, List.getElem_range] at hk
  exact hf2 j hj' k v hk

set_option maxRecDepth 100000 in
theorem open_level_cells {n : Nat} {cs : List Value} {x : DataW H × List MemPlace} (h : DataW.trod enc Tryz.prog w base sp held n 34 cs = some x) (hl : cs.length = 2) :
    ∃ (l : L) (v : Value), cs = [.int .i64 l.price, v] ∧ SLe w v l.rests := by
  obtain ⟨c0, c1, rfl⟩ := list2 hl
  obtain ⟨xs, n, _, hx, _, hlen, hF⟩ := DataW.trod_struct Tryz.underlying34 h
  obtain ⟨y0, y1, rfl⟩ := list2 hlen
  have h0 : DataW.trod enc Tryz.prog w base sp held n 3 (([c0, c1].drop 0).take (Tryz.prog.cellsOf 3)) = some y0 := hF 0 _ rfl
  rw [cellsI] at h0
  obtain ⟨a0, e0, _, _⟩ := DataW.trod_int Tryz.underlying3 h0
  have h1 : DataW.trod enc Tryz.prog w base sp held n 32 (([c0, c1].drop 1).take (Tryz.prog.cellsOf 32)) = some y1 := hF 1 _ rfl
  rw [cellsS] at h1
  have h1' : DataW.trod enc Tryz.prog w base sp held n 32 [c1] = some y1 := h1
  obtain ⟨zs, hzs⟩ := open_rests_in h1'
  simp at e0
  subst e0
  exact ⟨⟨a0, zs⟩, c1, rfl, hzs⟩

set_option maxRecDepth 100000 in
/-- A side that comes in. -/
theorem open_levels_cell {n : Nat} {v : Value} {x : DataW H × List MemPlace} (hv : v = .slice none 0 0 ∨ ∃ b o len cap, v = .slice (some ⟨b, o, none⟩) len cap ∧ len ≤ cap ∧ cap ≤ 9223372036854775807 ∧ b < w.heap.size) (hf : DataW.trod enc Tryz.prog w base sp held n 22 v.cells.toList = some x) :
    ∃ ls : List L, LS w v ls := by
  rcases hv with rfl | ⟨b, o, len, cap, rfl, hl, hm, hb⟩
  · exact ⟨[], .inl ⟨rfl, rfl⟩⟩
  rcases open_slice Tryz.underlying22 hf with ⟨hcs, _⟩ | ⟨a, len', cap', m, n, D, Pl, hcs, _, hl', _, hmm, _, hx⟩
  · simp [Value.cells] at hcs
  simp [Value.cells] at hcs
  obtain ⟨rfl, rfl, rfl⟩ := hcs
  have hlm : len ≤ m := by rw [hmm]; split <;> omega
  obtain ⟨f, hf2⟩ := choose_lt (α := L) (n := len) (p := fun i l => w.cell? ⟨b, o + i * 2, none⟩ = some (.int .i64 l.price) ∧ ∃ v, w.cell? ⟨b, o + i * 2 + 1, none⟩ = some v ∧ SLe w v l.rests) (fun i hi => by
    obtain ⟨cs', h1, h2⟩ := hx i (by omega)
    rw [cellsL] at h1
    obtain ⟨_, hlen, hcell⟩ := World.cells?_some h1
    obtain ⟨l, v, rfl, hv⟩ := open_level_cells h2 hlen
    have g0 := hcell 0 (by omega)
    have g1 := hcell 1 (by omega)
    rw [Addr.add_lit, Addr.add_lit] at g0 g1
    exact ⟨l, by simpa using g0, v, by simpa using g1, hv⟩)
  refine ⟨(List.range len).map f, .inr ⟨b, o, cap, by simp, by simpa using hl, hm, hb, ?_⟩⟩
  intro j hj
  have hj' : j < len := by simpa using hj
  rw [getE _ _ hj]
  simp only [List.getElem_map, List.getElem_range]
  exact hf2 j hj'
set_option maxRecDepth 100000 in
theorem open_levels {r : Reach} {b0 : Nat} {v : Value} {d : DataW H} {ps : List MemPlace} (hv : Value.okWide Tryz.prog w r b0 22 v) (h : DataW.Trod enc Tryz.prog w base sp held 22 v d ps) : ∃ ls : List L, LS w v ls := by
  obtain ⟨fuel, hf⟩ := h
  exact open_levels_cell (okWide_slice_lies Tryz.underlying22 hv) hf
end
end Go.Proofs.YtalhdjlopkdnbaaGreatDoor.sid
namespace Go.Proofs.YtalhdjlopkdnbaaGreatDoor.bok
open Go.ChangeShapes Go.WideShapes Go.ChangeAt Go.RowKit Go.Deep Go.Proofs.YtalhdjlopkdnbaaGreatDoor.que Go.Proofs.YtalhdjlopkdnbaaGreatDoor.sid

theorem cellsB : Tryz.prog.cellsOf 24 = 2 := by kernel_rfl
theorem cellsSL : Tryz.prog.cellsOf 22 = 1 := by kernel_rfl
theorem typesB : Tryz.prog.cellTypes Tryz.prog.depth 24 = some [22, 22] := by kernel_rfl
section
variable {H : Type} {enc : TypeId × Value → H} {w : World} {base : Nat} {sp : Nat → Bool} {held : Bool}

set_option maxRecDepth 100000 in
theorem okWide_lev {r : Reach} {b0 : Nat} {v : Value} (h : Cell.okWide Tryz.prog w r b0 22 v) : Value.okWide Tryz.prog w r b0 22 v := by
  simp only [Value.okWide, Tryz.underlying22]
  exact h
theorem slice_cells {v : Value} (h : v = .slice none 0 0 ∨ ∃ b o len cap, v = .slice (some ⟨b, o, none⟩) len cap ∧ len ≤ cap ∧ cap ≤ 9223372036854775807 ∧ b < w.heap.size) : v.cells.toList = [v] ∧ ∃ q n c, v = .slice q n c := by
  rcases h with rfl | ⟨b, o, len, cap, rfl, -, -, -⟩
  · exact ⟨rfl, _, _, _, rfl⟩
  · exact ⟨rfl, _, _, _, rfl⟩
set_option maxRecDepth 100000 in
/-- A book that comes in. -/
theorem open_book {r : Reach} {b0 : Nat} {v : Value} {d : DataW H} {ps : List MemPlace} (hv : Value.okWide Tryz.prog w r b0 24 v) (h : DataW.Trod enc Tryz.prog w base sp held 24 v d ps) :
    ∃ q1 q2 n1 n2 c1 c2 bs ss, v = .agg #[.slice q1 n1 c1, .slice q2 n2 c2] ∧ LS w (.slice q1 n1 c1) bs ∧ LS w (.slice q2 n2 c2) ss := by
  simp only [Value.okWide, Tryz.underlying24] at hv
  obtain ⟨cs, rfl, hsz, ts, hts, -, hrow⟩ := hv
  rw [typesB] at hts
  have hts' := (Option.some.inj hts).symm
  subst hts'
  obtain ⟨c0, c1, hcs⟩ := list2 (l := cs.toList) (by rw [Array.length_toList]; exact hsz.trans cellsB)
  have hcs2 : cs = #[c0, c1] := by rw [← Array.toArray_toList (xs := cs), hcs]
  subst hcs2
  have k0 : Cell.okWide Tryz.prog w r b0 22 c0 := by
    obtain ⟨u, hu, hc⟩ := hrow 0 c0 rfl
    have : u = 22 := by simpa using hu.symm
    rw [this] at hc; exact hc
  have k1 : Cell.okWide Tryz.prog w r b0 22 c1 := by
    obtain ⟨u, hu, hc⟩ := hrow 1 c1 rfl
    have : u = 22 := by simpa using hu.symm
    rw [this] at hc; exact hc
  have f0 := okWide_slice_lies Tryz.underlying22 (okWide_lev k0)
  have f1 := okWide_slice_lies Tryz.underlying22 (okWide_lev k1)
  obtain ⟨fuel, hf⟩ := h
  have hf' : DataW.trod enc Tryz.prog w base sp held fuel 24 [c0, c1] = some (d, ps) := hf
  obtain ⟨xs, n, _, hx, _, hlen, hF⟩ := DataW.trod_struct Tryz.underlying24 hf'
  obtain ⟨y0, y1, rfl⟩ := list2 hlen
  have h0 : DataW.trod enc Tryz.prog w base sp held n 22 (([c0, c1].drop 0).take (Tryz.prog.cellsOf 22)) = some y0 := hF 0 _ rfl
  have h1 : DataW.trod enc Tryz.prog w base sp held n 22 (([c0, c1].drop 1).take (Tryz.prog.cellsOf 22)) = some y1 := hF 1 _ rfl
  rw [cellsSL] at h0 h1
  have h0' : DataW.trod enc Tryz.prog w base sp held n 22 [c0] = some y0 := h0
  have h1' : DataW.trod enc Tryz.prog w base sp held n 22 [c1] = some y1 := h1
  obtain ⟨e0, q1, n1, d1, hc0⟩ := slice_cells f0
  obtain ⟨e1, q2, n2, d2, hc1⟩ := slice_cells f1
  obtain ⟨bs, hbs⟩ := open_levels_cell f0 (by rw [e0]; exact h0')
  obtain ⟨ss, hss⟩ := open_levels_cell f1 (by rw [e1]; exact h1')
  subst hc0
  subst hc1
  exact ⟨q1, q2, n1, n2, d1, d2, bs, ss, rfl, hbs, hss⟩
end
end Go.Proofs.YtalhdjlopkdnbaaGreatDoor.bok
namespace Go.Proofs.YtalhdjlopkdnbaaGreatDoor.mee
open Go.ChangeShapes Go.WideShapes Go.ChangeAt Go.RowKit Go.Proofs.YtalhdjlopkdnbaaGreatDoor.que

theorem list8 {α : Type} {l : List α} (h : l.length = 8) : ∃ c0 c1 c2 c3 c4 c5 c6 c7, l = [c0, c1, c2, c3, c4, c5, c6, c7] := by
  match l, h with
  | [c0, c1, c2, c3, c4, c5, c6, c7], _ => exact ⟨c0, c1, c2, c3, c4, c5, c6, c7, rfl⟩
theorem cellsO : Tryz.prog.cellsOf 60 = 8 := by kernel_rfl
section
variable {H : Type} {enc : TypeId × Value → H} {w : World} {base : Nat} {sp : Nat → Bool} {held : Bool}
set_option maxRecDepth 100000 in
theorem open_order {r : Reach} {b0 : Nat} {v : Value} {d : DataW H} {ps : List MemPlace} (hv : Value.okWide Tryz.prog w r b0 60 v) (h : DataW.Trod enc Tryz.prog w base sp held 60 v d ps) :
    ∃ a b c e p q s t : Int, v = .agg #[.int .i64 a, .int .i64 b, .int .i64 c, .int .i64 e, .int .i64 p, .int .i64 q, .int .i64 s, .int .i64 t] := by
  obtain ⟨cs, rfl, hsz⟩ := okWide_struct Tryz.underlying60 hv
  obtain ⟨fuel, hf⟩ := h
  have hl : cs.toList.length = 8 := by simpa using hsz.trans cellsO
  have hf' : DataW.trod enc Tryz.prog w base sp held fuel 60 cs.toList = some (d, ps) := by simpa [Value.cells] using hf
  obtain ⟨c0, c1, c2, c3, c4, c5, c6, c7, hcs⟩ := list8 hl
  rw [hcs] at hf'
  obtain ⟨xs, n, _, hx, _, hlen, hF⟩ := DataW.trod_struct Tryz.underlying60 hf'
  obtain ⟨y0, y1, y2, y3, y4, y5, y6, y7, rfl⟩ := list8 hlen
  have h0 : DataW.trod enc Tryz.prog w base sp held n 3 (([c0, c1, c2, c3, c4, c5, c6, c7].drop 0).take (Tryz.prog.cellsOf 3)) = some y0 := hF 0 _ rfl
  rw [cellsI] at h0
  obtain ⟨a0, e0, _, _⟩ := DataW.trod_int Tryz.underlying3 h0
  have h1 : DataW.trod enc Tryz.prog w base sp held n 3 (([c0, c1, c2, c3, c4, c5, c6, c7].drop 1).take (Tryz.prog.cellsOf 3)) = some y1 := hF 1 _ rfl
  rw [cellsI] at h1
  obtain ⟨a1, e1, _, _⟩ := DataW.trod_int Tryz.underlying3 h1
  have h2 : DataW.trod enc Tryz.prog w base sp held n 3 (([c0, c1, c2, c3, c4, c5, c6, c7].drop 2).take (Tryz.prog.cellsOf 3)) = some y2 := hF 2 _ rfl
  rw [cellsI] at h2
  obtain ⟨a2, e2, _, _⟩ := DataW.trod_int Tryz.underlying3 h2
  have h3 : DataW.trod enc Tryz.prog w base sp held n 3 (([c0, c1, c2, c3, c4, c5, c6, c7].drop 3).take (Tryz.prog.cellsOf 3)) = some y3 := hF 3 _ rfl
  rw [cellsI] at h3
  obtain ⟨a3, e3, _, _⟩ := DataW.trod_int Tryz.underlying3 h3
  have h4 : DataW.trod enc Tryz.prog w base sp held n 3 (([c0, c1, c2, c3, c4, c5, c6, c7].drop 4).take (Tryz.prog.cellsOf 3)) = some y4 := hF 4 _ rfl
  rw [cellsI] at h4
  obtain ⟨a4, e4, _, _⟩ := DataW.trod_int Tryz.underlying3 h4
  have h5 : DataW.trod enc Tryz.prog w base sp held n 3 (([c0, c1, c2, c3, c4, c5, c6, c7].drop 5).take (Tryz.prog.cellsOf 3)) = some y5 := hF 5 _ rfl
  rw [cellsI] at h5
  obtain ⟨a5, e5, _, _⟩ := DataW.trod_int Tryz.underlying3 h5
  have h6 : DataW.trod enc Tryz.prog w base sp held n 3 (([c0, c1, c2, c3, c4, c5, c6, c7].drop 6).take (Tryz.prog.cellsOf 3)) = some y6 := hF 6 _ rfl
  rw [cellsI] at h6
  obtain ⟨a6, e6, _, _⟩ := DataW.trod_int Tryz.underlying3 h6
  have h7 : DataW.trod enc Tryz.prog w base sp held n 3 (([c0, c1, c2, c3, c4, c5, c6, c7].drop 7).take (Tryz.prog.cellsOf 3)) = some y7 := hF 7 _ rfl
  rw [cellsI] at h7
  obtain ⟨a7, e7, _, _⟩ := DataW.trod_int Tryz.underlying3 h7
  simp at e0 e1 e2 e3 e4 e5 e6 e7
  subst e0 e1 e2 e3 e4 e5 e6 e7
  refine ⟨a0, a1, a2, a3, a4, a5, a6, a7, ?_⟩
  have : cs = ([.int .i64 a0, .int .i64 a1, .int .i64 a2, .int .i64 a3, .int .i64 a4, .int .i64 a5, .int .i64 a6, .int .i64 a7] : List Value).toArray := by rw [← hcs]
  rw [this]
end
end Go.Proofs.YtalhdjlopkdnbaaGreatDoor.mee
