/- The walk of PursePlays. -/
import Derived.Test.YthndnndejdckeaaDoorPPRef2
import Derived.Test.YthndnndejdckeaaDoorPPTrd
import Derived.Test.YthndnndejdckeaaDoorPurArg
import Derived.Test.YthndnndejdckeaaDoorTold
import Derived.Deep.CutBlock
namespace Go.Proofs.YthndnndejdckeaaDoor.pur
open Go.RowKit Go.Proofs.YthndnndejdckeaaDoor.spn Go.Proofs.YthndnndejdckeaaDoor.wak

theorem zero50 : (flatP (List.replicate 10 zeroP)).toArray = #[.int .i64 0, .int .i64 0, .int .i64 0, .int .i64 0, .int .i64 0, .int .i64 0, .int .i64 0, .int .i64 0, .int .i64 0, .int .i64 0, .int .i64 0, .int .i64 0, .int .i64 0, .int .i64 0, .int .i64 0, .int .i64 0, .int .i64 0, .int .i64 0, .int .i64 0, .int .i64 0, .int .i64 0, .int .i64 0, .int .i64 0, .int .i64 0, .int .i64 0, .int .i64 0, .int .i64 0, .int .i64 0, .int .i64 0, .int .i64 0, .int .i64 0, .int .i64 0, .int .i64 0, .int .i64 0, .int .i64 0, .int .i64 0, .int .i64 0, .int .i64 0, .int .i64 0, .int .i64 0, .int .i64 0, .int .i64 0, .int .i64 0, .int .i64 0, .int .i64 0, .int .i64 0, .int .i64 0, .int .i64 0, .int .i64 0, .int .i64 0] := rfl
theorem rel_new : Rel (newL 9) (List.replicate 10 zeroP) := by
  refine ⟨rfl, fun i h1 h9 => ?_⟩
  rw [newL_at 9 (i - 1) (by omega), getP (List.replicate 10 zeroP) i (by simp; omega)]
  simp only [List.getElem_replicate]
  exact ⟨rfl, rfl, rfl, rfl⟩
theorem told_same {EV : Value} {K : Int} {w : World} (h : EV = errV K) (hl : told.Laid w) : Calls Tryd.prog 6 #[EV, .int .i64 K] w fun ev w' => ev = .returned (.bool true) ∧ told.Inv w w' := by
  have := told.error_any w K K w (told.Inv.start hl)
  rw [beq_self_eq_true] at this
  rw [h]
  exact this
theorem row6 {w : World} {B : Nat} {x0 x1 x2 x3 x4 x5 : Value} {t : TypeId} (h : w.heap[B]? = some (.cells #[x0, x1, x2, x3, x4, x5] t (0, 0))) :
    w.cell? ⟨B, 0, none⟩ = some x0 ∧ w.cell? ⟨B, 1, none⟩ = some x1 ∧ w.cell? ⟨B, 2, none⟩ = some x2 ∧ w.cell? ⟨B, 3, none⟩ = some x3 ∧ w.cell? ⟨B, 4, none⟩ = some x4 ∧ w.cell? ⟨B, 5, none⟩ = some x5 :=
  ⟨by simp [World.cell?, h], by simp [World.cell?, h], by simp [World.cell?, h], by simp [World.cell?, h], by simp [World.cell?, h], by simp [World.cell?, h]⟩

/-- The program's purses and the document's, of the call's own, have the same. -/
structure PP (w : World) (P M : Nat) (ps : List Pz) (wr : World) : Prop where
  ok : Ok ps
  pu : Pu 52 9 wr P ps
  rs : RS wr M ps
  ne : M ≠ P
  leP : w.heap.size ≤ P
  leM : w.heap.size ≤ M
  bel : Below w.heap.size w wr
section
variable {w wr w2 w' : World} {P M : Nat} {ps ps' : List Pz}
theorem PP.step (h : PP w P M ps wr) (ho : Ok ps') (hr : RS w2 M ps') (hg : wr.grownBy w2 (some M)) (hp : Pu 52 9 w' P ps') (hg' : w2.grownBy w' (some P)) : PP w P M ps' w' := by
  have hb := belG h.bel hg h.bel.size h.leM
  exact ⟨ho, hp, hr.keep hg' (fun e => h.ne (by injection e)), h.ne, h.leP, h.leM, belG hb hg' hb.size h.leP⟩
theorem PP.on (h : PP w P M ps wr) (hb : Below wr.heap.size wr w') : PP w P M ps w' :=
  ⟨h.ok, h.pu.below hb, h.rs.below hb, h.ne, h.leP, h.leM, h.bel.trans (hb.mono h.bel.size)⟩
end

set_option maxRecDepth 100000 in
set_option maxHeartbeats 16000000 in
theorem plays_walk (sq : Option Addr) (sn sc : Nat) (B w : World) (h : told.Inv B w) (hst : ST w sq sn) :
    Calls Tryd.prog 3 #[.slice sq sn sc] w fun e w' => e = .returned (.bool true) ∧ told.Inv B w' := by
  have HST := hidU hst
  have HI := hidU h
  clear hst h
  go_enter Tryd.func3, Tryd.ntmps3
  go_wp2_with fail
  refine (new_any w).mono ?_
  rintro e w1 ⟨rfl, hp1, hb1⟩
  obtain ⟨P, hP⟩ : ∃ P, P = w.heap.size := ⟨_, rfl⟩
  rw [← hP] at hp1 ⊢
  obtain ⟨M, hM⟩ : ∃ M, M = w1.heap.size := ⟨_, rfl⟩
  have hR0 := heap_alloc_new w1 (.cells #[.int .i64 0, .int .i64 0, .int .i64 0, .int .i64 0, .int .i64 0, .int .i64 0, .int .i64 0, .int .i64 0, .int .i64 0, .int .i64 0, .int .i64 0, .int .i64 0, .int .i64 0, .int .i64 0, .int .i64 0, .int .i64 0, .int .i64 0, .int .i64 0, .int .i64 0, .int .i64 0, .int .i64 0, .int .i64 0, .int .i64 0, .int .i64 0, .int .i64 0, .int .i64 0, .int .i64 0, .int .i64 0, .int .i64 0, .int .i64 0, .int .i64 0, .int .i64 0, .int .i64 0, .int .i64 0, .int .i64 0, .int .i64 0, .int .i64 0, .int .i64 0, .int .i64 0, .int .i64 0, .int .i64 0, .int .i64 0, .int .i64 0, .int .i64 0, .int .i64 0, .int .i64 0, .int .i64 0, .int .i64 0, .int .i64 0, .int .i64 0] 29)
  have hB0 := (Below.refl _ w1).alloc (Nat.le_refl _) (.cells #[.int .i64 0, .int .i64 0, .int .i64 0, .int .i64 0, .int .i64 0, .int .i64 0, .int .i64 0, .int .i64 0, .int .i64 0, .int .i64 0, .int .i64 0, .int .i64 0, .int .i64 0, .int .i64 0, .int .i64 0, .int .i64 0, .int .i64 0, .int .i64 0, .int .i64 0, .int .i64 0, .int .i64 0, .int .i64 0, .int .i64 0, .int .i64 0, .int .i64 0, .int .i64 0, .int .i64 0, .int .i64 0, .int .i64 0, .int .i64 0, .int .i64 0, .int .i64 0, .int .i64 0, .int .i64 0, .int .i64 0, .int .i64 0, .int .i64 0, .int .i64 0, .int .i64 0, .int .i64 0, .int .i64 0, .int .i64 0, .int .i64 0, .int .i64 0, .int .i64 0, .int .i64 0, .int .i64 0, .int .i64 0, .int .i64 0, .int .i64 0] 29)
  rw [← hM] at hR0
  have H9 : Hid (PP w P M (newL 9) (w1.alloc (.cells #[.int .i64 0, .int .i64 0, .int .i64 0, .int .i64 0, .int .i64 0, .int .i64 0, .int .i64 0, .int .i64 0, .int .i64 0, .int .i64 0, .int .i64 0, .int .i64 0, .int .i64 0, .int .i64 0, .int .i64 0, .int .i64 0, .int .i64 0, .int .i64 0, .int .i64 0, .int .i64 0, .int .i64 0, .int .i64 0, .int .i64 0, .int .i64 0, .int .i64 0, .int .i64 0, .int .i64 0, .int .i64 0, .int .i64 0, .int .i64 0, .int .i64 0, .int .i64 0, .int .i64 0, .int .i64 0, .int .i64 0, .int .i64 0, .int .i64 0, .int .i64 0, .int .i64 0, .int .i64 0, .int .i64 0, .int .i64 0, .int .i64 0, .int .i64 0, .int .i64 0, .int .i64 0, .int .i64 0, .int .i64 0, .int .i64 0, .int .i64 0] 29))) := ⟨newL_ok, hp1.below hB0, ⟨_, ⟨rfl, by rw [zero50]; exact hR0⟩, rel_new⟩, (by have := hp1.lt; omega), Nat.le_of_eq hP.symm, (by rw [hM]; exact hb1.size), hb1.trans (hB0.mono hb1.size)⟩
  clear hp1 hb1 hP hR0 hB0
  go_upto_region 3 with fail
  simp only [← hM]
  generalize w1.alloc (.cells #[.int .i64 0, .int .i64 0, .int .i64 0, .int .i64 0, .int .i64 0, .int .i64 0, .int .i64 0, .int .i64 0, .int .i64 0, .int .i64 0, .int .i64 0, .int .i64 0, .int .i64 0, .int .i64 0, .int .i64 0, .int .i64 0, .int .i64 0, .int .i64 0, .int .i64 0, .int .i64 0, .int .i64 0, .int .i64 0, .int .i64 0, .int .i64 0, .int .i64 0, .int .i64 0, .int .i64 0, .int .i64 0, .int .i64 0, .int .i64 0, .int .i64 0, .int .i64 0, .int .i64 0, .int .i64 0, .int .i64 0, .int .i64 0, .int .i64 0, .int .i64 0, .int .i64 0, .int .i64 0, .int .i64 0, .int .i64 0, .int .i64 0, .int .i64 0, .int .i64 0, .int .i64 0, .int .i64 0, .int .i64 0, .int .i64 0, .int .i64 0] 29) = w2 at *
  clear hM
  go_wp2_with fail
  go_loopg [5] sn (fun gg s5 wr => ∃ (kk : Nat), kk ≤ sn ∧ kk ≤ 60 ∧ sn - kk ≤ gg ∧ s5 = .int .i64 kk ∧ Aside (∃ ps, PP w P M ps wr))
  case atStart => exact ⟨0, Nat.zero_le _, by omega, by omega, rfl, _, H9.out⟩
  case round =>
    clear H9
    obtain ⟨kk, hkk, hk60, hg, rfl, HA⟩ := hrel
    by_cases hlt : kk < sn ∧ kk < 60
    rotate_left
    · have hend : Hid (((kk : Int) < (sn : Int) ∧ ¬ (kk : Int) < 60) ∨ ¬ (kk : Int) < (sn : Int)) := by
        show _ ∨ _
        by_cases h1 : kk < sn
        · exact .inl ⟨by omega, by omega⟩
        · exact .inr (by omega)
      obtain ⟨ps, hA⟩ := HA.out
      have HBF := hidU (HI.out.on hA.bel)
      clear HA hlt hA
      rcases hend.out with ⟨e1, e2⟩ | e1
      · go_wp2_with fail
        go_ret
        exact ⟨rfl, HBF.out⟩
      · go_wp2_with fail
        go_ret
        exact ⟨rfl, HBF.out⟩
    · obtain ⟨hlt, hl6⟩ := hlt
      have hltz : (kk : Int) < (sn : Int) := by omega
      have hl6z : (kk : Int) < 60 := by omega
      have hin1 : ¬ ((kk : Int) < 0) := by omega
      have HM : Hid (kk < sn ∧ kk < 60 ∧ sn - kk ≤ gk) := ⟨hlt, hl6, hg⟩
      obtain ⟨sg, so, rfl, hcells⟩ := HST.out.2 (by omega)
      obtain ⟨iq, im, ic, zs, hcell, hile⟩ := hcells kk hlt
      have HCL := hidU hcell
      have HIL := hidU hile
      obtain ⟨ps, hA⟩ := HA.out
      have HPI := hidU hA
      clear hcells hcell hile HA hA hlt hl6 hg hkk hk60
      obtain ⟨W0, hW0⟩ : ∃ W0, W0 = wr := ⟨_, rfl⟩
      rw [← hW0] at HPI
      rw [← hW0]
      clear hW0
      have hrA : Five 30 (W0.alloc (.cells #[.int .i64 0, .int .i64 0, .int .i64 0, .int .i64 0, .int .i64 0] 30)) W0.heap.size [0, 0, 0, 0, 0] := ⟨rfl, heap_alloc_new W0 _⟩
      have HBA0 := hidU ((Below.refl _ W0).alloc (Nat.le_refl _) (.cells #[.int .i64 0, .int .i64 0, .int .i64 0, .int .i64 0, .int .i64 0] 30))
      go_wp2_with fail
      generalize W0.alloc (.cells #[.int .i64 0, .int .i64 0, .int .i64 0, .int .i64 0, .int .i64 0] 30) = Wa at *
      obtain ⟨X, hX⟩ : ∃ X, X = W0.heap.size := ⟨_, rfl⟩
      rw [← hX] at hrA
      simp only [← hX]
      have HX := hidU (show W0.heap.size ≤ X by rw [hX]; exact Nat.le_refl _)
      clear hX
      have HRA := hidU hrA
      clear hrA
      go_loopg [7] 5 (fun g2 s7 wi => ∃ (j : Nat) (vs : List Int), j ≤ 5 ∧ 5 - j ≤ g2 ∧ s7 = .int .i64 j ∧ Aside (Five 30 wi X vs ∧ Below W0.heap.size W0 wi))
      case atStart => exact ⟨0, _, by omega, by omega, rfl, HRA.out, HBA0.out⟩
      case round =>
        obtain ⟨j, vs, hj5, hg2, rfl, HB⟩ := hrel
        have t0 := keeps (HPI.out.bel.trans (HB.out.2.mono HPI.out.bel.size)) HCL.out
        have HIW := hidU (HIL.out.below (HPI.out.bel.trans (HB.out.2.mono HPI.out.bel.size)))
        by_cases hjm : j < im ∧ j < 5
        · obtain ⟨hjm, hj5'⟩ := hjm
          have hjmz : (j : Int) < (im : Int) := by omega
          have hj5z : (j : Int) < 5 := by omega
          have hj0 : ¬ ((j : Int) < 0) := by omega
          obtain ⟨ig, io, rfl, icel⟩ := HIW.out.2 (by omega)
          have u0 := icel j hjm
          generalize zs[j]! = z at u0
          obtain ⟨r0, rf⟩ := HB.out.1.cell j hj5'
          generalize vs[j]! = old at r0
          have HST2 := hidU (HB.out.1.set j z)
          have HBS := hidU (HB.out.2.setCell (p := ⟨X, j, none⟩) HX.out (.int .i64 z))
          have HJ : Hid (j < 5 ∧ 5 - j ≤ gk) := ⟨hj5', hg2⟩
          have ej := succP j (by omega)
          have ej2 : wrap64 ((j : Int) + 1) = (j : Int) + 1 := wrapP _ (by clear ej; omega) (by clear ej; omega)
          clear icel HB hjm hj5 hg2 hj5' ej
          go_wp2_with fail
          go_roundg (5 - (j + 1))
          case measure => have := HJ.out; clear ej2; omega
          case rel => exact ⟨j + 1, _, HJ.out.1, Nat.le_refl _, by first | rfl | exact congrArg (Value.int .i64) ej2, HST2.out, HBS.out⟩
        · have hend : Hid (((j : Int) < (im : Int) ∧ ¬ (j : Int) < 5) ∨ ¬ (j : Int) < (im : Int)) := by
            show _ ∨ _
            by_cases h1 : j < im
            · exact .inl ⟨by omega, by omega⟩
            · exact .inr (by omega)
          have HRW := hidU HB.out.1
          have HP1 := hidU (HPI.out.on HB.out.2)
          have HNE : Hid (X ≠ P ∧ X ≠ M) := ⟨by have h1 := HPI.out.pu.lt; have h2 := HX.out; omega, by have h1 := HPI.out.rs.lt; have h2 := HX.out; omega⟩
          clear HB hjm hg2 hj5 HIW
          obtain ⟨W1, hW1⟩ : ∃ W1, W1 = wr := ⟨_, rfl⟩
          rw [← hW1] at HRW HP1 t0
          rw [← hW1]
          clear hW1
          go_upto_region 8 with fail
          go_cut [46] from 36 to 46 (fun s46 wx => s46 = .bool false ∧ wx = W1)
          case first =>
            rcases hend.out with ⟨e1, e2⟩ | e1
            · go_wp2_with fail
              go_meet
              case rel => exact ⟨rfl, rfl⟩
            · go_wp2_with fail
              go_meet
              case rel => exact ⟨rfl, rfl⟩
          case rest =>
          obtain ⟨rfl, rfl⟩ := hcut
          generalize wc = W1 at *
          clear t0 hend HBA0 HRA HPI HCL HIL HX
          obtain ⟨v0, v1, v2, v3, v4, rfl⟩ := five_of HRW.out.1
          have r0 := (HRW.out.cell 0 (by omega)).1
          have r1 := (HRW.out.cell 1 (by omega)).1
          have r2 := (HRW.out.cell 2 (by omega)).1
          have r3 := (HRW.out.cell 3 (by omega)).1
          have r4 := (HRW.out.cell 4 (by omega)).1
          change W1.cell? ⟨X, 0, none⟩ = some (.int .i64 v0) at r0
          change W1.cell? ⟨X, 1, none⟩ = some (.int .i64 v1) at r1
          change W1.cell? ⟨X, 2, none⟩ = some (.int .i64 v2) at r2
          change W1.cell? ⟨X, 3, none⟩ = some (.int .i64 v3) at r3
          change W1.cell? ⟨X, 4, none⟩ = some (.int .i64 v4) at r4
          go_upto_block 4 with fail
          go_cut [8, 9, 10, 11, 12, 13, 14] from 60 to 143 (fun s8 _ _ _ _ _ _ wx => s8 = .bool true ∧ Aside (∃ ps, PP w P M ps wx ∧ Five 30 wx X [v0, v1, v2, v3, v4]))
          case first =>
            by_cases k0 : v0 = 0
            · subst k0
              have HC1 := hidU (rpay_any M ps v1 v2 W1 HP1.out.rs HP1.out.ok)
              have HC2 := hidU (fun W (hW : Pu 52 9 W P ps) => pay_any P ps v1 v2 W hW HP1.out.ok)
              have HO := hidU (pay_ok HP1.out.ok v1 v2)
              obtain ⟨EV, hEV⟩ : ∃ x, x = errV (payE ps v1 v2) := ⟨_, rfl⟩
              rw [← hEV] at HC2
              have HEV := hidU hEV
              clear hEV
              generalize payE ps v1 v2 = K at *
              generalize payP ps v1 v2 = ps' at *
              go_wp2_with fail
              refine HC1.out.mono ?_
              rintro e w2 ⟨rfl, hr2, hg2⟩
              have HR2 := hidU hr2
              have HG2 := hidU hg2
              have HF2 := hidU (HRW.out.same (hg2.block X HRW.out.lt (fun e => HNE.out.2 (by injection e))))
              have HU2 := hidU (HP1.out.pu.keep hg2 (fun e => HP1.out.ne (by injection e with e; exact e.symm)))
              clear hr2 hg2 HC1 r0 r1 r2 r3 r4
              have r1 : w2.cell? ⟨X, 1, none⟩ = some (.int .i64 v1) := (HF2.out.cell 1 (by omega)).1
              have r2 : w2.cell? ⟨X, 2, none⟩ = some (.int .i64 v2) := (HF2.out.cell 2 (by omega)).1
              have r3 : w2.cell? ⟨X, 3, none⟩ = some (.int .i64 v3) := (HF2.out.cell 3 (by omega)).1
              go_wp2_with fail
              refine (HC2.out w2 HU2.out).mono ?_
              rintro e w3 ⟨rfl, hp3, hg3⟩
              have HS3 := hidU (HP1.out.step HO.out HR2.out HG2.out hp3 hg3)
              have HF3 := hidU (HF2.out.same (hg3.block X HF2.out.lt (fun e => HNE.out.1 (by injection e))))
              clear hp3 hg3 HC2 HU2 HF2 r1 r2 r3 HR2 HG2 HO
              have HE : Hid (Calls Tryd.prog 6 #[EV, .int .i64 K] w3 fun ev w' => ev = .returned (.bool true) ∧ told.Inv w3 w') := told_same HEV.out (HI.out.on HS3.out.bel).laid
              clear HEV
              go_wp2_with fail
              refine HE.out.mono ?_
              rintro e w4 ⟨rfl, i4⟩
              have HS4 := hidU (HS3.out.on i4.2)
              have HF4 := hidU (HF3.out.below i4.2)
              clear i4 HE HS3 HF3
              go_wp2_with fail
              go_meet
              case rel => exact ⟨rfl, _, HS4.out, HF4.out⟩
            by_cases k1 : v0 = 1
            · subst k1
              have HC1 := hidU (rgive_any M ps v1 v2 W1 HP1.out.rs HP1.out.ok)
              have HC2 := hidU (fun W (hW : Pu 52 9 W P ps) => give_any P ps v1 v2 W hW HP1.out.ok)
              have HO := hidU (give_ok HP1.out.ok v1 v2)
              obtain ⟨EV, hEV⟩ : ∃ x, x = errV (giveE ps v1 v2) := ⟨_, rfl⟩
              rw [← hEV] at HC2
              have HEV := hidU hEV
              clear hEV
              generalize giveE ps v1 v2 = K at *
              generalize giveP ps v1 v2 = ps' at *
              go_wp2_with fail
              refine HC1.out.mono ?_
              rintro e w2 ⟨rfl, hr2, hg2⟩
              have HR2 := hidU hr2
              have HG2 := hidU hg2
              have HF2 := hidU (HRW.out.same (hg2.block X HRW.out.lt (fun e => HNE.out.2 (by injection e))))
              have HU2 := hidU (HP1.out.pu.keep hg2 (fun e => HP1.out.ne (by injection e with e; exact e.symm)))
              clear hr2 hg2 HC1 r0 r1 r2 r3 r4
              have r1 : w2.cell? ⟨X, 1, none⟩ = some (.int .i64 v1) := (HF2.out.cell 1 (by omega)).1
              have r2 : w2.cell? ⟨X, 2, none⟩ = some (.int .i64 v2) := (HF2.out.cell 2 (by omega)).1
              have r3 : w2.cell? ⟨X, 3, none⟩ = some (.int .i64 v3) := (HF2.out.cell 3 (by omega)).1
              go_wp2_with fail
              refine (HC2.out w2 HU2.out).mono ?_
              rintro e w3 ⟨rfl, hp3, hg3⟩
              have HS3 := hidU (HP1.out.step HO.out HR2.out HG2.out hp3 hg3)
              have HF3 := hidU (HF2.out.same (hg3.block X HF2.out.lt (fun e => HNE.out.1 (by injection e))))
              clear hp3 hg3 HC2 HU2 HF2 r1 r2 r3 HR2 HG2 HO
              have HE : Hid (Calls Tryd.prog 6 #[EV, .int .i64 K] w3 fun ev w' => ev = .returned (.bool true) ∧ told.Inv w3 w') := told_same HEV.out (HI.out.on HS3.out.bel).laid
              clear HEV
              go_wp2_with fail
              refine HE.out.mono ?_
              rintro e w4 ⟨rfl, i4⟩
              have HS4 := hidU (HS3.out.on i4.2)
              have HF4 := hidU (HF3.out.below i4.2)
              clear i4 HE HS3 HF3
              go_wp2_with fail
              go_meet
              case rel => exact ⟨rfl, _, HS4.out, HF4.out⟩
            by_cases k2 : v0 = 2
            · subst k2
              have HC1 := hidU (rhold_any M ps v1 v2 v3 W1 HP1.out.rs HP1.out.ok)
              have HC2 := hidU (fun W (hW : Pu 52 9 W P ps) => hold_any P ps v1 v2 v3 W hW HP1.out.ok)
              have HO := hidU (hold_ok HP1.out.ok v1 v2 v3)
              obtain ⟨EV, hEV⟩ : ∃ x, x = errV (holdE ps v1 v2 v3) := ⟨_, rfl⟩
              rw [← hEV] at HC2
              have HEV := hidU hEV
              clear hEV
              generalize holdE ps v1 v2 v3 = K at *
              generalize holdP ps v1 v2 v3 = ps' at *
              go_wp2_with fail
              refine HC1.out.mono ?_
              rintro e w2 ⟨rfl, hr2, hg2⟩
              have HR2 := hidU hr2
              have HG2 := hidU hg2
              have HF2 := hidU (HRW.out.same (hg2.block X HRW.out.lt (fun e => HNE.out.2 (by injection e))))
              have HU2 := hidU (HP1.out.pu.keep hg2 (fun e => HP1.out.ne (by injection e with e; exact e.symm)))
              clear hr2 hg2 HC1 r0 r1 r2 r3 r4
              have r1 : w2.cell? ⟨X, 1, none⟩ = some (.int .i64 v1) := (HF2.out.cell 1 (by omega)).1
              have r2 : w2.cell? ⟨X, 2, none⟩ = some (.int .i64 v2) := (HF2.out.cell 2 (by omega)).1
              have r3 : w2.cell? ⟨X, 3, none⟩ = some (.int .i64 v3) := (HF2.out.cell 3 (by omega)).1
              go_wp2_with fail
              refine (HC2.out w2 HU2.out).mono ?_
              rintro e w3 ⟨rfl, hp3, hg3⟩
              have HS3 := hidU (HP1.out.step HO.out HR2.out HG2.out hp3 hg3)
              have HF3 := hidU (HF2.out.same (hg3.block X HF2.out.lt (fun e => HNE.out.1 (by injection e))))
              clear hp3 hg3 HC2 HU2 HF2 r1 r2 r3 HR2 HG2 HO
              have HE : Hid (Calls Tryd.prog 6 #[EV, .int .i64 K] w3 fun ev w' => ev = .returned (.bool true) ∧ told.Inv w3 w') := told_same HEV.out (HI.out.on HS3.out.bel).laid
              clear HEV
              go_wp2_with fail
              refine HE.out.mono ?_
              rintro e w4 ⟨rfl, i4⟩
              have HS4 := hidU (HS3.out.on i4.2)
              have HF4 := hidU (HF3.out.below i4.2)
              clear i4 HE HS3 HF3
              go_wp2_with fail
              go_meet
              case rel => exact ⟨rfl, _, HS4.out, HF4.out⟩
            by_cases k3 : v0 = 3
            · subst k3
              have HC1 := hidU (rfree_any M ps v1 v2 v3 W1 HP1.out.rs HP1.out.ok)
              have HC2 := hidU (fun W (hW : Pu 52 9 W P ps) => free_any P ps v1 v2 v3 W hW HP1.out.ok)
              have HO := hidU (free_ok HP1.out.ok v1 v2 v3)
              obtain ⟨EV, hEV⟩ : ∃ x, x = errV (freeE ps v1 v2 v3) := ⟨_, rfl⟩
              rw [← hEV] at HC2
              have HEV := hidU hEV
              clear hEV
              generalize freeE ps v1 v2 v3 = K at *
              generalize freeP ps v1 v2 v3 = ps' at *
              go_wp2_with fail
              refine HC1.out.mono ?_
              rintro e w2 ⟨rfl, hr2, hg2⟩
              have HR2 := hidU hr2
              have HG2 := hidU hg2
              have HF2 := hidU (HRW.out.same (hg2.block X HRW.out.lt (fun e => HNE.out.2 (by injection e))))
              have HU2 := hidU (HP1.out.pu.keep hg2 (fun e => HP1.out.ne (by injection e with e; exact e.symm)))
              clear hr2 hg2 HC1 r0 r1 r2 r3 r4
              have r1 : w2.cell? ⟨X, 1, none⟩ = some (.int .i64 v1) := (HF2.out.cell 1 (by omega)).1
              have r2 : w2.cell? ⟨X, 2, none⟩ = some (.int .i64 v2) := (HF2.out.cell 2 (by omega)).1
              have r3 : w2.cell? ⟨X, 3, none⟩ = some (.int .i64 v3) := (HF2.out.cell 3 (by omega)).1
              go_wp2_with fail
              refine (HC2.out w2 HU2.out).mono ?_
              rintro e w3 ⟨rfl, hp3, hg3⟩
              have HS3 := hidU (HP1.out.step HO.out HR2.out HG2.out hp3 hg3)
              have HF3 := hidU (HF2.out.same (hg3.block X HF2.out.lt (fun e => HNE.out.1 (by injection e))))
              clear hp3 hg3 HC2 HU2 HF2 r1 r2 r3 HR2 HG2 HO
              have HE : Hid (Calls Tryd.prog 6 #[EV, .int .i64 K] w3 fun ev w' => ev = .returned (.bool true) ∧ told.Inv w3 w') := told_same HEV.out (HI.out.on HS3.out.bel).laid
              clear HEV
              go_wp2_with fail
              refine HE.out.mono ?_
              rintro e w4 ⟨rfl, i4⟩
              have HS4 := hidU (HS3.out.on i4.2)
              have HF4 := hidU (HF3.out.below i4.2)
              clear i4 HE HS3 HF3
              go_wp2_with fail
              go_meet
              case rel => exact ⟨rfl, _, HS4.out, HF4.out⟩
            · have b0 : (v0 == 0) = false := by simpa using k0
              have b1 : (v0 == 1) = false := by simpa using k1
              have b2 : (v0 == 2) = false := by simpa using k2
              have b3 : (v0 == 3) = false := by simpa using k3
              have HC1 := hidU (fun W (hW : RS W M ps) => rtrade_any M ps 0 0 v1 v2 v3 v4 W hW HP1.out.ok)
              have HC2 := hidU (fun W (hW : Pu 52 9 W P ps) => trade_any P ps 0 0 v1 v2 v3 v4 W hW HP1.out.ok)
              have HO := hidU (trade_ok HP1.out.ok v1 v2 v3 v4)
              obtain ⟨EV, hEV⟩ : ∃ x, x = errV (tradeE ps v1 v2 v3 v4) := ⟨_, rfl⟩
              rw [← hEV] at HC2
              have HEV := hidU hEV
              clear hEV
              generalize tradeE ps v1 v2 v3 v4 = K at *
              generalize tradeP ps v1 v2 v3 v4 = ps' at *
              have hR0 := heap_alloc_new W1 (.cells #[.int .i64 0, .int .i64 0, .int .i64 v1, .int .i64 v2, .int .i64 v3, .int .i64 v4] 40)
              have HB0 := hidU ((Below.refl _ W1).alloc (Nat.le_refl _) (.cells #[.int .i64 0, .int .i64 0, .int .i64 v1, .int .i64 v2, .int .i64 v3, .int .i64 v4] 40))
              obtain ⟨Y, hY⟩ : ∃ y, y = W1.heap.size := ⟨_, rfl⟩
              rw [← hY] at hR0
              have HY : Hid (Y ≠ P ∧ Y ≠ M) := ⟨by have := HP1.out.pu.lt; omega, by have := HP1.out.rs.lt; omega⟩
              have HPa := hidU (HP1.out.on HB0.out)
              have HFa := hidU (HRW.out.below HB0.out)
              go_upto_region 14 with fail
              simp only [← hY]
              generalize W1.alloc (.cells #[.int .i64 0, .int .i64 0, .int .i64 v1, .int .i64 v2, .int .i64 v3, .int .i64 v4] 40) = Wt at *
              have HRT := hidU hR0
              obtain ⟨y0, y1, y2, y3, y4, y5⟩ := row6 hR0
              clear hR0 hY HB0 r0 r1 r2 r3 r4 HP1 HRW
              go_wp2_with fail
              refine (HC1.out Wt HPa.out.rs).mono ?_
              rintro e w2 ⟨rfl, hr2, hg2⟩
              have HR2 := hidU hr2
              have HG2 := hidU hg2
              have HF2 := hidU (HFa.out.same (hg2.block X HFa.out.lt (fun e => HNE.out.2 (by injection e))))
              have HU2 := hidU (HPa.out.pu.keep hg2 (fun e => HPa.out.ne (by injection e with e; exact e.symm)))
              have hRT2 := (hg2.block Y (Array.getElem?_eq_some_iff.1 HRT.out).1 (fun e => HY.out.2 (by injection e))).trans HRT.out
              clear hr2 hg2 HC1 y0 y1 y2 y3 y4 y5 HRT
              obtain ⟨y0, y1, y2, y3, y4, y5⟩ := row6 hRT2
              clear hRT2
              go_wp2_with fail
              refine (HC2.out w2 HU2.out).mono ?_
              rintro e w3 ⟨rfl, hp3, hg3⟩
              have HS3 := hidU (HPa.out.step HO.out HR2.out HG2.out hp3 hg3)
              have HF3 := hidU (HF2.out.same (hg3.block X HF2.out.lt (fun e => HNE.out.1 (by injection e))))
              clear hp3 hg3 HC2 HU2 HF2 HR2 HG2 HO y0 y1 y2 y3 y4 y5
              have HE : Hid (Calls Tryd.prog 6 #[EV, .int .i64 K] w3 fun ev w' => ev = .returned (.bool true) ∧ told.Inv w3 w') := told_same HEV.out (HI.out.on HS3.out.bel).laid
              clear HEV
              go_wp2_with fail
              refine HE.out.mono ?_
              rintro e w4 ⟨rfl, i4⟩
              have HS4 := hidU (HS3.out.on i4.2)
              have HF4 := hidU (HF3.out.below i4.2)
              clear i4 HE HS3 HF3
              go_wp2_with fail
              go_meet
              case rel => exact ⟨rfl, _, HS4.out, HF4.out⟩
          case rest =>
          clear r0 r1 r2 r3 r4 HRW HP1
          obtain ⟨rfl, HA2⟩ := hcut
          obtain ⟨ps2, hA2, hF2⟩ := HA2.out
          have HP2 := hidU hA2
          have HF2 := hidU hF2
          have r1 : wc.cell? ⟨X, 1, none⟩ = some (.int .i64 v1) := (hF2.cell 1 (by omega)).1
          have HG1 := hidU (rget_any M ps2 v1 wc hA2.rs hA2.ok)
          have HG2 := hidU (fun W (hW : Pu 52 9 W P ps2) => get_any P ps2 v1 W hW)
          obtain ⟨EV, hEV⟩ : ∃ x, x = errV (rangeE (badW v1)) := ⟨_, rfl⟩
          rw [← hEV] at HG2
          have HEV := hidU hEV
          clear hEV
          generalize rangeE (badW v1) = K at *
          obtain ⟨zz, hzz⟩ : ∃ zz, getZ ps2 v1 = zz := ⟨_, rfl⟩
          rw [hzz] at HG1 HG2
          obtain ⟨z0, z1, z2, z3, z4⟩ := zz
          have HH1 : Hid (Calls Tryd.prog 14 #[.pointer (some ⟨M, 0, none⟩), .int .i64 v1] wc fun e w' => e = .returned (.tuple #[.agg #[.int .i64 z0, .int .i64 z1, .int .i64 z2, .int .i64 z3, .int .i64 z4], .int .i64 K]) ∧ Below wc.heap.size wc w') := HG1.out
          have HH2 : Hid (∀ W, Pu 52 9 W P ps2 → Calls Tryd.prog 15 #[.pointer (some ⟨P, 0, none⟩), .int .i64 v1] W fun e w' => e = .returned (.tuple #[.agg #[.int .i64 z0, .int .i64 z1, .int .i64 z2, .int .i64 z3, .int .i64 z4], EV]) ∧ Below W.heap.size W w') := HG2.out
          clear hA2 hF2 HA2 HG1 HG2 hzz
          go_wp2_with fail
          refine HH1.out.mono ?_
          rintro e w3 ⟨rfl, hb3⟩
          have HB3 := hidU (((Below.refl _ w3).alloc (Nat.le_refl _) (.cells #[.int .i64 z0, .int .i64 z1, .int .i64 z2, .int .i64 z3, .int .i64 z4] 26)))
          have HR3 := hidU (heap_alloc_new w3 (.cells #[.int .i64 z0, .int .i64 z1, .int .i64 z2, .int .i64 z3, .int .i64 z4] 26))
          have HP3 := hidU ((HP2.out.on hb3).on HB3.out)
          have HF3 := hidU ((HF2.out.below hb3).below HB3.out)
          clear hb3 HH1 HP2 HF2 r1
          go_upto_region 29 with fail
          obtain ⟨Y, hY⟩ : ∃ y, y = w3.heap.size := ⟨_, rfl⟩
          rw [← hY] at HR3
          simp only [← hY]
          clear hY HB3
          generalize w3.alloc (.cells #[.int .i64 z0, .int .i64 z1, .int .i64 z2, .int .i64 z3, .int .i64 z4] 26) = w4 at *
          have r1 : w4.cell? ⟨X, 1, none⟩ = some (.int .i64 v1) := (HF3.out.cell 1 (by omega)).1
          go_wp2_with fail
          refine (HH2.out w4 HP3.out.pu).mono ?_
          rintro e w5 ⟨rfl, hb5⟩
          have HB5 := hidU (((Below.refl _ w5).alloc (Nat.le_refl _) (.cells #[.int .i64 z0, .int .i64 z1, .int .i64 z2, .int .i64 z3, .int .i64 z4] 26)))
          have HR5 := hidU (heap_alloc_new w5 (.cells #[.int .i64 z0, .int .i64 z1, .int .i64 z2, .int .i64 z3, .int .i64 z4] 26))
          have HP5 := hidU ((HP3.out.on hb5).on HB5.out)
          have HY5 := hidU ((HB5.out.block Y (Nat.lt_of_lt_of_le (Array.getElem?_eq_some_iff.1 HR3.out).1 hb5.size)).trans ((hb5.block Y (Array.getElem?_eq_some_iff.1 HR3.out).1).trans HR3.out))
          clear hb5 HH2 HP3 HF3 r1 HR3
          go_upto_region 30 with fail
          obtain ⟨Z, hZ⟩ : ∃ y, y = w5.heap.size := ⟨_, rfl⟩
          rw [← hZ] at HR5
          simp only [← hZ]
          clear hZ HB5
          generalize w5.alloc (.cells #[.int .i64 z0, .int .i64 z1, .int .i64 z2, .int .i64 z3, .int .i64 z4] 26) = w6 at *
          have HE : Hid (Calls Tryd.prog 6 #[EV, .int .i64 K] w6 fun ev w' => ev = .returned (.bool true) ∧ told.Inv w6 w') := told_same HEV.out (HI.out.on HP5.out.bel).laid
          clear HEV
          go_wp2_with fail
          refine HE.out.mono ?_
          rintro e w7 ⟨rfl, i7⟩
          have HP7 := hidU (HP5.out.on i7.2)
          have HY7 := hidU ((i7.2.block Y (Array.getElem?_eq_some_iff.1 HY5.out).1).trans HY5.out)
          have HZ7 := hidU ((i7.2.block Z (Array.getElem?_eq_some_iff.1 HR5.out).1).trans HR5.out)
          clear i7 HE HP5 HY5 HR5
          go_wp2_with fail
          go_loopg [20, 21, 22] 10 (fun g3 s20 s21 s22 wi => ∃ (A : Nat) (a b : Int), 1 ≤ A ∧ A ≤ 10 ∧ 10 - A ≤ g3 ∧ s22 = .int .i64 (A : Int) ∧ s20 = .int .i64 a ∧ s21 = .int .i64 b ∧ wi = w7 ∧ Aside (sumC (ps2.take (A - 1)) = a ∧ sumS (ps2.take (A - 1)) = b))
          case atStart => exact ⟨1, 0, 0, by omega, by omega, by omega, rfl, rfl, rfl, rfl, rfl, rfl⟩
          case round =>
            obtain ⟨A, a, b, hA1, hA10, hg3, rfl, rfl, rfl, rfl, HB⟩ := hrel
            have HWW := HP7
            by_cases hlt : A ≤ 9
            · have hAz : (A : Int) ≤ 9 := by omega
              have a0 : ¬ (A : Int) < 0 := by omega
              have a9 : (A : Int) < 10 := by omega
              obtain ⟨-, -, x1, -, x3, -⟩ := HP7.out.rs.cells A hA1 hlt
              have hsm := sum_small HP7.out.ok (A - 1) (by omega)
              have hz := HP7.out.ok.all (A - 1) (by omega)
              have HNX : Hid (sumC (ps2.take A) = a + (ps2[A - 1]!).cash ∧ sumS (ps2.take A) = b + (ps2[A - 1]!).stock) := by
                have h1 := sumC_take ps2 (A - 1) (by rw [HP7.out.ok.len]; omega)
                have h2 := sumS_take ps2 (A - 1) (by rw [HP7.out.ok.len]; omega)
                rw [show A - 1 + 1 = A by omega, HB.out.1] at h1
                rw [show A - 1 + 1 = A by omega, HB.out.2] at h2
                exact ⟨h1, h2⟩
              rw [HB.out.1, HB.out.2] at hsm
              obtain ⟨-, z1, z2, z3, z4, z5, z6⟩ := hz
              generalize (ps2[A - 1]!).cash = X1 at *
              generalize (ps2[A - 1]!).stock = X3 at *
              have e1 : wrap64 (a + X1) = a + X1 := wrapP _ (by omega) (by omega)
              have e2 : wrap64 (b + X3) = b + X3 := wrapP _ (by clear e1; omega) (by clear e1; omega)
              have e3 : wrap64 ((A : Int) + 1) = (A : Int) + 1 := wrapP _ (by clear e1 e2; omega) (by clear e1 e2; omega)
              have HJ : Hid (1 ≤ A ∧ A ≤ 9 ∧ 10 - A ≤ gk) := ⟨hA1, hlt, hg3⟩
              clear HB hsm z1 z2 z3 z4 z5 z6 hA1 hA10 hg3 hlt HWW
              go_wp2_with fail
              go_roundg (10 - (A + 1))
              case measure => have := HJ.out; clear e1 e2 e3; omega
              case rel => exact ⟨A + 1, a + X1, b + X3, by omega, by have := HJ.out; clear e1 e2 e3; omega, Nat.le_refl _, by first | rfl | exact congrArg (Value.int .i64) e3, by first | rfl | exact congrArg (Value.int .i64) e1, by first | rfl | exact congrArg (Value.int .i64) e2, rfl, by rw [show A + 1 - 1 = A by omega]; exact HNX.out⟩
            · obtain rfl : A = 10 := by omega
              have hAz : ¬ ((10 : Nat) : Int) ≤ 9 := by omega
              have HEQ : Hid (sumC ps2 = a ∧ sumS ps2 = b) := by
                have h1 := HB.out
                rw [show 10 - 1 = 9 by rfl, List.take_of_length_le (by rw [HP7.out.ok.len]; exact Nat.le_refl _)] at h1
                exact h1
              have HT := hidU (total_any P ps2 wr HP7.out.pu HP7.out.ok)
              rw [HEQ.out.1, HEQ.out.2] at HT
              clear HB hA1 hA10 hg3 hlt HWW HEQ
              go_wp2_with fail
              refine HT.out.mono ?_
              rintro e w8 ⟨rfl, hb8⟩
              have HP8 := hidU (HP7.out.on hb8)
              obtain ⟨y0, y1, y2, y3, y4, -⟩ := row5 ((hb8.block Y (Array.getElem?_eq_some_iff.1 HY7.out).1).trans HY7.out)
              obtain ⟨x0, x1, x2, x3, x4, -⟩ := row5 ((hb8.block Z (Array.getElem?_eq_some_iff.1 HZ7.out).1).trans HZ7.out)
              clear hb8 HT HP7 HY7 HZ7
              have n1 : (a != a) = false := by simp
              have n2 : (b != b) = false := by simp
              have ek := succP kk (by have := HM.out; omega)
              go_wp2_with fail
              go_roundg (sn - (kk + 1))
              case measure => have := HM.out; clear ek; omega
              case rel => exact ⟨kk + 1, HM.out.1, by have := HM.out; clear ek; omega, Nat.le_refl _, by first | rfl | exact congrArg (Value.int .i64) ek, ps2, HP8.out⟩
end Go.Proofs.YthndnndejdckeaaDoor.pur
