/- The walk of PurseSums. -/
import Derived.Test.YtickbldofdcddaaPSPure
import Derived.Test.YtickbldofdcddaaPurArg
import Derived.Deep.CutBlock
namespace Go.Proofs.Ytickbldofdcddaa.pur
open Go.RowKit Go.Proofs.Ytickbldofdcddaa.spn Go.Proofs.Ytickbldofdcddaa.wak

/-- Purses of the call's own, and what they have together. -/
structure PI (w : World) (P : Nat) (c s : Int) (ps : List Pz) (wr : World) : Prop where
  ok : Ok ps
  pu : Pu 43 9 wr P ps
  le : w.heap.size ≤ P
  bel : Below w.heap.size w wr
  c : sumC ps = c
  s : sumS ps = s
section
variable {w wr w' : World} {P : Nat} {c s c' s' : Int} {ps ps' : List Pz}
theorem PI.to (h : PI w P c s ps wr) (ho : Ok ps') (hc : sumC ps' = c') (hs : sumS ps' = s') (hp : Pu 43 9 w' P ps') (hg : wr.grownBy w' (some P)) : PI w P c' s' ps' w' :=
  ⟨ho, hp, h.le, belG h.bel hg h.bel.size h.le, hc, hs⟩
theorem PI.on (h : PI w P c s ps wr) (hb : Below wr.heap.size wr w') : PI w P c s ps w' :=
  ⟨h.ok, h.pu.below hb, h.le, h.bel.trans (hb.mono h.bel.size), h.c, h.s⟩
end

set_option maxRecDepth 100000 in
set_option maxHeartbeats 8000000 in
theorem sums_walk (sq : Option Addr) (sn sc : Nat) (w : World) (hst : ST w sq sn) :
    Calls Try.prog 3 #[.slice sq sn sc] w fun e w' => e = .returned (.bool true) ∧ Below w.heap.size w w' := by
  have HST := hidU hst
  clear hst
  obtain ⟨f1, f2, f3, f4, f5, f6⟩ := one_facts
  have HF1 := hidU f1
  have HF2 := hidU f2
  have HF3 := hidU f3
  have HF4 := hidU f4
  have HF5 := hidU f5
  have HF6 := hidU f6
  clear f1 f2 f3 f4 f5 f6
  go_enter Try.func3, Try.ntmps3
  go_wp2_with fail
  refine (new_any w).mono ?_
  rintro e w1 ⟨rfl, hp1, hb1⟩
  obtain ⟨Q, hQ⟩ : ∃ Q, Q = w.heap.size := ⟨_, rfl⟩
  rw [← hQ] at hp1 ⊢
  have HQ : Hid (w.heap.size ≤ Q) := Nat.le_of_eq hQ.symm
  have H1 : Hid (Ok (newL 9) ∧ Pu 43 9 w1 Q (newL 9) ∧ Below w.heap.size w w1) := ⟨newL_ok, hp1, hb1⟩
  clear hp1 hb1 hQ
  have HC := hidU (pay_any Q (newL 9) 1 100 w1 H1.out.2.1 H1.out.1)
  rw [HF1.out] at HC
  go_wp2_with fail
  refine HC.out.mono ?_
  rintro e w2 ⟨rfl, hp, hg⟩
  have H2 : Hid (Ok one1 ∧ Pu 43 9 w2 Q one1 ∧ Below w.heap.size w w2) := ⟨pay_ok H1.out.1 1 100, hp, belG H1.out.2.2 hg H1.out.2.2.size HQ.out⟩
  clear hp hg HC H1
  have HC := hidU (give_any Q one1 2 5 w2 H2.out.2.1 H2.out.1)
  rw [HF2.out] at HC
  simp only [errV_zero]
  go_wp2_with fail
  refine HC.out.mono ?_
  rintro e w3 ⟨rfl, hp, hg⟩
  have H3 : Hid (Ok one2 ∧ Pu 43 9 w3 Q one2 ∧ Below w.heap.size w w3) := ⟨give_ok H2.out.1 2 5, hp, belG H2.out.2.2 hg H2.out.2.2.size HQ.out⟩
  clear hp hg HC H2
  have HC := hidU (hold_any Q one2 1 60 0 w3 H3.out.2.1 H3.out.1)
  rw [HF3.out] at HC
  simp only [errV_zero]
  go_wp2_with fail
  refine HC.out.mono ?_
  rintro e w4 ⟨rfl, hp, hg⟩
  have H4 : Hid (Ok one3 ∧ Pu 43 9 w4 Q one3 ∧ Below w.heap.size w w4) := ⟨hold_ok H3.out.1 1 60 0, hp, belG H3.out.2.2 hg H3.out.2.2.size HQ.out⟩
  clear hp hg HC H3
  have HC := hidU (hold_any Q one3 2 0 3 w4 H4.out.2.1 H4.out.1)
  rw [HF4.out] at HC
  simp only [errV_zero]
  go_wp2_with fail
  refine HC.out.mono ?_
  rintro e w5 ⟨rfl, hp, hg⟩
  have H5 : Hid (Ok one4 ∧ Pu 43 9 w5 Q one4 ∧ Below w.heap.size w w5) := ⟨hold_ok H4.out.1 2 0 3, hp, belG H4.out.2.2 hg H4.out.2.2.size HQ.out⟩
  clear hp hg HC H4
  have HC := hidU (trade_any Q one4 0 0 2 1 20 3 w5 H5.out.2.1 H5.out.1)
  rw [HF5.out] at HC
  simp only [errV_zero]
  go_wp2_with fail
  refine HC.out.mono ?_
  rintro e w6 ⟨rfl, hp, hg⟩
  have H6 : Hid (Pu 43 9 w6 Q one5 ∧ Below w.heap.size w w6) := ⟨hp, belG H5.out.2.2 hg H5.out.2.2.size HQ.out⟩
  clear hp hg HC H5
  have HC := hidU (get_any Q one5 1 w6 H6.out.1)
  rw [HF6.out] at HC
  have HG : Hid (Calls Try.prog 9 #[.pointer (some ⟨Q, 0, none⟩), .int .i64 1] w6 fun e w' => e = .returned (.tuple #[.agg #[.int .i64 1, .int .i64 40, .int .i64 0, .int .i64 3, .int .i64 0], .nilIface]) ∧ Below w6.heap.size w6 w') := HC.out
  clear HC HF1 HF2 HF3 HF4 HF5 HF6
  simp only [errV_zero]
  go_wp2_with fail
  refine HG.out.mono ?_
  rintro e w7 ⟨rfl, hb7⟩
  have HB7 := hidU (H6.out.2.trans (hb7.mono H6.out.2.size))
  have HB8 := hidU (HB7.out.alloc HB7.out.size (.cells #[.int .i64 1, .int .i64 40, .int .i64 0, .int .i64 3, .int .i64 0] 33))
  clear hb7 H6 HG
  go_wp2_with fail
  generalize w7.alloc (.cells #[.int .i64 1, .int .i64 40, .int .i64 0, .int .i64 3, .int .i64 0] 33) = w8 at *
  refine (new_any w8).mono ?_
  rintro e w9 ⟨rfl, hp9, hb9⟩
  obtain ⟨P, hP⟩ : ∃ P, P = w8.heap.size := ⟨_, rfl⟩
  rw [← hP] at hp9 ⊢
  have H9 : Hid (PI w P 0 0 (newL 9) w9) := ⟨newL_ok, hp9, (by rw [hP]; exact HB8.out.size), HB8.out.trans (hb9.mono HB8.out.size), sum_new.1, sum_new.2⟩
  clear hp9 hb9 hP HB7 HB8 HQ
  go_wp2_with fail
  go_loopg [7, 8, 9] sn (fun gg s7 s8 s9 wr => ∃ (kk : Nat) (c s : Int), kk ≤ sn ∧ kk ≤ 60 ∧ sn - kk ≤ gg ∧ s9 = .int .i64 kk ∧ s7 = .int .i64 c ∧ s8 = .int .i64 s ∧ Aside (∃ ps, PI w P c s ps wr))
  case atStart => exact ⟨0, 0, 0, Nat.zero_le _, by omega, by omega, rfl, rfl, rfl, _, H9.out⟩
  case round =>
    clear H9
    obtain ⟨kk, c, s, hkk, hk60, hg, rfl, rfl, rfl, HA⟩ := hrel
    by_cases hlt : kk < sn ∧ kk < 60
    rotate_left
    · have hend : Hid (((kk : Int) < (sn : Int) ∧ ¬ (kk : Int) < 60) ∨ ¬ (kk : Int) < (sn : Int)) := by
        show _ ∨ _
        by_cases h1 : kk < sn
        · exact .inl ⟨by omega, by omega⟩
        · exact .inr (by omega)
      obtain ⟨ps, hA⟩ := HA.out
      have HBF := hidU hA.bel
      clear HA hlt hA
      rcases hend.out with ⟨e1, e2⟩ | e1
      · go_wp2_with fail
        go_ret
        exact ⟨rfl, HBF.out⟩
      · go_wp2_with fail
        go_ret
        exact ⟨rfl, HBF.out⟩
    · obtain ⟨hlt, hl6⟩ := hlt
      have hltz : (kk : Int) < (sn : Int) := by omega
      have hl6z : (kk : Int) < 60 := by omega
      have hin1 : ¬ ((kk : Int) < 0) := by omega
      have HM : Hid (kk < sn ∧ kk < 60 ∧ sn - kk ≤ gk) := ⟨hlt, hl6, hg⟩
      obtain ⟨sg, so, rfl, hcells⟩ := HST.out.2 (by omega)
      obtain ⟨iq, im, ic, zs, hcell, hile⟩ := hcells kk hlt
      have HCL := hidU hcell
      have HIL := hidU hile
      obtain ⟨ps, hA⟩ := HA.out
      have HPI := hidU hA
      clear hcells hcell hile HA hA hlt hl6 hg hkk hk60
      obtain ⟨W0, hW0⟩ : ∃ W0, W0 = wr := ⟨_, rfl⟩
      rw [← hW0] at HPI
      rw [← hW0]
      clear hW0
      have hrA : Five 36 (W0.alloc (.cells #[.int .i64 0, .int .i64 0, .int .i64 0, .int .i64 0, .int .i64 0] 36)) W0.heap.size [0, 0, 0, 0, 0] := ⟨rfl, heap_alloc_new W0 _⟩
      have HBA0 := hidU ((Below.refl _ W0).alloc (Nat.le_refl _) (.cells #[.int .i64 0, .int .i64 0, .int .i64 0, .int .i64 0, .int .i64 0] 36))
      go_wp2_with fail
      generalize W0.alloc (.cells #[.int .i64 0, .int .i64 0, .int .i64 0, .int .i64 0, .int .i64 0] 36) = Wa at *
      obtain ⟨X, hX⟩ : ∃ X, X = W0.heap.size := ⟨_, rfl⟩
      rw [← hX] at hrA
      simp only [← hX]
      have HX := hidU (show W0.heap.size ≤ X by rw [hX]; exact Nat.le_refl _)
      clear hX
      have HRA := hidU hrA
      clear hrA
      go_loopg [11] 5 (fun g2 s11 wi => ∃ (j : Nat) (vs : List Int), j ≤ 5 ∧ 5 - j ≤ g2 ∧ s11 = .int .i64 j ∧ Aside (Five 36 wi X vs ∧ Below W0.heap.size W0 wi))
      case atStart => exact ⟨0, _, by omega, by omega, rfl, HRA.out, HBA0.out⟩
      case round =>
        obtain ⟨j, vs, hj5, hg2, rfl, HB⟩ := hrel
        have t0 := keeps (HPI.out.bel.trans (HB.out.2.mono HPI.out.bel.size)) HCL.out
        have HIW := hidU (HIL.out.below (HPI.out.bel.trans (HB.out.2.mono HPI.out.bel.size)))
        by_cases hjm : j < im ∧ j < 5
        · obtain ⟨hjm, hj5'⟩ := hjm
          have hjmz : (j : Int) < (im : Int) := by omega
          have hj5z : (j : Int) < 5 := by omega
          have hj0 : ¬ ((j : Int) < 0) := by omega
          obtain ⟨ig, io, rfl, icel⟩ := HIW.out.2 (by omega)
          have u0 := icel j hjm
          generalize zs[j]! = z at u0
          obtain ⟨r0, rf⟩ := HB.out.1.cell j hj5'
          generalize vs[j]! = old at r0
          have HST2 := hidU (HB.out.1.set j z)
          have HBS := hidU (HB.out.2.setCell (p := ⟨X, j, none⟩) HX.out (.int .i64 z))
          have HJ : Hid (j < 5 ∧ 5 - j ≤ gk) := ⟨hj5', hg2⟩
          have ej := succP j (by omega)
          have ej2 : wrap64 ((j : Int) + 1) = (j : Int) + 1 := wrapP _ (by clear ej; omega) (by clear ej; omega)
          clear icel HB hjm hj5 hg2 hj5' ej
          go_wp2_with fail
          go_roundg (5 - (j + 1))
          case measure => have := HJ.out; clear ej2; omega
          case rel => exact ⟨j + 1, _, HJ.out.1, Nat.le_refl _, by first | rfl | exact congrArg (Value.int .i64) ej2, HST2.out, HBS.out⟩
        · have hend : Hid (((j : Int) < (im : Int) ∧ ¬ (j : Int) < 5) ∨ ¬ (j : Int) < (im : Int)) := by
            show _ ∨ _
            by_cases h1 : j < im
            · exact .inl ⟨by omega, by omega⟩
            · exact .inr (by omega)
          have HRW := hidU HB.out.1
          have HP1 := hidU (HPI.out.on HB.out.2)
          clear HB hjm hg2 hj5 HIW
          obtain ⟨W1, hW1⟩ : ∃ W1, W1 = wr := ⟨_, rfl⟩
          rw [← hW1] at HRW HP1 t0
          rw [← hW1]
          clear hW1
          go_upto_region 15 with fail
          go_cut [85] from 75 to 85 (fun s85 wx => s85 = .bool false ∧ wx = W1)
          case first =>
            rcases hend.out with ⟨e1, e2⟩ | e1
            · go_wp2_with fail
              go_meet
              case rel => exact ⟨rfl, rfl⟩
            · go_wp2_with fail
              go_meet
              case rel => exact ⟨rfl, rfl⟩
          case rest =>
          obtain ⟨rfl, rfl⟩ := hcut
          generalize wc = W1 at *
          clear t0 hend HBA0 HRA HPI HCL HIL
          obtain ⟨v0, v1, v2, v3, v4, rfl⟩ := five_of HRW.out.1
          have r0 := (HRW.out.cell 0 (by omega)).1
          have r1 := (HRW.out.cell 1 (by omega)).1
          have r2 := (HRW.out.cell 2 (by omega)).1
          have r3 := (HRW.out.cell 3 (by omega)).1
          have r4 := (HRW.out.cell 4 (by omega)).1
          change W1.cell? ⟨X, 0, none⟩ = some (.int .i64 v0) at r0
          change W1.cell? ⟨X, 1, none⟩ = some (.int .i64 v1) at r1
          change W1.cell? ⟨X, 2, none⟩ = some (.int .i64 v2) at r2
          change W1.cell? ⟨X, 3, none⟩ = some (.int .i64 v3) at r3
          change W1.cell? ⟨X, 4, none⟩ = some (.int .i64 v4) at r4
          go_upto_block 4 with fail
          have HNE : Hid (X ≠ P) := fun e => by
            have h1 := HP1.out.pu.2
            rw [← e, HRW.out.2] at h1
            injection h1 with h1
            injection h1 with h1 h2 h3
            exact absurd h2 (by decide)
          go_cut [7, 8] from 99 to 155 (fun s7 s8 wx => ∃ c s, s7 = .int .i64 c ∧ s8 = .int .i64 s ∧ Aside (∃ ps, PI w P c s ps wx))
          case first =>
            by_cases k0 : v0 = 0
            · subst k0
              have HC := hidU (pay_any P ps v1 v2 W1 HP1.out.pu HP1.out.ok)
              have HO := hidU (pay_ok HP1.out.ok v1 v2)
              have HS := hidU (pay_sum HP1.out.ok v1 v2)
              by_cases hE : payE ps v1 v2 = 0
              · have hbd : 1 ≤ v2 ∧ v2 ≤ 1000000000 := by
                  unfold payE at hE
                  by_cases hb : badG v1 v2 = true
                  · rw [if_pos hb] at hE; omega
                  · have := badG_no (by simpa using hb : badG v1 v2 = false)
                    exact ⟨this.2.2.1, this.2.2.2⟩
                have hall := sum_all HP1.out.ok
                rw [HP1.out.c, HP1.out.s] at hall
                have hw : wrap64 (c + v2) = c + v2 := wrapP _ (by omega) (by omega)
                rw [hE, errV_zero] at HC
                rw [if_pos hE, HP1.out.c, HP1.out.s] at HS
                clear hE hbd hall
                go_wp2_with fail
                refine HC.out.mono ?_
                rintro e w2 ⟨rfl, hp, hg⟩
                have HN := hidU (HP1.out.to HO.out HS.out.1 HS.out.2 hp hg)
                have q2 := (HRW.out.same (hg.block X HRW.out.lt (fun e => HNE.out (by injection e)))).cell 2 (by omega)
                have q2' : w2.cell? ⟨X, 2, none⟩ = some (.int .i64 v2) := q2.1
                clear hp hg HC HO HS q2 r0 r1 r2 r3 r4
                go_wp2_with fail
                go_meet
                case rel => exact ⟨_, _, by first | rfl | exact congrArg (Value.int .i64) hw, by first | rfl | exact congrArg (Value.int .i64) hw, _, HN.out⟩
              · rw [errV_of hE] at HC
                rw [if_neg hE, HP1.out.c, HP1.out.s, Int.add_zero] at HS
                generalize payE ps v1 v2 = K at *
                clear hE
                go_wp2_with fail
                refine HC.out.mono ?_
                rintro e w2 ⟨rfl, hp, hg⟩
                have HN := hidU (HP1.out.to HO.out HS.out.1 HS.out.2 hp hg)
                clear hp hg HC HO HS r0 r1 r2 r3 r4
                go_wp2_with fail
                go_meet
                case rel => exact ⟨_, _, rfl, rfl, _, HN.out⟩
            by_cases k1 : v0 = 1
            · subst k1
              have HC := hidU (give_any P ps v1 v2 W1 HP1.out.pu HP1.out.ok)
              have HO := hidU (give_ok HP1.out.ok v1 v2)
              have HS := hidU (give_sum HP1.out.ok v1 v2)
              by_cases hE : giveE ps v1 v2 = 0
              · have hbd : 1 ≤ v2 ∧ v2 ≤ 1000000000 := by
                  unfold giveE at hE
                  by_cases hb : badG v1 v2 = true
                  · rw [if_pos hb] at hE; omega
                  · have := badG_no (by simpa using hb : badG v1 v2 = false)
                    exact ⟨this.2.2.1, this.2.2.2⟩
                have hall := sum_all HP1.out.ok
                rw [HP1.out.c, HP1.out.s] at hall
                have hw : wrap64 (s + v2) = s + v2 := wrapP _ (by omega) (by omega)
                rw [hE, errV_zero] at HC
                rw [if_pos hE, HP1.out.c, HP1.out.s] at HS
                clear hE hbd hall
                go_wp2_with fail
                refine HC.out.mono ?_
                rintro e w2 ⟨rfl, hp, hg⟩
                have HN := hidU (HP1.out.to HO.out HS.out.1 HS.out.2 hp hg)
                have q2 := (HRW.out.same (hg.block X HRW.out.lt (fun e => HNE.out (by injection e)))).cell 2 (by omega)
                have q2' : w2.cell? ⟨X, 2, none⟩ = some (.int .i64 v2) := q2.1
                clear hp hg HC HO HS q2 r0 r1 r2 r3 r4
                go_wp2_with fail
                go_meet
                case rel => exact ⟨_, _, by first | rfl | exact congrArg (Value.int .i64) hw, by first | rfl | exact congrArg (Value.int .i64) hw, _, HN.out⟩
              · rw [errV_of hE] at HC
                rw [if_neg hE, HP1.out.c, HP1.out.s, Int.add_zero] at HS
                generalize giveE ps v1 v2 = K at *
                clear hE
                go_wp2_with fail
                refine HC.out.mono ?_
                rintro e w2 ⟨rfl, hp, hg⟩
                have HN := hidU (HP1.out.to HO.out HS.out.1 HS.out.2 hp hg)
                clear hp hg HC HO HS r0 r1 r2 r3 r4
                go_wp2_with fail
                go_meet
                case rel => exact ⟨_, _, rfl, rfl, _, HN.out⟩
            by_cases k2 : v0 = 2
            · subst k2
              have HC := hidU (hold_any P ps v1 v2 v3 W1 HP1.out.pu HP1.out.ok)
              have HO := hidU (hold_ok HP1.out.ok v1 v2 v3)
              have HS := hidU (hold_sum HP1.out.ok v1 v2 v3)
              rw [HP1.out.c, HP1.out.s] at HS
              generalize errV (holdE ps v1 v2 v3) = EV at HC
              go_wp2_with fail
              refine HC.out.mono ?_
              rintro e w2 ⟨rfl, hp, hg⟩
              have HN := hidU (HP1.out.to HO.out HS.out.1 HS.out.2 hp hg)
              clear hp hg HC HO HS r0 r1 r2 r3 r4
              go_wp2_with fail
              go_meet
              case rel => exact ⟨_, _, rfl, rfl, _, HN.out⟩
            by_cases k3 : v0 = 3
            · subst k3
              have HC := hidU (free_any P ps v1 v2 v3 W1 HP1.out.pu HP1.out.ok)
              have HO := hidU (free_ok HP1.out.ok v1 v2 v3)
              have HS := hidU (free_sum HP1.out.ok v1 v2 v3)
              rw [HP1.out.c, HP1.out.s] at HS
              generalize errV (freeE ps v1 v2 v3) = EV at HC
              go_wp2_with fail
              refine HC.out.mono ?_
              rintro e w2 ⟨rfl, hp, hg⟩
              have HN := hidU (HP1.out.to HO.out HS.out.1 HS.out.2 hp hg)
              clear hp hg HC HO HS r0 r1 r2 r3 r4
              go_wp2_with fail
              go_meet
              case rel => exact ⟨_, _, rfl, rfl, _, HN.out⟩
            · have b0 : (v0 == 0) = false := by simpa using k0
              have b1 : (v0 == 1) = false := by simpa using k1
              have b2 : (v0 == 2) = false := by simpa using k2
              have b3 : (v0 == 3) = false := by simpa using k3
              have HC := hidU (trade_any P ps 0 0 v1 v2 v3 v4 W1 HP1.out.pu HP1.out.ok)
              have HO := hidU (trade_ok HP1.out.ok v1 v2 v3 v4)
              have HS := hidU (trade_sum HP1.out.ok v1 v2 v3 v4)
              rw [HP1.out.c, HP1.out.s] at HS
              generalize errV (tradeE ps v1 v2 v3 v4) = EV at HC
              go_wp2_with fail
              refine HC.out.mono ?_
              rintro e w2 ⟨rfl, hp, hg⟩
              have HN := hidU (HP1.out.to HO.out HS.out.1 HS.out.2 hp hg)
              clear hp hg HC HO HS r0 r1 r2 r3 r4
              go_wp2_with fail
              go_meet
              case rel => exact ⟨_, _, rfl, rfl, _, HN.out⟩
          case rest =>
          clear r0 r1 r2 r3 r4 HNE HRW HP1
          obtain ⟨c2, s2, rfl, rfl, HA2⟩ := hcut
          obtain ⟨ps2, hA2⟩ := HA2.out
          have HP2 := hidU hA2
          have HT := hidU (total_any P ps2 wc hA2.pu hA2.ok)
          rw [hA2.c, hA2.s] at HT
          clear hA2 HA2
          go_wp2_with fail
          refine HT.out.mono ?_
          rintro e w3 ⟨rfl, hb3⟩
          have HP3 := hidU (HP2.out.on hb3)
          clear hb3 HT HP2
          have z1 : (c2 != c2) = false := by simp
          have z2 : (s2 != s2) = false := by simp
          go_wp2_with fail
          go_loopg [14] 9 (fun g3 s14 wi => ∃ j : Nat, j ≤ 9 ∧ 9 - j ≤ g3 ∧ s14 = .int .i64 ((j : Int) + 1) ∧ Aside (PI w P c2 s2 ps2 wi))
          case atStart => exact ⟨0, by omega, by omega, rfl, HP3.out⟩
          case round =>
            clear HP3
            obtain ⟨j, hj9, hg3, rfl, HB⟩ := hrel
            by_cases hj : j < 9
            · have hjz : (j : Int) + 1 ≤ 9 := by omega
              have HG := hidU (get_any P ps2 ((j : Int) + 1) wr HB.out.pu)
              have hbw : badW ((j : Int) + 1) = false := by
                cases hb : badW ((j : Int) + 1) with
                | false => rfl
                | true => simp [badW, spanB] at hb; omega
              have hgz : getZ ps2 ((j : Int) + 1) = ps2[j]! := by unfold getZ; rw [hbw, ix_is]; rfl
              obtain ⟨y0, y1, y2, y3, y4, y5, y6⟩ := HB.out.ok.all j hj
              rw [hgz, hbw] at HG
              obtain ⟨zz, hzz⟩ : ∃ zz, ps2[j]! = zz := ⟨_, rfl⟩
              rw [hzz] at HG y0 y1 y2 y3 y4 y5 y6
              obtain ⟨x0, x1, x2, x3, x4⟩ := zz
              dsimp only at y0 y1 y2 y3 y4 y5 y6
              have HG2 : Hid (Calls Try.prog 9 #[.pointer (some ⟨P, 0, none⟩), .int .i64 ((j : Int) + 1)] wr fun e w' => e = .returned (.tuple #[.agg #[.int .i64 x0, .int .i64 x1, .int .i64 x2, .int .i64 x3, .int .i64 x4], .nilIface]) ∧ Below wr.heap.size wr w') := HG.out
              have b1 : ¬ x2 < 0 := by omega
              have b2 : ¬ x4 < 0 := by omega
              have b3 : ¬ x1 < x2 := by omega
              have b4 : ¬ x3 < x4 := by omega
              have b5 : (x0 != (j : Int) + 1) = false := by simp [y0]
              have HJ : Hid (j < 9 ∧ 9 - j ≤ gk) := ⟨hj, hg3⟩
              have HPB := hidU HB.out
              have ej : wrap64 ((j : Int) + 1 + 1) = (j : Int) + 1 + 1 := wrapP _ (by omega) (by omega)
              clear HG hbw hgz hzz y0 y1 y2 y3 y4 y5 y6 HB hj hg3 hj9
              go_wp2_with fail
              refine HG2.out.mono ?_
              rintro e w4 ⟨rfl, hb4⟩
              have HP4 := hidU (HPB.out.on hb4)
              have HP5 := hidU (HP4.out.on ((Below.refl _ w4).alloc (Nat.le_refl _) (.cells #[.int .i64 x0, .int .i64 x1, .int .i64 x2, .int .i64 x3, .int .i64 x4] 33)))
              clear hb4 HG2 HP4 HPB
              go_wp2_with fail
              go_roundg (9 - (j + 1))
              case measure => have := HJ.out; clear ej; omega
              case rel => exact ⟨j + 1, HJ.out.1, Nat.le_refl _, by first | rfl | exact congrArg (Value.int .i64) ej, HP5.out⟩
            · obtain rfl : j = 9 := by omega
              have hjz : ¬ ((9 : Nat) : Int) + 1 ≤ 9 := by omega
              have HPF := hidU HB.out
              have ek := succP kk (by have := HM.out; omega)
              clear HB hj hg3 hj9
              go_wp2_with fail
              go_roundg (sn - (kk + 1))
              case measure => have := HM.out; clear ek; omega
              case rel => exact ⟨kk + 1, c2, s2, HM.out.1, by have := HM.out; clear ek; omega, Nat.le_refl _, by first | rfl | exact congrArg (Value.int .i64) ek, rfl, rfl, ps2, HPF.out⟩
end Go.Proofs.Ytickbldofdcddaa.pur
