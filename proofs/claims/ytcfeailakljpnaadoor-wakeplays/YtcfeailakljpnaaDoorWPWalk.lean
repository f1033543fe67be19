/- The walk of WakePlays. -/
import Derived.Test.YtcfeailakljpnaaDoorWPInv
import Derived.Test.YtcfeailakljpnaaDoorWakRW
import Derived.Test.YtcfeailakljpnaaDoorWPArg
namespace Go.Proofs.YtcfeailakljpnaaDoor.wak
open Go.RowKit Go.Proofs.YtcfeailakljpnaaDoor.ord
open Go.Proofs.YtcfeailakljpnaaDoor.spn (keeps bcell)

theorem set2 {w : World} {B : Nat} {y0 y1 : Value} {t : TypeId} (h : w.heap[B]? = some (.cells #[y0, y1] t (0, 0))) (x : Value) :
    (w.setCell ⟨B, 0, none⟩ x).heap[B]? = some (.cells #[x, y1] t (0, 0)) ∧ (w.setCell ⟨B, 1, none⟩ x).heap[B]? = some (.cells #[y0, x] t (0, 0)) :=
  ⟨heap_setCell_same w B 0 _ _ x h, heap_setCell_same w B 1 _ _ x h⟩
theorem row2 {w : World} {B : Nat} {x0 x1 : Value} {t : TypeId} (h : w.heap[B]? = some (.cells #[x0, x1] t (0, 0))) :
    w.cell? ⟨B, 0, none⟩ = some x0 ∧ w.cell? ⟨B, 1, none⟩ = some x1 ∧ ∀ j, w.frozen? ⟨B, j, none⟩ = false :=
  ⟨by simp [World.cell?, h], by simp [World.cell?, h], fun j => frozen_of_row w _ j _ _ h⟩
theorem rem_facts {kk ln md : Nat} (hmd : md = kk % ln) (hlt : md < ln) (hb : ln ≤ 9223372036854775807) : ((kk : Int).tmod (ln : Int)) = (md : Int) ∧ wrap64 ((kk : Int).tmod (ln : Int)) = (md : Int) ∧ IntKind.i64.wrap ((kk : Int).tmod (ln : Int)) = (md : Int) := by
  have e : ((kk : Int).tmod (ln : Int)) = (md : Int) := by
    rw [Int.tmod_eq_emod_of_nonneg (by omega), hmd]
    first | exact (Int.natCast_emod kk ln).symm | exact (Int.ofNat_emod kk ln).symm | simp
  clear hmd
  rw [e]
  refine ⟨rfl, ?_, ?_⟩
  · unfold wrap64; omega
  · rw [IntKind.wrap_i64]; omega
theorem ILe.below {w w' : World} {q : Option Addr} {m : Nat} {zs : List Int} (h : ILe w q m zs) (hB : Below w.heap.size w w') : ILe w' q m zs :=
  ⟨h.1, fun hm => by obtain ⟨g, off, e, hc⟩ := h.2 hm; exact ⟨g, off, e, fun j hj => keeps hB (hc j hj)⟩⟩

set_option maxRecDepth 100000 in
set_option maxHeartbeats 16000000 in
theorem plays_walk (lq : Option Addr) (ln lc : Nat) (l : List O) (sq : Option Addr) (sn sc : Nat) (w : World) (hL : told.Laid w) (hl : SL w (.slice lq ln lc) l) (hln : ln = l.length) (hbig : ln ≤ 9223372036854775807) (hst : ST w sq sn) :
    Calls Tryd.prog 3 #[.slice lq ln lc, .slice sq sn sc] w fun e w' => e = .returned (.bool true) ∧ Below w.heap.size w w' := by
  have HL0 := hidP hL
  have HSL := hidP hl
  have HLN := hidP hln
  have HBIG := hidP hbig
  have HST := hidP hst
  clear hL hl hln hbig hst
  go_enter Tryd.func3, Tryd.ntmps3
  go_wp2_with fail
  refine (new_any w).mono ?_
  rintro e w1 ⟨rfl, hs1, hb1⟩
  obtain ⟨p, hp⟩ : ∃ p, p = w.heap.size := ⟨_, rfl⟩
  rw [← hp] at hs1 ⊢
  have HP0 : Hid (PI w w1 p (.slice none 0 0) (.slice none 0 0) []) := ⟨hs1, ⟨rfl, .inl ⟨rfl, rfl⟩⟩, (fun k e => by cases e), good_nil, hb1, (by rw [hp]; exact Nat.le_refl _)⟩
  clear hs1 hb1 hp
  go_wp2_with fail
  go_loopg [6, 7] sn (fun gg s6 s7 wr => ∃ (kk : Nat) (v : Value) (q : Option Addr) (n c : Nat) (os : List O), kk ≤ sn ∧ kk ≤ 60 ∧ sn - kk ≤ gg ∧ s7 = .int .i64 kk ∧ s6 = .slice q n c ∧ Aside (PI w wr p v (.slice q n c) os))
  case atStart => exact ⟨0, _, none, 0, 0, [], Nat.zero_le _, by omega, by omega, rfl, rfl, HP0.out⟩
  case round =>
    obtain ⟨kk, v, q, n, c, os, hkk, hk60, hg, rfl, rfl, HA⟩ := hrel
    by_cases hlt : kk < sn ∧ kk < 60
    rotate_left
    · have hend : Hid (((kk : Int) < (sn : Int) ∧ ¬ (kk : Int) < 60) ∨ ¬ (kk : Int) < (sn : Int)) := by
        show _ ∨ _
        by_cases h1 : kk < sn
        · exact .inl ⟨by omega, by omega⟩
        · exact .inr (by omega)
      have HBF := hidP HA.out.bel
      clear HA hlt
      rcases hend.out with ⟨e1, e2⟩ | e1
      · go_wp2_with fail
        go_ret
        exact ⟨rfl, HBF.out⟩
      · go_wp2_with fail
        go_ret
        exact ⟨rfl, HBF.out⟩
    · obtain ⟨hlt, hl6⟩ := hlt
      have hltz : (kk : Int) < (sn : Int) := by omega
      have hl6z : (kk : Int) < 60 := by omega
      have hin1 : ¬ ((kk : Int) < 0) := by omega
      have HES := hidP (show wrap64 ((kk : Int) + 1) = ((kk + 1 : Nat) : Int) by unfold wrap64; omega)
      obtain ⟨sg, so, rfl, hcells⟩ := HST.out.2 (by omega)
      obtain ⟨iq, im, ic, zs, hcell, hile⟩ := hcells kk hlt
      have HCL := hidP hcell
      have HIL := hidP hile
      have HPI := hidP HA.out
      have HON := hidP (show n = os.length by
        obtain ⟨q', c', e⟩ := OwnQ.form HA.out.own
        cases e; rfl)
      clear hcells hcell hile HA
      obtain ⟨W0, hW0⟩ : ∃ W0, W0 = wr := ⟨_, rfl⟩
      rw [← hW0] at HPI
      rw [← hW0]
      clear hW0
      have hrA := heap_alloc_new W0 (.cells #[.int .i64 0, .int .i64 0] 26)
      have HBA0 := hidP ((Below.refl _ W0).alloc (Nat.le_refl _) (.cells #[.int .i64 0, .int .i64 0] 26))
      go_wp2_with fail
      generalize W0.alloc (.cells #[.int .i64 0, .int .i64 0] 26) = Wa at *
      obtain ⟨X8, hX8⟩ : ∃ X8, X8 = W0.heap.size := ⟨_, rfl⟩
      rw [← hX8] at hrA
      simp only [← hX8]
      have HX8 := hidP (show W0.heap.size ≤ X8 by rw [hX8]; exact Nat.le_refl _)
      clear hX8
      have HRA := hidP hrA
      clear hrA
      go_loopg [9] 2 (fun g2 s9 wi => ∃ (j : Nat) (c0 c1 : Int), j ≤ 2 ∧ 2 - j ≤ g2 ∧ s9 = .int .i64 j ∧ Aside (wi.heap[X8]? = some (.cells #[.int .i64 c0, .int .i64 c1] 26 (0, 0)) ∧ Below W0.heap.size W0 wi))
      case atStart => exact ⟨0, 0, 0, by omega, by omega, rfl, HRA.out, HBA0.out⟩
      case round =>
        obtain ⟨j, c0, c1, hj2, hg2, rfl, HB⟩ := hrel
        have t0 := keeps (HPI.out.bel.trans (HB.out.2.mono HPI.out.bel.size)) HCL.out
        have HIW := hidP (HIL.out.below (HPI.out.bel.trans (HB.out.2.mono HPI.out.bel.size)))
        obtain ⟨r0, r1, rf⟩ := row2 HB.out.1
        by_cases hjm : j < im ∧ j < 2
        · obtain ⟨hjm, hj2'⟩ := hjm
          have hjmz : (j : Int) < (im : Int) := by omega
          have hj2z : (j : Int) < 2 := by omega
          have hj0 : ¬ ((j : Int) < 0) := by omega
          obtain ⟨ig, io, rfl, icel⟩ := HIW.out.2 (by omega)
          have u0 := icel j hjm
          generalize zs[j]! = z at u0
          have HST2 := hidP (set2 HB.out.1 (.int .i64 z))
          have HBS := hidP (fun o => HB.out.2.setCell (p := ⟨X8, o, none⟩) HX8.out (.int .i64 z))
          have rf0 := rf 0
          have rf1 := rf 1
          clear icel rf
          rcases (show j = 0 ∨ j = 1 by omega) with rfl | rfl
          · simp only [Nat.add_zero] at u0
            go_wp2_with fail
            go_roundg 1
            case measure => omega
            case rel => exact ⟨1, z, c1, by omega, by omega, rfl, HST2.out.1, HBS.out 0⟩
          · go_wp2_with fail
            go_roundg 0
            case measure => omega
            case rel => exact ⟨2, c0, z, by omega, by omega, rfl, HST2.out.2, HBS.out 1⟩
        · have hend : Hid (((j : Int) < (im : Int) ∧ ¬ (j : Int) < 2) ∨ ¬ (j : Int) < (im : Int)) := by
            show _ ∨ _
            by_cases h1 : j < im
            · exact .inl ⟨by omega, by omega⟩
            · exact .inr (by omega)
          have HRW := hidP HB.out.1
          have HP1 := hidP (HPI.out.below HB.out.2)
          clear HB hjm hg2 hj2 rf r0 r1 HIW
          obtain ⟨W1, hW1⟩ : ∃ W1, W1 = wr := ⟨_, rfl⟩
          rw [← hW1] at HRW HP1 t0
          rw [← hW1]
          clear hW1
          go_upto_region 8 with fail
          go_cut [46] from 36 to 46 (fun s46 wx => s46 = .bool false ∧ wx = W1)
          case first =>
            rcases hend.out with ⟨e1, e2⟩ | e1
            · go_wp2_with fail
              go_meet
              case rel => exact ⟨rfl, rfl⟩
            · go_wp2_with fail
              go_meet
              case rel => exact ⟨rfl, rfl⟩
          case rest =>
          obtain ⟨rfl, rfl⟩ := hcut
          generalize wc = W1 at *
          clear t0 hend HBA0 HRA HPI HCL HIL
          obtain ⟨r0, r1, -⟩ := row2 HRW.out
          have hq8 : X8 < W1.heap.size := (Array.getElem?_eq_some_iff.1 HRW.out).1
          by_cases hA : c0 = 0 ∨ c0 = 1 ∨ c0 = 2
          · rcases hA with hc0 | hc0 | hc0
            · skip
              subst hc0
              have hrA := heap_alloc_new W1 (.cells #[.int .i64 0, .int .i64 0, .int .i64 0, .int .i64 0, .int .i64 0, .int .i64 0, .int .i64 0, .int .i64 0] 29)
              have hBA := (Below.refl _ W1).alloc (Nat.le_refl _) (.cells #[.int .i64 0, .int .i64 0, .int .i64 0, .int .i64 0, .int .i64 0, .int .i64 0, .int .i64 0, .int .i64 0] 29)
              go_upto_if 92 with fail
              generalize W1.alloc (.cells #[.int .i64 0, .int .i64 0, .int .i64 0, .int .i64 0, .int .i64 0, .int .i64 0, .int .i64 0, .int .i64 0] 29) = W1a at *
              obtain ⟨X11, hX11⟩ : ∃ X11, X11 = W1.heap.size := ⟨_, rfl⟩
              rw [← hX11] at hrA
              simp only [← hX11]
              have HX11 := hidP (show W1.heap.size ≤ X11 by rw [hX11]; exact Nat.le_refl _)
              clear hX11
              have HPA := hidP (HP1.out.below hBA)
              have HBA1 := hidP hBA
              clear hBA
              go_cut [11] from 92 to 99 (fun s11 wx => s11 = .pointer (some ⟨X11, 0, none⟩) ∧ ∃ a1 a2 a3 a4 a5 a6 a7 a8, wx.heap[X11]? = some (.cells #[.int .i64 a1, .int .i64 a2, .int .i64 a3, .int .i64 a4, .int .i64 a5, .int .i64 a6, .int .i64 a7, .int .i64 a8] 29 (0, 0)) ∧ Aside (Below W1.heap.size W1 wx))
              case first =>
                clear hg hkk hk60 hlt hl6 hltz hl6z hin1
                by_cases h0 : ln = 0
                · have h0z : ¬ (0 : Int) < (ln : Int) := by omega
                  have h0n : ¬ 0 < ln := by omega
                  clear h0
                  go_wp2_with fail
                  go_meet
                  case rel => exact ⟨rfl, 0, 0, 0, 0, 0, 0, 0, 0, hrA, HBA1.out⟩
                · have h0z : (0 : Int) < (ln : Int) := by omega
                  have h0n : 0 < ln := by omega
                  have hmod : kk % ln < ln := Nat.mod_lt _ h0n
                  obtain ⟨g, off, hq, cel⟩ := sl_at HSL.out HLN.out hmod
                  subst hq
                  obtain ⟨o, ho⟩ : ∃ o, l[kk % ln]! = o := ⟨_, rfl⟩
                  rw [ho] at cel
                  clear ho
                  obtain ⟨a1, a2, a3, a4, a5, a6, a7, a8⟩ := o
                  have HB1a := hidP (HPA.out.bel)
                  have t0 := keeps HB1a.out (cel 0 _ rfl)
                  have t1 := keeps HB1a.out (cel 1 _ rfl)
                  have t2 := keeps HB1a.out (cel 2 _ rfl)
                  have t3 := keeps HB1a.out (cel 3 _ rfl)
                  have t4 := keeps HB1a.out (cel 4 _ rfl)
                  have t5 := keeps HB1a.out (cel 5 _ rfl)
                  have t6 := keeps HB1a.out (cel 6 _ rfl)
                  have t7 := keeps HB1a.out (cel 7 _ rfl)
                  simp only [Nat.add_zero] at t0
                  have hmdz : ((kk % ln : Nat) : Int) < (ln : Int) := Int.ofNat_lt.2 hmod
                  have hmd0 : ¬ (((kk % ln : Nat) : Int) < 0) := Int.not_lt.2 (Int.natCast_nonneg _)
                  have hne : ¬ ((ln : Int) = 0) := by omega
                  have hnb : ((ln : Int) == 0) = false := by simp; omega
                  clear cel
                  obtain ⟨z0, z1, z2, z3, z4, z5, z6, z7, hzf⟩ := row8 hrA
                  have f0 := hzf 0
                  have f1 := hzf 1
                  have f2 := hzf 2
                  have f3 := hzf 3
                  have f4 := hzf 4
                  have f5 := hzf 5
                  have f6 := hzf 6
                  have f7 := hzf 7
                  clear hzf
                  clear h0
                  go_wp2_with fail
                  go_meet
                  case rel => exact ⟨rfl, a1, a2, a3, a4, a5, a6, a7, a8, set8 hrA (.int .i64 a1) (.int .i64 a2) (.int .i64 a3) (.int .i64 a4) (.int .i64 a5) (.int .i64 a6) (.int .i64 a7) (.int .i64 a8), HBA1.out.grown (gr8 W1a X11 (.int .i64 a1) (.int .i64 a2) (.int .i64 a3) (.int .i64 a4) (.int .i64 a5) (.int .i64 a6) (.int .i64 a7) (.int .i64 a8)) HBA1.out.size (fun k hk => by cases hk; exact HX11.out)⟩
              case rest =>
              obtain ⟨rfl, a1, a2, a3, a4, a5, a6, a7, a8, hrX, HBX⟩ := hcut
              have HP2 := hidP (HP1.out.below HBX.out)
              clear HPA HBA1 HX11 hrA HBX
              generalize wc = W2 at *
              have hqx : X11 < W2.heap.size := (Array.getElem?_eq_some_iff.1 hrX).1
              obtain ⟨x0, x1, x2, x3, x4, x5, x6, x7, -⟩ := row8 hrX
              go_wp2_with fail
              refine (rwait_any a1 a2 a3 a4 a5 a6 a7 a8 q n c os W2 HON.out HP2.out.own.sl (by rw [HON.out]; exact HP2.out.good.2.2)).mono ?_
              rintro e W3 ⟨q', n', c', rfl, hb3, hm3⟩
              have HB3 := hidP hb3
              have HM3 := hidP hm3
              have hrX3 := (hb3.block X11 hqx).trans hrX
              clear hb3 hm3 x0 x1 x2 x3 x4 x5 x6 x7 hrX hqx
              obtain ⟨x0, x1, x2, x3, x4, x5, x6, x7, -⟩ := row8 hrX3
              have HP3 := hidP (HP2.out.below HB3.out)
              have HPU := hidP (put_any ⟨a1, a2, a3, a4, a5, a6, a7, a8⟩ p p v os W3 HP3.out.st HP3.out.good.2.2)
              change Hid (Calls Tryd.prog 7 #[.pointer (some ⟨p, 0, none⟩), .agg #[.int .i64 a1, .int .i64 a2, .int .i64 a3, .int .i64 a4, .int .i64 a5, .int .i64 a6, .int .i64 a7, .int .i64 a8]] W3 fun e w' => e = .returned (errV (putE os ⟨a1, a2, a3, a4, a5, a6, a7, a8⟩)) ∧ PutOk p p v (putL os ⟨a1, a2, a3, a4, a5, a6, a7, a8⟩) W3 w') at HPU
              have HPE := hidP (fun W hB => err_same HL0.out (putE os ⟨a1, a2, a3, a4, a5, a6, a7, a8⟩) W hB)
              obtain ⟨EV, hEV⟩ : ∃ EV, errV (putE os ⟨a1, a2, a3, a4, a5, a6, a7, a8⟩) = EV := ⟨_, rfl⟩
              rw [hEV] at HPU HPE
              obtain ⟨PE, hPE⟩ : ∃ PE, putE os ⟨a1, a2, a3, a4, a5, a6, a7, a8⟩ = PE := ⟨_, rfl⟩
              rw [hPE] at HPE
              rw [hPE]
              clear hEV hPE
              go_wp2_with fail
              refine HPU.out.mono ?_
              rintro e W4 ⟨rfl, hp4⟩
              obtain ⟨v4, hpi4⟩ := HP2.out.put HB3.out HM3.out hp4
              have HP4 := hidP hpi4
              clear hp4 hpi4 HPU HM3 x0 x1 x2 x3 x4 x5 x6 x7 hrX3
              go_wp2_with fail
              refine (HPE.out W4 HP4.out.bel).mono ?_
              rintro e W5 ⟨rfl, hb5⟩
              have HP5 := hidP (HP4.out.below hb5)
              clear hb5 HPE HP3 HP2
              go_wp2_with fail
              refine (all_any p p _ (putL os ⟨a1, a2, a3, a4, a5, a6, a7, a8⟩) _ HP5.out.st (by have := HP5.out.good.2.2; omega)).mono ?_
              rintro e wa ⟨qa, ca, rfl, hoa, hba⟩
              have HPA := hidP (HP5.out.below hba)
              have HSA := hidP hoa.sl
              clear hoa hba
              go_wp2_with fail
              refine (orders_same _ _ (putL os ⟨a1, a2, a3, a4, a5, a6, a7, a8⟩) wa HSA.out HPA.out.own.sl).mono ?_
              rintro e wb ⟨rfl, hbb⟩
              have HPB := hidP (HPA.out.below hbb)
              clear hbb HSA HPA
              have es := HES.out
              go_wp2_with fail
              go_roundg (sn - (kk + 1))
              case measure => clear es; omega
              case rel => exact ⟨kk + 1, _, _, _, _, _, hlt, hl6, Nat.le_refl _, by go_num, rfl, HPB.out⟩

            · skip
              subst hc0
              have hrA := heap_alloc_new W1 (.cells #[.int .i64 0, .int .i64 0, .int .i64 0, .int .i64 0, .int .i64 0, .int .i64 0, .int .i64 0, .int .i64 0] 29)
              have hBA := (Below.refl _ W1).alloc (Nat.le_refl _) (.cells #[.int .i64 0, .int .i64 0, .int .i64 0, .int .i64 0, .int .i64 0, .int .i64 0, .int .i64 0, .int .i64 0] 29)
              go_upto_if 92 with fail
              generalize W1.alloc (.cells #[.int .i64 0, .int .i64 0, .int .i64 0, .int .i64 0, .int .i64 0, .int .i64 0, .int .i64 0, .int .i64 0] 29) = W1a at *
              obtain ⟨X11, hX11⟩ : ∃ X11, X11 = W1.heap.size := ⟨_, rfl⟩
              rw [← hX11] at hrA
              simp only [← hX11]
              have HX11 := hidP (show W1.heap.size ≤ X11 by rw [hX11]; exact Nat.le_refl _)
              clear hX11
              have HPA := hidP (HP1.out.below hBA)
              have HBA1 := hidP hBA
              clear hBA
              go_cut [11] from 92 to 99 (fun s11 wx => s11 = .pointer (some ⟨X11, 0, none⟩) ∧ ∃ a1 a2 a3 a4 a5 a6 a7 a8, wx.heap[X11]? = some (.cells #[.int .i64 a1, .int .i64 a2, .int .i64 a3, .int .i64 a4, .int .i64 a5, .int .i64 a6, .int .i64 a7, .int .i64 a8] 29 (0, 0)) ∧ Aside (Below W1.heap.size W1 wx))
              case first =>
                clear hg hkk hk60 hlt hl6 hltz hl6z hin1
                by_cases h0 : ln = 0
                · have h0z : ¬ (0 : Int) < (ln : Int) := by omega
                  have h0n : ¬ 0 < ln := by omega
                  clear h0
                  go_wp2_with fail
                  go_meet
                  case rel => exact ⟨rfl, 0, 0, 0, 0, 0, 0, 0, 0, hrA, HBA1.out⟩
                · have h0z : (0 : Int) < (ln : Int) := by omega
                  have h0n : 0 < ln := by omega
                  have hmod : kk % ln < ln := Nat.mod_lt _ h0n
                  obtain ⟨g, off, hq, cel⟩ := sl_at HSL.out HLN.out hmod
                  subst hq
                  obtain ⟨o, ho⟩ : ∃ o, l[kk % ln]! = o := ⟨_, rfl⟩
                  rw [ho] at cel
                  clear ho
                  obtain ⟨a1, a2, a3, a4, a5, a6, a7, a8⟩ := o
                  have HB1a := hidP (HPA.out.bel)
                  have t0 := keeps HB1a.out (cel 0 _ rfl)
                  have t1 := keeps HB1a.out (cel 1 _ rfl)
                  have t2 := keeps HB1a.out (cel 2 _ rfl)
                  have t3 := keeps HB1a.out (cel 3 _ rfl)
                  have t4 := keeps HB1a.out (cel 4 _ rfl)
                  have t5 := keeps HB1a.out (cel 5 _ rfl)
                  have t6 := keeps HB1a.out (cel 6 _ rfl)
                  have t7 := keeps HB1a.out (cel 7 _ rfl)
                  simp only [Nat.add_zero] at t0
                  have hmdz : ((kk % ln : Nat) : Int) < (ln : Int) := Int.ofNat_lt.2 hmod
                  have hmd0 : ¬ (((kk % ln : Nat) : Int) < 0) := Int.not_lt.2 (Int.natCast_nonneg _)
                  have hne : ¬ ((ln : Int) = 0) := by omega
                  have hnb : ((ln : Int) == 0) = false := by simp; omega
                  clear cel
                  obtain ⟨z0, z1, z2, z3, z4, z5, z6, z7, hzf⟩ := row8 hrA
                  have f0 := hzf 0
                  have f1 := hzf 1
                  have f2 := hzf 2
                  have f3 := hzf 3
                  have f4 := hzf 4
                  have f5 := hzf 5
                  have f6 := hzf 6
                  have f7 := hzf 7
                  clear hzf
                  clear h0
                  go_wp2_with fail
                  go_meet
                  case rel => exact ⟨rfl, a1, a2, a3, a4, a5, a6, a7, a8, set8 hrA (.int .i64 a1) (.int .i64 a2) (.int .i64 a3) (.int .i64 a4) (.int .i64 a5) (.int .i64 a6) (.int .i64 a7) (.int .i64 a8), HBA1.out.grown (gr8 W1a X11 (.int .i64 a1) (.int .i64 a2) (.int .i64 a3) (.int .i64 a4) (.int .i64 a5) (.int .i64 a6) (.int .i64 a7) (.int .i64 a8)) HBA1.out.size (fun k hk => by cases hk; exact HX11.out)⟩
              case rest =>
              obtain ⟨rfl, a1, a2, a3, a4, a5, a6, a7, a8, hrX, HBX⟩ := hcut
              have HP2 := hidP (HP1.out.below HBX.out)
              clear HPA HBA1 HX11 hrA HBX
              generalize wc = W2 at *
              have hqx : X11 < W2.heap.size := (Array.getElem?_eq_some_iff.1 hrX).1
              obtain ⟨x0, x1, x2, x3, x4, x5, x6, x7, -⟩ := row8 hrX
              go_wp2_with fail
              refine (rwait_any a1 a2 a3 a4 a5 a6 a7 a8 q n c os W2 HON.out HP2.out.own.sl (by rw [HON.out]; exact HP2.out.good.2.2)).mono ?_
              rintro e W3 ⟨q', n', c', rfl, hb3, hm3⟩
              have HB3 := hidP hb3
              have HM3 := hidP hm3
              have hrX3 := (hb3.block X11 hqx).trans hrX
              clear hb3 hm3 x0 x1 x2 x3 x4 x5 x6 x7 hrX hqx
              obtain ⟨x0, x1, x2, x3, x4, x5, x6, x7, -⟩ := row8 hrX3
              have HP3 := hidP (HP2.out.below HB3.out)
              have HPU := hidP (put_any ⟨a1, a2, a3, a4, a5, a6, a7, a8⟩ p p v os W3 HP3.out.st HP3.out.good.2.2)
              change Hid (Calls Tryd.prog 7 #[.pointer (some ⟨p, 0, none⟩), .agg #[.int .i64 a1, .int .i64 a2, .int .i64 a3, .int .i64 a4, .int .i64 a5, .int .i64 a6, .int .i64 a7, .int .i64 a8]] W3 fun e w' => e = .returned (errV (putE os ⟨a1, a2, a3, a4, a5, a6, a7, a8⟩)) ∧ PutOk p p v (putL os ⟨a1, a2, a3, a4, a5, a6, a7, a8⟩) W3 w') at HPU
              have HPE := hidP (fun W hB => err_same HL0.out (putE os ⟨a1, a2, a3, a4, a5, a6, a7, a8⟩) W hB)
              obtain ⟨EV, hEV⟩ : ∃ EV, errV (putE os ⟨a1, a2, a3, a4, a5, a6, a7, a8⟩) = EV := ⟨_, rfl⟩
              rw [hEV] at HPU HPE
              obtain ⟨PE, hPE⟩ : ∃ PE, putE os ⟨a1, a2, a3, a4, a5, a6, a7, a8⟩ = PE := ⟨_, rfl⟩
              rw [hPE] at HPE
              rw [hPE]
              clear hEV hPE
              go_wp2_with fail
              refine HPU.out.mono ?_
              rintro e W4 ⟨rfl, hp4⟩
              obtain ⟨v4, hpi4⟩ := HP2.out.put HB3.out HM3.out hp4
              have HP4 := hidP hpi4
              clear hp4 hpi4 HPU HM3 x0 x1 x2 x3 x4 x5 x6 x7 hrX3
              go_wp2_with fail
              refine (HPE.out W4 HP4.out.bel).mono ?_
              rintro e W5 ⟨rfl, hb5⟩
              have HP5 := hidP (HP4.out.below hb5)
              clear hb5 HPE HP3 HP2
              go_wp2_with fail
              refine (all_any p p _ (putL os ⟨a1, a2, a3, a4, a5, a6, a7, a8⟩) _ HP5.out.st (by have := HP5.out.good.2.2; omega)).mono ?_
              rintro e wa ⟨qa, ca, rfl, hoa, hba⟩
              have HPA := hidP (HP5.out.below hba)
              have HSA := hidP hoa.sl
              clear hoa hba
              go_wp2_with fail
              refine (orders_same _ _ (putL os ⟨a1, a2, a3, a4, a5, a6, a7, a8⟩) wa HSA.out HPA.out.own.sl).mono ?_
              rintro e wb ⟨rfl, hbb⟩
              have HPB := hidP (HPA.out.below hbb)
              clear hbb HSA HPA
              have es := HES.out
              go_wp2_with fail
              go_roundg (sn - (kk + 1))
              case measure => clear es; omega
              case rel => exact ⟨kk + 1, _, _, _, _, _, hlt, hl6, Nat.le_refl _, by go_num, rfl, HPB.out⟩

            · skip
              subst hc0
              have hrA := heap_alloc_new W1 (.cells #[.int .i64 0, .int .i64 0, .int .i64 0, .int .i64 0, .int .i64 0, .int .i64 0, .int .i64 0, .int .i64 0] 29)
              have hBA := (Below.refl _ W1).alloc (Nat.le_refl _) (.cells #[.int .i64 0, .int .i64 0, .int .i64 0, .int .i64 0, .int .i64 0, .int .i64 0, .int .i64 0, .int .i64 0] 29)
              go_upto_if 92 with fail
              generalize W1.alloc (.cells #[.int .i64 0, .int .i64 0, .int .i64 0, .int .i64 0, .int .i64 0, .int .i64 0, .int .i64 0, .int .i64 0] 29) = W1a at *
              obtain ⟨X11, hX11⟩ : ∃ X11, X11 = W1.heap.size := ⟨_, rfl⟩
              rw [← hX11] at hrA
              simp only [← hX11]
              have HX11 := hidP (show W1.heap.size ≤ X11 by rw [hX11]; exact Nat.le_refl _)
              clear hX11
              have HPA := hidP (HP1.out.below hBA)
              have HBA1 := hidP hBA
              clear hBA
              go_cut [11] from 92 to 99 (fun s11 wx => s11 = .pointer (some ⟨X11, 0, none⟩) ∧ ∃ a1 a2 a3 a4 a5 a6 a7 a8, wx.heap[X11]? = some (.cells #[.int .i64 a1, .int .i64 a2, .int .i64 a3, .int .i64 a4, .int .i64 a5, .int .i64 a6, .int .i64 a7, .int .i64 a8] 29 (0, 0)) ∧ Aside (Below W1.heap.size W1 wx))
              case first =>
                clear hg hkk hk60 hlt hl6 hltz hl6z hin1
                by_cases h0 : ln = 0
                · have h0z : ¬ (0 : Int) < (ln : Int) := by omega
                  have h0n : ¬ 0 < ln := by omega
                  clear h0
                  go_wp2_with fail
                  go_meet
                  case rel => exact ⟨rfl, 0, 0, 0, 0, 0, 0, 0, 0, hrA, HBA1.out⟩
                · have h0z : (0 : Int) < (ln : Int) := by omega
                  have h0n : 0 < ln := by omega
                  have hmod : kk % ln < ln := Nat.mod_lt _ h0n
                  obtain ⟨g, off, hq, cel⟩ := sl_at HSL.out HLN.out hmod
                  subst hq
                  obtain ⟨o, ho⟩ : ∃ o, l[kk % ln]! = o := ⟨_, rfl⟩
                  rw [ho] at cel
                  clear ho
                  obtain ⟨a1, a2, a3, a4, a5, a6, a7, a8⟩ := o
                  have HB1a := hidP (HPA.out.bel)
                  have t0 := keeps HB1a.out (cel 0 _ rfl)
                  have t1 := keeps HB1a.out (cel 1 _ rfl)
                  have t2 := keeps HB1a.out (cel 2 _ rfl)
                  have t3 := keeps HB1a.out (cel 3 _ rfl)
                  have t4 := keeps HB1a.out (cel 4 _ rfl)
                  have t5 := keeps HB1a.out (cel 5 _ rfl)
                  have t6 := keeps HB1a.out (cel 6 _ rfl)
                  have t7 := keeps HB1a.out (cel 7 _ rfl)
                  simp only [Nat.add_zero] at t0
                  have hmdz : ((kk % ln : Nat) : Int) < (ln : Int) := Int.ofNat_lt.2 hmod
                  have hmd0 : ¬ (((kk % ln : Nat) : Int) < 0) := Int.not_lt.2 (Int.natCast_nonneg _)
                  have hne : ¬ ((ln : Int) = 0) := by omega
                  have hnb : ((ln : Int) == 0) = false := by simp; omega
                  clear cel
                  obtain ⟨z0, z1, z2, z3, z4, z5, z6, z7, hzf⟩ := row8 hrA
                  have f0 := hzf 0
                  have f1 := hzf 1
                  have f2 := hzf 2
                  have f3 := hzf 3
                  have f4 := hzf 4
                  have f5 := hzf 5
                  have f6 := hzf 6
                  have f7 := hzf 7
                  clear hzf
                  clear h0
                  go_wp2_with fail
                  go_meet
                  case rel => exact ⟨rfl, a1, a2, a3, a4, a5, a6, a7, a8, set8 hrA (.int .i64 a1) (.int .i64 a2) (.int .i64 a3) (.int .i64 a4) (.int .i64 a5) (.int .i64 a6) (.int .i64 a7) (.int .i64 a8), HBA1.out.grown (gr8 W1a X11 (.int .i64 a1) (.int .i64 a2) (.int .i64 a3) (.int .i64 a4) (.int .i64 a5) (.int .i64 a6) (.int .i64 a7) (.int .i64 a8)) HBA1.out.size (fun k hk => by cases hk; exact HX11.out)⟩
              case rest =>
              obtain ⟨rfl, a1, a2, a3, a4, a5, a6, a7, a8, hrX, HBX⟩ := hcut
              have HP2 := hidP (HP1.out.below HBX.out)
              clear HPA HBA1 HX11 hrA HBX
              generalize wc = W2 at *
              have hqx : X11 < W2.heap.size := (Array.getElem?_eq_some_iff.1 hrX).1
              obtain ⟨x0, x1, x2, x3, x4, x5, x6, x7, -⟩ := row8 hrX
              go_wp2_with fail
              refine (rwait_any a1 a2 a3 a4 a5 a6 a7 a8 q n c os W2 HON.out HP2.out.own.sl (by rw [HON.out]; exact HP2.out.good.2.2)).mono ?_
              rintro e W3 ⟨q', n', c', rfl, hb3, hm3⟩
              have HB3 := hidP hb3
              have HM3 := hidP hm3
              have hrX3 := (hb3.block X11 hqx).trans hrX
              clear hb3 hm3 x0 x1 x2 x3 x4 x5 x6 x7 hrX hqx
              obtain ⟨x0, x1, x2, x3, x4, x5, x6, x7, -⟩ := row8 hrX3
              have HP3 := hidP (HP2.out.below HB3.out)
              have HPU := hidP (put_any ⟨a1, a2, a3, a4, a5, a6, a7, a8⟩ p p v os W3 HP3.out.st HP3.out.good.2.2)
              change Hid (Calls Tryd.prog 7 #[.pointer (some ⟨p, 0, none⟩), .agg #[.int .i64 a1, .int .i64 a2, .int .i64 a3, .int .i64 a4, .int .i64 a5, .int .i64 a6, .int .i64 a7, .int .i64 a8]] W3 fun e w' => e = .returned (errV (putE os ⟨a1, a2, a3, a4, a5, a6, a7, a8⟩)) ∧ PutOk p p v (putL os ⟨a1, a2, a3, a4, a5, a6, a7, a8⟩) W3 w') at HPU
              have HPE := hidP (fun W hB => err_same HL0.out (putE os ⟨a1, a2, a3, a4, a5, a6, a7, a8⟩) W hB)
              obtain ⟨EV, hEV⟩ : ∃ EV, errV (putE os ⟨a1, a2, a3, a4, a5, a6, a7, a8⟩) = EV := ⟨_, rfl⟩
              rw [hEV] at HPU HPE
              obtain ⟨PE, hPE⟩ : ∃ PE, putE os ⟨a1, a2, a3, a4, a5, a6, a7, a8⟩ = PE := ⟨_, rfl⟩
              rw [hPE] at HPE
              rw [hPE]
              clear hEV hPE
              go_wp2_with fail
              refine HPU.out.mono ?_
              rintro e W4 ⟨rfl, hp4⟩
              obtain ⟨v4, hpi4⟩ := HP2.out.put HB3.out HM3.out hp4
              have HP4 := hidP hpi4
              clear hp4 hpi4 HPU HM3 x0 x1 x2 x3 x4 x5 x6 x7 hrX3
              go_wp2_with fail
              refine (HPE.out W4 HP4.out.bel).mono ?_
              rintro e W5 ⟨rfl, hb5⟩
              have HP5 := hidP (HP4.out.below hb5)
              clear hb5 HPE HP3 HP2
              go_wp2_with fail
              refine (all_any p p _ (putL os ⟨a1, a2, a3, a4, a5, a6, a7, a8⟩) _ HP5.out.st (by have := HP5.out.good.2.2; omega)).mono ?_
              rintro e wa ⟨qa, ca, rfl, hoa, hba⟩
              have HPA := hidP (HP5.out.below hba)
              have HSA := hidP hoa.sl
              clear hoa hba
              go_wp2_with fail
              refine (orders_same _ _ (putL os ⟨a1, a2, a3, a4, a5, a6, a7, a8⟩) wa HSA.out HPA.out.own.sl).mono ?_
              rintro e wb ⟨rfl, hbb⟩
              have HPB := hidP (HPA.out.below hbb)
              clear hbb HSA HPA
              have es := HES.out
              go_wp2_with fail
              go_roundg (sn - (kk + 1))
              case measure => clear es; omega
              case rel => exact ⟨kk + 1, _, _, _, _, _, hlt, hl6, Nat.le_refl _, by go_num, rfl, HPB.out⟩

          · by_cases hB : c0 = 3
            · subst hB
              have hrA := heap_alloc_new W1 (.cells #[.int .i64 0, .int .i64 0, .int .i64 0, .int .i64 0, .int .i64 0, .int .i64 0, .int .i64 0, .int .i64 0] 29)
              have hBA := (Below.refl _ W1).alloc (Nat.le_refl _) (.cells #[.int .i64 0, .int .i64 0, .int .i64 0, .int .i64 0, .int .i64 0, .int .i64 0, .int .i64 0, .int .i64 0] 29)
              have r1a := keeps hBA r1
              clear hA
              go_upto_region 33 with fail
              generalize W1.alloc (.cells #[.int .i64 0, .int .i64 0, .int .i64 0, .int .i64 0, .int .i64 0, .int .i64 0, .int .i64 0, .int .i64 0] 29) = W1a at *
              obtain ⟨X15, hX15⟩ : ∃ X15, X15 = W1.heap.size := ⟨_, rfl⟩
              rw [← hX15] at hrA
              simp only [← hX15]
              have HX15 := hidP (show W1.heap.size ≤ X15 ∧ p < X15 by rw [hX15]; exact ⟨Nat.le_refl _, HP1.out.st.lt⟩)
              clear hX15
              have HPA := hidP (HP1.out.below hBA)
              have HBA1 := hidP hBA
              have HRA1 := hidP hrA
              have hq8a : X8 < W1a.heap.size := Nat.lt_of_lt_of_le hq8 hBA.size
              clear hBA hrA r0 r1
              go_wp2_with fail
              refine (rwaits_any c1 q n c os W1a HON.out HPA.out.own.sl (by have h1 := HON.out; have h2 := HPA.out.good.2.2; omega)).mono ?_
              rintro e W2 ⟨rfl, hb2⟩
              have HB2 := hidP hb2
              have HP2 := hidP (HPA.out.below hb2)
              have HB12 := hidP (HBA1.out.trans (hb2.mono HBA1.out.size))
              have r2 := keeps hb2 r1a
              have hr2 := (hb2.block X15 (Array.getElem?_eq_some_iff.1 HRA1.out).1).trans HRA1.out
              clear hb2 r1a HPA HBA1 HRA1 hq8a
              obtain ⟨K, hK⟩ : ∃ K, idx c1 os = K := ⟨_, rfl⟩
              rw [hK]
              by_cases hk : 0 ≤ K
              · obtain ⟨i, hi⟩ : ∃ i : Nat, K = (i : Int) := ⟨K.toNat, by omega⟩
                subst hi
                have hin : i < n := by have h1 := idx_lt c1 os; have h2 := HON.out; omega
                have HIX := hidP (show idx c1 os = (i : Int) ∧ i < n from ⟨hK, hin⟩)
                obtain ⟨g, off, hq, cel⟩ := sl_at HP2.out.own.sl HON.out hin
                subst hq
                obtain ⟨o, ho⟩ : ∃ o, os[i]! = o := ⟨_, rfl⟩
                have HOO := hidP ho
                rw [ho] at cel
                clear ho
                obtain ⟨a1, a2, a3, a4, a5, a6, a7, a8⟩ := o
                have t0 := cel 0 _ rfl
                have t1 := cel 1 _ rfl
                have t2 := cel 2 _ rfl
                have t3 := cel 3 _ rfl
                have t4 := cel 4 _ rfl
                have t5 := cel 5 _ rfl
                have t6 := cel 6 _ rfl
                have t7 := cel 7 _ rfl
                simp only [Nat.add_zero] at t0
                have hinz : (i : Int) < (n : Int) := by omega
                have hi0 : ¬ ((i : Int) < 0) := by omega
                obtain ⟨z0, z1, z2, z3, z4, z5, z6, z7, hzf⟩ := row8 hr2
                have f0 := hzf 0
                have f1 := hzf 1
                have f2 := hzf 2
                have f3 := hzf 3
                have f4 := hzf 4
                have f5 := hzf 5
                have f6 := hzf 6
                have f7 := hzf 7
                clear hzf cel hK
                go_upto_region 37 with fail
                have hr3 := set8 hr2 (.int .i64 a1) (.int .i64 a2) (.int .i64 a3) (.int .i64 a4) (.int .i64 a5) (.int .i64 a6) (.int .i64 a7) (.int .i64 a8)
                have HB13 := hidP (HB12.out.grown (gr8 W2 X15 (.int .i64 a1) (.int .i64 a2) (.int .i64 a3) (.int .i64 a4) (.int .i64 a5) (.int .i64 a6) (.int .i64 a7) (.int .i64 a8)) HB12.out.size (fun k hk => by cases hk; exact HX15.out.1))
                have r3 : (((((((((W2.setCell ⟨X15, 0, none⟩ (.int .i64 a1)).setCell ⟨X15, 1, none⟩ (.int .i64 a2)).setCell ⟨X15, 2, none⟩ (.int .i64 a3)).setCell ⟨X15, 3, none⟩ (.int .i64 a4)).setCell ⟨X15, 4, none⟩ (.int .i64 a5)).setCell ⟨X15, 5, none⟩ (.int .i64 a6)).setCell ⟨X15, 6, none⟩ (.int .i64 a7)).setCell ⟨X15, 7, none⟩ (.int .i64 a8))).cell? ⟨X8, 1, none⟩ = some (.int .i64 c1) := by
                  have hne : some X8 ≠ some X15 := fun e => by
                    have e' : X8 = X15 := Option.some.inj e
                    have h1 := hq8
                    have h2 := HX15.out
                    omega
                  rw [(gr8 W2 X15 (.int .i64 a1) (.int .i64 a2) (.int .i64 a3) (.int .i64 a4) (.int .i64 a5) (.int .i64 a6) (.int .i64 a7) (.int .i64 a8)).cell_far ⟨X8, 1, none⟩ (World.block_lt_of_cell? W2 _ r2) hne]
                  exact r2
                clear t0 t1 t2 t3 t4 t5 t6 t7 z0 z1 z2 z3 z4 z5 z6 z7 f0 f1 f2 f3 f4 f5 f6 f7 hr2 r2
                generalize ((((((((W2.setCell ⟨X15, 0, none⟩ (.int .i64 a1)).setCell ⟨X15, 1, none⟩ (.int .i64 a2)).setCell ⟨X15, 2, none⟩ (.int .i64 a3)).setCell ⟨X15, 3, none⟩ (.int .i64 a4)).setCell ⟨X15, 4, none⟩ (.int .i64 a5)).setCell ⟨X15, 5, none⟩ (.int .i64 a6)).setCell ⟨X15, 6, none⟩ (.int .i64 a7)).setCell ⟨X15, 7, none⟩ (.int .i64 a8)) = W3 at *
                have HP3 := hidP (HP1.out.below HB13.out)
                have HR3 := hidP hr3
                clear hr3 HB2 HP2 HB12
                go_wp2_with fail
                refine (off_any _ os i W3 HP3.out.own.sl (by have h1 := HIX.out; have h2 := HON.out; omega) (by have h1 := HP3.out.good.2.2; omega)).mono ?_
                rintro e W4 ⟨m4, rfl, ho4, hb4⟩
                obtain ⟨q4, c4, hm4⟩ := OwnQ.form ho4
                have HO4 := hidP (show OwnQ W4 W3.heap.size m4 (wo os i) from ho4)
                have HB4 := hidP hb4
                have HP4 := hidP (HP3.out.below hb4)
                have r4 := keeps hb4 r3
                obtain ⟨nn, hnn⟩ : ∃ nn, (os.take i ++ os.drop (i + 1)).length = nn := ⟨_, rfl⟩
                rw [hnn] at hm4
                subst hm4
                have HR4 := hidP ((hb4.block X15 (Array.getElem?_eq_some_iff.1 HR3.out).1).trans HR3.out)
                clear ho4 hb4 r3 hnn
                obtain ⟨vq, vc, hv⟩ := OwnQ.form HP4.out.st.own
                rw [← HON.out] at hv
                subst hv
                have hvq : ∃ vg vo, vq = some ⟨vg, vo, none⟩ := by
                  obtain ⟨vg, vo, e, -⟩ := sl_at HP4.out.st.own.sl HON.out HIX.out.2
                  exact ⟨vg, vo, e⟩
                obtain ⟨vg, vo, rfl⟩ := hvq
                have HDR := hidP (drop_some c1 i p p vg vo n vc a1 a2 a3 a4 a5 a6 a7 a8 os W4 HON.out HP4.out.st HIX.out.2 HIX.out.1 HOO.out (by have h1 := HON.out; have h2 := HP4.out.good.2.2; omega))
                go_wp2_with fail
                refine HDR.out.mono ?_
                rintro e W5 ⟨rfl, hd5⟩
                obtain ⟨v5, hpi5⟩ := HP3.out.drop HB4.out HO4.out hd5
                have HP5 := hidP hpi5
                have HR5 : Hid (W5.heap[X15]? = some (.cells #[.int .i64 a1, .int .i64 a2, .int .i64 a3, .int .i64 a4, .int .i64 a5, .int .i64 a6, .int .i64 a7, .int .i64 a8] 29 (0, 0))) := by
                  obtain ⟨v', -, ht, -⟩ := hd5
                  show _ = _
                  rw [ht.block X15 (Array.getElem?_eq_some_iff.1 HR4.out).1 (by have := HX15.out; omega) (fun e => by
                    have h1 := (OwnM.lt HP1.out.st.own X15 e).2
                    have h2 := HX15.out
                    omega)]
                  exact HR4.out
                have hB5 := (Below.refl _ W5).alloc (Nat.le_refl _) (.cells #[.int .i64 a1, .int .i64 a2, .int .i64 a3, .int .i64 a4, .int .i64 a5, .int .i64 a6, .int .i64 a7, .int .i64 a8] 29)
                have hr6 := heap_alloc_new W5 (.cells #[.int .i64 a1, .int .i64 a2, .int .i64 a3, .int .i64 a4, .int .i64 a5, .int .i64 a6, .int .i64 a7, .int .i64 a8] 29)
                clear hd5 hpi5 HDR HO4 HB4 HR4 HP4 HP3 HR3 r4
                go_upto_region 39 with fail
                generalize W5.alloc (.cells #[.int .i64 a1, .int .i64 a2, .int .i64 a3, .int .i64 a4, .int .i64 a5, .int .i64 a6, .int .i64 a7, .int .i64 a8] 29) = W6 at *
                obtain ⟨X17, hX17⟩ : ∃ X17, X17 = W5.heap.size := ⟨_, rfl⟩
                rw [← hX17] at hr6
                simp only [← hX17]
                clear hX17
                have HP6 := hidP (HP5.out.below hB5)
                have HR6 := hidP (And.intro hr6 ((hB5.block X15 (Array.getElem?_eq_some_iff.1 HR5.out).1).trans HR5.out))
                clear hr6 hB5 HR5 HP5
                go_wp2_with fail
                refine (err_same HL0.out 0 W6 HP6.out.bel).mono ?_
                rintro e W7 ⟨rfl, hb7⟩
                have HP7 := hidP (HP6.out.below hb7)
                obtain ⟨u0, u1, u2, u3, u4, u5, u6, u7, -⟩ := row8 ((hb7.block X17 (Array.getElem?_eq_some_iff.1 HR6.out.1).1).trans HR6.out.1)
                obtain ⟨y0, y1, y2, y3, y4, y5, y6, y7, -⟩ := row8 ((hb7.block X15 (Array.getElem?_eq_some_iff.1 HR6.out.2).1).trans HR6.out.2)
                clear hb7 HP6 HR6
                go_wp2_with fail
                refine (all_any p p _ (wo os i) _ HP7.out.st (by have := HP7.out.good.2.2; omega)).mono ?_
                rintro e wa ⟨qa, ca, rfl, hoa, hba⟩
                have HPA := hidP (HP7.out.below hba)
                have HSA := hidP hoa.sl
                clear hoa hba
                go_wp2_with fail
                refine (orders_same _ _ (wo os i) wa HSA.out HPA.out.own.sl).mono ?_
                rintro e wb ⟨rfl, hbb⟩
                have HPB := hidP (HPA.out.below hbb)
                clear hbb HSA HPA
                have es := HES.out
                go_wp2_with fail
                go_roundg (sn - (kk + 1))
                case measure => clear es; omega
                case rel => exact ⟨kk + 1, _, _, _, _, _, hlt, hl6, Nat.le_refl _, by go_num, rfl, HPB.out⟩

              · have hkn : ¬ 0 ≤ K := hk
                have HDR := hidP (drop_none c1 p p v os W2 HP2.out.st (by rw [hK]; omega))
                have HR2 := hidP hr2
                clear hK hr2
                go_wp2_with fail
                refine HDR.out.mono ?_
                rintro e W5 ⟨rfl, hb5⟩
                have HP5 := hidP (HP2.out.below hb5)
                have HR5 := hidP ((hb5.block X15 (Array.getElem?_eq_some_iff.1 HR2.out).1).trans HR2.out)
                have hB5 := (Below.refl _ W5).alloc (Nat.le_refl _) (.cells #[.int .i64 0, .int .i64 0, .int .i64 0, .int .i64 0, .int .i64 0, .int .i64 0, .int .i64 0, .int .i64 0] 29)
                have hr6 := heap_alloc_new W5 (.cells #[.int .i64 0, .int .i64 0, .int .i64 0, .int .i64 0, .int .i64 0, .int .i64 0, .int .i64 0, .int .i64 0] 29)
                have HE5 := hidP (fun W hB => err_same HL0.out 5 W hB)
                generalize errV 5 = EV at *
                clear hb5 HDR HR2 HP2
                go_upto_region 39 with fail
                generalize W5.alloc (.cells #[.int .i64 0, .int .i64 0, .int .i64 0, .int .i64 0, .int .i64 0, .int .i64 0, .int .i64 0, .int .i64 0] 29) = W6 at *
                obtain ⟨X17, hX17⟩ : ∃ X17, X17 = W5.heap.size := ⟨_, rfl⟩
                rw [← hX17] at hr6
                simp only [← hX17]
                clear hX17
                have HP6 := hidP (HP5.out.below hB5)
                have HR6 := hidP (And.intro hr6 ((hB5.block X15 (Array.getElem?_eq_some_iff.1 HR5.out).1).trans HR5.out))
                clear hr6 hB5 HR5 HP5
                go_wp2_with fail
                refine (HE5.out W6 HP6.out.bel).mono ?_
                rintro e W7 ⟨rfl, hb7⟩
                have HP7 := hidP (HP6.out.below hb7)
                obtain ⟨u0, u1, u2, u3, u4, u5, u6, u7, -⟩ := row8 ((hb7.block X17 (Array.getElem?_eq_some_iff.1 HR6.out.1).1).trans HR6.out.1)
                obtain ⟨y0, y1, y2, y3, y4, y5, y6, y7, -⟩ := row8 ((hb7.block X15 (Array.getElem?_eq_some_iff.1 HR6.out.2).1).trans HR6.out.2)
                clear hb7 HP6 HR6
                go_wp2_with fail
                refine (all_any p p _ (os) _ HP7.out.st (by have := HP7.out.good.2.2; omega)).mono ?_
                rintro e wa ⟨qa, ca, rfl, hoa, hba⟩
                have HPA := hidP (HP7.out.below hba)
                have HSA := hidP hoa.sl
                clear hoa hba
                go_wp2_with fail
                refine (orders_same _ _ (os) wa HSA.out HPA.out.own.sl).mono ?_
                rintro e wb ⟨rfl, hbb⟩
                have HPB := hidP (HPA.out.below hbb)
                clear hbb HSA HPA
                have es := HES.out
                go_wp2_with fail
                go_roundg (sn - (kk + 1))
                case measure => clear es; omega
                case rel => exact ⟨kk + 1, _, _, _, _, _, hlt, hl6, Nat.le_refl _, by go_num, rfl, HPB.out⟩


            · have n0 : (c0 == 0) = false := by simp; omega
              have n1 : (c0 == 1) = false := by simp; omega
              have n2 : (c0 == 2) = false := by simp; omega
              have n3 : (c0 == 3) = false := by simp; omega
              clear hA hB
              go_wp2_with fail
              refine (ref_price c1 W1).mono ?_
              rintro e W2 ⟨rfl, hw2⟩
              subst hw2
              cases hx : prB c1
              · go_wp2_with fail
                refine (wake_bad c1 p W2 hx).mono ?_
                rintro e W3 ⟨rfl, hb3⟩
                have HP3 := hidP (HP1.out.below hb3)
                have HE5 := hidP (fun W hB => err_same HL0.out 1 W hB)
                generalize errV 1 = EV at *
                clear hb3 r0 r1 hx
                go_wp2_with fail
                refine (HE5.out W3 HP3.out.bel).mono ?_
                rintro e W4 ⟨rfl, hb4⟩
                have HP4 := hidP (HP3.out.below hb4)
                clear hb4 HP3
                go_wp2_with fail
                refine (orders_none none none 0 0 W4).mono ?_
                rintro e W5 ⟨rfl, hb5⟩
                have HP5 := hidP (HP4.out.below hb5)
                clear hb5 HP4
                go_wp2_with fail
                refine (all_any p p _ (os) _ HP5.out.st (by have := HP5.out.good.2.2; omega)).mono ?_
                rintro e wa ⟨qa, ca, rfl, hoa, hba⟩
                have HPA := hidP (HP5.out.below hba)
                have HSA := hidP hoa.sl
                clear hoa hba
                go_wp2_with fail
                refine (orders_same _ _ (os) wa HSA.out HPA.out.own.sl).mono ?_
                rintro e wb ⟨rfl, hbb⟩
                have HPB := hidP (HPA.out.below hbb)
                clear hbb HSA HPA
                have es := HES.out
                go_wp2_with fail
                go_roundg (sn - (kk + 1))
                case measure => clear es; omega
                case rel => exact ⟨kk + 1, _, _, _, _, _, hlt, hl6, Nat.le_refl _, by go_num, rfl, HPB.out⟩

              · have HX := hidP hx
                clear hx
                go_wp2_with fail
                refine (rwake_any c1 q n c os W2 HON.out HP1.out.own.sl HP1.out.good).mono ?_
                rintro e W3 ⟨q3, n3, c3, q6, m6, c6, rfl, hm6, hn3, ho6, hsr, hb3⟩
                have HO6 := hidP ho6
                have HSR := hidP hsr
                have HB3 := hidP hb3
                have HP3 := hidP (HP1.out.below hb3)
                have r3 := keeps hb3 r1
                clear hm6 hn3 ho6 hsr hb3 r0 r1
                go_wp2_with fail
                refine (wake_any c1 p p v os W3 HX.out HP3.out.st HP3.out.good.2.2).mono ?_
                rintro e W4 ⟨q7, m7, c7, v7, rfl, hm7, ho7, hs7, hg7, hf7, -⟩
                have HPW := hidP (HP1.out.wake HB3.out HSR.out HO6.out ho7 hs7 hg7 hf7)
                clear hm7 ho7 hs7 hg7 hf7 HO6 HSR HB3 HP3 r3
                go_wp2_with fail
                refine (err_same HL0.out 0 W4 HPW.out.1.bel).mono ?_
                rintro e W5 ⟨rfl, hb5⟩
                have HP5 := hidP (HPW.out.1.below hb5)
                have HS5 := hidP (And.intro (HPW.out.2.1.below hb5) (HPW.out.2.2.below hb5))
                clear hb5 HPW
                go_wp2_with fail
                refine (orders_same _ _ (woke c1 os) W5 HS5.out.1 HS5.out.2).mono ?_
                rintro e W6 ⟨rfl, hb6⟩
                have HP6 := hidP (HP5.out.below hb6)
                clear hb6 HP5 HS5
                go_wp2_with fail
                refine (all_any p p _ (left c1 os) _ HP6.out.st (by have := HP6.out.good.2.2; omega)).mono ?_
                rintro e wa ⟨qa, ca, rfl, hoa, hba⟩
                have HPA := hidP (HP6.out.below hba)
                have HSA := hidP hoa.sl
                clear hoa hba
                go_wp2_with fail
                refine (orders_same _ _ (left c1 os) wa HSA.out HPA.out.own.sl).mono ?_
                rintro e wb ⟨rfl, hbb⟩
                have HPB := hidP (HPA.out.below hbb)
                clear hbb HSA HPA
                have es := HES.out
                go_wp2_with fail
                go_roundg (sn - (kk + 1))
                case measure => clear es; omega
                case rel => exact ⟨kk + 1, _, _, _, _, _, hlt, hl6, Nat.le_refl _, by go_num, rfl, HPB.out⟩


end Go.Proofs.YtcfeailakljpnaaDoor.wak
