/- The walk of TapeTells. -/
import Derived.Test.YtgpbpaimfhlnhaaDoorTapRef1
import Derived.Test.YtgpbpaimfhlnhaaDoorTapRef2
import Derived.Test.YtgpbpaimfhlnhaaDoorTapRef3
import Derived.Test.YtgpbpaimfhlnhaaDoorTapPrt
import Derived.Test.YtgpbpaimfhlnhaaDoorTold
import Derived.Deep.QuietTactic
namespace Go.Proofs.YtgpbpaimfhlnhaaDoor.tap
open Go.RowKit Go.Proofs.YtgpbpaimfhlnhaaDoor.mee Go.Proofs.YtgpbpaimfhlnhaaDoor.flr Go.Proofs.YtgpbpaimfhlnhaaDoor.bld
open Go.Proofs.YtgpbpaimfhlnhaaDoor.spn (keeps rangeE errV errV_zero errV_of)
open Go.Proofs.YtgpbpaimfhlnhaaDoor.wak (OwnM)

theorem Own3.at {w : World} {base : Nat} {q : Option Addr} {n c : Nat} {l : List X3} (h : Own3 w base (.slice q n c) l) {k : Nat} (hk : k < l.length) : ∃ g off, q = some ⟨g, off, none⟩ ∧ base ≤ g ∧ g < w.heap.size ∧ ∀ i v, (xL l[k]!)[i]? = some v → w.cell? ⟨g, off + k * 3 + i, none⟩ = some v := by
  rcases h.2 with ⟨h1, h2⟩ | ⟨g, off, cap, cur, h1, h2, h3, h4⟩
  · omega
  · cases h1
    obtain ⟨hc, -, hb, hl⟩ := OwnM.cells h
    refine ⟨g, off, rfl, hb, hl, fun i v hv => ?_⟩
    have hi : i < 3 := (List.getElem?_eq_some_iff.1 hv).1
    have := hc (k * 3 + i) v (by rw [flatX_get l k hk i hi]; exact hv)
    rw [← Nat.add_assoc] at this
    exact this
theorem terr (B : World) (k e : Int) (w : World) (h : told.Inv B w) :
    Calls Tryd.prog 6 #[errV k, .int .i64 e] w fun ev w' => ev = .returned (.bool (k == e)) ∧ told.Inv B w' := told.error_any B k e w h

theorem terr2 (k e : Int) (w : World) (hL : told.Laid w) :
    Calls Tryd.prog 6 #[errV k, .int .i64 e] w fun ev w' => ev = .returned (.bool (k == e)) ∧ Below w.heap.size w w' := by
  go_enter Tryd.func6, Tryd.ntmps6
  go_wp2_with (go_at_call 15; refine (told.told_any k _ hL).mono ?_; rintro e w' ⟨rfl, hb⟩)
  go_ret
  exact ⟨rfl, hb⟩
set_option maxRecDepth 100000 in
set_option maxHeartbeats 4000000 in
theorem tells_bad (v : Value) (zs : List Ev) (w : World) (h : EL w v zs) (hI : told.Inv w w) (hT : Tab w) (hD : Wds w) (hz : ¬ tchk zs = 0) :
    Calls Tryd.prog 3 #[v] w fun e w' => e = .returned (.bool true) ∧ told.Inv w w' := by
  have HRE := hidT (revs_any v zs w h)
  have HCK := hidT (fun W (hW : told.Inv w W) => check_any v zs W (h.below hW.2))
  have HVO := hidT (fun W (hW : told.Inv w W) => volume_any v zs W (h.below hW.2))
  have HLA := hidT (fun W (hW : told.Inv w W) => last_any v zs W (h.below hW.2))
  have HPR := hidT (fun W (hW : told.Inv w W) => print_any v zs W (h.below hW.2) (hT.on hW.2 (Nat.le_refl _)) (hD.on hW.2 (Nat.le_refl _)))
  have HBK := hidT (fun W (hW : told.Inv w W) => book_any v zs W (h.below hW.2))
  have HER := hidT (fun k W (hW : told.Inv w W) => terr w k k W hW)
  rw [show volE zs = 0 from if_neg hz, show cntE zs = 0 from if_neg hz] at HVO
  rw [show lasE zs = 0 from if_neg hz] at HLA
  rw [show prtT zs = [] from if_neg hz, show ([] : List UInt8).toArray = #[] from rfl] at HPR
  rw [show rowsE zs = [] from if_neg hz] at HBK
  simp only [beq_self_eq_true] at HER
  obtain ⟨q, c, rfl, hnn⟩ := h.form
  have hne : (tchk zs == 0) = false := by simp [hz]
  have hev := errV_of hz
  have HEV := hidT hev
  have HI := hidT hI
  generalize tchk zs = k at *
  generalize zs.length = n at *
  have hlen : (n : Int) ≤ 9223372036854775807 := by omega
  clear h hI hT hD hev
  go_enter Tryd.func3, Tryd.ntmps3
  go_wp2_with fail
  refine HRE.out.mono ?_
  rintro e w1 ⟨rfl, hb1⟩
  have I1 := hidT (HI.out.on hb1)
  clear hb1 HRE
  go_wp2_with fail
  refine (HCK.out w1 I1.out).mono ?_
  rintro e w2 ⟨rfl, hb2⟩
  have I2 := hidT (I1.out.on hb2)
  clear hb2 HCK I1
  go_wp2_with fail
  refine (HER.out k w2 I2.out).mono ?_
  rintro e w3 ⟨rfl, i3⟩
  have I3 := hidT i3
  clear i3 I2
  go_wp2_with fail
  go_loopg [5, 6, 7, 8, 10, 11] 0 (fun _ s5 s6 s7 s8 s10 _ wr => s5 = .int .i64 0 ∧ s6 = .int .i64 0 ∧ s7 = .int .i64 0 ∧ s8 = .string ⟨#[]⟩ ∧ s10 = .int .i64 0 ∧ wr = w3)
  case atStart => exact ⟨rfl, rfl, rfl, rfl, rfl, rfl⟩
  case round =>
    obtain ⟨rfl, rfl, rfl, rfl, rfl, rfl⟩ := hrel
    by_cases h0 : (0 : Int) < (n : Int)
    all_goals
      go_wp2_with fail
      refine (HVO.out _ I3.out).mono ?_
      rintro e w4 ⟨rfl, hb4⟩
      have I4 := hidT (I3.out.on hb4)
      clear hb4
      go_wp2_with fail
      refine (HER.out k w4 I4.out).mono ?_
      rintro e w5 ⟨rfl, i5⟩
      have I5 := hidT i5
      clear i5
      go_wp2_with fail
      refine (HLA.out _ I5.out).mono ?_
      rintro e w6 ⟨rfl, hb6⟩
      have I6 := hidT (I5.out.on hb6)
      clear hb6
      go_wp2_with fail
      refine (HER.out k w6 I6.out).mono ?_
      rintro e w7 ⟨rfl, i7⟩
      have I7 := hidT i7
      clear i7
      go_wp2_with fail
      refine (HPR.out _ I7.out).mono ?_
      rintro e w8 ⟨rfl, hb8⟩
      have I8 := hidT (I7.out.on hb8)
      clear hb8
      go_wp2_with fail
      refine (HER.out k w8 I8.out).mono ?_
      rintro e w9 ⟨rfl, i9⟩
      have I9 := hidT i9
      clear i9
      go_wp2_with fail
      refine (HBK.out _ I9.out).mono ?_
      rintro e w10 ⟨x, rfl, hO, hb10⟩
      obtain ⟨xq, xc, rfl⟩ := OwnM.form hO
      have I10 := hidT (I9.out.on hb10)
      clear hb10 hO
      simp only [List.length_nil]
      go_wp2_with fail
      refine (HER.out k w10 I10.out).mono ?_
      rintro e w11 ⟨rfl, i11⟩
      have I11 := hidT i11
      clear i11
      go_wp2_with fail
      go_loopg [22] 0 (fun _ s22 wr => s22 = .int .i64 0 ∧ wr = w11)
      case atStart => exact ⟨rfl, rfl⟩
      case round =>
        obtain ⟨rfl, rfl⟩ := hrel
        go_wp2_with fail
        go_ret
        exact ⟨rfl, I11.out⟩

theorem guard3 : Tryd.prog.eqGuardType Tryd.prog.depth 43 = false := by kernel_rfl
theorem eq3 (a b c : Int) (W : World) : (Op.equalIn 10000 43 (.agg #[.int .i64 a, .int .i64 b, .int .i64 c]) (.agg #[.int .i64 a, .int .i64 b, .int .i64 c])).run Tryd.prog W = .ok true W := by
  rw [show (10000 : Nat) = 9999 + 1 from rfl, Op.equalIn]
  have h3 : ∀ (x : Int) (W : World), (Op.equalIn 9999 3 (.int .i64 x) (.int .i64 x)).run Tryd.prog W = .ok true W := fun x W => by
    rw [show (9999 : Nat) = 9998 + 1 from rfl, run_equalIn_int W 9998 3 .i64 .i64 x x Tryd.underlying3]
    simp
  simp only [Sem.run_bind, run_underlying Tryd.underlying43, Result.andThen_ok, Tryd.sizeOf3]
  simp [Std.Legacy.Range.forIn_eq_forIn_range', List.range', go_sem, h3]
theorem neq3 (a b c : Int) (W : World) : (binOp .neq 43 (.agg #[.int .i64 a, .int .i64 b, .int .i64 c]) (.agg #[.int .i64 a, .int .i64 b, .int .i64 c])).run Tryd.prog W = .ok (.bool false) W := by
  rw [run_neq_struct, eq3]
  rfl
theorem below_drewN3 {B : Nat} {a w : World} (h : Below B a w) (n : Nat) : Below B a (w.drewN n) := ⟨h.os, h.tape, h.output, h.size, h.block⟩
theorem txt_step (a b : List UInt8) : ((⟨a.toArray⟩ : ByteArray) ++ ⟨b.toArray⟩ ++ ⟨#[10]⟩) = ⟨(a ++ (b ++ [10])).toArray⟩ := by
  apply str_ext
  simp
set_option maxRecDepth 100000 in
set_option maxHeartbeats 8000000 in
theorem tells_good (v : Value) (zs : List Ev) (w : World) (h : EL w v zs) (hI : told.Inv w w) (hT : Tab w) (hD : Wds w) (hz : tchk zs = 0) :
    Calls Tryd.prog 3 #[v] w fun e w' => e = .returned (.bool true) ∧ told.Inv w w' := by
  obtain ⟨h4, hev⟩ := tchk_zero hz
  have HRE := hidT (revs_any v zs w h)
  have HCK := hidT (fun W (hW : told.Inv w W) => check_any v zs W (h.below hW.2))
  have HRB := hidT (fun W (hW : told.Inv w W) => rbook_any v zs W (h.below hW.2) h4 hev)
  have HVO := hidT (fun W (hW : told.Inv w W) => volume_any v zs W (h.below hW.2))
  have HLA := hidT (fun W (hW : told.Inv w W) => last_any v zs W (h.below hW.2))
  have HPR := hidT (fun W (hW : told.Inv w W) => print_any v zs W (h.below hW.2) (hT.on hW.2 (Nat.le_refl _)) (hD.on hW.2 (Nat.le_refl _)))
  have HBK := hidT (fun W (hW : told.Inv w W) => book_any v zs W (h.below hW.2))
  have HER : Hid (∀ W, told.Inv w W → Calls Tryd.prog 6 #[.nilIface, .int .i64 0] W fun ev w' => ev = .returned (.bool true) ∧ Below W.heap.size W w') := fun W hW => terr2 0 0 W hW.laid
  rw [show volE zs = sumQ (trs zs) from if_pos hz, show cntE zs = ((trs zs).length : Int) from if_pos hz, hz, errV_zero] at HVO
  rw [show lasE zs = lastP (trs zs) from if_pos hz, hz, errV_zero] at HLA
  rw [show prtT zs = pTxt zs from if_pos hz, hz, errV_zero] at HPR
  rw [show rowsE zs = rowsOf (heardF zs) from if_pos hz, hz, errV_zero] at HBK
  rw [hz, errV_zero] at HCK
  rw [hz] at HRE
  obtain ⟨q, c, rfl, hnn⟩ := h.form
  have HEV := hidT hev
  have HI := hidT hI
  have HEL := hidT h
  have HLEN : Hid (∀ kk, (pTxt (zs.take kk)).length ≤ 13200) := fun kk => by
    have h2 := pTxt_len (l := zs.take kk) (fun e he => hev e (List.mem_of_mem_take he))
    have h3 : (zs.take kk).length ≤ 400 := by rw [List.length_take]; omega
    omega
  have HSB : Hid (∀ kk, 0 ≤ sumQ (trs (zs.take kk)) ∧ sumQ (trs (zs.take kk)) ≤ 4000000 ∧ (trs (zs.take kk)).length ≤ 400) := fun kk => by
    have h1 := sumQ_bound (trs (zs.take kk)) (trs_td (fun e he => hev e (List.mem_of_mem_take he)))
    have h2 := trs_len (zs.take kk)
    have h3 : (zs.take kk).length ≤ 400 := by rw [List.length_take]; omega
    refine ⟨h1.1, ?_, by omega⟩
    have := h1.2
    omega
  generalize hR : rowsOf (heardF zs) = RS at *
  have HRS := hidT hR
  obtain ⟨n, hN⟩ : ∃ n, zs.length = n := ⟨_, rfl⟩
  have HN := hidT hN
  rw [hN] at h4 HEL
  simp only [hN] at HRE HCK HRB HVO HLA HPR HBK ⊢
  have HN4 := hidT h4
  have hlen : (n : Int) ≤ 9223372036854775807 := by omega
  clear h hI hT hD hev hz h4 hN hnn hR
  go_enter Tryd.func3, Tryd.ntmps3
  go_wp2_with fail
  refine HRE.out.mono ?_
  rintro e w1 ⟨rfl, hb1⟩
  have I1 := hidT (HI.out.on hb1)
  clear hb1 HRE
  go_wp2_with fail
  refine (HCK.out w1 I1.out).mono ?_
  rintro e w2 ⟨rfl, hb2⟩
  have I2 := hidT (I1.out.on hb2)
  clear hb2 HCK I1
  go_wp2_with fail
  refine (HER.out w2 I2.out).mono ?_
  rintro e w3 ⟨rfl, i3⟩
  have I3 := hidT (I2.out.on i3)
  clear i3 I2
  go_wp2_with fail
  refine (HRB.out w3 I3.out).mono ?_
  rintro e w4 ⟨y, rfl, hO4, hb4⟩
  obtain ⟨yq, yc, rfl⟩ := OwnM.form hO4
  have I4 := hidT (I3.out.on hb4)
  have O4 := hidT hO4
  clear hb4 hO4 HRB I3
  go_wp2_with fail
  go_loopg [5, 6, 7, 8, 10, 11] n (fun gg s5 s6 s7 s8 s10 _ wr => ∃ kk : Nat, kk ≤ n ∧ n - kk ≤ gg ∧ s5 = .int .i64 (sumQ (trs (zs.take kk))) ∧ s6 = .int .i64 ((trs (zs.take kk)).length : Int) ∧ s7 = .int .i64 (lastP (trs (zs.take kk))) ∧ s8 = .string ⟨(pTxt (zs.take kk)).toArray⟩ ∧ s10 = .int .i64 kk ∧ Aside (Below w4.heap.size w4 wr))
  case atStart => exact ⟨0, Nat.zero_le _, by omega, rfl, rfl, rfl, rfl, rfl, Below.refl _ _⟩
  case round =>
    obtain ⟨kk, hkk, hg, rfl, rfl, rfl, rfl, rfl, BW⟩ := hrel
    by_cases hlt : kk < n
    · have hltz : (kk : Int) < (n : Int) := by omega
      have hin1 : ¬ ((kk : Int) < 0) := by omega
      have hlz : kk < zs.length := by rw [HN.out]; exact hlt
      obtain ⟨g, off, rfl, hgl, hcc⟩ := HEL.out.at hlz
      have hee := HEV.out _ (show zs[kk]! ∈ zs by rw [getE _ _ hlz]; exact List.getElem_mem hlz)
      have HPT := hidT (pTxt_take hlz)
      have HBW : Hid (Below w.heap.size w wr) := I4.out.2.trans (BW.out.mono I4.out.2.size)
      obtain ⟨x, hx⟩ : ∃ x, zs[kk]! = x := ⟨_, rfl⟩
      have HY : Hid (x.what = 2 → trs (zs.take (kk + 1)) = trs (zs.take kk) ++ [x.tr]) := fun h2 => by
        have := trs_yes hlz (by rw [hx]; exact h2)
        rw [hx] at this
        exact this
      have HX : Hid (¬ x.what = 2 → trs (zs.take (kk + 1)) = trs (zs.take kk)) := fun h2 => trs_no hlz (by rw [hx]; exact h2)
      rw [hx] at hcc hee HPT
      have hq : x.what = 2 → 1 ≤ x.tr.qty ∧ x.tr.qty ≤ 10000 := fun h2 => by
        unfold evB at hee
        rw [if_pos h2] at hee
        simp [tdB] at hee
        omega
      have hel := eTxt_len hee
      have hca := rtext_any x wr hee
      obtain ⟨tx, htx⟩ : ∃ tx, eTxt x = tx := ⟨_, rfl⟩
      rw [htx] at hel hca HPT
      obtain ⟨e1, e2, e3, e4, ⟨t1, t2, t3, t4, t5, t6⟩⟩ := x
      simp only [evL, tV, List.cons_append, List.nil_append] at hca
      simp only at hq HY HX
      have HCA := hidT hca
      have c0 := keeps HBW.out (hcc 0 _ rfl)
      have c1 := keeps HBW.out (hcc 1 _ rfl)
      have c2 := keeps HBW.out (hcc 2 _ rfl)
      have c3 := keeps HBW.out (hcc 3 _ rfl)
      have c4 := keeps HBW.out (hcc 4 _ rfl)
      have c5 := keeps HBW.out (hcc 5 _ rfl)
      have c6 := keeps HBW.out (hcc 6 _ rfl)
      have c7 := keeps HBW.out (hcc 7 _ rfl)
      have c8 := keeps HBW.out (hcc 8 _ rfl)
      have c9 := keeps HBW.out (hcc 9 _ rfl)
      simp only [Nat.add_zero] at c0
      have HWK := hidT (wrapSuccT kk n hlt (by have := HN4.out; omega))
      have HKK : Hid (kk < n ∧ n - kk ≤ gk) := ⟨hlt, hg⟩
      have hgw : g < wr.heap.size := Nat.lt_of_lt_of_le hgl HBW.out.size
      have hp1 := HLEN.out kk
      have hs1 := HSB.out kk
      obtain ⟨PX, hPX⟩ : ∃ PX, pTxt (zs.take kk) = PX := ⟨_, rfl⟩
      obtain ⟨TS, hTS⟩ : ∃ TS, trs (zs.take kk) = TS := ⟨_, rfl⟩
      rw [hPX] at hp1 HPT
      rw [hTS] at hs1 HY HX
      simp only [hPX, hTS]
      have g1 : ¬ 9223372036854775807 < PX.length + tx.length := by omega
      have g2 : ¬ 9223372036854775807 < PX.length + tx.length + 1 := by omega
      obtain ⟨m, hm⟩ : ∃ m, TS.length = m := ⟨_, rfl⟩
      rw [hm] at hs1
      have hwm : wrap64 ((m : Int) + 1) = (m : Int) + 1 := by unfold wrap64; omega
      have HM := hidT hm
      simp only [hm]
      clear hcc hx hkk hg hlt hee hca htx hp1 hPX hTS hel hm
      by_cases h2 : e1 = 2
      · subst h2
        have hqq := hq rfl
        have hws : wrap64 (sumQ TS + t6) = sumQ TS + t6 := by unfold wrap64; omega
        have HY2 := hidT (HY.out rfl)
        have HNX : Hid (sumQ (trs (zs.take (kk + 1))) = sumQ TS + t6 ∧ ((trs (zs.take (kk + 1))).length : Int) = (m : Int) + 1 ∧ lastP (trs (zs.take (kk + 1))) = t5) := by
          rw [HY2.out, sumQ_append, List.length_append, HM.out]
          refine ⟨by simp [sumQ], by simp, ?_⟩
          unfold lastP
          rw [List.getLast?_concat]
        clear HY HX HY2 hq hqq hs1
        generalize sumQ TS = S at *
        generalize lastP TS = LP at *
        go_wp2_with fail
        refine HCA.out.mono ?_
        rintro e w5 ⟨rfl, hb5⟩
        have HB5 := hidT (BW.out.trans (hb5.mono BW.out.size))
        clear hb5 HCA c0 c1 c2 c3 c4 c5 c6 c7 c8 c9
        go_wp2_with fail
        go_roundg (n - (kk + 1))
        case measure => have := HKK.out; omega
        case rel => exact ⟨kk + 1, HKK.out.1, Nat.le_refl _, by rw [HNX.out.1], by rw [HNX.out.2.1], by rw [HNX.out.2.2], by rw [HPT.out, ← txt_step], by go_num, HB5.out⟩
      · have h2b : (e1 == 2) = false := by simp [h2]
        have HX2 := hidT (HX.out h2)
        clear HY HX hq hs1
        generalize hS : sumQ TS = S at *
        have HS := hidT hS
        clear hS
        go_wp2_with fail
        refine HCA.out.mono ?_
        rintro e w5 ⟨rfl, hb5⟩
        have HB5 := hidT (BW.out.trans (hb5.mono BW.out.size))
        clear hb5 HCA c0 c1 c2 c3 c4 c5 c6 c7 c8 c9
        go_wp2_with fail
        go_roundg (n - (kk + 1))
        case measure => have := HKK.out; omega
        case rel => exact ⟨kk + 1, HKK.out.1, Nat.le_refl _, by rw [HX2.out, HS.out], by rw [HX2.out, HM.out], by rw [HX2.out], by rw [HPT.out, ← txt_step], by go_num, HB5.out⟩
    · have hltz : ¬ (kk : Int) < (n : Int) := by omega
      have hke : kk = n := by omega
      have hTk : zs.take kk = zs := List.take_of_length_le (by rw [HN.out]; omega)
      have J4 := hidT (show told.Inv w wr from ⟨I4.out.1, I4.out.2.trans (BW.out.mono I4.out.2.size)⟩)
      have P4 := hidT (OwnM.below O4.out BW.out)
      simp only [hTk]
      generalize sumQ (trs zs) = SQ at *
      generalize lastP (trs zs) = LP at *
      generalize (trs zs).length = TN at *
      generalize pTxt zs = PX at *
      clear BW hke hTk hkk hg hlt I4 O4
      go_wp2_with fail
      refine (HVO.out _ J4.out).mono ?_
      rintro e w5 ⟨rfl, hb5⟩
      have J5 := hidT (J4.out.on hb5)
      have P5 := hidT (OwnM.below P4.out hb5)
      clear hb5 HVO J4 P4
      go_wp2_with fail
      refine (HER.out w5 J5.out).mono ?_
      rintro e w6 ⟨rfl, hb6⟩
      have J6 := hidT (J5.out.on hb6)
      have P6 := hidT (OwnM.below P5.out hb6)
      clear hb6 J5 P5
      go_wp2_with fail
      refine (HLA.out _ J6.out).mono ?_
      rintro e w7 ⟨rfl, hb7⟩
      have J7 := hidT (J6.out.on hb7)
      have P7 := hidT (OwnM.below P6.out hb7)
      clear hb7 J6 P6 HLA
      go_wp2_with fail
      refine (HER.out w7 J7.out).mono ?_
      rintro e w8 ⟨rfl, hb8⟩
      have J8 := hidT (J7.out.on hb8)
      have P8 := hidT (OwnM.below P7.out hb8)
      clear hb8 J7 P7
      go_wp2_with fail
      refine (HPR.out _ J8.out).mono ?_
      rintro e w9 ⟨rfl, hb9⟩
      have J9 := hidT (J8.out.on hb9)
      have P9 := hidT (OwnM.below P8.out hb9)
      clear hb9 J8 P8 HPR
      go_wp2_with fail
      refine (HER.out w9 J9.out).mono ?_
      rintro e w10 ⟨rfl, hb10⟩
      have J10 := hidT (J9.out.on hb10)
      have P10 := hidT (OwnM.below P9.out hb10)
      clear hb10 J9 P9
      go_wp2_with fail
      refine (HBK.out _ J10.out).mono ?_
      rintro e w11 ⟨x, rfl, hO11, hb11⟩
      obtain ⟨xq, xc, rfl⟩ := OwnM.form hO11
      have J11 := hidT (J10.out.on hb11)
      have P11 := hidT (OwnM.below P10.out hb11)
      have O11 := hidT hO11
      clear hb11 hO11 HBK J10 P10
      go_wp2_with fail
      refine (HER.out w11 J11.out).mono ?_
      rintro e w12 ⟨rfl, hb12⟩
      have J12 := hidT (J11.out.on hb12)
      have P12 := hidT (OwnM.below P11.out hb12)
      have O12 := hidT (OwnM.below O11.out hb12)
      clear hb12 J11 P11 O11
      obtain ⟨L, hL⟩ : ∃ L, RS.length = L := ⟨_, rfl⟩
      have HL := hidT hL
      have P13 : Hid (Own3 w12 w3.heap.size (.slice yq L yc) RS) := by show Own3 _ _ _ _; rw [← hL]; exact P12.out
      have O13 : Hid (Own3 w12 w10.heap.size (.slice xq L xc) RS) := by show Own3 _ _ _ _; rw [← hL]; exact O12.out
      clear P12 O12
      simp only [hL]
      have HL4 : Hid (L ≤ 1000000) := by
        show L ≤ 1000000
        rw [← hL, ← HRS.out]
        exact Nat.le_trans (rowsUp_len _ 9999) (by decide)
      have hll : (L : Int) ≤ 9223372036854775807 := by have := HL4.out; omega
      clear hL
      go_wp2_with fail
      go_loopg [22] L (fun gg s22 wr => ∃ kk : Nat, kk ≤ L ∧ L - kk ≤ gg ∧ s22 = .int .i64 kk ∧ Aside (Below w12.heap.size w12 wr))
      case atStart => exact ⟨0, Nat.zero_le _, by omega, rfl, Below.refl _ _⟩
      case round =>
        obtain ⟨jj, hjj, hg2, rfl, BX⟩ := hrel
        by_cases hlt2 : jj < L
        · have hltz2 : (jj : Int) < (L : Int) := by omega
          have hin2 : ¬ ((jj : Int) < 0) := by omega
          have hlz2 : jj < RS.length := by rw [HL.out]; exact hlt2
          obtain ⟨ga, oa, rfl, -, hla, hca⟩ := Own3.at (OwnM.below O13.out BX.out) hlz2
          obtain ⟨gb, ob, rfl, -, hlb, hcb⟩ := Own3.at (OwnM.below P13.out BX.out) hlz2
          obtain ⟨x, hx⟩ : ∃ x, RS[jj]! = x := ⟨_, rfl⟩
          obtain ⟨x1, x2, x3⟩ := x
          rw [hx] at hca hcb
          have a0 := hca 0 _ rfl
          have a1 := hca 1 _ rfl
          have a2 := hca 2 _ rfl
          have b0 := hcb 0 _ rfl
          have b1 := hcb 1 _ rfl
          have b2 := hcb 2 _ rfl
          simp only [Nat.add_zero] at a0 a1 a2 b0 b1 b2
          have e1 := wrapSuccT jj L hlt2 (by have := HL4.out; omega)
          have hq := neq3 x1 x2 x3
          have hg3 := guard3
          clear hx hca hcb
          go_wp2_with fail
          go_quiet (fail)
          go_wp2_with fail
          go_roundg (L - (jj + 1))
          case measure => clear e1; omega
          case rel => exact ⟨jj + 1, hlt2, Nat.le_refl _, by go_num, below_drewN3 BX.out _⟩
        · have hltz2 : ¬ (jj : Int) < (L : Int) := by omega
          go_wp2_with fail
          go_ret
          exact ⟨by simp, J12.out.1, J12.out.2.trans (BX.out.mono J12.out.2.size)⟩
theorem tells_any {w : World} (v : Value) (zs : List Ev) (h : EL w v zs) (hI : told.Inv w w) (hT : Tab w) (hD : Wds w) :
    Calls Tryd.prog 3 #[v] w fun e w' => e = .returned (.bool true) ∧ told.Inv w w' := by
  by_cases hz : tchk zs = 0
  · exact tells_good v zs w h hI hT hD hz
  · exact tells_bad v zs w h hI hT hD hz
end Go.Proofs.YtgpbpaimfhlnhaaDoor.tap
