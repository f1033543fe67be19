/- Contracts over this seat's translation: the document's Put, at a side that is right. Contracts over this seat's translation: the document's Add and Out, at a side that is right. Contracts over this seat's translation: the document's Kept and Join. Contracts over this seat's translation: the document's Join. -/
import Derived.Test.YtpbbgbjgndikdaaGreatDoorSidLay
import Derived.Test.YtpbbgbjgndikdaaGreatDoorSidMem
import Derived.Test.YtpbbgbjgndikdaaGreatDoorBokFact
import Derived.Test.YtpbbgbjgndikdaaGreatDoorKinDo
import Derived.Test.YtpbbgbjgndikdaaGreatDoorBokRef1
import Derived.Test.YtpbbgbjgndikdaaGreatDoorMeeHid
import Derived.Deep.RegionHeld3
namespace Go.Proofs.YtpbbgbjgndikdaaGreatDoor.sid
open Go.RowKit Go.Proofs.YtpbbgbjgndikdaaGreatDoor.spn Go.Proofs.YtpbbgbjgndikdaaGreatDoor.que
open Go.Proofs.YtpbbgbjgndikdaaGreatDoor.tickP (priceB sideB betOk betR)

set_option maxRecDepth 100000 in
set_option maxHeartbeats 4000000 in
theorem rput_some (s p r1 r2 r3 r4 r5 : Int) (b o cc n : Nat) (ls : List L) (ps : List RP) (w : World) (hps : ps.map toL = ls) (hn : ls.length = n) (hc : n ≤ cc) (hm : cc ≤ 9223372036854775807) (hb : b < w.heap.size) (hl : rlv.Lies w b o (ps.map (·.1))) (he : ∀ p ∈ ps, SLe w (sv p.1) p.2) (hs : sideB s = true) (hp : priceB p = true) (hpr : ∀ l ∈ ls, priceB l.price = true) (h60 : n ≤ 60) (hr60 : ∀ l ∈ ls, l.rests.length ≤ 60 ∧ l.rests ≠ []) :
    Calls Tryz.prog 76 #[.int .i64 s, .slice (some ⟨b, o, none⟩) n cc, .int .i64 p, .agg #[.int .i64 r1, .int .i64 r2, .int .i64 r3, .int .i64 r4, .int .i64 r5]] w fun x w' => ∃ v', x = .returned v' ∧ LS w' v' (putL s p ⟨r1, r2, r3, r4, r5⟩ ls) ∧ Below w.heap.size w w' := by
  have HLL : Hid (LL w b o ls) := by rw [← hps]; exact loose_ll hl he
  have HN : Hid (ls.length = n) := hn
  have HPN : Hid (ps.length = n) := by show _ = _; rw [← hn, ← hps, List.length_map]
  have HS : Hid (sideB s = true ∧ priceB p = true ∧ ∀ l ∈ ls, priceB l.price = true) := ⟨hs, hp, hpr⟩
  have HL : Hid (rlv.Lies w b o (ps.map (·.1))) := hl
  have HE : Hid (∀ p ∈ ps, SLe w (sv p.1) p.2) := he
  have HPS : Hid (ps.map toL = ls) := hps
  have HR60 : Hid (∀ l ∈ ls, l.rests.length ≤ 60 ∧ l.rests ≠ []) := hr60
  clear hl he hps hs hp hpr hn hr60
  obtain ⟨V, hV⟩ : ∃ V, V = w.alloc (.cells #[.int .i64 r1, .int .i64 r2, .int .i64 r3, .int .i64 r4, .int .i64 r5] 26) := ⟨_, rfl⟩
  have HBV : Hid (Below w.heap.size w V) := by rw [hV]; exact (Below.refl _ _).alloc (Nat.le_refl _) _
  have HRV : Hid (V.heap[w.heap.size]? = some (.cells #[.int .i64 r1, .int .i64 r2, .int .i64 r3, .int .i64 r4, .int .i64 r5] 26 (0, 0))) := by rw [hV]; exact heap_alloc_new w _
  have n0 : ¬ ((n : Int) < 0) := by omega
  have n1 : (n : Int) ≤ (cc : Int) := by omega
  go_enter Tryz.func76, Tryz.ntmps76
  go_wp2_with fail
  rw [← hV]
  clear hV
  go_loopg [9] n (fun gg s9 wr => ∃ kk : Nat, kk ≤ n ∧ n - kk ≤ gg ∧ s9 = .int .i64 kk ∧ Aside (∀ j, j < kk → leadB s ls[j]!.price p = true) ∧ Aside (Below V.heap.size V wr))
  case atStart => exact ⟨0, Nat.zero_le _, by omega, rfl, fun j hj => absurd hj (Nat.not_lt_zero _), Below.refl _ _⟩
  case round =>
    obtain ⟨kk, hkk, hg, rfl, hP, BW⟩ := hrel
    have HW : Hid (Below w.heap.size w wr) := HBV.out.trans (BW.out.mono HBV.out.size)
    by_cases hlt : kk < n
    · have hltz : (kk : Int) < (n : Int) := by omega
      have hlz : kk < ls.length := by rw [HN.out]; exact hlt
      obtain ⟨l, hl⟩ : ∃ l, ls[kk]! = l := ⟨_, rfl⟩
      obtain ⟨pp, zs⟩ := l
      obtain ⟨rq, rc, a0, a1, hsl⟩ := HLL.out.at hlz hl
      have HMEM : Hid (ls[kk]! ∈ ls) := by show _ ∈ _; rw [getE _ _ hlz]; exact List.getElem_mem hlz
      have HZL : Hid (zs.length ≤ 60 ∧ zs ≠ []) := by have h := HR60.out _ HMEM.out; rw [hl] at h; exact h
      have HZS : Hid (ls[kk]!.rests = zs) := by show _ = _; rw [hl]
      have HSR : Hid (SL wr (.slice rq zs.length rc) zs) := (hsl.sl HZL.out.2).below HW.out
      have c0 := keeps HW.out a0
      have rc1 := keeps HW.out a1
      have HAL : Hid (aheadB (wrap64 (3 - s)) ls[kk]!.price p = leadB s ls[kk]!.price p) := ahead_lead HS.out.1 (HS.out.2.2 _ HMEM.out) HS.out.2.1
      have hin1 : ¬ ((kk : Int) < 0) := by omega
      have hin2 : (kk : Int) ≤ (cc : Int) := by omega
      have hin3 : (kk : Int) ≤ (n : Int) := by omega
      have hin4 : ¬ (((kk + 1 : Nat) : Int) < 0) := by omega
      have hin5 : ((kk + 1 : Nat) : Int) ≤ (n : Int) := by omega
      have hw1 : wrap64 ((kk : Int) + 1) = ((kk + 1 : Nat) : Int) := by unfold wrap64; omega
      have HAH : Hid (∀ W, Calls Tryz.prog 65 #[.int .i64 (wrap64 (3 - s)), .int .i64 pp, .int .i64 p] W fun e w' => e = .returned (.bool (leadB s pp p)) ∧ w' = W) := fun W => by
        have h := ref_ahead (wrap64 (3 - s)) pp p W
        have e := HAL.out
        rw [hl] at e
        simp only [] at e
        rw [e] at h
        exact h
      generalize hT : leadB s pp p = t at HAH
      have HT : Hid (leadB s ls[kk]!.price p = t ∧ ls[kk]!.price = pp) := by rw [hl]; exact ⟨hT, rfl⟩
      clear a0 a1 hsl HAL hl hT
      cases t
      · go_wp2_with fail
        refine (HAH.out _).mono ?_
        rintro e wr ⟨rfl, rfl⟩
        by_cases hpe : pp = p
        · have hpe2 : ls[kk]!.price = p := by rw [HT.out.2]; exact hpe
          have hpe' : p = pp := hpe.symm
          subst hpe'
          by_cases hcap : kk + 1 = cc
          · obtain rfl : n = kk + 1 := by omega
            subst hcap
            have HX1 : Hid (rlv.SL wr (.slice (some ⟨b, o, none⟩) kk (kk + 1)) ((ps.take kk).map (·.1))) := by
              show rlv.SL _ _ _
              rw [List.map_take]
              exact rlv.sl_take (by rw [List.length_map, HPN.out]; omega) (by rw [List.length_map, HPN.out]; exact hc) hm (Nat.lt_of_lt_of_le hb HW.out.size) (HL.out.below hb HW.out)
            have HX5 : Hid (rlv.SL wr (.slice (some ⟨b, o, none⟩) 0 0) ((ps.drop (kk + 1)).map (·.1))) := by
              show rlv.SL _ _ _
              rw [List.map_drop]
              rw [List.drop_eq_nil_of_le (by rw [List.length_map, HPN.out]; omega)]
              exact .inr ⟨b, o, 0, rfl, by simp, by omega, Nat.lt_of_lt_of_le hb HW.out.size, fun j hj => absurd hj (Nat.not_lt_zero _)⟩
            obtain ⟨v1, w1, A1, O1, B1⟩ := lay_first wr (.slice (some ⟨b, o, none⟩) kk (kk + 1)) _ HX1.out (by simp; omega)
            obtain ⟨v2, w2, A2, O2, B2⟩ := lay_rests w1 (.slice rq zs.length rc) zs ((HSR.out.below B1)) (by have := HZL.out; omega)
            have x2 := (B1.trans (B2.mono B1.size))
            obtain ⟨q3, m3, c3, w3, A3, O3, B3⟩ := lay_rest w1.heap.size w2 v2 zs r1 r2 r3 r4 r5 O2 B2.size (by have := HZL.out; omega)
            obtain ⟨v4, w4, v5, w5, A4, A5, E5, B5⟩ := lay_last wr w1 w3 v1 (.slice (some ⟨b, o, none⟩) 0 0) (ps.take kk) (ps.drop (kk + 1)) p q3 m3 c3 (zs ++ [⟨r1, r2, r3, r4, r5⟩]) B1 O1 (B2.trans B3) O3 HX5.out (fun y hy => (HE.out y (List.mem_of_mem_take hy)).below HW.out) (fun y hy => (HE.out y (List.mem_of_mem_drop hy)).below HW.out) (by have := HPN.out; simp; omega)
            have HF : Hid (LS w5 v5 (putL s p ⟨r1, r2, r3, r4, r5⟩ ls) ∧ Below w.heap.size w w5) := by
              refine ⟨?_, HW.out.trans (B5.mono HW.out.size)⟩
              rw [putL_same hlz hP.out HT.out.1 hpe2]
              rw [List.map_take, List.map_drop, HPS.out] at E5
              rw [HZS.out]
              exact E5
            have HA1 : Hid (appL (.slice none 0 0) (.slice (some ⟨b, o, none⟩) kk (kk + 1)) wr v1 w1) := A1
            have HA2 : Hid (appR (.slice none 0 0) (.slice rq zs.length rc) w1 v2 w2) := A2
            have HA3 : Hid (appR v2 (.slice (some ⟨w2.heap.size, 0, none⟩) 1 1) (w2.alloc (.cells #[.int .i64 r1, .int .i64 r2, .int .i64 r3, .int .i64 r4, .int .i64 r5] 26)) (.slice q3 m3 c3) w3) := A3
            have HA4 : Hid (appL v1 (.slice (some ⟨w3.heap.size, 0, none⟩) 1 1) (w3.alloc (.cells #[.int .i64 p, .slice q3 m3 c3] 34)) v4 w4) := A4
            have HA5 : Hid (appL v4 (.slice (some ⟨b, o, none⟩) 0 0) w4 v5 w5) := A5
            obtain ⟨y0, y1, y2, y3, y4, -⟩ := rowFive HRV.out
            have z0 := keeps B2 (keeps B1 (keeps BW.out y0))
            have z1 := keeps B2 (keeps B1 (keeps BW.out y1))
            have z2 := keeps B2 (keeps B1 (keeps BW.out y2))
            have z3 := keeps B2 (keeps B1 (keeps BW.out y3))
            have z4 := keeps B2 (keeps B1 (keeps BW.out y4))
            have z5 := keeps B1 rc1
            have z6 := keeps B1 c0
            clear A1 A2 x2 A3 A4 A5 O1 O2 O3 B1 B2 B3 B5 E5 y0 y1 y2 y3 y4
            clear HX1 HX5
            go_upto_region 5 with fail
            go_upto_region 7 with (at_builtin; refine Lib.wpList_append_run _ rfl _ _ _ _ rfl _ _ rfl rfl _ _ HA1.out ?_)
            go_upto_region 10 with (at_builtin; refine Lib.wpList_append_run _ rfl _ _ _ _ rfl _ _ rfl rfl _ _ HA2.out ?_)
            go_upto_region 11 with (at_builtin; refine Lib.wpList_append_run _ rfl _ _ _ _ rfl _ _ rfl rfl _ _ HA3.out ?_)
            go_upto_region 12 with (at_builtin; refine Lib.wpList_append_run _ rfl _ _ _ _ rfl _ _ rfl rfl _ _ HA4.out ?_)
            go_wp2_with (at_builtin; refine Lib.wpList_append_run _ rfl _ _ _ _ rfl _ _ rfl rfl _ _ HA5.out ?_)
            go_ret
            exact ⟨_, rfl, HF.out⟩
          · have HX1 : Hid (rlv.SL wr (.slice (some ⟨b, o, none⟩) kk cc) ((ps.take kk).map (·.1))) := by
              show rlv.SL _ _ _
              rw [List.map_take]
              exact rlv.sl_take (by rw [List.length_map, HPN.out]; omega) (by rw [List.length_map, HPN.out]; exact hc) hm (Nat.lt_of_lt_of_le hb HW.out.size) (HL.out.below hb HW.out)
            have HX5 : Hid (rlv.SL wr (.slice (some ⟨b, o + (kk + 1) * 2, none⟩) (n - (kk + 1)) (cc - (kk + 1))) ((ps.drop (kk + 1)).map (·.1))) := by
              show rlv.SL _ _ _
              rw [List.map_drop]
              have h := rlv.sl_drop (k := (kk + 1)) (by rw [List.length_map, HPN.out]; omega) (by rw [List.length_map, HPN.out]; exact hc) hm (Nat.lt_of_lt_of_le hb HW.out.size) (HL.out.below hb HW.out)
              rw [List.length_map, HPN.out] at h
              unfold rlv.offK at h
              rw [if_neg hcap] at h
              exact h
            obtain ⟨v1, w1, A1, O1, B1⟩ := lay_first wr (.slice (some ⟨b, o, none⟩) kk cc) _ HX1.out (by simp; omega)
            obtain ⟨v2, w2, A2, O2, B2⟩ := lay_rests w1 (.slice rq zs.length rc) zs ((HSR.out.below B1)) (by have := HZL.out; omega)
            have x2 := (B1.trans (B2.mono B1.size))
            obtain ⟨q3, m3, c3, w3, A3, O3, B3⟩ := lay_rest w1.heap.size w2 v2 zs r1 r2 r3 r4 r5 O2 B2.size (by have := HZL.out; omega)
            obtain ⟨v4, w4, v5, w5, A4, A5, E5, B5⟩ := lay_last wr w1 w3 v1 (.slice (some ⟨b, o + (kk + 1) * 2, none⟩) (n - (kk + 1)) (cc - (kk + 1))) (ps.take kk) (ps.drop (kk + 1)) p q3 m3 c3 (zs ++ [⟨r1, r2, r3, r4, r5⟩]) B1 O1 (B2.trans B3) O3 HX5.out (fun y hy => (HE.out y (List.mem_of_mem_take hy)).below HW.out) (fun y hy => (HE.out y (List.mem_of_mem_drop hy)).below HW.out) (by have := HPN.out; simp; omega)
            have HF : Hid (LS w5 v5 (putL s p ⟨r1, r2, r3, r4, r5⟩ ls) ∧ Below w.heap.size w w5) := by
              refine ⟨?_, HW.out.trans (B5.mono HW.out.size)⟩
              rw [putL_same hlz hP.out HT.out.1 hpe2]
              rw [List.map_take, List.map_drop, HPS.out] at E5
              rw [HZS.out]
              exact E5
            have HA1 : Hid (appL (.slice none 0 0) (.slice (some ⟨b, o, none⟩) kk cc) wr v1 w1) := A1
            have HA2 : Hid (appR (.slice none 0 0) (.slice rq zs.length rc) w1 v2 w2) := A2
            have HA3 : Hid (appR v2 (.slice (some ⟨w2.heap.size, 0, none⟩) 1 1) (w2.alloc (.cells #[.int .i64 r1, .int .i64 r2, .int .i64 r3, .int .i64 r4, .int .i64 r5] 26)) (.slice q3 m3 c3) w3) := A3
            have HA4 : Hid (appL v1 (.slice (some ⟨w3.heap.size, 0, none⟩) 1 1) (w3.alloc (.cells #[.int .i64 p, .slice q3 m3 c3] 34)) v4 w4) := A4
            have HA5 : Hid (appL v4 (.slice (some ⟨b, o + (kk + 1) * 2, none⟩) (n - (kk + 1)) (cc - (kk + 1))) w4 v5 w5) := A5
            obtain ⟨y0, y1, y2, y3, y4, -⟩ := rowFive HRV.out
            have z0 := keeps B2 (keeps B1 (keeps BW.out y0))
            have z1 := keeps B2 (keeps B1 (keeps BW.out y1))
            have z2 := keeps B2 (keeps B1 (keeps BW.out y2))
            have z3 := keeps B2 (keeps B1 (keeps BW.out y3))
            have z4 := keeps B2 (keeps B1 (keeps BW.out y4))
            have z5 := keeps B1 rc1
            have z6 := keeps B1 c0
            clear A1 A2 x2 A3 A4 A5 O1 O2 O3 B1 B2 B3 B5 E5 y0 y1 y2 y3 y4
            clear HX1 HX5
            go_upto_region 5 with fail
            go_upto_region 7 with (at_builtin; refine Lib.wpList_append_run _ rfl _ _ _ _ rfl _ _ rfl rfl _ _ HA1.out ?_)
            go_upto_region 10 with (at_builtin; refine Lib.wpList_append_run _ rfl _ _ _ _ rfl _ _ rfl rfl _ _ HA2.out ?_)
            go_upto_region 11 with (at_builtin; refine Lib.wpList_append_run _ rfl _ _ _ _ rfl _ _ rfl rfl _ _ HA3.out ?_)
            go_upto_region 12 with (at_builtin; refine Lib.wpList_append_run _ rfl _ _ _ _ rfl _ _ rfl rfl _ _ HA4.out ?_)
            go_wp2_with (at_builtin; refine Lib.wpList_append_run _ rfl _ _ _ _ rfl _ _ rfl rfl _ _ HA5.out ?_)
            go_ret
            exact ⟨_, rfl, HF.out⟩
        · have hpe2 : ¬ ls[kk]!.price = p := by rw [HT.out.2]; exact hpe
          have hpb : (pp == p) = false := by simp [hpe]
          have hcap : ¬ kk = cc := by omega
          have HX1 : Hid (rlv.SL wr (.slice (some ⟨b, o, none⟩) kk cc) ((ps.take kk).map (·.1))) := by
            show rlv.SL _ _ _
            rw [List.map_take]
            exact rlv.sl_take (by rw [List.length_map, HPN.out]; omega) (by rw [List.length_map, HPN.out]; exact hc) hm (Nat.lt_of_lt_of_le hb HW.out.size) (HL.out.below hb HW.out)
          have HX5 : Hid (rlv.SL wr (.slice (some ⟨b, o + kk * 2, none⟩) (n - kk) (cc - kk)) ((ps.drop kk).map (·.1))) := by
            show rlv.SL _ _ _
            rw [List.map_drop]
            have h := rlv.sl_drop (k := kk) (by rw [List.length_map, HPN.out]; omega) (by rw [List.length_map, HPN.out]; exact hc) hm (Nat.lt_of_lt_of_le hb HW.out.size) (HL.out.below hb HW.out)
            rw [List.length_map, HPN.out] at h
            unfold rlv.offK at h
            rw [if_neg hcap] at h
            exact h
          obtain ⟨v1, w1, A1, O1, B1⟩ := lay_first wr (.slice (some ⟨b, o, none⟩) kk cc) _ HX1.out (by simp; omega)
          have O2 : OwnQ w1 w1.heap.size (.slice none 0 0) [] := qown_nil _ _
          have B2 : Below w1.heap.size w1 w1 := Below.refl _ _
          obtain ⟨q3, m3, c3, w3, A3, O3, B3⟩ := lay_rest w1.heap.size w1 (.slice none 0 0) ([] : List R) r1 r2 r3 r4 r5 O2 B2.size (by simp)
          obtain ⟨v4, w4, v5, w5, A4, A5, E5, B5⟩ := lay_last wr w1 w3 v1 (.slice (some ⟨b, o + kk * 2, none⟩) (n - kk) (cc - kk)) (ps.take kk) (ps.drop kk) p q3 m3 c3 (([] : List R) ++ [⟨r1, r2, r3, r4, r5⟩]) B1 O1 (B2.trans B3) O3 HX5.out (fun y hy => (HE.out y (List.mem_of_mem_take hy)).below HW.out) (fun y hy => (HE.out y (List.mem_of_mem_drop hy)).below HW.out) (by have := HPN.out; simp; omega)
          have HF : Hid (LS w5 v5 (putL s p ⟨r1, r2, r3, r4, r5⟩ ls) ∧ Below w.heap.size w w5) := by
            refine ⟨?_, HW.out.trans (B5.mono HW.out.size)⟩
            rw [putL_new hlz hP.out HT.out.1 hpe2]
            rw [List.map_take, List.map_drop, HPS.out] at E5
            exact E5
          have HA1 : Hid (appL (.slice none 0 0) (.slice (some ⟨b, o, none⟩) kk cc) wr v1 w1) := A1
          have HA3 : Hid (appR (.slice none 0 0) (.slice (some ⟨w1.heap.size, 0, none⟩) 1 1) (w1.alloc (.cells #[.int .i64 r1, .int .i64 r2, .int .i64 r3, .int .i64 r4, .int .i64 r5] 26)) (.slice q3 m3 c3) w3) := A3
          have HA4 : Hid (appL v1 (.slice (some ⟨w3.heap.size, 0, none⟩) 1 1) (w3.alloc (.cells #[.int .i64 p, .slice q3 m3 c3] 34)) v4 w4) := A4
          have HA5 : Hid (appL v4 (.slice (some ⟨b, o + kk * 2, none⟩) (n - kk) (cc - kk)) w4 v5 w5) := A5
          obtain ⟨y0, y1, y2, y3, y4, -⟩ := rowFive HRV.out
          have z0 := keeps B1 (keeps BW.out y0)
          have z1 := keeps B1 (keeps BW.out y1)
          have z2 := keeps B1 (keeps BW.out y2)
          have z3 := keeps B1 (keeps BW.out y3)
          have z4 := keeps B1 (keeps BW.out y4)
          have z6 := keeps B1 c0
          clear A1 A3 A4 A5 O1 O2 O3 B1 B2 B3 B5 E5 y0 y1 y2 y3 y4
          clear HX1 HX5
          go_upto_region 5 with fail
          go_upto_region 7 with (at_builtin; refine Lib.wpList_append_run _ rfl _ _ _ _ rfl _ _ rfl rfl _ _ HA1.out ?_)
          go_upto_region 10 with fail
          go_upto_region 11 with (at_builtin; refine Lib.wpList_append_run _ rfl _ _ _ _ rfl _ _ rfl rfl _ _ HA3.out ?_)
          go_upto_region 12 with (at_builtin; refine Lib.wpList_append_run _ rfl _ _ _ _ rfl _ _ rfl rfl _ _ HA4.out ?_)
          go_wp2_with (at_builtin; refine Lib.wpList_append_run _ rfl _ _ _ _ rfl _ _ rfl rfl _ _ HA5.out ?_)
          go_ret
          exact ⟨_, rfl, HF.out⟩
      · go_wp2_with fail
        refine (HAH.out _).mono ?_
        rintro e wr ⟨rfl, rfl⟩
        go_wp2_with fail
        go_roundg (n - (kk + 1))
        case measure => omega
        case rel => exact ⟨kk + 1, by omega, by omega, by go_num, fun j hj => by
          by_cases e : j = kk
          · rw [e]; exact HT.out.1
          · exact hP.out j (by omega), BW⟩
    · have hltz : ¬ (kk : Int) < (n : Int) := by omega
      obtain rfl : kk = n := by omega
      by_cases hcap : kk = cc
      · subst hcap
        have HX1 : Hid (rlv.SL wr (.slice (some ⟨b, o, none⟩) kk kk) ((ps.take kk).map (·.1))) := by
          show rlv.SL _ _ _
          rw [List.map_take]
          exact rlv.sl_take (by rw [List.length_map, HPN.out]; omega) (by rw [List.length_map, HPN.out]; exact hc) hm (Nat.lt_of_lt_of_le hb HW.out.size) (HL.out.below hb HW.out)
        have HX5 : Hid (rlv.SL wr (.slice (some ⟨b, o, none⟩) 0 0) ((ps.drop kk).map (·.1))) := by
          show rlv.SL _ _ _
          rw [List.map_drop]
          rw [List.drop_eq_nil_of_le (by rw [List.length_map, HPN.out]; omega)]
          exact .inr ⟨b, o, 0, rfl, by simp, by omega, Nat.lt_of_lt_of_le hb HW.out.size, fun j hj => absurd hj (Nat.not_lt_zero _)⟩
        obtain ⟨v1, w1, A1, O1, B1⟩ := lay_first wr (.slice (some ⟨b, o, none⟩) kk kk) _ HX1.out (by simp; omega)
        have O2 : OwnQ w1 w1.heap.size (.slice none 0 0) [] := qown_nil _ _
        have B2 : Below w1.heap.size w1 w1 := Below.refl _ _
        obtain ⟨q3, m3, c3, w3, A3, O3, B3⟩ := lay_rest w1.heap.size w1 (.slice none 0 0) ([] : List R) r1 r2 r3 r4 r5 O2 B2.size (by simp)
        obtain ⟨v4, w4, v5, w5, A4, A5, E5, B5⟩ := lay_last wr w1 w3 v1 (.slice (some ⟨b, o, none⟩) 0 0) (ps.take kk) (ps.drop kk) p q3 m3 c3 (([] : List R) ++ [⟨r1, r2, r3, r4, r5⟩]) B1 O1 (B2.trans B3) O3 HX5.out (fun y hy => (HE.out y (List.mem_of_mem_take hy)).below HW.out) (fun y hy => (HE.out y (List.mem_of_mem_drop hy)).below HW.out) (by have := HPN.out; simp; omega)
        have HF : Hid (LS w5 v5 (putL s p ⟨r1, r2, r3, r4, r5⟩ ls) ∧ Below w.heap.size w w5) := by
          refine ⟨?_, HW.out.trans (B5.mono HW.out.size)⟩
          rw [putL_end (by rw [HN.out]; exact hP.out)]
          rw [List.map_take, HPS.out, List.take_of_length_le (by rw [HN.out]; exact Nat.le_refl _), List.map_drop, HPS.out, List.drop_eq_nil_of_le (by rw [HN.out]; exact Nat.le_refl _)] at E5
          exact E5
        have HA1 : Hid (appL (.slice none 0 0) (.slice (some ⟨b, o, none⟩) kk kk) wr v1 w1) := A1
        have HA3 : Hid (appR (.slice none 0 0) (.slice (some ⟨w1.heap.size, 0, none⟩) 1 1) (w1.alloc (.cells #[.int .i64 r1, .int .i64 r2, .int .i64 r3, .int .i64 r4, .int .i64 r5] 26)) (.slice q3 m3 c3) w3) := A3
        have HA4 : Hid (appL v1 (.slice (some ⟨w3.heap.size, 0, none⟩) 1 1) (w3.alloc (.cells #[.int .i64 p, .slice q3 m3 c3] 34)) v4 w4) := A4
        have HA5 : Hid (appL v4 (.slice (some ⟨b, o, none⟩) 0 0) w4 v5 w5) := A5
        obtain ⟨y0, y1, y2, y3, y4, -⟩ := rowFive HRV.out
        have z0 := keeps B1 (keeps BW.out y0)
        have z1 := keeps B1 (keeps BW.out y1)
        have z2 := keeps B1 (keeps BW.out y2)
        have z3 := keeps B1 (keeps BW.out y3)
        have z4 := keeps B1 (keeps BW.out y4)
        clear A1 A3 A4 A5 O1 O2 O3 B1 B2 B3 B5 E5 y0 y1 y2 y3 y4
        clear HX1 HX5
        go_upto_region 5 with fail
        go_upto_region 7 with (at_builtin; refine Lib.wpList_append_run _ rfl _ _ _ _ rfl _ _ rfl rfl _ _ HA1.out ?_)
        go_upto_region 10 with fail
        go_upto_region 11 with (at_builtin; refine Lib.wpList_append_run _ rfl _ _ _ _ rfl _ _ rfl rfl _ _ HA3.out ?_)
        go_upto_region 12 with (at_builtin; refine Lib.wpList_append_run _ rfl _ _ _ _ rfl _ _ rfl rfl _ _ HA4.out ?_)
        go_wp2_with (at_builtin; refine Lib.wpList_append_run _ rfl _ _ _ _ rfl _ _ rfl rfl _ _ HA5.out ?_)
        go_ret
        exact ⟨_, rfl, HF.out⟩
      · have HX1 : Hid (rlv.SL wr (.slice (some ⟨b, o, none⟩) kk cc) ((ps.take kk).map (·.1))) := by
          show rlv.SL _ _ _
          rw [List.map_take]
          exact rlv.sl_take (by rw [List.length_map, HPN.out]; omega) (by rw [List.length_map, HPN.out]; exact hc) hm (Nat.lt_of_lt_of_le hb HW.out.size) (HL.out.below hb HW.out)
        have HX5 : Hid (rlv.SL wr (.slice (some ⟨b, o + kk * 2, none⟩) 0 (cc - kk)) ((ps.drop kk).map (·.1))) := by
          show rlv.SL _ _ _
          rw [List.map_drop]
          have h := rlv.sl_drop (k := kk) (by rw [List.length_map, HPN.out]; omega) (by rw [List.length_map, HPN.out]; exact hc) hm (Nat.lt_of_lt_of_le hb HW.out.size) (HL.out.below hb HW.out)
          rw [List.length_map, HPN.out] at h
          unfold rlv.offK at h
          rw [if_neg hcap, Nat.sub_self] at h
          exact h
        obtain ⟨v1, w1, A1, O1, B1⟩ := lay_first wr (.slice (some ⟨b, o, none⟩) kk cc) _ HX1.out (by simp; omega)
        have O2 : OwnQ w1 w1.heap.size (.slice none 0 0) [] := qown_nil _ _
        have B2 : Below w1.heap.size w1 w1 := Below.refl _ _
        obtain ⟨q3, m3, c3, w3, A3, O3, B3⟩ := lay_rest w1.heap.size w1 (.slice none 0 0) ([] : List R) r1 r2 r3 r4 r5 O2 B2.size (by simp)
        obtain ⟨v4, w4, v5, w5, A4, A5, E5, B5⟩ := lay_last wr w1 w3 v1 (.slice (some ⟨b, o + kk * 2, none⟩) 0 (cc - kk)) (ps.take kk) (ps.drop kk) p q3 m3 c3 (([] : List R) ++ [⟨r1, r2, r3, r4, r5⟩]) B1 O1 (B2.trans B3) O3 HX5.out (fun y hy => (HE.out y (List.mem_of_mem_take hy)).below HW.out) (fun y hy => (HE.out y (List.mem_of_mem_drop hy)).below HW.out) (by have := HPN.out; simp; omega)
        have HF : Hid (LS w5 v5 (putL s p ⟨r1, r2, r3, r4, r5⟩ ls) ∧ Below w.heap.size w w5) := by
          refine ⟨?_, HW.out.trans (B5.mono HW.out.size)⟩
          rw [putL_end (by rw [HN.out]; exact hP.out)]
          rw [List.map_take, HPS.out, List.take_of_length_le (by rw [HN.out]; exact Nat.le_refl _), List.map_drop, HPS.out, List.drop_eq_nil_of_le (by rw [HN.out]; exact Nat.le_refl _)] at E5
          exact E5
        have HA1 : Hid (appL (.slice none 0 0) (.slice (some ⟨b, o, none⟩) kk cc) wr v1 w1) := A1
        have HA3 : Hid (appR (.slice none 0 0) (.slice (some ⟨w1.heap.size, 0, none⟩) 1 1) (w1.alloc (.cells #[.int .i64 r1, .int .i64 r2, .int .i64 r3, .int .i64 r4, .int .i64 r5] 26)) (.slice q3 m3 c3) w3) := A3
        have HA4 : Hid (appL v1 (.slice (some ⟨w3.heap.size, 0, none⟩) 1 1) (w3.alloc (.cells #[.int .i64 p, .slice q3 m3 c3] 34)) v4 w4) := A4
        have HA5 : Hid (appL v4 (.slice (some ⟨b, o + kk * 2, none⟩) 0 (cc - kk)) w4 v5 w5) := A5
        obtain ⟨y0, y1, y2, y3, y4, -⟩ := rowFive HRV.out
        have z0 := keeps B1 (keeps BW.out y0)
        have z1 := keeps B1 (keeps BW.out y1)
        have z2 := keeps B1 (keeps BW.out y2)
        have z3 := keeps B1 (keeps BW.out y3)
        have z4 := keeps B1 (keeps BW.out y4)
        clear A1 A3 A4 A5 O1 O2 O3 B1 B2 B3 B5 E5 y0 y1 y2 y3 y4
        clear HX1 HX5
        go_upto_region 5 with fail
        go_upto_region 7 with (at_builtin; refine Lib.wpList_append_run _ rfl _ _ _ _ rfl _ _ rfl rfl _ _ HA1.out ?_)
        go_upto_region 10 with fail
        go_upto_region 11 with (at_builtin; refine Lib.wpList_append_run _ rfl _ _ _ _ rfl _ _ rfl rfl _ _ HA3.out ?_)
        go_upto_region 12 with (at_builtin; refine Lib.wpList_append_run _ rfl _ _ _ _ rfl _ _ rfl rfl _ _ HA4.out ?_)
        go_wp2_with (at_builtin; refine Lib.wpList_append_run _ rfl _ _ _ _ rfl _ _ rfl rfl _ _ HA5.out ?_)
        go_ret
        exact ⟨_, rfl, HF.out⟩

set_option maxRecDepth 100000 in
set_option maxHeartbeats 2000000 in
theorem rput_nil (s p r1 r2 r3 r4 r5 : Int) (w : World) :
    Calls Tryz.prog 76 #[.int .i64 s, .slice none 0 0, .int .i64 p, .agg #[.int .i64 r1, .int .i64 r2, .int .i64 r3, .int .i64 r4, .int .i64 r5]] w fun x w' => ∃ v', x = .returned v' ∧ LS w' v' (putL s p ⟨r1, r2, r3, r4, r5⟩ []) ∧ Below w.heap.size w w' := by
  obtain ⟨V, hV⟩ : ∃ V, V = w.alloc (.cells #[.int .i64 r1, .int .i64 r2, .int .i64 r3, .int .i64 r4, .int .i64 r5] 26) := ⟨_, rfl⟩
  have HBV : Hid (Below w.heap.size w V) := by rw [hV]; exact (Below.refl _ _).alloc (Nat.le_refl _) _
  have HRV : Hid (V.heap[w.heap.size]? = some (.cells #[.int .i64 r1, .int .i64 r2, .int .i64 r3, .int .i64 r4, .int .i64 r5] 26 (0, 0))) := by rw [hV]; exact heap_alloc_new w _
  go_enter Tryz.func76, Tryz.ntmps76
  go_wp2_with fail
  rw [← hV]
  clear hV
  go_loopg [9] 0 (fun gg s9 wr => s9 = .int .i64 0 ∧ wr = V)
  case atStart => exact ⟨rfl, rfl⟩
  case round =>
    obtain ⟨rfl, rfl⟩ := hrel
    obtain ⟨v1, w1, A1, O1, B1⟩ := lay_first wr (.slice none 0 0) _ (.inl ⟨rfl, rfl⟩) (by simp)
    have O2 : OwnQ w1 w1.heap.size (.slice none 0 0) [] := qown_nil _ _
    have B2 : Below w1.heap.size w1 w1 := Below.refl _ _
    obtain ⟨q3, m3, c3, w3, A3, O3, B3⟩ := lay_rest w1.heap.size w1 (.slice none 0 0) ([] : List R) r1 r2 r3 r4 r5 O2 B2.size (by simp)
    obtain ⟨v4, w4, v5, w5, A4, A5, E5, B5⟩ := lay_last wr w1 w3 v1 (.slice none 0 0) ([] : List RP) ([] : List RP) p q3 m3 c3 (([] : List R) ++ [⟨r1, r2, r3, r4, r5⟩]) B1 O1 (B2.trans B3) O3 (.inl ⟨rfl, rfl⟩) (by simp) (by simp) (by simp)
    have HF : Hid (LS w5 v5 (putL s p ⟨r1, r2, r3, r4, r5⟩ []) ∧ Below w.heap.size w w5) := ⟨E5, HBV.out.trans (B5.mono HBV.out.size)⟩
    have HA1 : Hid (appL (.slice none 0 0) (.slice none 0 0) wr v1 w1) := A1
    have HA3 : Hid (appR (.slice none 0 0) (.slice (some ⟨w1.heap.size, 0, none⟩) 1 1) (w1.alloc (.cells #[.int .i64 r1, .int .i64 r2, .int .i64 r3, .int .i64 r4, .int .i64 r5] 26)) (.slice q3 m3 c3) w3) := A3
    have HA4 : Hid (appL v1 (.slice (some ⟨w3.heap.size, 0, none⟩) 1 1) (w3.alloc (.cells #[.int .i64 p, .slice q3 m3 c3] 34)) v4 w4) := A4
    have HA5 : Hid (appL v4 (.slice none 0 0) w4 v5 w5) := A5
    obtain ⟨y0, y1, y2, y3, y4, -⟩ := rowFive HRV.out
    have z0 := keeps B1 y0
    have z1 := keeps B1 y1
    have z2 := keeps B1 y2
    have z3 := keeps B1 y3
    have z4 := keeps B1 y4
    clear A1 A3 A4 A5 O1 O2 O3 B1 B2 B3 B5 E5 y0 y1 y2 y3 y4
    go_upto_region 5 with fail
    go_upto_region 7 with (at_builtin; refine Lib.wpList_append_run _ rfl _ _ _ _ rfl _ _ rfl rfl _ _ HA1.out ?_)
    go_upto_region 10 with fail
    go_upto_region 11 with (at_builtin; refine Lib.wpList_append_run _ rfl _ _ _ _ rfl _ _ rfl rfl _ _ HA3.out ?_)
    go_upto_region 12 with (at_builtin; refine Lib.wpList_append_run _ rfl _ _ _ _ rfl _ _ rfl rfl _ _ HA4.out ?_)
    go_wp2_with (at_builtin; refine Lib.wpList_append_run _ rfl _ _ _ _ rfl _ _ rfl rfl _ _ HA5.out ?_)
    go_ret
    exact ⟨_, rfl, HF.out⟩
theorem rput_good (s p r1 r2 r3 r4 r5 : Int) (v : Value) (ls : List L) (w : World) (h : LS w v ls) (h0 : schk s ls = 0) (hp : priceB p = true) :
    Calls Tryz.prog 76 #[.int .i64 s, v, .int .i64 p, .agg #[.int .i64 r1, .int .i64 r2, .int .i64 r3, .int .i64 r4, .int .i64 r5]] w fun x w' => ∃ v', x = .returned v' ∧ LS w' v' (putL s p ⟨r1, r2, r3, r4, r5⟩ ls) ∧ Below w.heap.size w w' := by
  obtain ⟨z1, z2, z3, -⟩ := schk_zero h0
  have hE := sgo_each z2
  have hlen := len_cnt hE
  rcases h with ⟨rfl, rfl⟩ | ⟨b, o, c, rfl, h2, h3, h4, h5⟩
  · exact rput_nil s p r1 r2 r3 r4 r5 w
  · obtain ⟨ps, e1, e2, e3⟩ := ll_loose ls o h5
    exact rput_some s p r1 r2 r3 r4 r5 b o c ls.length ls ps w e1 rfl h2 h3 h4 e2 e3 z1 hp (fun l hl => price_of (hE l hl)) (by omega) (fun l hl => ⟨by have := rests_le hl; omega, (lchk_zero (hE l hl)).2.1⟩)
end Go.Proofs.YtpbbgbjgndikdaaGreatDoor.sid
namespace Go.Proofs.YtpbbgbjgndikdaaGreatDoor.sid
open Go.RowKit Go.Proofs.YtpbbgbjgndikdaaGreatDoor.spn Go.Proofs.YtpbbgbjgndikdaaGreatDoor.que
open Go.Proofs.YtpbbgbjgndikdaaGreatDoor.tickP (priceB sideB betOk betR)

/-- What is wrong with one more at a side that is right, as the document goes. -/
def raddE (ls : List L) (p : Int) (r : R) : Int := if priceB p = true then (if rchk r = 0 then (if 0 ≤ (atGo r.id 0 ls).1 then 7 else if 60 ≤ cnt ls then 4 else 0) else rchk r) else 1
theorem raddE_is {s : Int} {ls : List L} {p : Int} {r : R} (h0 : schk s ls = 0) : raddE ls p r = addE s ls p r := by
  have hc := (schk_zero h0).2.2.1
  unfold raddE addE
  rw [if_pos h0]
  by_cases hp : priceB p = true
  · rw [if_pos hp, if_pos hp]
    by_cases hr : rchk r = 0
    · rw [if_pos hr, if_pos hr]
      have hm := atGo_mem r.id ls 0 (Int.le_refl _)
      rw [← ids_allR] at hm
      by_cases h1 : 0 ≤ (atGo r.id 0 ls).1
      · rw [if_pos h1, if_pos (hm.1 h1)]
      · rw [if_neg h1, if_neg (fun h => h1 (hm.2 h))]
        by_cases h2 : 60 ≤ cnt ls
        · rw [if_pos h2, if_pos (by omega)]
        · rw [if_neg h2, if_neg (by omega)]
    · rw [if_neg hr, if_neg hr]
  · rw [if_neg hp, if_neg hp]

def RaddPost (s : Int) (ls : List L) (p : Int) (r : R) (w : World) (x : Ending) (w' : World) : Prop :=
  ∃ v', x = .returned (.tuple #[v', .int .i64 (addE s ls p r)]) ∧ LS w' v' (addL s ls p r) ∧ Below w.heap.size w w'
theorem radd_bad {s : Int} {ls : List L} {p : Int} {r : R} {w W : World} {k : Int} (h : addE s ls p r = k) (hk : ¬ k = 0) (hW : Below w.heap.size w W) : RaddPost s ls p r w (.returned (.tuple #[.slice none 0 0, .int .i64 k])) W :=
  ⟨_, by rw [h], by rw [addL_bad h hk]; exact ls_nil _, hW⟩

set_option maxRecDepth 100000 in
set_option maxHeartbeats 2000000 in
theorem radd_good (s p r1 r2 r3 r4 r5 : Int) (vq : Option Addr) (vn vc : Nat) (ls : List L) (w : World) (h : LS w (.slice vq vn vc) ls) (h0 : schk s ls = 0) :
    Calls Tryz.prog 47 #[.int .i64 s, .slice vq vn vc, .int .i64 p, .agg #[.int .i64 r1, .int .i64 r2, .int .i64 r3, .int .i64 r4, .int .i64 r5]] w fun x w' => RaddPost s ls p ⟨r1, r2, r3, r4, r5⟩ w x w' := by
  obtain ⟨z1, z2, z3, -⟩ := schk_zero h0
  have hE := sgo_each z2
  have hlen := len_cnt hE
  have HR60 : Hid ((∀ l ∈ ls, l.rests.length ≤ 60) ∧ ls.length ≤ 10000) := ⟨fun l hl => by have := rests_le hl; omega, by omega⟩
  have HLS : Hid (∀ W, Below w.heap.size w W → LS W (.slice vq vn vc) ls) := fun W hW => h.below hW
  have H0 : Hid (schk s ls = 0) := h0
  have HBD : Hid (∀ k W, addE s ls p ⟨r1, r2, r3, r4, r5⟩ = k → ¬ k = 0 → Below w.heap.size w W → RaddPost s ls p ⟨r1, r2, r3, r4, r5⟩ w (.returned (.tuple #[.slice none 0 0, .int .i64 k])) W) := fun k W a b c => radd_bad a b c
  have HAE : Hid (raddE ls p ⟨r1, r2, r3, r4, r5⟩ = addE s ls p ⟨r1, r2, r3, r4, r5⟩) := raddE_is h0
  have HOK : Hid (∀ v' W, addE s ls p ⟨r1, r2, r3, r4, r5⟩ = 0 → LS W v' (putL s p ⟨r1, r2, r3, r4, r5⟩ ls) → Below w.heap.size w W → RaddPost s ls p ⟨r1, r2, r3, r4, r5⟩ w (.returned (.tuple #[v', .int .i64 0])) W) := fun v' W a b c => ⟨v', by rw [a], by unfold addL; rw [if_pos a]; exact b, c⟩
  generalize hPO : RaddPost s ls p ⟨r1, r2, r3, r4, r5⟩ w = PO at *
  clear z1 z2 z3 hE hlen h h0 hPO
  obtain ⟨V, hV⟩ : ∃ V, V = w.alloc (.cells #[.int .i64 r1, .int .i64 r2, .int .i64 r3, .int .i64 r4, .int .i64 r5] 26) := ⟨_, rfl⟩
  have HBV : Hid (Below w.heap.size w V) := by rw [hV]; exact (Below.refl _ _).alloc (Nat.le_refl _) _
  have HRV : Hid (V.heap[w.heap.size]? = some (.cells #[.int .i64 r1, .int .i64 r2, .int .i64 r3, .int .i64 r4, .int .i64 r5] 26 (0, 0))) := by rw [hV]; exact heap_alloc_new w _
  obtain ⟨y0, y1, y2, y3, y4, -⟩ := rowFive HRV.out
  go_enter Tryz.func47, Tryz.ntmps47
  go_wp2_with fail
  rw [← hV]
  clear hV
  refine (rprice_any p _).mono ?_
  rintro e V ⟨rfl, rfl⟩
  unfold raddE at HAE
  by_cases hp2 : priceB p = false
  · have ha : addE s ls p ⟨r1, r2, r3, r4, r5⟩ = 1 := by rw [← HAE.out, if_neg (by simp [hp2])]
    have HF := HBD.out 1 V ha (by decide) HBV.out
    rw [hp2]
    clear hp2 ha
    go_wp2_with fail
    exact HF
  have hp : priceB p = true := by simpa using hp2
  have HP : Hid (priceB p = true) := hp
  rw [hp]
  rw [if_pos hp] at HAE
  clear hp hp2
  go_wp2_with fail
  refine (rrest_any r1 r2 r3 r4 r5 _).mono ?_
  rintro e w1 ⟨rfl, b1⟩
  have HB1 : Hid (Below w.heap.size w w1) := HBV.out.trans (b1.mono HBV.out.size)
  have x0 := keeps b1 y0
  have x1 := keeps b1 y1
  have x2 := keeps b1 y2
  have x3 := keeps b1 y3
  have x4 := keeps b1 y4
  clear b1 y0 y1 y2 y3 y4
  by_cases hr : rchk ⟨r1, r2, r3, r4, r5⟩ = 0
  rotate_left
  · have ha : addE s ls p ⟨r1, r2, r3, r4, r5⟩ = rchk ⟨r1, r2, r3, r4, r5⟩ := by rw [← HAE.out, if_neg hr]
    have HF := HBD.out _ w1 ha hr HB1.out
    generalize rchk ⟨r1, r2, r3, r4, r5⟩ = k at *
    have hkb : (k != 0) = true := by simp [hr]
    clear ha
    go_wp2_with fail
    exact HF
  rw [if_pos hr] at HAE
  rw [hr]
  clear hr
  go_wp2_with fail
  refine (rat_any _ ls r1 _ (HLS.out w1 HB1.out)).mono ?_
  rintro e w2 ⟨rfl, k2, rfl⟩
  have HB2 : Hid (Below w.heap.size w (w1.drewN k2)) := belowN HB1.out k2
  have z0 := keeps (below_drewN' w1 k2) x0
  have z1 := keeps (below_drewN' w1 k2) x1
  have z2 := keeps (below_drewN' w1 k2) x2
  have z3 := keeps (below_drewN' w1 k2) x3
  have z4 := keeps (below_drewN' w1 k2) x4
  clear x0 x1 x2 x3 x4
  generalize w1.drewN k2 = w2 at *
  generalize atGo r1 0 ls = A at *
  obtain ⟨A1, A2⟩ := A
  simp only [] at HAE ⊢
  by_cases h7 : 0 ≤ A1
  · have ha : addE s ls p ⟨r1, r2, r3, r4, r5⟩ = 7 := by rw [← HAE.out, if_pos h7]
    have HF := HBD.out 7 w2 ha (by decide) HB2.out
    clear ha
    go_wp2_with fail
    exact HF
  rw [if_neg h7] at HAE
  go_wp2_with fail
  refine (rcount_any _ ls _ (HLS.out w2 HB2.out) HR60.out.1 HR60.out.2).mono ?_
  rintro e w3 ⟨rfl, k3, rfl⟩
  have HB3 : Hid (Below w.heap.size w (w2.drewN k3)) := belowN HB2.out k3
  have y0 := keeps (below_drewN' w2 k3) z0
  have y1 := keeps (below_drewN' w2 k3) z1
  have y2 := keeps (below_drewN' w2 k3) z2
  have y3 := keeps (below_drewN' w2 k3) z3
  have y4 := keeps (below_drewN' w2 k3) z4
  clear z0 z1 z2 z3 z4
  generalize w2.drewN k3 = w3 at *
  generalize cnt ls = C at *
  by_cases h4 : 60 ≤ C
  · have ha : addE s ls p ⟨r1, r2, r3, r4, r5⟩ = 4 := by rw [← HAE.out, if_pos h4]
    have HF := HBD.out 4 w3 ha (by decide) HB3.out
    clear ha
    go_wp2_with fail
    exact HF
  rw [if_neg h4] at HAE
  have HA0 : Hid (addE s ls p ⟨r1, r2, r3, r4, r5⟩ = 0) := HAE.out.symm
  go_wp2_with fail
  refine (rput_good s p r1 r2 r3 r4 r5 _ ls _ (HLS.out w3 HB3.out) H0.out HP.out).mono ?_
  rintro e w4 ⟨v', rfl, l4, b4⟩
  have HF := HOK.out v' w4 HA0.out l4 (HB3.out.trans (b4.mono HB3.out.size))
  clear l4 b4
  go_wp2_with fail
  exact HF

/-- Where an id is, as the document goes. -/
theorem idx_at {id : Int} {zs : List R} (h : (zs.map (·.id)).Nodup) : ∀ {k : Nat} (hk : k < zs.length), zs[k].id = id → idx id zs = k := by
  induction zs with
  | nil => intro k hk; simp at hk
  | cons r t ih =>
    intro k hk he
    rw [List.map_cons, List.nodup_cons] at h
    cases k with
    | zero =>
      simp at he
      rw [idx_cons, if_pos he]; rfl
    | succ k =>
      have hk2 : k < t.length := by simpa using hk
      simp at he
      have e := ih h.2 hk2 he
      rw [idx_cons, if_neg (fun e2 => h.1 (by rw [e2, ← he]; exact List.mem_map.2 ⟨t[k], List.getElem_mem hk2, rfl⟩)), e, if_neg (by omega)]
      omega
theorem atGo_at2 {id : Int} : ∀ {ls : List L} (j : Int), 0 ≤ j → ((allR ls).map (·.id)).Nodup → ∀ {i k : Nat} (hi : i < ls.length) (hk : k < ls[i].rests.length), ls[i].rests[k].id = id → atGo id j ls = (j + i, (k : Int)) := by
  intro ls
  induction ls with
  | nil => intro j _ _ i k hi; simp at hi
  | cons l t ih =>
    intro j hj hn i k hi hk he
    rw [allR_cons, List.map_append, List.nodup_append] at hn
    obtain ⟨n1, n2, n3⟩ := hn
    cases i with
    | zero =>
      simp at hk he
      have e := idx_at n1 hk he
      unfold atGo
      rw [e, if_pos (by omega)]
      simp
    | succ i =>
      have hi2 : i < t.length := by simpa using hi
      simp at hk he
      have hm : id ∈ (allR t).map (·.id) := by
        rw [← he]
        refine List.mem_map.2 ⟨t[i].rests[k], ?_, rfl⟩
        unfold allR
        exact List.mem_flatMap.2 ⟨t[i], List.getElem_mem hi2, List.getElem_mem hk⟩
      have hx : ¬ 0 ≤ idx id l.rests := fun h => n3 id ((idx_mem id l.rests).1 h) id hm rfl
      unfold atGo
      rw [if_neg hx, ih (j + 1) (by omega) n2 hi2 hk he]
      congr 1
      omega
/-- .. is where the program finds it. -/
theorem at_find {s : Int} {ls : List L} {id : Int} (h0 : schk s ls = 0) : (findE s ls id = 0 ∧ atGo id 0 ls = findP s ls id ∧ 0 ≤ (atGo id 0 ls).1) ∨ (findE s ls id = 5 ∧ (atGo id 0 ls).1 < 0) := by
  have hn := (schk_zero h0).2.2.2
  rw [ids_allR] at hn
  by_cases hf : findE s ls id = 0
  · obtain ⟨-, i, k, hi, hk, he, hp⟩ := find_spot hf
    have e := atGo_at2 0 (Int.le_refl _) hn hi hk he
    rw [Int.zero_add] at e
    exact .inl ⟨hf, by rw [e, hp], by rw [e]; simp⟩
  · refine .inr ⟨?_, ?_⟩
    · by_cases hs : (lastAt (flatP 0 ls) id).isSome = true
      · exact absurd (by unfold findE; rw [if_pos h0, if_pos hs]) hf
      · unfold findE; rw [if_pos h0, if_neg hs]
    · apply Classical.byContradiction
      intro h
      have hm := (atGo_mem id ls 0 (Int.le_refl _)).1 (by omega)
      rw [← ids_allR] at hm
      have h2 := id_ids.1 hm
      exact hf (by
        unfold findE
        rw [if_pos h0, if_pos (by
          cases hl : lastAt (flatP 0 ls) id with
          | none => exact absurd hl h2
          | some t => rfl)])

set_option maxRecDepth 100000 in
set_option maxHeartbeats 4000000 in
theorem rout_some (b o cc n : Nat) (ls : List L) (ps : List RP) (i k : Nat) (w : World) (hps : ps.map toL = ls) (hn : ls.length = n) (hc : n ≤ cc) (hm : cc ≤ 9223372036854775807) (hb : b < w.heap.size) (hl : rlv.Lies w b o (ps.map (·.1))) (he : ∀ p ∈ ps, SLe w (sv p.1) p.2) (hi : i < n) (p : Int) (zs : List R) (hli : ls[i]! = ⟨p, zs⟩) (hk : k < zs.length) (h60 : n ≤ 60) (hr60 : zs.length ≤ 60) :
    Calls Tryz.prog 21 #[.slice (some ⟨b, o, none⟩) n cc, .int .i64 i, .int .i64 k] w fun x w' => ∃ v', x = .returned v' ∧ LS w' v' (dropL ls i k) ∧ Below w.heap.size w w' := by
  have HLL : Hid (LL w b o ls) := by rw [← hps]; exact loose_ll hl he
  have HN : Hid (ls.length = n) := hn
  have HPN : Hid (ps.length = n) := by show _ = _; rw [← hn, ← hps, List.length_map]
  have HL : Hid (rlv.Lies w b o (ps.map (·.1))) := hl
  have HE : Hid (∀ p ∈ ps, SLe w (sv p.1) p.2) := he
  have HPS : Hid (ps.map toL = ls) := hps
  have HLI : Hid (ls[i]! = ⟨p, zs⟩) := hli
  obtain ⟨rq, rc, c0, c1, hsl⟩ := HLL.out.at (by rw [HN.out]; exact hi) hli
  have hne : zs ≠ [] := fun e => by rw [e] at hk; simp at hk
  clear hl he hps hn hli
  have i0 : ¬ ((i : Int) < 0) := by omega
  have i1 : (i : Int) < (n : Int) := by omega
  have i2 : (i : Int) ≤ (cc : Int) := by omega
  have i3 : ¬ (((i + 1 : Nat) : Int) < 0) := by omega
  have i4 : ((i + 1 : Nat) : Int) ≤ (n : Int) := by omega
  have i5 : (n : Int) ≤ (cc : Int) := by omega
  have w1e : wrap64 ((i : Int) + 1) = ((i + 1 : Nat) : Int) := by unfold wrap64; omega
  have HX1 : Hid (rlv.SL w (.slice (some ⟨b, o, none⟩) i cc) ((ps.take i).map (·.1))) := by
    show rlv.SL _ _ _
    rw [List.map_take]
    exact rlv.sl_take (by rw [List.length_map, HPN.out]; omega) (by rw [List.length_map, HPN.out]; exact hc) hm hb HL.out
  obtain ⟨v1, w1, A1, O1, B1⟩ := lay_first w (.slice (some ⟨b, o, none⟩) i cc) _ HX1.out (by simp; omega)
  have HA1 : Hid (appL (.slice none 0 0) (.slice (some ⟨b, o, none⟩) i cc) w v1 w1) := A1
  have HB1 : Hid (Below w.heap.size w w1) := B1
  have HO1 : Hid (rlv.OwnQ w1 w.heap.size v1 ((ps.take i).map (·.1))) := O1
  have x0 := keeps B1 c0
  have x1 := keeps B1 c1
  have HWO : Hid (Calls Tryz.prog 53 #[.slice rq zs.length rc, .int .i64 k] w1 fun e w' => ∃ v, e = .returned v ∧ OwnQ w' w1.heap.size v (zs.take k ++ zs.drop (k + 1)) ∧ Below w1.heap.size w1 w') := by
    rcases (hsl.sl hne).below B1 with ⟨hv, hz'⟩ | ⟨b2, o2, cp, hv, h2, h3, h4, h5⟩
    · exact absurd hz' hne
    · cases hv
      exact without_some b2 o2 rc zs.length zs k w1 rfl h4 h2 h3 (by omega) h5 hk
  clear A1 O1 B1 HX1 c0 c1 hsl
  go_enter Tryz.func21, Tryz.ntmps21
  go_upto_region 3 with (at_builtin; refine Lib.wpList_append_run _ rfl _ _ _ _ rfl _ _ rfl rfl _ _ HA1.out ?_)
  go_wp2_with fail
  refine HWO.out.mono ?_
  rintro e w2 ⟨v3, rfl, O3, B2⟩
  obtain ⟨q3, c3, hv3⟩ := OwnM.form O3
  subst hv3
  have hlen : (zs.take k ++ zs.drop (k + 1)).length = zs.length - 1 := by simp; omega
  have HO3 : Hid (OwnQ w2 w1.heap.size (.slice q3 (zs.length - 1) c3) (zs.take k ++ zs.drop (k + 1))) := by rw [hlen] at O3; exact O3
  have HB2 : Hid (Below w1.heap.size w1 w2) := B2
  rw [hlen]
  have y0 := keeps B2 x0
  clear O3 B2 hlen x0 x1
  by_cases hz1 : zs.length = 1
  · rw [hz1]
    by_cases hcap : i + 1 = cc
    · obtain rfl : n = i + 1 := by omega
      subst hcap
      have HX5 : Hid (rlv.SL w (.slice (some ⟨b, o, none⟩) 0 0) ((ps.drop (i + 1)).map (·.1))) := by
        show rlv.SL _ _ _
        rw [List.map_drop]
        rw [List.drop_eq_nil_of_le (by rw [List.length_map, HPN.out]; omega)]
        exact .inr ⟨b, o, 0, rfl, by simp, by omega, hb, fun j hj => absurd hj (Nat.not_lt_zero _)⟩
      obtain ⟨v5, w5, A5, E5, B5⟩ := lay_rest2 w w1 w2 v1 (.slice (some ⟨b, o, none⟩) 0 0) (ps.take i) (ps.drop (i + 1)) HB1.out HO1.out HB2.out HX5.out (fun y hy => HE.out y (List.mem_of_mem_take hy)) (fun y hy => HE.out y (List.mem_of_mem_drop hy)) (by have := HPN.out; simp; omega)
      have HF : Hid (LS w5 v5 (dropL ls i k) ∧ Below w.heap.size w w5) := by
        refine ⟨?_, B5⟩
        rw [List.map_take, List.map_drop, HPS.out] at E5
        unfold dropL
        rw [HLI.out, if_pos hz1, List.eraseIdx_eq_take_drop_succ]
        exact E5
      have HA5 : Hid (appL v1 (.slice (some ⟨b, o, none⟩) 0 0) w2 v5 w5) := A5
      clear A5 E5 B5 HX5
      go_wp2_with (at_builtin; refine Lib.wpList_append_run _ rfl _ _ _ _ rfl _ _ rfl rfl _ _ HA5.out ?_)
      go_ret
      exact ⟨_, rfl, HF.out⟩
    · have HX5 : Hid (rlv.SL w (.slice (some ⟨b, o + (i + 1) * 2, none⟩) (n - (i + 1)) (cc - (i + 1))) ((ps.drop (i + 1)).map (·.1))) := by
        show rlv.SL _ _ _
        rw [List.map_drop]
        have h := rlv.sl_drop (k := i + 1) (by rw [List.length_map, HPN.out]; omega) (by rw [List.length_map, HPN.out]; exact hc) hm hb HL.out
        rw [List.length_map, HPN.out] at h
        unfold rlv.offK at h
        rw [if_neg hcap] at h
        exact h
      obtain ⟨v5, w5, A5, E5, B5⟩ := lay_rest2 w w1 w2 v1 (.slice (some ⟨b, o + (i + 1) * 2, none⟩) (n - (i + 1)) (cc - (i + 1))) (ps.take i) (ps.drop (i + 1)) HB1.out HO1.out HB2.out HX5.out (fun y hy => HE.out y (List.mem_of_mem_take hy)) (fun y hy => HE.out y (List.mem_of_mem_drop hy)) (by have := HPN.out; simp; omega)
      have HF : Hid (LS w5 v5 (dropL ls i k) ∧ Below w.heap.size w w5) := by
        refine ⟨?_, B5⟩
        rw [List.map_take, List.map_drop, HPS.out] at E5
        unfold dropL
        rw [HLI.out, if_pos hz1, List.eraseIdx_eq_take_drop_succ]
        exact E5
      have HA5 : Hid (appL v1 (.slice (some ⟨b, o + (i + 1) * 2, none⟩) (n - (i + 1)) (cc - (i + 1))) w2 v5 w5) := A5
      clear A5 E5 B5 HX5
      go_wp2_with (at_builtin; refine Lib.wpList_append_run _ rfl _ _ _ _ rfl _ _ rfl rfl _ _ HA5.out ?_)
      go_ret
      exact ⟨_, rfl, HF.out⟩
  · have hz2 : (0 : Int) < ((zs.length - 1 : Nat) : Int) := by omega
    obtain ⟨m3, hm3⟩ : ∃ m3, zs.length - 1 = m3 := ⟨_, rfl⟩
    rw [hm3] at HO3 hz2 ⊢
    have hz3 : 0 < m3 := by omega
    by_cases hcap : i + 1 = cc
    · obtain rfl : n = i + 1 := by omega
      subst hcap
      have HX5 : Hid (rlv.SL w (.slice (some ⟨b, o, none⟩) 0 0) ((ps.drop (i + 1)).map (·.1))) := by
        show rlv.SL _ _ _
        rw [List.map_drop]
        rw [List.drop_eq_nil_of_le (by rw [List.length_map, HPN.out]; omega)]
        exact .inr ⟨b, o, 0, rfl, by simp, by omega, hb, fun j hj => absurd hj (Nat.not_lt_zero _)⟩
      obtain ⟨v4, w4, v5, w5, A4, A5, E5, B5⟩ := lay_last w w1 w2 v1 (.slice (some ⟨b, o, none⟩) 0 0) (ps.take i) (ps.drop (i + 1)) p q3 m3 c3 (zs.take k ++ zs.drop (k + 1)) HB1.out HO1.out HB2.out HO3.out HX5.out (fun y hy => HE.out y (List.mem_of_mem_take hy)) (fun y hy => HE.out y (List.mem_of_mem_drop hy)) (by have := HPN.out; simp; omega)
      have HF : Hid (LS w5 v5 (dropL ls i k) ∧ Below w.heap.size w w5) := by
        refine ⟨?_, B5⟩
        rw [List.map_take, List.map_drop, HPS.out] at E5
        unfold dropL
        rw [HLI.out, if_neg hz1, List.eraseIdx_eq_take_drop_succ, List.set_eq_take_append_cons_drop, if_pos (by rw [HN.out]; exact hi)]
        exact E5
      have HA4 : Hid (appL v1 (.slice (some ⟨w2.heap.size, 0, none⟩) 1 1) (w2.alloc (.cells #[.int .i64 p, .slice q3 m3 c3] 34)) v4 w4) := A4
      have HA5 : Hid (appL v4 (.slice (some ⟨b, o, none⟩) 0 0) w4 v5 w5) := A5
      clear A4 A5 E5 B5 HX5
      go_upto_region 6 with (at_builtin; refine Lib.wpList_append_run _ rfl _ _ _ _ rfl _ _ rfl rfl _ _ HA4.out ?_)
      go_wp2_with (at_builtin; refine Lib.wpList_append_run _ rfl _ _ _ _ rfl _ _ rfl rfl _ _ HA5.out ?_)
      go_ret
      exact ⟨_, rfl, HF.out⟩
    · have HX5 : Hid (rlv.SL w (.slice (some ⟨b, o + (i + 1) * 2, none⟩) (n - (i + 1)) (cc - (i + 1))) ((ps.drop (i + 1)).map (·.1))) := by
        show rlv.SL _ _ _
        rw [List.map_drop]
        have h := rlv.sl_drop (k := i + 1) (by rw [List.length_map, HPN.out]; omega) (by rw [List.length_map, HPN.out]; exact hc) hm hb HL.out
        rw [List.length_map, HPN.out] at h
        unfold rlv.offK at h
        rw [if_neg hcap] at h
        exact h
      obtain ⟨v4, w4, v5, w5, A4, A5, E5, B5⟩ := lay_last w w1 w2 v1 (.slice (some ⟨b, o + (i + 1) * 2, none⟩) (n - (i + 1)) (cc - (i + 1))) (ps.take i) (ps.drop (i + 1)) p q3 m3 c3 (zs.take k ++ zs.drop (k + 1)) HB1.out HO1.out HB2.out HO3.out HX5.out (fun y hy => HE.out y (List.mem_of_mem_take hy)) (fun y hy => HE.out y (List.mem_of_mem_drop hy)) (by have := HPN.out; simp; omega)
      have HF : Hid (LS w5 v5 (dropL ls i k) ∧ Below w.heap.size w w5) := by
        refine ⟨?_, B5⟩
        rw [List.map_take, List.map_drop, HPS.out] at E5
        unfold dropL
        rw [HLI.out, if_neg hz1, List.eraseIdx_eq_take_drop_succ, List.set_eq_take_append_cons_drop, if_pos (by rw [HN.out]; exact hi)]
        exact E5
      have HA4 : Hid (appL v1 (.slice (some ⟨w2.heap.size, 0, none⟩) 1 1) (w2.alloc (.cells #[.int .i64 p, .slice q3 m3 c3] 34)) v4 w4) := A4
      have HA5 : Hid (appL v4 (.slice (some ⟨b, o + (i + 1) * 2, none⟩) (n - (i + 1)) (cc - (i + 1))) w4 v5 w5) := A5
      clear A4 A5 E5 B5 HX5
      go_upto_region 6 with (at_builtin; refine Lib.wpList_append_run _ rfl _ _ _ _ rfl _ _ rfl rfl _ _ HA4.out ?_)
      go_wp2_with (at_builtin; refine Lib.wpList_append_run _ rfl _ _ _ _ rfl _ _ rfl rfl _ _ HA5.out ?_)
      go_ret
      exact ⟨_, rfl, HF.out⟩
theorem rout_good (s : Int) (v : Value) (ls : List L) (i k : Nat) (w : World) (h : LS w v ls) (h0 : schk s ls = 0) (hi : i < ls.length) (hk : k < ls[i].rests.length) :
    Calls Tryz.prog 21 #[v, .int .i64 i, .int .i64 k] w fun x w' => ∃ v', x = .returned v' ∧ LS w' v' (dropL ls i k) ∧ Below w.heap.size w w' := by
  obtain ⟨z1, z2, z3, -⟩ := schk_zero h0
  have hE := sgo_each z2
  have hlen := len_cnt hE
  rcases h with ⟨rfl, rfl⟩ | ⟨b, o, c, rfl, h2, h3, h4, h5⟩
  · simp at hi
  · obtain ⟨ps, e1, e2, e3⟩ := ll_loose ls o h5
    exact rout_some b o c ls.length ls ps i k w e1 rfl h2 h3 h4 e2 e3 hi ls[i].price ls[i].rests (by rw [getE _ _ hi]) hk (by omega) (by have := rests_le (List.getElem_mem hi); omega)
end Go.Proofs.YtpbbgbjgndikdaaGreatDoor.sid
namespace Go.Proofs.YtpbbgbjgndikdaaGreatDoor.kin
open Go.RowKit Go.Proofs.YtpbbgbjgndikdaaGreatDoor.spn Go.Proofs.YtpbbgbjgndikdaaGreatDoor.que Go.Proofs.YtpbbgbjgndikdaaGreatDoor.sid Go.Proofs.YtpbbgbjgndikdaaGreatDoor.bok Go.Proofs.YtpbbgbjgndikdaaGreatDoor.mee
open Go.Proofs.YtpbbgbjgndikdaaGreatDoor.ord (O oV mB mE chk meets_any)
open Go.Proofs.YtpbbgbjgndikdaaGreatDoor.tickP (priceB sideB betOk betR)

/-- No level, and no rest, is read in a block. -/
def NoL (w : World) (X : Nat) : Prop := ∀ j p q n c, w.cell? ⟨X, j, none⟩ = some (.int .i64 p) → w.cell? ⟨X, j + 1, none⟩ = some (.slice q n c) → p < 1
def NoR (w : World) (X : Nat) : Prop := ∀ j a b c, w.cell? ⟨X, j, none⟩ = some (.int .i64 a) → w.cell? ⟨X, j + 1, none⟩ = some (.int .i64 b) → w.cell? ⟨X, j + 2, none⟩ = some (.int .i64 c) → False
theorem two_no {w : World} {X : Nat} {q1 q2 : Option Addr} {n1 n2 c1 c2 : Nat} {t : TypeId} (h : w.heap[X]? = some (.cells #[.slice q1 n1 c1, .slice q2 n2 c2] t (0, 0))) : NoL w X ∧ NoR w X := by
  have e : ∀ j, w.cell? ⟨X, j, none⟩ = (#[.slice q1 n1 c1, .slice q2 n2 c2] : Array Value)[j]? := fun j => by simp [World.cell?, h]
  refine ⟨fun j p q n c h1 _ => ?_, fun j a b c h1 _ _ => ?_⟩
  · rw [e] at h1
    match j, h1 with
    | 0, h1 => simp at h1
    | 1, h1 => simp at h1
    | j + 2, h1 => simp at h1
  · rw [e] at h1
    match j, h1 with
    | 0, h1 => simp at h1
    | 1, h1 => simp at h1
    | j + 2, h1 => simp at h1
theorem met_no {w : World} {X : Nat} {q1 q2 q3 q4 : Option Addr} {n1 n2 n3 n4 c1 c2 c3 c4 : Nat} {l : Int} {b : Bool} {t : TypeId} (h : w.heap[X]? = some (.cells #[.slice q1 n1 c1, .slice q2 n2 c2, .slice q3 n3 c3, .int .i64 l, .int .i64 0, .slice q4 n4 c4, .bool b] t (0, 0))) : NoL w X ∧ NoR w X := by
  have e : ∀ j, w.cell? ⟨X, j, none⟩ = (#[.slice q1 n1 c1, .slice q2 n2 c2, .slice q3 n3 c3, .int .i64 l, .int .i64 0, .slice q4 n4 c4, .bool b] : Array Value)[j]? := fun j => by simp [World.cell?, h]
  refine ⟨fun j p q n c h1 h2 => ?_, fun j a b c h1 h2 h3 => ?_⟩
  · rw [e] at h1 h2
    match j, h1, h2 with
    | 0, h1, _ => simp at h1
    | 1, h1, _ => simp at h1
    | 2, h1, _ => simp at h1
    | 3, _, h2 => simp at h2
    | 4, h1, _ => simp at h1; omega
    | 5, h1, _ => simp at h1
    | 6, h1, _ => simp at h1
    | j + 7, h1, _ => simp at h1
  · rw [e] at h1 h2 h3
    match j, h1, h2, h3 with
    | 0, h1, _, _ => simp at h1
    | 1, h1, _, _ => simp at h1
    | 2, h1, _, _ => simp at h1
    | 3, _, _, h3 => simp at h3
    | 4, _, h2, _ => simp at h2
    | 5, h1, _, _ => simp at h1
    | 6, h1, _, _ => simp at h1
    | j + 7, h1, _, _ => simp at h1
/-- A side that is right stands while such a block is written. -/
theorem ls_off {w w' : World} {X : Nat} {v : Value} {ls : List L} (h : LS w v ls) (hg : w.grownBy w' (some X)) (hn : NoL w X ∧ NoR w X) (hl : ∀ l ∈ ls, lchk l = 0) : LS w' v ls := by
  rcases h with h | ⟨b, o, c, h1, h2, h3, h4, h5⟩
  · exact .inl h
  · refine .inr ⟨b, o, c, h1, h2, h3, Nat.lt_of_lt_of_le h4 hg.size, fun k hk => ?_⟩
    obtain ⟨a0, u, a1, a2⟩ := h5 k hk
    have hlk := hl ls[k]! (by rw [getE _ _ hk]; exact List.getElem_mem hk)
    obtain ⟨hp, hne, hqk⟩ := lchk_zero hlk
    have hb : b ≠ X := by
      intro e
      subst e
      obtain ⟨q, n, hv⟩ := sl_form a2
      subst hv
      have := hn.1 _ _ _ _ _ a0 a1
      omega
    refine ⟨gr_at a0 hg hb, u, gr_at a1 hg hb, ?_⟩
    rcases a2 with (a2 | ⟨b2, o2, c2, g1, g2, g3, g4, g5⟩) | a2
    · exact .inl (.inl a2)
    · refine .inl (.inr ⟨b2, o2, c2, g1, g2, g3, Nat.lt_of_lt_of_le g4 hg.size, fun j hj i x hx => ?_⟩)
      have hb2 : b2 ≠ X := by
        intro e
        subst e
        have e0 := g5 j hj 0 _ rfl
        have e1 := g5 j hj 1 _ rfl
        have e2 := g5 j hj 2 _ rfl
        exact hn.2 _ _ _ _ e0 e1 e2
      exact gr_at (g5 j hj i x hx) hg hb2
    · exact .inr a2
theorem book_lv {bs ss : List L} (h : bookE bs ss = 0) : (∀ l ∈ bs, lchk l = 0) ∧ (∀ l ∈ ss, lchk l = 0) := by
  obtain ⟨e1, e2, -⟩ := book_zero h
  exact ⟨sgo_each (schk_zero e1).2.1, sgo_each (schk_zero e2).2.1⟩

set_option maxRecDepth 100000 in
set_option maxHeartbeats 2000000 in
theorem rkept_any (a b c d p q s t k : Int) (w : World) (hs : 0 ≤ s) (hs2 : s ≤ 10000) (hk : 1 ≤ k) (hk2 : k ≤ 10000) :
    Calls Tryz.prog 35 #[.agg #[.int .i64 a, .int .i64 b, .int .i64 c, .int .i64 d, .int .i64 p, .int .i64 q, .int .i64 s, .int .i64 t], .int .i64 k] w fun e w' => e = .returned (rB (keptR ⟨a, b, c, d, p, q, s, t⟩ k)) ∧ Below w.heap.size w w' := by
  obtain ⟨V2, hV2⟩ : ∃ V2, V2 = w.alloc (.cells #[.int .i64 a, .int .i64 b, .int .i64 c, .int .i64 d, .int .i64 p, .int .i64 q, .int .i64 s, .int .i64 t] 60) := ⟨_, rfl⟩
  have hs2' : V2.heap.size = w.heap.size + 1 := by rw [hV2]; simp
  have hB2 : Below w.heap.size w V2 := by rw [hV2]; exact (Below.refl _ _).alloc (Nat.le_refl _) _
  have hO2 : V2.heap[w.heap.size]? = some (.cells #[.int .i64 a, .int .i64 b, .int .i64 c, .int .i64 d, .int .i64 p, .int .i64 q, .int .i64 s, .int .i64 t] 60 (0, 0)) := by rw [hV2]; exact heap_alloc_new w _
  obtain ⟨V3, hV3⟩ : ∃ V3, V3 = V2.alloc (.cells #[.int .i64 0, .int .i64 0, .int .i64 0, .int .i64 0, .int .i64 0] 26) := ⟨_, rfl⟩
  have hs3 : V3.heap.size = w.heap.size + 2 := by rw [hV3]; simp [hs2']
  have hB3 : Below V2.heap.size V2 V3 := by rw [hV3]; exact (Below.refl _ _).alloc (Nat.le_refl _) _
  have hR3 : V3.heap[w.heap.size + 1]? = some (.cells #[.int .i64 0, .int .i64 0, .int .i64 0, .int .i64 0, .int .i64 0] 26 (0, 0)) := by rw [← hs2', hV3]; exact heap_alloc_new V2 _
  obtain ⟨V, hV⟩ : ∃ V, V = V3.alloc (.cells #[.int .i64 a, .int .i64 b, .int .i64 k, .int .i64 0, .int .i64 s] 26) := ⟨_, rfl⟩
  have hBV : Below V3.heap.size V3 V := by rw [hV]; exact (Below.refl _ _).alloc (Nat.le_refl _) _
  have hRV : V.heap[w.heap.size + 2]? = some (.cells #[.int .i64 a, .int .i64 b, .int .i64 k, .int .i64 0, .int .i64 s] 26 (0, 0)) := by rw [← hs3, hV]; exact heap_alloc_new V3 _
  have hR0 := (hBV.block (w.heap.size + 1) (by omega)).trans hR3
  have hO0 : V.heap[w.heap.size]? = some (.cells #[.int .i64 a, .int .i64 b, .int .i64 c, .int .i64 d, .int .i64 p, .int .i64 q, .int .i64 s, .int .i64 t] 60 (0, 0)) := by rw [hBV.block _ (by omega), hB3.block _ (by omega)]; exact hO2
  have HB : Hid (Below w.heap.size w V) := by
    have h := hB2.trans (hB3.mono hB2.size)
    exact h.trans (hBV.mono h.size)
  obtain ⟨P, hP⟩ : ∃ P, P = w.heap.size + 1 := ⟨_, rfl⟩
  obtain ⟨Q, hQ⟩ : ∃ Q, Q = w.heap.size + 2 := ⟨_, rfl⟩
  rw [← hP] at hR0
  rw [← hQ] at hRV
  have HP := hidK (show P = w.heap.size + 1 ∧ Q = w.heap.size + 2 from ⟨hP, hQ⟩)
  have cel : ∀ i, V.cell? ⟨w.heap.size, i, none⟩ = (#[.int .i64 a, .int .i64 b, .int .i64 c, .int .i64 d, .int .i64 p, .int .i64 q, .int .i64 s, .int .i64 t] : Array Value)[i]? := fun i => by simp [World.cell?, hO0]
  have c6 := cel 6
  simp only [List.getElem?_toArray, List.getElem?_cons_zero, List.getElem?_cons_succ] at c6
  clear hs2' hB2 hO2 hs3 hB3 hR3 hBV hO0 cel
  obtain ⟨d0, d1, d2, d3, d4, df⟩ := rowFive hRV
  have df2 := df 2
  have df3 := df 3
  by_cases hbig : 0 < s ∧ s < k
  · have h1 : 0 < s := hbig.1
    have h2 : s < k := hbig.2
    obtain ⟨y, hy⟩ : ∃ y, k - s = y := ⟨_, rfl⟩
    have E1 : Hid (wrap64 (k - s) = y) := by show _ = _; rw [← hy]; unfold wrap64; omega
    have hkr : Hid (rB (keptR ⟨a, b, c, d, p, q, s, t⟩ k) = .agg #[.int .i64 a, .int .i64 b, .int .i64 s, .int .i64 y, .int .i64 s]) := by
      show _ = _
      have e : shownK ⟨a, b, c, d, p, q, s, t⟩ k = s := by unfold shownK; rw [if_neg (show ¬ s = 0 by omega)]; show min s k = s; omega
      unfold keptR rB
      rw [e, hy]
    clear hbig hs hs2 hk hk2 hy df
    go_enter Tryz.func35, Tryz.ntmps35
    go_upto_region 2 with fail
    rw [← hV2, ← hV3, ← hV]
    simp only [← hQ]
    simp only [← hP]
    clear hV2 hV3 hV hP hQ
    have x1 := E1.out
    go_upto_region 5 with fail
    have hg1 : V.grownBy ((V.setCell ⟨Q, 2, none⟩ (.int .i64 s)).setCell ⟨Q, 3, none⟩ (.int .i64 y)) (some Q) := gr_trans (gr_setCell _ _ _ _) (gr_setCell _ _ _ _)
    have hRW : ((V.setCell ⟨Q, 2, none⟩ (.int .i64 s)).setCell ⟨Q, 3, none⟩ (.int .i64 y)).heap[Q]? = some (.cells #[.int .i64 a, .int .i64 b, .int .i64 s, .int .i64 y, .int .i64 s] 26 (0, 0)) := by
      have h0 := heap_setCell_same _ Q 2 _ _ (.int .i64 s) hRV
      simp only [List.setIfInBounds_toArray, List.set_cons_zero, List.set_cons_succ] at h0
      have h1 := heap_setCell_same _ Q 3 _ _ (.int .i64 y) h0
      simp only [List.setIfInBounds_toArray, List.set_cons_zero, List.set_cons_succ] at h1
      exact h1
    have hRP := (hg1.block P (Array.getElem?_eq_some_iff.1 hR0).1 (fun e => by cases e; have := HP.out; omega)).trans hR0
    have HBW := hidK (HB.out.grown hg1 HB.out.size (fun k hk => by cases hk; have := HP.out; omega))
    clear hg1 d0 d1 d2 d3 d4 df2 df3 c6 x1 hR0 hRV HB
    generalize (V.setCell ⟨Q, 2, none⟩ (.int .i64 s)).setCell ⟨Q, 3, none⟩ (.int .i64 y) = W at *
    obtain ⟨d0, d1, d2, d3, d4, -⟩ := rowFive hRW
    obtain ⟨z0, z1, z2, z3, z4, zf⟩ := rowFive hRP
    have f0 := zf 0
    have f1 := zf 1
    have f2 := zf 2
    have f3 := zf 3
    have f4 := zf 4
    have HHX := hidK (setFive hRP (.int .i64 a) (.int .i64 b) (.int .i64 s) (.int .i64 y) (.int .i64 s))
    have hg := grFive W P (.int .i64 a) (.int .i64 b) (.int .i64 s) (.int .i64 y) (.int .i64 s)
    have HPO := hidK (HBW.out.grown hg HBW.out.size (fun k hk => by cases hk; have := HP.out; omega))
    clear hg zf hRP hRW
    go_wp2_with fail
    generalize (((((W.setCell ⟨P, 0, none⟩ (.int .i64 a)).setCell ⟨P, 1, none⟩ (.int .i64 b)).setCell ⟨P, 2, none⟩ (.int .i64 s)).setCell ⟨P, 3, none⟩ (.int .i64 y)).setCell ⟨P, 4, none⟩ (.int .i64 s)) = X at *
    obtain ⟨y0, y1, y2, y3, y4, -⟩ := rowFive HHX.out
    exact bodyPost_ret (v := .agg #[.int .i64 a, .int .i64 b, .int .i64 s, .int .i64 y, .int .i64 s]) (by simp [results, Tryz.results35, go_sem, y0, y1, y2, y3, y4]) rfl ⟨by rw [hkr.out], HPO.out⟩
  · have hkr : Hid (rB (keptR ⟨a, b, c, d, p, q, s, t⟩ k) = .agg #[.int .i64 a, .int .i64 b, .int .i64 k, .int .i64 0, .int .i64 s]) := by
      show _ = _
      have e : shownK ⟨a, b, c, d, p, q, s, t⟩ k = k := by
        unfold shownK
        by_cases h0 : s = 0
        · rw [if_pos h0]
        · rw [if_neg h0]; show min s k = k; omega
      unfold keptR rB
      rw [e, show k - k = 0 by omega]
    have HHX := hidK (setFive hR0 (.int .i64 a) (.int .i64 b) (.int .i64 k) (.int .i64 0) (.int .i64 s))
    have hg := grFive V P (.int .i64 a) (.int .i64 b) (.int .i64 k) (.int .i64 0) (.int .i64 s)
    have HPO := hidK (HB.out.grown hg HB.out.size (fun k hk => by cases hk; have := HP.out; omega))
    obtain ⟨z0, z1, z2, z3, z4, zf⟩ := rowFive hR0
    have f0 := zf 0
    have f1 := zf 1
    have f2 := zf 2
    have f3 := zf 3
    have f4 := zf 4
    by_cases h1 : 0 < s
    · have h2 : ¬ s < k := fun h => hbig ⟨h1, h⟩
      clear hbig hs hs2 hk hk2 df zf hg hR0 hRV df2 df3
      go_enter Tryz.func35, Tryz.ntmps35
      go_upto_region 2 with fail
      rw [← hV2, ← hV3, ← hV]
      simp only [← hQ]
      simp only [← hP]
      clear hV2 hV3 hV hP hQ
      go_wp2_with fail
      generalize (((((V.setCell ⟨P, 0, none⟩ (.int .i64 a)).setCell ⟨P, 1, none⟩ (.int .i64 b)).setCell ⟨P, 2, none⟩ (.int .i64 k)).setCell ⟨P, 3, none⟩ (.int .i64 0)).setCell ⟨P, 4, none⟩ (.int .i64 s)) = X at *
      obtain ⟨y0, y1, y2, y3, y4, -⟩ := rowFive HHX.out
      exact bodyPost_ret (v := .agg #[.int .i64 a, .int .i64 b, .int .i64 k, .int .i64 0, .int .i64 s]) (by simp [results, Tryz.results35, go_sem, y0, y1, y2, y3, y4]) rfl ⟨by rw [hkr.out], HPO.out⟩
    · clear hbig hs hs2 hk hk2 df zf hg hR0 hRV df2 df3
      go_enter Tryz.func35, Tryz.ntmps35
      go_upto_region 2 with fail
      rw [← hV2, ← hV3, ← hV]
      simp only [← hQ]
      simp only [← hP]
      clear hV2 hV3 hV hP hQ
      go_wp2_with fail
      generalize (((((V.setCell ⟨P, 0, none⟩ (.int .i64 a)).setCell ⟨P, 1, none⟩ (.int .i64 b)).setCell ⟨P, 2, none⟩ (.int .i64 k)).setCell ⟨P, 3, none⟩ (.int .i64 0)).setCell ⟨P, 4, none⟩ (.int .i64 s)) = X at *
      obtain ⟨y0, y1, y2, y3, y4, -⟩ := rowFive HHX.out
      exact bodyPost_ret (v := .agg #[.int .i64 a, .int .i64 b, .int .i64 k, .int .i64 0, .int .i64 s]) (by simp [results, Tryz.results35, go_sem, y0, y1, y2, y3, y4]) rfl ⟨by rw [hkr.out], HPO.out⟩
end Go.Proofs.YtpbbgbjgndikdaaGreatDoor.kin
namespace Go.Proofs.YtpbbgbjgndikdaaGreatDoor.kin
open Go.RowKit Go.Proofs.YtpbbgbjgndikdaaGreatDoor.spn Go.Proofs.YtpbbgbjgndikdaaGreatDoor.que Go.Proofs.YtpbbgbjgndikdaaGreatDoor.sid Go.Proofs.YtpbbgbjgndikdaaGreatDoor.bok Go.Proofs.YtpbbgbjgndikdaaGreatDoor.mee
open Go.Proofs.YtpbbgbjgndikdaaGreatDoor.tickP (priceB sideB betOk betR)

/-- What 'Join' answers. -/
def JoinPost (bs ss : List L) (s p : Int) (r : R) (w : World) (e : Ending) (w' : World) : Prop :=
  ∃ q1 q2 n1 n2 c1 c2, e = .returned (.tuple #[.agg #[.slice q1 n1 c1, .slice q2 n2 c2], .int .i64 (putE bs ss s p r)]) ∧ (putE bs ss s p r = 0 → LS w' (.slice q1 n1 c1) (put1 bs s p r) ∧ LS w' (.slice q2 n2 c2) (put2 ss s p r)) ∧ Below w.heap.size w w'

set_option maxRecDepth 100000 in
set_option maxHeartbeats 4000000 in
theorem rjoin_1 (q1 q2 : Option Addr) (n1 n2 c1 c2 : Nat) (bs ss : List L) (p r1 r2 r3 r4 r5 : Int) (w : World) (h1 : LS w (.slice q1 n1 c1) bs) (h2 : LS w (.slice q2 n2 c2) ss) (hbk : bookE bs ss = 0) :
    Calls Tryz.prog 15 #[.agg #[.slice q1 n1 c1, .slice q2 n2 c2], .int .i64 1, .int .i64 p, .agg #[.int .i64 r1, .int .i64 r2, .int .i64 r3, .int .i64 r4, .int .i64 r5]] w fun e w' => JoinPost bs ss 1 p ⟨r1, r2, r3, r4, r5⟩ w e w' := by
  obtain ⟨e1, e2, -⟩ := book_zero hbk
  obtain ⟨V1, hV1⟩ : ∃ V1, V1 = w.alloc (.cells #[.slice q1 n1 c1, .slice q2 n2 c2] 24) := ⟨_, rfl⟩
  obtain ⟨V2, hV2⟩ : ∃ V2, V2 = V1.alloc (.cells #[.int .i64 r1, .int .i64 r2, .int .i64 r3, .int .i64 r4, .int .i64 r5] 26) := ⟨_, rfl⟩
  obtain ⟨V, hV⟩ : ∃ V, V = V2.alloc (.cells #[.slice none 0 0, .slice none 0 0] 24) := ⟨_, rfl⟩
  have hs1 : V1.heap.size = w.heap.size + 1 := by rw [hV1]; simp
  have hs2 : V2.heap.size = w.heap.size + 2 := by rw [hV2]; simp [hs1]
  have hb1 : Below w.heap.size w V1 := by rw [hV1]; exact (Below.refl _ _).alloc (Nat.le_refl _) _
  have hb2 : Below V1.heap.size V1 V2 := by rw [hV2]; exact (Below.refl _ _).alloc (Nat.le_refl _) _
  have hb3 : Below V2.heap.size V2 V := by rw [hV]; exact (Below.refl _ _).alloc (Nat.le_refl _) _
  have hr1 : V1.heap[w.heap.size]? = some (.cells #[.slice q1 n1 c1, .slice q2 n2 c2] 24 (0, 0)) := by rw [hV1]; exact heap_alloc_new w _
  have hr2 : V2.heap[w.heap.size + 1]? = some (.cells #[.int .i64 r1, .int .i64 r2, .int .i64 r3, .int .i64 r4, .int .i64 r5] 26 (0, 0)) := by rw [← hs1, hV2]; exact heap_alloc_new V1 _
  have hr3 : V.heap[w.heap.size + 2]? = some (.cells #[.slice none 0 0, .slice none 0 0] 24 (0, 0)) := by rw [← hs2, hV]; exact heap_alloc_new V2 _
  have hBV : Below w.heap.size w V := by
    have h := hb1.trans (hb2.mono hb1.size)
    exact h.trans (hb3.mono h.size)
  have hB0 : V.heap[w.heap.size]? = some (.cells #[.slice q1 n1 c1, .slice q2 n2 c2] 24 (0, 0)) := by rw [hb3.block _ (by omega), hb2.block _ (by omega)]; exact hr1
  have hR0 : V.heap[w.heap.size + 1]? = some (.cells #[.int .i64 r1, .int .i64 r2, .int .i64 r3, .int .i64 r4, .int .i64 r5] 26 (0, 0)) := by rw [hb3.block _ (by omega)]; exact hr2
  obtain ⟨P, hP⟩ : ∃ P, P = w.heap.size + 2 := ⟨_, rfl⟩
  obtain ⟨R0, hR⟩ : ∃ R0, R0 = w.heap.size + 1 := ⟨_, rfl⟩
  rw [← hP] at hr3
  rw [← hR] at hR0
  have hPV : P < V.heap.size := (Array.getElem?_eq_some_iff.1 hr3).1
  obtain ⟨g0, g1, -⟩ := rowTwo hB0
  obtain ⟨t0, t1, t2, t3, t4, -⟩ := rowFive hR0
  have HP := hidK (show P = w.heap.size + 2 ∧ R0 = w.heap.size + 1 ∧ P < V.heap.size from ⟨hP, hR, hPV⟩)
  have HSO : Hid (∀ W, Below V.heap.size V W → (Below w.heap.size w W ∧ LS W (.slice q1 n1 c1) bs ∧ LS W (.slice q2 n2 c2) ss ∧ W.heap[P]? = some (.cells #[.slice none 0 0, .slice none 0 0] 24 (0, 0))) ∧ W.cell? ⟨w.heap.size, 0, none⟩ = some (.slice q1 n1 c1) ∧ W.cell? ⟨w.heap.size, 1, none⟩ = some (.slice q2 n2 c2) ∧ W.cell? ⟨R0, 0, none⟩ = some (.int .i64 r1) ∧ W.cell? ⟨R0, 1, none⟩ = some (.int .i64 r2) ∧ W.cell? ⟨R0, 2, none⟩ = some (.int .i64 r3) ∧ W.cell? ⟨R0, 3, none⟩ = some (.int .i64 r4) ∧ W.cell? ⟨R0, 4, none⟩ = some (.int .i64 r5)) := fun W hW => by
    have hw := hBV.trans (hW.mono hBV.size)
    exact ⟨⟨hw, h1.below hw, h2.below hw, (hW.block P hPV).trans hr3⟩, keeps hW g0, keeps hW g1, keeps hW t0, keeps hW t1, keeps hW t2, keeps hW t3, keeps hW t4⟩
  obtain ⟨AE, hAE⟩ : ∃ AE, addE 1 bs p ⟨r1, r2, r3, r4, r5⟩ = AE := ⟨_, rfl⟩
  have HAE := hidK hAE
  have HBK := hidK hbk
  have HOF : Hid (∀ U, Below V.heap.size V U → Calls Tryz.prog 19 #[.agg #[.slice q1 n1 c1, .slice q2 n2 c2], .int .i64 1] U fun e w' => e = .returned (.slice q1 n1 c1) ∧ Below V.heap.size V w') := fun U hU => (rof_any 1 q1 q2 n1 n2 c1 c2 U).mono fun e w' h => by
    obtain ⟨g, hb⟩ := h
    rw [if_pos rfl] at g
    exact ⟨g, hU.trans (hb.mono hU.size)⟩
  have HAD : Hid (∀ U, Below V.heap.size V U → Calls Tryz.prog 47 #[.int .i64 1, .slice q1 n1 c1, .int .i64 p, .agg #[.int .i64 r1, .int .i64 r2, .int .i64 r3, .int .i64 r4, .int .i64 r5]] U fun x w' => ∃ q3 n3 c3, x = .returned (.tuple #[.slice q3 n3 c3, .int .i64 AE]) ∧ LS w' (.slice q3 n3 c3) (addL 1 bs p ⟨r1, r2, r3, r4, r5⟩) ∧ Below V.heap.size V w') := fun U hU => by
    refine (radd_good 1 p r1 r2 r3 r4 r5 _ _ _ bs U (HSO.out U hU).1.2.1 e1).mono ?_
    rintro x w' ⟨v', rfl, hl, hb⟩
    obtain ⟨q3, n3, c3, rfl⟩ := ls_form hl
    exact ⟨q3, n3, c3, by rw [hAE], hl, hU.trans (hb.mono hU.size)⟩
  have HERR : Hid (∀ W k, Below V.heap.size V W → putE bs ss 1 p ⟨r1, r2, r3, r4, r5⟩ = k → ¬ k = 0 → JoinPost bs ss 1 p ⟨r1, r2, r3, r4, r5⟩ w (.returned (.tuple #[.agg #[.slice none 0 0, .slice none 0 0], .int .i64 k])) (((W).setCell ⟨P, 0, none⟩ (.slice none 0 0)).setCell ⟨P, 1, none⟩ (.slice none 0 0)) ∧ (((W).setCell ⟨P, 0, none⟩ (.slice none 0 0)).setCell ⟨P, 1, none⟩ (.slice none 0 0)).heap[P]? = some (.cells #[.slice none 0 0, .slice none 0 0] 24 (0, 0))) := fun W k hW hk hk0 => by
    obtain ⟨⟨hw, -, -, hrp⟩, -⟩ := HSO.out W hW
    have hg := grTwo W P (.slice none 0 0) (.slice none 0 0)
    exact ⟨⟨none, none, 0, 0, 0, 0, by rw [hk], fun h => absurd (hk.symm.trans h) hk0, hw.grown hg hw.size (fun k hk => by cases hk; have := HP.out; omega)⟩, setTwo hrp _ _⟩
  have SO : Hid (∀ W, Below V.heap.size V W → (Below V.heap.size V W ∧ W.cell? ⟨w.heap.size, 0, none⟩ = some (.slice q1 n1 c1) ∧ W.cell? ⟨w.heap.size, 1, none⟩ = some (.slice q2 n2 c2) ∧ W.cell? ⟨R0, 0, none⟩ = some (.int .i64 r1) ∧ W.cell? ⟨R0, 1, none⟩ = some (.int .i64 r2) ∧ W.cell? ⟨R0, 2, none⟩ = some (.int .i64 r3) ∧ W.cell? ⟨R0, 3, none⟩ = some (.int .i64 r4) ∧ W.cell? ⟨R0, 4, none⟩ = some (.int .i64 r5))) := fun W hW => ⟨hW, (HSO.out W hW).2⟩
  clear hs1 hs2 hb1 hb2 hb3 hr1 hr2 hr3 hBV hB0 hR0 hPV hAE h1 h2
  go_enter Tryz.func15, Tryz.ntmps15
  go_upto_region 1 with fail
  rw [← hV1, ← hV2, ← hV]
  simp only [← hP]
  simp only [← hR]
  clear hV1 hV2 hV hP hR
  go_region_held3 (fun W => Below V.heap.size V W ∧ W.cell? ⟨w.heap.size, 0, none⟩ = some (.slice q1 n1 c1) ∧ W.cell? ⟨w.heap.size, 1, none⟩ = some (.slice q2 n2 c2) ∧ W.cell? ⟨R0, 0, none⟩ = some (.int .i64 r1) ∧ W.cell? ⟨R0, 1, none⟩ = some (.int .i64 r2) ∧ W.cell? ⟨R0, 2, none⟩ = some (.int .i64 r3) ∧ W.cell? ⟨R0, 3, none⟩ = some (.int .i64 r4) ∧ W.cell? ⟨R0, 4, none⟩ = some (.int .i64 r5))
    ((refine SO.out _ ?_; (repeat' (first | with_reducible assumption | with_reducible refine bal ?_ _ | with_reducible refine Below.drew ?_ | with_reducible exact Below.refl _ _ | with_reducible exact Nat.le_refl _ | with_reducible exact Below.size (by with_reducible assumption)))))
    (first | (go_at_call 19; with_reducible refine (HOF.out _ ?_).mono ?_; (repeat' (first | with_reducible assumption | with_reducible refine bal ?_ _ | with_reducible refine Below.drew ?_ | with_reducible exact Below.refl _ _ | with_reducible exact Nat.le_refl _ | with_reducible exact Below.size (by with_reducible assumption))); rintro x Wo ⟨rfl, hbo⟩) | (go_at_call 47; with_reducible refine (HAD.out _ ?_).mono ?_; (repeat' (first | with_reducible assumption | with_reducible refine bal ?_ _ | with_reducible refine Below.drew ?_ | with_reducible exact Below.refl _ _ | with_reducible exact Nat.le_refl _ | with_reducible exact Below.size (by with_reducible assumption))); rintro x W ⟨q3, n3, c3, rfl, hl3, hbn⟩))
  have HBN := hidK hbn
  have HL3 := hidK hl3
  clear g0 g1 t0 t1 t2 t3 t4 SO HOF HAD hbn hl3
  by_cases hA : AE = 0
  rotate_left
  · have hA1 : (AE != 0) = true := by simp [hA]
    obtain ⟨hPO, hHX⟩ := HERR.out W AE HBN.out (by unfold putE; rw [if_pos HBK.out, show (if (1 : Int) = 1 then bs else ss) = bs from rfl, HAE.out, if_neg hA]) hA
    have HPO := hidK hPO
    have HHX := hidK hHX
    obtain ⟨⟨-, -, -, hrp⟩, -⟩ := HSO.out W HBN.out
    obtain ⟨z0, z1, zf⟩ := rowTwo hrp
    have zf0 := zf 0
    have zf1 := zf 1
    clear hPO hHX HERR hrp zf HSO hA e1 e2
    go_wp2_with fail
    generalize (((W).setCell ⟨P, 0, none⟩ (.slice none 0 0)).setCell ⟨P, 1, none⟩ (.slice none 0 0)) = Z at *
    obtain ⟨y0, y1, -⟩ := rowTwo HHX.out
    exact bodyPost_ret (v := .tuple #[.agg #[.slice none 0 0, .slice none 0 0], .int .i64 AE]) (by simp [results, Tryz.results15, go_sem, y0, y1]) rfl HPO.out
  subst hA
  obtain ⟨a0, a1, a2, a3, a4⟩ := add_zero HAE.out
  have hsk : schk 1 (putL 1 p ⟨r1, r2, r3, r4, r5⟩ bs) = 0 := schk_put a0 a1 a2 a3 (by have := (schk_zero a0).2.2.1; omega)
  have hcn := cnt_put 1 p ⟨r1, r2, r3, r4, r5⟩ bs
  have hAL : addL 1 bs p ⟨r1, r2, r3, r4, r5⟩ = putL 1 p ⟨r1, r2, r3, r4, r5⟩ bs := by unfold addL; rw [if_pos HAE.out]
  have hpu : putE bs ss 1 p ⟨r1, r2, r3, r4, r5⟩ = wholeE (putL 1 p ⟨r1, r2, r3, r4, r5⟩ bs) (ss) := by
    unfold putE
    rw [if_pos HBK.out, show (if (1 : Int) = 1 then bs else ss) = bs from rfl, if_pos HAE.out]
    unfold put1 put2
    rw [if_pos rfl, if_pos rfl]
    unfold bookE wholeE
    rw [if_pos hsk, if_pos e2]
  have HPE := hidK hpu
  have HCN := hidK (show cnt (putL 1 p ⟨r1, r2, r3, r4, r5⟩ bs) ≤ 60 ∧ cnt (ss) ≤ 60 from ⟨by have := (schk_zero a0).2.2.1; omega, (schk_zero e2).2.2.1⟩)
  have HLG := hidK (sgo_each (schk_zero hsk).2.1)
  have HNW := hidK (show LS W (.slice q3 n3 c3) (putL 1 p ⟨r1, r2, r3, r4, r5⟩ bs) by have h := HL3.out; rw [hAL] at h; exact h)
  obtain ⟨-, g0, g1, t0, t1, t2, t3, t4⟩ := HSO.out W HBN.out
  clear a0 a1 a2 a3 a4 hsk hcn hAL hpu HL3 e1 e2
  go_wp2_with fail
  refine (rwith_any 1 q1 q2 q3 n1 n2 n3 c1 c2 c3 W).mono ?_
  rintro e w2 ⟨rfl, b2⟩
  rw [if_pos rfl]
  have hBa : Below w2.heap.size w2 (w2.alloc (.cells #[.slice q3 n3 c3, .slice q2 n2 c2] 24)) := (Below.refl _ _).alloc (Nat.le_refl _) _
  have hb2 := b2.trans (hBa.mono b2.size)
  have HW3 := hidK (HBN.out.trans (hb2.mono HBN.out.size))
  have HN3 := hidK (HNW.out.below hb2)
  have hRO : (w2.alloc (.cells #[.slice q3 n3 c3, .slice q2 n2 c2] 24)).heap[w2.heap.size]? = some (.cells #[.slice q3 n3 c3, .slice q2 n2 c2] 24 (0, 0)) := heap_alloc_new w2 _
  clear g0 g1 t0 t1 t2 t3 t4 b2 hBa hb2 HNW
  go_upto_region 5 with fail
  generalize w2.alloc (.cells #[.slice q3 n3 c3, .slice q2 n2 c2] 24) = W3 at *
  generalize w2.heap.size = OB at *
  obtain ⟨k0, k1, -⟩ := rowTwo hRO
  obtain ⟨⟨-, hb, hs', -⟩, -⟩ := HSO.out W3 HW3.out
  have HWH := hidK (rwhole_any q3 q2 n3 n2 c3 c2 (putL 1 p ⟨r1, r2, r3, r4, r5⟩ bs) (ss) W3 HN3.out hs' HCN.out.1 HCN.out.2)
  obtain ⟨WE, hWE⟩ : ∃ WE, wholeE (putL 1 p ⟨r1, r2, r3, r4, r5⟩ bs) (ss) = WE := ⟨_, rfl⟩
  rw [hWE] at HWH HPE
  clear hb hs' hWE
  go_wp2_with fail
  refine HWH.out.mono ?_
  rintro e w4 ⟨rfl, b4⟩
  have HW4 := hidK (HW3.out.trans (b4.mono HW3.out.size))
  have HN4 := hidK (HN3.out.below b4)
  have hRO4 := (b4.block OB (Array.getElem?_eq_some_iff.1 hRO).1).trans hRO
  clear k0 k1 b4 HN3 hRO HWH HW3
  by_cases hE : WE = 0
  rotate_left
  · have hE1 : (WE != 0) = true := by simp [hE]
    obtain ⟨hPO, hHX⟩ := HERR.out w4 WE HW4.out HPE.out hE
    have HPO := hidK hPO
    have HHX := hidK hHX
    obtain ⟨⟨-, -, -, hrp⟩, -⟩ := HSO.out w4 HW4.out
    obtain ⟨z0, z1, zf⟩ := rowTwo hrp
    have zf0 := zf 0
    have zf1 := zf 1
    clear hPO hHX HERR hrp zf HSO hE
    go_wp2_with fail
    generalize (((w4).setCell ⟨P, 0, none⟩ (.slice none 0 0)).setCell ⟨P, 1, none⟩ (.slice none 0 0)) = Z at *
    obtain ⟨y0, y1, -⟩ := rowTwo HHX.out
    exact bodyPost_ret (v := .tuple #[.agg #[.slice none 0 0, .slice none 0 0], .int .i64 WE]) (by simp [results, Tryz.results15, go_sem, y0, y1]) rfl HPO.out
  subst hE
  obtain ⟨⟨hw4, hb, hs', hrp⟩, -⟩ := HSO.out w4 HW4.out
  obtain ⟨z0, z1, zf⟩ := rowTwo hrp
  have zf0 := zf 0
  have zf1 := zf 1
  obtain ⟨k0, k1, -⟩ := rowTwo hRO4
  have hg := grTwo w4 P (.slice q3 n3 c3) (.slice q2 n2 c2)
  have hwZ : Below w.heap.size w (((w4).setCell ⟨P, 0, none⟩ (.slice q3 n3 c3)).setCell ⟨P, 1, none⟩ (.slice q2 n2 c2)) := hw4.grown hg hw4.size (fun k hk => by cases hk; have := HP.out; omega)
  have HHX := hidK (setTwo hrp (.slice q3 n3 c3) (.slice q2 n2 c2))
  have hn := ls_off HN4.out hg (two_no hrp) HLG.out
  have ho := ls_off hs' hg (two_no hrp) (book_lv HBK.out).2
  have HPO : Hid (JoinPost bs ss 1 p ⟨r1, r2, r3, r4, r5⟩ w (.returned (.tuple #[.agg #[.slice q3 n3 c3, .slice q2 n2 c2], .int .i64 0])) (((w4).setCell ⟨P, 0, none⟩ (.slice q3 n3 c3)).setCell ⟨P, 1, none⟩ (.slice q2 n2 c2))) := by
    refine ⟨_, _, _, _, _, _, by rw [HPE.out], fun _ => ⟨?_, ?_⟩, hwZ⟩
    · unfold put1; rw [if_pos rfl]; exact hn
    · unfold put2; rw [if_pos rfl]; exact ho
  clear hg hwZ hn ho zf hrp hRO4 hb hs' hw4 HERR HSO
  go_wp2_with fail
  generalize (((w4).setCell ⟨P, 0, none⟩ (.slice q3 n3 c3)).setCell ⟨P, 1, none⟩ (.slice q2 n2 c2)) = Z at *
  obtain ⟨y0, y1, -⟩ := rowTwo HHX.out
  exact bodyPost_ret (v := .tuple #[.agg #[.slice q3 n3 c3, .slice q2 n2 c2], .int .i64 0]) (by simp [results, Tryz.results15, go_sem, y0, y1]) rfl HPO.out

set_option maxRecDepth 100000 in
set_option maxHeartbeats 4000000 in
theorem rjoin_2 (q1 q2 : Option Addr) (n1 n2 c1 c2 : Nat) (bs ss : List L) (p r1 r2 r3 r4 r5 : Int) (w : World) (h1 : LS w (.slice q1 n1 c1) bs) (h2 : LS w (.slice q2 n2 c2) ss) (hbk : bookE bs ss = 0) :
    Calls Tryz.prog 15 #[.agg #[.slice q1 n1 c1, .slice q2 n2 c2], .int .i64 2, .int .i64 p, .agg #[.int .i64 r1, .int .i64 r2, .int .i64 r3, .int .i64 r4, .int .i64 r5]] w fun e w' => JoinPost bs ss 2 p ⟨r1, r2, r3, r4, r5⟩ w e w' := by
  obtain ⟨e1, e2, -⟩ := book_zero hbk
  obtain ⟨V1, hV1⟩ : ∃ V1, V1 = w.alloc (.cells #[.slice q1 n1 c1, .slice q2 n2 c2] 24) := ⟨_, rfl⟩
  obtain ⟨V2, hV2⟩ : ∃ V2, V2 = V1.alloc (.cells #[.int .i64 r1, .int .i64 r2, .int .i64 r3, .int .i64 r4, .int .i64 r5] 26) := ⟨_, rfl⟩
  obtain ⟨V, hV⟩ : ∃ V, V = V2.alloc (.cells #[.slice none 0 0, .slice none 0 0] 24) := ⟨_, rfl⟩
  have hs1 : V1.heap.size = w.heap.size + 1 := by rw [hV1]; simp
  have hs2 : V2.heap.size = w.heap.size + 2 := by rw [hV2]; simp [hs1]
  have hb1 : Below w.heap.size w V1 := by rw [hV1]; exact (Below.refl _ _).alloc (Nat.le_refl _) _
  have hb2 : Below V1.heap.size V1 V2 := by rw [hV2]; exact (Below.refl _ _).alloc (Nat.le_refl _) _
  have hb3 : Below V2.heap.size V2 V := by rw [hV]; exact (Below.refl _ _).alloc (Nat.le_refl _) _
  have hr1 : V1.heap[w.heap.size]? = some (.cells #[.slice q1 n1 c1, .slice q2 n2 c2] 24 (0, 0)) := by rw [hV1]; exact heap_alloc_new w _
  have hr2 : V2.heap[w.heap.size + 1]? = some (.cells #[.int .i64 r1, .int .i64 r2, .int .i64 r3, .int .i64 r4, .int .i64 r5] 26 (0, 0)) := by rw [← hs1, hV2]; exact heap_alloc_new V1 _
  have hr3 : V.heap[w.heap.size + 2]? = some (.cells #[.slice none 0 0, .slice none 0 0] 24 (0, 0)) := by rw [← hs2, hV]; exact heap_alloc_new V2 _
  have hBV : Below w.heap.size w V := by
    have h := hb1.trans (hb2.mono hb1.size)
    exact h.trans (hb3.mono h.size)
  have hB0 : V.heap[w.heap.size]? = some (.cells #[.slice q1 n1 c1, .slice q2 n2 c2] 24 (0, 0)) := by rw [hb3.block _ (by omega), hb2.block _ (by omega)]; exact hr1
  have hR0 : V.heap[w.heap.size + 1]? = some (.cells #[.int .i64 r1, .int .i64 r2, .int .i64 r3, .int .i64 r4, .int .i64 r5] 26 (0, 0)) := by rw [hb3.block _ (by omega)]; exact hr2
  obtain ⟨P, hP⟩ : ∃ P, P = w.heap.size + 2 := ⟨_, rfl⟩
  obtain ⟨R0, hR⟩ : ∃ R0, R0 = w.heap.size + 1 := ⟨_, rfl⟩
  rw [← hP] at hr3
  rw [← hR] at hR0
  have hPV : P < V.heap.size := (Array.getElem?_eq_some_iff.1 hr3).1
  obtain ⟨g0, g1, -⟩ := rowTwo hB0
  obtain ⟨t0, t1, t2, t3, t4, -⟩ := rowFive hR0
  have HP := hidK (show P = w.heap.size + 2 ∧ R0 = w.heap.size + 1 ∧ P < V.heap.size from ⟨hP, hR, hPV⟩)
  have HSO : Hid (∀ W, Below V.heap.size V W → (Below w.heap.size w W ∧ LS W (.slice q1 n1 c1) bs ∧ LS W (.slice q2 n2 c2) ss ∧ W.heap[P]? = some (.cells #[.slice none 0 0, .slice none 0 0] 24 (0, 0))) ∧ W.cell? ⟨w.heap.size, 0, none⟩ = some (.slice q1 n1 c1) ∧ W.cell? ⟨w.heap.size, 1, none⟩ = some (.slice q2 n2 c2) ∧ W.cell? ⟨R0, 0, none⟩ = some (.int .i64 r1) ∧ W.cell? ⟨R0, 1, none⟩ = some (.int .i64 r2) ∧ W.cell? ⟨R0, 2, none⟩ = some (.int .i64 r3) ∧ W.cell? ⟨R0, 3, none⟩ = some (.int .i64 r4) ∧ W.cell? ⟨R0, 4, none⟩ = some (.int .i64 r5)) := fun W hW => by
    have hw := hBV.trans (hW.mono hBV.size)
    exact ⟨⟨hw, h1.below hw, h2.below hw, (hW.block P hPV).trans hr3⟩, keeps hW g0, keeps hW g1, keeps hW t0, keeps hW t1, keeps hW t2, keeps hW t3, keeps hW t4⟩
  obtain ⟨AE, hAE⟩ : ∃ AE, addE 2 ss p ⟨r1, r2, r3, r4, r5⟩ = AE := ⟨_, rfl⟩
  have HAE := hidK hAE
  have HBK := hidK hbk
  have HOF : Hid (∀ U, Below V.heap.size V U → Calls Tryz.prog 19 #[.agg #[.slice q1 n1 c1, .slice q2 n2 c2], .int .i64 2] U fun e w' => e = .returned (.slice q2 n2 c2) ∧ Below V.heap.size V w') := fun U hU => (rof_any 2 q1 q2 n1 n2 c1 c2 U).mono fun e w' h => by
    obtain ⟨g, hb⟩ := h
    rw [if_neg (by decide)] at g
    exact ⟨g, hU.trans (hb.mono hU.size)⟩
  have HAD : Hid (∀ U, Below V.heap.size V U → Calls Tryz.prog 47 #[.int .i64 2, .slice q2 n2 c2, .int .i64 p, .agg #[.int .i64 r1, .int .i64 r2, .int .i64 r3, .int .i64 r4, .int .i64 r5]] U fun x w' => ∃ q3 n3 c3, x = .returned (.tuple #[.slice q3 n3 c3, .int .i64 AE]) ∧ LS w' (.slice q3 n3 c3) (addL 2 ss p ⟨r1, r2, r3, r4, r5⟩) ∧ Below V.heap.size V w') := fun U hU => by
    refine (radd_good 2 p r1 r2 r3 r4 r5 _ _ _ ss U (HSO.out U hU).1.2.2.1 e2).mono ?_
    rintro x w' ⟨v', rfl, hl, hb⟩
    obtain ⟨q3, n3, c3, rfl⟩ := ls_form hl
    exact ⟨q3, n3, c3, by rw [hAE], hl, hU.trans (hb.mono hU.size)⟩
  have HERR : Hid (∀ W k, Below V.heap.size V W → putE bs ss 2 p ⟨r1, r2, r3, r4, r5⟩ = k → ¬ k = 0 → JoinPost bs ss 2 p ⟨r1, r2, r3, r4, r5⟩ w (.returned (.tuple #[.agg #[.slice none 0 0, .slice none 0 0], .int .i64 k])) (((W).setCell ⟨P, 0, none⟩ (.slice none 0 0)).setCell ⟨P, 1, none⟩ (.slice none 0 0)) ∧ (((W).setCell ⟨P, 0, none⟩ (.slice none 0 0)).setCell ⟨P, 1, none⟩ (.slice none 0 0)).heap[P]? = some (.cells #[.slice none 0 0, .slice none 0 0] 24 (0, 0))) := fun W k hW hk hk0 => by
    obtain ⟨⟨hw, -, -, hrp⟩, -⟩ := HSO.out W hW
    have hg := grTwo W P (.slice none 0 0) (.slice none 0 0)
    exact ⟨⟨none, none, 0, 0, 0, 0, by rw [hk], fun h => absurd (hk.symm.trans h) hk0, hw.grown hg hw.size (fun k hk => by cases hk; have := HP.out; omega)⟩, setTwo hrp _ _⟩
  have SO : Hid (∀ W, Below V.heap.size V W → (Below V.heap.size V W ∧ W.cell? ⟨w.heap.size, 0, none⟩ = some (.slice q1 n1 c1) ∧ W.cell? ⟨w.heap.size, 1, none⟩ = some (.slice q2 n2 c2) ∧ W.cell? ⟨R0, 0, none⟩ = some (.int .i64 r1) ∧ W.cell? ⟨R0, 1, none⟩ = some (.int .i64 r2) ∧ W.cell? ⟨R0, 2, none⟩ = some (.int .i64 r3) ∧ W.cell? ⟨R0, 3, none⟩ = some (.int .i64 r4) ∧ W.cell? ⟨R0, 4, none⟩ = some (.int .i64 r5))) := fun W hW => ⟨hW, (HSO.out W hW).2⟩
  clear hs1 hs2 hb1 hb2 hb3 hr1 hr2 hr3 hBV hB0 hR0 hPV hAE h1 h2
  go_enter Tryz.func15, Tryz.ntmps15
  go_upto_region 1 with fail
  rw [← hV1, ← hV2, ← hV]
  simp only [← hP]
  simp only [← hR]
  clear hV1 hV2 hV hP hR
  go_region_held3 (fun W => Below V.heap.size V W ∧ W.cell? ⟨w.heap.size, 0, none⟩ = some (.slice q1 n1 c1) ∧ W.cell? ⟨w.heap.size, 1, none⟩ = some (.slice q2 n2 c2) ∧ W.cell? ⟨R0, 0, none⟩ = some (.int .i64 r1) ∧ W.cell? ⟨R0, 1, none⟩ = some (.int .i64 r2) ∧ W.cell? ⟨R0, 2, none⟩ = some (.int .i64 r3) ∧ W.cell? ⟨R0, 3, none⟩ = some (.int .i64 r4) ∧ W.cell? ⟨R0, 4, none⟩ = some (.int .i64 r5))
    ((refine SO.out _ ?_; (repeat' (first | with_reducible assumption | with_reducible refine bal ?_ _ | with_reducible refine Below.drew ?_ | with_reducible exact Below.refl _ _ | with_reducible exact Nat.le_refl _ | with_reducible exact Below.size (by with_reducible assumption)))))
    (first | (go_at_call 19; with_reducible refine (HOF.out _ ?_).mono ?_; (repeat' (first | with_reducible assumption | with_reducible refine bal ?_ _ | with_reducible refine Below.drew ?_ | with_reducible exact Below.refl _ _ | with_reducible exact Nat.le_refl _ | with_reducible exact Below.size (by with_reducible assumption))); rintro x Wo ⟨rfl, hbo⟩) | (go_at_call 47; with_reducible refine (HAD.out _ ?_).mono ?_; (repeat' (first | with_reducible assumption | with_reducible refine bal ?_ _ | with_reducible refine Below.drew ?_ | with_reducible exact Below.refl _ _ | with_reducible exact Nat.le_refl _ | with_reducible exact Below.size (by with_reducible assumption))); rintro x W ⟨q3, n3, c3, rfl, hl3, hbn⟩))
  have HBN := hidK hbn
  have HL3 := hidK hl3
  clear g0 g1 t0 t1 t2 t3 t4 SO HOF HAD hbn hl3
  by_cases hA : AE = 0
  rotate_left
  · have hA1 : (AE != 0) = true := by simp [hA]
    obtain ⟨hPO, hHX⟩ := HERR.out W AE HBN.out (by unfold putE; rw [if_pos HBK.out, show (if (2 : Int) = 1 then bs else ss) = ss from rfl, HAE.out, if_neg hA]) hA
    have HPO := hidK hPO
    have HHX := hidK hHX
    obtain ⟨⟨-, -, -, hrp⟩, -⟩ := HSO.out W HBN.out
    obtain ⟨z0, z1, zf⟩ := rowTwo hrp
    have zf0 := zf 0
    have zf1 := zf 1
    clear hPO hHX HERR hrp zf HSO hA e1 e2
    go_wp2_with fail
    generalize (((W).setCell ⟨P, 0, none⟩ (.slice none 0 0)).setCell ⟨P, 1, none⟩ (.slice none 0 0)) = Z at *
    obtain ⟨y0, y1, -⟩ := rowTwo HHX.out
    exact bodyPost_ret (v := .tuple #[.agg #[.slice none 0 0, .slice none 0 0], .int .i64 AE]) (by simp [results, Tryz.results15, go_sem, y0, y1]) rfl HPO.out
  subst hA
  obtain ⟨a0, a1, a2, a3, a4⟩ := add_zero HAE.out
  have hsk : schk 2 (putL 2 p ⟨r1, r2, r3, r4, r5⟩ ss) = 0 := schk_put a0 a1 a2 a3 (by have := (schk_zero a0).2.2.1; omega)
  have hcn := cnt_put 2 p ⟨r1, r2, r3, r4, r5⟩ ss
  have hAL : addL 2 ss p ⟨r1, r2, r3, r4, r5⟩ = putL 2 p ⟨r1, r2, r3, r4, r5⟩ ss := by unfold addL; rw [if_pos HAE.out]
  have hpu : putE bs ss 2 p ⟨r1, r2, r3, r4, r5⟩ = wholeE (bs) (putL 2 p ⟨r1, r2, r3, r4, r5⟩ ss) := by
    unfold putE
    rw [if_pos HBK.out, show (if (2 : Int) = 1 then bs else ss) = ss from rfl, if_pos HAE.out]
    unfold put1 put2
    rw [if_neg (by decide), if_neg (by decide)]
    unfold bookE wholeE
    rw [if_pos e1, if_pos hsk]
  have HPE := hidK hpu
  have HCN := hidK (show cnt (bs) ≤ 60 ∧ cnt (putL 2 p ⟨r1, r2, r3, r4, r5⟩ ss) ≤ 60 from ⟨(schk_zero e1).2.2.1, by have := (schk_zero a0).2.2.1; omega⟩)
  have HLG := hidK (sgo_each (schk_zero hsk).2.1)
  have HNW := hidK (show LS W (.slice q3 n3 c3) (putL 2 p ⟨r1, r2, r3, r4, r5⟩ ss) by have h := HL3.out; rw [hAL] at h; exact h)
  obtain ⟨-, g0, g1, t0, t1, t2, t3, t4⟩ := HSO.out W HBN.out
  clear a0 a1 a2 a3 a4 hsk hcn hAL hpu HL3 e1 e2
  go_wp2_with fail
  refine (rwith_any 2 q1 q2 q3 n1 n2 n3 c1 c2 c3 W).mono ?_
  rintro e w2 ⟨rfl, b2⟩
  rw [if_neg (by decide)]
  have hBa : Below w2.heap.size w2 (w2.alloc (.cells #[.slice q1 n1 c1, .slice q3 n3 c3] 24)) := (Below.refl _ _).alloc (Nat.le_refl _) _
  have hb2 := b2.trans (hBa.mono b2.size)
  have HW3 := hidK (HBN.out.trans (hb2.mono HBN.out.size))
  have HN3 := hidK (HNW.out.below hb2)
  have hRO : (w2.alloc (.cells #[.slice q1 n1 c1, .slice q3 n3 c3] 24)).heap[w2.heap.size]? = some (.cells #[.slice q1 n1 c1, .slice q3 n3 c3] 24 (0, 0)) := heap_alloc_new w2 _
  clear g0 g1 t0 t1 t2 t3 t4 b2 hBa hb2 HNW
  go_upto_region 5 with fail
  generalize w2.alloc (.cells #[.slice q1 n1 c1, .slice q3 n3 c3] 24) = W3 at *
  generalize w2.heap.size = OB at *
  obtain ⟨k0, k1, -⟩ := rowTwo hRO
  obtain ⟨⟨-, hb, hs', -⟩, -⟩ := HSO.out W3 HW3.out
  have HWH := hidK (rwhole_any q1 q3 n1 n3 c1 c3 (bs) (putL 2 p ⟨r1, r2, r3, r4, r5⟩ ss) W3 hb HN3.out HCN.out.1 HCN.out.2)
  obtain ⟨WE, hWE⟩ : ∃ WE, wholeE (bs) (putL 2 p ⟨r1, r2, r3, r4, r5⟩ ss) = WE := ⟨_, rfl⟩
  rw [hWE] at HWH HPE
  clear hb hs' hWE
  go_wp2_with fail
  refine HWH.out.mono ?_
  rintro e w4 ⟨rfl, b4⟩
  have HW4 := hidK (HW3.out.trans (b4.mono HW3.out.size))
  have HN4 := hidK (HN3.out.below b4)
  have hRO4 := (b4.block OB (Array.getElem?_eq_some_iff.1 hRO).1).trans hRO
  clear k0 k1 b4 HN3 hRO HWH HW3
  by_cases hE : WE = 0
  rotate_left
  · have hE1 : (WE != 0) = true := by simp [hE]
    obtain ⟨hPO, hHX⟩ := HERR.out w4 WE HW4.out HPE.out hE
    have HPO := hidK hPO
    have HHX := hidK hHX
    obtain ⟨⟨-, -, -, hrp⟩, -⟩ := HSO.out w4 HW4.out
    obtain ⟨z0, z1, zf⟩ := rowTwo hrp
    have zf0 := zf 0
    have zf1 := zf 1
    clear hPO hHX HERR hrp zf HSO hE
    go_wp2_with fail
    generalize (((w4).setCell ⟨P, 0, none⟩ (.slice none 0 0)).setCell ⟨P, 1, none⟩ (.slice none 0 0)) = Z at *
    obtain ⟨y0, y1, -⟩ := rowTwo HHX.out
    exact bodyPost_ret (v := .tuple #[.agg #[.slice none 0 0, .slice none 0 0], .int .i64 WE]) (by simp [results, Tryz.results15, go_sem, y0, y1]) rfl HPO.out
  subst hE
  obtain ⟨⟨hw4, hb, hs', hrp⟩, -⟩ := HSO.out w4 HW4.out
  obtain ⟨z0, z1, zf⟩ := rowTwo hrp
  have zf0 := zf 0
  have zf1 := zf 1
  obtain ⟨k0, k1, -⟩ := rowTwo hRO4
  have hg := grTwo w4 P (.slice q1 n1 c1) (.slice q3 n3 c3)
  have hwZ : Below w.heap.size w (((w4).setCell ⟨P, 0, none⟩ (.slice q1 n1 c1)).setCell ⟨P, 1, none⟩ (.slice q3 n3 c3)) := hw4.grown hg hw4.size (fun k hk => by cases hk; have := HP.out; omega)
  have HHX := hidK (setTwo hrp (.slice q1 n1 c1) (.slice q3 n3 c3))
  have hn := ls_off HN4.out hg (two_no hrp) HLG.out
  have ho := ls_off hb hg (two_no hrp) (book_lv HBK.out).1
  have HPO : Hid (JoinPost bs ss 2 p ⟨r1, r2, r3, r4, r5⟩ w (.returned (.tuple #[.agg #[.slice q1 n1 c1, .slice q3 n3 c3], .int .i64 0])) (((w4).setCell ⟨P, 0, none⟩ (.slice q1 n1 c1)).setCell ⟨P, 1, none⟩ (.slice q3 n3 c3))) := by
    refine ⟨_, _, _, _, _, _, by rw [HPE.out], fun _ => ⟨?_, ?_⟩, hwZ⟩
    · unfold put1; rw [if_neg (by decide)]; exact ho
    · unfold put2; rw [if_neg (by decide)]; exact hn
  clear hg hwZ hn ho zf hrp hRO4 hb hs' hw4 HERR HSO
  go_wp2_with fail
  generalize (((w4).setCell ⟨P, 0, none⟩ (.slice q1 n1 c1)).setCell ⟨P, 1, none⟩ (.slice q3 n3 c3)) = Z at *
  obtain ⟨y0, y1, -⟩ := rowTwo HHX.out
  exact bodyPost_ret (v := .tuple #[.agg #[.slice q1 n1 c1, .slice q3 n3 c3], .int .i64 0]) (by simp [results, Tryz.results15, go_sem, y0, y1]) rfl HPO.out

theorem rjoin_any (s : Int) (hs : s = 1 ∨ s = 2) (q1 q2 : Option Addr) (n1 n2 c1 c2 : Nat) (bs ss : List L) (p r1 r2 r3 r4 r5 : Int) (w : World) (h1 : LS w (.slice q1 n1 c1) bs) (h2 : LS w (.slice q2 n2 c2) ss) (hbk : bookE bs ss = 0) :
    Calls Tryz.prog 15 #[.agg #[.slice q1 n1 c1, .slice q2 n2 c2], .int .i64 s, .int .i64 p, .agg #[.int .i64 r1, .int .i64 r2, .int .i64 r3, .int .i64 r4, .int .i64 r5]] w fun e w' => JoinPost bs ss s p ⟨r1, r2, r3, r4, r5⟩ w e w' := by
  rcases hs with rfl | rfl
  · exact rjoin_1 q1 q2 n1 n2 c1 c2 bs ss p r1 r2 r3 r4 r5 w h1 h2 hbk
  · exact rjoin_2 q1 q2 n1 n2 c1 c2 bs ss p r1 r2 r3 r4 r5 w h1 h2 hbk
end Go.Proofs.YtpbbgbjgndikdaaGreatDoor.kin
