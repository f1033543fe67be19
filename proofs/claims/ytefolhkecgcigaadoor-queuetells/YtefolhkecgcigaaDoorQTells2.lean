/- The walk of QueueTells: from the top to the end. -/
import Derived.Test.YtefolhkecgcigaaDoorQTells
namespace Go.Proofs.YtefolhkecgcigaaDoor.que
open Go.RowKit Go.Proofs.YtefolhkecgcigaaDoor.spn

set_option maxRecDepth 100000 in
set_option maxHeartbeats 2000000 in
theorem tells_walk (p : Option Addr) (Z cp : Nat) (zs : List R) (r1 r2 r3 r4 r5 id n : Int) (B w : World) (hI : told.Inv B w) (hZ : zs.length = Z) (hS : SL w (.slice p Z cp) zs) :
    Calls Tryd.prog 3 #[.slice p Z cp, .agg #[.int .i64 r1, .int .i64 r2, .int .i64 r3, .int .i64 r4, .int .i64 r5], .int .i64 id, .int .i64 n] w fun e w' => e = .returned (.bool true) ∧ told.Inv B w' := by
  have HS : Hid (SL w (.slice p Z cp) zs) := hS
  have HZ : Hid (zs.length = Z) := hZ
  have HQ0 : Hid (QI B w r1 r2 r3 r4 r5 (w.alloc (.cells #[.int .i64 r1, .int .i64 r2, .int .i64 r3, .int .i64 r4, .int .i64 r5] 24))) :=
    ⟨hI.on ((Below.refl _ _).alloc (Nat.le_refl _) _), (Below.refl _ _).alloc (Nat.le_refl _) _, heap_alloc_new w _⟩
  have HQB : Hid (B.heap.size ≤ w.heap.size) := hI.2.size
  clear hS hZ hI
  have HM : Hid (∀ (s : Value) (ys : List R) (wx wy : World), SL wx s ys → Below wx.heap.size wx wy → SL wy s ys) := fun _ _ _ _ h hb => h.below hb
  obtain ⟨E, hE⟩ : ∃ E, qchk zs = E := ⟨_, rfl⟩
  have HE : Hid (qchk zs = E) := hE
  obtain ⟨T, hT⟩ : ∃ T, (if E = 0 then tot zs else 0) = T := ⟨_, rfl⟩
  have HT : Hid ((if E = 0 then tot zs else 0) = T) := hT
  clear hT
  go_enter Tryd.func3, Tryd.ntmps3
  go_wp2_with fail
  refine (rqueue_any _ zs _ (HS.out.below HQ0.out.far)).mono ?_
  rintro e w1 ⟨rfl, hb⟩
  have HQ1 : Hid (QI B w r1 r2 r3 r4 r5 w1) := HQ0.out.on hb
  clear hb HQ0
  rw [hE]
  clear hE
  go_wp2_with fail
  refine (qcheck_any _ zs _ (HS.out.below HQ1.out.far)).mono ?_
  rintro e w2 ⟨rfl, hb⟩
  have HQ2 : Hid (QI B w r1 r2 r3 r4 r5 w2) := HQ1.out.on hb
  clear hb HQ1
  rw [HE.out]
  go_wp2_with fail
  refine (err_same B w r1 r2 r3 r4 r5 E _ HQ2.out).mono ?_
  rintro e w3 ⟨rfl, hb⟩
  have HQ3 : Hid (QI B w r1 r2 r3 r4 r5 w3) := HQ2.out.on hb
  clear hb HQ2
  go_upto_if 37 with fail
  go_cut [11] from 38 to 39 (fun s11 wx => s11 = .int .i64 T ∧ Aside (QI B w r1 r2 r3 r4 r5 wx))
  case first => as_aux_lemma =>
    by_cases h0 : E = 0
    · subst h0
      go_wp2_with fail
      refine (rtotal_any _ zs _ (HS.out.below HQ3.out.far) HE.out).mono ?_
      rintro e w4 ⟨rfl, hb⟩
      have HQ4 : Hid (QI B w r1 r2 r3 r4 r5 w4) := HQ3.out.on hb
      clear hb
      go_wp2_with fail
      go_meet
      case rel => exact ⟨int_eq (by rw [← HT.out]; simp), HQ4.out⟩
    · have h0' : (E == 0) = false := by simp [h0]
      go_wp2_with fail
      go_meet
      case rel => exact ⟨int_eq (by rw [← HT.out, if_neg h0]), HQ3.out⟩
  case rest =>
  obtain ⟨rfl, hQ⟩ := hcut
  clear HQ3
  go_wp2_with fail
  refine (total_any _ zs _ (HS.out.below hQ.out.far)).mono ?_
  rintro e w4 ⟨rfl, hb⟩
  have HQ4 : Hid (QI B w r1 r2 r3 r4 r5 w4) := hQ.out.on hb
  clear hb hQ
  rw [HE.out, HT.out]
  go_wp2_with fail
  refine (err_same B w r1 r2 r3 r4 r5 E _ HQ4.out).mono ?_
  rintro e w5 ⟨rfl, hb⟩
  have HQ5 : Hid (QI B w r1 r2 r3 r4 r5 w5) := HQ4.out.on hb
  clear hb HQ4
  obtain ⟨F1, hF1⟩ : ∃ F1, f1 zs ⟨r1, r2, r3, r4, r5⟩ = F1 := ⟨_, rfl⟩
  have HF1 : Hid (f1 zs ⟨r1, r2, r3, r4, r5⟩ = F1) := hF1
  clear hF1
  go_upto_if 50 with fail
  go_cut [15] from 51 to 52 (fun s15 wx => s15 = .int .i64 F1 ∧ Aside (QI B w r1 r2 r3 r4 r5 wx))
  case first => as_aux_lemma =>
    by_cases h0 : E = 0
    · subst h0
      obtain ⟨d0, d1, d2, d3, d4, -⟩ := row5 HQ5.out.box
      go_wp2_with fail
      refine (rrest_any r1 r2 r3 r4 r5 _).mono ?_
      rintro e w6 ⟨rfl, hb⟩
      have HQ6 : Hid (QI B w r1 r2 r3 r4 r5 w6) := HQ5.out.on hb
      clear hb
      go_wp2_with fail
      go_meet
      case rel => exact ⟨int_eq (by rw [← HF1.out]; unfold f1; rw [if_pos HE.out]), HQ6.out⟩
    · have h0' : (E == 0) = false := by simp [h0]
      go_wp2_with fail
      go_meet
      case rel => exact ⟨int_eq (by rw [← HF1.out]; unfold f1; rw [HE.out, if_neg h0]), HQ5.out⟩
  case rest =>
  obtain ⟨rfl, hQ⟩ := hcut
  clear HQ5
  obtain ⟨m, hm⟩ : ∃ m, idx r1 zs = m := ⟨_, rfl⟩
  have Hm : Hid (idx r1 zs = m) := hm
  clear hm
  go_upto_region 11 with fail
  go_cut [61] from 53 to 61 (fun s61 wx => s61 = .bool (decide (F1 = 0 ∧ 0 ≤ m)) ∧ Aside (QI B w r1 r2 r3 r4 r5 wx))
  case first => as_aux_lemma =>
    by_cases h0 : F1 = 0
    · subst h0
      obtain ⟨d0, d1, d2, d3, d4, -⟩ := row5 hQ.out.box
      go_wp2_with fail
      refine (in_any _ zs r1 _ (HS.out.below hQ.out.far)).mono ?_
      rintro e w6 ⟨rfl, rfl⟩
      rw [Hm.out]
      clear d0 d1 d2 d3 d4
      go_wp2_with fail
      go_meet
      case rel => exact ⟨bool_eq (by simp), hQ.out⟩
    · have h0' : (F1 == 0) = false := by simp [h0]
      go_wp2_with fail
      go_meet
      case rel => exact ⟨bool_eq (by simp [h0]), hQ.out⟩
  case rest =>
  clear hQ
  obtain ⟨rfl, hQ⟩ := hcut
  obtain ⟨F2, hF2⟩ : ∃ F2, f2 zs ⟨r1, r2, r3, r4, r5⟩ = F2 := ⟨_, rfl⟩
  have HF2 : Hid (f2 zs ⟨r1, r2, r3, r4, r5⟩ = F2 ∧ F2 = if F1 = 0 ∧ 0 ≤ m then 7 else F1) := ⟨hF2, by rw [← hF2]; unfold f2; rw [HF1.out]; simp only []; rw [Hm.out]⟩
  clear hF2
  go_upto_if 61 with (fail)
  go_cut [15] from 61 to 61 (fun s15 wx => s15 = .int .i64 F2 ∧ Aside (QI B w r1 r2 r3 r4 r5 wx))
  case first => as_aux_lemma =>
    by_cases h0 : F1 = 0 ∧ 0 ≤ m
    · have h0' : decide (F1 = 0 ∧ 0 ≤ m) = true := by simpa using h0
      have hF : F2 = 7 := by rw [HF2.out.2, if_pos h0]
      rw [h0']
      clear h0 h0'
      go_wp2_with fail
      go_meet
      case rel => exact ⟨int_eq hF.symm, hQ.out⟩
    · have h0' : decide (F1 = 0 ∧ 0 ≤ m) = false := by simpa using h0
      have hF : F2 = F1 := by rw [HF2.out.2, if_neg h0]
      rw [h0']
      clear h0 h0'
      go_wp2_with fail
      go_meet
      case rel => exact ⟨int_eq hF.symm, hQ.out⟩
  case rest =>
  clear hQ
  obtain ⟨rfl, hQ⟩ := hcut
  go_upto_region 13 with fail
  go_cut [68] from 62 to 68 (fun s68 wx => s68 = .bool (decide (F2 = 0 ∧ 60 ≤ Z)) ∧ Aside (QI B w r1 r2 r3 r4 r5 wx))
  case first => as_aux_lemma =>
    by_cases h0 : F2 = 0
    · subst h0
      go_wp2_with fail
      go_meet
      case rel => exact ⟨bool_eq (by simp; omega), hQ.out⟩
    · have h0' : (F2 == 0) = false := by simp [h0]
      go_wp2_with fail
      go_meet
      case rel => exact ⟨bool_eq (by simp [h0]), hQ.out⟩
  case rest =>
  clear hQ
  obtain ⟨rfl, hQ⟩ := hcut
  obtain ⟨F3, hF3⟩ : ∃ F3, f3 zs ⟨r1, r2, r3, r4, r5⟩ = F3 := ⟨_, rfl⟩
  have HF3 : Hid (f3 zs ⟨r1, r2, r3, r4, r5⟩ = F3 ∧ F3 = if F2 = 0 ∧ 60 ≤ Z then 4 else F2) := ⟨hF3, by rw [← hF3]; unfold f3; rw [HF2.out.1, HZ.out]⟩
  clear hF3
  go_upto_if 68 with (fail)
  go_cut [15] from 68 to 68 (fun s15 wx => s15 = .int .i64 F3 ∧ Aside (QI B w r1 r2 r3 r4 r5 wx))
  case first => as_aux_lemma =>
    by_cases h0 : F2 = 0 ∧ 60 ≤ Z
    · have h0' : decide (F2 = 0 ∧ 60 ≤ Z) = true := by simpa using h0
      have hF : F3 = 4 := by rw [HF3.out.2, if_pos h0]
      rw [h0']
      clear h0 h0'
      go_wp2_with fail
      go_meet
      case rel => exact ⟨int_eq hF.symm, hQ.out⟩
    · have h0' : decide (F2 = 0 ∧ 60 ≤ Z) = false := by simpa using h0
      have hF : F3 = F2 := by rw [HF3.out.2, if_neg h0]
      rw [h0']
      clear h0 h0'
      go_wp2_with fail
      go_meet
      case rel => exact ⟨int_eq hF.symm, hQ.out⟩
  case rest =>
  clear hQ
  obtain ⟨rfl, hQ⟩ := hcut
  have HL3 : Hid (F3 = 0 → zs.length + 1 ≤ 60) := by
    intro h
    have h1 := f3_is zs ⟨r1, r2, r3, r4, r5⟩
    rw [HF3.out.1, h] at h1
    unfold pchk at h1
    by_cases h2 : qchk zs = 0
    · obtain ⟨h60, -⟩ := (qchk_zero zs).1 h2
      rw [if_pos h2] at h1
      by_cases h3 : bchk zs ⟨r1, r2, r3, r4, r5⟩ = 0
      · rw [if_pos h3] at h1
        by_cases h4 : zs.length = 60
        · rw [if_pos h4] at h1; cases h1
        · omega
      · rw [if_neg h3] at h1; exact absurd h1.symm h3
    · rw [if_neg h2] at h1; exact absurd h1.symm h2
  clear HF1 HF2 Hm
  go_upto_if 70 with fail
  go_cut [16] from 71 to 77 (fun s16 wx => Aside (SL wx s16 (if F3 = 0 then zs ++ [⟨r1, r2, r3, r4, r5⟩] else []) ∧ QI B w r1 r2 r3 r4 r5 wx))
  case first =>
    by_cases h0 : F3 = 0
    · subst h0
      have h60 := HL3.out rfl
      obtain ⟨v1, wa, hR1, hO1, hgr1, -⟩ := run_append_q wc wc.heap.size (.slice none 0 0) (.slice p Z cp) [] zs (own_nil _ _) (HS.out.below hQ.out.far) (by simp; omega) (Nat.le_refl _)
      rw [List.nil_append] at hO1
      have hBa : Below wc.heap.size wc wa := (Below.refl _ _).grown hgr1 (Nat.le_refl _) (fun k hk => by simp [Value.ownBlock] at hk)
      have hQa := hQ.out.on hBa
      obtain ⟨d0, d1, d2, d3, d4, -⟩ := row5 hQa.box
      have hBb : Below wa.heap.size wa (wa.alloc (.cells #[.int .i64 r1, .int .i64 r2, .int .i64 r3, .int .i64 r4, .int .i64 r5] 24)) := (Below.refl _ _).alloc (Nat.le_refl _) _
      obtain ⟨v2, wb, hR2, hO2, hgr2, -⟩ := run_append_q (wa.alloc (.cells #[.int .i64 r1, .int .i64 r2, .int .i64 r3, .int .i64 r4, .int .i64 r5] 24)) wc.heap.size v1 (.slice (some ⟨wa.heap.size, 0, none⟩) 1 1) zs [⟨r1, r2, r3, r4, r5⟩] (hO1.below hBb) (one_sl wa r1 r2 r3 r4 r5) (by simp; omega) (by have := hBa.size; simp; omega)
      have hBc : Below wc.heap.size wc wb := (hBa.trans (hBb.mono hBa.size)).grown hgr2 (by have := hBa.size; simp; omega) (fun k hk => (hO1.lt k hk).1)
      have HQb : Hid (QI B w r1 r2 r3 r4 r5 wb) := hQ.out.on hBc
      have HO2 : Hid (SL wb v2 (if (0 : Int) = 0 then zs ++ [⟨r1, r2, r3, r4, r5⟩] else [])) := by
        show SL _ _ _
        rw [if_pos rfl]
        exact OwnQ.sl hO2
      have HR1 : Hid ((Builtin.append_ #[22, 22] 22 #[.slice none 0 0, .slice p Z cp]).run Tryd.prog wc = .ok v1 wa) := hR1
      have HR2 : Hid ((Builtin.append_ #[22, 22] 22 #[v1, .slice (some ⟨wa.heap.size, 0, none⟩) 1 1]).run Tryd.prog (wa.alloc (.cells #[.int .i64 r1, .int .i64 r2, .int .i64 r3, .int .i64 r4, .int .i64 r5] 24)) = .ok v2 wb) := hR2
      clear hR1 hR2 hO1 hO2 hgr1 hgr2 hBa hBb hBc hQa h60
      go_upto_region 18 with (at_builtin; refine Lib.wpList_append_run _ rfl _ _ _ _ rfl _ _ rfl rfl _ _ HR1.out ?_)
      go_wp2_with (at_builtin; refine Lib.wpList_append_run _ rfl _ _ _ _ rfl _ _ rfl rfl _ _ HR2.out ?_)
      go_meet
      case rel => exact ⟨HO2.out, HQb.out⟩
    · have h0' : (F3 == 0) = false := by simp [h0]
      go_wp2_with fail
      go_meet
      case rel => exact ⟨by rw [if_neg h0]; exact .inl ⟨rfl, rfl⟩, hQ.out⟩
  case rest =>
  clear hQ HL3
  obtain ⟨hW16, hQ⟩ := hcut.out
  clear hcut
  have HW16 : Hid (SL wc u16 (if F3 = 0 then zs ++ [⟨r1, r2, r3, r4, r5⟩] else [])) := hW16
  have HQ : Hid (QI B w r1 r2 r3 r4 r5 wc) := hQ
  clear hW16 hQ
  obtain ⟨d0, d1, d2, d3, d4, -⟩ := row5 HQ.out.box
  go_wp2_with fail
  refine (push_sl _ zs r1 r2 r3 r4 r5 _ (HS.out.below HQ.out.far)).mono ?_
  rintro e w6 ⟨lv, rfl, hG, hb⟩
  rw [HF3.out.1] at hG
  rw [HF3.out.1]
  have HG6 : Hid (SL w6 lv (if F3 = 0 then zs ++ [⟨r1, r2, r3, r4, r5⟩] else [])) := hG
  have HW6 : Hid (SL w6 u16 (if F3 = 0 then zs ++ [⟨r1, r2, r3, r4, r5⟩] else [])) := HW16.out.below hb
  have HQ6 : Hid (QI B w r1 r2 r3 r4 r5 w6) := HQ.out.on hb
  clear hb hG HW16 HQ d0 d1 d2 d3 d4
  go_wp2_with fail
  refine (err_same B w r1 r2 r3 r4 r5 F3 _ HQ6.out).mono ?_
  rintro e w7 ⟨rfl, hb⟩
  have HG7 : Hid (SL w7 lv (if F3 = 0 then zs ++ [⟨r1, r2, r3, r4, r5⟩] else [])) := HG6.out.below hb
  have HW7 : Hid (SL w7 u16 (if F3 = 0 then zs ++ [⟨r1, r2, r3, r4, r5⟩] else [])) := HW6.out.below hb
  have HQ7 : Hid (QI B w r1 r2 r3 r4 r5 w7) := HQ6.out.on hb
  clear hb HG6 HW6 HQ6
  go_wp2_with fail
  refine (rests_same lv u16 _ _ HG7.out HW7.out).mono ?_
  rintro e w8 ⟨rfl, hb⟩
  have HQ8 : Hid (QI B w r1 r2 r3 r4 r5 w8) := HQ7.out.on hb
  clear hb HG7 HW7 HQ7 HF3
  obtain ⟨k, hk⟩ : ∃ k, idx id zs = k := ⟨_, rfl⟩
  have Hk : Hid (idx id zs = k) := hk
  clear hk
  have HQ9 : Hid (QI B w r1 r2 r3 r4 r5 (w8.alloc (.cells #[.int .i64 0, .int .i64 0, .int .i64 0, .int .i64 0, .int .i64 0] 24))) := HQ8.out.on ((Below.refl _ _).alloc (Nat.le_refl _) _)
  have HX9 : Hid (Row5 (w8.alloc (.cells #[.int .i64 0, .int .i64 0, .int .i64 0, .int .i64 0, .int .i64 0] 24)) w8.heap.size 0 0 0 0 0) := heap_alloc_new w8 _
  have HX8 : Hid (w.heap.size ≤ w8.heap.size) := HQ8.out.far.size
  have HXW : Hid (w.heap.size < w8.heap.size) := HQ8.out.lt
  go_wp2_with fail
  refine (in_any _ zs id _ (HS.out.below HQ9.out.far)).mono ?_
  rintro e w9 ⟨rfl, rfl⟩
  rw [Hk.out]
  generalize w8.alloc (.cells #[.int .i64 0, .int .i64 0, .int .i64 0, .int .i64 0, .int .i64 0] 24) = w9 at *
  generalize w8.heap.size = X at *
  clear HQ8
  go_upto_region 26 with fail
  go_cut [99] from 94 to 99 (fun s99 wx => s99 = .bool (decide (E = 0 ∧ k < 0)) ∧ wx = w9)
  case first =>
    by_cases h0 : E = 0
    · subst h0
      go_wp2_with fail
      go_meet
      case rel => exact ⟨bool_eq (by simp), rfl⟩
    · have h0' : (E == 0) = false := by simp [h0]
      go_wp2_with fail
      go_meet
      case rel => exact ⟨bool_eq (by simp [h0]), rfl⟩
  case rest =>
  obtain ⟨rfl, rfl⟩ := hcut
  obtain ⟨D, hD⟩ : ∃ D, dchk zs id = D := ⟨_, rfl⟩
  have HD : Hid (dchk zs id = D) := hD
  clear hD
  obtain ⟨dd, hdd⟩ : ∃ dd, dr zs id = dd := ⟨_, rfl⟩
  obtain ⟨x1, x2, x3, x4, x5⟩ := dd
  have HDR : Hid (dr zs id = ⟨x1, x2, x3, x4, x5⟩) := hdd
  clear hdd
  go_upto_if 99 with fail
  go_cut [15, 16] from 99 to 108 (fun s15 s16 wx => s15 = .int .i64 D ∧ Aside (SL wx s16 (dl zs id) ∧ Row5 wx X x1 x2 x3 x4 x5 ∧ QI B w r1 r2 r3 r4 r5 wx))
  case first =>
    by_cases h0 : E = 0
    · by_cases h1 : k < 0
      · have h2 : decide (E = 0 ∧ k < 0) = true := by simp [h0, h1]
        have HV : Hid (dchk zs id = 5) := by
          show _ = _
          unfold dchk
          rw [if_pos (HE.out.trans h0), Hk.out, if_pos h1]
        have HV2 : Hid (D = 5 ∧ dl zs id = [] ∧ (x1, x2, x3, x4, x5) = ((0 : Int), (0 : Int), (0 : Int), (0 : Int), (0 : Int))) := by
          refine ⟨HD.out.symm.trans HV.out, ?_, ?_⟩
          · unfold dl; rw [HV.out, if_neg (by decide)]
          · have h := HDR.out; unfold dr at h; rw [HV.out, if_neg (by decide)] at h; injection h with a b c d e; rw [← a, ← b, ← c, ← d, ← e]
        rw [h2]
        clear h0 h1 h2
        go_wp2_with fail
        go_meet
        case rel =>
          obtain ⟨a, b, c⟩ := HV2.out
          simp only [Prod.mk.injEq] at c
          obtain ⟨rfl, rfl, rfl, rfl, rfl⟩ := c
          exact ⟨int_eq a.symm, by rw [b]; exact .inl ⟨rfl, rfl⟩, HX9.out, HQ9.out⟩
      · have h2 : decide (E = 0 ∧ k < 0) = false := by simp [h1]
        have HV : Hid (dchk zs id = 0) := by
          show _ = _
          unfold dchk
          rw [if_pos (HE.out.trans h0), Hk.out, if_neg h1]
        have hil := idx_lt id zs
        rw [Hk.out] at hil
        obtain ⟨i, rfl⟩ : ∃ i : Nat, k = (i : Int) := ⟨k.toNat, by omega⟩
        have hiz : i < zs.length := by omega
        have hq0 : qchk zs = 0 := HE.out.trans h0
        obtain ⟨h60, -⟩ := (qchk_zero zs).1 hq0
        have HV2 : Hid (D = 0 ∧ dl zs id = zs.take i ++ zs.drop (i + 1) ∧ zs[i]! = ⟨x1, x2, x3, x4, x5⟩) := by
          refine ⟨HD.out.symm.trans HV.out, ?_, ?_⟩
          · unfold dl; rw [HV.out, if_pos rfl, Hk.out, Int.toNat_natCast]
          · have h := HDR.out; unfold dr at h; rw [HV.out, if_pos rfl, Hk.out, Int.toNat_natCast] at h; exact h
        subst h0
        rw [h2]
        rcases HS.out with ⟨hh, hz⟩ | ⟨b0, o0, c0', hh, hzc, hcm, hb0, hlz⟩
        · rw [hz] at hiz; simp at hiz
        simp only [Value.slice.injEq] at hh
        obtain ⟨rfl, -, rfl⟩ := hh
        have hzc' : Z ≤ cp := by rw [← HZ.out]; exact hzc
        have HLZ : Hid (Lies w b0 o0 zs) := hlz
        have hiZ : i < Z := by rw [← HZ.out]; exact hiz
        have hZ60 : Z ≤ 60 := by rw [← HZ.out]; exact h60
        clear hlz hzc h2 h1 hil hiz hq0 h60
        go_wp2_with fail
        refine (without_some b0 o0 cp Z zs i _ HZ.out (Nat.lt_of_lt_of_le hb0 HQ9.out.far.size) hzc' hcm (by omega) (HLZ.out.below hb0 HQ9.out.far) hiZ).mono ?_
        rintro e w10 ⟨vw, rfl, hO, hb⟩
        have HO10 : Hid (OwnQ w10 wc.heap.size vw (zs.take i ++ zs.drop (i + 1))) := hO
        have HQ10 : Hid (QI B w r1 r2 r3 r4 r5 w10) := HQ9.out.on hb
        have HX10 : Hid (Row5 w10 X 0 0 0 0 0) := HX9.out.on hb
        have HXl : Hid (X < wc.heap.size) := (Array.getElem?_eq_some_iff.1 HX9.out).1
        clear hO hb
        obtain ⟨c0, c1, c2, c3, c4⟩ := lies_at (HLZ.out.below hb0 HQ10.out.far) (show i < zs.length by rw [HZ.out]; exact hiZ) HV2.out.2.2
        obtain ⟨y0, y1, y2, y3, y4, yf⟩ := row5 HX10.out
        have f0 := yf 0
        have f1' := yf 1
        have f2' := yf 2
        have f3' := yf 3
        have f4 := yf 4
        clear yf
        have hin1 : ¬ ((i : Int) < 0) := by omega
        have hin2 : (i : Int) < (Z : Int) := by omega
        have HX := set5 HX10.out (.int .i64 x1) (.int .i64 x2) (.int .i64 x3) (.int .i64 x4) (.int .i64 x5)
        have hgr : w10.grownBy (((((w10.setCell ⟨X, 0, none⟩ (.int .i64 x1)).setCell ⟨X, 1, none⟩ (.int .i64 x2)).setCell ⟨X, 2, none⟩ (.int .i64 x3)).setCell ⟨X, 3, none⟩ (.int .i64 x4)).setCell ⟨X, 4, none⟩ (.int .i64 x5)) (some X) := grown_trans (grown_trans (grown_trans (grown_trans (grown_set _ _ _ _) (grown_set _ _ _ _)) (grown_set _ _ _ _)) (grown_set _ _ _ _)) (grown_set _ _ _ _)
        have hOX := HO10.out.kept hgr (by
          cases h : vw.ownBlock with
          | none => exact .inl rfl
          | some j =>
            right
            intro he
            have e2 := (HO10.out.lt j h).1
            have e3 := HXl.out
            simp only [Option.some.injEq] at he
            omega)
        have HFIN : Hid (SL (((((w10.setCell ⟨X, 0, none⟩ (.int .i64 x1)).setCell ⟨X, 1, none⟩ (.int .i64 x2)).setCell ⟨X, 2, none⟩ (.int .i64 x3)).setCell ⟨X, 3, none⟩ (.int .i64 x4)).setCell ⟨X, 4, none⟩ (.int .i64 x5)) vw (dl zs id) ∧ Row5 (((((w10.setCell ⟨X, 0, none⟩ (.int .i64 x1)).setCell ⟨X, 1, none⟩ (.int .i64 x2)).setCell ⟨X, 2, none⟩ (.int .i64 x3)).setCell ⟨X, 3, none⟩ (.int .i64 x4)).setCell ⟨X, 4, none⟩ (.int .i64 x5)) X x1 x2 x3 x4 x5 ∧ QI B w r1 r2 r3 r4 r5 (((((w10.setCell ⟨X, 0, none⟩ (.int .i64 x1)).setCell ⟨X, 1, none⟩ (.int .i64 x2)).setCell ⟨X, 2, none⟩ (.int .i64 x3)).setCell ⟨X, 3, none⟩ (.int .i64 x4)).setCell ⟨X, 4, none⟩ (.int .i64 x5))) := by
          refine ⟨by rw [HV2.out.2.1]; exact OwnQ.sl hOX, HX, ?_⟩
          have hI2 := HQ10.out.inv
          have hBX : B.heap.size ≤ X := Nat.le_trans HQB.out HX8.out
          refine ⟨⟨hI2.1, hI2.2.grown hgr hI2.2.size (fun j hj => by simp only [Option.some.injEq] at hj; omega)⟩, HQ10.out.far.grown hgr HQ10.out.far.size (fun j hj => by simp only [Option.some.injEq] at hj; have := HX8.out; omega), ?_⟩
          exact (hgr.block w.heap.size HQ10.out.lt (by simp only [ne_eq, Option.some.injEq]; have := HXW.out; omega)).trans HQ10.out.box
        clear HX hgr hOX
        go_wp2_with fail
        go_meet
        case rel => exact ⟨int_eq HV2.out.1.symm, HFIN.out⟩
    · have h2 : decide (E = 0 ∧ k < 0) = false := by simp [h0]
      have h0' : (E == 0) = false := by simp [h0]
      have HV : Hid (dchk zs id = E) := by
        show _ = _
        unfold dchk
        rw [HE.out, if_neg h0]
      have HV2 : Hid (D = E ∧ dl zs id = [] ∧ (x1, x2, x3, x4, x5) = ((0 : Int), (0 : Int), (0 : Int), (0 : Int), (0 : Int))) := by
        refine ⟨HD.out.symm.trans HV.out, ?_, ?_⟩
        · unfold dl; rw [HV.out, if_neg h0]
        · have h := HDR.out; unfold dr at h; rw [HV.out, if_neg h0] at h; injection h with a b c d e; rw [← a, ← b, ← c, ← d, ← e]
      rw [h2]
      clear h2
      go_wp2_with fail
      go_meet
      case rel =>
        obtain ⟨a, b, c⟩ := HV2.out
        simp only [Prod.mk.injEq] at c
        obtain ⟨rfl, rfl, rfl, rfl, rfl⟩ := c
        exact ⟨int_eq a.symm, by rw [b]; exact .inl ⟨rfl, rfl⟩, HX9.out, HQ9.out⟩
  case rest =>
  obtain ⟨rfl, hF⟩ := hcut
  clear HQ9 HX9 HX8 HXW Hk
  have HW11 : Hid (SL wc u16 (dl zs id)) := hF.out.1
  have HX11 : Hid (Row5 wc X x1 x2 x3 x4 x5) := hF.out.2.1
  have HQ11 : Hid (QI B w r1 r2 r3 r4 r5 wc) := hF.out.2.2
  clear hF
  go_wp2_with fail
  refine (drop_sl _ zs id _ (HS.out.below HQ11.out.far)).mono ?_
  rintro e w12 ⟨lv12, rfl, hG, hb⟩
  rw [HD.out, HDR.out]
  simp only []
  have HG12 : Hid (SL w12 lv12 (dl zs id)) := hG
  have HW12 : Hid (SL w12 u16 (dl zs id)) := HW11.out.below hb
  have HX12 : Hid (Row5 w12 X x1 x2 x3 x4 x5) := HX11.out.on hb
  have HQ12 : Hid (QI B w r1 r2 r3 r4 r5 w12) := HQ11.out.on hb
  clear hG hb HW11 HX11 HQ11 HD HDR
  have hal : Below w12.heap.size w12 (w12.alloc (.cells #[.int .i64 x1, .int .i64 x2, .int .i64 x3, .int .i64 x4, .int .i64 x5] 24)) := (Below.refl _ _).alloc (Nat.le_refl _) _
  have HG13 : Hid (SL (w12.alloc (.cells #[.int .i64 x1, .int .i64 x2, .int .i64 x3, .int .i64 x4, .int .i64 x5] 24)) lv12 (dl zs id)) := HG12.out.below hal
  have HW13 : Hid (SL (w12.alloc (.cells #[.int .i64 x1, .int .i64 x2, .int .i64 x3, .int .i64 x4, .int .i64 x5] 24)) u16 (dl zs id)) := HW12.out.below hal
  have HX13 : Hid (Row5 (w12.alloc (.cells #[.int .i64 x1, .int .i64 x2, .int .i64 x3, .int .i64 x4, .int .i64 x5] 24)) X x1 x2 x3 x4 x5) := HX12.out.on hal
  have HQ13 : Hid (QI B w r1 r2 r3 r4 r5 (w12.alloc (.cells #[.int .i64 x1, .int .i64 x2, .int .i64 x3, .int .i64 x4, .int .i64 x5] 24))) := HQ12.out.on hal
  have HY13 : Hid (Row5 (w12.alloc (.cells #[.int .i64 x1, .int .i64 x2, .int .i64 x3, .int .i64 x4, .int .i64 x5] 24)) w12.heap.size x1 x2 x3 x4 x5) := heap_alloc_new w12 _
  clear hal HG12 HW12 HX12 HQ12
  go_wp2_with fail
  refine (err_same B w r1 r2 r3 r4 r5 D _ HQ13.out).mono ?_
  rintro e w14 ⟨rfl, hb⟩
  have HG14 : Hid (SL w14 lv12 (dl zs id)) := HG13.out.below hb
  have HW14 : Hid (SL w14 u16 (dl zs id)) := HW13.out.below hb
  have HX14 : Hid (Row5 w14 X x1 x2 x3 x4 x5) := HX13.out.on hb
  have HY14 : Hid (Row5 w14 w12.heap.size x1 x2 x3 x4 x5) := HY13.out.on hb
  have HQ14 : Hid (QI B w r1 r2 r3 r4 r5 w14) := HQ13.out.on hb
  clear hb HG13 HW13 HX13 HQ13 HY13
  generalize w12.heap.size = Y at *
  go_wp2_with fail
  refine (rests_same lv12 u16 _ _ HG14.out HW14.out).mono ?_
  rintro e w15 ⟨rfl, hb⟩
  have HX15 : Hid (Row5 w15 X x1 x2 x3 x4 x5) := HX14.out.on hb
  have HY15 : Hid (Row5 w15 Y x1 x2 x3 x4 x5) := HY14.out.on hb
  have HQ15 : Hid (QI B w r1 r2 r3 r4 r5 w15) := HQ14.out.on hb
  clear hb HG14 HW14 HX14 HQ14 HY14
  go_upto_region 34 with fail
  go_cut [131] from 122 to 131 (fun s131 wx => s131 = .bool (decide (E = 0 ∧ ¬ (1 ≤ n ∧ n ≤ 10000))) ∧ wx = w15)
  case first =>
    by_cases h0 : E = 0
    · subst h0
      by_cases h1 : n < 1
      · go_wp2_with fail
        go_meet
        case rel => exact ⟨bool_eq (by simp; omega), rfl⟩
      · by_cases h2 : 10000 < n
        · go_wp2_with fail
          go_meet
          case rel => exact ⟨bool_eq (by simp; omega), rfl⟩
        · go_wp2_with fail
          go_meet
          case rel => exact ⟨bool_eq (by simp; omega), rfl⟩
    · have h0' : (E == 0) = false := by simp [h0]
      go_wp2_with fail
      go_meet
      case rel => exact ⟨bool_eq (by simp [h0]), rfl⟩
  case rest =>
  obtain ⟨rfl, rfl⟩ := hcut
  obtain ⟨G, hG⟩ : ∃ G, tchk zs n = G := ⟨_, rfl⟩
  have HG : Hid (tchk zs n = G) := hG
  clear hG
  have HGE : Hid (G = if E = 0 ∧ ¬ (1 ≤ n ∧ n ≤ 10000) then 1 else E) := by
    show _ = _
    rw [← HG.out, ← e5_is, HE.out]
  go_upto_if 131 with (fail)
  go_cut [9] from 131 to 131 (fun s9 wx => s9 = .int .i64 G ∧ wx = wc)
  case first =>
    by_cases h0 : E = 0 ∧ ¬ (1 ≤ n ∧ n ≤ 10000)
    · have h0' : decide (E = 0 ∧ ¬ (1 ≤ n ∧ n ≤ 10000)) = true := by rw [decide_eq_true_eq]; exact h0
      have hF : G = 1 := by rw [HGE.out, if_pos h0]
      rw [h0']
      clear h0 h0'
      go_wp2_with fail
      go_meet
      case rel => exact ⟨int_eq hF.symm, rfl⟩
    · have h0' : decide (E = 0 ∧ ¬ (1 ≤ n ∧ n ≤ 10000)) = false := by rw [decide_eq_false_iff_not]; exact h0
      have hF : G = E := by rw [HGE.out, if_neg h0]
      rw [h0']
      clear h0 h0'
      go_wp2_with fail
      go_meet
      case rel => exact ⟨int_eq hF.symm, rfl⟩
  case rest =>
  obtain ⟨rfl, rfl⟩ := hcut
  go_upto_if 133 with fail
  go_cut [16, 25] from 134 to 139 (fun s16 s25 wx => Aside (SL wx s16 (tl zs n) ∧ SF wx s25 (tf zs n) ∧ Row5 wx X x1 x2 x3 x4 x5 ∧ Row5 wx Y x1 x2 x3 x4 x5 ∧ QI B w r1 r2 r3 r4 r5 wx))
  case first =>
    by_cases h0 : G = 0
    · subst h0
      have HV : Hid (qchk zs = 0 ∧ 1 ≤ n ∧ n ≤ 10000) := by
        have h := HG.out
        unfold tchk at h
        by_cases h1 : qchk zs = 0
        · rw [if_pos h1] at h
          by_cases h2 : 1 ≤ n ∧ n ≤ 10000
          · exact ⟨h1, h2⟩
          · rw [if_neg h2] at h; cases h
        · rw [if_neg h1] at h; exact absurd h h1
      have HV2 : Hid (tf zs n = (take n zs).1 ∧ tl zs n = (take n zs).2) := by
        refine ⟨?_, ?_⟩
        · unfold tf; rw [if_pos HG.out]
        · unfold tl; rw [if_pos HG.out]
      go_wp2_with fail
      refine (rtake_good _ zs n _ (HS.out.below HQ15.out.far) HV.out.1 HV.out.2.1 HV.out.2.2).mono ?_
      rintro e w16 ⟨fv, lv16, rfl, hF, hL, hb⟩
      have HFIN : Hid (SL w16 lv16 (tl zs n) ∧ SF w16 fv (tf zs n) ∧ Row5 w16 X x1 x2 x3 x4 x5 ∧ Row5 w16 Y x1 x2 x3 x4 x5 ∧ QI B w r1 r2 r3 r4 r5 w16) :=
        ⟨by rw [HV2.out.2]; exact hL, by rw [HV2.out.1]; exact OwnF.sf hF, HX15.out.on hb, HY15.out.on hb, HQ15.out.on hb⟩
      clear hF hL hb
      go_wp2_with fail
      go_meet
      case rel => exact HFIN.out
    · have h0' : (G == 0) = false := by simp [h0]
      have HV2 : Hid (tf zs n = [] ∧ tl zs n = []) := by
        refine ⟨?_, ?_⟩
        · unfold tf; rw [HG.out, if_neg h0]
        · unfold tl; rw [HG.out, if_neg h0]
      go_wp2_with fail
      go_meet
      case rel => exact ⟨by rw [HV2.out.2]; exact .inl ⟨rfl, rfl⟩, by rw [HV2.out.1]; exact .inl ⟨rfl, rfl⟩, HX15.out, HY15.out, HQ15.out⟩
  case rest =>
  have HW17 : Hid (SL wc u16 (tl zs n)) := hcut.out.1
  have HF17 : Hid (SF wc u25 (tf zs n)) := hcut.out.2.1
  have HX17 : Hid (Row5 wc X x1 x2 x3 x4 x5) := hcut.out.2.2.1
  have HY17 : Hid (Row5 wc Y x1 x2 x3 x4 x5) := hcut.out.2.2.2.1
  have HQ17 : Hid (QI B w r1 r2 r3 r4 r5 wc) := hcut.out.2.2.2.2
  clear hcut HX15 HY15 HQ15 HGE
  go_wp2_with fail
  refine (take_sl _ zs n _ (HS.out.below HQ17.out.far)).mono ?_
  rintro e w18 ⟨fv18, lv18, rfl, hF, hL, hb⟩
  rw [HG.out]
  have HL18 : Hid (SL w18 lv18 (tl zs n)) := hL
  have HK18 : Hid (SF w18 fv18 (tf zs n)) := hF
  have HW18 : Hid (SL w18 u16 (tl zs n)) := HW17.out.below hb
  have HF18 : Hid (SF w18 u25 (tf zs n)) := HF17.out.below hb
  have HX18 : Hid (Row5 w18 X x1 x2 x3 x4 x5) := HX17.out.on hb
  have HY18 : Hid (Row5 w18 Y x1 x2 x3 x4 x5) := HY17.out.on hb
  have HQ18 : Hid (QI B w r1 r2 r3 r4 r5 w18) := HQ17.out.on hb
  clear hF hL hb HW17 HF17 HX17 HY17 HQ17
  go_wp2_with fail
  refine (err_same B w r1 r2 r3 r4 r5 G _ HQ18.out).mono ?_
  rintro e w19 ⟨rfl, hb⟩
  have HL19 : Hid (SL w19 lv18 (tl zs n)) := HL18.out.below hb
  have HK19 : Hid (SF w19 fv18 (tf zs n)) := HK18.out.below hb
  have HW19 : Hid (SL w19 u16 (tl zs n)) := HW18.out.below hb
  have HF19 : Hid (SF w19 u25 (tf zs n)) := HF18.out.below hb
  have HX19 : Hid (Row5 w19 X x1 x2 x3 x4 x5) := HX18.out.on hb
  have HY19 : Hid (Row5 w19 Y x1 x2 x3 x4 x5) := HY18.out.on hb
  have HQ19 : Hid (QI B w r1 r2 r3 r4 r5 w19) := HQ18.out.on hb
  clear hb HL18 HK18 HW18 HF18 HX18 HY18 HQ18
  go_wp2_with fail
  refine (rests_same lv18 u16 _ _ HL19.out HW19.out).mono ?_
  rintro e w20 ⟨rfl, hb⟩
  have HK20 : Hid (SF w20 fv18 (tf zs n)) := HK19.out.below hb
  have HF20 : Hid (SF w20 u25 (tf zs n)) := HF19.out.below hb
  have HX20 : Hid (Row5 w20 X x1 x2 x3 x4 x5) := HX19.out.on hb
  have HY20 : Hid (Row5 w20 Y x1 x2 x3 x4 x5) := HY19.out.on hb
  have HQ20 : Hid (QI B w r1 r2 r3 r4 r5 w20) := HQ19.out.on hb
  clear hb HL19 HK19 HW19 HF19 HX19 HY19 HQ19
  go_wp2_with fail
  refine (fills_same fv18 u25 _ _ HK20.out HF20.out).mono ?_
  rintro e w21 ⟨rfl, hb⟩
  obtain ⟨y0, y1, y2, y3, y4, -⟩ := row5 (HX20.out.on hb)
  obtain ⟨z0, z1, z2, z3, z4, -⟩ := row5 (HY20.out.on hb)
  have HI21 : Hid (told.Inv B w21) := HQ20.out.inv.on hb
  clear hb HK20 HF20 HX20 HY20 HQ20
  go_wp2_with fail
  go_ret
  exact ⟨rfl, HI21.out⟩

end Go.Proofs.YtefolhkecgcigaaDoor.que
