/- The walk of the law KindsWhole. -/
import Derived.Test.YtegbicmfgblphaaDoorKinDo
import Derived.Test.YtegbicmfgblphaaDoorMeeOwn
import Derived.Test.YtegbicmfgblphaaDoorTold
namespace Go.Proofs.YtegbicmfgblphaaDoor.kindsWhole
open Go.RowKit Go.Proofs.YtegbicmfgblphaaDoor.spn Go.Proofs.YtegbicmfgblphaaDoor.que Go.Proofs.YtegbicmfgblphaaDoor.sid Go.Proofs.YtegbicmfgblphaaDoor.bok Go.Proofs.YtegbicmfgblphaaDoor.mee Go.Proofs.YtegbicmfgblphaaDoor.kin
open Go.Proofs.YtegbicmfgblphaaDoor.ord (O oV mB mE chk meets_any)
open Go.Proofs.YtegbicmfgblphaaDoor.tickP (priceB sideB)

/-- The book, and who comes. -/
def kwB (has : Int) : List L := [⟨100, [⟨1, 1, has, 0, 0⟩]⟩]
def kwO (kind want : Int) : O := ⟨2, 2, 1, kind, 100, want, 0, 0⟩
theorem kw_rchk {has : Int} (h1 : 1 ≤ has) (h2 : has ≤ 10000) : rchk ⟨1, 1, has, 0, 0⟩ = 0 :=
  rchk_of ⟨⟨h1, h2⟩, ⟨by simp, by simp⟩, ⟨by simp, by simp⟩, fun _ => rfl, fun h => absurd rfl h, ⟨by simp, by simp⟩, ⟨by simp, by simp⟩⟩
theorem kw_side {has : Int} (h1 : 1 ≤ has) (h2 : has ≤ 10000) : schk 2 (kwB has) = 0 :=
  schk_put (s := 2) (p := 100) (r := ⟨1, 1, has, 0, 0⟩) (ls := []) (schk_none (by decide)) (by decide) (kw_rchk h1 h2) (by simp [ids, flatP]) (by simp [cnt])
theorem kw_book {has : Int} (h1 : 1 ≤ has) (h2 : has ≤ 10000) : bookE [] (kwB has) = 0 := by
  unfold bookE
  rw [if_pos (schk_none (by decide)), if_pos (kw_side h1 h2), if_neg (show ¬ crossB [] (kwB has) = true by simp [crossB]), if_neg (by simp [twiceB, allR, kwB]), if_neg (by simp [allR, kwB])]
theorem kw_chk {kind want : Int} (hk : kind = 3 ∨ kind = 4 ∨ kind = 5) (w1 : 1 ≤ want) (w2 : want ≤ 10000) : chk (kwO kind want) = 0 := by
  unfold chk kwO ord.headB ord.priceOkB ord.qtyB ord.shapeB ord.stopB ord.prB
  rcases hk with rfl | rfl | rfl <;> simp <;> omega
theorem kw_come {has kind want : Int} (h1 : 1 ≤ has) (h2 : has ≤ 10000) (hk : kind = 3 ∨ kind = 4 ∨ kind = 5) (w1 : 1 ≤ want) (w2 : want ≤ 10000) : comeE [] (kwB has) (kwO kind want) = 0 := by
  unfold comeE
  rw [if_pos (kw_book h1 h2), if_pos (kw_chk hk w1 w2), if_pos (show (kwO kind want).stop = 0 from rfl), if_neg (show ¬ inBook [] (kwB has) (kwO kind want).id = true by simp [inBook, ids, flatP, rowP, kwB, kwO])]
theorem kw_meets {kind want : Int} (hk : kind = 3 ∨ kind = 4 ∨ kind = 5) : mB (kwO kind want) 100 = true := by
  unfold mB kwO
  rcases hk with rfl | rfl | rfl <;> simp
theorem kw_met {has kind want : Int} (h1 : 1 ≤ has) (h2 : has ≤ 10000) (hk : kind = 3 ∨ kind = 4 ∨ kind = 5) (w1 : 1 ≤ want) : (metR [] (kwB has) (kwO kind want)).2.1 = [⟨1, 2, 1, 2, 100, min want has⟩] ∧ (metR [] (kwB has) (kwO kind want)).2.2 = want - min want has := by
  have et := sw_take (q := want) (qty := has) (j := 1) (kw_rchk h1 h2) (by omega)
  show (tkl (kwO kind want) (kwB has) want).2.1 = _ ∧ (tkl (kwO kind want) (kwB has) want).2.2 = _
  unfold kwB
  by_cases hlt : want < has
  · rw [if_pos hlt] at et
    have e := tkl_last (o := kwO kind want) (l := ⟨100, [⟨1, 1, has, 0, 0⟩]⟩) (t := []) (q := want) (by omega) (kw_meets hk) (by rw [et]; simp)
    rw [e, et]
    have hm : min want has = want := by omega
    rw [hm]
    refine ⟨?_, ?_⟩
    · simp [trd, kwO]
    · simp [sum]
  · rw [if_neg hlt] at et
    have e := tkl_gone (o := kwO kind want) (l := ⟨100, [⟨1, 1, has, 0, 0⟩]⟩) (t := []) (q := want) (by omega) (kw_meets hk) (by rw [et])
    rw [e, et]
    have hm : min want has = has := by omega
    rw [hm]
    refine ⟨?_, ?_⟩
    · simp [trd, kwO, tkl]
    · simp [sum, tkl]
theorem kw_do {has kind want : Int} (h1 : 1 ≤ has) (h2 : has ≤ 10000) (hk : kind = 3 ∨ kind = 4 ∨ kind = 5) (w1 : 1 ≤ want) (w2 : want ≤ 10000) : doE [] (kwB has) (kwO kind want) = 0 := by
  unfold doE
  rw [if_pos (kw_come h1 h2 hk w1 w2), (kw_met h1 h2 hk w1).1]
  rfl
theorem kw_now {has want : Int} (h1 : 1 ≤ has) (h2 : has ≤ 10000) (w1 : 1 ≤ want) (w2 : want ≤ 10000) : kdoE [] (kwB has) (kwO 3 want) = 0 ∧ kdoG [] (kwB has) (kwO 3 want) = want - min want has := by
  unfold kdoE kdoG
  rw [if_pos (kw_do h1 h2 (.inl rfl) w1 w2), (kw_met h1 h2 (.inl rfl) w1).2]
  constructor
  · simp [refE, setE, stayB, mayK, kwO]
  · simp [setG, stayB, mayK, kwO]
theorem kw_whole {has want : Int} (h1 : 1 ≤ has) (h2 : has ≤ 10000) (w1 : 1 ≤ want) (w2 : want ≤ 10000) : kdoE [] (kwB has) (kwO 4 want) = (if has < want then 9 else 0) ∧ (¬ has < want → kdoG [] (kwB has) (kwO 4 want) = 0) := by
  unfold kdoE kdoG
  rw [if_pos (kw_do h1 h2 (.inr (.inl rfl)) w1 w2), (kw_met h1 h2 (.inr (.inl rfl)) w1).2]
  constructor
  · by_cases hx : has < want
    · have hr : refE (kwO 4 want) (want - min want has) = 9 := by
        unfold refE
        rw [if_pos ⟨rfl, by omega⟩]
      rw [hr, if_pos hx]
      rfl
    · have hr : refE (kwO 4 want) (want - min want has) = 0 := by
        unfold refE
        rw [if_neg (by omega), if_neg (by simp [kwO])]
      rw [hr, if_neg hx, if_pos rfl]
      simp [setE, stayB, mayK, kwO]
  · intro hx
    simp [setG, stayB, mayK, kwO]
    omega
theorem kw_post {has want : Int} (h1 : 1 ≤ has) (h2 : has ≤ 10000) (w1 : 1 ≤ want) (w2 : want ≤ 10000) : kdoE [] (kwB has) (kwO 5 want) = 8 := by
  unfold kdoE
  rw [if_pos (kw_do h1 h2 (.inr (.inr rfl)) w1 w2), (kw_met h1 h2 (.inr (.inr rfl)) w1).2]
  have hr : refE (kwO 5 want) (want - min want has) = 8 := by
    unfold refE
    rw [if_neg (by simp [kwO]), if_pos ⟨rfl, by show want - min want has < want; omega⟩]
  rw [hr]
  rfl
theorem kw_ls {has : Int} {w : World} {R0 L0 : Nat} (hr : w.heap[R0]? = some (.cells #[.int .i64 1, .int .i64 1, .int .i64 has, .int .i64 0, .int .i64 0] 23 (0, 0))) (hl : w.heap[L0]? = some (.cells #[.int .i64 100, .slice (some ⟨R0, 0, none⟩) 1 1] 26 (0, 0))) : LS w (.slice (some ⟨L0, 0, none⟩) 1 1) (kwB has) := by
  refine .inr ⟨L0, 0, 1, rfl, Nat.le_refl _, by omega, (Array.getElem?_eq_some_iff.1 hl).1, fun k hk => ?_⟩
  have hk0 : k = 0 := by simp [kwB] at hk; exact hk
  subst hk0
  obtain ⟨l0, l1, -⟩ := rowTwo hl
  refine ⟨l0, _, l1, .inl (.inr ⟨R0, 0, 1, rfl, Nat.le_refl _, by omega, (Array.getElem?_eq_some_iff.1 hr).1, fun j hj i u hu => ?_⟩)⟩
  have hj0 : j = 0 := by simp [kwB] at hj; exact hj
  subst hj0
  obtain ⟨r0, r1, r2, r3, r4, -⟩ := rowFive hr
  match i, hu with
  | 0, hu => simp [rV, kwB] at hu; subst hu; exact r0
  | 1, hu => simp [rV, kwB] at hu; subst hu; exact r1
  | 2, hu => simp [rV, kwB] at hu; subst hu; exact r2
  | 3, hu => simp [rV, kwB] at hu; subst hu; exact r3
  | 4, hu => simp [rV, kwB] at hu; subst hu; exact r4
  | i + 5, hu => simp [rV, kwB] at hu
/-- What comes where nothing is refused. -/
theorem kw_good {has kind want gone : Int} (h1 : 1 ≤ has) (h2 : has ≤ 10000) (hk : kind = 3 ∨ kind = 4 ∨ kind = 5) (w1 : 1 ≤ want) (h0 : kdoE [] (kwB has) (kwO kind want) = 0) (hg : kdoG [] (kwB has) (kwO kind want) = gone) (L0 : Nat) (w : World) (hL : LS w (.slice (some ⟨L0, 0, none⟩) 1 1) (kwB has)) :
    Calls Tryd.prog 4 #[.agg #[.slice none 0 0, .slice (some ⟨L0, 0, none⟩) 1 1], .agg #[.int .i64 2, .int .i64 2, .int .i64 1, .int .i64 kind, .int .i64 100, .int .i64 want, .int .i64 0, .int .i64 0]] w fun e w' => ∃ u1 u2 m1 m2 k1 k2 g off tc, e = .returned (.tuple #[.agg #[.slice u1 m1 k1, .slice u2 m2 k2], .slice (some ⟨g, off, none⟩) 1 tc, .int .i64 gone, .nilIface]) ∧ w'.cell? ⟨g, off + 5, none⟩ = some (.int .i64 (min want has)) ∧ Below w.heap.size w w' := by
  refine (kdo_any none (some ⟨L0, 0, none⟩) 0 1 0 1 [] (kwB has) 2 2 1 kind 100 want 0 0 w (ls_nil _) hL).mono ?_
  rintro e w' ⟨i1, -, i3⟩
  obtain ⟨u1, u2, m1, m2, k1, k2, tv, rfl, -, -, hT⟩ := i1 h0
  have hm : (metR [] (kwB has) ⟨2, 2, 1, kind, 100, want, 0, 0⟩).2.1 = [⟨1, 2, 1, 2, 100, min want has⟩] := (kw_met h1 h2 hk w1).1
  have hg' : kdoG [] (kwB has) ⟨2, 2, 1, kind, 100, want, 0, 0⟩ = gone := hg
  rw [hm] at hT
  obtain ⟨tq, tc, htv⟩ := OwnM.form hT
  subst htv
  obtain ⟨g, off, htq, -, -, -, -, -, -, c5⟩ := OwnT.at hT (k := 0) (by simp)
  subst htq
  simp only [Nat.zero_mul, Nat.add_zero] at c5
  exact ⟨u1, u2, m1, m2, k1, k2, g, off, tc, by rw [hg']; rfl, c5, i3⟩
theorem kw_bad {has kind want kk : Int} (h0 : kdoE [] (kwB has) (kwO kind want) = kk) (hn : ¬ kk = 0) (L0 : Nat) (w : World) (hL : LS w (.slice (some ⟨L0, 0, none⟩) 1 1) (kwB has)) :
    Calls Tryd.prog 4 #[.agg #[.slice none 0 0, .slice (some ⟨L0, 0, none⟩) 1 1], .agg #[.int .i64 2, .int .i64 2, .int .i64 1, .int .i64 kind, .int .i64 100, .int .i64 want, .int .i64 0, .int .i64 0]] w fun e w' => e = .returned (.tuple #[.agg #[.slice none 0 0, .slice none 0 0], .slice none 0 0, .int .i64 0, .iface 44 (.int .i64 kk)]) ∧ Below w.heap.size w w' := by
  refine (kdo_any none (some ⟨L0, 0, none⟩) 0 1 0 1 [] (kwB has) 2 2 1 kind 100 want 0 0 w (ls_nil _) hL).mono ?_
  rintro e w' ⟨-, i2, i3⟩
  have h0' : kdoE [] (kwB has) ⟨2, 2, 1, kind, 100, want, 0, 0⟩ = kk := h0
  rw [h0', errV_of hn] at i2
  exact ⟨i2 hn, i3⟩

theorem walk_out (has want : Int) (B w : World) (h : told.Inv B w) (ho : has < 1 ∨ (¬ has < 1 ∧ 10000 < has) ∨ (¬ has < 1 ∧ ¬ 10000 < has ∧ want < 1) ∨ (¬ has < 1 ∧ ¬ 10000 < has ∧ ¬ want < 1 ∧ 10000 < want)) :
    Calls Tryd.prog 3 #[.int .i64 has, .int .i64 want] w fun e w' => e = .returned (.bool true) ∧ told.Inv B w' := by
  have HI := hidK h
  rcases ho with g1 | ⟨g1, g2⟩ | ⟨g1, g2, g3⟩ | ⟨g1, g2, g3, g4⟩
  all_goals
    clear h
    go_enter Tryd.func3, Tryd.ntmps3
    go_wp2_with fail
    go_ret
    exact ⟨rfl, HI.out⟩

set_option maxRecDepth 100000 in
set_option maxHeartbeats 4000000 in
theorem walk_in (has want : Int) (B w : World) (h : told.Inv B w) (g1 : ¬ has < 1) (g2 : ¬ 10000 < has) (g3 : ¬ want < 1) (g4 : ¬ 10000 < want) :
    Calls Tryd.prog 3 #[.int .i64 has, .int .i64 want] w fun e w' => e = .returned (.bool true) ∧ told.Inv B w' := by
  have k1 : 1 ≤ has := by omega
  have k2 : has ≤ 10000 := by omega
  have k3 : 1 ≤ want := by omega
  have k4 : want ≤ 10000 := by omega
  obtain ⟨V1, hV1⟩ : ∃ V1, V1 = w.alloc (.cells #[.int .i64 1, .int .i64 1, .int .i64 has, .int .i64 0, .int .i64 0] 23) := ⟨_, rfl⟩
  obtain ⟨V2, hV2⟩ : ∃ V2, V2 = V1.alloc (.cells #[.int .i64 100, .slice (some ⟨w.heap.size, 0, none⟩) 1 1] 26) := ⟨_, rfl⟩
  obtain ⟨V3, hV3⟩ : ∃ V3, V3 = V2.alloc (.cells #[.slice none 0 0, .slice (some ⟨w.heap.size + 1, 0, none⟩) 1 1] 29) := ⟨_, rfl⟩
  have s1 : V1.heap.size = w.heap.size + 1 := by rw [hV1]; simp
  have s2 : V2.heap.size = w.heap.size + 2 := by rw [hV2]; simp [s1]
  have b1 : Below w.heap.size w V1 := by rw [hV1]; exact (Below.refl _ _).alloc (Nat.le_refl _) _
  have b2 : Below V1.heap.size V1 V2 := by rw [hV2]; exact (Below.refl _ _).alloc (Nat.le_refl _) _
  have b3 : Below V2.heap.size V2 V3 := by rw [hV3]; exact (Below.refl _ _).alloc (Nat.le_refl _) _
  have hr1 : V1.heap[w.heap.size]? = some (.cells #[.int .i64 1, .int .i64 1, .int .i64 has, .int .i64 0, .int .i64 0] 23 (0, 0)) := by rw [hV1]; exact heap_alloc_new w _
  have hl2 : V2.heap[w.heap.size + 1]? = some (.cells #[.int .i64 100, .slice (some ⟨w.heap.size, 0, none⟩) 1 1] 26 (0, 0)) := by rw [← s1, hV2]; exact heap_alloc_new V1 _
  have hb3 : V3.heap[w.heap.size + 2]? = some (.cells #[.slice none 0 0, .slice (some ⟨w.heap.size + 1, 0, none⟩) 1 1] 29 (0, 0)) := by rw [← s2, hV3]; exact heap_alloc_new V2 _
  have HLS : Hid (∀ W, Below V3.heap.size V3 W → LS W (.slice (some ⟨w.heap.size + 1, 0, none⟩) 1 1) (kwB has) ∧ W.cell? ⟨w.heap.size + 2, 0, none⟩ = some (.slice none 0 0) ∧ W.cell? ⟨w.heap.size + 2, 1, none⟩ = some (.slice (some ⟨w.heap.size + 1, 0, none⟩) 1 1)) := fun W hW => by
    have hL : LS V3 (.slice (some ⟨w.heap.size + 1, 0, none⟩) 1 1) (kwB has) := kw_ls (R0 := w.heap.size) (by rw [b3.block _ (by omega), b2.block _ (by omega)]; exact hr1) (by rw [b3.block _ (by omega)]; exact hl2)
    obtain ⟨y0, y1, -⟩ := rowTwo hb3
    exact ⟨hL.below hW, keeps hW y0, keeps hW y1⟩
  have HI3 : Hid (told.Inv B V3) := h.on (b1.trans ((b2.trans (b3.mono b2.size)).mono b1.size))
  have HMM : Hid (1 ≤ min want has ∧ min want has ≤ want ∧ (has < want → min want has = has) ∧ (¬ has < want → min want has = want)) := ⟨by omega, by omega, fun _ => by omega, fun _ => by omega⟩
  have HWO := hidK (kw_whole k1 k2 k3 k4)
  have HNO := hidK (kw_now k1 k2 k3 k4)
  have HPO := hidK (kw_post k1 k2 k3 k4)
  have HKK : Hid (1 ≤ has ∧ has ≤ 10000 ∧ 1 ≤ want ∧ want ≤ 10000) := ⟨k1, k2, k3, k4⟩
  obtain ⟨P, hP⟩ : ∃ P, P = w.heap.size + 2 := ⟨_, rfl⟩
  obtain ⟨LB, hLB⟩ : ∃ LB, LB = w.heap.size + 1 := ⟨_, rfl⟩
  rw [← hP, ← hLB] at HLS
  have hxx : (want == want) = true := by simp
  have hyy : (has == has) = true := by simp
  clear s1 s2 b1 b2 b3 hr1 hl2 hb3 h k1 k2 k3 k4
  go_enter Tryd.func3, Tryd.ntmps3
  go_upto_region 4 with fail
  rw [← hV1, ← hV2, ← hV3]
  simp only [← hP]
  clear hV1 hV2 hV3 hP hLB g1 g2 g3 g4
  obtain ⟨hL3, y0, y1⟩ := HLS.out V3 (Below.refl _ _)
  by_cases hlt : has < want
  · have hW9 := HWO.out.1
    rw [if_pos hlt] at hW9
    obtain ⟨mq, hmq⟩ : ∃ mq, min want has = mq := ⟨_, rfl⟩
    have hm1 : mq = has := by rw [← hmq]; exact HMM.out.2.2.1 hlt
    subst hm1
    have HMQ := hidK hmq
    have HN2 : Hid (kdoG [] (kwB mq) (kwO 3 want) = want - mq) := by have h := HNO.out.2; rw [hmq] at h; exact h
    obtain ⟨ls, hls⟩ : ∃ ls, want - mq = ls := ⟨_, rfl⟩
    have E1 : Hid (wrap64 (want - mq) = ls) := by show _ = _; have h := HKK.out; rw [← hls]; unfold wrap64; omega
    rw [hls] at HN2
    clear hmq hls
    go_wp2_with fail
    refine (kw_bad hW9 (by decide) _ V3 hL3).mono ?_
    rintro e w1 ⟨rfl, b1⟩
    have hBa : Below w1.heap.size w1 (w1.alloc (.cells #[.slice none 0 0, .slice none 0 0] 29)) := (Below.refl _ _).alloc (Nat.le_refl _) _
    have HW1 := hidK (b1.trans (hBa.mono b1.size))
    clear b1 hBa y0 y1 hL3 hW9
    go_upto_region 5 with fail
    generalize w1.alloc (.cells #[.slice none 0 0, .slice none 0 0] 29) = W1 at *
    obtain ⟨hL, y0, y1⟩ := HLS.out W1 HW1.out
    go_wp2_with fail
    refine (kw_good HKK.out.1 HKK.out.2.1 (.inl rfl) HKK.out.2.2.1 HNO.out.1 HN2.out _ W1 hL).mono ?_
    rintro e w2 ⟨u1, u2, m1, m2, k1, k2, g, off, tc, rfl, c5, b2⟩
    have hBa : Below w2.heap.size w2 (w2.alloc (.cells #[.slice u1 m1 k1, .slice u2 m2 k2] 29)) := (Below.refl _ _).alloc (Nat.le_refl _) _
    rw [HMQ.out] at c5
    have x5 := keeps hBa c5
    have HW2 := hidK (HW1.out.trans ((b2.trans (hBa.mono b2.size)).mono HW1.out.size))
    clear b2 hBa c5 y0 y1 hL
    go_upto_region 6 with fail
    generalize w2.alloc (.cells #[.slice u1 m1 k1, .slice u2 m2 k2] 29) = W2 at *
    obtain ⟨hL, y0, y1⟩ := HLS.out W2 HW2.out
    go_wp2_with fail
    refine (kw_bad HPO.out (by decide) _ W2 hL).mono ?_
    rintro e w3 ⟨rfl, b3⟩
    have hBa : Below w3.heap.size w3 (w3.alloc (.cells #[.slice none 0 0, .slice none 0 0] 29)) := (Below.refl _ _).alloc (Nat.le_refl _) _
    have hb3 := b3.trans (hBa.mono b3.size)
    have z5 := keeps hb3 x5
    have HI := hidK (HI3.out.on (HW2.out.trans (hb3.mono HW2.out.size)))
    clear b3 hBa hb3 x5 y0 y1 hL
    go_upto_region 7 with fail
    generalize w3.alloc (.cells #[.slice none 0 0, .slice none 0 0] 29) = W3 at *
    have HE8 := told.error_any W3 8 8 W3 (told.Inv.start HI.out.laid)
    simp only [show told.errV 8 = .iface 44 (.int .i64 8) from rfl, show ((8 : Int) == 8) = true from rfl] at HE8
    go_wp2_with fail
    refine HE8.mono ?_
    rintro e w4 ⟨rfl, i4⟩
    have q5 : w4.cell? ⟨g, off + 5, none⟩ = some (.int .i64 mq) := keeps i4.2 z5
    have HI4 := hidK (HI.out.on i4.2)
    clear i4 z5 HE8
    go_upto_region 11 with fail
    have HE9 := told.error_any w4 9 9 w4 (told.Inv.start HI4.out.laid)
    simp only [show told.errV 9 = .iface 44 (.int .i64 9) from rfl, show ((9 : Int) == 9) = true from rfl] at HE9
    have x1 := E1.out
    have hll : (ls == ls) = true := by simp
    go_wp2_with (go_at_call 5; refine HE9.mono ?_; rintro e w5 ⟨rfl, i5⟩; have r5 : w5.cell? ⟨g, off + 5, none⟩ = some (.int .i64 mq) := keeps i5.2 q5)
    go_ret
    exact ⟨rfl, HI4.out.on i5.2⟩
  · have hW9 := HWO.out.1
    rw [if_neg hlt] at hW9
    have hG9 := HWO.out.2 hlt
    obtain ⟨mq, hmq⟩ : ∃ mq, min want has = mq := ⟨_, rfl⟩
    have hm1 : mq = want := by rw [← hmq]; exact HMM.out.2.2.2 hlt
    have HN2 : Hid (kdoG [] (kwB has) (kwO 3 want) = 0) := by have h := HNO.out.2; show _ = _; rw [h, hmq, hm1]; omega
    subst hm1
    have HMQ := hidK hmq
    clear hmq
    go_wp2_with fail
    refine (kw_good HKK.out.1 HKK.out.2.1 (.inr (.inl rfl)) HKK.out.2.2.1 hW9 hG9 _ V3 hL3).mono ?_
    rintro e w1 ⟨a1, a2, a3, a4, a5, a6, g', off', tc', rfl, c5', b1⟩
    have hBa : Below w1.heap.size w1 (w1.alloc (.cells #[.slice a1 a3 a5, .slice a2 a4 a6] 29)) := (Below.refl _ _).alloc (Nat.le_refl _) _
    rw [HMQ.out] at c5'
    have x5' := keeps hBa c5'
    have HW1 := hidK (b1.trans (hBa.mono b1.size))
    clear b1 hBa y0 y1 hL3 hW9 hG9 c5'
    go_upto_region 5 with fail
    generalize w1.alloc (.cells #[.slice a1 a3 a5, .slice a2 a4 a6] 29) = W1 at *
    obtain ⟨hL, y0, y1⟩ := HLS.out W1 HW1.out
    go_wp2_with fail
    refine (kw_good HKK.out.1 HKK.out.2.1 (.inl rfl) HKK.out.2.2.1 HNO.out.1 HN2.out _ W1 hL).mono ?_
    rintro e w2 ⟨u1, u2, m1, m2, k1, k2, g, off, tc, rfl, c5, b2⟩
    have hBa : Below w2.heap.size w2 (w2.alloc (.cells #[.slice u1 m1 k1, .slice u2 m2 k2] 29)) := (Below.refl _ _).alloc (Nat.le_refl _) _
    have hb2 := b2.trans (hBa.mono b2.size)
    rw [HMQ.out] at c5
    have x5 := keeps hBa c5
    have y5' := keeps hb2 x5'
    have HW2 := hidK (HW1.out.trans (hb2.mono HW1.out.size))
    clear b2 hBa c5 y0 y1 hL hb2 x5'
    go_upto_region 6 with fail
    generalize w2.alloc (.cells #[.slice u1 m1 k1, .slice u2 m2 k2] 29) = W2 at *
    obtain ⟨hL, y0, y1⟩ := HLS.out W2 HW2.out
    go_wp2_with fail
    refine (kw_bad HPO.out (by decide) _ W2 hL).mono ?_
    rintro e w3 ⟨rfl, b3⟩
    have hBa : Below w3.heap.size w3 (w3.alloc (.cells #[.slice none 0 0, .slice none 0 0] 29)) := (Below.refl _ _).alloc (Nat.le_refl _) _
    have hb3 := b3.trans (hBa.mono b3.size)
    have z5 := keeps hb3 x5
    have z5' := keeps hb3 y5'
    have HI := hidK (HI3.out.on (HW2.out.trans (hb3.mono HW2.out.size)))
    clear b3 hBa hb3 x5 y0 y1 hL y5'
    go_upto_region 7 with fail
    generalize w3.alloc (.cells #[.slice none 0 0, .slice none 0 0] 29) = W3 at *
    have HE8 := told.error_any W3 8 8 W3 (told.Inv.start HI.out.laid)
    simp only [show told.errV 8 = .iface 44 (.int .i64 8) from rfl, show ((8 : Int) == 8) = true from rfl] at HE8
    go_wp2_with fail
    refine HE8.mono ?_
    rintro e w4 ⟨rfl, i4⟩
    have q5 : w4.cell? ⟨g, off + 5, none⟩ = some (.int .i64 mq) := keeps i4.2 z5
    have q5' : w4.cell? ⟨g', off' + 5, none⟩ = some (.int .i64 mq) := keeps i4.2 z5'
    have HI4 := hidK (HI.out.on i4.2)
    clear i4 z5 HE8 z5'
    go_wp2_with fail
    go_ret
    exact ⟨rfl, HI4.out⟩

theorem walk (has want : Int) (B w : World) (h : told.Inv B w) :
    Calls Tryd.prog 3 #[.int .i64 has, .int .i64 want] w fun e w' => e = .returned (.bool true) ∧ told.Inv B w' := by
  by_cases g1 : has < 1
  · exact walk_out has want B w h (.inl g1)
  by_cases g2 : 10000 < has
  · exact walk_out has want B w h (.inr (.inl ⟨g1, g2⟩))
  by_cases g3 : want < 1
  · exact walk_out has want B w h (.inr (.inr (.inl ⟨g1, g2, g3⟩)))
  by_cases g4 : 10000 < want
  · exact walk_out has want B w h (.inr (.inr (.inr ⟨g1, g2, g3, g4⟩)))
  exact walk_in has want B w h g1 g2 g3 g4
end Go.Proofs.YtegbicmfgblphaaDoor.kindsWhole
