/- The walk of OrderBack: at every order, two numbers and every text it answers true. -/
import Derived.Test.YtpcomgnglidhhaaDoorOBTick
namespace Go.Proofs.YtpcomgnglidhhaaDoor.ord
open Go.RowKit

theorem err_form (k : Int) : errV k = .nilIface ∨ ∃ j, errV k = .iface 40 (.int .i64 j) := by
  by_cases h : k = 0
  · subst h; exact Or.inl rfl
  · exact Or.inr ⟨k, errV_of h⟩

theorem txt_short {o : O} (h : chk o = 0) : (⟨(txt o).toArray⟩ : ByteArray).size ≤ 2000000 := by
  have h1 := glue_len (wordsOf o) (words_short h)
  have h2 : (wordsOf o).length ≤ 11 := by
    unfold wordsOf headWs tailWs more
    split <;> split <;> split <;> simp
  rw [size_list]
  show (glue (wordsOf o)).length ≤ _
  omega

/-- Who meets a price meets each that is better. -/
theorem meets_better (o : O) (p q : Int) (h3 : bkOk o.side q p = true) (ha : mB o p = true) (hc : bkB o.side q p = true) : mB o q = true := by
  unfold mB at ha ⊢
  unfold bkB at hc
  unfold bkOk at h3
  simp only [Bool.and_eq_true, Bool.or_eq_true, decide_eq_true_eq] at h3 ha ⊢
  rcases ha with ha | ha
  · exact Or.inl ha
  · right
    rcases h3.1 with e | e
    · rw [if_pos e] at ha hc ⊢
      simp only [decide_eq_true_eq] at ha hc ⊢
      omega
    · have hn : ¬ o.side = 1 := by omega
      rw [if_neg hn] at ha hc ⊢
      simp only [decide_eq_true_eq] at ha hc ⊢
      omega

set_option linter.unusedSimpArgs false in
set_option linter.unusedVariables false in
set_option maxRecDepth 100000 in
set_option maxHeartbeats 4000000 in
theorem back_frame (i0 i1 i2 i3 i4 i5 i6 i7 p q : Int) (j0 j1 j2 j3 j4 j5 j6 j7 : Int) (tx ps : ByteArray) (pv xv v1 v2 v3 : Value) (bb xb a1 b1 c1 : Bool) (w : World) (hL : Laid w) (hE : ErrL w)
    (H0 : Hid (∀ W, Laid W → ErrL W → Calls Tryd.prog 5 #[.string ⟨#[55, 32, 49, 32, 98, 117, 121, 32, 108, 105, 109, 105, 116, 32, 50, 48, 32, 97, 116, 32, 49, 48, 48, 32, 115, 104, 111, 119, 32, 53]⟩] W fun e w' => e = .returned (.tuple #[.agg #[.int .i64 7, .int .i64 1, .int .i64 1, .int .i64 1, .int .i64 100, .int .i64 20, .int .i64 5, .int .i64 0], .nilIface]) ∧ Below W.heap.size W w'))
    (H1 : Hid (∀ W, Laid W → Calls Tryd.prog 6 #[.agg #[.int .i64 i0, .int .i64 i1, .int .i64 i2, .int .i64 i3, .int .i64 i4, .int .i64 i5, .int .i64 i6, .int .i64 i7]] W fun e w' => e = .returned (.tuple #[.string ps, pv]) ∧ Below W.heap.size W w'))
    (F1 : Hid ((bb = true ∧ pv = .nilIface) ∨ (bb = false ∧ ∃ k, pv = .iface 40 (.int .i64 k))))
    (H2 : Hid (bb = true → ∀ W, Laid W → ErrL W → Calls Tryd.prog 5 #[.string ps] W fun e w' => e = .returned (.tuple #[.agg #[.int .i64 i0, .int .i64 i1, .int .i64 i2, .int .i64 i3, .int .i64 i4, .int .i64 i5, .int .i64 i6, .int .i64 i7], .nilIface]) ∧ Below W.heap.size W w'))
    (H3 : Hid (∀ W, Laid W → ErrL W → Calls Tryd.prog 5 #[.string tx] W fun e w' => e = .returned (.tuple #[.agg #[.int .i64 j0, .int .i64 j1, .int .i64 j2, .int .i64 j3, .int .i64 j4, .int .i64 j5, .int .i64 j6, .int .i64 j7], xv]) ∧ Below W.heap.size W w'))
    (F3 : Hid ((xb = true ∧ xv = .nilIface) ∨ (xb = false ∧ ∃ k, xv = .iface 40 (.int .i64 k))))
    (H4 : Hid (xb = true → ∀ W, Laid W → Calls Tryd.prog 6 #[.agg #[.int .i64 j0, .int .i64 j1, .int .i64 j2, .int .i64 j3, .int .i64 j4, .int .i64 j5, .int .i64 j6, .int .i64 j7]] W fun e w' => e = .returned (.tuple #[.string tx, .nilIface]) ∧ Below W.heap.size W w'))
    (H5 : Hid (∀ W, Calls Tryd.prog 7 #[.agg #[.int .i64 i0, .int .i64 i1, .int .i64 i2, .int .i64 i3, .int .i64 i4, .int .i64 i5, .int .i64 i6, .int .i64 i7], .int .i64 p] W fun e w' => e = .returned (.tuple #[.bool a1, v1]) ∧ Below W.heap.size W w'))
    (H6 : Hid (∀ W, Calls Tryd.prog 7 #[.agg #[.int .i64 i0, .int .i64 i1, .int .i64 i2, .int .i64 i3, .int .i64 i4, .int .i64 i5, .int .i64 i6, .int .i64 i7], .int .i64 q] W fun e w' => e = .returned (.tuple #[.bool b1, v2]) ∧ Below W.heap.size W w'))
    (H7 : Hid (∀ W, Calls Tryd.prog 8 #[.int .i64 i2, .int .i64 q, .int .i64 p] W fun e w' => e = .returned (.tuple #[.bool c1, v3]) ∧ Below W.heap.size W w'))
    (G1 : Hid (v1 = .nilIface ∨ ∃ k, v1 = .iface 40 (.int .i64 k))) (G2 : Hid (v2 = .nilIface ∨ ∃ k, v2 = .iface 40 (.int .i64 k))) (G3 : Hid (v3 = .nilIface ∨ ∃ k, v3 = .iface 40 (.int .i64 k)))
    (G : Hid (v1 = .nilIface → v2 = .nilIface → v3 = .nilIface → a1 = true → c1 = true → b1 = true)) :
    Calls Tryd.prog 3 #[.agg #[.int .i64 i0, .int .i64 i1, .int .i64 i2, .int .i64 i3, .int .i64 i4, .int .i64 i5, .int .i64 i6, .int .i64 i7], .int .i64 p, .int .i64 q, .string tx] w fun e w' => e = .returned (.bool true) ∧ Below w.heap.size w w' := by
  go_enter Tryd.func3, Tryd.ntmps3
  go_wp2_with fail
  refine (H0.out _ (hL.alloc _) (hE.below ((Below.refl _ _).alloc (Nat.le_refl _) _))).mono ?_
  rintro e w1 ⟨rfl, hb1⟩
  have BX : Hid (∀ W, Below w1.heap.size w1 W → Below w.heap.size w W ∧ Laid W ∧ ErrL W ∧ w.heap.size < W.heap.size ∧ W.cell? ⟨w.heap.size, 0, none⟩ = some (.int .i64 i0) ∧ W.cell? ⟨w.heap.size, 1, none⟩ = some (.int .i64 i1) ∧ W.cell? ⟨w.heap.size, 2, none⟩ = some (.int .i64 i2) ∧ W.cell? ⟨w.heap.size, 3, none⟩ = some (.int .i64 i3) ∧ W.cell? ⟨w.heap.size, 4, none⟩ = some (.int .i64 i4) ∧ W.cell? ⟨w.heap.size, 5, none⟩ = some (.int .i64 i5) ∧ W.cell? ⟨w.heap.size, 6, none⟩ = some (.int .i64 i6) ∧ W.cell? ⟨w.heap.size, 7, none⟩ = some (.int .i64 i7)) := by
    intro W hW
    have h0 : Below w.heap.size w W := (((Below.refl _ _).alloc (Nat.le_refl _) _).trans (hb1.mono (by simp))).trans (hW.mono (by have := hb1.size; simp at this; omega))
    exact ⟨h0, hL.below h0, hE.below h0, (by have h1 := hb1.size; have h2 := hW.size; simp at h1; omega), keeps hW (keeps hb1 (by simp)), keeps hW (keeps hb1 (by simp)), keeps hW (keeps hb1 (by simp)), keeps hW (keeps hb1 (by simp)), keeps hW (keeps hb1 (by simp)), keeps hW (keeps hb1 (by simp)), keeps hW (keeps hb1 (by simp)), keeps hW (keeps hb1 (by simp))⟩
  obtain ⟨-, -, -, ul, u0, u1, u2, u3, u4, u5, u6, u7⟩ := BX.out w1 (Below.refl _ _)
  clear hb1
  go_wp2_with fail
  refine (H1.out _ (BX.out _ ((Below.refl _ _).alloc (Nat.le_refl _) _)).2.1).mono ?_
  rintro e w2 ⟨rfl, hb2⟩
  have B2 : Hid (Below w1.heap.size w1 w2) := ((Below.refl _ _).alloc (Nat.le_refl _) _).trans (hb2.mono (by simp))
  clear hb2 ul u0 u1 u2 u3 u4 u5 u6 u7
  go_upto_region 5 with fail
  go_cut [56] from 55 to 56 (fun s56 wx => s56 = .bool bb ∧ wx = w2)
  case first =>
    rcases F1.out with ⟨rfl, rfl⟩ | ⟨rfl, k, rfl⟩
    · go_wp2_with fail
      go_meet
      case rel => exact ⟨rfl, rfl⟩
    · go_wp2_with fail
      go_meet
      case rel => exact ⟨rfl, rfl⟩
  case rest =>
  obtain ⟨rfl, rfl⟩ := hcut
  go_upto_if 56 with fail
  go_cut [14] from 57 to 68 (fun s14 wx => Hid (Below w1.heap.size w1 wx))
  case first =>
    obtain ⟨-, -, -, ul, u0, u1, u2, u3, u4, u5, u6, u7⟩ := BX.out _ B2.out
    cases bb
    · go_wp2_with fail
      go_meet
      case rel => exact B2
    · have con := H2.out rfl _ (BX.out _ B2.out).2.1 (BX.out _ B2.out).2.2.1
      go_wp2_with fail
      refine con.mono ?_
      rintro e w3 ⟨rfl, hb3⟩
      have B3 : Hid (Below w1.heap.size w1 w3) := B2.out.trans (hb3.mono B2.out.size)
      clear hb3 con
      obtain ⟨-, -, -, yl, y0, y1, y2, y3, y4, y5, y6, y7⟩ := BX.out _ B3.out
      go_wp2_with fail
      go_meet
      case rel => exact B3.out.alloc B3.out.size _
  case rest =>
  obtain ⟨wd, hwd⟩ : ∃ x, x = wc := ⟨_, rfl⟩
  have B4 : Hid (Below w1.heap.size w1 wc) := hcut
  clear hcut hwd wd
  go_wp2_with fail
  refine (H3.out _ (BX.out _ B4.out).2.1 (BX.out _ B4.out).2.2.1).mono ?_
  rintro e w4 ⟨rfl, hb4⟩
  have B5 : Hid (Below w1.heap.size w1 w4) := B4.out.trans (hb4.mono B4.out.size)
  clear hb4
  go_upto_region 10 with fail
  have B6 : Hid (Below w1.heap.size w1 (w4.alloc (.cells #[.int .i64 j0, .int .i64 j1, .int .i64 j2, .int .i64 j3, .int .i64 j4, .int .i64 j5, .int .i64 j6, .int .i64 j7] 23))) := B5.out.alloc B5.out.size _
  go_cut [75] from 74 to 75 (fun s75 wx => s75 = .bool xb ∧ wx = w4.alloc (.cells #[.int .i64 j0, .int .i64 j1, .int .i64 j2, .int .i64 j3, .int .i64 j4, .int .i64 j5, .int .i64 j6, .int .i64 j7] 23))
  case first =>
    rcases F3.out with ⟨rfl, rfl⟩ | ⟨rfl, k, rfl⟩
    · go_wp2_with fail
      go_meet
      case rel => exact ⟨rfl, rfl⟩
    · go_wp2_with fail
      go_meet
      case rel => exact ⟨rfl, rfl⟩
  case rest =>
  obtain ⟨rfl, rfl⟩ := hcut
  go_upto_if 75 with fail
  go_cut [17] from 76 to 87 (fun s17 wx => Hid (Below w1.heap.size w1 wx))
  case first =>
    cases xb
    · go_wp2_with fail
      go_meet
      case rel => exact B6
    · have con := H4.out rfl _ (BX.out _ B6.out).2.1
      go_wp2_with fail
      refine con.mono ?_
      rintro e w5 ⟨rfl, hb5⟩
      have B7 : Hid (Below w1.heap.size w1 w5) := B6.out.trans (hb5.mono B6.out.size)
      clear hb5 con
      go_wp2_with fail
      go_meet
      case rel => exact B7
  case rest =>
  have B8 : Hid (Below w1.heap.size w1 wc) := hcut
  clear hcut
  obtain ⟨-, -, -, ul, u0, u1, u2, u3, u4, u5, u6, u7⟩ := BX.out _ B8.out
  have LAST : Hid ((v1 = .nilIface ∧ v2 = .nilIface ∧ v3 = .nilIface ∧ a1 = true ∧ c1 = true ∧ b1 = true) ∨ (v1 = .nilIface ∧ v2 = .nilIface ∧ v3 = .nilIface ∧ a1 = true ∧ c1 = false) ∨ (v1 = .nilIface ∧ v2 = .nilIface ∧ v3 = .nilIface ∧ a1 = false) ∨
      (v1 = .nilIface ∧ v2 = .nilIface ∧ ∃ k, v3 = .iface 40 (.int .i64 k)) ∨ (v1 = .nilIface ∧ ∃ k, v2 = .iface 40 (.int .i64 k)) ∨ ∃ k, v1 = .iface 40 (.int .i64 k)) := by
    rcases G1.out with e1 | e1
    · rcases G2.out with e2 | e2
      · rcases G3.out with e3 | e3
        · cases ha : a1
          · exact Or.inr (Or.inr (Or.inl ⟨e1, e2, e3, rfl⟩))
          · cases hc : c1
            · exact Or.inr (Or.inl ⟨e1, e2, e3, rfl, rfl⟩)
            · exact Or.inl ⟨e1, e2, e3, rfl, rfl, G.out e1 e2 e3 ha hc⟩
        · exact Or.inr (Or.inr (Or.inr (Or.inl ⟨e1, e2, e3⟩)))
      · exact Or.inr (Or.inr (Or.inr (Or.inr (Or.inl ⟨e1, e2⟩))))
    · exact Or.inr (Or.inr (Or.inr (Or.inr (Or.inr e1))))
  clear G G1 G2 G3 H0 H1 H2 H3 H4 F1 F3
  rcases LAST.out with ⟨rfl, rfl, rfl, rfl, rfl, rfl⟩ | ⟨rfl, rfl, rfl, rfl, rfl⟩ | ⟨rfl, rfl, rfl, rfl⟩ | ⟨rfl, rfl, k, rfl⟩ | ⟨rfl, k, rfl⟩ | ⟨k, rfl⟩
  all_goals
    clear LAST
    go_wp2_with fail
    refine (H5.out _).mono ?_
    rintro e w6 ⟨rfl, hb6⟩
    have B9 : Hid (Below w1.heap.size w1 w6) := B8.out.trans (hb6.mono B8.out.size)
    obtain ⟨-, -, -, yl, y0, y1, y2, y3, y4, y5, y6, y7⟩ := BX.out _ B9.out
    clear hb6
    go_wp2_with fail
    refine (H6.out _).mono ?_
    rintro e w7 ⟨rfl, hb7⟩
    have B10 : Hid (Below w1.heap.size w1 w7) := B9.out.trans (hb7.mono B9.out.size)
    obtain ⟨-, -, -, zl, z0, z1, z2, z3, z4, z5, z6, z7⟩ := BX.out _ B10.out
    clear hb7
    go_wp2_with fail
    refine (H7.out _).mono ?_
    rintro e w8 ⟨rfl, hb8⟩
    have B11 : Hid (Below w1.heap.size w1 w8) := B10.out.trans (hb8.mono B10.out.size)
    clear hb8
    go_wp2_with fail
    go_ret
    exact ⟨rfl, (BX.out _ B11.out).1⟩

end Go.Proofs.YtpcomgnglidhhaaDoor.ord
