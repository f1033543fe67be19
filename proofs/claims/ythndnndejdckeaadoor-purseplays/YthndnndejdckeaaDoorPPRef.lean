/- Contracts over this seat's translation: the document's purses: who, Pay. -/
import Derived.Test.YthndnndejdckeaaDoorPPRel
import Derived.BigRegion
namespace Go.Proofs.YthndnndejdckeaaDoor.pur
open Go.RowKit Go.Proofs.YthndnndejdckeaaDoor.spn

theorem gr5k (w : World) (B : Nat) (x0 x1 x2 x3 x4 : Value) (k : Nat) : w.grownBy (((((w.setCell ⟨B, k, none⟩ x0).setCell ⟨B, k + 1, none⟩ x1).setCell ⟨B, k + 2, none⟩ x2).setCell ⟨B, k + 3, none⟩ x3).setCell ⟨B, k + 4, none⟩ x4) (some B) :=
  grT (grT (grT (grT (grC _ _ _ _) (grC _ _ _ _)) (grC _ _ _ _)) (grC _ _ _ _)) (grC _ _ _ _)
def whoB (n : Int) : Bool := decide (1 ≤ n) && decide (n ≤ 9)
theorem whoB_yes {n : Int} (h1 : 1 ≤ n) (h2 : n ≤ 9) : whoB n = true := by simp [whoB, h1, h2]
theorem whoB_no {n : Int} (h : whoB n = false) : ¬ (1 ≤ n ∧ n ≤ 9) := by
  simp [whoB] at h
  omega
theorem badG_c {who n : Int} (h : badG who n = true) : whoB who = false ∨ (whoB who = true ∧ n < 1) ∨ (whoB who = true ∧ ¬ n < 1 ∧ 1000000000 < n) := by
  cases e : whoB who with
  | false => exact .inl rfl
  | true =>
    simp [whoB] at e
    simp [badG, spanB] at h
    by_cases h1 : n < 1
    · exact .inr (.inl ⟨rfl, h1⟩)
    · exact .inr (.inr ⟨rfl, h1, by omega⟩)
theorem rwho_any (n : Int) (w : World) :
    Calls Tryd.prog 17 #[.int .i64 n] w fun e w' => e = .returned (.bool (whoB n)) ∧ w' = w := by
  by_cases h : 1 ≤ n
  · have e : whoB n = decide (n ≤ 9) := by simp [whoB, h]
    rw [e]
    go_enter Tryd.func17, Tryd.ntmps17
    go_wp2
    go_ret
    exact ⟨rfl, rfl⟩
  · have e : whoB n = false := by simp [whoB, h]
    rw [e]
    go_enter Tryd.func17, Tryd.ntmps17
    go_wp2
    go_ret
    exact ⟨rfl, rfl⟩

set_option maxRecDepth 100000 in
set_option maxHeartbeats 4000000 in
theorem rpay_any (M : Nat) (ps : List Pz) (who n : Int) (w : World) (h : RS w M ps) (ho : Ok ps) :
    Calls Tryd.prog 5 #[.pointer (some ⟨M, 0, none⟩), .int .i64 who, .int .i64 n, .bool false] w fun e w' => e = .returned (.int .i64 (payE ps who n)) ∧ RS w' M (payP ps who n) ∧ w.grownBy w' (some M) := by
  have HR := hidU h
  have HW := hidU (rwho_any who w)
  cases hb : badG who n with
  | true =>
    have HE : Hid (payE ps who n = 1) := by show _ = _; unfold payE; rw [hb]; rfl
    have HF : Hid (payP ps who n = ps) := by show _ = _; unfold payP; rw [HE.out]; rfl
    rw [HE.out, HF.out]
    have hc : Hid (whoB who = false ∨ (whoB who = true ∧ n < 1) ∨ (whoB who = true ∧ ¬ n < 1 ∧ 1000000000 < n)) := badG_c hb
    clear h ho hb HE HF
    rcases hc.out with h1 | ⟨h1, h2⟩ | ⟨h1, h2, h3⟩
    all_goals
      rw [h1] at HW
      clear h1 hc
      go_enter Tryd.func5, Tryd.ntmps5
      go_wp2_with fail
      refine HW.out.mono ?_
      rintro e w1 ⟨rfl, rfl⟩
      go_wp2_with fail
      go_ret
      exact ⟨rfl, HR.out, grR _ _⟩
  | false =>
    obtain ⟨b1, b2, b3, b4⟩ := badG_no hb
    rw [whoB_yes b1 b2] at HW
    have g1 : ¬ n < 1 := by omega
    have g2 : ¬ 1000000000 < n := by omega
    obtain ⟨A, rfl⟩ : ∃ A : Nat, who = (A : Int) := ⟨who.toNat, by omega⟩
    have HA : Hid (1 ≤ A ∧ A ≤ 9) := ⟨by omega, by omega⟩
    have a0 : ¬ (A : Int) < 0 := by omega
    have a9 : (A : Int) < 10 := by omega
    have hz := ho.all (A - 1) (by omega)
    obtain ⟨-, z1, z2, z3, z4, z5, z6⟩ := hz
    have HE : Hid (payE ps (A : Int) n = if 1000000000 < (ps[A - 1]!).cash + n then 4 else 0) := by show _ = _; unfold payE; rw [hb, ix_nat]; rfl
    have HN : Hid (∀ W, RS W M ps → payE ps (A : Int) n = 0 → RS (((((W.setCell ⟨M, A * 5, none⟩ (.int .i64 (A : Int))).setCell ⟨M, A * 5 + 1, none⟩ (.int .i64 ((ps[A - 1]!).cash + n))).setCell ⟨M, A * 5 + 2, none⟩ (.int .i64 (ps[A - 1]!).held)).setCell ⟨M, A * 5 + 3, none⟩ (.int .i64 (ps[A - 1]!).stock)).setCell ⟨M, A * 5 + 4, none⟩ (.int .i64 (ps[A - 1]!).hs)) M (payP ps (A : Int) n)) := fun W hW e0 => by
      unfold payP
      rw [if_pos e0, ix_nat]
      exact hW.put5 ho.len A HA.out.1 HA.out.2 _ _ _ _ _ (adC n ps[A - 1]!) ⟨rfl, rfl, rfl, rfl⟩
    have HF : Hid (1000000000 < (ps[A - 1]!).cash + n → payP ps (A : Int) n = ps) := fun hf => by unfold payP; rw [HE.out, if_pos hf, if_neg (by decide)]
    have HCL : Hid (∀ W, RS W M ps → ∃ x, W.cell? ⟨M, A * 5, none⟩ = some (.int .i64 x) ∧ W.cell? ⟨M, A * 5 + 1, none⟩ = some (.int .i64 (ps[A - 1]!).cash) ∧ W.cell? ⟨M, A * 5 + 2, none⟩ = some (.int .i64 (ps[A - 1]!).held) ∧ W.cell? ⟨M, A * 5 + 3, none⟩ = some (.int .i64 (ps[A - 1]!).stock) ∧ W.cell? ⟨M, A * 5 + 4, none⟩ = some (.int .i64 (ps[A - 1]!).hs)) := fun W hW => hW.cells A HA.out.1 HA.out.2
    generalize (ps[A - 1]!).cash = C at *
    generalize (ps[A - 1]!).held = H at *
    generalize (ps[A - 1]!).stock = S at *
    generalize (ps[A - 1]!).hs = T at *
    have hwr : wrap64 (C + n) = C + n := wrapP _ (by omega) (by omega)
    have gC : Hid (C ≤ 1000000000 ∧ S ≤ 1000000000) := ⟨z3, z6⟩
    obtain ⟨x0, c0, c1, c2, c3, c4⟩ := HCL.out w h
    obtain ⟨X, hX⟩ : ∃ X, X = w.heap.size := ⟨_, rfl⟩
    have hR0 := heap_alloc_new w (.cells #[.int .i64 x0, .int .i64 C, .int .i64 H, .int .i64 S, .int .i64 T] 26)
    have HB0 := hidU ((Below.refl _ w).alloc (Nat.le_refl _) (.cells #[.int .i64 x0, .int .i64 C, .int .i64 H, .int .i64 S, .int .i64 T] 26))
    rw [← hX] at hR0
    have HX : Hid (w.heap.size ≤ X ∧ X ≠ M) := ⟨Nat.le_of_eq hX.symm, by have := h.lt; omega⟩
    clear h ho hb b1 b2 b3 b4 z1 z2 z3 z4 z5 z6
    obtain ⟨EV, hEV⟩ : ∃ EV, EV = payE ps (A : Int) n := ⟨_, rfl⟩
    obtain ⟨PF, hPF⟩ : ∃ PF, PF = payP ps (A : Int) n := ⟨_, rfl⟩
    rw [← hEV, ← hPF]
    have HEV := hidU hEV
    have HPF := hidU hPF
    clear hEV hPF
    go_enter Tryd.func5, Tryd.ntmps5
    go_wp2_with fail
    refine HW.out.mono ?_
    rintro e w1 ⟨rfl, rfl⟩
    go_upto_region 5 with fail
    simp only [← hX]
    clear hX c0 c1 c2 c3 c4
    have HR1 := hidU (HR.out.below HB0.out)
    generalize w1.alloc (.cells #[.int .i64 x0, .int .i64 C, .int .i64 H, .int .i64 S, .int .i64 T] 26) = W1 at *
    obtain ⟨d0, d1, d2, d3, d4, df⟩ := row5 hR0
    have HR2 := hidU (heap_setCell_same _ X 1 _ _ (.int .i64 (C + n)) (heap_setCell_same W1 X 0 _ _ (.int .i64 (A : Int)) hR0))
    have HB2 := hidU (belG (belG HB0.out (grC W1 X 0 (.int .i64 (A : Int))) HB0.out.size HX.out.1) (grC _ X 1 (.int .i64 (C + n))) (belG HB0.out (grC W1 X 0 (.int .i64 (A : Int))) HB0.out.size HX.out.1).size HX.out.1)
    have HRS2 := hidU ((HR1.out.keep (grC W1 X 0 (.int .i64 (A : Int))) (fun e => HX.out.2 (by injection e with e; exact e.symm))).keep (grC _ X 1 (.int .i64 (C + n))) (fun e => HX.out.2 (by injection e with e; exact e.symm)))
    clear hR0
    go_upto_region 9 with fail
    generalize (W1.setCell ⟨X, 0, none⟩ (.int .i64 (A : Int))).setCell ⟨X, 1, none⟩ (.int .i64 (C + n)) = W2 at *
    clear d0 d1 d2 d3 d4 df hwr HR1 HB0 HW
    have hR2 : W2.heap[X]? = some (.cells #[.int .i64 (A : Int), .int .i64 (C + n), .int .i64 H, .int .i64 S, .int .i64 T] 26 (0, 0)) := HR2.out
    obtain ⟨d0, d1, d2, d3, d4, df⟩ := row5 hR2
    clear hR2 HR2
    by_cases hf : 1000000000 < C + n
    · have HE2 : Hid (EV = 4) := by show _ = _; rw [HEV.out, HE.out, if_pos hf]
      have HF2 : Hid (PF = ps) := by show _ = _; rw [HPF.out, HF.out hf]
      clear HE HF HN
      have gg : ¬ 1000000000 < S := by have := gC.out; omega
      go_wp2_with fail
      go_ret
      have he := HE2.out
      have hf2 := HF2.out
      subst he
      subst hf2
      exact ⟨rfl, HRS2.out, grB HB2.out _⟩
    · have HE2 : Hid (payE ps (A : Int) n = 0) := by show _ = _; rw [HE.out, if_neg hf]
      have HN2 := hidU (HN.out W2 HRS2.out HE2.out)
      rw [← HPF.out] at HN2
      have HE3 : Hid (EV = 0) := by show _ = _; rw [HEV.out, HE2.out]
      have HG2 := hidU (grT (grB HB2.out (some M)) (gr5k W2 M (.int .i64 (A : Int)) (.int .i64 (C + n)) (.int .i64 H) (.int .i64 S) (.int .i64 T) (A * 5)))
      have gg : ¬ 1000000000 < S := by have := gC.out; omega
      obtain ⟨x1, c0, c1, c2, c3, c4⟩ := HCL.out W2 HRS2.out
      have fz := HRS2.out.froz
      have mixed := mixed
      clear HE HF HN HCL HE2 HR HRS2 HB2
      go_upto_region 11 with fail
      go_big_region_o
      have HN3 := hidU (RS.same (w' := (((((W2.setCell ⟨M, A * 5, none⟩ (.int .i64 (A : Int))).setCell ⟨M, A * 5 + 1, none⟩ (.int .i64 (C + n))).setCell ⟨M, A * 5 + 2, none⟩ (.int .i64 H)).setCell ⟨M, A * 5 + 3, none⟩ (.int .i64 S)).setCell ⟨M, A * 5 + 4, none⟩ (.int .i64 T)).drew) HN2.out rfl)
      have HG3 := hidU (grT HG2.out (grD _ _))
      generalize (((((W2.setCell ⟨M, A * 5, none⟩ (.int .i64 (A : Int))).setCell ⟨M, A * 5 + 1, none⟩ (.int .i64 (C + n))).setCell ⟨M, A * 5 + 2, none⟩ (.int .i64 H)).setCell ⟨M, A * 5 + 3, none⟩ (.int .i64 S)).setCell ⟨M, A * 5 + 4, none⟩ (.int .i64 T)).drew = W3 at *
      clear fz c0 c1 c2 c3 c4 d0 d1 d2 d3 d4 df HN2 HG2
      go_wp2_with fail
      go_ret
      have he := HE3.out
      subst he
      exact ⟨rfl, HN3.out, HG3.out⟩

set_option maxRecDepth 100000 in
set_option maxHeartbeats 4000000 in
theorem rgive_any (M : Nat) (ps : List Pz) (who n : Int) (w : World) (h : RS w M ps) (ho : Ok ps) :
    Calls Tryd.prog 5 #[.pointer (some ⟨M, 0, none⟩), .int .i64 who, .int .i64 n, .bool true] w fun e w' => e = .returned (.int .i64 (giveE ps who n)) ∧ RS w' M (giveP ps who n) ∧ w.grownBy w' (some M) := by
  have HR := hidU h
  have HW := hidU (rwho_any who w)
  cases hb : badG who n with
  | true =>
    have HE : Hid (giveE ps who n = 1) := by show _ = _; unfold giveE; rw [hb]; rfl
    have HF : Hid (giveP ps who n = ps) := by show _ = _; unfold giveP; rw [HE.out]; rfl
    rw [HE.out, HF.out]
    have hc : Hid (whoB who = false ∨ (whoB who = true ∧ n < 1) ∨ (whoB who = true ∧ ¬ n < 1 ∧ 1000000000 < n)) := badG_c hb
    clear h ho hb HE HF
    rcases hc.out with h1 | ⟨h1, h2⟩ | ⟨h1, h2, h3⟩
    all_goals
      rw [h1] at HW
      clear h1 hc
      go_enter Tryd.func5, Tryd.ntmps5
      go_wp2_with fail
      refine HW.out.mono ?_
      rintro e w1 ⟨rfl, rfl⟩
      go_wp2_with fail
      go_ret
      exact ⟨rfl, HR.out, grR _ _⟩
  | false =>
    obtain ⟨b1, b2, b3, b4⟩ := badG_no hb
    rw [whoB_yes b1 b2] at HW
    have g1 : ¬ n < 1 := by omega
    have g2 : ¬ 1000000000 < n := by omega
    obtain ⟨A, rfl⟩ : ∃ A : Nat, who = (A : Int) := ⟨who.toNat, by omega⟩
    have HA : Hid (1 ≤ A ∧ A ≤ 9) := ⟨by omega, by omega⟩
    have a0 : ¬ (A : Int) < 0 := by omega
    have a9 : (A : Int) < 10 := by omega
    have hz := ho.all (A - 1) (by omega)
    obtain ⟨-, z1, z2, z3, z4, z5, z6⟩ := hz
    have HE : Hid (giveE ps (A : Int) n = if 1000000000 < (ps[A - 1]!).stock + n then 4 else 0) := by show _ = _; unfold giveE; rw [hb, ix_nat]; rfl
    have HN : Hid (∀ W, RS W M ps → giveE ps (A : Int) n = 0 → RS (((((W.setCell ⟨M, A * 5, none⟩ (.int .i64 (A : Int))).setCell ⟨M, A * 5 + 1, none⟩ (.int .i64 (ps[A - 1]!).cash)).setCell ⟨M, A * 5 + 2, none⟩ (.int .i64 (ps[A - 1]!).held)).setCell ⟨M, A * 5 + 3, none⟩ (.int .i64 ((ps[A - 1]!).stock + n))).setCell ⟨M, A * 5 + 4, none⟩ (.int .i64 (ps[A - 1]!).hs)) M (giveP ps (A : Int) n)) := fun W hW e0 => by
      unfold giveP
      rw [if_pos e0, ix_nat]
      exact hW.put5 ho.len A HA.out.1 HA.out.2 _ _ _ _ _ (adS n ps[A - 1]!) ⟨rfl, rfl, rfl, rfl⟩
    have HF : Hid (1000000000 < (ps[A - 1]!).stock + n → giveP ps (A : Int) n = ps) := fun hf => by unfold giveP; rw [HE.out, if_pos hf, if_neg (by decide)]
    have HCL : Hid (∀ W, RS W M ps → ∃ x, W.cell? ⟨M, A * 5, none⟩ = some (.int .i64 x) ∧ W.cell? ⟨M, A * 5 + 1, none⟩ = some (.int .i64 (ps[A - 1]!).cash) ∧ W.cell? ⟨M, A * 5 + 2, none⟩ = some (.int .i64 (ps[A - 1]!).held) ∧ W.cell? ⟨M, A * 5 + 3, none⟩ = some (.int .i64 (ps[A - 1]!).stock) ∧ W.cell? ⟨M, A * 5 + 4, none⟩ = some (.int .i64 (ps[A - 1]!).hs)) := fun W hW => hW.cells A HA.out.1 HA.out.2
    generalize (ps[A - 1]!).cash = C at *
    generalize (ps[A - 1]!).held = H at *
    generalize (ps[A - 1]!).stock = S at *
    generalize (ps[A - 1]!).hs = T at *
    have hwr : wrap64 (S + n) = S + n := wrapP _ (by omega) (by omega)
    have gC : Hid (C ≤ 1000000000 ∧ S ≤ 1000000000) := ⟨z3, z6⟩
    obtain ⟨x0, c0, c1, c2, c3, c4⟩ := HCL.out w h
    obtain ⟨X, hX⟩ : ∃ X, X = w.heap.size := ⟨_, rfl⟩
    have hR0 := heap_alloc_new w (.cells #[.int .i64 x0, .int .i64 C, .int .i64 H, .int .i64 S, .int .i64 T] 26)
    have HB0 := hidU ((Below.refl _ w).alloc (Nat.le_refl _) (.cells #[.int .i64 x0, .int .i64 C, .int .i64 H, .int .i64 S, .int .i64 T] 26))
    rw [← hX] at hR0
    have HX : Hid (w.heap.size ≤ X ∧ X ≠ M) := ⟨Nat.le_of_eq hX.symm, by have := h.lt; omega⟩
    clear h ho hb b1 b2 b3 b4 z1 z2 z3 z4 z5 z6
    obtain ⟨EV, hEV⟩ : ∃ EV, EV = giveE ps (A : Int) n := ⟨_, rfl⟩
    obtain ⟨PF, hPF⟩ : ∃ PF, PF = giveP ps (A : Int) n := ⟨_, rfl⟩
    rw [← hEV, ← hPF]
    have HEV := hidU hEV
    have HPF := hidU hPF
    clear hEV hPF
    go_enter Tryd.func5, Tryd.ntmps5
    go_wp2_with fail
    refine HW.out.mono ?_
    rintro e w1 ⟨rfl, rfl⟩
    go_upto_region 5 with fail
    simp only [← hX]
    clear hX c0 c1 c2 c3 c4
    have HR1 := hidU (HR.out.below HB0.out)
    generalize w1.alloc (.cells #[.int .i64 x0, .int .i64 C, .int .i64 H, .int .i64 S, .int .i64 T] 26) = W1 at *
    obtain ⟨d0, d1, d2, d3, d4, df⟩ := row5 hR0
    have HR2 := hidU (heap_setCell_same _ X 3 _ _ (.int .i64 (S + n)) (heap_setCell_same W1 X 0 _ _ (.int .i64 (A : Int)) hR0))
    have HB2 := hidU (belG (belG HB0.out (grC W1 X 0 (.int .i64 (A : Int))) HB0.out.size HX.out.1) (grC _ X 3 (.int .i64 (S + n))) (belG HB0.out (grC W1 X 0 (.int .i64 (A : Int))) HB0.out.size HX.out.1).size HX.out.1)
    have HRS2 := hidU ((HR1.out.keep (grC W1 X 0 (.int .i64 (A : Int))) (fun e => HX.out.2 (by injection e with e; exact e.symm))).keep (grC _ X 3 (.int .i64 (S + n))) (fun e => HX.out.2 (by injection e with e; exact e.symm)))
    clear hR0
    go_upto_region 9 with fail
    generalize (W1.setCell ⟨X, 0, none⟩ (.int .i64 (A : Int))).setCell ⟨X, 3, none⟩ (.int .i64 (S + n)) = W2 at *
    clear d0 d1 d2 d3 d4 df hwr HR1 HB0 HW
    have hR2 : W2.heap[X]? = some (.cells #[.int .i64 (A : Int), .int .i64 C, .int .i64 H, .int .i64 (S + n), .int .i64 T] 26 (0, 0)) := HR2.out
    obtain ⟨d0, d1, d2, d3, d4, df⟩ := row5 hR2
    clear hR2 HR2
    by_cases hf : 1000000000 < S + n
    · have HE2 : Hid (EV = 4) := by show _ = _; rw [HEV.out, HE.out, if_pos hf]
      have HF2 : Hid (PF = ps) := by show _ = _; rw [HPF.out, HF.out hf]
      clear HE HF HN
      skip
      go_wp2_with fail
      go_ret
      have he := HE2.out
      have hf2 := HF2.out
      subst he
      subst hf2
      exact ⟨rfl, HRS2.out, grB HB2.out _⟩
    · have HE2 : Hid (giveE ps (A : Int) n = 0) := by show _ = _; rw [HE.out, if_neg hf]
      have HN2 := hidU (HN.out W2 HRS2.out HE2.out)
      rw [← HPF.out] at HN2
      have HE3 : Hid (EV = 0) := by show _ = _; rw [HEV.out, HE2.out]
      have HG2 := hidU (grT (grB HB2.out (some M)) (gr5k W2 M (.int .i64 (A : Int)) (.int .i64 C) (.int .i64 H) (.int .i64 (S + n)) (.int .i64 T) (A * 5)))
      have gg : ¬ 1000000000 < C := by have := gC.out; omega
      obtain ⟨x1, c0, c1, c2, c3, c4⟩ := HCL.out W2 HRS2.out
      have fz := HRS2.out.froz
      have mixed := mixed
      clear HE HF HN HCL HE2 HR HRS2 HB2
      go_upto_region 11 with fail
      go_big_region_o
      have HN3 := hidU (RS.same (w' := (((((W2.setCell ⟨M, A * 5, none⟩ (.int .i64 (A : Int))).setCell ⟨M, A * 5 + 1, none⟩ (.int .i64 C)).setCell ⟨M, A * 5 + 2, none⟩ (.int .i64 H)).setCell ⟨M, A * 5 + 3, none⟩ (.int .i64 (S + n))).setCell ⟨M, A * 5 + 4, none⟩ (.int .i64 T)).drew) HN2.out rfl)
      have HG3 := hidU (grT HG2.out (grD _ _))
      generalize (((((W2.setCell ⟨M, A * 5, none⟩ (.int .i64 (A : Int))).setCell ⟨M, A * 5 + 1, none⟩ (.int .i64 C)).setCell ⟨M, A * 5 + 2, none⟩ (.int .i64 H)).setCell ⟨M, A * 5 + 3, none⟩ (.int .i64 (S + n))).setCell ⟨M, A * 5 + 4, none⟩ (.int .i64 T)).drew = W3 at *
      clear fz c0 c1 c2 c3 c4 d0 d1 d2 d3 d4 df HN2 HG2
      go_wp2_with fail
      go_ret
      have he := HE3.out
      subst he
      exact ⟨rfl, HN3.out, HG3.out⟩
end Go.Proofs.YthndnndejdckeaaDoor.pur
