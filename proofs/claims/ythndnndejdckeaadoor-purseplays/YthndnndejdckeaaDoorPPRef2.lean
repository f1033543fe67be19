/- Contracts over this seat's translation: the document's purses: Hold, Get. -/
import Derived.Test.YthndnndejdckeaaDoorPPRef
namespace Go.Proofs.YthndnndejdckeaaDoor.pur
open Go.RowKit Go.Proofs.YthndnndejdckeaaDoor.spn

theorem badH_c {who c s : Int} (h : badH who c s = true) : whoB who = false ∨ (whoB who = true ∧ c < 0) ∨ (whoB who = true ∧ ¬ c < 0 ∧ 1000000000 < c) ∨ (whoB who = true ∧ ¬ c < 0 ∧ ¬ 1000000000 < c ∧ s < 0) ∨ (whoB who = true ∧ ¬ c < 0 ∧ ¬ 1000000000 < c ∧ ¬ s < 0 ∧ 1000000000 < s) := by
  cases e : whoB who with
  | false => exact .inl rfl
  | true =>
    simp [whoB] at e
    simp [badH, spanB] at h
    simp only [true_and]
    omega

set_option maxRecDepth 100000 in
set_option maxHeartbeats 4000000 in
theorem rhold_any (M : Nat) (ps : List Pz) (who c s : Int) (w : World) (h : RS w M ps) (ho : Ok ps) :
    Calls Tryd.prog 9 #[.pointer (some ⟨M, 0, none⟩), .int .i64 who, .int .i64 c, .int .i64 s, .bool false] w fun e w' => e = .returned (.int .i64 (holdE ps who c s)) ∧ RS w' M (holdP ps who c s) ∧ w.grownBy w' (some M) := by
  have HR := hidU h
  have HW := hidU (rwho_any who w)
  cases hb : badH who c s with
  | true =>
    have HE : Hid (holdE ps who c s = 1) := by show _ = _; unfold holdE; rw [hb]; rfl
    have HF : Hid (holdP ps who c s = ps) := by show _ = _; unfold holdP; rw [HE.out]; rfl
    rw [HE.out, HF.out]
    have hc := hidU (badH_c hb)
    clear h ho hb HE HF
    rcases hc.out with h1 | ⟨h1, h2⟩ | ⟨h1, h2, h3⟩ | ⟨h1, h2, h3, h4⟩ | ⟨h1, h2, h3, h4, h5⟩
    all_goals
      rw [h1] at HW
      clear h1 hc
      go_enter Tryd.func9, Tryd.ntmps9
      go_wp2_with fail
      refine HW.out.mono ?_
      rintro e w1 ⟨rfl, rfl⟩
      go_wp2_with fail
      go_ret
      exact ⟨rfl, HR.out, grR _ _⟩
  | false =>
    obtain ⟨b1, b2, b3, b4, b5, b6⟩ := badH_no hb
    rw [whoB_yes b1 b2] at HW
    have g1 : ¬ c < 0 := by omega
    have g2 : ¬ 1000000000 < c := by omega
    have g3 : ¬ s < 0 := by omega
    have g4 : ¬ 1000000000 < s := by omega
    obtain ⟨A, rfl⟩ : ∃ A : Nat, who = (A : Int) := ⟨who.toNat, by omega⟩
    have HA : Hid (1 ≤ A ∧ A ≤ 9) := ⟨by omega, by omega⟩
    have a0 : ¬ (A : Int) < 0 := by omega
    have a9 : (A : Int) < 10 := by omega
    obtain ⟨-, z1, z2, z3, z4, z5, z6⟩ := ho.all (A - 1) (by omega)
    have HE : Hid (holdE ps (A : Int) c s = if (ps[A - 1]!).cash - (ps[A - 1]!).held < c ∨ (ps[A - 1]!).stock - (ps[A - 1]!).hs < s then 9 else 0) := by show _ = _; unfold holdE; rw [hb, ix_nat]; rfl
    have HN : Hid (∀ W, RS W M ps → holdE ps (A : Int) c s = 0 → RS (((((W.setCell ⟨M, A * 5, none⟩ (.int .i64 (A : Int))).setCell ⟨M, A * 5 + 1, none⟩ (.int .i64 (ps[A - 1]!).cash)).setCell ⟨M, A * 5 + 2, none⟩ (.int .i64 ((ps[A - 1]!).held + c))).setCell ⟨M, A * 5 + 3, none⟩ (.int .i64 (ps[A - 1]!).stock)).setCell ⟨M, A * 5 + 4, none⟩ (.int .i64 ((ps[A - 1]!).hs + s))) M (holdP ps (A : Int) c s)) := fun W hW e0 => by
      unfold holdP
      rw [if_pos e0, ix_nat, on_on _ _ _ _ (by rw [ho.len]; have := HA.out; omega)]
      exact hW.put5 ho.len A HA.out.1 HA.out.2 _ _ _ _ _ (adT s (adH c ps[A - 1]!)) ⟨rfl, rfl, rfl, rfl⟩
    have HF : Hid (((ps[A - 1]!).cash - (ps[A - 1]!).held < c ∨ (ps[A - 1]!).stock - (ps[A - 1]!).hs < s) → holdP ps (A : Int) c s = ps) := fun hf => by unfold holdP; rw [HE.out, if_pos hf, if_neg (by decide)]
    have HCL : Hid (∀ W, RS W M ps → ∃ x, W.cell? ⟨M, A * 5, none⟩ = some (.int .i64 x) ∧ W.cell? ⟨M, A * 5 + 1, none⟩ = some (.int .i64 (ps[A - 1]!).cash) ∧ W.cell? ⟨M, A * 5 + 2, none⟩ = some (.int .i64 (ps[A - 1]!).held) ∧ W.cell? ⟨M, A * 5 + 3, none⟩ = some (.int .i64 (ps[A - 1]!).stock) ∧ W.cell? ⟨M, A * 5 + 4, none⟩ = some (.int .i64 (ps[A - 1]!).hs)) := fun W hW => hW.cells A HA.out.1 HA.out.2
    generalize (ps[A - 1]!).cash = C at *
    generalize (ps[A - 1]!).held = H at *
    generalize (ps[A - 1]!).stock = S at *
    generalize (ps[A - 1]!).hs = T at *
    have hw1 : wrap64 (H + c) = H + c := wrapP _ (by omega) (by omega)
    have hw2 : wrap64 (T + s) = T + s := wrapP _ (by omega) (by omega)
    have gC : Hid (0 ≤ H ∧ H ≤ C ∧ C ≤ 1000000000 ∧ 0 ≤ T ∧ T ≤ S ∧ S ≤ 1000000000 ∧ 0 ≤ c ∧ 0 ≤ s) := ⟨z1, z2, z3, z4, z5, z6, b3, b5⟩
    skip
    skip
    obtain ⟨x0, c0, c1, c2, c3, c4⟩ := HCL.out w h
    obtain ⟨X, hX⟩ : ∃ X, X = w.heap.size := ⟨_, rfl⟩
    have hR0 := heap_alloc_new w (.cells #[.int .i64 x0, .int .i64 C, .int .i64 H, .int .i64 S, .int .i64 T] 26)
    have HB0 := hidU ((Below.refl _ w).alloc (Nat.le_refl _) (.cells #[.int .i64 x0, .int .i64 C, .int .i64 H, .int .i64 S, .int .i64 T] 26))
    rw [← hX] at hR0
    have HX : Hid (w.heap.size ≤ X ∧ X ≠ M) := ⟨Nat.le_of_eq hX.symm, by have := h.lt; clear hw1 hw2; omega⟩
    clear h ho hb b1 b2 b3 b4 b5 b6 z1 z2 z3 z4 z5 z6
    obtain ⟨EV, hEV⟩ : ∃ EV, EV = holdE ps (A : Int) c s := ⟨_, rfl⟩
    obtain ⟨PF, hPF⟩ : ∃ PF, PF = holdP ps (A : Int) c s := ⟨_, rfl⟩
    rw [← hEV, ← hPF]
    have HEV := hidU hEV
    have HPF := hidU hPF
    clear hEV hPF
    go_enter Tryd.func9, Tryd.ntmps9
    go_wp2_with fail
    refine HW.out.mono ?_
    rintro e w1 ⟨rfl, rfl⟩
    go_upto_region 5 with fail
    simp only [← hX]
    clear hX c0 c1 c2 c3 c4
    have HR1 := hidU (HR.out.below HB0.out)
    generalize w1.alloc (.cells #[.int .i64 x0, .int .i64 C, .int .i64 H, .int .i64 S, .int .i64 T] 26) = W1 at *
    obtain ⟨d0, d1, d2, d3, d4, df⟩ := row5 hR0
    have HR2 := hidU (heap_setCell_same _ X 4 _ _ (.int .i64 (T + s)) (heap_setCell_same _ X 2 _ _ (.int .i64 (H + c)) (heap_setCell_same W1 X 0 _ _ (.int .i64 (A : Int)) hR0)))
    have HG1 := hidU (grT (grT (grC W1 X 0 (.int .i64 (A : Int))) (grC _ X 2 (.int .i64 (H + c)))) (grC _ X 4 (.int .i64 (T + s))))
    have HB2 := hidU (belG HB0.out HG1.out HB0.out.size HX.out.1)
    have HRS2 := hidU (HR1.out.keep HG1.out (fun e => HX.out.2 (by injection e with e; exact e.symm)))
    clear hR0
    go_upto_region 11 with fail
    generalize ((W1.setCell ⟨X, 0, none⟩ (.int .i64 (A : Int))).setCell ⟨X, 2, none⟩ (.int .i64 (H + c))).setCell ⟨X, 4, none⟩ (.int .i64 (T + s)) = W2 at *
    clear d0 d1 d2 d3 d4 df hw1 hw2 HR1 HB0 HW HG1
    skip
    have hR2 : W2.heap[X]? = some (.cells #[.int .i64 (A : Int), .int .i64 C, .int .i64 (H + c), .int .i64 S, .int .i64 (T + s)] 26 (0, 0)) := HR2.out
    obtain ⟨d0, d1, d2, d3, d4, df⟩ := row5 hR2
    clear hR2 HR2
    by_cases hf : C - H < c ∨ S - T < s
    · have HE2 : Hid (EV = 9) := by show _ = _; rw [HEV.out, HE.out, if_pos hf]
      have HF2 : Hid (PF = ps) := by show _ = _; rw [HPF.out, HF.out hf]
      have hbad : Hid ((¬ H + c < 0 ∧ ¬ T + s < 0 ∧ C < H + c) ∨ (¬ H + c < 0 ∧ ¬ T + s < 0 ∧ ¬ C < H + c ∧ S < T + s)) := by
        show _ ∨ _
        have := gC.out
        omega
      clear HE HF HN hf
      rcases hbad.out with ⟨q1, q2, q3⟩ | ⟨q1, q2, q3, q4⟩
      all_goals
        go_wp2_with fail
        go_ret
        have he := HE2.out
        have hf2 := HF2.out
        subst he
        subst hf2
        exact ⟨rfl, HRS2.out, grB HB2.out _⟩
    · have HE2 : Hid (holdE ps (A : Int) c s = 0) := by show _ = _; rw [HE.out, if_neg hf]
      have HN2 := hidU (HN.out W2 HRS2.out HE2.out)
      rw [← HPF.out] at HN2
      have HE3 : Hid (EV = 0) := by show _ = _; rw [HEV.out, HE2.out]
      have HG2 := hidU (grT (grB HB2.out (some M)) (gr5k W2 M (.int .i64 (A : Int)) (.int .i64 C) (.int .i64 (H + c)) (.int .i64 S) (.int .i64 (T + s)) (A * 5)))
      have q1 : ¬ H + c < 0 := by have := gC.out; omega
      have q2 : ¬ T + s < 0 := by have := gC.out; omega
      have q3 : ¬ C < H + c := by have := gC.out; omega
      have q4 : ¬ S < T + s := by have := gC.out; omega
      obtain ⟨x1, c0, c1, c2, c3, c4⟩ := HCL.out W2 HRS2.out
      have fz := HRS2.out.froz
      have mixed := mixed
      clear HE HF HN HCL HE2 HR HRS2 HB2 hf
      go_upto_region 13 with fail
      go_big_region_o
      have HN3 := hidU (RS.same (w' := (((((W2.setCell ⟨M, A * 5, none⟩ (.int .i64 (A : Int))).setCell ⟨M, A * 5 + 1, none⟩ (.int .i64 C)).setCell ⟨M, A * 5 + 2, none⟩ (.int .i64 (H + c))).setCell ⟨M, A * 5 + 3, none⟩ (.int .i64 S)).setCell ⟨M, A * 5 + 4, none⟩ (.int .i64 (T + s))).drew) HN2.out rfl)
      have HG3 := hidU (grT HG2.out (grD _ _))
      generalize (((((W2.setCell ⟨M, A * 5, none⟩ (.int .i64 (A : Int))).setCell ⟨M, A * 5 + 1, none⟩ (.int .i64 C)).setCell ⟨M, A * 5 + 2, none⟩ (.int .i64 (H + c))).setCell ⟨M, A * 5 + 3, none⟩ (.int .i64 S)).setCell ⟨M, A * 5 + 4, none⟩ (.int .i64 (T + s))).drew = W3 at *
      clear fz c0 c1 c2 c3 c4 d0 d1 d2 d3 d4 df HN2 HG2
      go_wp2_with fail
      go_ret
      have he := HE3.out
      subst he
      exact ⟨rfl, HN3.out, HG3.out⟩

set_option maxRecDepth 100000 in
set_option maxHeartbeats 4000000 in
theorem rfree_any (M : Nat) (ps : List Pz) (who c s : Int) (w : World) (h : RS w M ps) (ho : Ok ps) :
    Calls Tryd.prog 9 #[.pointer (some ⟨M, 0, none⟩), .int .i64 who, .int .i64 c, .int .i64 s, .bool true] w fun e w' => e = .returned (.int .i64 (freeE ps who c s)) ∧ RS w' M (freeP ps who c s) ∧ w.grownBy w' (some M) := by
  have HR := hidU h
  have HW := hidU (rwho_any who w)
  cases hb : badH who c s with
  | true =>
    have HE : Hid (freeE ps who c s = 1) := by show _ = _; unfold freeE; rw [hb]; rfl
    have HF : Hid (freeP ps who c s = ps) := by show _ = _; unfold freeP; rw [HE.out]; rfl
    rw [HE.out, HF.out]
    have hc := hidU (badH_c hb)
    clear h ho hb HE HF
    rcases hc.out with h1 | ⟨h1, h2⟩ | ⟨h1, h2, h3⟩ | ⟨h1, h2, h3, h4⟩ | ⟨h1, h2, h3, h4, h5⟩
    all_goals
      rw [h1] at HW
      clear h1 hc
      go_enter Tryd.func9, Tryd.ntmps9
      go_wp2_with fail
      refine HW.out.mono ?_
      rintro e w1 ⟨rfl, rfl⟩
      go_wp2_with fail
      go_ret
      exact ⟨rfl, HR.out, grR _ _⟩
  | false =>
    obtain ⟨b1, b2, b3, b4, b5, b6⟩ := badH_no hb
    rw [whoB_yes b1 b2] at HW
    have g1 : ¬ c < 0 := by omega
    have g2 : ¬ 1000000000 < c := by omega
    have g3 : ¬ s < 0 := by omega
    have g4 : ¬ 1000000000 < s := by omega
    obtain ⟨A, rfl⟩ : ∃ A : Nat, who = (A : Int) := ⟨who.toNat, by omega⟩
    have HA : Hid (1 ≤ A ∧ A ≤ 9) := ⟨by omega, by omega⟩
    have a0 : ¬ (A : Int) < 0 := by omega
    have a9 : (A : Int) < 10 := by omega
    obtain ⟨-, z1, z2, z3, z4, z5, z6⟩ := ho.all (A - 1) (by omega)
    have HE : Hid (freeE ps (A : Int) c s = if (ps[A - 1]!).held < c ∨ (ps[A - 1]!).hs < s then 9 else 0) := by show _ = _; unfold freeE; rw [hb, ix_nat]; rfl
    have HN : Hid (∀ W, RS W M ps → freeE ps (A : Int) c s = 0 → RS (((((W.setCell ⟨M, A * 5, none⟩ (.int .i64 (A : Int))).setCell ⟨M, A * 5 + 1, none⟩ (.int .i64 (ps[A - 1]!).cash)).setCell ⟨M, A * 5 + 2, none⟩ (.int .i64 ((ps[A - 1]!).held + -c))).setCell ⟨M, A * 5 + 3, none⟩ (.int .i64 (ps[A - 1]!).stock)).setCell ⟨M, A * 5 + 4, none⟩ (.int .i64 ((ps[A - 1]!).hs + -s))) M (freeP ps (A : Int) c s)) := fun W hW e0 => by
      unfold freeP
      rw [if_pos e0, ix_nat, on_on _ _ _ _ (by rw [ho.len]; have := HA.out; omega)]
      exact hW.put5 ho.len A HA.out.1 HA.out.2 _ _ _ _ _ (adT (-s) (adH (-c) ps[A - 1]!)) ⟨rfl, rfl, rfl, rfl⟩
    have HF : Hid (((ps[A - 1]!).held < c ∨ (ps[A - 1]!).hs < s) → freeP ps (A : Int) c s = ps) := fun hf => by unfold freeP; rw [HE.out, if_pos hf, if_neg (by decide)]
    have HCL : Hid (∀ W, RS W M ps → ∃ x, W.cell? ⟨M, A * 5, none⟩ = some (.int .i64 x) ∧ W.cell? ⟨M, A * 5 + 1, none⟩ = some (.int .i64 (ps[A - 1]!).cash) ∧ W.cell? ⟨M, A * 5 + 2, none⟩ = some (.int .i64 (ps[A - 1]!).held) ∧ W.cell? ⟨M, A * 5 + 3, none⟩ = some (.int .i64 (ps[A - 1]!).stock) ∧ W.cell? ⟨M, A * 5 + 4, none⟩ = some (.int .i64 (ps[A - 1]!).hs)) := fun W hW => hW.cells A HA.out.1 HA.out.2
    generalize (ps[A - 1]!).cash = C at *
    generalize (ps[A - 1]!).held = H at *
    generalize (ps[A - 1]!).stock = S at *
    generalize (ps[A - 1]!).hs = T at *
    have hw1 : wrap64 (H + -c) = H + -c := wrapP _ (by omega) (by omega)
    have hw2 : wrap64 (T + -s) = T + -s := wrapP _ (by omega) (by omega)
    have gC : Hid (0 ≤ H ∧ H ≤ C ∧ C ≤ 1000000000 ∧ 0 ≤ T ∧ T ≤ S ∧ S ≤ 1000000000 ∧ 0 ≤ c ∧ 0 ≤ s) := ⟨z1, z2, z3, z4, z5, z6, b3, b5⟩
    have hn1 : wrap64 (-c) = -c := wrapP _ (by clear hw1 hw2; omega) (by clear hw1 hw2; omega)
    have hn2 : wrap64 (-s) = -s := wrapP _ (by clear hw1 hw2 hn1; omega) (by clear hw1 hw2 hn1; omega)
    obtain ⟨x0, c0, c1, c2, c3, c4⟩ := HCL.out w h
    obtain ⟨X, hX⟩ : ∃ X, X = w.heap.size := ⟨_, rfl⟩
    have hR0 := heap_alloc_new w (.cells #[.int .i64 x0, .int .i64 C, .int .i64 H, .int .i64 S, .int .i64 T] 26)
    have HB0 := hidU ((Below.refl _ w).alloc (Nat.le_refl _) (.cells #[.int .i64 x0, .int .i64 C, .int .i64 H, .int .i64 S, .int .i64 T] 26))
    rw [← hX] at hR0
    have HX : Hid (w.heap.size ≤ X ∧ X ≠ M) := ⟨Nat.le_of_eq hX.symm, by have := h.lt; clear hw1 hw2; clear hn1 hn2; omega⟩
    clear h ho hb b1 b2 b3 b4 b5 b6 z1 z2 z3 z4 z5 z6
    obtain ⟨EV, hEV⟩ : ∃ EV, EV = freeE ps (A : Int) c s := ⟨_, rfl⟩
    obtain ⟨PF, hPF⟩ : ∃ PF, PF = freeP ps (A : Int) c s := ⟨_, rfl⟩
    rw [← hEV, ← hPF]
    have HEV := hidU hEV
    have HPF := hidU hPF
    clear hEV hPF
    go_enter Tryd.func9, Tryd.ntmps9
    go_wp2_with fail
    refine HW.out.mono ?_
    rintro e w1 ⟨rfl, rfl⟩
    go_upto_region 5 with fail
    simp only [← hX]
    clear hX c0 c1 c2 c3 c4
    have HR1 := hidU (HR.out.below HB0.out)
    generalize w1.alloc (.cells #[.int .i64 x0, .int .i64 C, .int .i64 H, .int .i64 S, .int .i64 T] 26) = W1 at *
    obtain ⟨d0, d1, d2, d3, d4, df⟩ := row5 hR0
    have HR2 := hidU (heap_setCell_same _ X 4 _ _ (.int .i64 (T + -s)) (heap_setCell_same _ X 2 _ _ (.int .i64 (H + -c)) (heap_setCell_same W1 X 0 _ _ (.int .i64 (A : Int)) hR0)))
    have HG1 := hidU (grT (grT (grC W1 X 0 (.int .i64 (A : Int))) (grC _ X 2 (.int .i64 (H + -c)))) (grC _ X 4 (.int .i64 (T + -s))))
    have HB2 := hidU (belG HB0.out HG1.out HB0.out.size HX.out.1)
    have HRS2 := hidU (HR1.out.keep HG1.out (fun e => HX.out.2 (by injection e with e; exact e.symm)))
    clear hR0
    go_upto_region 11 with fail
    generalize ((W1.setCell ⟨X, 0, none⟩ (.int .i64 (A : Int))).setCell ⟨X, 2, none⟩ (.int .i64 (H + -c))).setCell ⟨X, 4, none⟩ (.int .i64 (T + -s)) = W2 at *
    clear d0 d1 d2 d3 d4 df hw1 hw2 HR1 HB0 HW HG1
    clear hn1 hn2
    have hR2 : W2.heap[X]? = some (.cells #[.int .i64 (A : Int), .int .i64 C, .int .i64 (H + -c), .int .i64 S, .int .i64 (T + -s)] 26 (0, 0)) := HR2.out
    obtain ⟨d0, d1, d2, d3, d4, df⟩ := row5 hR2
    clear hR2 HR2
    by_cases hf : H < c ∨ T < s
    · have HE2 : Hid (EV = 9) := by show _ = _; rw [HEV.out, HE.out, if_pos hf]
      have HF2 : Hid (PF = ps) := by show _ = _; rw [HPF.out, HF.out hf]
      have hbad : Hid (H + -c < 0 ∨ (¬ H + -c < 0 ∧ T + -s < 0)) := by
        show _ ∨ _
        have := gC.out
        omega
      clear HE HF HN hf
      rcases hbad.out with q1 | ⟨q1, q2⟩
      all_goals
        go_wp2_with fail
        go_ret
        have he := HE2.out
        have hf2 := HF2.out
        subst he
        subst hf2
        exact ⟨rfl, HRS2.out, grB HB2.out _⟩
    · have HE2 : Hid (freeE ps (A : Int) c s = 0) := by show _ = _; rw [HE.out, if_neg hf]
      have HN2 := hidU (HN.out W2 HRS2.out HE2.out)
      rw [← HPF.out] at HN2
      have HE3 : Hid (EV = 0) := by show _ = _; rw [HEV.out, HE2.out]
      have HG2 := hidU (grT (grB HB2.out (some M)) (gr5k W2 M (.int .i64 (A : Int)) (.int .i64 C) (.int .i64 (H + -c)) (.int .i64 S) (.int .i64 (T + -s)) (A * 5)))
      have q1 : ¬ H + -c < 0 := by have := gC.out; omega
      have q2 : ¬ T + -s < 0 := by have := gC.out; omega
      have q3 : ¬ C < H + -c := by have := gC.out; omega
      have q4 : ¬ S < T + -s := by have := gC.out; omega
      obtain ⟨x1, c0, c1, c2, c3, c4⟩ := HCL.out W2 HRS2.out
      have fz := HRS2.out.froz
      have mixed := mixed
      clear HE HF HN HCL HE2 HR HRS2 HB2 hf
      go_upto_region 13 with fail
      go_big_region_o
      have HN3 := hidU (RS.same (w' := (((((W2.setCell ⟨M, A * 5, none⟩ (.int .i64 (A : Int))).setCell ⟨M, A * 5 + 1, none⟩ (.int .i64 C)).setCell ⟨M, A * 5 + 2, none⟩ (.int .i64 (H + -c))).setCell ⟨M, A * 5 + 3, none⟩ (.int .i64 S)).setCell ⟨M, A * 5 + 4, none⟩ (.int .i64 (T + -s))).drew) HN2.out rfl)
      have HG3 := hidU (grT HG2.out (grD _ _))
      generalize (((((W2.setCell ⟨M, A * 5, none⟩ (.int .i64 (A : Int))).setCell ⟨M, A * 5 + 1, none⟩ (.int .i64 C)).setCell ⟨M, A * 5 + 2, none⟩ (.int .i64 (H + -c))).setCell ⟨M, A * 5 + 3, none⟩ (.int .i64 S)).setCell ⟨M, A * 5 + 4, none⟩ (.int .i64 (T + -s))).drew = W3 at *
      clear fz c0 c1 c2 c3 c4 d0 d1 d2 d3 d4 df HN2 HG2
      go_wp2_with fail
      go_ret
      have he := HE3.out
      subst he
      exact ⟨rfl, HN3.out, HG3.out⟩

theorem badW_c {who : Int} (h : badW who = true) : whoB who = false := by
  cases e : whoB who with
  | false => rfl
  | true =>
    simp [whoB] at e
    simp [badW, spanB] at h
    omega
set_option maxRecDepth 100000 in
set_option maxHeartbeats 4000000 in
theorem rget_any (M : Nat) (ps : List Pz) (who : Int) (w : World) (h : RS w M ps) (ho : Ok ps) :
    Calls Tryd.prog 14 #[.pointer (some ⟨M, 0, none⟩), .int .i64 who] w fun e w' => e = .returned (.tuple #[.agg (pL (getZ ps who)).toArray, .int .i64 (rangeE (badW who))]) ∧ Below w.heap.size w w' := by
  have HR := hidU h
  have HW := hidU (fun W => rwho_any who W)
  obtain ⟨X, hX⟩ : ∃ x, x = w.heap.size := ⟨_, rfl⟩
  have HB0 := hidU ((Below.refl _ w).alloc (Nat.le_refl _) (.cells #[.int .i64 0, .int .i64 0, .int .i64 0, .int .i64 0, .int .i64 0] 26))
  have HR0 := hidU (heap_alloc_new w (.cells #[.int .i64 0, .int .i64 0, .int .i64 0, .int .i64 0, .int .i64 0] 26))
  rw [← hX] at HR0
  have HX : Hid (w.heap.size ≤ X) := Nat.le_of_eq hX.symm
  cases hb : badW who with
  | true =>
    have e1 : whoB who = false := badW_c hb
    rw [e1] at HW
    have eg : getZ ps who = zeroP := by unfold getZ; rw [hb]; rfl
    rw [eg]
    clear h ho hb eg e1
    go_enter Tryd.func14, Tryd.ntmps14
    go_wp2_with fail
    simp only [← hX]
    generalize w.alloc (.cells #[.int .i64 0, .int .i64 0, .int .i64 0, .int .i64 0, .int .i64 0] 26) = w0 at *
    clear hX
    refine (HW.out _).mono ?_
    rintro e w1 ⟨rfl, rfl⟩
    have HS := hidU (set5 HR0.out (.int .i64 0) (.int .i64 0) (.int .i64 0) (.int .i64 0) (.int .i64 0))
    have HG := hidU (HB0.out.grown (gr5 w1 X (.int .i64 0) (.int .i64 0) (.int .i64 0) (.int .i64 0) (.int .i64 0)) HB0.out.size (fun k hk => by cases hk; exact HX.out))
    obtain ⟨d0, d1, d2, d3, d4, df⟩ := row5 HR0.out
    go_wp2_with fail
    clear d0 d1 d2 d3 d4 df
    generalize (((((w1.setCell ⟨X, 0, none⟩ (.int .i64 0)).setCell ⟨X, 1, none⟩ (.int .i64 0)).setCell ⟨X, 2, none⟩ (.int .i64 0)).setCell ⟨X, 3, none⟩ (.int .i64 0)).setCell ⟨X, 4, none⟩ (.int .i64 0)) = w9 at *
    obtain ⟨y0, y1, y2, y3, y4, -⟩ := row5 HS.out
    exact bodyPost_ret (v := .tuple #[.agg #[.int .i64 0, .int .i64 0, .int .i64 0, .int .i64 0, .int .i64 0], .int .i64 1]) (by simp [results, Tryd.results14, go_sem, y0, y1, y2, y3, y4]) rfl ⟨rfl, HG.out⟩
  | false =>
    obtain ⟨b1, b2⟩ := badW_no hb
    rw [whoB_yes b1 b2] at HW
    obtain ⟨A, rfl⟩ : ∃ A : Nat, who = (A : Int) := ⟨who.toNat, by omega⟩
    have HA : Hid (1 ≤ A ∧ A ≤ 9) := ⟨by omega, by omega⟩
    have a0 : ¬ (A : Int) < 0 := by omega
    have a9 : (A : Int) < 10 := by omega
    have eg : getZ ps (A : Int) = ps[A - 1]! := by unfold getZ; rw [hb, ix_nat]; rfl
    have hwz := (ho.all (A - 1) (by omega)).who
    have HCL : Hid (∀ W, RS W M ps → ∃ x, W.cell? ⟨M, A * 5, none⟩ = some (.int .i64 x) ∧ W.cell? ⟨M, A * 5 + 1, none⟩ = some (.int .i64 (ps[A - 1]!).cash) ∧ W.cell? ⟨M, A * 5 + 2, none⟩ = some (.int .i64 (ps[A - 1]!).held) ∧ W.cell? ⟨M, A * 5 + 3, none⟩ = some (.int .i64 (ps[A - 1]!).stock) ∧ W.cell? ⟨M, A * 5 + 4, none⟩ = some (.int .i64 (ps[A - 1]!).hs)) := fun W hW => hW.cells A HA.out.1 HA.out.2
    rw [eg]
    rw [ix_nat1 HA.out.1] at hwz
    generalize ps[A - 1]! = z at *
    obtain ⟨z0, C, H, S, T⟩ := z
    simp only at hwz HCL
    subst hwz
    clear h ho hb eg b1 b2
    go_enter Tryd.func14, Tryd.ntmps14
    go_wp2_with fail
    simp only [← hX]
    generalize w.alloc (.cells #[.int .i64 0, .int .i64 0, .int .i64 0, .int .i64 0, .int .i64 0] 26) = w0 at *
    have HRS0 := hidU (HR.out.below HB0.out)
    have HX2 : Hid (X < w0.heap.size) := (Array.getElem?_eq_some_iff.1 HR0.out).1
    clear hX HR
    refine (HW.out _).mono ?_
    rintro e w1 ⟨rfl, rfl⟩
    obtain ⟨x0, c0, c1, c2, c3, c4⟩ := HCL.out w1 HRS0.out
    have hR1 := heap_alloc_new w1 (.cells #[.int .i64 x0, .int .i64 C, .int .i64 H, .int .i64 S, .int .i64 T] 26)
    have HBA := hidU ((Below.refl _ w1).alloc (Nat.le_refl _) (.cells #[.int .i64 x0, .int .i64 C, .int .i64 H, .int .i64 S, .int .i64 T] 26))
    obtain ⟨Y, hY⟩ : ∃ x, x = w1.heap.size := ⟨_, rfl⟩
    rw [← hY] at hR1
    have HY : Hid (w.heap.size ≤ Y ∧ X ≠ Y) := ⟨by rw [hY]; exact HB0.out.size, by have := HX2.out; omega⟩
    go_upto_region 5 with fail
    simp only [← hY]
    have HB1 := hidU (HB0.out.trans (HBA.out.mono HB0.out.size))
    have HRX := hidU ((HBA.out.block X HX2.out).trans HR0.out)
    clear hY c0 c1 c2 c3 c4 HBA
    generalize w1.alloc (.cells #[.int .i64 x0, .int .i64 C, .int .i64 H, .int .i64 S, .int .i64 T] 26) = W1 at *
    obtain ⟨d0, d1, d2, d3, d4, df⟩ := row5 hR1
    have HRY := hidU (heap_setCell_same W1 Y 0 _ _ (.int .i64 (A : Int)) hR1)
    have HB2 := hidU (belG HB1.out (grC W1 Y 0 (.int .i64 (A : Int))) HB1.out.size HY.out.1)
    have HRX2 := hidU ((heap_setCell_other W1 ⟨Y, 0, none⟩ X (.int .i64 (A : Int)) HY.out.2).trans HRX.out)
    go_upto_region 6 with fail
    generalize W1.setCell ⟨Y, 0, none⟩ (.int .i64 (A : Int)) = W2 at *
    clear d0 d1 d2 d3 d4 df hR1 HRX HB1
    have hRY : W2.heap[Y]? = some (.cells #[.int .i64 (A : Int), .int .i64 C, .int .i64 H, .int .i64 S, .int .i64 T] 26 (0, 0)) := HRY.out
    obtain ⟨d0, d1, d2, d3, d4, df⟩ := row5 hRY
    obtain ⟨e0, e1, e2, e3, e4, ef⟩ := row5 HRX2.out
    have HS := hidU (set5 HRX2.out (.int .i64 (A : Int)) (.int .i64 C) (.int .i64 H) (.int .i64 S) (.int .i64 T))
    have HG := hidU (HB2.out.grown (gr5 W2 X (.int .i64 (A : Int)) (.int .i64 C) (.int .i64 H) (.int .i64 S) (.int .i64 T)) HB2.out.size (fun k hk => by cases hk; exact HX.out))
    clear hRY HRY
    go_wp2_with fail
    clear d0 d1 d2 d3 d4 df e0 e1 e2 e3 e4 ef
    generalize (((((W2.setCell ⟨X, 0, none⟩ (.int .i64 (A : Int))).setCell ⟨X, 1, none⟩ (.int .i64 C)).setCell ⟨X, 2, none⟩ (.int .i64 H)).setCell ⟨X, 3, none⟩ (.int .i64 S)).setCell ⟨X, 4, none⟩ (.int .i64 T)) = w9 at *
    obtain ⟨y0, y1, y2, y3, y4, -⟩ := row5 HS.out
    exact bodyPost_ret (v := .tuple #[.agg #[.int .i64 (A : Int), .int .i64 C, .int .i64 H, .int .i64 S, .int .i64 T], .int .i64 0]) (by simp [results, Tryd.results14, go_sem, y0, y1, y2, y3, y4]) rfl ⟨rfl, HG.out⟩
end Go.Proofs.YthndnndejdckeaaDoor.pur
