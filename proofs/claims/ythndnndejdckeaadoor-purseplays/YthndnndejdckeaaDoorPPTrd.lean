/- Contracts over this seat's translation: the document's Trade of purses. -/
import Derived.Test.YthndnndejdckeaaDoorPPTrd0
namespace Go.Proofs.YthndnndejdckeaaDoor.pur
open Go.RowKit Go.Proofs.YthndnndejdckeaaDoor.spn

set_option maxRecDepth 100000 in
set_option maxHeartbeats 8000000 in
theorem rtrade_any (M : Nat) (ps : List Pz) (mk tk f t p q : Int) (w : World) (h : RS w M ps) (ho : Ok ps) :
    Calls Tryd.prog 12 #[.pointer (some ⟨M, 0, none⟩), .agg #[.int .i64 mk, .int .i64 tk, .int .i64 f, .int .i64 t, .int .i64 p, .int .i64 q]] w fun e w' => e = .returned (.int .i64 (tradeE ps f t p q)) ∧ RS w' M (tradeP ps f t p q) ∧ w.grownBy w' (some M) := by
  have HOK := hidU ho
  have HW1 := hidU (fun W => rwho_any f W)
  have HW2 := hidU (fun W => rwho_any t W)
  have HW3 := hidU (fun W => rprice_any p W)
  have HBT : Hid (badT f t p q = true ∨ badT f t p q = false) := by cases badT f t p q with | true => exact .inl rfl | false => exact .inr rfl
  obtain ⟨X, hX⟩ : ∃ X, X = w.heap.size := ⟨_, rfl⟩
  have hR0 := heap_alloc_new w (.cells #[.int .i64 mk, .int .i64 tk, .int .i64 f, .int .i64 t, .int .i64 p, .int .i64 q] 40)
  have hB0 := (Below.refl w.heap.size w).alloc (Nat.le_refl _) (.cells #[.int .i64 mk, .int .i64 tk, .int .i64 f, .int .i64 t, .int .i64 p, .int .i64 q] 40)
  rw [← hX] at hR0
  have HT0 : Hid (RT w X M mk tk f t p q (w.alloc (.cells #[.int .i64 mk, .int .i64 tk, .int .i64 f, .int .i64 t, .int .i64 p, .int .i64 q] 40)) ps) := ⟨h.below hB0, hR0, (by have := h.lt; omega), grB hB0 _⟩
  clear h ho hB0 hR0
  obtain ⟨EV, hEV⟩ : ∃ EV, EV = tradeE ps f t p q := ⟨_, rfl⟩
  obtain ⟨PF, hPF⟩ : ∃ PF, PF = tradeP ps f t p q := ⟨_, rfl⟩
  rw [← hEV, ← hPF]
  have HEV := hidU hEV
  have HPF := hidU hPF
  clear hEV hPF
  rcases HBT.out with hb | hb
  · have HE : Hid (tradeE ps f t p q = 1) := by show _ = _; unfold tradeE; rw [hb]; rfl
    have HF : Hid (tradeP ps f t p q = ps) := by show _ = _; unfold tradeP; rw [HE.out]; rfl
    have hc := hidU (badT_c hb)
    clear hb HBT
    rcases hc.out with h1 | ⟨h1, h2⟩ | ⟨h1, h2, h3⟩ | ⟨h1, h2, h3, h4⟩ | ⟨h1, h2, h3, h4, h5⟩
    all_goals
      try rw [h1] at HW1
      try rw [h2] at HW2
      try rw [h3] at HW3
      try clear h1
      try clear hc
      go_enter Tryd.func12, Tryd.ntmps12
      go_upto_region 1 with fail
      simp only [← hX]
      generalize w.alloc (.cells #[.int .i64 mk, .int .i64 tk, .int .i64 f, .int .i64 t, .int .i64 p, .int .i64 q] 40) = V at *
      clear hX
      obtain ⟨c2, c3, c4, c5⟩ := HT0.out.cells
      go_wp2_with fail
      refine (HW1.out _).mono ?_
      rintro e w1 ⟨rfl, rfl⟩
      go_wp2_with fail
      refine (HW2.out _).mono ?_
      rintro e w2 ⟨rfl, rfl⟩
      go_wp2_with fail
      refine (HW3.out _).mono ?_
      rintro e w3 ⟨rfl, rfl⟩
      have HT := HT0
      clear HT0
      go_wp2_with fail
      go_ret
      have he := HEV.out
      rw [HE.out] at he
      have hf := HPF.out
      rw [HF.out] at hf
      subst he
      subst hf
      exact ⟨rfl, HT.out.rs, HT.out.gr⟩
  · obtain ⟨b1, b2, b3, b4, b5, b6, b7, b8⟩ := badT_no hb
    have hm := mul_bound b5 b6 b7 b8
    rw [whoB_yes b1 b2] at HW1
    rw [whoB_yes b3 b4] at HW2
    have hpb : priB p = true := by simp [priB, b5, b6]
    rw [hpb] at HW3
    obtain ⟨A, rfl⟩ : ∃ A : Nat, f = (A : Int) := ⟨f.toNat, by omega⟩
    obtain ⟨B, rfl⟩ : ∃ B : Nat, t = (B : Int) := ⟨t.toNat, by omega⟩
    have HAB : Hid ((1 ≤ A ∧ A ≤ 9 ∧ A - 1 < 9) ∧ (1 ≤ B ∧ B ≤ 9 ∧ B - 1 < 9)) := ⟨⟨by omega, by omega, by omega⟩, ⟨by omega, by omega, by omega⟩⟩
    have HBD := hidU HOK.out.bd
    have HE : Hid (tradeE ps (A : Int) (B : Int) p q = if (ps[A - 1]!).hs < q ∨ (ps[B - 1]!).held < p * q then 9 else if ¬ (A : Int) = (B : Int) ∧ (1000000000 < (ps[A - 1]!).cash + p * q ∨ 1000000000 < (ps[B - 1]!).stock + q) then 4 else 0) := by show _ = _; unfold tradeE; rw [hb, ix_nat, ix_nat]; rfl
    have HFIN0 : Hid (tradeE ps (A : Int) (B : Int) p q = 0 → tradeP ps (A : Int) (B : Int) p q = tradeR (A - 1) (B - 1) (p * q) q ps) := fun e => by unfold tradeP; rw [if_pos e, ix_nat, ix_nat, tradeR_is HOK.out.len]
    have HFN0 : Hid (¬ tradeE ps (A : Int) (B : Int) p q = 0 → tradeP ps (A : Int) (B : Int) p q = ps) := fun e => by unfold tradeP; rw [if_neg e]
    have hmi0 : IntKind.i64.wrap (p * q) = p * q := (IntWalk.i64_left _).trans (wrapP _ (by omega) (by omega))
    have hmw0 : wrap64 (p * q) = p * q := wrapP _ (by clear hmi0; omega) (by clear hmi0; omega)
    obtain ⟨c, hc⟩ : ∃ c, c = p * q := ⟨_, rfl⟩
    have hmi : IntKind.i64.wrap (p * q) = c := hmi0.trans hc.symm
    have hmw : wrap64 (p * q) = c := hmw0.trans hc.symm
    clear hmi0 hmw0
    rw [← hc] at HE HFIN0 hm
    have HQ : Hid (1 ≤ q ∧ q ≤ 10000 ∧ 1 ≤ c ∧ c ≤ 100000000) := ⟨b7, b8, hm.1, hm.2⟩
    have q1 : ¬ q < 1 := by clear hmi hmw; omega
    have q2 : ¬ 10000 < q := by clear hmi hmw; omega
    have a0 : ¬ (A : Int) < 0 := by clear hmi hmw; omega
    have a9 : (A : Int) < 10 := by clear hmi hmw; omega
    have t0 : ¬ (B : Int) < 0 := by clear hmi hmw; omega
    have t9 : (B : Int) < 10 := by clear hmi hmw; omega
    have wa : wrap64 ((ps[A - 1]!).cash + c) = (ps[A - 1]!).cash + c := wrapP _ (by have := (HBD.out.2 (A - 1) HAB.out.1.2.2).cash; clear hmi hmw; omega) (by have := (HBD.out.2 (A - 1) HAB.out.1.2.2).cash; clear hmi hmw; omega)
    have wb : wrap64 ((ps[B - 1]!).stock + q) = (ps[B - 1]!).stock + q := wrapP _ (by have := (HBD.out.2 (B - 1) HAB.out.2.2.2).stock; clear hmi hmw wa; omega) (by have := (HBD.out.2 (B - 1) HAB.out.2.2.2).stock; clear hmi hmw wa; omega)
    have HWA := hidU wa
    have HWB := hidU wb
    clear hm hc b1 b2 b3 b4 b5 b6 b7 b8 HOK HBT hb hpb wa wb
    go_enter Tryd.func12, Tryd.ntmps12
    go_upto_region 1 with fail
    simp only [← hX]
    generalize w.alloc (.cells #[.int .i64 mk, .int .i64 tk, .int .i64 (A : Int), .int .i64 (B : Int), .int .i64 p, .int .i64 q] 40) = V at *
    clear hX
    obtain ⟨c2, c3, c4, c5⟩ := HT0.out.cells
    go_wp2_with fail
    refine (HW1.out _).mono ?_
    rintro e w1 ⟨rfl, rfl⟩
    go_wp2_with fail
    refine (HW2.out _).mono ?_
    rintro e w2 ⟨rfl, rfl⟩
    go_wp2_with fail
    refine (HW3.out _).mono ?_
    rintro e W3 ⟨rfl, rfl⟩
    have HT := HT0
    clear HT0 HW1 HW2 HW3
    go_upto_region 7 with fail
    try simp only [hmi]
    try simp only [hmw]
    clear hmi hmw q1 q2
    obtain ⟨-, -, -, xa2, xa3, xa4⟩ := HT.out.rs.cells A HAB.out.1.1 HAB.out.1.2.1
    obtain ⟨-, -, xb1, xb2, xb3, xb4⟩ := HT.out.rs.cells B HAB.out.2.1 HAB.out.2.2.1
    clear xa2 xa3 xb1 xb3 xb4
    have HBN0 : Hid (Bd 1000000000 ps) := HBD.out
    have HBN1 := hidU (HBN0.out.oT (D := 100000000) (d := -q) (by have := HQ.out; omega) (by have := HQ.out; omega) (A - 1))
    have HBN2 := hidU (HBN1.out.oS (D := 100000000) (d := -q) (by have := HQ.out; omega) (by have := HQ.out; omega) (A - 1))
    have HBN3 := hidU (HBN2.out.oC (D := 100000000) (d := c) (by have := HQ.out; omega) (by have := HQ.out; omega) (A - 1))
    have HBN4 := hidU (HBN3.out.oH (D := 100000000) (d := -c) (by have := HQ.out; omega) (by have := HQ.out; omega) (B - 1))
    have HBN5 := hidU (HBN4.out.oC (D := 100000000) (d := -c) (by have := HQ.out; omega) (by have := HQ.out; omega) (B - 1))
    have HBN6 := hidU (HBN5.out.oS (D := 100000000) (d := q) (by have := HQ.out; omega) (by have := HQ.out; omega) (B - 1))
    clear HBD
    by_cases h1 : (ps[A - 1]!).hs < q
    · have HE : Hid (tradeE ps (A : Int) (B : Int) p q = 9) := by show _ = _; rw [HE.out, if_pos (.inl h1)]
      have HF : Hid (tradeP ps (A : Int) (B : Int) p q = ps) := HFN0.out (by rw [HE.out]; decide)
      have d1 : decide ((ps[A - 1]!).hs < q) = true := decide_eq_true h1
      generalize (ps[A - 1]!).hs = A4 at xa4 h1 d1
      clear xb2
      go_wp2_with fail
      go_quiet (fail)
      have HT := hidU (HT.out.drawn nq)
      generalize W3.drewN nq = W4 at *
      go_wp2_with fail
      go_ret
      have he := HEV.out
      rw [HE.out] at he
      have hf := HPF.out
      rw [HF.out] at hf
      subst he
      subst hf
      exact ⟨rfl, HT.out.rs, HT.out.gr⟩
    have d1 : decide ((ps[A - 1]!).hs < q) = false := decide_eq_false h1
    by_cases h2 : (ps[B - 1]!).held < c
    · have HE : Hid (tradeE ps (A : Int) (B : Int) p q = 9) := by show _ = _; rw [HE.out, if_pos (.inr h2)]
      have HF : Hid (tradeP ps (A : Int) (B : Int) p q = ps) := HFN0.out (by rw [HE.out]; decide)
      have d2 : decide ((ps[B - 1]!).held < c) = true := decide_eq_true h2
      generalize (ps[A - 1]!).hs = A4 at xa4 h1 d1
      generalize (ps[B - 1]!).held = B2 at xb2 h2 d2
      go_wp2_with fail
      go_quiet (fail)
      have HT := hidU (HT.out.drawn nq)
      generalize W3.drewN nq = W4 at *
      go_wp2_with fail
      go_ret
      have he := HEV.out
      rw [HE.out] at he
      have hf := HPF.out
      rw [HF.out] at hf
      subst he
      subst hf
      exact ⟨rfl, HT.out.rs, HT.out.gr⟩
    have d2 : decide ((ps[B - 1]!).held < c) = false := decide_eq_false h2
    have HN12 : Hid (¬ ((ps[A - 1]!).hs < q ∨ (ps[B - 1]!).held < c)) := fun x => x.elim h1 h2
    generalize (ps[A - 1]!).hs = A4 at xa4 h1 d1
    generalize (ps[B - 1]!).held = B2 at xb2 h2 d2
    go_wp2_with fail
    go_quiet (fail)
    have HT := hidU (HT.out.drawn nq)
    generalize W3.drewN nq = W4 at *
    clear c2 c3 c4 c5 nq xa4 xb2 h1 h2 d1 d2
    obtain ⟨c2, c3, c4, c5⟩ := HT.out.cells
    obtain ⟨-, -, xa1, xa2, xa3, xa4⟩ := HT.out.rs.cells A HAB.out.1.1 HAB.out.1.2.1
    obtain ⟨-, -, xb1, xb2, xb3, xb4⟩ := HT.out.rs.cells B HAB.out.2.1 HAB.out.2.2.1
    clear xa2 xa3 xa4 xb1 xb2 xb4
    have d3 : Hid (((A : Int) = (B : Int) ∧ ((A : Int) != (B : Int)) = false) ∨ (¬ (A : Int) = (B : Int) ∧ ((A : Int) != (B : Int)) = true)) := by
      by_cases hft : (A : Int) = (B : Int)
      · exact .inl ⟨hft, by simp [hft]⟩
      · exact .inr ⟨hft, by simp; omega⟩
    have wa := HWA.out
    have wb := HWB.out
    have va := (IntWalk.i64_left ((ps[A - 1]!).cash + c)).trans wa
    have vb := (IntWalk.i64_left ((ps[B - 1]!).stock + q)).trans wb
    by_cases h3 : ¬ (A : Int) = (B : Int) ∧ 1000000000 < (ps[A - 1]!).cash + c
    · obtain ⟨hft, h3⟩ := h3
      have HE : Hid (tradeE ps (A : Int) (B : Int) p q = 4) := by show _ = _; rw [HE.out, if_neg HN12.out, if_pos ⟨hft, .inl h3⟩]
      have HF : Hid (tradeP ps (A : Int) (B : Int) p q = ps) := HFN0.out (by rw [HE.out]; decide)
      have d4 : decide (1000000000 < (ps[A - 1]!).cash + c) = true := decide_eq_true h3
      have d3 : ((A : Int) != (B : Int)) = true := by simp; clear wa wb va vb; omega
      generalize (ps[A - 1]!).cash = A1 at xa1 h3 d4 wa va
      clear hft xb3 wb vb
      go_wp2_with fail
      go_quiet (fail)
      have HT := hidU (HT.out.drawn nq)
      generalize W4.drewN nq = W5 at *
      go_wp2_with fail
      go_ret
      have he := HEV.out
      rw [HE.out] at he
      have hf := HPF.out
      rw [HF.out] at hf
      subst he
      subst hf
      exact ⟨rfl, HT.out.rs, HT.out.gr⟩
    by_cases h4 : ¬ (A : Int) = (B : Int) ∧ 1000000000 < (ps[B - 1]!).stock + q
    · obtain ⟨hft, h4⟩ := h4
      have HE : Hid (tradeE ps (A : Int) (B : Int) p q = 4) := by show _ = _; rw [HE.out, if_neg HN12.out, if_pos ⟨hft, .inr h4⟩]
      have HF : Hid (tradeP ps (A : Int) (B : Int) p q = ps) := HFN0.out (by rw [HE.out]; decide)
      have d5 : decide (1000000000 < (ps[B - 1]!).stock + q) = true := decide_eq_true h4
      have d4 : decide (1000000000 < (ps[A - 1]!).cash + c) = false := decide_eq_false (fun e => h3 ⟨hft, e⟩)
      have d3 : ((A : Int) != (B : Int)) = true := by simp; clear wa wb va vb; omega
      clear h3
      generalize (ps[A - 1]!).cash = A1 at xa1 d4 wa va
      generalize (ps[B - 1]!).stock = B3 at xb3 h4 d5 wb vb
      clear hft
      go_wp2_with fail
      go_quiet (fail)
      have HT := hidU (HT.out.drawn nq)
      generalize W4.drewN nq = W5 at *
      go_wp2_with fail
      go_ret
      have he := HEV.out
      rw [HE.out] at he
      have hf := HPF.out
      rw [HF.out] at hf
      subst he
      subst hf
      exact ⟨rfl, HT.out.rs, HT.out.gr⟩
    have HE2 : Hid (tradeE ps (A : Int) (B : Int) p q = 0) := by show _ = _; rw [HE.out, if_neg HN12.out, if_neg (fun x => x.2.elim (fun y => h3 ⟨x.1, y⟩) (fun y => h4 ⟨x.1, y⟩))]
    have H34 : Hid (¬ (A : Int) = (B : Int) → decide (1000000000 < (ps[A - 1]!).cash + c) = false ∧ decide (1000000000 < (ps[B - 1]!).stock + q) = false) := fun e => ⟨decide_eq_false (fun y => h3 ⟨e, y⟩), decide_eq_false (fun y => h4 ⟨e, y⟩)⟩
    clear h3 h4 HE HFN0 HN12 HWA HWB
    generalize (ps[A - 1]!).cash = A1 at xa1 H34 wa va
    generalize (ps[B - 1]!).stock = B3 at xb3 H34 wb vb
    go_upto_region 9 with fail
    go_cut [97] from 9 to 97 (fun s97 wx => s97 = .bool false ∧ Aside (RT w X M mk tk (A : Int) (B : Int) p q wx ps))
    case first =>
      rcases d3.out with ⟨hft, d3⟩ | ⟨hft, d3⟩
      · clear hft wa wb va vb xa1 xb3 H34
        go_quiet (fail)
        have HT := hidU (HT.out.drawn nq)
        generalize W4.drewN nq = W5 at *
        go_wp2_with fail
        go_meet
        case rel => exact ⟨rfl, HT.out⟩
      · obtain ⟨d4, d5⟩ := H34.out hft
        clear hft H34
        go_quiet (fail)
        have HT := hidU (HT.out.drawn nq)
        generalize W4.drewN nq = W5 at *
        go_wp2_with fail
        go_meet
        case rel => exact ⟨rfl, HT.out⟩
    case rest =>
    obtain ⟨rfl, HTC⟩ := hcut
    have HT := hidU HTC.out
    clear c2 c3 c4 c5 xa1 xb3 d3 wa wb va vb HTC H34
    have HT0 := HT
    clear HT
    have mixed := mixed
    go_upto_region 11 with fail
    go_cut [4] from 98 to 202 (fun s4 wx => s4 = .int .i64 0 ∧ Aside (RT w X M mk tk (A : Int) (B : Int) p q wx (on (adT (-q)) (A - 1) ps)))
    case first =>
      have hv := (HBN0.out.2 (A - 1) HAB.out.1.2.2).hs
      have e0 : IntKind.i64.wrap (((ps)[A - 1]!).hs - q) = ((ps)[A - 1]!).hs - q := (IntWalk.i64_left _).trans (wrapP _ (by have := HQ.out; omega) (by have := HQ.out; omega))
      have e1 : wrap64 (((ps)[A - 1]!).hs - q) = ((ps)[A - 1]!).hs - q := wrapP _ (by clear e0; have := HQ.out; omega) (by clear e0; have := HQ.out; omega)
      obtain ⟨-, -, xc1, xc2, xc3, xc4⟩ := HT0.out.rs.cells A HAB.out.1.1 HAB.out.1.2.1
      clear xc1 xc2 xc3
      have xz := HT0.out.rs.froz (A * 5 + 4)
      obtain ⟨y2, y3, y4, y5⟩ := HT0.out.cells
      have HT1 := hidU (HT0.out.adT (j := 4) HBN0.out.1 A HAB.out.1.1 HAB.out.1.2.1 (-q) (((ps)[A - 1]!).hs - q) (by clear e0 e1; omega)).drawn1
      clear HT0 hv
      generalize ((ps)[A - 1]!).hs = xx at *
      go_big_region_o
      clear y2 y3 y4 y5 e0 e1 xz
      go_wp2_with fail
      go_meet
      case rel => exact ⟨rfl, HT1.out⟩
    case rest =>
    obtain ⟨rfl, HTC⟩ := hcut
    have HT1 := hidU HTC.out
    clear HTC HT0
    go_upto_region 12 with fail
    go_cut [4] from 98 to 202 (fun s4 wx => s4 = .int .i64 0 ∧ Aside (RT w X M mk tk (A : Int) (B : Int) p q wx (on (adS (-q)) (A - 1) (on (adT (-q)) (A - 1) ps))))
    case first =>
      have hv := (HBN1.out.2 (A - 1) HAB.out.1.2.2).stock
      have e0 : IntKind.i64.wrap ((((on (adT (-q)) (A - 1) ps))[A - 1]!).stock - q) = (((on (adT (-q)) (A - 1) ps))[A - 1]!).stock - q := (IntWalk.i64_left _).trans (wrapP _ (by have := HQ.out; omega) (by have := HQ.out; omega))
      have e1 : wrap64 ((((on (adT (-q)) (A - 1) ps))[A - 1]!).stock - q) = (((on (adT (-q)) (A - 1) ps))[A - 1]!).stock - q := wrapP _ (by clear e0; have := HQ.out; omega) (by clear e0; have := HQ.out; omega)
      obtain ⟨-, -, xc1, xc2, xc3, xc4⟩ := HT1.out.rs.cells A HAB.out.1.1 HAB.out.1.2.1
      clear xc1 xc2 xc4
      have xz := HT1.out.rs.froz (A * 5 + 3)
      obtain ⟨y2, y3, y4, y5⟩ := HT1.out.cells
      have HT2 := hidU (HT1.out.adS (j := 3) HBN1.out.1 A HAB.out.1.1 HAB.out.1.2.1 (-q) ((((on (adT (-q)) (A - 1) ps))[A - 1]!).stock - q) (by clear e0 e1; omega)).drawn1
      clear HT1 hv
      generalize (((on (adT (-q)) (A - 1) ps))[A - 1]!).stock = xx at *
      go_big_region_o
      clear y2 y3 y4 y5 e0 e1 xz
      go_wp2_with fail
      go_meet
      case rel => exact ⟨rfl, HT2.out⟩
    case rest =>
    obtain ⟨rfl, HTC⟩ := hcut
    have HT2 := hidU HTC.out
    clear HTC HT1
    go_upto_region 13 with fail
    go_cut [4] from 98 to 202 (fun s4 wx => s4 = .int .i64 0 ∧ Aside (RT w X M mk tk (A : Int) (B : Int) p q wx (on (adC c) (A - 1) (on (adS (-q)) (A - 1) (on (adT (-q)) (A - 1) ps)))))
    case first =>
      have hv := (HBN2.out.2 (A - 1) HAB.out.1.2.2).cash
      have e0 : IntKind.i64.wrap ((((on (adS (-q)) (A - 1) (on (adT (-q)) (A - 1) ps)))[A - 1]!).cash + c) = (((on (adS (-q)) (A - 1) (on (adT (-q)) (A - 1) ps)))[A - 1]!).cash + c := (IntWalk.i64_left _).trans (wrapP _ (by have := HQ.out; omega) (by have := HQ.out; omega))
      have e1 : wrap64 ((((on (adS (-q)) (A - 1) (on (adT (-q)) (A - 1) ps)))[A - 1]!).cash + c) = (((on (adS (-q)) (A - 1) (on (adT (-q)) (A - 1) ps)))[A - 1]!).cash + c := wrapP _ (by clear e0; have := HQ.out; omega) (by clear e0; have := HQ.out; omega)
      obtain ⟨-, -, xc1, xc2, xc3, xc4⟩ := HT2.out.rs.cells A HAB.out.1.1 HAB.out.1.2.1
      clear xc2 xc3 xc4
      have xz := HT2.out.rs.froz (A * 5 + 1)
      obtain ⟨y2, y3, y4, y5⟩ := HT2.out.cells
      have HT3 := hidU (HT2.out.adC (j := 1) HBN2.out.1 A HAB.out.1.1 HAB.out.1.2.1 c ((((on (adS (-q)) (A - 1) (on (adT (-q)) (A - 1) ps)))[A - 1]!).cash + c) (by clear e0 e1; omega)).drawn1
      clear HT2 hv
      generalize (((on (adS (-q)) (A - 1) (on (adT (-q)) (A - 1) ps)))[A - 1]!).cash = xx at *
      go_big_region_o
      clear y2 y3 y4 y5 e0 e1 xz
      go_wp2_with fail
      go_meet
      case rel => exact ⟨rfl, HT3.out⟩
    case rest =>
    obtain ⟨rfl, HTC⟩ := hcut
    have HT3 := hidU HTC.out
    clear HTC HT2
    go_upto_region 14 with fail
    go_cut [4] from 98 to 202 (fun s4 wx => s4 = .int .i64 0 ∧ Aside (RT w X M mk tk (A : Int) (B : Int) p q wx (on (adH (-c)) (B - 1) (on (adC c) (A - 1) (on (adS (-q)) (A - 1) (on (adT (-q)) (A - 1) ps))))))
    case first =>
      have hv := (HBN3.out.2 (B - 1) HAB.out.2.2.2).held
      have e0 : IntKind.i64.wrap ((((on (adC c) (A - 1) (on (adS (-q)) (A - 1) (on (adT (-q)) (A - 1) ps))))[B - 1]!).held - c) = (((on (adC c) (A - 1) (on (adS (-q)) (A - 1) (on (adT (-q)) (A - 1) ps))))[B - 1]!).held - c := (IntWalk.i64_left _).trans (wrapP _ (by have := HQ.out; omega) (by have := HQ.out; omega))
      have e1 : wrap64 ((((on (adC c) (A - 1) (on (adS (-q)) (A - 1) (on (adT (-q)) (A - 1) ps))))[B - 1]!).held - c) = (((on (adC c) (A - 1) (on (adS (-q)) (A - 1) (on (adT (-q)) (A - 1) ps))))[B - 1]!).held - c := wrapP _ (by clear e0; have := HQ.out; omega) (by clear e0; have := HQ.out; omega)
      obtain ⟨-, -, xc1, xc2, xc3, xc4⟩ := HT3.out.rs.cells B HAB.out.2.1 HAB.out.2.2.1
      clear xc1 xc3 xc4
      have xz := HT3.out.rs.froz (B * 5 + 2)
      obtain ⟨y2, y3, y4, y5⟩ := HT3.out.cells
      have HT4 := hidU (HT3.out.adH (j := 2) HBN3.out.1 B HAB.out.2.1 HAB.out.2.2.1 (-c) ((((on (adC c) (A - 1) (on (adS (-q)) (A - 1) (on (adT (-q)) (A - 1) ps))))[B - 1]!).held - c) (by clear e0 e1; omega)).drawn1
      clear HT3 hv
      generalize (((on (adC c) (A - 1) (on (adS (-q)) (A - 1) (on (adT (-q)) (A - 1) ps))))[B - 1]!).held = xx at *
      go_big_region_o
      clear y2 y3 y4 y5 e0 e1 xz
      go_wp2_with fail
      go_meet
      case rel => exact ⟨rfl, HT4.out⟩
    case rest =>
    obtain ⟨rfl, HTC⟩ := hcut
    have HT4 := hidU HTC.out
    clear HTC HT3
    go_upto_region 15 with fail
    go_cut [4] from 98 to 202 (fun s4 wx => s4 = .int .i64 0 ∧ Aside (RT w X M mk tk (A : Int) (B : Int) p q wx (on (adC (-c)) (B - 1) (on (adH (-c)) (B - 1) (on (adC c) (A - 1) (on (adS (-q)) (A - 1) (on (adT (-q)) (A - 1) ps)))))))
    case first =>
      have hv := (HBN4.out.2 (B - 1) HAB.out.2.2.2).cash
      have e0 : IntKind.i64.wrap ((((on (adH (-c)) (B - 1) (on (adC c) (A - 1) (on (adS (-q)) (A - 1) (on (adT (-q)) (A - 1) ps)))))[B - 1]!).cash - c) = (((on (adH (-c)) (B - 1) (on (adC c) (A - 1) (on (adS (-q)) (A - 1) (on (adT (-q)) (A - 1) ps)))))[B - 1]!).cash - c := (IntWalk.i64_left _).trans (wrapP _ (by have := HQ.out; omega) (by have := HQ.out; omega))
      have e1 : wrap64 ((((on (adH (-c)) (B - 1) (on (adC c) (A - 1) (on (adS (-q)) (A - 1) (on (adT (-q)) (A - 1) ps)))))[B - 1]!).cash - c) = (((on (adH (-c)) (B - 1) (on (adC c) (A - 1) (on (adS (-q)) (A - 1) (on (adT (-q)) (A - 1) ps)))))[B - 1]!).cash - c := wrapP _ (by clear e0; have := HQ.out; omega) (by clear e0; have := HQ.out; omega)
      obtain ⟨-, -, xc1, xc2, xc3, xc4⟩ := HT4.out.rs.cells B HAB.out.2.1 HAB.out.2.2.1
      clear xc2 xc3 xc4
      have xz := HT4.out.rs.froz (B * 5 + 1)
      obtain ⟨y2, y3, y4, y5⟩ := HT4.out.cells
      have HT5 := hidU (HT4.out.adC (j := 1) HBN4.out.1 B HAB.out.2.1 HAB.out.2.2.1 (-c) ((((on (adH (-c)) (B - 1) (on (adC c) (A - 1) (on (adS (-q)) (A - 1) (on (adT (-q)) (A - 1) ps)))))[B - 1]!).cash - c) (by clear e0 e1; omega)).drawn1
      clear HT4 hv
      generalize (((on (adH (-c)) (B - 1) (on (adC c) (A - 1) (on (adS (-q)) (A - 1) (on (adT (-q)) (A - 1) ps)))))[B - 1]!).cash = xx at *
      go_big_region_o
      clear y2 y3 y4 y5 e0 e1 xz
      go_wp2_with fail
      go_meet
      case rel => exact ⟨rfl, HT5.out⟩
    case rest =>
    obtain ⟨rfl, HTC⟩ := hcut
    have HT5 := hidU HTC.out
    clear HTC HT4
    go_upto_region 16 with fail
    go_cut [4] from 98 to 202 (fun s4 wx => s4 = .int .i64 0 ∧ Aside (RT w X M mk tk (A : Int) (B : Int) p q wx (on (adS q) (B - 1) (on (adC (-c)) (B - 1) (on (adH (-c)) (B - 1) (on (adC c) (A - 1) (on (adS (-q)) (A - 1) (on (adT (-q)) (A - 1) ps))))))))
    case first =>
      have hv := (HBN5.out.2 (B - 1) HAB.out.2.2.2).stock
      have e0 : IntKind.i64.wrap ((((on (adC (-c)) (B - 1) (on (adH (-c)) (B - 1) (on (adC c) (A - 1) (on (adS (-q)) (A - 1) (on (adT (-q)) (A - 1) ps))))))[B - 1]!).stock + q) = (((on (adC (-c)) (B - 1) (on (adH (-c)) (B - 1) (on (adC c) (A - 1) (on (adS (-q)) (A - 1) (on (adT (-q)) (A - 1) ps))))))[B - 1]!).stock + q := (IntWalk.i64_left _).trans (wrapP _ (by have := HQ.out; omega) (by have := HQ.out; omega))
      have e1 : wrap64 ((((on (adC (-c)) (B - 1) (on (adH (-c)) (B - 1) (on (adC c) (A - 1) (on (adS (-q)) (A - 1) (on (adT (-q)) (A - 1) ps))))))[B - 1]!).stock + q) = (((on (adC (-c)) (B - 1) (on (adH (-c)) (B - 1) (on (adC c) (A - 1) (on (adS (-q)) (A - 1) (on (adT (-q)) (A - 1) ps))))))[B - 1]!).stock + q := wrapP _ (by clear e0; have := HQ.out; omega) (by clear e0; have := HQ.out; omega)
      obtain ⟨-, -, xc1, xc2, xc3, xc4⟩ := HT5.out.rs.cells B HAB.out.2.1 HAB.out.2.2.1
      clear xc1 xc2 xc4
      have xz := HT5.out.rs.froz (B * 5 + 3)
      obtain ⟨y2, y3, y4, y5⟩ := HT5.out.cells
      have HT6 := hidU (HT5.out.adS (j := 3) HBN5.out.1 B HAB.out.2.1 HAB.out.2.2.1 q ((((on (adC (-c)) (B - 1) (on (adH (-c)) (B - 1) (on (adC c) (A - 1) (on (adS (-q)) (A - 1) (on (adT (-q)) (A - 1) ps))))))[B - 1]!).stock + q) (by clear e0 e1; omega)).drawn1
      clear HT5 hv
      generalize (((on (adC (-c)) (B - 1) (on (adH (-c)) (B - 1) (on (adC c) (A - 1) (on (adS (-q)) (A - 1) (on (adT (-q)) (A - 1) ps))))))[B - 1]!).stock = xx at *
      go_big_region_o
      clear y2 y3 y4 y5 e0 e1 xz
      go_wp2_with fail
      go_meet
      case rel => exact ⟨rfl, HT6.out⟩
    case rest =>
    obtain ⟨rfl, HTC⟩ := hcut
    have HT6 := hidU HTC.out
    clear HTC HT5
    go_wp2_with fail
    go_ret
    have he := HEV.out
    rw [HE2.out] at he
    have hf := HPF.out
    rw [HFIN0.out HE2.out] at hf
    subst he
    subst hf
    exact ⟨rfl, HT6.out.rs, HT6.out.gr⟩
end Go.Proofs.YthndnndejdckeaaDoor.pur
