/- Contracts over this seat's translation: purse's Hold, Free. -/
import Derived.Test.YthndnndejdckeaaDoorPurPure
import Derived.Deep.QuietTactic
namespace Go.Proofs.YthndnndejdckeaaDoor.pur
open Go.RowKit Go.Proofs.YthndnndejdckeaaDoor.spn
theorem belD {w w1 : World} (h : Below w.heap.size w w1) (n : Nat) : Below w.heap.size w (w1.drewN n) := ⟨h.os, h.tape, h.output, h.size, h.block⟩


set_option maxHeartbeats 2000000 in
theorem hold_any (P : Nat) (ps : List Pz) (who c s : Int) (w : World) (h : Pu 52 9 w P ps) (ho : Ok ps) :
    Calls Tryd.prog 10 #[.pointer (some ⟨P, 0, none⟩), .int .i64 who, .int .i64 c, .int .i64 s] w fun e w' => e = .returned (errV (holdE ps who c s)) ∧ Pu 52 9 w' P (holdP ps who c s) ∧ w.grownBy w' (some P) := by
  have HG := hidU (held_any who c s w)
  have HP := hidU h
  cases hb : badH who c s with
  | true =>
    rw [hb] at HG
    have HE : Hid (holdE ps who c s = 1) := by show _ = _; unfold holdE; rw [hb]; rfl
    have HF : Hid (holdP ps who c s = ps) := by show _ = _; unfold holdP; rw [HE.out]; rfl
    rw [HE.out, HF.out]
    clear h ho hb HE HF
    simp only [show errV (rangeE true) = .iface 55 (.int .i64 1) from rfl] at HG
    go_enter Tryd.func10, Tryd.ntmps10
    go_wp2_with fail
    refine HG.out.mono ?_
    rintro e w1 ⟨rfl, hb1⟩
    have HB1 := hidU hb1
    clear hb1
    go_wp2_with fail
    go_ret
    exact ⟨rfl, HP.out.below HB1.out, grB HB1.out _⟩
  | false =>
    rw [hb] at HG
    simp only [show errV (rangeE false) = .nilIface from rfl] at HG
    obtain ⟨b1, b2, b3, b4, b5, b6⟩ := badH_no hb
    obtain ⟨k, hw, hk, hix⟩ := ix_of b1 b2
    obtain ⟨-, z1, z2, z3, z4, z5, z6⟩ := ho.all k hk
    have HOF : Hid (∀ W, Calls Tryd.prog 21 #[.pointer (some ⟨P, 0, none⟩), .int .i64 who] W fun e w' => e = .returned (.pointer (some ⟨P, k * 5, none⟩)) ∧ w' = W) := fun W => of_at P k who W hw hk
    have HX : Hid (∀ W, Pu 52 9 W P ps → W.cell? ⟨P, k * 5 + 1, none⟩ = some (.int .i64 (ps[k]!).cash) ∧ W.cell? ⟨P, k * 5 + 2, none⟩ = some (.int .i64 (ps[k]!).held) ∧ W.cell? ⟨P, k * 5 + 3, none⟩ = some (.int .i64 (ps[k]!).stock) ∧ W.cell? ⟨P, k * 5 + 4, none⟩ = some (.int .i64 (ps[k]!).hs)) := fun W hW => ⟨hW.cell k hk 1 _ rfl, hW.cell k hk 2 _ rfl, hW.cell k hk 3 _ rfl, hW.cell k hk 4 _ rfl⟩
    have HE : Hid (holdE ps who c s = if (ps[k]!).cash - (ps[k]!).held < c ∨ (ps[k]!).stock - (ps[k]!).hs < s then 9 else 0) := by show _ = _; unfold holdE; rw [hb, hix]; rfl
    have HN : Hid (∀ W, Pu 52 9 W P ps → holdE ps who c s = 0 → W.frozen? ⟨P, k * 5 + 2, none⟩ = false ∧ (∀ V, V = W.setCell ⟨P, k * 5 + 2, none⟩ (.int .i64 ((ps[k]!).held + c)) → V.cell? ⟨P, k * 5 + 4, none⟩ = some (.int .i64 (ps[k]!).hs) ∧ V.frozen? ⟨P, k * 5 + 4, none⟩ = false ∧ Pu 52 9 (V.setCell ⟨P, k * 5 + 4, none⟩ (.int .i64 ((ps[k]!).hs + s))) P (holdP ps who c s))) := fun W hW hf => by
      refine ⟨hW.froz _, fun V hV => ?_⟩
      have hlen : k < ps.length := by rw [ho.len]; exact hk
      have p1 : Pu 52 9 V P (on (adH (c)) k ps) := by rw [hV]; exact hW.put k 2 _ _ hk (by omega) rfl
      have e1 := on_at (adH (c)) k ps k hlen
      rw [if_pos rfl] at e1
      refine ⟨?_, p1.froz _, ?_⟩
      · have := p1.cell k hk 4 (.int .i64 (ps[k]!).hs) (by rw [e1]; rfl)
        exact this
      · unfold holdP
        rw [hf, if_pos rfl, hix]
        exact p1.put k 4 _ _ hk (by omega) (by rw [e1]; rfl)
    generalize (ps[k]!).cash = C at *
    generalize (ps[k]!).held = H at *
    generalize (ps[k]!).stock = S at *
    generalize (ps[k]!).hs = T at *
    have hw1 : wrap64 (C - H) = C - H := wrapP _ (by omega) (by omega)
    have hw2 : wrap64 (S - T) = S - T := wrapP _ (by omega) (by omega)
    have hv1 : IntKind.i64.wrap (C - H) = C - H := (IntWalk.i64_left _).trans hw1
    have hv2 : IntKind.i64.wrap (S - T) = S - T := (IntWalk.i64_left _).trans hw2
    have hs1 : wrap64 (H + c) = H + c := wrapP _ (by omega) (by omega)
    have hs2 : wrap64 (T + s) = T + s := wrapP _ (by omega) (by omega)
    clear h ho hb hw hk hix b1 b2 b3 b4 b5 b6 z1 z2 z3 z4 z5 z6
    by_cases hf : C - H < c
    · have HE2 : Hid (holdE ps who c s = 9) := by show _ = _; rw [HE.out, if_pos (.inl hf)]
      have HF : Hid (holdP ps who c s = ps) := by show _ = _; unfold holdP; rw [HE2.out]; rfl
      have d1 : decide (C - H < c) = true := decide_eq_true hf
      rw [HE2.out, HF.out]
      clear hs1 hs2 HE HN HF HE2
      go_enter Tryd.func10, Tryd.ntmps10
      go_wp2_with fail
      refine HG.out.mono ?_
      rintro e w1 ⟨rfl, hb1⟩
      have HB1 := hidU hb1
      clear hb1
      go_wp2_with fail
      refine (HOF.out _).mono ?_
      rintro e w2 ⟨rfl, rfl⟩
      obtain ⟨c1, c2, c3, c4⟩ := HX.out _ (HP.out.below HB1.out)
      go_wp2_with fail
      go_quiet (fail)
      go_wp2_with fail
      go_ret
      exact ⟨rfl, HP.out.below (belD HB1.out _), grB (belD HB1.out _) _⟩
    by_cases hg : S - T < s
    · have HE2 : Hid (holdE ps who c s = 9) := by show _ = _; rw [HE.out, if_pos (.inr hg)]
      have HF : Hid (holdP ps who c s = ps) := by show _ = _; unfold holdP; rw [HE2.out]; rfl
      have d1 : decide (C - H < c) = false := decide_eq_false hf
      have d2 : decide (S - T < s) = true := decide_eq_true hg
      rw [HE2.out, HF.out]
      clear hs1 hs2 HE HN HF HE2
      go_enter Tryd.func10, Tryd.ntmps10
      go_wp2_with fail
      refine HG.out.mono ?_
      rintro e w1 ⟨rfl, hb1⟩
      have HB1 := hidU hb1
      clear hb1
      go_wp2_with fail
      refine (HOF.out _).mono ?_
      rintro e w2 ⟨rfl, rfl⟩
      obtain ⟨c1, c2, c3, c4⟩ := HX.out _ (HP.out.below HB1.out)
      go_wp2_with fail
      go_quiet (fail)
      go_wp2_with fail
      go_ret
      exact ⟨rfl, HP.out.below (belD HB1.out _), grB (belD HB1.out _) _⟩
    · have HE2 : Hid (holdE ps who c s = 0) := by show _ = _; rw [HE.out, if_neg (fun x => x.elim hf hg)]
      have d1 : decide (C - H < c) = false := decide_eq_false hf
      have d2 : decide (S - T < s) = false := decide_eq_false hg
      have HN2 := hidU (fun W hW => HN.out W hW HE2.out)
      rw [HE2.out]
      clear HE HN HE2
      go_enter Tryd.func10, Tryd.ntmps10
      go_wp2_with fail
      refine HG.out.mono ?_
      rintro e w1 ⟨rfl, hb1⟩
      have HB1 := hidU hb1
      clear hb1
      go_wp2_with fail
      refine (HOF.out _).mono ?_
      rintro e w2 ⟨rfl, rfl⟩
      obtain ⟨c1, c2, c3, c4⟩ := HX.out _ (HP.out.below HB1.out)
      go_wp2_with fail
      go_quiet (fail)
      have HB2 := hidU (belD HB1.out nq)
      generalize w2.drewN nq = w3 at *
      clear c1 c2 c3 c4 HB1 hf hg
      obtain ⟨fz, HV⟩ := HN2.out _ (HP.out.below HB2.out)
      obtain ⟨c1, c2, c3, c4⟩ := HX.out _ (HP.out.below HB2.out)
      have HV2 := hidU (HV _ rfl)
      have HGR2 := hidU (grT (grT (grB HB2.out (some P)) (grC w3 P (k * 5 + 2) (.int .i64 (H + c)))) (grC (w3.setCell ⟨P, k * 5 + 2, none⟩ (.int .i64 (H + c))) P (k * 5 + 4) (.int .i64 (T + s))))
      clear HN2 HV HX
      go_upto_region 8 with fail
      generalize w3.setCell ⟨P, k * 5 + 2, none⟩ (.int .i64 (H + c)) = w4 at *
      clear c1 c2 c3 c4 fz
      obtain ⟨x1, x2, x3⟩ := HV2.out
      have HL := hidU x3
      clear HV2 x3
      go_upto_region 9 with fail
      generalize w4.setCell ⟨P, k * 5 + 4, none⟩ (.int .i64 (T + s)) = w5 at *
      clear x1 x2
      go_wp2_with fail
      go_ret
      exact ⟨rfl, HL.out, HGR2.out⟩


set_option maxHeartbeats 2000000 in
theorem free_any (P : Nat) (ps : List Pz) (who c s : Int) (w : World) (h : Pu 52 9 w P ps) (ho : Ok ps) :
    Calls Tryd.prog 11 #[.pointer (some ⟨P, 0, none⟩), .int .i64 who, .int .i64 c, .int .i64 s] w fun e w' => e = .returned (errV (freeE ps who c s)) ∧ Pu 52 9 w' P (freeP ps who c s) ∧ w.grownBy w' (some P) := by
  have HG := hidU (held_any who c s w)
  have HP := hidU h
  cases hb : badH who c s with
  | true =>
    rw [hb] at HG
    have HE : Hid (freeE ps who c s = 1) := by show _ = _; unfold freeE; rw [hb]; rfl
    have HF : Hid (freeP ps who c s = ps) := by show _ = _; unfold freeP; rw [HE.out]; rfl
    rw [HE.out, HF.out]
    clear h ho hb HE HF
    simp only [show errV (rangeE true) = .iface 55 (.int .i64 1) from rfl] at HG
    go_enter Tryd.func11, Tryd.ntmps11
    go_wp2_with fail
    refine HG.out.mono ?_
    rintro e w1 ⟨rfl, hb1⟩
    have HB1 := hidU hb1
    clear hb1
    go_wp2_with fail
    go_ret
    exact ⟨rfl, HP.out.below HB1.out, grB HB1.out _⟩
  | false =>
    rw [hb] at HG
    simp only [show errV (rangeE false) = .nilIface from rfl] at HG
    obtain ⟨b1, b2, b3, b4, b5, b6⟩ := badH_no hb
    obtain ⟨k, hw, hk, hix⟩ := ix_of b1 b2
    obtain ⟨-, z1, z2, z3, z4, z5, z6⟩ := ho.all k hk
    have HOF : Hid (∀ W, Calls Tryd.prog 21 #[.pointer (some ⟨P, 0, none⟩), .int .i64 who] W fun e w' => e = .returned (.pointer (some ⟨P, k * 5, none⟩)) ∧ w' = W) := fun W => of_at P k who W hw hk
    have HX : Hid (∀ W, Pu 52 9 W P ps → W.cell? ⟨P, k * 5 + 1, none⟩ = some (.int .i64 (ps[k]!).cash) ∧ W.cell? ⟨P, k * 5 + 2, none⟩ = some (.int .i64 (ps[k]!).held) ∧ W.cell? ⟨P, k * 5 + 3, none⟩ = some (.int .i64 (ps[k]!).stock) ∧ W.cell? ⟨P, k * 5 + 4, none⟩ = some (.int .i64 (ps[k]!).hs)) := fun W hW => ⟨hW.cell k hk 1 _ rfl, hW.cell k hk 2 _ rfl, hW.cell k hk 3 _ rfl, hW.cell k hk 4 _ rfl⟩
    have HE : Hid (freeE ps who c s = if (ps[k]!).held < c ∨ (ps[k]!).hs < s then 9 else 0) := by show _ = _; unfold freeE; rw [hb, hix]; rfl
    have HN : Hid (∀ W, Pu 52 9 W P ps → freeE ps who c s = 0 → W.frozen? ⟨P, k * 5 + 2, none⟩ = false ∧ (∀ V, V = W.setCell ⟨P, k * 5 + 2, none⟩ (.int .i64 ((ps[k]!).held - c)) → V.cell? ⟨P, k * 5 + 4, none⟩ = some (.int .i64 (ps[k]!).hs) ∧ V.frozen? ⟨P, k * 5 + 4, none⟩ = false ∧ Pu 52 9 (V.setCell ⟨P, k * 5 + 4, none⟩ (.int .i64 ((ps[k]!).hs - s))) P (freeP ps who c s))) := fun W hW hf => by
      refine ⟨hW.froz _, fun V hV => ?_⟩
      have hlen : k < ps.length := by rw [ho.len]; exact hk
      have p1 : Pu 52 9 V P (on (adH (-c)) k ps) := by rw [hV]; exact hW.put k 2 _ _ hk (by omega) rfl
      have e1 := on_at (adH (-c)) k ps k hlen
      rw [if_pos rfl] at e1
      refine ⟨?_, p1.froz _, ?_⟩
      · have := p1.cell k hk 4 (.int .i64 (ps[k]!).hs) (by rw [e1]; rfl)
        exact this
      · unfold freeP
        rw [hf, if_pos rfl, hix]
        exact p1.put k 4 _ _ hk (by omega) (by rw [e1]; rfl)
    generalize (ps[k]!).cash = C at *
    generalize (ps[k]!).held = H at *
    generalize (ps[k]!).stock = S at *
    generalize (ps[k]!).hs = T at *
    have hs1 : wrap64 (H - c) = H - c := wrapP _ (by omega) (by omega)
    have hs2 : wrap64 (T - s) = T - s := wrapP _ (by omega) (by omega)
    clear h ho hb hw hk hix b1 b2 b3 b4 b5 b6 z1 z2 z3 z4 z5 z6
    by_cases hf : H < c
    · have HE2 : Hid (freeE ps who c s = 9) := by show _ = _; rw [HE.out, if_pos (.inl hf)]
      have HF : Hid (freeP ps who c s = ps) := by show _ = _; unfold freeP; rw [HE2.out]; rfl
      have d1 : decide (H < c) = true := decide_eq_true hf
      rw [HE2.out, HF.out]
      clear hs1 hs2 HE HN HF HE2
      go_enter Tryd.func11, Tryd.ntmps11
      go_wp2_with fail
      refine HG.out.mono ?_
      rintro e w1 ⟨rfl, hb1⟩
      have HB1 := hidU hb1
      clear hb1
      go_wp2_with fail
      refine (HOF.out _).mono ?_
      rintro e w2 ⟨rfl, rfl⟩
      obtain ⟨c1, c2, c3, c4⟩ := HX.out _ (HP.out.below HB1.out)
      go_wp2_with fail
      go_ret
      exact ⟨rfl, HP.out.below HB1.out, grB HB1.out _⟩
    by_cases hg : T < s
    · have HE2 : Hid (freeE ps who c s = 9) := by show _ = _; rw [HE.out, if_pos (.inr hg)]
      have HF : Hid (freeP ps who c s = ps) := by show _ = _; unfold freeP; rw [HE2.out]; rfl
      have d1 : decide (H < c) = false := decide_eq_false hf
      have d2 : decide (T < s) = true := decide_eq_true hg
      rw [HE2.out, HF.out]
      clear hs1 hs2 HE HN HF HE2
      go_enter Tryd.func11, Tryd.ntmps11
      go_wp2_with fail
      refine HG.out.mono ?_
      rintro e w1 ⟨rfl, hb1⟩
      have HB1 := hidU hb1
      clear hb1
      go_wp2_with fail
      refine (HOF.out _).mono ?_
      rintro e w2 ⟨rfl, rfl⟩
      obtain ⟨c1, c2, c3, c4⟩ := HX.out _ (HP.out.below HB1.out)
      go_wp2_with fail
      go_ret
      exact ⟨rfl, HP.out.below HB1.out, grB HB1.out _⟩
    · have HE2 : Hid (freeE ps who c s = 0) := by show _ = _; rw [HE.out, if_neg (fun x => x.elim hf hg)]
      have d1 : decide (H < c) = false := decide_eq_false hf
      have d2 : decide (T < s) = false := decide_eq_false hg
      have HN2 := hidU (fun W hW => HN.out W hW HE2.out)
      rw [HE2.out]
      clear HE HN HE2
      go_enter Tryd.func11, Tryd.ntmps11
      go_wp2_with fail
      refine HG.out.mono ?_
      rintro e w1 ⟨rfl, hb1⟩
      have HB1 := hidU hb1
      clear hb1
      go_wp2_with fail
      refine (HOF.out _).mono ?_
      rintro e w2 ⟨rfl, rfl⟩
      obtain ⟨c1, c2, c3, c4⟩ := HX.out _ (HP.out.below HB1.out)
      have HB2 := hidU HB1.out
      clear c1 c2 c3 c4 HB1 hf hg
      obtain ⟨fz, HV⟩ := HN2.out _ (HP.out.below HB2.out)
      obtain ⟨c1, c2, c3, c4⟩ := HX.out _ (HP.out.below HB2.out)
      have HV2 := hidU (HV _ rfl)
      have HGR2 := hidU (grT (grT (grB HB2.out (some P)) (grC w2 P (k * 5 + 2) (.int .i64 (H - c)))) (grC (w2.setCell ⟨P, k * 5 + 2, none⟩ (.int .i64 (H - c))) P (k * 5 + 4) (.int .i64 (T - s))))
      clear HN2 HV HX
      go_upto_region 8 with fail
      generalize w2.setCell ⟨P, k * 5 + 2, none⟩ (.int .i64 (H - c)) = w4 at *
      clear c1 c2 c3 c4 fz
      obtain ⟨x1, x2, x3⟩ := HV2.out
      have HL := hidU x3
      clear HV2 x3
      go_upto_region 9 with fail
      generalize w4.setCell ⟨P, k * 5 + 4, none⟩ (.int .i64 (T - s)) = w5 at *
      clear x1 x2
      go_wp2_with fail
      go_ret
      exact ⟨rfl, HL.out, HGR2.out⟩

end Go.Proofs.YthndnndejdckeaaDoor.pur
