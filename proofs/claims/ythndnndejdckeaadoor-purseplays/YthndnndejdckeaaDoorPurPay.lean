/- Contracts over this seat's translation: purse's Pay, Give. -/
import Derived.Test.YthndnndejdckeaaDoorPurPure
import Derived.Deep.QuietTactic
namespace Go.Proofs.YthndnndejdckeaaDoor.pur
open Go.RowKit Go.Proofs.YthndnndejdckeaaDoor.spn


set_option maxHeartbeats 1000000 in
theorem pay_any (P : Nat) (ps : List Pz) (who n : Int) (w : World) (h : Pu 52 9 w P ps) (ho : Ok ps) :
    Calls Tryd.prog 7 #[.pointer (some ⟨P, 0, none⟩), .int .i64 who, .int .i64 n] w fun e w' => e = .returned (errV (payE ps who n)) ∧ Pu 52 9 w' P (payP ps who n) ∧ w.grownBy w' (some P) := by
  have HG := hidU (given_any who n w)
  have HP := hidU h
  cases hb : badG who n with
  | true =>
    rw [hb] at HG
    have HE : Hid (payE ps who n = 1) := by show _ = _; unfold payE; rw [hb]; rfl
    have HF : Hid (payP ps who n = ps) := by show _ = _; unfold payP; rw [HE.out]; rfl
    rw [HE.out, HF.out]
    clear h ho hb HE HF
    simp only [show errV (rangeE true) = .iface 55 (.int .i64 1) from rfl] at HG
    go_enter Tryd.func7, Tryd.ntmps7
    go_wp2_with fail
    refine HG.out.mono ?_
    rintro e w1 ⟨rfl, hb1⟩
    have HB1 := hidU hb1
    clear hb1
    go_wp2_with fail
    go_ret
    exact ⟨rfl, HP.out.below HB1.out, grB HB1.out _⟩
  | false =>
    rw [hb] at HG
    simp only [show errV (rangeE false) = .nilIface from rfl] at HG
    obtain ⟨b1, b2, b3, b4⟩ := badG_no hb
    obtain ⟨k, hw, hk, hix⟩ := ix_of b1 b2
    have z := ho.all k hk
    have HOF : Hid (∀ W, Calls Tryd.prog 21 #[.pointer (some ⟨P, 0, none⟩), .int .i64 who] W fun e w' => e = .returned (.pointer (some ⟨P, k * 5, none⟩)) ∧ w' = W) := fun W => of_at P k who W hw hk
    have HX : Hid (∀ W, Pu 52 9 W P ps → W.cell? ⟨P, k * 5 + 1, none⟩ = some (.int .i64 (ps[k]!).cash) ∧ W.frozen? ⟨P, k * 5 + 1, none⟩ = false) := fun W hW => ⟨hW.cell k hk 1 _ rfl, hW.froz _⟩
    have HE : Hid (payE ps who n = if 1000000000 < (ps[k]!).cash + n then 4 else 0) := by show _ = _; unfold payE; rw [hb, hix]; rfl
    have HN : Hid (∀ W, Pu 52 9 W P ps → ¬ 1000000000 < (ps[k]!).cash + n → Pu 52 9 (W.setCell ⟨P, k * 5 + 1, none⟩ (.int .i64 ((ps[k]!).cash + n))) P (payP ps who n)) := fun W hW hf => by
      unfold payP
      rw [HE.out, if_neg hf, if_pos rfl, hix]
      exact hW.put k 1 _ _ hk (by omega) rfl
    have HF : Hid (1000000000 < (ps[k]!).cash + n → payP ps who n = ps) := fun hf => by unfold payP; rw [HE.out, if_pos hf, if_neg (by decide)]
    have hwr : wrap64 ((ps[k]!).cash + n) = (ps[k]!).cash + n := wrapP _ (by have := z.h0; have := z.hc; have := z.t0; have := z.ts; omega) (by have := z.cm; have := z.sm; omega)
    generalize (ps[k]!).cash = x at *
    clear h ho hb z hw hk hix b1 b2 b3 b4
    by_cases hf : 1000000000 < x + n
    · have HPF : Hid (∀ W, Pu 52 9 W P ps → Calls Tryd.prog 20 #[.pointer (some ⟨P, k * 5 + 1, none⟩), .int .i64 n] W fun e w' => e = .returned (errV 4) ∧ w' = W) := fun W hW => put_full P _ x n W (HX.out W hW).1 hwr hf
      rw [HE.out, if_pos hf, HF.out hf]
      clear hf hwr HE HF HN HX
      go_enter Tryd.func7, Tryd.ntmps7
      go_wp2_with fail
      refine HG.out.mono ?_
      rintro e w1 ⟨rfl, hb1⟩
      have HB1 := hidU hb1
      clear hb1
      go_wp2_with fail
      refine (HOF.out _).mono ?_
      rintro e w2 ⟨rfl, rfl⟩
      go_wp2_with fail
      refine (HPF.out _ (HP.out.below HB1.out)).mono ?_
      rintro e w3 ⟨rfl, rfl⟩
      go_wp2_with fail
      go_ret
      exact ⟨rfl, HP.out.below HB1.out, grB HB1.out _⟩
    · have HPF : Hid (∀ W, Pu 52 9 W P ps → Calls Tryd.prog 20 #[.pointer (some ⟨P, k * 5 + 1, none⟩), .int .i64 n] W fun e w' => e = .returned (errV 0) ∧ w' = W.setCell ⟨P, k * 5 + 1, none⟩ (.int .i64 (x + n))) := fun W hW => put_ok P _ x n W (HX.out W hW).1 (HX.out W hW).2 hwr hf
      have HN2 := hidU (fun W hW => HN.out W hW hf)
      rw [HE.out, if_neg hf]
      clear hf hwr HE HF HN HX
      go_enter Tryd.func7, Tryd.ntmps7
      go_wp2_with fail
      refine HG.out.mono ?_
      rintro e w1 ⟨rfl, hb1⟩
      have HB1 := hidU hb1
      clear hb1
      go_wp2_with fail
      refine (HOF.out _).mono ?_
      rintro e w2 ⟨rfl, rfl⟩
      go_wp2_with fail
      refine (HPF.out _ (HP.out.below HB1.out)).mono ?_
      rintro e w3 ⟨rfl, rfl⟩
      have HL := hidU (HN2.out _ (HP.out.below HB1.out))
      have HGR := hidU (grT (grB HB1.out (some P)) (grC w2 P (k * 5 + 1) (.int .i64 (x + n))))
      clear HN2 HPF
      generalize w2.setCell ⟨P, k * 5 + 1, none⟩ (.int .i64 (x + n)) = w4 at *
      go_wp2_with fail
      go_ret
      exact ⟨rfl, HL.out, HGR.out⟩


set_option maxHeartbeats 1000000 in
theorem give_any (P : Nat) (ps : List Pz) (who n : Int) (w : World) (h : Pu 52 9 w P ps) (ho : Ok ps) :
    Calls Tryd.prog 8 #[.pointer (some ⟨P, 0, none⟩), .int .i64 who, .int .i64 n] w fun e w' => e = .returned (errV (giveE ps who n)) ∧ Pu 52 9 w' P (giveP ps who n) ∧ w.grownBy w' (some P) := by
  have HG := hidU (given_any who n w)
  have HP := hidU h
  cases hb : badG who n with
  | true =>
    rw [hb] at HG
    have HE : Hid (giveE ps who n = 1) := by show _ = _; unfold giveE; rw [hb]; rfl
    have HF : Hid (giveP ps who n = ps) := by show _ = _; unfold giveP; rw [HE.out]; rfl
    rw [HE.out, HF.out]
    clear h ho hb HE HF
    simp only [show errV (rangeE true) = .iface 55 (.int .i64 1) from rfl] at HG
    go_enter Tryd.func8, Tryd.ntmps8
    go_wp2_with fail
    refine HG.out.mono ?_
    rintro e w1 ⟨rfl, hb1⟩
    have HB1 := hidU hb1
    clear hb1
    go_wp2_with fail
    go_ret
    exact ⟨rfl, HP.out.below HB1.out, grB HB1.out _⟩
  | false =>
    rw [hb] at HG
    simp only [show errV (rangeE false) = .nilIface from rfl] at HG
    obtain ⟨b1, b2, b3, b4⟩ := badG_no hb
    obtain ⟨k, hw, hk, hix⟩ := ix_of b1 b2
    have z := ho.all k hk
    have HOF : Hid (∀ W, Calls Tryd.prog 21 #[.pointer (some ⟨P, 0, none⟩), .int .i64 who] W fun e w' => e = .returned (.pointer (some ⟨P, k * 5, none⟩)) ∧ w' = W) := fun W => of_at P k who W hw hk
    have HX : Hid (∀ W, Pu 52 9 W P ps → W.cell? ⟨P, k * 5 + 3, none⟩ = some (.int .i64 (ps[k]!).stock) ∧ W.frozen? ⟨P, k * 5 + 3, none⟩ = false) := fun W hW => ⟨hW.cell k hk 3 _ rfl, hW.froz _⟩
    have HE : Hid (giveE ps who n = if 1000000000 < (ps[k]!).stock + n then 4 else 0) := by show _ = _; unfold giveE; rw [hb, hix]; rfl
    have HN : Hid (∀ W, Pu 52 9 W P ps → ¬ 1000000000 < (ps[k]!).stock + n → Pu 52 9 (W.setCell ⟨P, k * 5 + 3, none⟩ (.int .i64 ((ps[k]!).stock + n))) P (giveP ps who n)) := fun W hW hf => by
      unfold giveP
      rw [HE.out, if_neg hf, if_pos rfl, hix]
      exact hW.put k 3 _ _ hk (by omega) rfl
    have HF : Hid (1000000000 < (ps[k]!).stock + n → giveP ps who n = ps) := fun hf => by unfold giveP; rw [HE.out, if_pos hf, if_neg (by decide)]
    have hwr : wrap64 ((ps[k]!).stock + n) = (ps[k]!).stock + n := wrapP _ (by have := z.h0; have := z.hc; have := z.t0; have := z.ts; omega) (by have := z.cm; have := z.sm; omega)
    generalize (ps[k]!).stock = x at *
    clear h ho hb z hw hk hix b1 b2 b3 b4
    by_cases hf : 1000000000 < x + n
    · have HPF : Hid (∀ W, Pu 52 9 W P ps → Calls Tryd.prog 20 #[.pointer (some ⟨P, k * 5 + 3, none⟩), .int .i64 n] W fun e w' => e = .returned (errV 4) ∧ w' = W) := fun W hW => put_full P _ x n W (HX.out W hW).1 hwr hf
      rw [HE.out, if_pos hf, HF.out hf]
      clear hf hwr HE HF HN HX
      go_enter Tryd.func8, Tryd.ntmps8
      go_wp2_with fail
      refine HG.out.mono ?_
      rintro e w1 ⟨rfl, hb1⟩
      have HB1 := hidU hb1
      clear hb1
      go_wp2_with fail
      refine (HOF.out _).mono ?_
      rintro e w2 ⟨rfl, rfl⟩
      go_wp2_with fail
      refine (HPF.out _ (HP.out.below HB1.out)).mono ?_
      rintro e w3 ⟨rfl, rfl⟩
      go_wp2_with fail
      go_ret
      exact ⟨rfl, HP.out.below HB1.out, grB HB1.out _⟩
    · have HPF : Hid (∀ W, Pu 52 9 W P ps → Calls Tryd.prog 20 #[.pointer (some ⟨P, k * 5 + 3, none⟩), .int .i64 n] W fun e w' => e = .returned (errV 0) ∧ w' = W.setCell ⟨P, k * 5 + 3, none⟩ (.int .i64 (x + n))) := fun W hW => put_ok P _ x n W (HX.out W hW).1 (HX.out W hW).2 hwr hf
      have HN2 := hidU (fun W hW => HN.out W hW hf)
      rw [HE.out, if_neg hf]
      clear hf hwr HE HF HN HX
      go_enter Tryd.func8, Tryd.ntmps8
      go_wp2_with fail
      refine HG.out.mono ?_
      rintro e w1 ⟨rfl, hb1⟩
      have HB1 := hidU hb1
      clear hb1
      go_wp2_with fail
      refine (HOF.out _).mono ?_
      rintro e w2 ⟨rfl, rfl⟩
      go_wp2_with fail
      refine (HPF.out _ (HP.out.below HB1.out)).mono ?_
      rintro e w3 ⟨rfl, rfl⟩
      have HL := hidU (HN2.out _ (HP.out.below HB1.out))
      have HGR := hidU (grT (grB HB1.out (some P)) (grC w2 P (k * 5 + 3) (.int .i64 (x + n))))
      clear HN2 HPF
      generalize w2.setCell ⟨P, k * 5 + 3, none⟩ (.int .i64 (x + n)) = w4 at *
      go_wp2_with fail
      go_ret
      exact ⟨rfl, HL.out, HGR.out⟩

end Go.Proofs.YthndnndejdckeaaDoor.pur
