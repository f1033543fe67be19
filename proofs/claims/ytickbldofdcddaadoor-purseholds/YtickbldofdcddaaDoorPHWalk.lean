/- The walk of PurseHolds. -/
import Derived.Test.YtickbldofdcddaaDoorPurHold
import Derived.Test.YtickbldofdcddaaDoorPurPay
import Derived.Test.YtickbldofdcddaaDoorPurGet
import Derived.Test.YtickbldofdcddaaDoorPurNew
import Derived.Test.YtickbldofdcddaaDoorTold
namespace Go.Proofs.YtickbldofdcddaaDoor.purseHolds
open Go.RowKit Go.Proofs.YtickbldofdcddaaDoor.spn Go.Proofs.YtickbldofdcddaaDoor.pur

theorem on2 {f : Pz → Pz} {ps : List Pz} (ho : Ok ps) : (on f 2 ps)[2]! = f ps[2]! := by
  rw [on_at f 2 ps 2 (by rw [ho.len]; omega), if_pos rfl]
theorem ix3 : ix 3 = 2 := rfl
theorem pay3 {ps : List Pz} {z : Pz} {n : Int} (ho : Ok ps) (hz : ps[2]! = z) (h1 : 1 ≤ n) (h2 : n ≤ 1000000) (hc : z.cash = 0) : payE ps 3 n = 0 ∧ (payP ps 3 n)[2]! = adC n z := by
  have e : payE ps 3 n = 0 := by
    unfold payE
    rw [if_neg (by simp [badG, spanB]; omega), ix3, hz, if_neg (by omega)]
  refine ⟨e, ?_⟩
  unfold payP
  rw [if_pos e, ix3, on2 ho, hz]
theorem give3 {ps : List Pz} {z : Pz} {n : Int} (ho : Ok ps) (hz : ps[2]! = z) (h1 : 1 ≤ n) (h2 : n ≤ 1000000) (hc : z.stock = 0) : giveE ps 3 n = 0 ∧ (giveP ps 3 n)[2]! = adS n z := by
  have e : giveE ps 3 n = 0 := by
    unfold giveE
    rw [if_neg (by simp [badG, spanB]; omega), ix3, hz, if_neg (by omega)]
  refine ⟨e, ?_⟩
  unfold giveP
  rw [if_pos e, ix3, on2 ho, hz]
theorem hold3 {ps : List Pz} {z : Pz} {c s : Int} (ho : Ok ps) (hz : ps[2]! = z) (h1 : 0 ≤ c) (h2 : c ≤ 1000001) (h3 : 0 ≤ s) (h4 : s ≤ 1000000) :
    (¬ (z.cash - z.held < c ∨ z.stock - z.hs < s) → holdE ps 3 c s = 0 ∧ (holdP ps 3 c s)[2]! = adT s (adH c z)) ∧ ((z.cash - z.held < c ∨ z.stock - z.hs < s) → holdE ps 3 c s = 9 ∧ holdP ps 3 c s = ps) := by
  have hb : ¬ badH 3 c s = true := by simp [badH, spanB]; omega
  constructor
  · intro hn
    have e : holdE ps 3 c s = 0 := by unfold holdE; rw [if_neg hb, ix3, hz, if_neg hn]
    refine ⟨e, ?_⟩
    unfold holdP
    rw [if_pos e, ix3]
    have h9 : (on (adH c) 2 ps).length = 9 := on_len9 ho.len
    rw [on_at (adT s) 2 _ 2 (by rw [h9]; omega), if_pos rfl, on2 ho, hz]
  · intro hn
    have e : holdE ps 3 c s = 9 := by unfold holdE; rw [if_neg hb, ix3, hz, if_pos hn]
    refine ⟨e, ?_⟩
    unfold holdP
    rw [if_neg (by rw [e]; decide)]
theorem free3 {ps : List Pz} {z : Pz} {c s : Int} (ho : Ok ps) (hz : ps[2]! = z) (h1 : 0 ≤ c) (h2 : c ≤ 1000001) (h3 : 0 ≤ s) (h4 : s ≤ 1000000) :
    (¬ (z.held < c ∨ z.hs < s) → freeE ps 3 c s = 0 ∧ (freeP ps 3 c s)[2]! = adT (-s) (adH (-c) z)) ∧ ((z.held < c ∨ z.hs < s) → freeE ps 3 c s = 9 ∧ freeP ps 3 c s = ps) := by
  have hb : ¬ badH 3 c s = true := by simp [badH, spanB]; omega
  constructor
  · intro hn
    have e : freeE ps 3 c s = 0 := by unfold freeE; rw [if_neg hb, ix3, hz, if_neg hn]
    refine ⟨e, ?_⟩
    unfold freeP
    rw [if_pos e, ix3]
    have h9 : (on (adH (-c)) 2 ps).length = 9 := on_len9 ho.len
    rw [on_at (adT (-s)) 2 _ 2 (by rw [h9]; omega), if_pos rfl, on2 ho, hz]
  · intro hn
    have e : freeE ps 3 c s = 9 := by unfold freeE; rw [if_neg hb, ix3, hz, if_pos hn]
    refine ⟨e, ?_⟩
    unfold freeP
    rw [if_neg (by rw [e]; decide)]

/-- Purses of a call's own, of which that of trader 3 is this. -/
structure Has (w : World) (P : Nat) (z : Pz) (ps : List Pz) (wr : World) : Prop where
  ok : Ok ps
  z : ps[2]! = z
  pu : Pu 36 9 wr P ps
  le : w.heap.size ≤ P
  bel : Below w.heap.size w wr
theorem Has.to {w : World} {P : Nat} {z z' : Pz} {ps ps' : List Pz} {wr w' : World} (h : Has w P z ps wr) (ho : Ok ps') (hz : ps'[2]! = z') (hp : Pu 36 9 w' P ps') (hg : wr.grownBy w' (some P)) : Has w P z' ps' w' :=
  ⟨ho, hz, hp, h.le, belG h.bel hg h.bel.size h.le⟩
theorem Has.on {w : World} {P : Nat} {z : Pz} {ps : List Pz} {wr w' : World} (h : Has w P z ps wr) (hb : Below wr.heap.size wr w') : Has w P z ps w' :=
  ⟨h.ok, h.z, h.pu.below hb, h.le, h.bel.trans (hb.mono h.bel.size)⟩

set_option maxHeartbeats 1000000 in
theorem walk_out (n hold : Int) (B w : World) (h : told.Inv B w) (ho : n < 1 ∨ (¬ n < 1 ∧ 1000000 < n) ∨ (¬ n < 1 ∧ ¬ 1000000 < n ∧ hold < 0) ∨ (¬ n < 1 ∧ ¬ 1000000 < n ∧ ¬ hold < 0 ∧ 1000000 < hold)) :
    Calls Tryd.prog 3 #[.int .i64 n, .int .i64 hold] w fun e w' => e = .returned (.bool true) ∧ told.Inv B w' := by
  have HI := hidU h
  rcases ho with g1 | ⟨g1, g2⟩ | ⟨g1, g2, g3⟩ | ⟨g1, g2, g3, g4⟩
  all_goals
    clear h
    go_enter Tryd.func3, Tryd.ntmps3
    go_wp2_with fail
    refine (new_any w).mono ?_
    rintro e w1 ⟨rfl, -, hb⟩
    have HB := hidU hb
    clear hb
    go_wp2_with fail
    go_ret
    exact ⟨rfl, HI.out.on HB.out⟩

set_option maxRecDepth 100000 in
set_option maxHeartbeats 4000000 in
theorem walk_in (n hold : Int) (B w : World) (h : told.Inv B w) (g1 : ¬ n < 1) (g2 : ¬ 1000000 < n) (g3 : ¬ hold < 0) (g4 : ¬ 1000000 < hold) :
    Calls Tryd.prog 3 #[.int .i64 n, .int .i64 hold] w fun e w' => e = .returned (.bool true) ∧ told.Inv B w' := by
  have HI := hidU h
  have HBD : Hid (1 ≤ n ∧ n ≤ 1000000 ∧ 0 ≤ hold ∧ hold ≤ 1000000) := ⟨by omega, by omega, by omega, by omega⟩
  clear h
  go_enter Tryd.func3, Tryd.ntmps3
  go_wp2_with fail
  refine (new_any w).mono ?_
  rintro e w1 ⟨rfl, hp1, hb1⟩
  obtain ⟨P, hP⟩ : ∃ P, P = w.heap.size := ⟨_, rfl⟩
  rw [← hP] at hp1 ⊢
  have H1 : Hid (Has w P ⟨3, 0, 0, 0, 0⟩ (newL 9) w1) := ⟨newL_ok, newL_at 9 2 (by omega), hp1, Nat.le_of_eq hP.symm, hb1⟩
  clear hp1 hb1 hP
  generalize newL 9 = ps1 at H1
  have hE1 := pay3 H1.out.ok H1.out.z HBD.out.1 HBD.out.2.1 rfl
  have HC1 := pay_any P ps1 3 n w1 H1.out.pu H1.out.ok
  have ho2 := pay_ok H1.out.ok 3 n
  rw [hE1.1] at HC1
  obtain ⟨ps2, hps2⟩ : ∃ x, x = payP ps1 3 n := ⟨_, rfl⟩
  rw [← hps2] at HC1 ho2 hE1
  have HD1 := hidU HC1
  have HE1 : Hid (Ok ps2 ∧ ps2[2]! = ⟨3, 0 + n, 0, 0, 0⟩) := ⟨ho2, hE1.2⟩
  clear hE1 HC1 ho2 hps2
  go_wp2_with fail
  refine HD1.out.mono ?_
  rintro e w2 ⟨rfl, hp2, hg2⟩
  have H2 := hidU (H1.out.to HE1.out.1 HE1.out.2 hp2 hg2)
  clear HD1 HE1 H1 hp2 hg2
  have hE1 := give3 H2.out.ok H2.out.z HBD.out.1 HBD.out.2.1 rfl
  have HC1 := give_any P ps2 3 n w2 H2.out.pu H2.out.ok
  have ho2 := give_ok H2.out.ok 3 n
  rw [hE1.1] at HC1
  obtain ⟨ps3, hps3⟩ : ∃ x, x = giveP ps2 3 n := ⟨_, rfl⟩
  rw [← hps3] at HC1 ho2 hE1
  have HD1 := hidU HC1
  have HE1 : Hid (Ok ps3 ∧ ps3[2]! = ⟨3, 0 + n, 0, 0 + n, 0⟩) := ⟨ho2, hE1.2⟩
  clear hE1 HC1 ho2 hps3
  simp only [errV_zero]
  go_wp2_with fail
  refine HD1.out.mono ?_
  rintro e w3 ⟨rfl, hp2, hg2⟩
  have H3 := hidU (H2.out.to HE1.out.1 HE1.out.2 hp2 hg2)
  clear HD1 HE1 H2 hp2 hg2
  simp only [errV_zero]
  have HC := hidU (hold_any P ps3 3 hold hold w3 H3.out.pu H3.out.ok)
  have HK := hidU (hold3 (c := hold) (s := hold) H3.out.ok H3.out.z HBD.out.2.2.1 (by have := HBD.out; omega) HBD.out.2.2.1 HBD.out.2.2.2)
  have HO := hidU (hold_ok H3.out.ok 3 hold hold)
  by_cases hn : n < hold
  · have hx := HK.out.2 (.inl (by show 0 + n - 0 < hold; omega))
    rw [hx.1, hx.2] at HC
    clear hx HK HO
    go_wp2_with fail
    refine HC.out.mono ?_
    rintro e w4 ⟨rfl, hp4, hg4⟩
    have H4 := hidU (H3.out.to H3.out.ok H3.out.z hp4 hg4)
    have HE9 := told.error_any w4 9 9 w4 (told.Inv.start (HI.out.on H4.out.bel).laid)
    simp only [show told.errV 9 = .iface 41 (.int .i64 9) from rfl, show ((9 : Int) == 9) = true from rfl] at HE9
    have HE := hidU HE9
    clear hp4 hg4 HC H3 HE9
    simp only [show errV 9 = .iface 41 (.int .i64 9) from rfl]
    go_wp2_with fail
    refine HE.out.mono ?_
    rintro e w5 ⟨rfl, i5⟩
    have HF := hidU ((HI.out.on H4.out.bel).on i5.2)
    clear i5 HE H4
    go_wp2_with fail
    go_ret
    exact ⟨rfl, HF.out⟩
  · have hx := HK.out.1 (by rintro (hq | hq) <;> (first | (have hq' : 0 + n - 0 < hold := hq; omega)))
    rw [hx.1] at HC
    obtain ⟨ps4, hps4⟩ : ∃ x, x = holdP ps3 3 hold hold := ⟨_, rfl⟩
    rw [← hps4] at HC HO hx
    have HE1 : Hid (Ok ps4 ∧ ps4[2]! = ⟨3, 0 + n, 0 + hold, 0 + n, 0 + hold⟩) := ⟨HO.out, hx.2⟩
    clear hx HK HO hps4
    go_wp2_with fail
    refine HC.out.mono ?_
    rintro e w4 ⟨rfl, hp4, hg4⟩
    have H4 := hidU (H3.out.to HE1.out.1 HE1.out.2 hp4 hg4)
    clear hp4 hg4 HC H3 HE1
    simp only [errV_zero]
    -- one more cannot be put by
    obtain ⟨m, hm⟩ : ∃ m, m = n - hold + 1 := ⟨_, rfl⟩
    have HM : Hid (0 ≤ m ∧ m ≤ 1000001 ∧ n - hold < m) := ⟨by have := HBD.out; omega, by have := HBD.out; omega, by omega⟩
    have wm1 : wrap64 (n - hold) = n - hold := wrapP _ (by have := HBD.out; omega) (by have := HBD.out; omega)
    have wm2 : wrap64 (n - hold + 1) = m := by rw [hm]; exact wrapP _ (by clear wm1; have := HBD.out; omega) (by clear wm1; have := HBD.out; omega)
    have hx := (hold3 (c := m) (s := 0) H4.out.ok H4.out.z HM.out.1 HM.out.2.1 (by decide) (by decide)).2 (.inl (by show 0 + n - (0 + hold) < m; have := HM.out; clear wm1 wm2; omega))
    have HC := hidU (hold_any P ps4 3 m 0 w4 H4.out.pu H4.out.ok)
    rw [hx.1, hx.2, hm] at HC
    clear hx hm wm1 wm2 HM m
    go_wp2_with fail
    refine HC.out.mono ?_
    rintro e w5 ⟨rfl, hp5, hg5⟩
    have H5 := hidU (H4.out.to H4.out.ok H4.out.z hp5 hg5)
    have HE9 := told.error_any w5 9 9 w5 (told.Inv.start (HI.out.on H5.out.bel).laid)
    simp only [show told.errV 9 = .iface 41 (.int .i64 9) from rfl, show ((9 : Int) == 9) = true from rfl] at HE9
    have HE := hidU HE9
    clear hp5 hg5 HC H4 HE9
    simp only [show errV 9 = .iface 41 (.int .i64 9) from rfl]
    go_wp2_with fail
    refine HE.out.mono ?_
    rintro e w6 ⟨rfl, i6⟩
    have H6 := hidU (H5.out.on i6.2)
    clear i6 HE H5
    have HG := hidU (get_any P ps4 3 w6 H6.out.pu)
    have hg3 : getZ ps4 3 = ⟨3, 0 + n, 0 + hold, 0 + n, 0 + hold⟩ := by unfold getZ; rw [if_neg (by decide), ix3]; exact H6.out.z
    rw [hg3] at HG
    clear hg3
    have HG2 : Hid (Calls Tryd.prog 9 #[.pointer (some ⟨P, 0, none⟩), .int .i64 3] w6 fun e w' => e = .returned (.tuple #[.agg #[.int .i64 3, .int .i64 n, .int .i64 hold, .int .i64 n, .int .i64 hold], .nilIface]) ∧ Below w6.heap.size w6 w') := by
      have := HG.out
      simp only [pL, Int.zero_add] at this
      exact this
    clear HG
    go_wp2_with fail
    refine HG2.out.mono ?_
    rintro e w7 ⟨rfl, hb7⟩
    have H7 := hidU (H6.out.on hb7)
    clear hb7 HG2 H6
    have hal : Below w7.heap.size w7 (w7.alloc (.cells #[.int .i64 3, .int .i64 n, .int .i64 hold, .int .i64 n, .int .i64 hold] 30)) := (Below.refl _ _).alloc (Nat.le_refl _) _
    have H8 := hidU (H7.out.on hal)
    have HR8 := hidU (heap_alloc_new w7 (.cells #[.int .i64 3, .int .i64 n, .int .i64 hold, .int .i64 n, .int .i64 hold] 30))
    clear hal
    go_upto_region 11 with fail
    generalize w7.alloc (.cells #[.int .i64 3, .int .i64 n, .int .i64 hold, .int .i64 n, .int .i64 hold] 30) = w8 at *
    obtain ⟨X, hX⟩ : ∃ X, X = w7.heap.size := ⟨_, rfl⟩
    simp only [← hX] at *
    clear hX H7
    have hx := (free3 (c := hold) (s := hold) H8.out.ok H8.out.z HBD.out.2.2.1 (by have := HBD.out; omega) HBD.out.2.2.1 HBD.out.2.2.2).1 (by rintro (hq | hq) <;> (have hq' : 0 + hold < hold := hq; omega))
    have HC := hidU (free_any P ps4 3 hold hold w8 H8.out.pu H8.out.ok)
    have HO := hidU (free_ok H8.out.ok 3 hold hold)
    rw [hx.1] at HC
    obtain ⟨ps5, hps5⟩ : ∃ x, x = freeP ps4 3 hold hold := ⟨_, rfl⟩
    rw [← hps5] at HC HO hx
    have HE1 : Hid (Ok ps5 ∧ ps5[2]! = ⟨3, 0 + n, 0 + hold + -hold, 0 + n, 0 + hold + -hold⟩) := ⟨HO.out, hx.2⟩
    clear hx HO hps5
    go_wp2_with fail
    refine HC.out.mono ?_
    rintro e w9 ⟨rfl, hp9, hg9⟩
    have H9 := hidU (H8.out.to HE1.out.1 HE1.out.2 hp9 hg9)
    have HR9 := hidU ((hg9.block X (Array.getElem?_eq_some_iff.1 HR8.out).1 (fun e => by
      injection e with e
      have h1 := H8.out.pu.2
      rw [← e, HR8.out] at h1
      injection h1 with h1
      injection h1 with h1 h2 h3
      exact absurd h2 (by decide))).trans HR8.out)
    clear hp9 hg9 HC H8 HE1 HR8
    simp only [errV_zero]
    have hx := (free3 (c := 1) (s := 0) H9.out.ok H9.out.z (by decide) (by decide) (by decide) (by decide)).2 (.inl (by show 0 + hold + -hold < 1; omega))
    have HC := hidU (free_any P ps5 3 1 0 w9 H9.out.pu H9.out.ok)
    rw [hx.1, hx.2] at HC
    clear hx
    go_wp2_with fail
    refine HC.out.mono ?_
    rintro e w10 ⟨rfl, hp10, hg10⟩
    have H10 := hidU (H9.out.to H9.out.ok H9.out.z hp10 hg10)
    have HR10 := hidU ((hg10.block X (Array.getElem?_eq_some_iff.1 HR9.out).1 (fun e => by
      injection e with e
      have h1 := H9.out.pu.2
      rw [← e, HR9.out] at h1
      injection h1 with h1
      injection h1 with h1 h2 h3
      exact absurd h2 (by decide))).trans HR9.out)
    have HE9 := told.error_any w10 9 9 w10 (told.Inv.start (HI.out.on H10.out.bel).laid)
    simp only [show told.errV 9 = .iface 41 (.int .i64 9) from rfl, show ((9 : Int) == 9) = true from rfl] at HE9
    have HE := hidU HE9
    clear hp10 hg10 HC H9 HE9 HR9
    simp only [show errV 9 = .iface 41 (.int .i64 9) from rfl]
    go_wp2_with fail
    refine HE.out.mono ?_
    rintro e w11 ⟨rfl, i11⟩
    have HF := hidU ((HI.out.on H10.out.bel).on i11.2)
    obtain ⟨y0, y1, y2, y3, y4, -⟩ := row5 ((i11.2.block X (Array.getElem?_eq_some_iff.1 HR10.out).1).trans HR10.out)
    clear i11 HE H10 HR10
    go_wp2_with fail
    go_ret
    exact ⟨by simp, HF.out⟩

theorem walk (n hold : Int) (B w : World) (h : told.Inv B w) :
    Calls Tryd.prog 3 #[.int .i64 n, .int .i64 hold] w fun e w' => e = .returned (.bool true) ∧ told.Inv B w' := by
  by_cases g1 : n < 1
  · exact walk_out n hold B w h (.inl g1)
  by_cases g2 : 1000000 < n
  · exact walk_out n hold B w h (.inr (.inl ⟨g1, g2⟩))
  by_cases g3 : hold < 0
  · exact walk_out n hold B w h (.inr (.inr (.inl ⟨g1, g2, g3⟩)))
  by_cases g4 : 1000000 < hold
  · exact walk_out n hold B w h (.inr (.inr (.inr ⟨g1, g2, g3, g4⟩)))
  exact walk_in n hold B w h g1 g2 g3 g4
end Go.Proofs.YtickbldofdcddaaDoor.purseHolds
