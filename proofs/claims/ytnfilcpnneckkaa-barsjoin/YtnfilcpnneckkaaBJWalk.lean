/- The walk of BarsJoin. -/
import Derived.Test.YtnfilcpnneckkaaBJPure
namespace Go.Proofs.Ytnfilcpnneckkaa.bar
open Go.RowKit Go.Proofs.Ytnfilcpnneckkaa.mee
open Go.Proofs.Ytnfilcpnneckkaa.spn (keeps rangeE errV errV_zero errV_of)

theorem bars_one {zs : List T} (h : 0 < zs.length) : barsOf zs zs.length = [barOf zs] := by
  unfold barsOf
  rw [cnt_one h]
  simp [parts, barsAt, partL]
theorem join_fact (w : World) : Calls Try.prog 5 #[.slice (some ⟨w.heap.size, 0, none⟩) 2 2] (w.alloc (.cells #[.int .i64 2, .int .i64 4, .int .i64 1, .int .i64 3, .int .i64 5, .int .i64 3, .int .i64 6, .int .i64 3, .int .i64 5, .int .i64 2] 24)) fun e w' =>
    e = .returned (.tuple #[.agg #[.int .i64 2, .int .i64 6, .int .i64 1, .int .i64 5, .int .i64 7], .nilIface]) ∧ Below w.heap.size w w' := by
  have hR := heap_alloc_new w (.cells #[.int .i64 2, .int .i64 4, .int .i64 1, .int .i64 3, .int .i64 5, .int .i64 3, .int .i64 6, .int .i64 3, .int .i64 5, .int .i64 2] 24)
  have hB : Below w.heap.size w (w.alloc (.cells #[.int .i64 2, .int .i64 4, .int .i64 1, .int .i64 3, .int .i64 5, .int .i64 3, .int .i64 6, .int .i64 3, .int .i64 5, .int .i64 2] 24)) := (Below.refl _ _).alloc (Nat.le_refl _) _
  have hz : w.heap.size < (w.alloc (.cells #[.int .i64 2, .int .i64 4, .int .i64 1, .int .i64 3, .int .i64 5, .int .i64 3, .int .i64 6, .int .i64 3, .int .i64 5, .int .i64 2] 24)).heap.size := by simp
  generalize w.alloc (.cells #[.int .i64 2, .int .i64 4, .int .i64 1, .int .i64 3, .int .i64 5, .int .i64 3, .int .i64 6, .int .i64 3, .int .i64 5, .int .i64 2] 24) = V at *
  have hl : BL V (.slice (some ⟨w.heap.size, 0, none⟩) 2 2) [⟨2, 4, 1, 3, 5⟩, ⟨3, 6, 3, 5, 2⟩] := by
    refine .inr ⟨_, _, _, rfl, by simp, by omega, hz, ?_⟩
    intro j hj i v hv
    simp only [World.cell?, hR]
    have hj2 : j = 0 ∨ j = 1 := by simp at hj; omega
    have hi : i < 5 := by
      rcases Nat.lt_or_ge i 5 with h | h
      · exact h
      · rw [List.getElem?_eq_none (show (bV _).length ≤ i from h)] at hv; cases hv
    have hi5 : i = 0 ∨ i = 1 ∨ i = 2 ∨ i = 3 ∨ i = 4 := by omega
    rcases hj2 with rfl | rfl <;> rcases hi5 with rfl | rfl | rfl | rfl | rfl <;> exact hv
  refine (join_any _ _ V hl).mono ?_
  rintro e w' ⟨rfl, hb⟩
  have h0 : joinE [⟨2, 4, 1, 3, 5⟩, ⟨3, 6, 3, 5, 2⟩] = 0 := by decide
  have h1 : joinOf [⟨2, 4, 1, 3, 5⟩, ⟨3, 6, 3, 5, 2⟩] = ⟨2, 6, 1, 5, 7⟩ := by
    simp only [joinOf, List.foldl, bhd, B.mk.injEq]
    refine ⟨trivial, by omega, by omega, trivial, ?_⟩
    unfold wrap64
    omega
  exact ⟨by rw [if_pos h0, h0, errV_zero, h1]; rfl, hB.trans (hb.mono hB.size)⟩

set_option maxRecDepth 100000 in
set_option maxHeartbeats 2000000 in
theorem bj_walk (v : Value) (zs : List T) (n : Int) (w : World) (h : TL w v zs) :
    Calls Try.prog 3 #[v, .int .i64 n] w fun e w' => e = .returned (.bool true) ∧ Below w.heap.size w w' := by
  have HTL := hidT (fun W (hW : Below w.heap.size w W) => h.below hW)
  have HBA := hidT (fun W (hW : Below w.heap.size w W) => bars_any v zs n W (h.below hW))
  by_cases hE : barsE zs n = 0
  rotate_left
  · obtain ⟨q, c, rfl, hn, hc9⟩ := h.form
    rw [errV_of hE] at HBA
    clear h HTL
    generalize barsE zs n = k at *
    generalize zs.length = len at *
    go_enter Try.func3, Try.ntmps3
    go_wp2_with fail
    refine (join_fact w).mono ?_
    rintro e w1 ⟨rfl, hb1⟩
    go_wp2_with fail
    refine (HBA.out _ (hb1.alloc hb1.size _)).mono ?_
    rintro e w2 ⟨x, rfl, -, hb2⟩
    have HB2 : Hid (Below w.heap.size w w2) := (hb1.alloc hb1.size _).trans (hb2.mono (hb1.alloc hb1.size _).size)
    clear hb1 hb2 HBA
    go_wp2_with fail
    go_ret
    exact ⟨rfl, HB2.out⟩
  have hE' := hE
  unfold barsE at hE'
  have hck : bchk zs = 0 := by
    split at hE'
    · assumption
    · exact hE'
  rw [if_pos hck] at hE'
  have hnb : 1 ≤ n ∧ n ≤ 400 := by
    split at hE'
    · assumption
    · cases hE'
  rw [hE, errV_zero] at HBA
  by_cases hl : zs.length = 0
  · obtain ⟨q, c, rfl, hn, hc9⟩ := h.form
    have hbl : (barsOf zs n.toNat).length = 0 := by
      rw [bars_len', hl]
      unfold cnt
      exact Nat.div_eq_of_lt (by omega)
    have HBL := hidT hbl
    simp only [if_pos] at HBA
    clear h HTL hE hE' hck hnb hbl
    generalize barsOf zs n.toNat = bs at *
    generalize zs.length = len at *
    subst hl
    go_enter Try.func3, Try.ntmps3
    go_wp2_with fail
    refine (join_fact w).mono ?_
    rintro e w1 ⟨rfl, hb1⟩
    go_wp2_with fail
    refine (HBA.out _ (hb1.alloc hb1.size _)).mono ?_
    rintro e w2 ⟨x, rfl, hx, hb2⟩
    have HB2 : Hid (Below w.heap.size w w2) := (hb1.alloc hb1.size _).trans (hb2.mono (hb1.alloc hb1.size _).size)
    obtain ⟨q2, c2, rfl, -, -⟩ := hx.form
    rw [HBL.out]
    clear hb1 hb2 HBA hx
    go_wp2_with fail
    go_ret
    exact ⟨rfl, HB2.out⟩
  obtain ⟨h4, hg⟩ := bchk_zero hck
  have h0 : 0 < zs.length := by omega
  obtain ⟨m, rfl⟩ : ∃ m : Nat, n = m := ⟨n.toNat, by omega⟩
  have hm1 : 1 ≤ m := by omega
  rw [Int.toNat_natCast] at HBA
  have hbs : bsome zs = 0 := by
    unfold bsome
    rw [if_pos hck, if_neg hl]
  have HJO := hidT (fun (v' : Value) (W : World) (hx : BL W v' (barsOf zs m)) => join_any v' _ W hx)
  rw [bars_joinE hm1 hg h0 h4, join_all hm1 h0] at HJO
  have HB1 := hidT (fun W (hW : Below w.heap.size w W) => bars_any v zs (zs.length : Int) W (h.below hW))
  have hE1 : barsE zs (zs.length : Int) = 0 := by
    unfold barsE
    rw [if_pos hck, if_pos (by omega)]
  rw [hE1, errV_zero, Int.toNat_natCast, bars_one h0] at HB1
  have HME := hidT (fun W (hW : Below w.heap.size w W) => mean_any v zs W (h.below hW))
  have HRA := hidT (fun W (hW : Below w.heap.size w W) => range_any v zs W (h.below hW))
  rw [hbs, errV_zero] at HME HRA
  obtain ⟨M, hM⟩ : ∃ M, M = (wor zs).tdiv (qty zs) := ⟨_, rfl⟩
  rw [show meanE zs = M by rw [hM]; exact if_pos hbs] at HME
  rw [show lowE zs = (barOf zs).l from if_pos hbs, show highE zs = (barOf zs).h from if_pos hbs] at HRA
  have hMb := mean_in hg h0
  rw [← hM] at hMb
  have ho := barOf_o h0
  have hcl := barOf_c h0
  obtain ⟨b, off, c, rfl, hlc, hc9, hbw, hli⟩ : ∃ b o c, v = .slice (some ⟨b, o, none⟩) zs.length c ∧ zs.length ≤ c ∧ c ≤ 9223372036854775807 ∧ b < w.heap.size ∧ Lies 6 tV w b o zs := by
    rcases h with ⟨_, h2⟩ | h
    · rw [h2] at hl; exact absurd rfl hl
    · exact h
  have hp0 := hli 0 h0 4 _ rfl
  have hp1 := hli (zs.length - 1) (by omega) 4 _ rfl
  rw [← ho] at hp0
  rw [← hcl] at hp1
  simp only [if_pos] at HBA HB1 HJO
  generalize barsOf zs m = bs at *
  generalize barOf zs = R at *
  obtain ⟨o, hi, lo, cl, qt⟩ := R
  have HJP : Hid (∀ (v' : Value) (W : World), BL W v' bs → Calls Try.prog 5 #[v'] W fun e w' => e = .returned (.tuple #[.agg #[.int .i64 o, .int .i64 hi, .int .i64 lo, .int .i64 cl, .int .i64 qt], .nilIface]) ∧ Below W.heap.size W w') := HJO.out
  clear HJO
  obtain ⟨k, hk⟩ : ∃ k, zs.length = k + 1 := ⟨zs.length - 1, by omega⟩
  simp only [hk] at *
  rw [show k + 1 - 1 = k by omega] at hp1
  have HC0 : Hid (∀ W, Below w.heap.size w W → W.cell? ⟨b, off + 4, none⟩ = some (.int .i64 o) ∧ W.cell? ⟨b, off + k * 6 + 4, none⟩ = some (.int .i64 cl)) := fun W hW => ⟨(hW.cell (p := ⟨b, off + 4, none⟩) hbw).trans (by simpa using hp0), (hW.cell (p := ⟨b, off + k * 6 + 4, none⟩) hbw).trans hp1⟩
  have HMB := hidT hMb
  have H4 := hidT h4
  clear hli hp0 hp1 hbw ho hcl hMb hM hE hE' hck hnb hl hg h0 hm1 hbs hE1 h4 h HTL hk
  go_enter Try.func3, Try.ntmps3
  go_wp2_with fail
  refine (join_fact w).mono ?_
  rintro e w1 ⟨rfl, hb1⟩
  go_wp2_with fail
  refine (HBA.out _ (hb1.alloc hb1.size _)).mono ?_
  rintro e w2 ⟨x, rfl, hx, hb2⟩
  have HB2 : Hid (Below w.heap.size w w2) := (hb1.alloc hb1.size _).trans (hb2.mono (hb1.alloc hb1.size _).size)
  obtain ⟨q2, c2, rfl, -, -⟩ := hx.form
  clear hb1 hb2 HBA
  go_wp2_with fail
  refine (HJP.out _ _ hx).mono ?_
  rintro e w3 ⟨rfl, hb3⟩
  have HB3 : Hid (Below w.heap.size w w3) := HB2.out.trans (hb3.mono HB2.out.size)
  clear hb3 hx HJP
  obtain ⟨Y, hY⟩ : ∃ y, y = w3.heap.size := ⟨_, rfl⟩
  obtain ⟨V3, hV3⟩ : ∃ V, V = w3.alloc (.cells #[.int .i64 o, .int .i64 hi, .int .i64 lo, .int .i64 cl, .int .i64 qt] 24) := ⟨_, rfl⟩
  have HV3 : Hid (Below w.heap.size w V3 ∧ V3.heap[Y]? = some (.cells #[.int .i64 o, .int .i64 hi, .int .i64 lo, .int .i64 cl, .int .i64 qt] 24 (0, 0))) := by
    rw [hV3, hY]
    exact ⟨HB3.out.alloc HB3.out.size _, heap_alloc_new w3 _⟩
  go_upto_region 8 with fail
  simp only [← hY, ← hV3]
  clear hY hV3 HB3 HB2
  go_wp2_with fail
  refine (HB1.out _ HV3.out.1).mono ?_
  rintro e w4 ⟨z, rfl, hz, hb4⟩
  have HW4 : Hid (Below w.heap.size w w4 ∧ w4.heap[Y]? = some (.cells #[.int .i64 o, .int .i64 hi, .int .i64 lo, .int .i64 cl, .int .i64 qt] 24 (0, 0))) :=
    ⟨HV3.out.1.trans (hb4.mono HV3.out.1.size), (hb4.block Y (Array.getElem?_eq_some_iff.1 HV3.out.2).1).trans HV3.out.2⟩
  obtain ⟨g3, o3, c3, rfl, hg3, hz3⟩ : ∃ g o3 c3, z = .slice (some ⟨g, o3, none⟩) 1 c3 ∧ g < w4.heap.size ∧ ∀ i v, (bV ⟨o, hi, lo, cl, qt⟩)[i]? = some v → w4.cell? ⟨g, o3 + i, none⟩ = some v := by
    rcases hz with ⟨_, h2⟩ | ⟨g, o3, c3, h1, _, _, h2, h3⟩
    · cases h2
    · exact ⟨g, o3, c3, h1, h2, fun i v hv => by have := h3 0 (by simp) i v (by simpa using hv); simpa using this⟩
  have HZ : Hid (∀ W, Below w4.heap.size w4 W → ∀ i v, (bV ⟨o, hi, lo, cl, qt⟩)[i]? = some v → W.cell? ⟨g3, o3 + i, none⟩ = some v) := fun W hW i v hv => (hW.cell (p := ⟨g3, o3 + i, none⟩) hg3).trans (hz3 i v hv)
  clear hb4 HV3 HB1 hz hz3 hg3
  go_wp2_with fail
  refine (HME.out _ HW4.out.1).mono ?_
  rintro e w5 ⟨rfl, hb5⟩
  have HW5 := hidT (HW4.out.1.trans (hb5.mono HW4.out.1.size))
  have HF5 := hidT hb5
  clear hb5 HME
  go_wp2_with fail
  refine (HRA.out _ HW5.out).mono ?_
  rintro e w6 ⟨rfl, hb6⟩
  have HW6 := hidT (HW5.out.trans (hb6.mono HW5.out.size))
  have hB46 := HF5.out.trans (hb6.mono HF5.out.size)
  obtain ⟨l0, l1⟩ := HC0.out w6 HW6.out
  have hzz := HZ.out w6 hB46
  have z0 := hzz 0 _ rfl
  have z1 := hzz 1 _ rfl
  have z2 := hzz 2 _ rfl
  have z3 := hzz 3 _ rfl
  have z4 := hzz 4 _ rfl
  simp only [Nat.add_zero] at z0
  obtain ⟨y0, y1, y2, y3, y4⟩ := row5 ((hB46.block Y (Array.getElem?_eq_some_iff.1 HW4.out.2).1).trans HW4.out.2)
  clear hzz hb6 hB46 HRA HC0 HZ HW4 HW5 HF5
  have m1 := HMB.out.1
  have m2 := HMB.out.2
  have e1 : ((k + 1 : Nat) : Int) - 1 = (k : Int) := by omega
  have e2 : wrap64 (k : Int) = (k : Int) := by have := H4.out; unfold wrap64; omega
  have e3 : ¬ (k : Int) < 0 := by omega
  have e4 : (k : Int) < ((k + 1 : Nat) : Int) := by omega
  go_upto_region 13 with fail
  go_quiet (fail)
  go_wp2_with fail
  go_ret
  exact ⟨rfl, HW6.out.trans ⟨rfl, rfl, rfl, Nat.le_refl _, fun _ _ => rfl⟩⟩
end Go.Proofs.Ytnfilcpnneckkaa.bar
