/- What the document's BarOf answers. -/
import Derived.Test.YtkbegagpliiljaaDoorBTRef
namespace Go.Proofs.YtkbegagpliiljaaDoor.bar
open Go.RowKit Go.Proofs.YtkbegagpliiljaaDoor.mee
open Go.Proofs.YtkbegagpliiljaaDoor.spn (keeps spanB)

theorem barF_h (a : B) (r : List T) (t : T) : barF a (t :: r) = barF (bhd a (sgl t)) r := rfl
/-- From nothing at the first price. -/
theorem barF_zero {t : T} {r : List T} (h : 1 ≤ t.qty ∧ t.qty ≤ 10000) : barF ⟨t.price, t.price, t.price, t.price, 0⟩ (t :: r) = barOf (t :: r) := by
  show barF (bhd ⟨t.price, t.price, t.price, t.price, 0⟩ (sgl t)) r = barF (sgl t) r
  congr 1
  simp only [bhd, sgl, B.mk.injEq]
  refine ⟨trivial, by omega, by omega, trivial, ?_⟩
  unfold wrap64
  omega
theorem barF_c' : ∀ (r : List T) (a : B), (barF a r).c = (match r.getLast? with | none => a.c | some t => t.price)
  | [], a => rfl
  | t :: r, a => by
    show (barF (bhd a (sgl t)) r).c = _
    rw [barF_c' r (bhd a (sgl t)), List.getLast?_cons]
    cases r.getLast? <;> rfl
theorem barF_o' : ∀ (r : List T) (a : B), (barF a r).o = a.o
  | [], a => rfl
  | t :: r, a => by
    show (barF (bhd a (sgl t)) r).o = _
    rw [barF_o' r (bhd a (sgl t))]
    rfl
theorem barOf_co {t : T} {r : List T} : (barOf (t :: r)).o = t.price ∧ (barOf (t :: r)).c = ((t :: r)[r.length]!).price := by
  constructor
  · exact barF_o' r (sgl t)
  · show (barF (sgl t) r).c = _
    rw [barF_c', getE _ _ (by simp)]
    cases r with
    | nil => rfl
    | cons x s =>
      rw [List.getLast?_eq_some_getLast (by simp), List.getLast_eq_getElem]
      simp
theorem idx_facts (k : Nat) (h : k ≤ 400) : ((k + 1 : Nat) : Int) - 1 = (k : Int) ∧ wrap64 (k : Int) = (k : Int) ∧ ¬ (k : Int) < 0 ∧ (k : Int) < ((k + 1 : Nat) : Int) ∧ IntKind.i64.wrap (((k + 1 : Nat) : Int) - 1) = (k : Int) ∧ (0 : Int) ≤ (k : Int) ∧ IntKind.i64.wrap (k : Int) = (k : Int) := by
  refine ⟨by omega, by unfold wrap64; omega, by omega, by omega, ?_, by omega, ?_⟩ <;>
  (rw [IntWalk.i64_left]
   unfold wrap64
   omega)
theorem put1 {w : World} {g : Nat} {e : TypeId} {a0 a1 a2 a3 a4 b : Value} (h : w.heap[g]? = some (.cells #[a0, a1, a2, a3, a4] e (0, 0))) :
    (w.setCell ⟨g, 1, none⟩ b).heap[g]? = some (.cells #[a0, b, a2, a3, a4] e (0, 0)) := by simpa using heap_setCell_same w g 1 _ _ b h
theorem put2 {w : World} {g : Nat} {e : TypeId} {a0 a1 a2 a3 a4 b : Value} (h : w.heap[g]? = some (.cells #[a0, a1, a2, a3, a4] e (0, 0))) :
    (w.setCell ⟨g, 2, none⟩ b).heap[g]? = some (.cells #[a0, a1, b, a3, a4] e (0, 0)) := by simpa using heap_setCell_same w g 2 _ _ b h
theorem put4 {w : World} {g : Nat} {e : TypeId} {a0 a1 a2 a3 a4 b : Value} (h : w.heap[g]? = some (.cells #[a0, a1, a2, a3, a4] e (0, 0))) :
    (w.setCell ⟨g, 4, none⟩ b).heap[g]? = some (.cells #[a0, a1, a2, a3, b] e (0, 0)) := by simpa using heap_setCell_same w g 4 _ _ b h

set_option maxRecDepth 100000 in
set_option maxHeartbeats 2000000 in
theorem rbarOf_walk (g off c k : Nat) (zs : List T) (p0 pl : Int) (R : B) (w : World) (hn : zs.length = k + 1) (h4 : k ≤ 400) (hc : k + 1 ≤ c) (hc9 : c ≤ 9223372036854775807)
    (hcel : ∀ W, Below w.heap.size w W → ∀ j, j < zs.length → ∀ i v, (tV zs[j]!)[i]? = some v → W.cell? ⟨g, off + j * 6 + i, none⟩ = some v)
    (h0 : (zs[0]!).price = p0) (hl : (zs[k]!).price = pl) (hR : barF ⟨p0, p0, p0, p0, 0⟩ zs = R) (hRo : R.o = p0) (hRc : R.c = pl) :
    Calls Tryd.prog 5 #[.slice (some ⟨g, off, none⟩) (k + 1) c] w fun e w' => e = .returned (.agg (bV R).toArray) ∧ Below w.heap.size w w' := by
  obtain ⟨X, hX⟩ : ∃ x, x = w.heap.size := ⟨_, rfl⟩
  obtain ⟨V0, hV0⟩ : ∃ V, V = w.alloc (.cells #[.int .i64 0, .int .i64 0, .int .i64 0, .int .i64 0, .int .i64 0] 26) := ⟨_, rfl⟩
  have HB0 : Hid (Below w.heap.size w V0) := by rw [hV0]; exact (Below.refl _ _).alloc (Nat.le_refl _) _
  have HX0 : Hid (V0.heap[X]? = some (.cells #[.int .i64 0, .int .i64 0, .int .i64 0, .int .i64 0, .int .i64 0] 26 (0, 0))) := by
    rw [hX, hV0]; exact heap_alloc_new w _
  have HXS : Hid (X = w.heap.size ∧ V0.heap.size = X + 1) := by rw [hV0, hX]; exact ⟨rfl, World.size_alloc _ _⟩
  have HCEL := hidT hcel
  have hp0 : ∀ W, Below w.heap.size w W → W.cell? ⟨g, off + 4, none⟩ = some (.int .i64 p0) := fun W hW => by
    have := hcel W hW 0 (by omega) 4 _ rfl
    rw [h0] at this
    simpa using this
  have hpl : ∀ W, Below w.heap.size w W → W.cell? ⟨g, off + k * 6 + 4, none⟩ = some (.int .i64 pl) := fun W hW => by
    have := hcel W hW k (by omega) 4 _ rfl
    rw [hl] at this
    exact this
  have HP0 := hidT hp0
  have HPL := hidT hpl
  have HN := hidT hn
  have H4 := hidT h4
  have HR : Hid (barF ⟨p0, p0, p0, p0, 0⟩ zs = R ∧ R.o = p0 ∧ R.c = pl) := ⟨hR, hRo, hRc⟩
  obtain ⟨e1, e2, e3, e4, e5, e6, e7⟩ := idx_facts k h4
  have e8 : (k : Int) < (k : Int) + 1 := by omega
  clear hcel hp0 hpl h0 hl hR hRo hRc hn h4
  go_enter Tryd.func5, Tryd.ntmps5
  go_upto_region 1 with fail
  simp only [← hX, ← hV0]
  clear hX hV0
  have c0 := HP0.out V0 HB0.out
  have cl := HPL.out V0 HB0.out
  have SO : Hid (∀ W, Below V0.heap.size V0 W → (Below V0.heap.size V0 W ∧ W.cell? ⟨g, off + 4, none⟩ = some (.int .i64 p0) ∧ W.cell? ⟨g, off + k * 6 + 4, none⟩ = some (.int .i64 pl))) := fun W hW => ⟨hW, HP0.out W (HB0.out.trans (hW.mono HB0.out.size)), HPL.out W (HB0.out.trans (hW.mono HB0.out.size))⟩
  have HROW : Hid ((V0.alloc (.cells #[.int .i64 p0, .int .i64 p0, .int .i64 p0, .int .i64 pl, .int .i64 0] 26)).heap[X + 1]? = some (.cells #[.int .i64 p0, .int .i64 p0, .int .i64 p0, .int .i64 pl, .int .i64 0] 26 (0, 0)) ∧ Below V0.heap.size V0 (V0.alloc (.cells #[.int .i64 p0, .int .i64 p0, .int .i64 p0, .int .i64 pl, .int .i64 0] 26))) := by
    rw [← HXS.out.2]
    exact ⟨heap_alloc_new V0 _, (Below.refl _ _).alloc (Nat.le_refl _) _⟩
  go_cut [3] from 5 to 24 (fun s3 wx => s3 = .pointer (some ⟨X + 1, 0, none⟩) ∧ Aside (wx.heap[X + 1]? = some (.cells #[.int .i64 p0, .int .i64 p0, .int .i64 p0, .int .i64 pl, .int .i64 0] 26 (0, 0)) ∧ Below V0.heap.size V0 wx))
  case first =>
    go_region_held3 (fun W => Below V0.heap.size V0 W ∧ W.cell? ⟨g, off + 4, none⟩ = some (.int .i64 p0) ∧ W.cell? ⟨g, off + k * 6 + 4, none⟩ = some (.int .i64 pl))
      ((refine SO.out _ ?_; (repeat' (first | with_reducible assumption | with_reducible refine bal ?_ _ | with_reducible refine Below.setCell ?_ ?_ _ | with_reducible refine Below.drew ?_ | with_reducible exact Below.refl _ _ | with_reducible exact Nat.le_refl _ | with_reducible exact Below.size (by with_reducible assumption) | with_reducible refine Nat.le_succ_of_le ?_))))
      (fail)
    all_goals
      go_wp2_with fail
      go_meet
      case rel => exact ⟨by rw [HXS.out.2], HROW.out.1, HROW.out.2.trans ⟨rfl, rfl, rfl, Nat.le_refl _, fun _ _ => rfl⟩⟩
  case rest =>
  obtain ⟨rfl, HA0⟩ := hcut
  clear c0 cl SO e1 e2 e3 e5 e6 e7 e8 HROW HP0 HPL
  go_wp2_with fail
  go_loopg [4] (k + 1) (fun gg s4 wr => ∃ kk : Nat, kk ≤ k + 1 ∧ k + 1 - kk ≤ gg ∧ s4 = .int .i64 kk ∧ Aside (wr.heap[X + 1]? = some (.cells #[.int .i64 p0, .int .i64 (barF ⟨p0, p0, p0, p0, 0⟩ (zs.take kk)).h, .int .i64 (barF ⟨p0, p0, p0, p0, 0⟩ (zs.take kk)).l, .int .i64 pl, .int .i64 (barF ⟨p0, p0, p0, p0, 0⟩ (zs.take kk)).q] 26 (0, 0)) ∧ Below V0.heap.size V0 wr))
  case atStart => exact ⟨0, Nat.zero_le _, by omega, rfl, HA0.out⟩
  case round =>
    obtain ⟨kk, hkk, hg, rfl, HA⟩ := hrel
    by_cases hlt : kk < k + 1
    · have hltz : (kk : Int) < ((k + 1 : Nat) : Int) := by omega
      have hin1 : ¬ ((kk : Int) < 0) := by omega
      have hlz : kk < zs.length := by rw [HN.out]; exact hlt
      have HBW : Hid (∀ W, Below V0.heap.size V0 W → Below w.heap.size w W) := fun W hW => HB0.out.trans (hW.mono HB0.out.size)
      have hcc := fun W hW => HCEL.out W (HBW.out W hW) kk hlz
      have hbt := barF_take (a := ⟨p0, p0, p0, p0, 0⟩) hlz
      obtain ⟨x, hx⟩ : ∃ x, zs[kk]! = x := ⟨_, rfl⟩
      rw [hx] at hcc hbt
      obtain ⟨x1, x2, x3, x4, x5, x6⟩ := x
      have HCC : Hid (∀ W, Below V0.heap.size V0 W → W.cell? ⟨g, off + kk * 6 + 4, none⟩ = some (.int .i64 x5) ∧ W.cell? ⟨g, off + kk * 6 + 5, none⟩ = some (.int .i64 x6)) := fun W hW => ⟨hcc W hW 4 _ rfl, hcc W hW 5 _ rfl⟩
      have HA2 := hidT HA.out
      generalize barF ⟨p0, p0, p0, p0, 0⟩ (zs.take kk) = acc at *
      obtain ⟨o, h, l, cl, qt⟩ := acc
      have HBT : Hid (barF ⟨p0, p0, p0, p0, 0⟩ (zs.take (kk + 1)) = ⟨o, max h x5, min l x5, x5, wrap64 (qt + x6)⟩) := hbt
      have HWK := hidT (wrapSucc kk (k + 1) hlt (by have := H4.out; omega))
      have HKK : Hid (kk < k + 1 ∧ k + 1 - kk ≤ gk) := ⟨hlt, hg⟩
      have HDK : Hid (decide ((kk : Int) < (k : Int) + 1) = true) := decide_eq_true (by omega)
      clear hcc hx hkk hg hlt hbt HA hlz
      have hrow : wr.heap[X + 1]? = some (.cells #[.int .i64 p0, .int .i64 h, .int .i64 l, .int .i64 pl, .int .i64 qt] 26 (0, 0)) := HA2.out.1
      obtain ⟨d4, d5⟩ := HCC.out wr HA2.out.2
      obtain ⟨r0, r1, r2, r3, r4⟩ := row5 hrow
      obtain ⟨f0, f1, f2, f3, f4⟩ := frz5 hrow
      have HROW := hidT hrow
      clear hrow
      go_upto_region 5 with fail
      go_quiet (fail)
      have HQ : Hid ((wr.drewN nq).heap[X + 1]? = some (.cells #[.int .i64 p0, .int .i64 h, .int .i64 l, .int .i64 pl, .int .i64 qt] 26 (0, 0)) ∧ Below V0.heap.size V0 (wr.drewN nq)) := ⟨HROW.out, HA2.out.2.trans ⟨rfl, rfl, rfl, Nat.le_refl _, fun _ _ => rfl⟩⟩
      generalize wr.drewN nq = wn at *
      clear d4 d5 r0 r1 r2 r3 r4 f0 f1 f2 f3 f4 HROW HA2
      go_upto_if 38 with fail
      simp only [HDK.out]
      go_cut [4] from 31 to 44 (fun s4 wx => s4 = .int .i64 kk ∧ Aside (wx.heap[X + 1]? = some (.cells #[.int .i64 p0, .int .i64 (max h x5), .int .i64 l, .int .i64 pl, .int .i64 qt] 26 (0, 0)) ∧ Below V0.heap.size V0 wx))
      case first =>
        obtain ⟨d4, d5⟩ := HCC.out wn HQ.out.2
        obtain ⟨r0, r1, r2, r3, r4⟩ := row5 HQ.out.1
        obtain ⟨f0, f1, f2, f3, f4⟩ := frz5 HQ.out.1
        have HP := hidT (put1 (b := .int .i64 x5) HQ.out.1)
        have HPB := hidT (HQ.out.2.setCell (p := ⟨X + 1, 1, none⟩) (Nat.le_of_eq HXS.out.2) (.int .i64 x5))
        by_cases hc : h < x5
        · have HM : Hid (max h x5 = x5) := by show _ = _; omega
          go_wp2_with fail
          go_meet
          case rel => exact ⟨rfl, by rw [HM.out]; exact HP.out, HPB.out⟩
        · have HM : Hid (max h x5 = h) := by show _ = _; omega
          go_wp2_with fail
          go_meet
          case rel => exact ⟨rfl, by rw [HM.out]; exact HQ.out.1, HQ.out.2⟩
      case rest =>
      obtain ⟨rfl, HA1⟩ := hcut
      generalize max h x5 = hm at *
      clear HQ
      obtain ⟨d4, d5⟩ := HCC.out wc HA1.out.2
      obtain ⟨r0, r1, r2, r3, r4⟩ := row5 HA1.out.1
      obtain ⟨f0, f1, f2, f3, f4⟩ := frz5 HA1.out.1
      go_upto_region 7 with fail
      go_quiet (fail)
      have HQ : Hid ((wc.drewN nq).heap[X + 1]? = some (.cells #[.int .i64 p0, .int .i64 hm, .int .i64 l, .int .i64 pl, .int .i64 qt] 26 (0, 0)) ∧ Below V0.heap.size V0 (wc.drewN nq)) := ⟨HA1.out.1, HA1.out.2.trans ⟨rfl, rfl, rfl, Nat.le_refl _, fun _ _ => rfl⟩⟩
      generalize wc.drewN nq = wn at *
      clear d4 d5 r0 r1 r2 r3 r4 f0 f1 f2 f3 f4 HA1
      go_upto_if 52 with fail
      go_cut [4] from 45 to 58 (fun s4 wx => s4 = .int .i64 kk ∧ Aside (wx.heap[X + 1]? = some (.cells #[.int .i64 p0, .int .i64 hm, .int .i64 (min l x5), .int .i64 pl, .int .i64 qt] 26 (0, 0)) ∧ Below V0.heap.size V0 wx))
      case first =>
        obtain ⟨d4, d5⟩ := HCC.out wn HQ.out.2
        obtain ⟨r0, r1, r2, r3, r4⟩ := row5 HQ.out.1
        obtain ⟨f0, f1, f2, f3, f4⟩ := frz5 HQ.out.1
        have HP := hidT (put2 (b := .int .i64 x5) HQ.out.1)
        have HPB := hidT (HQ.out.2.setCell (p := ⟨X + 1, 2, none⟩) (Nat.le_of_eq HXS.out.2) (.int .i64 x5))
        by_cases hc : x5 < l
        · have HM : Hid (min l x5 = x5) := by show _ = _; omega
          go_wp2_with fail
          go_meet
          case rel => exact ⟨rfl, by rw [HM.out]; exact HP.out, HPB.out⟩
        · have HM : Hid (min l x5 = l) := by show _ = _; omega
          go_wp2_with fail
          go_meet
          case rel => exact ⟨rfl, by rw [HM.out]; exact HQ.out.1, HQ.out.2⟩
      case rest =>
      obtain ⟨rfl, HA1⟩ := hcut
      generalize min l x5 = lm at *
      clear HQ
      obtain ⟨d4, d5⟩ := HCC.out wc HA1.out.2
      obtain ⟨r0, r1, r2, r3, r4⟩ := row5 HA1.out.1
      obtain ⟨f0, f1, f2, f3, f4⟩ := frz5 HA1.out.1
      go_upto_region 9 with fail
      have HW4 : Hid (IntKind.i64.wrap (qt + x6) = wrap64 (qt + x6)) := IntWalk.i64_left _
      have HP := hidT (put4 (b := .int .i64 (wrap64 (qt + x6))) HA1.out.1)
      have HPB := hidT (HA1.out.2.setCell (p := ⟨X + 1, 4, none⟩) (Nat.le_of_eq HXS.out.2) (.int .i64 (wrap64 (qt + x6))))
      go_region
      all_goals
        have HK : Hid ((wc.setCell ⟨X + 1, 4, none⟩ (.int .i64 (wrap64 (qt + x6)))).heap[X + 1]? = some (.cells #[.int .i64 p0, .int .i64 (barF ⟨p0, p0, p0, p0, 0⟩ (zs.take (kk + 1))).h, .int .i64 (barF ⟨p0, p0, p0, p0, 0⟩ (zs.take (kk + 1))).l, .int .i64 pl, .int .i64 (barF ⟨p0, p0, p0, p0, 0⟩ (zs.take (kk + 1))).q] 26 (0, 0))) := by rw [HBT.out]; exact HP.out
        clear d4 d5 r0 r1 r2 r3 r4 f0 f1 f2 f3 f4
        go_wp2_with fail
        go_roundg (k + 1 - (kk + 1))
        case measure => have := HKK.out; omega
        case rel => exact ⟨kk + 1, HKK.out.1, Nat.le_refl _, by first | exact congrArg (Value.int .i64) HWK.out | go_num | simp, HK.out, HPB.out.drew⟩
    · obtain rfl : kk = k + 1 := by omega
      have hltz : ¬ (((k + 1 : Nat) : Int)) < ((k + 1 : Nat) : Int) := by omega
      have HA2 := hidT HA.out
      clear HA
      have hRR := HR.out
      have k3 := HA2.out.1
      rw [List.take_of_length_le (by rw [HN.out]; exact Nat.le_refl _), hRR.1] at k3
      obtain ⟨o, h, l, cl, qt⟩ := R
      obtain ⟨-, rfl, rfl⟩ := hRR
      have HK3 : Hid (wr.heap[X + 1]? = some (.cells #[.int .i64 o, .int .i64 h, .int .i64 l, .int .i64 cl, .int .i64 qt] 26 (0, 0))) := k3
      have HXR : Hid (wr.heap[X]? = some (.cells #[.int .i64 0, .int .i64 0, .int .i64 0, .int .i64 0, .int .i64 0] 26 (0, 0))) := (HA2.out.2.block X (by rw [HXS.out.2]; omega)).trans HX0.out
      have HBW : Hid (Below w.heap.size w wr) := HB0.out.trans (HA2.out.2.mono HB0.out.size)
      have HXB : Hid (w.heap.size ≤ X) := Nat.le_of_eq HXS.out.1.symm
      obtain ⟨r0, r1, r2, r3, r4⟩ := row5 HK3.out
      clear k3 hkk hg hlt HR HA2 HCEL HX0
      go_upto_region 10 with fail
      refine wp_region_lit ?_
      iterate 1 (refine wpList_step fun K hK => ?_; go_simp; refine hK _ _ ?_; clear hK K; try simp only [Act.put, List.setIfInBounds_toArray, List.set_cons_zero, List.set_cons_succ])
      refine wpList_store_mid rfl 26 (.tmp 2) (.tmp 68) rfl X 0 #[.int .i64 o, .int .i64 h, .int .i64 l, .int .i64 cl, .int .i64 qt] rfl rfl (there5 HXR.out) (by kernel_rfl) (by simp [Value.oneCell']) ?_
      have HS := hidT (stored5 (.int .i64 o) (.int .i64 h) (.int .i64 l) (.int .i64 cl) (.int .i64 qt) HXR.out)
      have HBF : Hid (Below w.heap.size w (wr.setCells X 0 [.int .i64 o, .int .i64 h, .int .i64 l, .int .i64 cl, .int .i64 qt])) := HBW.out.grown (wak.gr_setCells X _ _ _) HBW.out.size (fun k hk => by cases hk; exact HXB.out)
      show wpList _ _ _ _ _ (wr.setCells X 0 [.int .i64 o, .int .i64 h, .int .i64 l, .int .i64 cl, .int .i64 qt])
      generalize wr.setCells X 0 [.int .i64 o, .int .i64 h, .int .i64 l, .int .i64 cl, .int .i64 qt] = W9 at HS HBF ⊢
      clear r0 r1 r2 r3 r4
      obtain ⟨y0, y1, y2, y3, y4⟩ := row5 HS.out
      go_wp2_with fail
      exact bodyPost_ret (v := .agg #[.int .i64 o, .int .i64 h, .int .i64 l, .int .i64 cl, .int .i64 qt]) (by simp [results, Tryd.results5, go_sem, y0, y1, y2, y3, y4]) rfl ⟨rfl, HBF.out⟩
/-- The document's bar of trades. -/
theorem rbarOf_any (v : Value) (zs : List T) (w : World) (h : TL w v zs) (h0 : 0 < zs.length) (hg : zs.any badT = false) (h4 : zs.length ≤ 400) :
    Calls Tryd.prog 5 #[v] w fun e w' => e = .returned (.agg (bV (barOf zs)).toArray) ∧ Below w.heap.size w w' := by
  rcases h with ⟨_, h2⟩ | ⟨b, o, c, rfl, h2, h3, hb, h5⟩
  · rw [h2] at h0; simp at h0
  · cases zs with
    | nil => simp at h0
    | cons t r =>
      have hq := good_mem hg (List.mem_cons_self : t ∈ t :: r)
      have hco := barOf_co (t := t) (r := r)
      refine rbarOf_walk b o c r.length (t :: r) t.price ((t :: r)[r.length]!).price (barOf (t :: r)) w (by simp) (by simp at h4; omega) (by simpa using h2) h3 (fun W hW j hj i v hv => (hW.cell (p := ⟨b, o + j * 6 + i, none⟩) hb).trans (h5 j hj i v hv)) rfl rfl (barF_zero ⟨hq.2.2.1, hq.2.2.2⟩) hco.1 hco.2
end Go.Proofs.YtkbegagpliiljaaDoor.bar
