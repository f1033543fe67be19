/- The document's ReadBytes: bytes that open with 1. -/
import Derived.Test.YtndkabnmffgebaaDoorWTRdB
namespace Go.Proofs.YtndkabnmffgebaaDoor.wir
open Go.RowKit
open Go.Proofs.YtndkabnmffgebaaDoor.wak (OwnM step_append_mid)

set_option maxRecDepth 100000 in
set_option maxHeartbeats 1000000 in
theorem rread_1 (s : ByteArray) (hs : s.size ≤ 2000000) (h2 : ¬ s.size < 2) (hkd : (((bl s)[0]!).toNat : Int) = 1) (w : World) :
    Calls Tryd.prog 9 #[.string s] w fun e w' => e = .returned (rrV (rdC (bl s))) ∧ Below w.heap.size w w' := by
  obtain ⟨R, hR⟩ : ∃ R, R = rdC (bl s) := ⟨_, rfl⟩
  have HR := hidW hR
  rw [← hR]
  clear hR
  obtain ⟨X, hX⟩ : ∃ X, X = w.heap.size := ⟨_, rfl⟩
  have HX := hidW hX
  obtain ⟨V, hV⟩ : ∃ V, V = (w.alloc (.cells #[.int .i64 0, .int .i64 0, .int .i64 0, .int .i64 0, .int .i64 0, .int .i64 0, .int .i64 0, .int .i64 0, .int .i64 0, .int .i64 0, .int .i64 0] 25)).alloc (.cells #[.int .i64 0, .int .i64 0, .int .i64 0, .int .i64 0, .int .i64 0, .int .i64 0, .int .i64 0, .int .i64 0, .int .i64 0, .int .i64 0, .int .i64 0] 25) := ⟨_, rfl⟩
  have HV : Hid (Below X w V ∧ Cmd V X zero11 ∧ Cmd V (X + 1) zero11 ∧ V.heap.size = X + 2) := by
    subst hV hX
    refine ⟨((Below.refl _ _).alloc (Nat.le_refl _) _).alloc (by simp) _, ?_, ?_, by simp⟩
    · have h1 := heap_alloc_new w (.cells #[.int .i64 0, .int .i64 0, .int .i64 0, .int .i64 0, .int .i64 0, .int .i64 0, .int .i64 0, .int .i64 0, .int .i64 0, .int .i64 0, .int .i64 0] 25)
      exact (Lib.alloc_old _ _ w.heap.size (by simp)).trans h1
    · have h1 := heap_alloc_new (w.alloc (.cells #[.int .i64 0, .int .i64 0, .int .i64 0, .int .i64 0, .int .i64 0, .int .i64 0, .int .i64 0, .int .i64 0, .int .i64 0, .int .i64 0, .int .i64 0] 25)) (.cells #[.int .i64 0, .int .i64 0, .int .i64 0, .int .i64 0, .int .i64 0, .int .i64 0, .int .i64 0, .int .i64 0, .int .i64 0, .int .i64 0, .int .i64 0] 25)
      rw [World.size_alloc] at h1
      exact h1
  rw [← hX]
  have HS := hidW hs
  have HBL := hidW (bl_length s)
  have HKD := hidW hkd
  clear hkd
  have hz : ¬ (s.size : Int) < 2 := by omega
  have hz0 : (0 : Int) < (s.size : Int) := by omega
  have hpos : 0 < s.size := by omega
  obtain ⟨b0, hb0⟩ : ∃ b0 : UInt8, b0 = s[0] := ⟨_, rfl⟩
  have HB0 : Hid (b0 = (bl s)[0]!) := hidW (by rw [hb0, bl_get hpos])
  have hw0 : wrap64 (s[0].toNat : Int) = (b0.toNat : Int) := by have := s[0].toNat_lt; rw [hb0]; unfold wrap64; omega
  obtain ⟨V2, hV2⟩ : ∃ V2, V2 = V.setCell ⟨X + 1, 0, none⟩ (.int .i64 (b0.toNat : Int)) := ⟨_, rfl⟩
  have HV2 : Hid (Below X w V2 ∧ Cmd V2 X zero11 ∧ Cmd V2 (X + 1) (zero11.set 0 (b0.toNat : Int)) ∧ V2.heap.size = X + 2) := by
    obtain ⟨h1, h3, h4, h5⟩ := HV.out
    rw [hV2]
    exact ⟨h1.setCell (p := ⟨X + 1, 0, none⟩) (by show X ≤ X + 1; omega) _, (heap_setCell_other V ⟨X + 1, 0, none⟩ X _ (by show X ≠ X + 1; omega)).trans h3, h4.set 0 _, by simpa using h5⟩
  have cx := HV.out.2.2.1.cell (k := 0) (by decide)
  have fx := HV.out.2.2.1.frozen 0
  obtain ⟨i0, hi, hz1, hz2, hz3⟩ := infoI
  have HI := hidW (And.intro hi (And.intro hz1 (And.intro hz2 hz3)))
  obtain ⟨n, hn⟩ : ∃ n, n = s.size := ⟨_, rfl⟩
  obtain ⟨m, hm⟩ : ∃ m, m = n / 2 - 1 := ⟨_, rfl⟩
  have HM : Hid (m = n / 2 - 1 ∧ n = s.size ∧ 2 ≤ n ∧ n ≤ 2000000) := ⟨hm, hn, by omega, by omega⟩
  clear hi hz1 hz2 hz3 h2 hs hm hb0
  go_enter Tryd.func9, Tryd.ntmps9
  go_upto_region 2 with fail
  simp only [← hX]
  simp only [← hV]
  clear hX hV
  go_upto_region 5 with fail
  simp only [hw0]
  simp only [← hV2]
  clear hV2 cx fx hw0
  go_wp2_with fail
  go_loopg [5, 6] m (fun gg s5 s6 wx => ∃ k : Nat, k ≤ m ∧ m - k ≤ gg ∧ s6 = .int .i64 (1 + 2 * (k : Int)) ∧ Aside (OwnM wx (X + 2) 3 1 s5 k (iL (prs (bl s) k)) ∧ Below X w wx ∧ Cmd wx X zero11 ∧ Cmd wx (X + 1) (zero11.set 0 (b0.toNat : Int)) ∧ X + 2 ≤ wx.heap.size))
  case atStart => exact ⟨0, Nat.zero_le _, by omega, rfl, ⟨rfl, .inl ⟨rfl, rfl⟩⟩, HV2.out.1, HV2.out.2.1, HV2.out.2.2.1, by have := HV2.out.2.2.2; omega⟩
  case round =>
    obtain ⟨k, hk, hg, rfl, HA⟩ := hrel
    have HA2 := hidW HA.out
    clear HA
    by_cases hlt : k < m
    · have hb : 2 * k + 4 ≤ s.size := by have := HM.out; omega
      have hks : 2 * k ≤ 2000000 := by have := HM.out; omega
      have hc1 : 1 + 2 * (k : Int) + 2 < (s.size : Int) := by omega
      have hw1 : wrap64 (1 + 2 * (k : Int) + 2) = 1 + 2 * (k : Int) + 2 := by unfold wrap64; omega
      have hw2 : wrap64 (1 + 2 * (k : Int) + 1) = 1 + 2 * (k : Int) + 1 := by unfold wrap64; omega
      have hw3 : IntKind.i64.wrap (1 + 2 * (k : Int) + 1) = 1 + 2 * (k : Int) + 1 := by rw [IntKind.wrap_i64]; omega
      have hu1 : ∀ u : UInt8, IntKind.i64.wrap (u.toNat : Int) = (u.toNat : Int) := fun u => by have := u.toNat_lt; rw [IntKind.wrap_i64]; omega
      have hu2 : ∀ u : UInt8, IntKind.i64.wrap ((u.toNat : Int) * 256) = (u.toNat : Int) * 256 := fun u => by have := u.toNat_lt; rw [IntKind.wrap_i64]; omega
      have hu3 : ∀ u v : UInt8, IntKind.i64.wrap ((u.toNat : Int) * 256 + (v.toNat : Int)) = (u.toNat : Int) * 256 + (v.toNat : Int) := fun u v => by have := u.toNat_lt; have := v.toNat_lt; rw [IntKind.wrap_i64]; omega
      have hi0 : (0 : Int) ≤ 1 + 2 * (k : Int) := by omega
      have hi1 : 1 + 2 * (k : Int) < (s.size : Int) := by omega
      have hi2 : (0 : Int) ≤ 1 + 2 * (k : Int) + 1 := by omega
      have hi3 : 1 + 2 * (k : Int) + 1 < (s.size : Int) := by omega
      go_upto_region 9 with fail
      obtain ⟨q, c, hv⟩ := OwnM.form HA2.out.1
      subst hv
      have hk0 : k + 1 ≤ maxLen := by unfold maxLen; omega
      have HSZ : Hid (2 * k + 4 ≤ s.size ∧ k < m ∧ m - k ≤ gk) := ⟨hb, hlt, hg⟩
      have HKL := hidW hk0
      have hw4 : wrap64 (1 + 2 * (k : Int) + 2) = 1 + 2 * ((k + 1 : Nat) : Int) := by unfold wrap64; omega
      have HW4 := hidW hw4
      have hval : ∀ (h1 : (1 + 2 * (k : Int)).toNat < s.size) (h2 : (1 + 2 * (k : Int) + 1).toNat < s.size), Value.int .i64 (((s[(1 + 2 * (k : Int)).toNat]'h1).toNat : Int) * 256 + ((s[(1 + 2 * (k : Int) + 1).toNat]'h2).toNat : Int)) = .int .i64 (nb2 (bl s) (1 + 2 * k)) := fun h1 h2 => by
        have t1 : (1 + 2 * (k : Int)).toNat = 1 + 2 * k := by omega
        have t2 : (1 + 2 * (k : Int) + 1).toNat = 1 + 2 * k + 1 := by omega
        rw [bl_get, bl_get, t1, t2]
        rfl
      clear hk0 hw4 hb hks hlt hg hk
      go_region_law (refine step_append_mid _ rfl (.tmp 23) (.tmp 35) 52 rfl (X + 2) 3 i0 (.int .i64 0) 1 8 (by kernel_rfl) HI.out.1 HI.out.2.1 HI.out.2.2.1 HI.out.2.2.2 rfl (.slice q k c) k (iL (prs (bl s) k)) (by simp [Act.eval]) (ownm_on HA2.out.1) ⟨wr.heap.size, 0, none⟩ 1 1 _ (by simp [Act.eval]) rfl cell1d (fun u hu => by simp at hu; subst hu; rfl) HKL.out (by have := HSZ.out; have := HM.out; omega) (by show X + 2 ≤ (World.alloc wr _).heap.size; rw [World.size_alloc]; have := HA2.out.2.2.2.2; omega) ?_; intro v' w' hO' hgr hat)
      all_goals (
        try rw [hval] at hO'
        have hO2 : OwnM w' (X + 2) 3 1 v' (k + 1) (iL (prs (bl s) (k + 1))) := (by
          rw [prs_succ, iL_append]
          exact hO')
        have hsz : wr.heap.size + 1 ≤ w'.heap.size := (by have := hgr.size; simp at this; exact this)
        have HF : Hid (OwnM w' (X + 2) 3 1 v' (k + 1) (iL (prs (bl s) (k + 1))) ∧ Below X w w' ∧ Cmd w' X zero11 ∧ Cmd w' (X + 1) (zero11.set 0 (b0.toNat : Int)) ∧ X + 2 ≤ w'.heap.size) := (by
          obtain ⟨f1, f2, f3, f4, f5⟩ := HA2.out
          have hfar : ∀ g, g < X + 2 → some g ≠ (Value.slice q k c).ownBlock := fun g hg he => (by have := (f1.lt g he.symm).1; omega)
          have hb1 : Below (X + 2) wr w' := ((Below.refl (X + 2) wr).alloc f5 _).drew.grown hgr (by show X + 2 ≤ (World.alloc wr _).heap.size; rw [World.size_alloc]; omega) (fun g he => (f1.lt g he).1)
          exact ⟨hO2, f2.trans (hb1.mono (by omega)), (hb1.block X (by omega)).trans f3, (hb1.block (X + 1) (by omega)).trans f4, by omega⟩)
        clear hO' hgr hat hO2 hsz
        go_wp2_with fail
        try go_simp
        go_roundg (m - (k + 1))
        case measure => have := HSZ.out; omega
        case rel => exact ⟨k + 1, by have := HSZ.out; omega, Nat.le_refl _, by first | exact congrArg (Value.int .i64) HW4.out | go_num, HF.out⟩)
    · obtain rfl : k = m := by omega
      have hc1 : ¬ 1 + 2 * (k : Int) + 2 < (s.size : Int) := by have := HM.out; omega
      have hw1 : wrap64 (1 + 2 * (k : Int) + 2) = 1 + 2 * (k : Int) + 2 := by have := HM.out; unfold wrap64; omega
      clear hk hg
      obtain ⟨q, c, hv⟩ := OwnM.form HA2.out.1
      subst hv
      have hb00 : (0 : Int) ≤ (b0.toNat : Int) ∧ (b0.toNat : Int) ≤ 255 := by have := b0.toNat_lt; omega
      obtain ⟨kb, hkb⟩ : ∃ kb, kb = (b0.toNat : Int) := ⟨_, rfl⟩
      have HKB : Hid (kb = (b0.toNat : Int) ∧ ((((bl s)[0]!).toNat : Int) = kb)) := hidW ⟨hkb, by rw [hkb, ← HB0.out]⟩
      rw [← hkb] at HA2
      simp only [← hkb]
      obtain ⟨ys, hys⟩ : ∃ ys, ys = rd (bl s) := ⟨_, rfl⟩
      have HYS := hidW hys
      have HRI : Hid (R = if cchk ys = 0 ∧ enc ys = bl s then some ys else none) := hidW (by rw [HR.out, hys]; rfl)
      have HNO : Hid (¬ (n = lenE kb ∧ (kb = 1 ∨ kb = 2 ∨ kb = 3 ∨ kb = 4 ∨ kb = 5)) → R = none) := hidW (fun h => by
        rw [HR.out]
        refine rdC_no ?_
        rw [HKB.out.2, bl_length, ← HM.out.2.1]
        exact h)
      have HCM : Cmd wr (X + 1) (zero11.set 0 kb) := HA2.out.2.2.2.1
      have ac0 : wr.cell? ⟨X + 1, 0, none⟩ = some (.int .i64 kb) := HCM.cell (k := 0) (by simp [zero11])
      clear hys hb00 hkb
      by_cases h1 : kb = 1
      · subst h1
        by_cases e2 : n = 18
        · have hs18 : (s.size : Int) = 18 := by have := HM.out; omega
          obtain rfl : k = 8 := by have := HM.out; omega
          obtain ⟨g, off, hq⟩ : ∃ g off, q = some ⟨g, off, none⟩ := by
            rcases HA2.out.1.2 with ⟨_, h0⟩ | ⟨g, off, cap, cur, hv, _⟩
            · omega
            · cases hv; exact ⟨g, off, rfl⟩
          subst hq
          have HLC := hidW (OwnM.cells HA2.out.1).1
          have HG : Hid (g ≠ X + 1) := hidW (by have := (HA2.out.1.lt g rfl).1; omega)
          obtain ⟨v0, hv0⟩ : ∃ v, v = nb2 (bl s) 1 := ⟨_, rfl⟩
          have l0 : wr.cell? ⟨g, off, none⟩ = some (.int .i64 v0) := by rw [hv0]; exact HLC.out 0 _ (prs_at (bl s) (by decide))
          obtain ⟨v1, hv1⟩ : ∃ v, v = nb2 (bl s) 3 := ⟨_, rfl⟩
          have l1 : wr.cell? ⟨g, off + 1, none⟩ = some (.int .i64 v1) := by rw [hv1]; exact HLC.out 1 _ (prs_at (bl s) (by decide))
          obtain ⟨v2, hv2⟩ : ∃ v, v = nb2 (bl s) 5 := ⟨_, rfl⟩
          have l2 : wr.cell? ⟨g, off + 2, none⟩ = some (.int .i64 v2) := by rw [hv2]; exact HLC.out 2 _ (prs_at (bl s) (by decide))
          obtain ⟨v3, hv3⟩ : ∃ v, v = nb2 (bl s) 7 := ⟨_, rfl⟩
          have l3 : wr.cell? ⟨g, off + 3, none⟩ = some (.int .i64 v3) := by rw [hv3]; exact HLC.out 3 _ (prs_at (bl s) (by decide))
          obtain ⟨v4, hv4⟩ : ∃ v, v = nb2 (bl s) 9 := ⟨_, rfl⟩
          have l4 : wr.cell? ⟨g, off + 4, none⟩ = some (.int .i64 v4) := by rw [hv4]; exact HLC.out 4 _ (prs_at (bl s) (by decide))
          obtain ⟨v5, hv5⟩ : ∃ v, v = nb2 (bl s) 11 := ⟨_, rfl⟩
          have l5 : wr.cell? ⟨g, off + 5, none⟩ = some (.int .i64 v5) := by rw [hv5]; exact HLC.out 5 _ (prs_at (bl s) (by decide))
          obtain ⟨v6, hv6⟩ : ∃ v, v = nb2 (bl s) 13 := ⟨_, rfl⟩
          have l6 : wr.cell? ⟨g, off + 6, none⟩ = some (.int .i64 v6) := by rw [hv6]; exact HLC.out 6 _ (prs_at (bl s) (by decide))
          obtain ⟨v7, hv7⟩ : ∃ v, v = nb2 (bl s) 15 := ⟨_, rfl⟩
          have l7 : wr.cell? ⟨g, off + 7, none⟩ = some (.int .i64 v7) := by rw [hv7]; exact HLC.out 7 _ (prs_at (bl s) (by decide))
          have x1 := HCM.cell (k := 1) (by simp [zero11])
          have f1 := HCM.frozen 1
          have x2 := HCM.cell (k := 2) (by simp [zero11])
          have f2 := HCM.frozen 2
          have x3 := HCM.cell (k := 3) (by simp [zero11])
          have f3 := HCM.frozen 3
          have x4 := HCM.cell (k := 4) (by simp [zero11])
          have f4 := HCM.frozen 4
          have x5 := HCM.cell (k := 5) (by simp [zero11])
          have f5 := HCM.frozen 5
          have x6 := HCM.cell (k := 6) (by simp [zero11])
          have f6 := HCM.frozen 6
          have x7 := HCM.cell (k := 7) (by simp [zero11])
          have f7 := HCM.frozen 7
          have x8 := HCM.cell (k := 8) (by simp [zero11])
          have f8 := HCM.frozen 8
          have HY1 : Hid (ys = [1, v0, v1, v2, v3, v4, v5, v6, v7, 0, 0]) := hidW (by rw [HYS.out, rd_one (l := bl s) (by rw [bl_length]; have := HM.out; omega) HKB.out.2, hv0, hv1, hv2, hv3, hv4, hv5, hv6, hv7])
          have HT : Hid (Cmd ((((((((wr.setCell ⟨X + 1, 1, none⟩ (.int .i64 v0)).setCell ⟨X + 1, 2, none⟩ (.int .i64 v1)).setCell ⟨X + 1, 3, none⟩ (.int .i64 v2)).setCell ⟨X + 1, 4, none⟩ (.int .i64 v3)).setCell ⟨X + 1, 5, none⟩ (.int .i64 v4)).setCell ⟨X + 1, 6, none⟩ (.int .i64 v5)).setCell ⟨X + 1, 7, none⟩ (.int .i64 v6)).setCell ⟨X + 1, 8, none⟩ (.int .i64 v7)) (X + 1) ys ∧ Cmd ((((((((wr.setCell ⟨X + 1, 1, none⟩ (.int .i64 v0)).setCell ⟨X + 1, 2, none⟩ (.int .i64 v1)).setCell ⟨X + 1, 3, none⟩ (.int .i64 v2)).setCell ⟨X + 1, 4, none⟩ (.int .i64 v3)).setCell ⟨X + 1, 5, none⟩ (.int .i64 v4)).setCell ⟨X + 1, 6, none⟩ (.int .i64 v5)).setCell ⟨X + 1, 7, none⟩ (.int .i64 v6)).setCell ⟨X + 1, 8, none⟩ (.int .i64 v7)) X zero11 ∧ Below X w ((((((((wr.setCell ⟨X + 1, 1, none⟩ (.int .i64 v0)).setCell ⟨X + 1, 2, none⟩ (.int .i64 v1)).setCell ⟨X + 1, 3, none⟩ (.int .i64 v2)).setCell ⟨X + 1, 4, none⟩ (.int .i64 v3)).setCell ⟨X + 1, 5, none⟩ (.int .i64 v4)).setCell ⟨X + 1, 6, none⟩ (.int .i64 v5)).setCell ⟨X + 1, 7, none⟩ (.int .i64 v6)).setCell ⟨X + 1, 8, none⟩ (.int .i64 v7)) ∧ ys.length = 11) := by
            rw [HY1.out]
            refine ⟨((((((((HCM.set 1 v0).set 2 v1).set 3 v2).set 4 v3).set 5 v4).set 6 v5).set 7 v6).set 8 v7), ?_, ?_, rfl⟩
            · refine (heap_setCell_other _ ⟨X + 1, 8, none⟩ X _ (by show X ≠ X + 1; omega)).trans ?_; refine (heap_setCell_other _ ⟨X + 1, 7, none⟩ X _ (by show X ≠ X + 1; omega)).trans ?_; refine (heap_setCell_other _ ⟨X + 1, 6, none⟩ X _ (by show X ≠ X + 1; omega)).trans ?_; refine (heap_setCell_other _ ⟨X + 1, 5, none⟩ X _ (by show X ≠ X + 1; omega)).trans ?_; refine (heap_setCell_other _ ⟨X + 1, 4, none⟩ X _ (by show X ≠ X + 1; omega)).trans ?_; refine (heap_setCell_other _ ⟨X + 1, 3, none⟩ X _ (by show X ≠ X + 1; omega)).trans ?_; refine (heap_setCell_other _ ⟨X + 1, 2, none⟩ X _ (by show X ≠ X + 1; omega)).trans ?_; refine (heap_setCell_other _ ⟨X + 1, 1, none⟩ X _ (by show X ≠ X + 1; omega)).trans ?_; exact HA2.out.2.2.1
            · exact ((((((((HA2.out.2.1.setCell (p := ⟨X + 1, 1, none⟩) (by show X ≤ X + 1; omega) _).setCell (p := ⟨X + 1, 2, none⟩) (by show X ≤ X + 1; omega) _).setCell (p := ⟨X + 1, 3, none⟩) (by show X ≤ X + 1; omega) _).setCell (p := ⟨X + 1, 4, none⟩) (by show X ≤ X + 1; omega) _).setCell (p := ⟨X + 1, 5, none⟩) (by show X ≤ X + 1; omega) _).setCell (p := ⟨X + 1, 6, none⟩) (by show X ≤ X + 1; omega) _).setCell (p := ⟨X + 1, 7, none⟩) (by show X ≤ X + 1; omega) _).setCell (p := ⟨X + 1, 8, none⟩) (by show X ≤ X + 1; omega) _)
          have SO : Hid (∀ W : World, W.heap[g]? = wr.heap[g]? → (W.cell? ⟨g, off, none⟩ = some (.int .i64 v0) ∧ W.cell? ⟨g, off + 1, none⟩ = some (.int .i64 v1) ∧ W.cell? ⟨g, off + 2, none⟩ = some (.int .i64 v2) ∧ W.cell? ⟨g, off + 3, none⟩ = some (.int .i64 v3) ∧ W.cell? ⟨g, off + 4, none⟩ = some (.int .i64 v4) ∧ W.cell? ⟨g, off + 5, none⟩ = some (.int .i64 v5) ∧ W.cell? ⟨g, off + 6, none⟩ = some (.int .i64 v6) ∧ W.cell? ⟨g, off + 7, none⟩ = some (.int .i64 v7))) := fun W h => by simp only [World.cell?, h]; exact ⟨l0, l1, l2, l3, l4, l5, l6, l7⟩
          clear hv0 hv1 hv2 hv3 hv4 hv5 hv6 hv7 HCM HLC
          go_upto_region 11 with fail
          go_region_held3 (fun W => W.cell? ⟨g, off, none⟩ = some (.int .i64 v0) ∧ W.cell? ⟨g, off + 1, none⟩ = some (.int .i64 v1) ∧ W.cell? ⟨g, off + 2, none⟩ = some (.int .i64 v2) ∧ W.cell? ⟨g, off + 3, none⟩ = some (.int .i64 v3) ∧ W.cell? ⟨g, off + 4, none⟩ = some (.int .i64 v4) ∧ W.cell? ⟨g, off + 5, none⟩ = some (.int .i64 v5) ∧ W.cell? ⟨g, off + 6, none⟩ = some (.int .i64 v6) ∧ W.cell? ⟨g, off + 7, none⟩ = some (.int .i64 v7)) ((refine SO.out _ ?_; (repeat' (first | with_reducible exact rfl | with_reducible assumption | with_reducible refine hg_set ?_ HG.out | with_reducible refine hg_drew ?_ | with_reducible refine hg_drewN ?_)); done)) (fail)
          all_goals (
            try go_simp
            have HTD : Hid (Cmd (((((((((wr.setCell ⟨X + 1, 1, none⟩ (.int .i64 v0)).setCell ⟨X + 1, 2, none⟩ (.int .i64 v1)).setCell ⟨X + 1, 3, none⟩ (.int .i64 v2)).setCell ⟨X + 1, 4, none⟩ (.int .i64 v3)).setCell ⟨X + 1, 5, none⟩ (.int .i64 v4)).setCell ⟨X + 1, 6, none⟩ (.int .i64 v5)).setCell ⟨X + 1, 7, none⟩ (.int .i64 v6)).setCell ⟨X + 1, 8, none⟩ (.int .i64 v7)).drew) (X + 1) ys ∧ Cmd (((((((((wr.setCell ⟨X + 1, 1, none⟩ (.int .i64 v0)).setCell ⟨X + 1, 2, none⟩ (.int .i64 v1)).setCell ⟨X + 1, 3, none⟩ (.int .i64 v2)).setCell ⟨X + 1, 4, none⟩ (.int .i64 v3)).setCell ⟨X + 1, 5, none⟩ (.int .i64 v4)).setCell ⟨X + 1, 6, none⟩ (.int .i64 v5)).setCell ⟨X + 1, 7, none⟩ (.int .i64 v6)).setCell ⟨X + 1, 8, none⟩ (.int .i64 v7)).drew) X zero11 ∧ Below X w (((((((((wr.setCell ⟨X + 1, 1, none⟩ (.int .i64 v0)).setCell ⟨X + 1, 2, none⟩ (.int .i64 v1)).setCell ⟨X + 1, 3, none⟩ (.int .i64 v2)).setCell ⟨X + 1, 4, none⟩ (.int .i64 v3)).setCell ⟨X + 1, 5, none⟩ (.int .i64 v4)).setCell ⟨X + 1, 6, none⟩ (.int .i64 v5)).setCell ⟨X + 1, 7, none⟩ (.int .i64 v6)).setCell ⟨X + 1, 8, none⟩ (.int .i64 v7)).drew) ∧ ys.length = 11) := ⟨HT.out.1.drew, HT.out.2.1.drew, HT.out.2.2.1.drew, HT.out.2.2.2⟩
            generalize ((((((((wr.setCell ⟨X + 1, 1, none⟩ (.int .i64 v0)).setCell ⟨X + 1, 2, none⟩ (.int .i64 v1)).setCell ⟨X + 1, 3, none⟩ (.int .i64 v2)).setCell ⟨X + 1, 4, none⟩ (.int .i64 v3)).setCell ⟨X + 1, 5, none⟩ (.int .i64 v4)).setCell ⟨X + 1, 6, none⟩ (.int .i64 v5)).setCell ⟨X + 1, 7, none⟩ (.int .i64 v6)).setCell ⟨X + 1, 8, none⟩ (.int .i64 v7)).drew = W8 at HTD ⊢
            have HT := HTD
            clear SO l0 l1 l2 l3 l4 l5 l6 l7 x1 f1 x2 f2 x3 f3 x4 f4 x5 f5 x6 f6 x7 f7 x8 f8 ac0
            obtain ⟨c0, c1, c2, c3, c4, c5, c6, c7, c8, c9, c10, hcs⟩ := list11' HT.out.2.2.2
            obtain ⟨E, hE⟩ : ∃ E, E = cchk ys := ⟨_, rfl⟩
            have HE := hidW hE
            have HYL := hidW hcs
            have HCC : Hid (∀ W, Calls Tryd.prog 4 #[.agg #[.int .i64 c0, .int .i64 c1, .int .i64 c2, .int .i64 c3, .int .i64 c4, .int .i64 c5, .int .i64 c6, .int .i64 c7, .int .i64 c8, .int .i64 c9, .int .i64 c10]] W fun e w' => e = .returned (.int .i64 E) ∧ Below W.heap.size W w') := fun W => by
              have h := rcommand_any ys HT.out.2.2.2 W
              rw [← hE, hcs] at h
              exact h
            obtain ⟨z0, z1, z2, z3, z4, z5, z6, z7, z8, z9, z10⟩ := Cmd.row (b := X + 1) (w := W8) (by have h := HT.out.1; rw [hcs] at h; exact h)
            clear hE hcs
            by_cases hc : E = 0
            rotate_left
            · have HN : Hid (R = none) := hidW (by rw [HRI.out, if_neg (fun a => hc (HE.out.trans a.1))])
              go_upto_region 21 with (go_at_call 4; refine (HCC.out _).mono ?_; rintro e w1 ⟨rfl, hb1⟩)
              have HB1 : Hid (Cmd w1 X zero11 ∧ Below X w w1) := ⟨HT.out.2.1.below hb1, HT.out.2.2.1.trans (hb1.mono (by have := HT.out.2.2.1.size; have := HX.out; omega))⟩
              refine wp_region_lit ?_
              iterate 1 (refine wpList_step fun K hK => ?_; go_simp; refine hK _ _ ?_; clear hK K; try simp only [Act.put, List.setIfInBounds_toArray, List.set_cons_zero, List.set_cons_succ])
              refine wpList_store_mid rfl 25 (.tmp 2) (.tmp 143) rfl X 0 (iL zero11).toArray rfl rfl (store11 HB1.out.1 rfl rfl) (by kernel_rfl) (one11 zero11) ?_
              show wpList _ _ _ _ _ (w1.setCells X 0 (iL zero11))
              have HC : Hid (Cmd (w1.setCells X 0 (iL zero11)) X zero11 ∧ Below X w (w1.setCells X 0 (iL zero11))) :=
                ⟨HB1.out.1.stored zero11 rfl, HB1.out.2.grown (wak.gr_setCells X _ _ _) (by have := HX.out; have := HB1.out.2.size; omega) (fun k hk => by cases hk; omega)⟩
              generalize w1.setCells X 0 (iL zero11) = W9 at HC ⊢
              obtain ⟨y0, y1, y2, y3, y4, y5, y6, y7, y8, y9, y10⟩ := Cmd.row (b := X) (w := W9) HC.out.1
              go_wp2_with fail
              refine bodyPost_ret (v := .tuple #[.agg #[.int .i64 0, .int .i64 0, .int .i64 0, .int .i64 0, .int .i64 0, .int .i64 0, .int .i64 0, .int .i64 0, .int .i64 0, .int .i64 0, .int .i64 0], .bool false]) ?_ rfl ⟨by rw [HN.out]; rfl, HC.out.2⟩
              simp [results, Tryd.results9, go_sem, y0, y1, y2, y3, y4, y5, y6, y7, y8, y9, y10]
            · subst hc
              obtain ⟨T, hT⟩ : ∃ T, T = tx (enc ys) := ⟨_, rfl⟩
              have HT2 := hidW hT
              have HBY : Hid (∀ W, Calls Tryd.prog 7 #[.agg #[.int .i64 c0, .int .i64 c1, .int .i64 c2, .int .i64 c3, .int .i64 c4, .int .i64 c5, .int .i64 c6, .int .i64 c7, .int .i64 c8, .int .i64 c9, .int .i64 c10]] W fun e w' => e = .returned (.string T) ∧ Below W.heap.size W w') := fun W => by
                have h := rbytes_any ys HT.out.2.2.2 HE.out.symm W
                rw [← hT, HYL.out] at h
                exact h
              clear hT
              go_upto_region 22 with (go_at_call 4; refine (HCC.out _).mono ?_; rintro e w1 ⟨rfl, hb1⟩)
              have HB1 : Hid (Cmd w1 X zero11 ∧ Below X w w1 ∧ Cmd w1 (X + 1) ys) := ⟨HT.out.2.1.below hb1, HT.out.2.2.1.trans (hb1.mono (by have := HT.out.2.2.1.size; have := HX.out; omega)), HT.out.1.below hb1⟩
              clear z0 z1 z2 z3 z4 z5 z6 z7 z8 z9 z10 hb1 HCC
              obtain ⟨z0, z1, z2, z3, z4, z5, z6, z7, z8, z9, z10⟩ := Cmd.row (b := X + 1) (w := w1) (by have h := HB1.out.2.2; rw [HYL.out] at h; exact h)
              go_upto_region 23 with (go_at_call 7; refine (HBY.out _).mono ?_; rintro e w2 ⟨rfl, hb2⟩)
              have HB2 : Hid (Cmd w2 X zero11 ∧ Below X w w2 ∧ Cmd w2 (X + 1) ys) := ⟨HB1.out.1.below hb2, HB1.out.2.1.trans (hb2.mono (by have := HB1.out.2.1.size; have := HX.out; omega)), HB1.out.2.2.below hb2⟩
              clear z0 z1 z2 z3 z4 z5 z6 z7 z8 z9 z10 hb2 HBY
              by_cases hTs : T = s
              rotate_left
              · have HN : Hid (R = none) := hidW (by rw [HRI.out, if_neg (fun a => hTs (HT2.out.trans ((congrArg tx a.2).trans (tx_bl s))))])
                have hne := neq_text hTs
                go_upto_region 24 with fail
                refine wp_region_lit ?_
                iterate 1 (refine wpList_step fun K hK => ?_; go_simp; refine hK _ _ ?_; clear hK K; try simp only [Act.put, List.setIfInBounds_toArray, List.set_cons_zero, List.set_cons_succ])
                refine wpList_store_mid rfl 25 (.tmp 2) (.tmp 149) rfl X 0 (iL zero11).toArray rfl rfl (store11 HB2.out.1 rfl rfl) (by kernel_rfl) (one11 zero11) ?_
                show wpList _ _ _ _ _ (w2.setCells X 0 (iL zero11))
                have HC : Hid (Cmd (w2.setCells X 0 (iL zero11)) X zero11 ∧ Below X w (w2.setCells X 0 (iL zero11))) :=
                  ⟨HB2.out.1.stored zero11 rfl, HB2.out.2.1.grown (wak.gr_setCells X _ _ _) (by have := HX.out; have := HB2.out.2.1.size; omega) (fun k hk => by cases hk; omega)⟩
                generalize w2.setCells X 0 (iL zero11) = W9 at HC ⊢
                obtain ⟨y0, y1, y2, y3, y4, y5, y6, y7, y8, y9, y10⟩ := Cmd.row (b := X) (w := W9) HC.out.1
                go_wp2_with fail
                refine bodyPost_ret (v := .tuple #[.agg #[.int .i64 0, .int .i64 0, .int .i64 0, .int .i64 0, .int .i64 0, .int .i64 0, .int .i64 0, .int .i64 0, .int .i64 0, .int .i64 0, .int .i64 0], .bool false]) ?_ rfl ⟨by rw [HN.out]; rfl, HC.out.2⟩
                simp [results, Tryd.results9, go_sem, y0, y1, y2, y3, y4, y5, y6, y7, y8, y9, y10]
              · have HS2 : Hid (R = some ys) := hidW (by rw [HRI.out, if_pos ⟨HE.out.symm, by have := HT2.out; rw [hTs] at this; rw [this, bl_tx]⟩])
                have hne : (T.toList == s.toList) = true := by rw [hTs]; exact beq_self_eq_true _
                clear hTs
                go_upto_region 25 with fail
                refine wp_region_lit ?_
                refine wpList_load_mid rfl 25 (.tmp 4) rfl (X + 1) 0 rfl (iL ys) _ HB2.out.2.2.range Tryd.underlying25 rfl (by rw [iL_length, HT.out.2.2.2]; kernel_rfl) ?_
                simp only [Act.put, List.setIfInBounds_toArray, List.set_cons_zero, List.set_cons_succ]
                refine wpList_store_mid rfl 25 (.tmp 2) (.tmp 150) rfl X 0 (iL ys).toArray rfl rfl (store11 HB2.out.1 HT.out.2.2.2 rfl) (by rw [List.size_toArray, iL_length, HT.out.2.2.2]; kernel_rfl) (one11 ys) ?_
                show wpList _ _ _ _ _ (w2.setCells X 0 (iL ys))
                have HC : Hid (Cmd (w2.setCells X 0 (iL ys)) X ys ∧ Below X w (w2.setCells X 0 (iL ys))) :=
                  ⟨HB2.out.1.stored ys (by rw [HT.out.2.2.2]; rfl), HB2.out.2.1.grown (wak.gr_setCells X _ _ _) (by have := HX.out; have := HB2.out.2.1.size; omega) (fun k hk => by cases hk; omega)⟩
                generalize w2.setCells X 0 (iL ys) = W9 at HC ⊢
                obtain ⟨y0, y1, y2, y3, y4, y5, y6, y7, y8, y9, y10⟩ := Cmd.row (b := X) (w := W9) (by have h := HC.out.1; rw [HYL.out] at h; exact h)
                have HV : Hid (rrV R = .tuple #[.agg #[.int .i64 c0, .int .i64 c1, .int .i64 c2, .int .i64 c3, .int .i64 c4, .int .i64 c5, .int .i64 c6, .int .i64 c7, .int .i64 c8, .int .i64 c9, .int .i64 c10], .bool true]) := hidW (by rw [HS2.out, HYL.out]; rfl)
                go_wp2_with fail
                refine bodyPost_ret (v := .tuple #[.agg #[.int .i64 c0, .int .i64 c1, .int .i64 c2, .int .i64 c3, .int .i64 c4, .int .i64 c5, .int .i64 c6, .int .i64 c7, .int .i64 c8, .int .i64 c9, .int .i64 c10], .bool true]) ?_ rfl ⟨congrArg Ending.returned HV.out.symm, HC.out.2⟩
                simp [results, Tryd.results9, go_sem, y0, y1, y2, y3, y4, y5, y6, y7, y8, y9, y10])
        · have hs18 : ¬ (s.size : Int) = 18 := by have := HM.out; omega
          have HN : Hid (R = none) := HNO.out (by rintro ⟨h, -⟩; exact e2 h)
          go_upto_region 19 with fail
          refine wp_region_lit ?_
          iterate 1 (refine wpList_step fun K hK => ?_; go_simp; refine hK _ _ ?_; clear hK K; try simp only [Act.put, List.setIfInBounds_toArray, List.set_cons_zero, List.set_cons_succ])
          refine wpList_store_mid rfl 25 (.tmp 2) (.tmp 139) rfl X 0 (iL zero11).toArray rfl rfl (store11 HA2.out.2.2.1 rfl rfl) (by kernel_rfl) (one11 zero11) ?_
          show wpList _ _ _ _ _ (wr.setCells X 0 (iL zero11))
          have HC : Hid (Cmd (wr.setCells X 0 (iL zero11)) X zero11 ∧ Below X w (wr.setCells X 0 (iL zero11))) :=
            ⟨HA2.out.2.2.1.stored zero11 rfl, HA2.out.2.1.grown (wak.gr_setCells X _ _ _) (by have := HX.out; have := HA2.out.2.1.size; omega) (fun k hk => by cases hk; omega)⟩
          generalize wr.setCells X 0 (iL zero11) = W9 at HC ⊢
          obtain ⟨y0, y1, y2, y3, y4, y5, y6, y7, y8, y9, y10⟩ := Cmd.row (b := X) (w := W9) HC.out.1
          go_wp2_with fail
          refine bodyPost_ret (v := .tuple #[.agg #[.int .i64 0, .int .i64 0, .int .i64 0, .int .i64 0, .int .i64 0, .int .i64 0, .int .i64 0, .int .i64 0, .int .i64 0, .int .i64 0, .int .i64 0], .bool false]) ?_ rfl ⟨by rw [HN.out]; rfl, HC.out.2⟩
          simp [results, Tryd.results9, go_sem, y0, y1, y2, y3, y4, y5, y6, y7, y8, y9, y10]
      by_cases h2 : kb = 2
      · subst h2
        by_cases e2 : n = 4
        · have hs18 : (s.size : Int) = 4 := by have := HM.out; omega
          exact absurd (HKB.out.2.symm.trans HKD.out) (by decide)
        · have hs18 : ¬ (s.size : Int) = 4 := by have := HM.out; omega
          have HN : Hid (R = none) := HNO.out (by rintro ⟨h, -⟩; exact e2 h)
          go_upto_region 19 with fail
          refine wp_region_lit ?_
          iterate 1 (refine wpList_step fun K hK => ?_; go_simp; refine hK _ _ ?_; clear hK K; try simp only [Act.put, List.setIfInBounds_toArray, List.set_cons_zero, List.set_cons_succ])
          refine wpList_store_mid rfl 25 (.tmp 2) (.tmp 139) rfl X 0 (iL zero11).toArray rfl rfl (store11 HA2.out.2.2.1 rfl rfl) (by kernel_rfl) (one11 zero11) ?_
          show wpList _ _ _ _ _ (wr.setCells X 0 (iL zero11))
          have HC : Hid (Cmd (wr.setCells X 0 (iL zero11)) X zero11 ∧ Below X w (wr.setCells X 0 (iL zero11))) :=
            ⟨HA2.out.2.2.1.stored zero11 rfl, HA2.out.2.1.grown (wak.gr_setCells X _ _ _) (by have := HX.out; have := HA2.out.2.1.size; omega) (fun k hk => by cases hk; omega)⟩
          generalize wr.setCells X 0 (iL zero11) = W9 at HC ⊢
          obtain ⟨y0, y1, y2, y3, y4, y5, y6, y7, y8, y9, y10⟩ := Cmd.row (b := X) (w := W9) HC.out.1
          go_wp2_with fail
          refine bodyPost_ret (v := .tuple #[.agg #[.int .i64 0, .int .i64 0, .int .i64 0, .int .i64 0, .int .i64 0, .int .i64 0, .int .i64 0, .int .i64 0, .int .i64 0, .int .i64 0, .int .i64 0], .bool false]) ?_ rfl ⟨by rw [HN.out]; rfl, HC.out.2⟩
          simp [results, Tryd.results9, go_sem, y0, y1, y2, y3, y4, y5, y6, y7, y8, y9, y10]
      by_cases h3 : kb = 3
      · subst h3
        by_cases e2 : n = 8
        · have hs18 : (s.size : Int) = 8 := by have := HM.out; omega
          exact absurd (HKB.out.2.symm.trans HKD.out) (by decide)
        · have hs18 : ¬ (s.size : Int) = 8 := by have := HM.out; omega
          have HN : Hid (R = none) := HNO.out (by rintro ⟨h, -⟩; exact e2 h)
          go_upto_region 19 with fail
          refine wp_region_lit ?_
          iterate 1 (refine wpList_step fun K hK => ?_; go_simp; refine hK _ _ ?_; clear hK K; try simp only [Act.put, List.setIfInBounds_toArray, List.set_cons_zero, List.set_cons_succ])
          refine wpList_store_mid rfl 25 (.tmp 2) (.tmp 139) rfl X 0 (iL zero11).toArray rfl rfl (store11 HA2.out.2.2.1 rfl rfl) (by kernel_rfl) (one11 zero11) ?_
          show wpList _ _ _ _ _ (wr.setCells X 0 (iL zero11))
          have HC : Hid (Cmd (wr.setCells X 0 (iL zero11)) X zero11 ∧ Below X w (wr.setCells X 0 (iL zero11))) :=
            ⟨HA2.out.2.2.1.stored zero11 rfl, HA2.out.2.1.grown (wak.gr_setCells X _ _ _) (by have := HX.out; have := HA2.out.2.1.size; omega) (fun k hk => by cases hk; omega)⟩
          generalize wr.setCells X 0 (iL zero11) = W9 at HC ⊢
          obtain ⟨y0, y1, y2, y3, y4, y5, y6, y7, y8, y9, y10⟩ := Cmd.row (b := X) (w := W9) HC.out.1
          go_wp2_with fail
          refine bodyPost_ret (v := .tuple #[.agg #[.int .i64 0, .int .i64 0, .int .i64 0, .int .i64 0, .int .i64 0, .int .i64 0, .int .i64 0, .int .i64 0, .int .i64 0, .int .i64 0, .int .i64 0], .bool false]) ?_ rfl ⟨by rw [HN.out]; rfl, HC.out.2⟩
          simp [results, Tryd.results9, go_sem, y0, y1, y2, y3, y4, y5, y6, y7, y8, y9, y10]
      by_cases h4 : kb = 4
      · subst h4
        by_cases e2 : n = 7
        · have hs18 : (s.size : Int) = 7 := by have := HM.out; omega
          exact absurd (HKB.out.2.symm.trans HKD.out) (by decide)
        · have hs18 : ¬ (s.size : Int) = 7 := by have := HM.out; omega
          have HN : Hid (R = none) := HNO.out (by rintro ⟨h, -⟩; exact e2 h)
          go_upto_region 19 with fail
          refine wp_region_lit ?_
          iterate 1 (refine wpList_step fun K hK => ?_; go_simp; refine hK _ _ ?_; clear hK K; try simp only [Act.put, List.setIfInBounds_toArray, List.set_cons_zero, List.set_cons_succ])
          refine wpList_store_mid rfl 25 (.tmp 2) (.tmp 139) rfl X 0 (iL zero11).toArray rfl rfl (store11 HA2.out.2.2.1 rfl rfl) (by kernel_rfl) (one11 zero11) ?_
          show wpList _ _ _ _ _ (wr.setCells X 0 (iL zero11))
          have HC : Hid (Cmd (wr.setCells X 0 (iL zero11)) X zero11 ∧ Below X w (wr.setCells X 0 (iL zero11))) :=
            ⟨HA2.out.2.2.1.stored zero11 rfl, HA2.out.2.1.grown (wak.gr_setCells X _ _ _) (by have := HX.out; have := HA2.out.2.1.size; omega) (fun k hk => by cases hk; omega)⟩
          generalize wr.setCells X 0 (iL zero11) = W9 at HC ⊢
          obtain ⟨y0, y1, y2, y3, y4, y5, y6, y7, y8, y9, y10⟩ := Cmd.row (b := X) (w := W9) HC.out.1
          go_wp2_with fail
          refine bodyPost_ret (v := .tuple #[.agg #[.int .i64 0, .int .i64 0, .int .i64 0, .int .i64 0, .int .i64 0, .int .i64 0, .int .i64 0, .int .i64 0, .int .i64 0, .int .i64 0, .int .i64 0], .bool false]) ?_ rfl ⟨by rw [HN.out]; rfl, HC.out.2⟩
          simp [results, Tryd.results9, go_sem, y0, y1, y2, y3, y4, y5, y6, y7, y8, y9, y10]
      by_cases h5 : kb = 5
      · subst h5
        by_cases e2 : n = 7
        · have hs18 : (s.size : Int) = 7 := by have := HM.out; omega
          exact absurd (HKB.out.2.symm.trans HKD.out) (by decide)
        · have hs18 : ¬ (s.size : Int) = 7 := by have := HM.out; omega
          have HN : Hid (R = none) := HNO.out (by rintro ⟨h, -⟩; exact e2 h)
          go_upto_region 19 with fail
          refine wp_region_lit ?_
          iterate 1 (refine wpList_step fun K hK => ?_; go_simp; refine hK _ _ ?_; clear hK K; try simp only [Act.put, List.setIfInBounds_toArray, List.set_cons_zero, List.set_cons_succ])
          refine wpList_store_mid rfl 25 (.tmp 2) (.tmp 139) rfl X 0 (iL zero11).toArray rfl rfl (store11 HA2.out.2.2.1 rfl rfl) (by kernel_rfl) (one11 zero11) ?_
          show wpList _ _ _ _ _ (wr.setCells X 0 (iL zero11))
          have HC : Hid (Cmd (wr.setCells X 0 (iL zero11)) X zero11 ∧ Below X w (wr.setCells X 0 (iL zero11))) :=
            ⟨HA2.out.2.2.1.stored zero11 rfl, HA2.out.2.1.grown (wak.gr_setCells X _ _ _) (by have := HX.out; have := HA2.out.2.1.size; omega) (fun k hk => by cases hk; omega)⟩
          generalize wr.setCells X 0 (iL zero11) = W9 at HC ⊢
          obtain ⟨y0, y1, y2, y3, y4, y5, y6, y7, y8, y9, y10⟩ := Cmd.row (b := X) (w := W9) HC.out.1
          go_wp2_with fail
          refine bodyPost_ret (v := .tuple #[.agg #[.int .i64 0, .int .i64 0, .int .i64 0, .int .i64 0, .int .i64 0, .int .i64 0, .int .i64 0, .int .i64 0, .int .i64 0, .int .i64 0, .int .i64 0], .bool false]) ?_ rfl ⟨by rw [HN.out]; rfl, HC.out.2⟩
          simp [results, Tryd.results9, go_sem, y0, y1, y2, y3, y4, y5, y6, y7, y8, y9, y10]
      exact absurd (HKB.out.2.symm.trans HKD.out) h1
end Go.Proofs.YtndkabnmffgebaaDoor.wir
