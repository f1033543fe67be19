/- Contracts over this seat's translation: (*Stops).Wake. -/
import Derived.Test.YtcfeailakljpnaaDoorWakSort
import Derived.Test.YtcfeailakljpnaaDoorWakPart
import Derived.Test.YtcfeailakljpnaaDoorWakPut
namespace Go.Proofs.YtcfeailakljpnaaDoor.wak
open Go.RowKit Go.Proofs.YtcfeailakljpnaaDoor.ord
open Go.Proofs.YtcfeailakljpnaaDoor.spn (keeps bcell)

/-- The first k have no Stop any more. -/
def zk (k : Nat) (l : List O) : List O := (l.take k).map zst ++ l.drop k
theorem zk_len (k : Nat) (l : List O) : (zk k l).length = l.length := by unfold zk; rw [List.length_append, List.length_map, List.length_take, List.length_drop]; omega
theorem zk_zero (l : List O) : zk 0 l = l := rfl
theorem zk_all (l : List O) : zk l.length l = l.map zst := by unfold zk; rw [List.take_length, List.drop_length, List.append_nil]
theorem zk_step (k : Nat) (l : List O) (h : k < l.length) : (flat (zk k l)).set (k * 8 + 7) (.int .i64 0) = flat (zk (k + 1) l) := by
  have e1 : zk k l = (l.take k).map zst ++ l[k] :: l.drop (k + 1) := by unfold zk; rw [List.drop_eq_getElem_cons h]
  have e2 : zk (k + 1) l = (l.take k).map zst ++ zst l[k] :: l.drop (k + 1) := by unfold zk; rw [List.take_succ_eq_append_getElem h, List.map_append, List.append_assoc]; rfl
  have hl : (flat ((l.take k).map zst)).length = k * 8 := by rw [flat_len, List.length_map, List.length_take, Nat.min_eq_left (by omega)]
  rw [e1, e2, flat_append, flat_append, flat_cons, flat_cons, List.set_append_right _ _ (by omega), hl, show k * 8 + 7 - k * 8 = 7 by omega]
  rfl

theorem st_kept {W W' : World} {b p : Nat} {v : Value} {os : List O} {row : Option Nat} (h : St W b p v os) (hg : W.grownBy W' row) (h1 : some p ≠ row) (h2 : v.ownBlock = none ∨ v.ownBlock ≠ row) : St W' b p v os :=
  ⟨(hg.block p h.lt h1).trans h.blk, h.le, OwnM.kept h.own hg h2⟩

section
variable (x : Int) (b p : Nat) (w : World)
theorem wake_bad (hx : prB x = false) :
    Calls Tryd.prog 13 #[.pointer (some ⟨p, 0, none⟩), .int .i64 x] w fun e w' => e = .returned (.tuple #[.slice none 0 0, errV 1]) ∧ Below w.heap.size w w' := by
  have HP := hidP (fun W => price_no x W hx)
  clear hx
  rw [errV_one]
  go_enter Tryd.func13, Tryd.ntmps13
  go_wp2_with fail
  refine (HP.out _).mono ?_
  rintro e w1 ⟨rfl, hb1⟩
  have hB : Below w.heap.size w w1 := ((Below.refl _ _).alloc (Nat.le_refl _) _).trans (hb1.mono (by simp))
  clear hb1
  go_wp2_with fail
  go_ret2
  exact ⟨rfl, hB⟩

/-- What Wake leaves. -/
def WkPost (x : Int) (b p : Nat) (os : List O) (w : World) (e : Ending) (w' : World) : Prop :=
  ∃ q m c v2, e = .returned (.tuple #[.slice q m c, .nilIface]) ∧ m = (woke x os).length ∧ OwnQ w' w.heap.size (.slice q m c) (woke x os) ∧ St w' b p v2 (left x os) ∧ w.grownBy w' (some p) ∧ (∀ k, v2.ownBlock = some k → w.heap.size ≤ k) ∧ (∀ k, v2.ownBlock = some k → (Value.slice q m c).ownBlock ≠ some k)

set_option maxRecDepth 100000 in
set_option maxHeartbeats 2000000 in
theorem wake_ok (vq : Option Addr) (n vc : Nat) (os : List O) (hn : n = os.length) (hx : prB x = true) (h : St w b p (.slice vq n vc) os) (hl : n ≤ 20) :
    Calls Tryd.prog 13 #[.pointer (some ⟨p, 0, none⟩), .int .i64 x] w fun e w' => WkPost x b p os w e w' := by
  have HP := hidP (fun W => price_ok x W hx)
  have HS := hidP h
  have HN := hidP hn
  have HL := hidP hl
  clear hx h hn hl
  go_enter Tryd.func13, Tryd.ntmps13
  go_wp2_with fail
  refine (HP.out _).mono ?_
  rintro e w1 ⟨rfl, hb1⟩
  have HB1 := hidP (((Below.refl _ w).alloc (Nat.le_refl _) _).trans (hb1.mono (by simp)))
  have hR1 : w1.heap[w.heap.size]? = some (.cells #[.int .i64 x] 3 (0, 0)) := (hb1.block _ (by simp)).trans (heap_alloc_new w _)
  have hc1 : w1.cell? ⟨w.heap.size, 0, none⟩ = some (.int .i64 x) := by simp [World.cell?, hR1]
  have hz1 : w.heap.size < w1.heap.size := (Array.getElem?_eq_some_iff.1 hR1).1
  have HQ1 := hidP (part_1 x w.heap.size b p vq n vc os w1 HN.out (HS.out.below HB1.out) hz1 hc1 (by have := HL.out; omega))
  have HC1 := hidP hc1
  have HZ1 := hidP hz1
  clear hb1 hR1 hc1 hz1
  go_wp2_with fail
  refine HQ1.out.mono ?_
  rintro e w2 ⟨q1, m1, c1, rfl, hm1, ho1, hb2⟩
  have HB2 := hidP (HB1.out.trans (hb2.mono HB1.out.size))
  have HQ2 := hidP (part_2 x w.heap.size b p vq n vc os w2 HN.out (HS.out.below HB2.out) (Nat.lt_of_lt_of_le HZ1.out hb2.size) (keeps hb2 HC1.out) (by have := HL.out; omega))
  have HM1 := hidP hm1
  have HO1 := hidP ho1
  have HX1 := hidP (show ∀ k, (Value.slice q1 m1 c1).ownBlock = some k → w.heap.size ≤ k ∧ k < w2.heap.size from fun k hk => by
    have h1 := OwnM.lt ho1 k hk
    have h2 := HZ1.out
    omega)
  clear hm1 ho1 hb2 HQ1
  have SO : Hid (∀ W, Below w.heap.size w W → W.cell? ⟨p, 0, none⟩ = some (.slice vq n vc) ∧ W.frozen? ⟨p, 0, none⟩ = false) := fun W hW => by
    have hr := (HS.out.below hW).blk
    exact ⟨by simp [World.cell?, hr], by simp [World.frozen?, hr]⟩
  go_upto_region 5 with fail
  go_wp2_with fail
  refine HQ2.out.mono ?_
  rintro e w3 ⟨q2, m2, c2, rfl, hm2, ho2, hb3⟩
  have HB3 := hidP (HB2.out.trans (hb3.mono HB2.out.size))
  obtain ⟨p0, pf⟩ := SO.out _ HB3.out
  have hrow := (HS.out.below HB3.out).blk
  -- the world behind the store
  have HK4 : Hid (St (w3.setCell ⟨p, 0, none⟩ (.slice q2 m2 c2)) b p (.slice q2 m2 c2) (left x os) ∧ OwnQ (w3.setCell ⟨p, 0, none⟩ (.slice q2 m2 c2)) w.heap.size (.slice q1 m1 c1) (os.filter (wkB x)) ∧ w.grownBy (w3.setCell ⟨p, 0, none⟩ (.slice q2 m2 c2)) (some p)) := by
    have hg := gr_setCell w3 p 0 (.slice q2 m2 c2)
    have hpw : p < w.heap.size := HS.out.lt
    refine ⟨⟨?_, HS.out.le, ?_⟩, ?_, gr_trans (gr_below HB3.out _) hg⟩
    · rw [setCell_eq_setRow w3 p 0 _ _ _ _ hrow, setRow_heap w3 p _ _ _ _ hrow]; rfl
    · exact OwnM.mono (OwnM.kept ho2 hg (.inr fun e => by have := (OwnM.lt ho2 p e).1; have := HB2.out.size; omega)) (by have := HB2.out.size; have := HS.out.le; omega)
    · exact OwnM.mono (OwnM.kept (OwnM.below HO1.out hb3) hg (.inr fun e => by have := (OwnM.lt HO1.out p e).1; have := HB1.out.size; omega)) (by have := HB1.out.size; omega)
  have HV2 := hidP (show ∀ k, (Value.slice q2 m2 c2).ownBlock = some k → w2.heap.size ≤ k from fun k hk => (OwnM.lt ho2 k hk).1)
  clear hm2 ho2 hb3 hrow HQ2 SO
  go_wp2_with fail
  generalize w3.setCell ⟨p, 0, none⟩ (.slice q2 m2 c2) = W4 at *
  clear p0 pf
  have HML : Hid (m1 ≤ 20) := by
    show _ ≤ _
    have h1 := HM1.out
    have h2 := List.length_filter_le (wkB x) os
    have h3 := HN.out
    have h4 := HL.out
    omega
  refine (lineUp_any q1 m1 c1 (os.filter (wkB x)) w.heap.size W4 HM1.out HK4.out.2.1 HML.out).mono ?_
  rintro e w5 ⟨rfl, hs5⟩
  have HK5 : Hid (St w5 b p (.slice q2 m2 c2) (left x os) ∧ OwnQ w5 w.heap.size (.slice q1 m1 c1) (srt x os) ∧ w.grownBy w5 (some p)) := by
    obtain ⟨k1, k2, k3⟩ := HK4.out
    have hpw : p < w.heap.size := HS.out.lt
    refine ⟨st_kept k1 hs5.2 (fun e => by have := (HX1.out p e.symm).1; omega) ?_, hs5.1, ?_⟩
    · cases hq : (Value.slice q2 m2 c2).ownBlock with
      | none => exact .inl rfl
      | some k =>
        refine .inr fun e => ?_
        have h1 := (HX1.out k e.symm).2
        have h2 := HV2.out k hq
        omega
    · have hB := k3
      refine ⟨hs5.2.os.trans k3.os, hs5.2.tape.trans k3.tape, hs5.2.output.trans k3.output, Nat.le_trans k3.size hs5.2.size, fun k hk hne => ?_⟩
      rw [hs5.2.block k (Nat.lt_of_lt_of_le hk k3.size) (fun e => by have := (HX1.out k e.symm).1; omega), k3.block k hk hne]
  have HSL : Hid ((srt x os).length = m1) := by show _ = _; rw [srt_len]; exact HM1.out.symm
  clear hs5 HK4
  go_wp2_with fail
  go_loopg [8, 27] m1 (fun gg _ s27 wr => ∃ kk : Nat, kk ≤ m1 ∧ m1 - kk ≤ gg ∧ s27 = .int .i64 kk ∧ Aside (St wr b p (.slice q2 m2 c2) (left x os) ∧ OwnQ wr w.heap.size (.slice q1 m1 c1) (zk kk (srt x os)) ∧ w.grownBy wr (some p)))
  case atStart => exact ⟨0, Nat.zero_le _, by omega, rfl, HK5.out.1, HK5.out.2.1, HK5.out.2.2⟩
  case round =>
    obtain ⟨kk, hkk, hg, rfl, HA⟩ := hrel
    by_cases hlt : kk < m1
    · have hltz : (kk : Int) < (m1 : Int) := by omega
      have hin1 : ¬ ((kk : Int) < 0) := by omega
      have hn0 : (zk kk (srt x os)).length = m1 := (zk_len _ _).trans HSL.out
      obtain ⟨g, off, rfl⟩ : ∃ g off, q1 = some ⟨g, off, none⟩ := by
        rcases HA.out.2.1.2 with ⟨h1, h2⟩ | ⟨g, off, cap, cur, h1, _⟩
        · rw [hn0] at h2; omega
        · cases h1; exact ⟨g, off, rfl⟩
      have hO : OwnM wr w.heap.size 29 8 (.slice (some ⟨g, off, none⟩) m1 c1) m1 (flat (zk kk (srt x os))) := by
        have := HA.out.2.1
        rwa [OwnQ, hn0] at this
      obtain ⟨-, hgb, -, hmc, -, -, hth⟩ := own_range hO
      have hc := hth (kk * 8 + 7) (by omega)
      rw [← Nat.add_assoc] at hc
      obtain ⟨cv, hcv⟩ := Option.isSome_iff_exists.1 hc.1
      have hcf := hc.2
      have HO := hidP hO
      have HGP := hidP (show p < w.heap.size ∧ w.heap.size ≤ g ∧ g < w2.heap.size from ⟨HS.out.lt, HX1.out g rfl⟩)
      have es : wrap64 ((kk : Int) + 1) = ((kk + 1 : Nat) : Int) := by have := HML.out; unfold wrap64; omega
      have HNX : Hid (St (wr.setCell ⟨g, off + kk * 8 + 7, none⟩ (.int .i64 0)) b p (.slice q2 m2 c2) (left x os) ∧ OwnQ (wr.setCell ⟨g, off + kk * 8 + 7, none⟩ (.int .i64 0)) w.heap.size (.slice (some ⟨g, off, none⟩) m1 c1) (zk (kk + 1) (srt x os)) ∧ w.grownBy (wr.setCell ⟨g, off + kk * 8 + 7, none⟩ (.int .i64 0)) (some p)) := by
        have hgr := gr_setCell wr g (off + kk * 8 + 7) (.int .i64 0)
        obtain ⟨g1, g2, g3⟩ := HGP.out
        refine ⟨st_kept HA.out.1 hgr (fun e => by cases e; omega) ?_, ?_, ?_⟩
        · cases hq : (Value.slice q2 m2 c2).ownBlock with
          | none => exact .inl rfl
          | some k => exact .inr fun e => by cases e; have := HV2.out g hq; omega
        · have h1 := OwnM.set hO (kk * 8 + 7) (.int .i64 0)
          rw [← Nat.add_assoc, zk_step kk (srt x os) (by rw [HSL.out]; exact hlt)] at h1
          show OwnM _ _ _ _ _ _ _
          rw [zk_len, HSL.out]
          exact h1
        · have k3 := HA.out.2.2
          refine ⟨hgr.os.trans k3.os, hgr.tape.trans k3.tape, hgr.output.trans k3.output, Nat.le_trans k3.size hgr.size, fun k hk hne => ?_⟩
          rw [hgr.block k (Nat.lt_of_lt_of_le hk k3.size) (fun e => by cases e; omega), k3.block k hk hne]
      clear hO hth hc hmc hgb hn0 HA
      go_wp2_with fail
      go_roundg (m1 - (kk + 1))
      case measure => clear es; omega
      case rel => exact ⟨kk + 1, hlt, Nat.le_refl _, by go_num, HNX.out.1, HNX.out.2.1, HNX.out.2.2⟩
    · have hltz : ¬ (kk : Int) < (m1 : Int) := by omega
      have HE : Hid (zk kk (srt x os) = woke x os) := by
        show _ = _
        have : kk = (srt x os).length := by rw [HSL.out]; omega
        rw [this, zk_all]
        rfl
      have HW := hidP (show m1 = (woke x os).length by rw [← HE.out, zk_len, HSL.out])
      have HF := hidP HA.out
      rw [HE.out] at HF
      clear HA
      go_wp2_with fail
      go_ret2
      refine ⟨q1, m1, c1, _, rfl, HW.out, HF.out.2.1, HF.out.1, HF.out.2.2, fun k hk => ?_, fun k hk e => ?_⟩
      · have h1 := HV2.out k hk; have h2 := HB2.out.size; omega
      · have h1 := HV2.out k hk; have h2 := (HX1.out k e).2; omega
end
theorem wake_any (x : Int) (b p : Nat) (v : Value) (os : List O) (w : World) (hx : prB x = true) (h : St w b p v os) (hl : os.length ≤ 20) :
    Calls Tryd.prog 13 #[.pointer (some ⟨p, 0, none⟩), .int .i64 x] w fun e w' => WkPost x b p os w e w' := by
  obtain ⟨q, c, rfl⟩ := OwnQ.form h.own
  exact wake_ok x b p w q _ c os rfl hx h hl
end Go.Proofs.YtcfeailakljpnaaDoor.wak
