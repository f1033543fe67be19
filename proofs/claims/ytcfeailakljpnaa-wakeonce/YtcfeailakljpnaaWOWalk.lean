/- The walk of WakeOnce. -/
import Derived.Test.YtcfeailakljpnaaWOPure
namespace Go.Proofs.Ytcfeailakljpnaa.wak
open Go.RowKit Go.Proofs.Ytcfeailakljpnaa.ord
open Go.Proofs.Ytcfeailakljpnaa.spn (keeps bcell)

def one0 : O := ⟨1, 1, 1, 2, 0, 5, 0, 100⟩
theorem one_put : putE [] one0 = 0 := by decide
theorem one_woke : woke 100 [one0] = [⟨1, 1, 1, 2, 0, 5, 0, 0⟩] := rfl
theorem belowN {B : Nat} {a w : World} (h : Below B a w) (n : Nat) : Below B a (w.drewN n) := ⟨h.os, h.tape, h.output, h.size, h.block⟩
theorem prB_no {x : Int} (h : prB x = false) : x < 1 ∨ 10000 < x := by
  unfold prB at h
  simp only [Bool.and_eq_false_iff, decide_eq_false_iff_not] at h
  omega

set_option maxRecDepth 100000 in
set_option maxHeartbeats 4000000 in
theorem once_walk (vq : Option Addr) (n vc : Nat) (l : List O) (x : Int) (w : World) (hn : n = l.length) (h : SL w (.slice vq n vc) l) :
    Calls Try.prog 3 #[.slice vq n vc, .int .i64 x] w fun e w' => e = .returned (.bool true) ∧ Below w.heap.size w w' := by
  have HN := hidP hn
  have HSL := hidP h
  clear hn h
  go_enter Try.func3, Try.ntmps3
  go_wp2_with fail
  refine (new_any w).mono ?_
  rintro e w1 ⟨rfl, hs1, hb1⟩
  have HS1 := hidP hs1
  have HB1 := hidP hb1
  clear hs1 hb1
  obtain ⟨p1, hp1⟩ : ∃ p1, p1 = w.heap.size := ⟨_, rfl⟩
  rw [← hp1] at HS1 ⊢
  have HP1 := hidP hp1
  clear hp1
  have HPU := hidP (put_any one0 p1 p1 (.slice none 0 0) [] w1 HS1.out (by decide))
  rw [putL, one_put, if_pos rfl] at HPU
  change Hid (Calls Try.prog 6 #[.pointer (some ⟨p1, 0, none⟩), .agg #[.int .i64 1, .int .i64 1, .int .i64 1, .int .i64 2, .int .i64 0, .int .i64 5, .int .i64 0, .int .i64 100]] w1 fun e w' => e = .returned .nilIface ∧ PutOk p1 p1 (.slice none 0 0) ([] ++ [one0]) w1 w') at HPU
  go_wp2_with fail
  refine HPU.out.mono ?_
  rintro e w2 ⟨rfl, v2, hs2, ht2, -⟩
  have HB2 := hidP (HB1.out.trans ((ht2.below HS1.out).mono (by rw [HP1.out]; exact Nat.le_refl _)))
  have HWK := hidP (wake_any 100 p1 p1 v2 [one0] w2 (by decide) hs2 (by decide))
  have HS2 := hidP hs2
  clear hs2 ht2 HPU
  go_wp2_with fail
  refine HWK.out.mono ?_
  rintro e w3 ⟨q3, m3, c3, v3, rfl, hm3, ho3, hs3, hg3, -, -⟩
  rw [one_woke] at hm3 ho3
  obtain rfl : m3 = 1 := hm3
  have HB3 := hidP (HB2.out.trans (B := w.heap.size) ⟨hg3.os, hg3.tape, hg3.output, hg3.size, fun k hk => hg3.block k (by have := HB2.out.size; omega) (fun e => by cases e; have := HP1.out; omega)⟩)
  obtain ⟨g, off, rfl, cel⟩ := sl_at ho3.sl rfl (show 0 < 1 by omega)
  have t0 : w3.cell? ⟨g, off + 0 * 8 + 0, none⟩ = some (.int .i64 1) := cel 0 _ rfl
  have t7 : w3.cell? ⟨g, off + 0 * 8 + 7, none⟩ = some (.int .i64 0) := cel 7 _ rfl
  simp only [Nat.zero_mul, Nat.add_zero] at t0 t7
  clear cel ho3 hs3 hg3 HWK
  go_wp2_with fail
  refine (new_any w3).mono ?_
  rintro e w4 ⟨rfl, hs4, hb4⟩
  have HS4 := hidP hs4
  have HB4 := hidP (HB3.out.trans (hb4.mono HB3.out.size))
  obtain ⟨p, hp⟩ : ∃ p, p = w3.heap.size := ⟨_, rfl⟩
  rw [← hp] at HS4 ⊢
  have HPW := hidP (show w.heap.size ≤ p by rw [hp]; exact HB3.out.size)
  clear hs4 hb4 hp t0 t7
  go_wp2_with fail
  go_loopg [9, 10] n (fun gg s9 s10 wr => ∃ (kk : Nat) (vv : Value) (os : List O), kk ≤ n ∧ kk ≤ 40 ∧ n - kk ≤ gg ∧ s10 = .int .i64 kk ∧ s9 = .int .i64 os.length ∧ Aside (St wr p p vv os ∧ Good os ∧ Below w.heap.size w wr))
  case atStart => exact ⟨0, _, [], Nat.zero_le _, by omega, by omega, rfl, rfl, HS4.out, good_nil, HB4.out⟩
  case round =>
    obtain ⟨kk, vv, os, hkk, hk40, hg, rfl, rfl, HA⟩ := hrel
    by_cases hlt : kk < n ∧ kk < 40
    · obtain ⟨hlt, hl4⟩ := hlt
      have hltz : (kk : Int) < (n : Int) := by omega
      have hl4z : (kk : Int) < 40 := by omega
      have hin1 : ¬ ((kk : Int) < 0) := by omega
      obtain ⟨g, off, rfl, cel0⟩ := sl_at HSL.out HN.out hlt
      have cel : ∀ i v, (oL l[kk]!)[i]? = some v → wr.cell? ⟨g, off + kk * 8 + i, none⟩ = some v := fun i v hv => keeps HA.out.2.2 (cel0 i v hv)
      clear cel0
      have HPU := hidP (put_any l[kk]! p p vv os wr HA.out.1 HA.out.2.1.2.2)
      have HG2 := hidP (good_put HA.out.2.1 l[kk]!)
      have HLE : Hid (∀ o, putE os o = 0 → (putL os o).length = os.length + 1) := fun o ho => by unfold putL; rw [if_pos ho, List.length_append]; rfl
      have HLF : Hid (∀ o, ¬ putE os o = 0 → (putL os o).length = os.length) := fun o ho => by unfold putL; rw [if_neg ho]
      generalize l[kk]! = o at *
      obtain ⟨a1, a2, a3, a4, a5, a6, a7, a8⟩ := o
      have t0 := cel 0 _ rfl
      have t1 := cel 1 _ rfl
      have t2 := cel 2 _ rfl
      have t3 := cel 3 _ rfl
      have t4 := cel 4 _ rfl
      have t5 := cel 5 _ rfl
      have t6 := cel 6 _ rfl
      have t7 := cel 7 _ rfl
      simp only [Nat.add_zero] at t0
      change Hid (Calls Try.prog 6 #[.pointer (some ⟨p, 0, none⟩), .agg #[.int .i64 a1, .int .i64 a2, .int .i64 a3, .int .i64 a4, .int .i64 a5, .int .i64 a6, .int .i64 a7, .int .i64 a8]] wr fun e w' => e = .returned (errV (putE os ⟨a1, a2, a3, a4, a5, a6, a7, a8⟩)) ∧ PutOk p p vv (putL os ⟨a1, a2, a3, a4, a5, a6, a7, a8⟩) wr w') at HPU
      have HL20 := hidP HA.out.2.1.2.2
      obtain ⟨N, hN⟩ : ∃ N, os.length = N := ⟨_, rfl⟩
      have HNN := hidP hN
      rw [hN] at HLE HLF HL20 ⊢
      clear hN cel
      have es : wrap64 ((kk : Int) + 1) = ((kk + 1 : Nat) : Int) := by unfold wrap64; omega
      have en : wrap64 ((N : Int) + 1) = ((N + 1 : Nat) : Int) := by have := HL20.out; unfold wrap64; omega
      have HES := hidP es
      have HEN := hidP en
      clear es en
      obtain ⟨pe, hpe⟩ : ∃ pe, putE os ⟨a1, a2, a3, a4, a5, a6, a7, a8⟩ = pe := ⟨_, rfl⟩
      have HPE := hidP hpe
      rw [hpe] at HPU
      clear hpe
      by_cases h0 : pe = 0
      · subst h0
        rw [errV_zero] at HPU
        go_wp2_with fail
        refine HPU.out.mono ?_
        rintro e w5 ⟨rfl, v5, hs5, ht5, -⟩
        have HS5 := hidP hs5
        have HB5 := hidP (HA.out.2.2.trans ((ht5.below HA.out.1).mono HPW.out))
        clear hs5 ht5 HPU HA t0 t1 t2 t3 t4 t5 t6 t7
        have es := HES.out
        have en := HEN.out
        go_wp2_with fail
        go_roundg (n - (kk + 1))
        case measure => clear es en; omega
        case rel => exact ⟨kk + 1, v5, _, hlt, hl4, Nat.le_refl _, by go_num, by rw [HLE.out _ HPE.out]; go_num, HS5.out, HG2.out, HB5.out⟩
      · rw [errV_of h0] at HPU
        go_wp2_with fail
        refine HPU.out.mono ?_
        rintro e w5 ⟨rfl, v5, hs5, ht5, -⟩
        have HS5 := hidP hs5
        have HB5 := hidP (HA.out.2.2.trans ((ht5.below HA.out.1).mono HPW.out))
        clear hs5 ht5 HPU HA t0 t1 t2 t3 t4 t5 t6 t7
        have es := HES.out
        go_wp2_with fail
        go_roundg (n - (kk + 1))
        case measure => clear es; omega
        case rel => exact ⟨kk + 1, v5, _, hlt, hl4, Nat.le_refl _, by go_num, by rw [HLF.out _ (by rw [HPE.out]; exact h0)], HS5.out, HG2.out, HB5.out⟩
    · have HG := hidP HA.out.2.1
      have HST := hidP HA.out.1
      have HBW := hidP HA.out.2.2
      have HAL := hidP (all_any p p vv os wr HA.out.1 (by have := HA.out.2.1.2.2; omega))
      obtain ⟨N, hN⟩ : ∃ N, os.length = N := ⟨_, rfl⟩
      have HNN := hidP hN
      rw [hN] at HAL ⊢
      have HL20 := hidP (show N ≤ 20 by rw [← hN]; exact HA.out.2.1.2.2)
      clear hN HA
      have hend : Hid (((kk : Int) < (n : Int) ∧ ¬ (kk : Int) < 40) ∨ ¬ (kk : Int) < (n : Int)) := by
        show _ ∨ _
        by_cases h1 : kk < n
        · exact .inl ⟨by omega, by omega⟩
        · exact .inr (by omega)
      clear hlt hkk hk40 hg
      go_upto_region 10 with fail
      go_cut [59] from 52 to 59 (fun s59 wx => s59 = .bool false ∧ wx = wr)
      case first =>
        rcases hend.out with ⟨e1, e2⟩ | e1
        · go_wp2_with fail
          go_meet
          case rel => exact ⟨rfl, rfl⟩
        · go_wp2_with fail
          go_meet
          case rel => exact ⟨rfl, rfl⟩
      case rest =>
      obtain ⟨rfl, rfl⟩ := hcut
      clear hend
      generalize wc = W at *
      go_wp2_with fail
      refine HAL.out.mono ?_
      rintro e w6 ⟨q6, c6, rfl, -, hb6⟩
      have HB6 := hidP (HBW.out.trans (hb6.mono HBW.out.size))
      have HS6 := hidP (HST.out.below hb6)
      clear hb6 HAL HST HBW
      cases hx : prB x
      · rcases prB_no hx with h1 | h1
        · go_wp2_with fail
          refine (wake_bad x p w6 hx).mono ?_
          rintro e w7 ⟨rfl, hb7⟩
          rw [errV_one]
          have HB7 := hidP (HB6.out.trans (hb7.mono HB6.out.size))
          clear hb7 hx
          go_wp2_with fail
          go_ret
          exact ⟨rfl, HB7.out⟩
        · have h2 : ¬ x < 1 := by omega
          go_wp2_with fail
          refine (wake_bad x p w6 hx).mono ?_
          rintro e w7 ⟨rfl, hb7⟩
          rw [errV_one]
          have HB7 := hidP (HB6.out.trans (hb7.mono HB6.out.size))
          clear hb7 hx
          go_wp2_with fail
          go_ret
          exact ⟨rfl, HB7.out⟩
      · have HX := hidP hx
        clear hx
        go_wp2_with fail
        refine (wake_any x p p vv os w6 HX.out HS6.out HG.out.2.2).mono ?_
        rintro e w7 ⟨q7, m7, c7, v7, rfl, hm7, ho7, hs7, hg7, -, -⟩
        have HB7 := hidP (HB6.out.trans (B := w.heap.size) ⟨hg7.os, hg7.tape, hg7.output, hg7.size, fun k hk => hg7.block k (by have := HB6.out.size; omega) (fun e => by cases e; have := HPW.out; omega)⟩)
        have HM7 := hidP hm7
        have HO7 := hidP ho7.sl
        have HS7 := hidP hs7
        clear hm7 ho7 hs7 hg7 HS6 HB6
        have HLL := hidP (left_good (x := x) HG.out).2.2
        go_wp2_with fail
        refine (all_any p p v7 (left x os) w7 HS7.out (by have := HLL.out; omega)).mono ?_
        obtain ⟨m8, hm8⟩ : ∃ m8, (left x os).length = m8 := ⟨_, rfl⟩
        rw [hm8]
        rintro e w8 ⟨q8, c8, rfl, ho8, hb8⟩
        have HB8 := hidP (HB7.out.trans (hb8.mono HB7.out.size))
        have HO8 := hidP (HO7.out.below hb8)
        have HP8 := hidP ho8.sl
        have HS8 := hidP (HS7.out.below hb8)
        have HM8 := hidP hm8
        have HSU : Hid (m7 + m8 = N) := by
          show _ = _
          have h1 := part_len x os
          rw [← HM7.out, HM8.out, HNN.out] at h1
          exact h1
        have HML := hidP (show m7 ≤ 20 ∧ m8 ≤ 20 by have h1 := HSU.out; have h2 := HL20.out; omega)
        clear hm8 ho8 hb8 HS7 HB7 HO7
        go_wp2_with fail
        go_loopg [14, 15] m7 (fun gg s14 _ wr => ∃ kk : Nat, kk ≤ m7 ∧ m7 - kk ≤ gg ∧ s14 = .int .i64 kk ∧ Aside (Below w8.heap.size w8 wr))
        case atStart => exact ⟨0, Nat.zero_le _, by omega, rfl, Below.refl _ _⟩
        case round =>
          obtain ⟨kk, hkk, hg, rfl, BK⟩ := hrel
          by_cases hlt : kk < m7
          · have hltz : (kk : Int) < (m7 : Int) := by omega
            have hin1 : ¬ ((kk : Int) < 0) := by omega
            obtain ⟨g, off, rfl, cel0⟩ := sl_at HO8.out HM7.out hlt
            obtain ⟨hck, hst⟩ := woke_mem (x := x) HG.out (mem_at (l := woke x os) (by rw [← HM7.out]; exact hlt))
            have HID : Hid (∀ j, j < kk → (woke x os)[j]!.id ≠ (woke x os)[kk]!.id) := fun j hj => ids_at (woke_ids HG.out) hj (by rw [← HM7.out]; exact hlt)
            have HCJ : Hid (∀ W, Below w8.heap.size w8 W → ∀ j, j < kk → W.cell? ⟨g, off + j * 8, none⟩ = some (.int .i64 (woke x os)[j]!.id)) := fun W hW j hj => by
              obtain ⟨g', off', he, hc⟩ := sl_at HO8.out HM7.out (show j < m7 by omega)
              cases he
              exact keeps hW (hc 0 _ rfl)
            have HCL : Hid (∀ W, Below w8.heap.size w8 W → ∀ i v, (oL (woke x os)[kk]!)[i]? = some v → W.cell? ⟨g, off + kk * 8 + i, none⟩ = some v) := fun W hW i v hv => keeps hW (cel0 i v hv)
            clear cel0
            generalize hoo : (woke x os)[kk]! = o at hck hst HID HCL
            have HOO := hidP hoo
            clear hoo
            obtain ⟨a1, a2, a3, a4, a5, a6, a7, a8⟩ := o
            simp only at hst
            subst hst
            have HCK : Hid (∀ W, Calls Try.prog 9 #[.agg #[.int .i64 a1, .int .i64 a2, .int .i64 a3, .int .i64 a4, .int .i64 a5, .int .i64 a6, .int .i64 a7, .int .i64 0]] W fun e w' => e = .returned .nilIface ∧ Below W.heap.size W w') := fun W => by
              have := check_any ⟨a1, a2, a3, a4, a5, a6, a7, 0⟩ W
              rwa [hck, errV_zero] at this
            clear hck
            go_wp2_with fail
            go_loopg [15] kk (fun g2 s15 wi => ∃ jj : Nat, jj ≤ kk ∧ kk - jj ≤ g2 ∧ s15 = .int .i64 jj ∧ Aside (Below w8.heap.size w8 wi))
            case atStart => exact ⟨0, Nat.zero_le _, by omega, rfl, BK.out⟩
            case round =>
              obtain ⟨jj, hjj, hg2, rfl, BI⟩ := hrel
              have cel := HCL.out _ BI.out
              have t0 := cel 0 _ rfl
              have t1 := cel 1 _ rfl
              have t2 := cel 2 _ rfl
              have t3 := cel 3 _ rfl
              have t4 := cel 4 _ rfl
              have t5 := cel 5 _ rfl
              have t6 := cel 6 _ rfl
              have t7 := cel 7 _ rfl
              simp only [Nat.add_zero] at t0
              clear cel
              by_cases hlj : jj < kk
              · have hljz : (jj : Int) < (kk : Int) := by omega
                have hin2 : ¬ ((jj : Int) < 0) := by omega
                have hin3 : (jj : Int) < (m7 : Int) := by omega
                have u0 := HCJ.out _ BI.out jj hlj
                have hne := HID.out jj hlj
                generalize (woke x os)[jj]!.id = y at u0 hne
                have hnb : (y == a1) = false := by simpa using hne
                have es : wrap64 ((jj : Int) + 1) = ((jj + 1 : Nat) : Int) := by have := HML.out; unfold wrap64; omega
                have HES := hidP es
                clear hne es
                go_wp2_with fail
                go_quiet (fail)
                have es := HES.out
                have HBQ := hidP (belowN BI.out nq)
                clear t0 t1 t2 t3 t4 t5 t6 t7 u0
                go_wp2_with fail
                go_roundg (kk - (jj + 1))
                case measure => clear es; omega
                case rel => exact ⟨jj + 1, hlj, Nat.le_refl _, by go_num, HBQ.out⟩
              · have hljz : ¬ (jj : Int) < (kk : Int) := by omega
                go_wp2_with fail
                refine (HCK.out _).mono ?_
                rintro e w9 ⟨rfl, hb9⟩
                have HB9 := hidP (BI.out.trans (hb9.mono BI.out.size))
                have es : wrap64 ((kk : Int) + 1) = ((kk + 1 : Nat) : Int) := by have := HML.out; unfold wrap64; omega
                clear hb9 t0 t1 t2 t3 t4 t5 t6 t7 HCK HCJ HID HCL
                go_wp2_with fail
                go_roundg (m7 - (kk + 1))
                case measure => clear es; omega
                case rel => exact ⟨kk + 1, hlt, Nat.le_refl _, by go_num, HB9.out⟩
          · have hltz : ¬ (kk : Int) < (m7 : Int) := by omega
            clear hkk hg hlt
            go_wp2_with fail
            go_loopg [16, 17] m8 (fun gg s16 _ wi => ∃ jj : Nat, jj ≤ m8 ∧ m8 - jj ≤ gg ∧ s16 = .int .i64 jj ∧ Aside (Below w8.heap.size w8 wi))
            case atStart => exact ⟨0, Nat.zero_le _, by omega, rfl, BK.out⟩
            case round =>
              obtain ⟨jj, hjj, hg2, rfl, BJ⟩ := hrel
              by_cases hlj : jj < m8
              · have hljz : (jj : Int) < (m8 : Int) := by omega
                have hin2 : ¬ ((jj : Int) < 0) := by omega
                obtain ⟨g, off, rfl, cel0⟩ := sl_at HP8.out HM8.out.symm hlj
                obtain ⟨hck, hwk⟩ := left_mem (x := x) HG.out (mem_at (l := left x os) (by rw [HM8.out]; exact hlj))
                have cel : ∀ i v, (oL (left x os)[jj]!)[i]? = some v → wr.cell? ⟨g, off + jj * 8 + i, none⟩ = some v := fun i v hv => keeps BJ.out (cel0 i v hv)
                clear cel0
                generalize (left x os)[jj]! = o at hck hwk cel
                have hsd := chk_side hck
                clear hck
                obtain ⟨a1, a2, a3, a4, a5, a6, a7, a8⟩ := o
                simp only at hsd
                have t0 := cel 0 _ rfl
                have t1 := cel 1 _ rfl
                have t2 := cel 2 _ rfl
                have t3 := cel 3 _ rfl
                have t4 := cel 4 _ rfl
                have t5 := cel 5 _ rfl
                have t6 := cel 6 _ rfl
                have t7 := cel 7 _ rfl
                simp only [Nat.add_zero] at t0
                clear cel
                have es : wrap64 ((jj : Int) + 1) = ((jj + 1 : Nat) : Int) := by have := HML.out; unfold wrap64; omega
                have HBA := hidP (BJ.out.alloc BJ.out.size (.cells #[.int .i64 a1, .int .i64 a2, .int .i64 a3, .int .i64 a4, .int .i64 a5, .int .i64 a6, .int .i64 a7, .int .i64 a8] 29))
                rcases hsd with hsd | hsd
                · subst hsd
                  have hno : ¬ a8 ≤ x := by
                    unfold wkB at hwk
                    rw [if_pos rfl] at hwk
                    exact of_decide_eq_false hwk
                  clear hwk
                  go_wp2_with fail
                  go_roundg (m8 - (jj + 1))
                  case measure => clear es; omega
                  case rel => exact ⟨jj + 1, hlj, Nat.le_refl _, by go_num, HBA.out⟩
                · subst hsd
                  have hno : ¬ x ≤ a8 := by
                    unfold wkB at hwk
                    rw [if_neg (show ¬ (2 : Int) = 1 by decide)] at hwk
                    exact of_decide_eq_false hwk
                  clear hwk
                  go_wp2_with fail
                  go_roundg (m8 - (jj + 1))
                  case measure => clear es; omega
                  case rel => exact ⟨jj + 1, hlj, Nat.le_refl _, by go_num, HBA.out⟩
              · have hljz : ¬ (jj : Int) < (m8 : Int) := by omega
                have es : wrap64 ((m7 : Int) + (m8 : Int)) = (N : Int) := by have h1 := HSU.out; have h2 := HL20.out; unfold wrap64; omega
                have HES := hidP es
                have HBJ := hidP BJ.out
                clear es hjj hg2 hlj BJ
                go_wp2_with fail
                refine (wake_any x p p v7 (left x os) _ HX.out (HS8.out.below HBJ.out) HLL.out).mono ?_
                rintro e w10 ⟨q10, m10, c10, v10, rfl, hm10, -, -, hg10, -, -⟩
                rw [woke_left] at hm10
                obtain rfl : m10 = 0 := hm10
                have HBX := hidP (HB8.out.trans (HBJ.out.mono HB8.out.size))
                have HBF := hidP (HBX.out.trans (B := w.heap.size) ⟨hg10.os, hg10.tape, hg10.output, hg10.size, fun k hk => hg10.block k (by have := HBX.out.size; omega) (fun e => by cases e; have := HPW.out; omega)⟩)
                have es := HES.out
                clear hg10
                go_wp2_with fail
                go_ret
                exact ⟨rfl, HBF.out⟩
end Go.Proofs.Ytcfeailakljpnaa.wak
