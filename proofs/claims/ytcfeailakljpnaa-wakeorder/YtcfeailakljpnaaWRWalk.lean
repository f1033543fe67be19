/- The walk of WakeOrder. -/
import Derived.Test.YtcfeailakljpnaaWRPure
import Derived.Test.YtcfeailakljpnaaWakArg
namespace Go.Proofs.Ytcfeailakljpnaa.wak
open Go.RowKit Go.Proofs.Ytcfeailakljpnaa.ord
open Go.Proofs.Ytcfeailakljpnaa.spn (keeps bcell)

theorem il_at {w : World} {q : Option Addr} {n c : Nat} {zs : List Int} (h : IL w (.slice q n c) zs) (hn : n = zs.length) {k : Nat} (hk : k < n) : ∃ g off, q = some ⟨g, off, none⟩ ∧ ∀ j, j < n → w.cell? ⟨g, off + j, none⟩ = some (.int .i64 zs[j]!) := by
  rcases h with ⟨h1, h2⟩ | ⟨g, off, cc, h1, h2, h3, h4, h5⟩
  · cases h1; omega
  · cases h1; exact ⟨g, off, rfl, h5⟩
theorem IL.form {w : World} {v : Value} {zs : List Int} (h : IL w v zs) : ∃ q c, v = .slice q zs.length c := by
  rcases h with ⟨h1, h2⟩ | ⟨g, off, cc, h1, _⟩
  · subst h2; exact ⟨_, _, h1⟩
  · exact ⟨_, _, h1⟩
theorem belowM {B : Nat} {a w : World} (h : Below B a w) (n : Nat) : Below B a (w.drewN n) := ⟨h.os, h.tape, h.output, h.size, h.block⟩

set_option maxRecDepth 100000 in
set_option maxHeartbeats 8000000 in
theorem order_walk (vq : Option Addr) (n vc : Nat) (l : List Int) (w : World) (hn : n = l.length) (h : IL w (.slice vq n vc) l) (hbig : n ≤ 9223372036854775807) :
    Calls Try.prog 4 #[.slice vq n vc] w fun e w' => e = .returned (.bool true) ∧ Below w.heap.size w w' := by
  have HN := hidP hn
  have HSL := hidP h
  clear hn h
  go_enter Try.func4, Try.ntmps4
  go_wp2_with fail
  refine (new_any w).mono ?_
  rintro e w4 ⟨rfl, hs4, hb4⟩
  have HS4 := hidP hs4
  have HB4 := hidP hb4
  obtain ⟨p, hp⟩ : ∃ p, p = w.heap.size := ⟨_, rfl⟩
  rw [← hp] at HS4 ⊢
  have HPW := hidP (show w.heap.size ≤ p by rw [hp]; exact Nat.le_refl _)
  clear hs4 hb4 hp
  go_wp2_with fail
  go_loopg [4, 5, 6] n (fun gg s4 s5 _ wr => ∃ (kk : Nat) (vv : Value), kk ≤ n ∧ kk ≤ 20 ∧ n - kk ≤ gg ∧ s5 = .int .i64 kk ∧ s4 = .int .i64 (mk l kk).length ∧ Aside (St wr p p vv (mk l kk) ∧ Below w.heap.size w wr))
  case atStart => exact ⟨0, _, Nat.zero_le _, by omega, by omega, rfl, rfl, HS4.out, HB4.out⟩
  case round =>
    obtain ⟨kk, vv, hkk, hk20, hg, rfl, rfl, HA⟩ := hrel
    by_cases hlt : kk < n ∧ kk < 20
    · obtain ⟨hlt, hl4⟩ := hlt
      have hltz : (kk : Int) < (n : Int) := by omega
      have hl4z : (kk : Int) < 20 := by omega
      have hin1 : ¬ ((kk : Int) < 0) := by omega
      obtain ⟨g, off, rfl, cel0⟩ := il_at HSL.out HN.out hlt
      have t0 := keeps HA.out.2 (cel0 kk hlt)
      clear cel0
      have HMK : Hid (mk l (kk + 1) = mk l kk ++ (if 1 ≤ l[kk]! ∧ l[kk]! ≤ 5000 then [od kk l[kk]!] else [])) := rfl
      generalize l[kk]! = s at t0 HMK
      obtain ⟨N, hN⟩ : ∃ N, (mk l kk).length = N := ⟨_, rfl⟩
      have HNN := hidP hN
      rw [hN]
      have HNK := hidP (show N ≤ 20 by rw [← hN]; exact mk_good l kk hk20)
      clear hN
      have HES := hidP (show wrap64 ((kk : Int) + 1) = ((kk + 1 : Nat) : Int) by unfold wrap64; omega)
      by_cases h1 : s < 1
      · have HE : Hid (mk l (kk + 1) = mk l kk) := by show _ = _; rw [HMK.out, if_neg (by omega), List.append_nil]
        have es := HES.out
        clear HMK
        go_wp2_with fail
        go_roundg (n - (kk + 1))
        case measure => clear es; omega
        case rel => exact ⟨kk + 1, vv, hlt, hl4, Nat.le_refl _, by go_num, by rw [HE.out, HNN.out], by rw [HE.out]; exact HA.out.1, HA.out.2⟩
      · by_cases h2 : 5000 < s
        · have HE : Hid (mk l (kk + 1) = mk l kk) := by show _ = _; rw [HMK.out, if_neg (by omega), List.append_nil]
          have es := HES.out
          clear HMK
          go_wp2_with fail
          go_roundg (n - (kk + 1))
          case measure => clear es; omega
          case rel => exact ⟨kk + 1, vv, hlt, hl4, Nat.le_refl _, by go_num, by rw [HE.out, HNN.out], by rw [HE.out]; exact HA.out.1, HA.out.2⟩
        · have HE : Hid (mk l (kk + 1) = mk l kk ++ [od kk s]) := by show _ = _; rw [HMK.out, if_pos (by omega)]
          have hpe := mk_put (l := l) hl4 (show 1 ≤ s ∧ s ≤ 5000 by omega)
          have HBA := hidP ((Below.refl _ wr).alloc (Nat.le_refl _) (.cells #[.int .i64 (((kk + 1 : Nat) : Int)), .int .i64 1, .int .i64 1, .int .i64 2, .int .i64 0, .int .i64 1, .int .i64 0, .int .i64 s] 29))
          have HPU := hidP (put_any (od kk s) p p vv (mk l kk) _ (HA.out.1.below HBA.out) (mk_good l kk hk20))
          rw [putL, hpe, if_pos rfl, errV_zero] at HPU
          have e1 : ((kk + 1 : Nat) : Int) = (kk : Int) + 1 := by omega
          have HE1 := hidP e1
          change Hid (Calls Try.prog 6 #[.pointer (some ⟨p, 0, none⟩), .agg #[.int .i64 ((kk : Int) + 1), .int .i64 1, .int .i64 1, .int .i64 2, .int .i64 0, .int .i64 1, .int .i64 0, .int .i64 s]] _ fun e w' => e = .returned .nilIface ∧ PutOk p p vv (mk l kk ++ [od kk s]) _ w') at HPU
          rw [e1] at HPU HBA
          have es : wrap64 ((kk : Int) + 1) = (kk : Int) + 1 := HES.out.trans e1
          have en : wrap64 ((N : Int) + 1) = ((N + 1 : Nat) : Int) := by have := HNK.out; unfold wrap64; omega
          have HEN := hidP en
          clear HMK hpe en e1
          go_wp2_with fail
          refine HPU.out.mono ?_
          rintro e w5 ⟨rfl, v5, hs5, ht5, -⟩
          have HS5 := hidP hs5
          have HB5 := hidP (HA.out.2.trans (((HBA.out).mono (HA.out.2.size)).trans ((ht5.below (HA.out.1.below HBA.out)).mono HPW.out)))
          clear hs5 ht5 HPU HA t0 HBA
          have en := HEN.out
          go_wp2_with fail
          go_roundg (n - (kk + 1))
          case measure => clear es en; omega
          case rel => exact ⟨kk + 1, v5, hlt, hl4, Nat.le_refl _, by first | go_num | (rw [HE1.out]; go_num), by rw [HE.out, List.length_append, HNN.out]; first | go_num | rfl, by rw [HE.out]; exact HS5.out, HB5.out⟩
    · have HST := hidP HA.out.1
      have HBW := hidP HA.out.2
      obtain ⟨N, hN⟩ : ∃ N, (mk l kk).length = N := ⟨_, rfl⟩
      have HNN := hidP hN
      rw [hN]
      have HL20 := hidP (show N ≤ 20 by rw [← hN]; exact mk_good l kk hk20)
      have HKN := hidP (show kk ≤ n from hkk)
      have hend : Hid (((kk : Int) < (n : Int) ∧ ¬ (kk : Int) < 20) ∨ ¬ (kk : Int) < (n : Int)) := by
        show _ ∨ _
        by_cases h1 : kk < n
        · exact .inl ⟨by omega, by omega⟩
        · exact .inr (by omega)
      have HLE := hidP (mk_good l kk hk20)
      clear hN HA hlt hkk hk20 hg
      go_upto_region 4 with fail
      go_cut [18] from 11 to 18 (fun s18 wx => s18 = .bool false ∧ wx = wr)
      case first =>
        rcases hend.out with ⟨e1, e2⟩ | e1
        · go_wp2_with fail
          go_meet
          case rel => exact ⟨rfl, rfl⟩
        · go_wp2_with fail
          go_meet
          case rel => exact ⟨rfl, rfl⟩
      case rest =>
      obtain ⟨rfl, rfl⟩ := hcut
      clear hend
      generalize wc = W at *
      go_wp2_with fail
      refine (wake_any 5000 p p vv (mk l kk) W (by decide) HST.out HLE.out).mono ?_
      rintro e w7 ⟨q7, m7, c7, v7, rfl, hm7, ho7, hs7, hg7, -, -⟩
      have hmN : m7 = N := by rw [hm7, mk_woke_len]; exact HNN.out
      subst hmN
      have HB7 := hidP (HBW.out.trans (B := w.heap.size) ⟨hg7.os, hg7.tape, hg7.output, hg7.size, fun k hk => hg7.block k (by have := HBW.out.size; omega) (fun e => by cases e; have := HPW.out; omega)⟩)
      have HM7 := hidP hm7
      have HO7 := hidP ho7.sl
      rw [mk_left] at hs7
      have HAL := hidP (all_any p p v7 [] w7 hs7 (by decide))
      clear hm7 ho7 hs7 hg7 HST HBW
      go_wp2_with fail
      refine HAL.out.mono ?_
      rintro e w8 ⟨q8, c8, rfl, -, hb8⟩
      have HB8 := hidP (HB7.out.trans (hb8.mono HB7.out.size))
      have HO8 := hidP (HO7.out.below hb8)
      rw [show ([] : List O).length = 0 from rfl]
      clear hb8 HAL HB7 HO7
      go_wp2_with fail
      go_loopg [9] m7 (fun gg s9 wr => ∃ ii : Nat, ii ≤ m7 ∧ m7 - ii ≤ gg ∧ s9 = .int .i64 ii ∧ Aside (Below w8.heap.size w8 wr))
      case atStart => exact ⟨0, Nat.zero_le _, by omega, rfl, Below.refl _ _⟩
      case round =>
        obtain ⟨ii, hii, hg, rfl, BK⟩ := hrel
        by_cases hlt : ii < m7
        · have hltz : (ii : Int) < (m7 : Int) := by omega
          have hin1 : ¬ ((ii : Int) < 0) := by omega
          obtain ⟨g, off, rfl, -⟩ := sl_at HO8.out HM7.out hlt
          have HCJ : Hid (∀ j, j < m7 → wr.cell? ⟨g, off + j * 8, none⟩ = some (.int .i64 (woke 5000 (mk l kk))[j]!.id)) := fun j hj => by
            obtain ⟨g', off', he, hc⟩ := sl_at HO8.out HM7.out hj
            cases he
            exact keeps BK.out (hc 0 _ rfl)
          have HBK := hidP BK.out
          have HES := hidP (show wrap64 ((ii : Int) + 1) = ((ii + 1 : Nat) : Int) by have := HL20.out; unfold wrap64; omega)
          have hn0 : kk ≠ 0 := fun e => by
            have h1 := HNN.out
            have h2 := mk_len l kk
            omega
          obtain ⟨lg, lo, rfl, lcel⟩ := il_at HSL.out HN.out (show 0 < n by have := HKN.out; omega)
          have HLC : Hid (∀ j, j < n → wr.cell? ⟨lg, lo + j, none⟩ = some (.int .i64 l[j]!)) := fun j hj => keeps (HB8.out.trans (HBK.out.mono HB8.out.size)) (lcel j hj)
          clear lcel hn0
          by_cases h0 : ii = 0
          · subst h0
            obtain ⟨j, hj, hid⟩ := woke_at l kk 0 (by rw [HNN.out]; exact hlt)
            have u0 := HCJ.out 0 hlt
            rw [hid] at u0
            simp only [Nat.zero_mul, Nat.add_zero] at u0
            obtain ⟨A, hA⟩ : ∃ A : Int, (j : Int) + 1 = A := ⟨_, rfl⟩
            rw [hA] at u0
            have a1 : ¬ A < 1 := by omega
            have a2 : ¬ (n : Int) < A := by have := HKN.out; omega
            clear hA hid HCJ HLC BK
            go_wp2_with fail
            go_quiet (fail)
            have es := HES.out
            have HBQ := hidP (belowM HBK.out nq)
            clear u0 a1 a2
            go_wp2_with fail
            go_roundg (m7 - (0 + 1))
            case measure => clear es; omega
            case rel => exact ⟨0 + 1, hlt, Nat.le_refl _, by go_num, HBQ.out⟩
          · obtain ⟨i1, hi1⟩ : ∃ i1, i1 + 1 = ii := ⟨ii - 1, by omega⟩
            obtain ⟨ja, jb, hja, hjb, ida, idb, hab⟩ := woke_two l kk i1 (by rw [HNN.out]; omega)
            rw [hi1] at idb
            have u0 := HCJ.out i1 (by omega)
            have u1 := HCJ.out ii hlt
            rw [ida] at u0
            rw [idb] at u1
            have x0 := HLC.out ja (by have := HKN.out; omega)
            have x1 := HLC.out jb (by have := HKN.out; omega)
            generalize l[ja]! = la at x0 hab
            generalize l[jb]! = lb at x1 hab
            have a3 : ¬ (((ja : Nat) : Int) < 0) := by omega
            have a4 : ¬ (((jb : Nat) : Int) < 0) := by omega
            have a5 : (ja : Int) < (n : Int) := by have := HKN.out; omega
            have a6 : (jb : Int) < (n : Int) := by have := HKN.out; omega
            obtain ⟨A, hA⟩ : ∃ A : Int, (ja : Int) + 1 = A := ⟨_, rfl⟩
            obtain ⟨B, hB⟩ : ∃ B : Int, (jb : Int) + 1 = B := ⟨_, rfl⟩
            rw [hA] at u0
            rw [hB] at u1
            have a1 : ¬ A < 1 := by omega
            have a2 : ¬ (n : Int) < A := by omega
            have b1 : ¬ B < 1 := by omega
            have b2 : ¬ (n : Int) < B := by omega
            have i0 : (0 : Int) < (ii : Int) := by omega
            have i0' : 0 < ii := by omega
            have i1z : (i1 : Int) < (m7 : Int) := by omega
            have i1n : ¬ ((i1 : Int) < 0) := by omega
            have e1 : wrap64 ((ii : Int) - 1) = (i1 : Int) := by have := HL20.out; unfold wrap64; omega
            have e1' : IntKind.i64.wrap ((ii : Int) - 1) = (i1 : Int) := by rw [IntKind.wrap_i64]; have := HL20.out; omega
            have e2 : wrap64 (A - 1) = (ja : Int) := by unfold wrap64; omega
            have e2' : IntKind.i64.wrap (A - 1) = (ja : Int) := by rw [IntKind.wrap_i64]; omega
            have e3 : wrap64 (B - 1) = (jb : Int) := by unfold wrap64; omega
            have e3' : IntKind.i64.wrap (B - 1) = (jb : Int) := by rw [IntKind.wrap_i64]; omega
            have HAB := hidP (show (la < lb ∨ (la = lb ∧ A < B)) by omega)
            clear hA hB hab hja hjb ida idb HCJ HLC BK h0 hi1
            have HX := hidP (And.intro x0 (And.intro x1 (And.intro a3 (And.intro a4 (And.intro a5 (And.intro a6 (And.intro e2 (And.intro e2' (And.intro e3 e3')))))))))
            clear x0 x1 a3 a4 a5 a6 e2 e2' e3 e3'
            go_upto_region 19 with fail
            clear a1 a2 b1 b2 e1
            obtain ⟨x0, x1, a3, a4, a5, a6, e2, e2', e3, e3'⟩ := HX.out
            clear HX e2 e3
            rcases HAB.out with h1 | ⟨h1, h2⟩
            · have c1 : ¬ lb < la := by omega
              have c2 : (la == lb) = false := by simp; omega
              clear HAB h1
              go_quiet (fail)
              have es := HES.out
              have HBQ := hidP (belowM HBK.out nq)
              clear u0 u1 x0 x1 a3 a4 a5 a6 e1' e2' e3' c1 c2 i0 i0' i1z i1n
              go_wp2_with fail
              go_roundg (m7 - (ii + 1))
              case measure => clear es; omega
              case rel => exact ⟨ii + 1, hlt, Nat.le_refl _, by go_num, HBQ.out⟩
            · have c1 : ¬ lb < la := by omega
              have c2 : (la == lb) = true := by simp [h1]
              have c3 : ¬ B < A := by omega
              clear HAB h1 h2
              go_quiet (fail)
              have es := HES.out
              have HBQ := hidP (belowM HBK.out nq)
              clear u0 u1 x0 x1 a3 a4 a5 a6 e1' e2' e3' c1 c2 c3 i0 i0' i1z i1n
              go_wp2_with fail
              go_roundg (m7 - (ii + 1))
              case measure => clear es; omega
              case rel => exact ⟨ii + 1, hlt, Nat.le_refl _, by go_num, HBQ.out⟩
        · have hltz : ¬ (ii : Int) < (m7 : Int) := by omega
          have HBF := hidP (HB8.out.trans (BK.out.mono HB8.out.size))
          go_wp2_with fail
          go_ret
          exact ⟨rfl, HBF.out⟩
end Go.Proofs.Ytcfeailakljpnaa.wak
