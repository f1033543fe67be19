/- The walk of BarsTell. -/
import Derived.Test.YtkbegagpliiljaaDoorBTRef2
import Derived.Test.YtkbegagpliiljaaDoorBTRef3
import Derived.Test.YtkbegagpliiljaaDoorBarBars
import Derived.Test.YtkbegagpliiljaaDoorBarMean
import Derived.Test.YtkbegagpliiljaaDoorTold
namespace Go.Proofs.YtkbegagpliiljaaDoor.bar
open Go.RowKit Go.Proofs.YtkbegagpliiljaaDoor.mee
open Go.Proofs.YtkbegagpliiljaaDoor.spn (keeps rangeE errV errV_zero errV_of)

theorem terr (k e : Int) (w : World) (hL : told.Laid w) : ∀ W, Below w.heap.size w W → Calls Tryd.prog 7 #[errV k, .int .i64 e] W fun ev w' => ev = .returned (.bool (k == e)) ∧ Below W.heap.size W w' := fun W hW =>
  (told.error_any W k e W ⟨hL.below hW, Below.refl _ _⟩).mono fun _ _ h => ⟨h.1, h.2.2⟩
theorem row_form {W : World} {base : Nat} {e : TypeId} {sz : Nat} {v : Value} {n : Nat} {xs : List Value} (h : W.ownsRow base e sz v n xs) : ∃ q c, v = .slice q n c := by
  rcases h.2 with ⟨h1, h2⟩ | ⟨g, cap, cur, h1, _⟩
  · subst h2; exact ⟨_, _, h1⟩
  · exact ⟨_, _, h1⟩
theorem bchk_good {zs : List T} (h : bchk zs = 0) : zs.length ≤ 400 ∧ zs.any badT = false := bchk_zero h
theorem part_len (n : Nat) (zs : List T) (i : Nat) : (partL n zs i).length = min n (zs.length - i) := by simp [partL]
theorem part_good {zs : List T} (h : zs.any badT = false) (n o : Nat) : (partL n zs o).any badT = false := by
  rw [List.any_eq_false] at h ⊢
  exact fun t ht => h t (List.mem_of_mem_drop (List.mem_of_mem_take ht))
theorem barsAt_succ (n : Nat) (zs : List T) (k : Nat) : flatB (barsAt n zs (parts n (k + 1))) = flatB (barsAt n zs (parts n k)) ++ bV (barOf (partL n zs (k * n))) := by
  rw [parts_succ]
  simp [flatB, barsAt]
theorem barF_q : ∀ (r : List T) (a : B), r.any badT = false → 0 ≤ a.q → a.q + 10000 * r.length ≤ 5000000 → (barF a r).q = a.q + qty r
  | [], a, _, _, _ => by simp [barF, qty]
  | t :: r, a, h, h0, h1 => by
    have ht := good_mem h (List.mem_cons_self : t ∈ t :: r)
    have hr' : r.any badT = false := by
      rw [List.any_cons] at h
      cases hq : badT t <;> simp_all
    rw [List.length_cons] at h1
    have hw : wrap64 (a.q + t.qty) = a.q + t.qty := by unfold wrap64; omega
    have e : (bhd a (sgl t)).q = a.q + t.qty := hw
    show (barF (bhd a (sgl t)) r).q = _
    rw [barF_q r (bhd a (sgl t)) hr' (by rw [e]; omega) (by rw [e]; omega), e, qty]
    omega
theorem barOf_q {zs : List T} (h : zs.any badT = false) (h0 : 0 < zs.length) (h4 : zs.length ≤ 400) : (barOf zs).q = qty zs := by
  cases zs with
  | nil => simp at h0
  | cons t r =>
    have ht := good_mem h (List.mem_cons_self : t ∈ t :: r)
    have hr' : r.any badT = false := by
      rw [List.any_cons] at h
      cases hq : badT t <;> simp_all
    rw [List.length_cons] at h4
    show (barF (sgl t) r).q = _
    rw [barF_q r (sgl t) hr' (by simp only [sgl]; omega) (by simp only [sgl]; omega), qty]
    rfl
theorem joinOf_take {bs : List B} {k : Nat} (h : k < bs.length) : joinOf (bs.take (k + 1)) = if k = 0 then bs[k]! else bhd (joinOf (bs.take k)) bs[k]! := by
  cases bs with
  | nil => simp at h
  | cons b r =>
    cases k with
    | zero => simp [joinOf]
    | succ k =>
      rw [if_neg (by omega)]
      show (List.take (k + 1) r).foldl bhd b = bhd ((List.take k r).foldl bhd b) _
      rw [fold_take (show k < r.length by simpa using h)]
      rfl
theorem put3 {w : World} {g : Nat} {e : TypeId} {a0 a1 a2 a3 a4 b : Value} (h : w.heap[g]? = some (.cells #[a0, a1, a2, a3, a4] e (0, 0))) :
    (w.setCell ⟨g, 3, none⟩ b).heap[g]? = some (.cells #[a0, a1, a2, b, a4] e (0, 0)) := by simpa using heap_setCell_same w g 3 _ _ b h
theorem cut_part (n : Nat) (zs : List T) (i j : Nat) (h : j = min (i + n) zs.length) (hi : i < zs.length) : (zs.drop i).take (j - i) = partL n zs i := by
  rw [← take_min]
  congr 1
  omega
theorem cnt_lt2 {n k j : Nat} (hn : 1 ≤ n) (h : j < cnt n k) : j * n < k := by
  unfold cnt at h
  have h1 : (j + 1) * n ≤ k + n - 1 := (Nat.le_div_iff_mul_le (by omega)).1 (show j + 1 ≤ (k + n - 1) / n from h)
  rw [Nat.add_mul] at h1
  omega
theorem cnt_ge2 {n k : Nat} (hn : 1 ≤ n) : k ≤ cnt n k * n := by
  unfold cnt
  have h := Nat.div_add_mod (k + n - 1) n
  have h2 := Nat.mod_lt (k + n - 1) (show 0 < n by omega)
  rw [Nat.mul_comm] at h
  omega
theorem cnt_le2 {n k : Nat} (hn : 1 ≤ n) : cnt n k ≤ k := by
  unfold cnt
  rcases Nat.eq_zero_or_pos k with rfl | h
  · rw [Nat.div_eq_of_lt (by omega)]; exact Nat.le_refl _
  · refine Nat.le_of_lt_succ ((Nat.div_lt_iff_lt_mul (by omega)).2 ?_)
    have : k * 1 ≤ k * n := Nat.mul_le_mul_left _ hn
    rw [show k.succ * n = k * n + n by rw [Nat.succ_mul]]
    omega
/-- What a round's numbers come to. -/
theorem tell_nums {i N m : Nat} (hi : i < m) (hm : m ≤ 400) (hN : N ≤ 400) : wrap64 ((i : Int) + (N : Int)) = ((i + N : Nat) : Int) := by unfold wrap64; omega
theorem barsAt_len (n : Nat) (zs : List T) (k : Nat) : (barsAt n zs (parts n k)).length = k := by simp [barsAt, parts]

set_option maxRecDepth 100000 in
set_option maxHeartbeats 8000000 in
theorem tell_any (v : Value) (zs : List T) (n : Int) (vb : Value) (bs : List B) (w : World) (h : TL w v zs) (hb : BL w vb bs) (hL : told.Laid w) :
    Calls Tryd.prog 3 #[v, .int .i64 n, vb] w fun e w' => e = .returned (.bool true) ∧ Below w.heap.size w w' := by
  have HT := hidT (fun W (hW : Below w.heap.size w W) => h.below hW)
  have HB := hidT (fun W (hW : Below w.heap.size w W) => hb.below hW)
  have HER := hidT (fun k e => terr k e w hL)
  have HDE := hidT (rdeals_any v zs w h)
  have HBA := hidT (fun W (hW : Below w.heap.size w W) => bars_any v zs n W (h.below hW))
  obtain ⟨q, c, rfl, hc1, hc2⟩ := h.form
  obtain ⟨qb, cb, rfl, hd1, hd2⟩ := hb.form
  have HCC : Hid (zs.length ≤ c ∧ c ≤ 9223372036854775807 ∧ bs.length ≤ cb ∧ cb ≤ 9223372036854775807) := ⟨hc1, hc2, hd1, hd2⟩
  obtain ⟨E, hE⟩ : ∃ E, E = bchk zs := ⟨_, rfl⟩
  obtain ⟨F, hF⟩ : ∃ F, F = barsE zs n := ⟨_, rfl⟩
  have HF : Hid (F = if E = 0 then (if 1 ≤ n ∧ n ≤ 400 then 0 else 1) else E) := by show F = _; rw [hF, hE]; rfl
  have HEE := hidT hE
  have HFE := hidT hF
  simp only [← hE] at HDE
  simp only [← hF] at HBA
  clear h hb hL hc1 hc2 hd1 hd2 hE hF
  obtain ⟨m, hm⟩ : ∃ m, zs.length = m := ⟨_, rfl⟩
  have HM := hidT hm
  simp only [hm] at HDE HBA HCC ⊢
  obtain ⟨nb, hnb⟩ : ∃ m, bs.length = m := ⟨_, rfl⟩
  have HNB := hidT hnb
  simp only [hnb] at HCC ⊢
  clear hm hnb
  go_enter Tryd.func3, Tryd.ntmps3
  go_wp2_with fail
  refine HDE.out.mono ?_
  rintro e w1 ⟨rfl, hb1⟩
  have HB1 := hidT hb1
  clear hb1 HDE
  go_upto_region 3 with fail
  go_cut [44] from 35 to 44 (fun s44 wx => s44 = .bool (decide (¬ F = E)) ∧ wx = w1)
  case first =>
    by_cases h0 : E = 0
    · subst h0
      by_cases h1 : 1 ≤ n
      · by_cases h2 : n ≤ 400
        · have HG : Hid (decide (¬ F = 0) = false) := by show _ = _; rw [HF.out, if_pos rfl, if_pos ⟨h1, h2⟩]; rfl
          have h1' : ¬ n < 1 := by omega
          have h2' : ¬ 400 < n := by omega
          go_wp2_with fail
          go_meet
          case rel => exact ⟨congrArg Value.bool HG.out.symm, rfl⟩
        · have HG : Hid (decide (¬ F = 0) = true) := by show _ = _; rw [HF.out, if_pos rfl, if_neg (fun hh => h2 hh.2)]; rfl
          have h1' : ¬ n < 1 := by omega
          have h2' : 400 < n := by omega
          go_wp2_with fail
          go_meet
          case rel => exact ⟨congrArg Value.bool HG.out.symm, rfl⟩
      · have HG : Hid (decide (¬ F = 0) = true) := by show _ = _; rw [HF.out, if_pos rfl, if_neg (fun hh => h1 hh.1)]; rfl
        have h1' : n < 1 := by omega
        go_wp2_with fail
        go_meet
        case rel => exact ⟨congrArg Value.bool HG.out.symm, rfl⟩
    · have HG : Hid (decide (¬ F = E) = false) := by
        show _ = _
        rw [HF.out, if_neg h0]
        simp
      have h0' : (E == 0) = false := by simpa using h0
      go_wp2_with fail
      go_meet
      case rel => exact ⟨congrArg Value.bool HG.out.symm, rfl⟩
  case rest =>
  obtain ⟨rfl, rfl⟩ := hcut
  go_upto_if 44 with fail
  go_cut [8] from 35 to 44 (fun s8 wx => s8 = .int .i64 F ∧ wx = wc)
  case first =>
    by_cases h0 : F = E
    · have hd : decide (¬ F = E) = false := by rw [h0]; simp
      rw [hd]
      go_wp2_with fail
      go_meet
      case rel => exact ⟨congrArg (Value.int .i64) h0.symm, rfl⟩
    · have hd : decide (¬ F = E) = true := by simp [h0]
      have HG : Hid (F = 1) := by
        have hf := HF.out
        show F = 1
        by_cases he : E = 0
        · rw [if_pos he] at hf
          split at hf
          · exact absurd (hf.trans he.symm) h0
          · exact hf
        · rw [if_neg he] at hf
          exact absurd hf h0
      rw [hd]
      go_wp2_with fail
      go_meet
      case rel => exact ⟨congrArg (Value.int .i64) HG.out.symm, rfl⟩
  case rest =>
  obtain ⟨rfl, rfl⟩ := hcut
  obtain ⟨N, hNN⟩ : ∃ N, N = n.toNat := ⟨_, rfl⟩
  obtain ⟨gl, hgl⟩ : ∃ gl, gl = (if F = 0 then barsOf zs n.toNat else []) := ⟨_, rfl⟩
  have HGL : Hid (gl = (if F = 0 then barsOf zs N else [])) := by rw [hNN]; exact hgl
  rw [← hgl] at HBA
  obtain ⟨lim, hlim⟩ : ∃ lim, lim = if F = 0 then cnt N m else 0 := ⟨_, rfl⟩
  have HLIM := hidT hlim
  have HNM : Hid (F = 0 → n = (N : Int) ∧ 1 ≤ N ∧ N ≤ 400 ∧ m ≤ 400 ∧ zs.any badT = false) := by
    intro hF0
    have hf := HF.out
    rw [hF0] at hf
    have hE0 : E = 0 := by
      by_cases he : E = 0
      · exact he
      · rw [if_neg he] at hf; exact hf.symm
    rw [if_pos hE0] at hf
    have hn2 : 1 ≤ n ∧ n ≤ 400 := by
      split at hf
      · assumption
      · cases hf
    obtain ⟨h4, hgd⟩ := bchk_good (zs := zs) (by rw [← HEE.out]; exact hE0)
    rw [HM.out] at h4
    exact ⟨by omega, by omega, by omega, h4, hgd⟩
  clear hNN hlim hgl
  obtain ⟨i0, hi0, hz0, hz1, hz2⟩ := infoB'
  have HI := hidT hi0
  clear hi0
  go_wp2_with fail
  go_loopg [9, 10, 11, 12] lim (fun gg s9 s10 _ _ wr => ∃ (kk i : Nat) (q' : Option Addr) (c' : Nat), kk ≤ lim ∧ lim - kk ≤ gg ∧ i = kk * N ∧ s9 = .slice q' kk c' ∧ s10 = .int .i64 i ∧ Aside (wr.ownsRow w.heap.size 26 5 (.slice q' kk c') kk (flatB (barsAt N zs (parts N kk))) ∧ Below w.heap.size w wr))
  case atStart => exact ⟨0, 0, none, 0, Nat.zero_le _, by omega, by omega, rfl, rfl, World.ownsRow_nil _ _ _ _, HB1.out⟩
  case round =>
    obtain ⟨kk, i, q', c', hkk, hg, hi, rfl, rfl, HA⟩ := hrel
    have HII := hidT hi
    clear hi
    go_upto_region 7 with fail
    go_cut [52] from 45 to 52 (fun s52 wx => s52 = .bool (decide (kk < lim)) ∧ wx = wr)
    case first =>
      by_cases him : i < m
      · have himz : (i : Int) < (m : Int) := by omega
        by_cases hF0 : F = 0
        · have hd : Hid (decide (kk < lim) = true) := by
            show _ = _
            rw [HLIM.out, if_pos hF0]
            apply decide_eq_true
            rcases Nat.lt_or_ge kk (cnt N m) with h | h
            · exact h
            · exfalso
              have h1 := cnt_ge2 (k := m) (HNM.out hF0).2.1
              have h2 : cnt N m * N ≤ kk * N := Nat.mul_le_mul_right _ h
              rw [HII.out] at him
              omega
          subst hF0
          go_wp2_with fail
          go_meet
          case rel => exact ⟨congrArg Value.bool hd.out.symm, rfl⟩
        · have hd : Hid (decide (kk < lim) = false) := by
            show _ = _
            rw [HLIM.out, if_neg hF0]
            simp
          have hFb : (F == 0) = false := by simpa using hF0
          go_wp2_with fail
          go_meet
          case rel => exact ⟨congrArg Value.bool hd.out.symm, rfl⟩
      · have himz : ¬ (i : Int) < (m : Int) := by omega
        have hd : Hid (decide (kk < lim) = false) := by
          show _ = _
          apply decide_eq_false
          intro hh
          rw [HLIM.out] at hh
          by_cases hF0 : F = 0
          · rw [if_pos hF0] at hh
            have := cnt_lt2 (HNM.out hF0).2.1 hh
            rw [HII.out] at him
            omega
          · rw [if_neg hF0] at hh
            omega
        go_wp2_with fail
        go_meet
        case rel => exact ⟨congrArg Value.bool hd.out.symm, rfl⟩
    case rest =>
    obtain ⟨rfl, rfl⟩ := hcut
    go_upto_if 52 with fail
    by_cases hlt : kk < lim
    · rw [decide_eq_true hlt]
      have hF0 : F = 0 := by
        by_cases h : F = 0
        · exact h
        · rw [HLIM.out, if_neg h] at hlt; omega
      obtain ⟨hnn, hN1, hN4, hm4, hgd⟩ := HNM.out hF0
      subst hF0 hnn
      have hkc : kk < cnt N m := by rw [HLIM.out, if_pos rfl] at hlt; exact hlt
      have him : i < m := by rw [HII.out]; exact cnt_lt2 hN1 hkc
      obtain ⟨j, hj⟩ : ∃ j, j = min (i + N) m := ⟨_, rfl⟩
      have HJ : Hid (j = min (i + N) m ∧ i < j ∧ j ≤ m ∧ i < m ∧ m ≤ 400 ∧ N ≤ 400 ∧ 1 ≤ N) := ⟨hj, by omega, by omega, him, hm4, hN4, hN1⟩
      have u1 := tell_nums him hm4 hN4
      have HKK : Hid (kk < lim ∧ lim - kk ≤ gk) := ⟨hlt, hg⟩
      have HTP : Hid (∀ W, Below w.heap.size w W → ∃ q2, Value.slice q2 (j - i) (c - i) = Value.slice q2 (j - i) (c - i) ∧ (∃ b off, q = some ⟨b, off, none⟩ ∧ q2 = some ⟨b, off + i * 6, none⟩) ∧ TL W (.slice q2 (j - i) (c - i)) (partL N zs i)) := by
        intro W hW
        have hx := HT.out W hW
        rcases hx with ⟨_, h2⟩ | ⟨b, off, c0, h1, h2, h3, h4, h5⟩
        · exfalso
          have h0 := HM.out
          rw [h2] at h0
          simp at h0
          omega
        · cases h1
          refine ⟨some ⟨b, off + i * 6, none⟩, rfl, ⟨b, off, rfl, rfl⟩, ?_⟩
          have hp := XL.part (sz := 6) (enc := tV) (w := W) (b := b) (o := off) (n := zs.length) (c := c) (zs := zs) (.inr ⟨b, off, c, rfl, h2, h3, h4, h5⟩) (i := i) (m := j - i) (d := c - i) (by have h1 := HJ.out.2.2.1; have h2 := HJ.out.2.1; rw [HM.out, Nat.add_sub_cancel' (Nat.le_of_lt h2)]; exact h1) (Nat.sub_le_sub_right (Nat.le_trans HJ.out.2.2.1 HCC.out.1) i) (Nat.le_trans (Nat.sub_le _ _) HCC.out.2.1)
          rw [cut_part N zs i j (by rw [HM.out]; exact hj) (by rw [HM.out]; exact him)] at hp
          exact hp
      have HKC := hidT hkc
      clear hj hkk hg hlt hkc him hm4 hN4 hN1
      go_upto_if 62 with fail
      go_cut [11] from 56 to 64 (fun s11 wx => s11 = .int .i64 j ∧ wx = wc)
      case first =>
        by_cases ho : m < i + N
        · have hoz : (m : Int) < ((i + N : Nat) : Int) := by omega
          have hje : Hid (j = m) := by have := HJ.out; show j = m; omega
          go_wp2_with fail
          go_meet
          case rel => exact ⟨congrArg (Value.int .i64) (by rw [hje.out] <;> first | rfl | simp), rfl⟩
        · have hoz : ¬ (m : Int) < ((i + N : Nat) : Int) := by omega
          have hje : Hid (j = i + N) := by have := HJ.out; show j = i + N; omega
          go_wp2_with fail
          go_meet
          case rel => exact ⟨congrArg (Value.int .i64) (by rw [hje.out] <;> first | rfl | simp), rfl⟩
      case rest =>
      obtain ⟨rfl, rfl⟩ := hcut
      obtain ⟨q2, -, ⟨b, off, rfl, rfl⟩, -⟩ := HTP.out wc HA.out.2
      have HTL : Hid (∀ W, Below w.heap.size w W → TL W (.slice (some ⟨b, off + i * 6, none⟩) (j - i) (c - i)) (partL N zs i)) := by
        intro W hW
        obtain ⟨q2, -, ⟨b', off', h1, rfl⟩, h2⟩ := HTP.out W hW
        cases h1
        exact h2
      have HRB : Hid (∀ W, Below w.heap.size w W → Calls Tryd.prog 5 #[.slice (some ⟨b, off + i * 6, none⟩) (j - i) (c - i)] W fun e w' => e = .returned (.agg (bV (barOf (partL N zs i))).toArray) ∧ Below W.heap.size W w') := fun W hW =>
        rbarOf_any _ _ W (HTL.out W hW) (by rw [part_len, HM.out]; have := HJ.out; omega) (part_good hgd N i) (by rw [part_len]; have := HJ.out; omega)
      obtain ⟨R, hR⟩ : ∃ R, R = barOf (partL N zs i) := ⟨_, rfl⟩
      rw [← hR] at HRB
      have hsucc := barsAt_succ N zs kk
      rw [← HII.out, ← hR] at hsucc
      obtain ⟨o, hh, l, cl, qt⟩ := R
      have HRC : Hid (∀ W, Below w.heap.size w W → Calls Tryd.prog 5 #[.slice (some ⟨b, off + i * 6, none⟩) (j - i) (c - i)] W fun e w' => e = .returned (.agg #[.int .i64 o, .int .i64 hh, .int .i64 l, .int .i64 cl, .int .i64 qt]) ∧ Below W.heap.size W w') := HRB.out
      have HSU := hidT hsucc
      have i1 : (0 : Int) ≤ (i : Int) := by omega
      have i2 : (i : Int) ≤ (j : Int) := by have := HJ.out; omega
      have i3 : (j : Int) ≤ (c : Int) := by have := HJ.out; have := HCC.out.1; omega
      have i4 : ¬ c = i := by have := HJ.out; have := HCC.out.1; omega
      clear hR HRB hsucc HTP HTL hgd
      have HA2 := hidT HA.out
      clear HA
      go_upto_region 12 with fail
      go_wp2_with fail
      refine (HRC.out wc HA2.out.2).mono ?_
      rintro e w3 ⟨rfl, hb3⟩
      obtain ⟨w4, hw4⟩ : ∃ x, x = w3.alloc (.cells #[.int .i64 o, .int .i64 hh, .int .i64 l, .int .i64 cl, .int .i64 qt] 26) := ⟨_, rfl⟩
      have hb4 : Below w3.heap.size w3 w4 := by rw [hw4]; exact (Below.refl _ _).alloc (Nat.le_refl _) _
      have hr4 : w4.heap[w3.heap.size]? = some (.cells #[.int .i64 o, .int .i64 hh, .int .i64 l, .int .i64 cl, .int .i64 qt] 26 (0, 0)) := by rw [hw4]; exact heap_alloc_new w3 _
      have HO4 := hidT ((HA2.out.1.kept (gr_of hb3) (Classical.em _)).kept (gr_of hb4) (Classical.em _))
      have HB4 := hidT ((HA2.out.2.trans (hb3.mono HA2.out.2.size)).trans (hb4.mono (Nat.le_trans HA2.out.2.size hb3.size)))
      have HO5 := hidT (HO4.out.alloc (.cells #[.int .i64 o, .int .i64 hh, .int .i64 l, .int .i64 cl, .int .i64 qt] 26))
      have HB5 := hidT (HB4.out.alloc HB4.out.size (.cells #[.int .i64 o, .int .i64 hh, .int .i64 l, .int .i64 cl, .int .i64 qt] 26))
      have HNW := hidT (new5 w4 [.int .i64 o, .int .i64 hh, .int .i64 l, .int .i64 cl, .int .i64 qt] 26)
      have HPL : Hid (kk + 1 ≤ maxLen ∧ (kk + 1) * 40 ≤ 140737488355328) := by
        have h1 := HKC.out
        have h2 := cnt_le2 (n := N) (k := m) HJ.out.2.2.2.2.2.2
        have h3 := HJ.out.2.2.2.2.1
        have h4 : kk < 400 := Nat.lt_of_lt_of_le h1 (Nat.le_trans h2 h3)
        clear h1 h2 h3
        exact ⟨by unfold maxLen; omega, by omega⟩
      obtain ⟨r0, r1, r2, r3, r4⟩ := row5 hr4
      go_upto_region 13 with fail
      simp only [← hw4]
      clear hw4 hb3 hb4 hr4 HRC HO4 HB4 HA2 i1 i2 i3 i4
      go_wp2_with (at_builtin; (refine wpList_append_own _ rfl _ _ 23 rfl w.heap.size 26 i0 zeroB 5 40 Tryd.underlying23 HI.out hz0 hz1 hz2 rfl (by decide) (.slice q' kk c') _ _ rfl HO5.out ⟨w4.heap.size, 0, none⟩ 1 1 [.int .i64 o, .int .i64 hh, .int .i64 l, .int .i64 cl, .int .i64 qt] rfl rfl HNW.out (one5 _ _ _ _ _) HPL.out.1 HPL.out.2 HB5.out.size ?_))
      intro v' w6 hO' hgr _
      obtain ⟨q6, c6, hv'⟩ := row_form hO'
      subst hv'
      have HNX : Hid (w6.ownsRow w.heap.size 26 5 (.slice q6 (kk + 1) c6) (kk + 1) (flatB (barsAt N zs (parts N (kk + 1)))) ∧ Below w.heap.size w w6) := by
        refine ⟨?_, HB5.out.grown hgr HB5.out.size (fun j hj => row_ge HO5.out j hj)⟩
        rw [HSU.out]
        exact hO'
      clear hO' hgr HO5 HNW HB5 r0 r1 r2 r3 r4
      go_wp2_with fail
      go_roundg (lim - (kk + 1))
      case measure => have := HKK.out; clear u1; omega
      case rel => exact ⟨kk + 1, i + N, q6, c6, HKK.out.1, Nat.le_refl _, by rw [HII.out, Nat.add_mul]; omega, rfl, by first | rfl | exact congrArg (Value.int .i64) u1, HNX.out⟩
    · rw [decide_eq_false hlt]
      have hke : kk = lim := by omega
      subst hke
      have hgl2 : barsAt N zs (parts N kk) = gl := by
        rw [HGL.out, HLIM.out]
        by_cases h : F = 0
        · rw [if_pos h, if_pos h, ← HM.out]
          rfl
        · rw [if_neg h, if_neg h]
          rfl
      have hrow := HA.out.1
      rw [hgl2] at hrow
      have hL : gl.length = kk := by rw [← hgl2, barsAt_len]
      have hwant : BL wc (.slice q' kk c') gl := bl_of_row (by rw [hL]; exact hrow)
      have HWB := hidT HA.out.2
      have HWA := hidT hwant
      have HL := hidT hL
      have HL4 : Hid (kk ≤ 400) := by
        show kk ≤ 400
        rw [HLIM.out]
        by_cases h : F = 0
        · rw [if_pos h]
          obtain ⟨_, g1, _, g4, _⟩ := HNM.out h
          exact Nat.le_trans (cnt_le2 g1) g4
        · rw [if_neg h]
          exact Nat.zero_le _
      clear hwant hkk hg hlt HA hz0 hz1 hz2 HI hgl2 hrow hL HLIM
      generalize kk = L at *
      go_wp2_with fail
      refine (HBA.out wc HWB.out).mono ?_
      rintro e w2 ⟨got, rfl, hgot, hb2⟩
      have HW2 := hidT (HWB.out.trans (hb2.mono HWB.out.size))
      have HWA2 := hidT (HWA.out.below hb2)
      obtain ⟨q3, c3, rfl, -, -⟩ := hgot.form
      have HGO := hidT hgot
      simp only [HL.out] at HGO ⊢
      clear hb2 hgot HBA HWA HWB
      have HE1 := hidT (HER.out F F)
      rw [beq_self_eq_true] at HE1
      obtain ⟨ev, hev⟩ : ∃ ev, ev = errV F := ⟨_, rfl⟩
      simp only [← hev] at HE1 ⊢
      clear hev
      go_wp2_with fail
      refine (HE1.out w2 HW2.out).mono ?_
      rintro e w3 ⟨rfl, hb3⟩
      have HW3 := hidT (HW2.out.trans (hb3.mono HW2.out.size))
      have HWA3 := hidT (HWA2.out.below hb3)
      have HGO3 := hidT (HGO.out.below hb3)
      clear hb3 HW2 HWA2 HGO HE1
      go_wp2_with fail
      go_loopg [16] L (fun gg s16 wr => ∃ jj : Nat, jj ≤ L ∧ L - jj ≤ gg ∧ s16 = .int .i64 jj ∧ Aside (Below w3.heap.size w3 wr))
      case atStart => exact ⟨0, Nat.zero_le _, by omega, rfl, Below.refl _ _⟩
      case round =>
        obtain ⟨jj, hjj, hg, rfl, HA⟩ := hrel
        by_cases hlt : jj < L
        · have hltz : (jj : Int) < (L : Int) := by omega
          have hin1 : ¬ ((jj : Int) < 0) := by omega
          have hlz : jj < gl.length := by rw [HL.out]; exact hlt
          obtain ⟨g1, o1, rfl, hg1, hc1⟩ := (HGO3.out.below HA.out).at hlz
          obtain ⟨g2, o2, rfl, hg2, hc2⟩ := (HWA3.out.below HA.out).at hlz
          generalize gl[jj]! = x at *
          obtain ⟨x1, x2, x3, x4, x5⟩ := x
          have c0 := hc1 0 _ rfl
          have c1 := hc1 1 _ rfl
          have c2 := hc1 2 _ rfl
          have c3 := hc1 3 _ rfl
          have c4 := hc1 4 _ rfl
          have d0 := hc2 0 _ rfl
          have d1 := hc2 1 _ rfl
          have d2 := hc2 2 _ rfl
          have d3 := hc2 3 _ rfl
          have d4 := hc2 4 _ rfl
          simp only [Nat.add_zero] at c0 d0
          have HWK := hidT (wrapSucc jj L hlt (by have := HL4.out; omega))
          have HKK : Hid (jj < L ∧ L - jj ≤ gk) := ⟨hlt, hg⟩
          have HBW := hidT HA.out
          clear hc1 hc2 hjj hg hlt HA hlz hg1 hg2
          go_upto_region 21 with fail
          go_quiet (fail)
          have HBN := hidT (HBW.out.trans (⟨rfl, rfl, rfl, Nat.le_refl _, fun _ _ => rfl⟩ : Below w3.heap.size wr (wr.drewN nq)))
          generalize wr.drewN nq = wn at *
          clear c0 c1 c2 c3 c4 d0 d1 d2 d3 d4
          go_wp2_with fail
          go_roundg (L - (jj + 1))
          case measure => have := HKK.out; omega
          case rel => exact ⟨jj + 1, HKK.out.1, Nat.le_refl _, by first | exact congrArg (Value.int .i64) HWK.out | go_num | simp, HBN.out⟩
        · have hje : jj = L := by omega
          have hltz : ¬ (jj : Int) < (L : Int) := by omega
          have HW4 := hidT (HW3.out.trans (HA.out.mono HW3.out.size))
          clear hje hjj hg hlt HA HGO3 HWA3
          obtain ⟨E2, hE2⟩ : ∃ E2, E2 = bsome zs := ⟨_, rfl⟩
          have HE2 : Hid (E2 = if E = 0 then (if m = 0 then 5 else 0) else E) := by
            show E2 = _
            rw [hE2, HEE.out]
            unfold bsome
            rw [HM.out]
          have HES := hidT hE2
          clear hE2
          go_upto_region 23 with fail
          go_cut [109] from 103 to 109 (fun s109 wx => s109 = .bool (decide (E = 0 ∧ m = 0)) ∧ wx = wr)
          case first =>
            by_cases h0 : E = 0
            · subst h0
              by_cases h1 : m = 0
              · have hm0 : ((m : Int) == 0) = true := by simp [h1]
                have hd : Hid (decide ((0 : Int) = 0 ∧ m = 0) = true) := decide_eq_true ⟨rfl, h1⟩
                clear h1
                go_wp2_with fail
                go_meet
                case rel => exact ⟨congrArg Value.bool hd.out.symm, rfl⟩
              · have hm0 : ((m : Int) == 0) = false := by simp; omega
                have hd : Hid (decide ((0 : Int) = 0 ∧ m = 0) = false) := decide_eq_false (fun hh => h1 hh.2)
                clear h1
                go_wp2_with fail
                go_meet
                case rel => exact ⟨congrArg Value.bool hd.out.symm, rfl⟩
            · have h0' : (E == 0) = false := by simpa using h0
              have hd : Hid (decide (E = 0 ∧ m = 0) = false) := decide_eq_false (fun hh => h0 hh.1)
              go_wp2_with fail
              go_meet
              case rel => exact ⟨congrArg Value.bool hd.out.symm, rfl⟩
          case rest =>
          obtain ⟨rfl, rfl⟩ := hcut
          go_upto_if 109 with fail
          go_cut [7] from 103 to 109 (fun s7 wx => s7 = .int .i64 E2 ∧ wx = wc)
          case first =>
            by_cases h0 : E = 0 ∧ m = 0
            · rw [decide_eq_true h0]
              have hd : Hid (E2 = 5) := by show E2 = 5; rw [HE2.out, if_pos h0.1, if_pos h0.2]
              clear h0
              go_wp2_with fail
              go_meet
              case rel => exact ⟨congrArg (Value.int .i64) hd.out.symm, rfl⟩
            · rw [decide_eq_false h0]
              have hd : Hid (E2 = E) := by
                show E2 = E
                rw [HE2.out]
                by_cases h1 : E = 0
                · rw [if_pos h1, if_neg (fun h2 => h0 ⟨h1, h2⟩)]; exact h1.symm
                · rw [if_neg h1]
              clear h0
              go_wp2_with fail
              go_meet
              case rel => exact ⟨congrArg (Value.int .i64) hd.out.symm, rfl⟩
          case rest =>
          obtain ⟨rfl, rfl⟩ := hcut
          obtain ⟨Y, hY⟩ : ∃ y, y = wc.heap.size := ⟨_, rfl⟩
          obtain ⟨V4, hV4⟩ : ∃ V, V = wc.alloc (.cells #[.int .i64 0, .int .i64 0, .int .i64 0, .int .i64 0, .int .i64 0] 26) := ⟨_, rfl⟩
          have HV4 : Hid (V4.heap[Y]? = some (.cells #[.int .i64 0, .int .i64 0, .int .i64 0, .int .i64 0, .int .i64 0] 26 (0, 0)) ∧ Below w.heap.size w V4 ∧ w.heap.size ≤ Y ∧ Y < V4.heap.size) := by
            rw [hV4, hY]
            exact ⟨heap_alloc_new wc _, HW4.out.alloc HW4.out.size _, HW4.out.size, by rw [World.size_alloc]; exact Nat.lt_succ_self _⟩
          go_upto_if 111 with fail
          simp only [← hY, ← hV4]
          clear hY hV4
          obtain ⟨R0, hR0⟩ : ∃ R, R = if E2 = 0 then barOf zs else barZ := ⟨_, rfl⟩
          obtain ⟨MN, hMN⟩ : ∃ M, M = meanE zs := ⟨_, rfl⟩
          have HR0 := hidT hR0
          have HMN : Hid (MN = if E2 = 0 then (wor zs).tdiv (qty zs) else 0) := by show MN = _; rw [hMN, HES.out]; rfl
          have HMM := hidT hMN
          clear hR0 hMN
          go_cut [17, 19, 20] from 110 to 136 (fun s17 s19 s20 wx => s17 = .int .i64 MN ∧ Aside (wx.heap[Y]? = some (.cells (bV R0).toArray 26 (0, 0)) ∧ Below w.heap.size w wx))
          case first =>
            by_cases h0 : E2 = 0
            rotate_left
            · have h0' : (E2 == 0) = false := by simpa using h0
              have hd : Hid (MN = 0 ∧ R0 = barZ) := ⟨by rw [HMN.out, if_neg h0], by rw [HR0.out, if_neg h0]⟩
              go_wp2_with fail
              go_meet
              case rel => exact ⟨congrArg (Value.int .i64) hd.out.1.symm, by rw [hd.out.2]; exact HV4.out.1, HV4.out.2.1⟩
            · subst h0
              have hbs : bsome zs = 0 := HES.out.symm
              obtain ⟨hck, hl0⟩ := bsome_zero hbs
              obtain ⟨h4, hgd⟩ := bchk_good hck
              have HD : Hid (MN = (wor zs).tdiv (qty zs) ∧ R0 = barOf zs) := ⟨by rw [HMN.out, if_pos rfl], by rw [HR0.out, if_pos rfl]⟩
              have HRB := hidT (rbarOf_any _ _ V4 (HT.out V4 HV4.out.2.1) hl0 hgd h4)
              rw [← HD.out.2, HM.out] at HRB
              have HQB : Hid (∀ k, k ≤ zs.length → 0 ≤ qty (zs.take k) ∧ qty (zs.take k) ≤ 4000000 ∧ 0 ≤ wor (zs.take k) ∧ wor (zs.take k) ≤ 40000000000) := fun k hk => by
                have h1 := sum_bound (zs.take k) (any_take hgd k)
                rw [List.length_take] at h1
                omega
              have HGA : Hid (∀ k, k < zs.length → _) := fun k hk => good_at hgd hk
              have HQP : Hid (1 ≤ qty zs) := by have := sum_bound zs hgd; show 1 ≤ _; omega
              have HFQ : Hid (R0.q = qty zs) := by rw [HD.out.2]; exact barOf_q hgd hl0 h4
              rw [HM.out] at h4
              have HM4 := hidT h4
              clear hbs hck hl0 hgd h4
              obtain ⟨o, hh, l, cl, qt⟩ := R0
              have HRC : Hid (Calls Tryd.prog 5 #[.slice q m c] V4 fun e w' => e = .returned (.agg #[.int .i64 o, .int .i64 hh, .int .i64 l, .int .i64 cl, .int .i64 qt]) ∧ Below V4.heap.size V4 w') := HRB.out
              have HFIN : Hid (∀ W, Below V4.heap.size V4 W → (((((W.setCell ⟨Y, 0, none⟩ (.int .i64 o)).setCell ⟨Y, 1, none⟩ (.int .i64 hh)).setCell ⟨Y, 2, none⟩ (.int .i64 l)).setCell ⟨Y, 3, none⟩ (.int .i64 cl)).setCell ⟨Y, 4, none⟩ (.int .i64 qt)).heap[Y]? = some (.cells #[.int .i64 o, .int .i64 hh, .int .i64 l, .int .i64 cl, .int .i64 qt] 26 (0, 0)) ∧ Below w.heap.size w (((((W.setCell ⟨Y, 0, none⟩ (.int .i64 o)).setCell ⟨Y, 1, none⟩ (.int .i64 hh)).setCell ⟨Y, 2, none⟩ (.int .i64 l)).setCell ⟨Y, 3, none⟩ (.int .i64 cl)).setCell ⟨Y, 4, none⟩ (.int .i64 qt))) := fun W hW =>
                ⟨set5 ((hW.block Y HV4.out.2.2.2).trans HV4.out.1), low5 (HV4.out.2.1.trans (hW.mono HV4.out.2.1.size)) HV4.out.2.2.1⟩
              clear HRB
              go_upto_region 29 with (go_at_call 5; refine HRC.out.mono ?_; rintro e W3 ⟨rfl, hb3⟩; obtain ⟨q0, q1, q2, q3, q4⟩ := row5 ((hb3.block Y HV4.out.2.2.2).trans HV4.out.1); obtain ⟨f0, f1, f2, f3, f4⟩ := frz5 ((hb3.block Y HV4.out.2.2.2).trans HV4.out.1))
              have HK := hidT (HFIN.out _ hb3)
              generalize (((((W3.setCell ⟨Y, 0, none⟩ (.int .i64 o)).setCell ⟨Y, 1, none⟩ (.int .i64 hh)).setCell ⟨Y, 2, none⟩ (.int .i64 l)).setCell ⟨Y, 3, none⟩ (.int .i64 cl)).setCell ⟨Y, 4, none⟩ (.int .i64 qt)) = W9 at HK ⊢
              clear q0 q1 q2 q3 q4 f0 f1 f2 f3 f4 hb3 HFIN HRC
              go_wp2_with fail
              go_loopg [19, 20] m (fun gg s19 s20 wr => ∃ kk : Nat, kk ≤ m ∧ m - kk ≤ gg ∧ s19 = .int .i64 (wor (zs.take kk)) ∧ s20 = .int .i64 kk ∧ Aside (Below W9.heap.size W9 wr))
              case atStart => exact ⟨0, Nat.zero_le _, by omega, rfl, rfl, Below.refl _ _⟩
              case round =>
                obtain ⟨kk, hkk, hg, rfl, rfl, HA⟩ := hrel
                by_cases hlt : kk < m
                · have hltz : (kk : Int) < (m : Int) := by omega
                  have hin1 : ¬ ((kk : Int) < 0) := by omega
                  have hlz : kk < zs.length := by rw [HM.out]; exact hlt
                  have hBB := HK.out.2.trans (HA.out.mono HK.out.2.size)
                  obtain ⟨g1, o1, rfl, hg1, hcc⟩ := (HT.out wr hBB).at hlz
                  have hs1 := HQB.out kk (by omega)
                  have hs2 := HGA.out kk hlz
                  have hs3 := wor_take hlz
                  obtain ⟨x, hx⟩ : ∃ x, zs[kk]! = x := ⟨_, rfl⟩
                  rw [hx] at hcc hs2 hs3
                  have hs5 := mul_bound hs2
                  obtain ⟨t1, t2, t3, t4, t5, t6⟩ := x
                  simp only at hs2 hs3 hs5
                  have c4 := hcc 4 _ rfl
                  have c5 := hcc 5 _ rfl
                  have HWK := hidT (wrapSucc kk m hlt (by have := HM4.out; omega))
                  have HKK : Hid (kk < m ∧ m - kk ≤ gk) := ⟨hlt, hg⟩
                  have HS3 := hidT hs3
                  generalize wor (zs.take kk) = SW at *
                  have w1 : wrap64 (t5 * t6) = t5 * t6 := by
                    generalize t5 * t6 = p at *
                    clear hs1 hs2 hs3
                    unfold wrap64
                    omega
                  have w2 : wrap64 (SW + t5 * t6) = SW + t5 * t6 := by
                    have h1 := hs1.2.2
                    generalize t5 * t6 = p at *
                    clear hs1 hs2 hs3
                    unfold wrap64
                    omega
                  have HW2 := hidT w2
                  have HBW := hidT HA.out
                  clear hcc hx hkk hg hlt hs1 hs2 hs3 hs5 HA hlz hBB hg1
                  go_upto_region 33 with fail
                  go_quiet (fail)
                  have HBN := hidT (HBW.out.trans (⟨rfl, rfl, rfl, Nat.le_refl _, fun _ _ => rfl⟩ : Below W9.heap.size wr (wr.drewN nq)))
                  generalize wr.drewN nq = wn at *
                  clear c4 c5 w1 w2
                  go_wp2_with fail
                  go_roundg (m - (kk + 1))
                  case measure => have := HKK.out; omega
                  case rel => exact ⟨kk + 1, HKK.out.1, Nat.le_refl _, by rw [HS3.out, HW2.out], by first | exact congrArg (Value.int .i64) HWK.out | go_num | simp, HBN.out⟩
                · obtain rfl : kk = m := by omega
                  have hltz : ¬ (kk : Int) < (kk : Int) := by omega
                  have hzz : zs.take kk = zs := List.take_of_length_le (by rw [HM.out]; exact Nat.le_refl _)
                  have hWB := HA.out
                  have HROW : Hid (wr.heap[Y]? = some (.cells #[.int .i64 o, .int .i64 hh, .int .i64 l, .int .i64 cl, .int .i64 qt] 26 (0, 0)) ∧ Below w.heap.size w wr) := ⟨(hWB.block Y (Array.getElem?_eq_some_iff.1 HK.out.1).1).trans HK.out.1, HK.out.2.trans (hWB.mono HK.out.2.size)⟩
                  have hfq : qt = qty zs := HFQ.out
                  have hqz : ¬ qt = 0 := by rw [hfq]; have := HQP.out; omega
                  rw [hzz]
                  have HTD : Hid (wrap64 ((wor zs).tdiv qt) = MN) := by
                    have h1 := HQB.out kk (by rw [HM.out]; exact Nat.le_refl _)
                    rw [hzz] at h1
                    have h2 := HQP.out
                    show _ = _
                    rw [HD.out.1, hfq, Int.tdiv_eq_ediv_of_nonneg h1.2.2.1]
                    have h3 := Int.ediv_nonneg h1.2.2.1 (show 0 ≤ qty zs by omega)
                    have h4 := Int.ediv_le_self (qty zs) h1.2.2.1
                    generalize wor zs / qty zs = d at *
                    clear hfq hqz hzz
                    unfold wrap64
                    omega
                  obtain ⟨r0, r1, r2, r3, r4⟩ := row5 HROW.out.1
                  clear hkk hg hlt HA hzz hWB hfq
                  generalize wor zs = WZ at *
                  go_wp2_with fail
                  go_meet
                  case rel => exact ⟨congrArg (Value.int .i64) HTD.out, HROW.out.1, HROW.out.2⟩
          case rest =>
          obtain ⟨rfl, HA5⟩ := hcut
          have HME : Hid (∀ W, Below w.heap.size w W → Calls Tryd.prog 8 #[.slice q m c] W fun e w' => e = .returned (.tuple #[.int .i64 MN, errV E2]) ∧ Below W.heap.size W w') := fun W hW => by
            have h := mean_any _ zs W (HT.out W hW)
            rw [HM.out, ← HMM.out, ← HES.out] at h
            exact h
          have HLO : Hid (lowE zs = R0.l ∧ highE zs = R0.h) := by
            unfold lowE highE
            rw [← HES.out, HR0.out]
            by_cases h : E2 = 0
            · rw [if_pos h, if_pos h, if_pos h]; exact ⟨rfl, rfl⟩
            · rw [if_neg h, if_neg h, if_neg h]; exact ⟨rfl, rfl⟩
          obtain ⟨ro, rh, rl, rc, rq⟩ := R0
          have HRA : Hid (∀ W, Below w.heap.size w W → Calls Tryd.prog 9 #[.slice q m c] W fun e w' => e = .returned (.tuple #[.int .i64 rl, .int .i64 rh, errV E2]) ∧ Below W.heap.size W w') := fun W hW => by
            have h := range_any _ zs W (HT.out W hW)
            rw [HM.out, HLO.out.1, HLO.out.2, ← HES.out] at h
            exact h
          have HE2E := hidT (HER.out E2 E2)
          rw [beq_self_eq_true] at HE2E
          obtain ⟨ev2, hev2⟩ : ∃ ev2, ev2 = errV E2 := ⟨_, rfl⟩
          simp only [← hev2] at HE2E HME HRA
          clear hev2 HV4 HMN HR0 HMM HES HE2 HLO HW4 HEE HF HFE HGL HNM
          have HROW : Hid (∀ W, Below wc.heap.size wc W → W.heap[Y]? = some (.cells #[.int .i64 ro, .int .i64 rh, .int .i64 rl, .int .i64 rc, .int .i64 rq] 26 (0, 0))) := fun W hW => (hW.block Y (Array.getElem?_eq_some_iff.1 HA5.out.1).1).trans HA5.out.1
          have HWC := hidT HA5.out.2
          clear HA5
          go_upto_region 35 with fail
          go_wp2_with fail
          refine (HME.out wc HWC.out).mono ?_
          rintro e w5 ⟨rfl, hb5⟩
          have HW5 := hidT (HWC.out.trans (hb5.mono HWC.out.size))
          have HX5 := hidT hb5
          clear hb5 HME
          go_wp2_with fail
          refine (HE2E.out w5 HW5.out).mono ?_
          rintro e w6 ⟨rfl, hb6⟩
          have HW6 := hidT (HW5.out.trans (hb6.mono HW5.out.size))
          have HX6 := hidT (HX5.out.trans (hb6.mono HX5.out.size))
          clear hb6 HW5 HX5
          go_wp2_with fail
          refine (HRA.out w6 HW6.out).mono ?_
          rintro e w7 ⟨rfl, hb7⟩
          have HW7 := hidT (HW6.out.trans (hb7.mono HW6.out.size))
          have HX7 := hidT (HX6.out.trans (hb7.mono HX6.out.size))
          clear hb7 HW6 HX6 HRA
          go_wp2_with fail
          refine (HE2E.out w7 HW7.out).mono ?_
          rintro e w8 ⟨rfl, hb8⟩
          have HW8 := hidT (HW7.out.trans (hb8.mono HW7.out.size))
          have HX8 := hidT (HX7.out.trans (hb8.mono HX7.out.size))
          clear hb8 HW7 HX7 HE2E
          obtain ⟨E3, hE3⟩ : ∃ E3 : Int, E3 = if 400 < nb then 4 else if nb = 0 then 5 else 0 := ⟨_, rfl⟩
          have HE3 := hidT hE3
          clear hE3
          go_upto_if 156 with fail
          go_cut [7] from 154 to 159 (fun s7 wx => s7 = .int .i64 E3 ∧ wx = w8)
          case first =>
            by_cases h4 : 400 < nb
            · have hd : Hid (E3 = 4) := by show E3 = 4; rw [HE3.out, if_pos h4]
              have h4z : (400 : Int) < (nb : Int) := by omega
              clear h4
              go_wp2_with fail
              go_meet
              case rel => exact ⟨congrArg (Value.int .i64) hd.out.symm, rfl⟩
            · have h4z : ¬ (400 : Int) < (nb : Int) := by omega
              by_cases hz : nb = 0
              · have hd : Hid (E3 = 5) := by show E3 = 5; rw [HE3.out, if_neg h4, if_pos hz]
                have hzz : ((nb : Int) == 0) = true := by simp [hz]
                clear h4 hz
                go_wp2_with fail
                go_meet
                case rel => exact ⟨congrArg (Value.int .i64) hd.out.symm, rfl⟩
              · have hd : Hid (E3 = 0) := by show E3 = 0; rw [HE3.out, if_neg h4, if_neg hz]
                have hzz : ((nb : Int) == 0) = false := by simp; omega
                clear h4 hz
                go_wp2_with fail
                go_meet
                case rel => exact ⟨congrArg (Value.int .i64) hd.out.symm, rfl⟩
          case rest =>
          obtain ⟨rfl, rfl⟩ := hcut
          have HJE : Hid (joinE bs = if E3 = 0 then (if bs.any badB = true then 3 else 0) else E3) := by
            show joinE bs = _
            rw [HE3.out]
            unfold joinE
            rw [HNB.out]
            by_cases h1 : 400 < nb
            · rw [if_pos h1, if_pos h1]; rfl
            · rw [if_neg h1, if_neg h1]
              by_cases h2 : nb = 0
              · rw [if_pos h2, if_pos h2]; rfl
              · rw [if_neg h2, if_neg h2]; rfl
          have HE34 : Hid (E3 = 0 → nb ≤ 400) := by
            intro h
            rw [HE3.out] at h
            split at h
            · cases h
            · omega
          clear HE3
          go_wp2_with fail
          go_loopg [7, 26, 27] nb (fun gg s7 s26 s27 wr => ∃ (kk : Nat) (x : Int), kk ≤ nb ∧ nb - kk ≤ gg ∧ s7 = .int .i64 x ∧ s26 = .int .i64 kk ∧ Aside ((x = 0 → E3 = 0 ∧ (bs.take kk).any badB = false) ∧ (¬ x = 0 → x = joinE bs) ∧ Below wc.heap.size wc wr))
          case atStart => exact ⟨0, E3, Nat.zero_le _, by omega, rfl, rfl, fun h => ⟨h, by simp⟩, fun h => by rw [HJE.out, if_neg h], Below.refl _ _⟩
          case round =>
            obtain ⟨kk, x, hkk, hg, rfl, rfl, HA⟩ := hrel
            go_upto_region 45 with fail
            go_cut [167] from 160 to 167 (fun s167 wx => s167 = .bool (decide (kk < nb ∧ x = 0)) ∧ wx = wr)
            case first =>
              by_cases h1 : kk < nb
              · have h1z : (kk : Int) < (nb : Int) := by omega
                by_cases h2 : x = 0
                · have hd : Hid (decide (kk < nb ∧ x = 0) = true) := decide_eq_true ⟨h1, h2⟩
                  have h2b : (x == 0) = true := by simp [h2]
                  clear h1 h2
                  go_wp2_with fail
                  go_meet
                  case rel => exact ⟨congrArg Value.bool hd.out.symm, rfl⟩
                · have hd : Hid (decide (kk < nb ∧ x = 0) = false) := decide_eq_false (fun hh => h2 hh.2)
                  have h2b : (x == 0) = false := by simpa using h2
                  clear h1 h2
                  go_wp2_with fail
                  go_meet
                  case rel => exact ⟨congrArg Value.bool hd.out.symm, rfl⟩
              · have h1z : ¬ (kk : Int) < (nb : Int) := by omega
                have hd : Hid (decide (kk < nb ∧ x = 0) = false) := decide_eq_false (fun hh => h1 hh.1)
                clear h1
                go_wp2_with fail
                go_meet
                case rel => exact ⟨congrArg Value.bool hd.out.symm, rfl⟩
            case rest =>
            obtain ⟨rfl, rfl⟩ := hcut
            go_upto_if 167 with fail
            by_cases hlt : kk < nb ∧ x = 0
            · rw [decide_eq_true hlt]
              obtain ⟨hlt, rfl⟩ := hlt
              obtain ⟨hE30, hok⟩ := HA.out.1 rfl
              have hltz : (kk : Int) < (nb : Int) := by omega
              have hin1 : ¬ ((kk : Int) < 0) := by omega
              have hlz : kk < bs.length := by rw [HNB.out]; exact hlt
              have hBW := HW8.out.trans (HA.out.2.2.mono HW8.out.size)
              obtain ⟨g1, o1, rfl, hg1, hcc⟩ := (HB.out _ hBW).at hlz
              have hbn := HJE.out
              rw [if_pos hE30] at hbn
              have HYES : Hid (badB bs[kk]! = true → joinE bs = 3) := fun h => by
                rw [hbn, if_pos]
                rw [List.any_eq_true]
                exact ⟨bs[kk]!, by rw [getE _ _ hlz]; exact List.getElem_mem hlz, h⟩
              have HNO : Hid (badB bs[kk]! = false → (bs.take (kk + 1)).any badB = false) := fun h => by
                rw [take_succ_at hlz, List.any_append, hok, List.any_cons, h]
                rfl
              generalize bs[kk]! = y at *
              obtain ⟨y1, y2, y3, y4, y5⟩ := y
              have c0 := hcc 0 _ rfl
              have c1 := hcc 1 _ rfl
              have c2 := hcc 2 _ rfl
              have c3 := hcc 3 _ rfl
              have c4 := hcc 4 _ rfl
              simp only [Nat.add_zero] at c0
              have HWK := hidT (wrapSucc kk nb hlt (by have := HE34.out hE30; omega))
              have HKK : Hid (kk < nb ∧ nb - kk ≤ gk ∧ E3 = 0) := ⟨hlt, hg, hE30⟩
              have HWR := hidT HA.out.2.2
              have HRB := hidT (rbar_any y1 y2 y3 y4 y5)
              clear hcc hkk hg hlt HA hlz hBW hg1 hE30 hok hbn
              generalize badB ⟨y1, y2, y3, y4, y5⟩ = z at *
              go_upto_region 47 with fail
              go_wp2_with fail
              refine (HRB.out _).mono ?_
              rintro e w9 ⟨rfl, hb9⟩
              have HW9 := hidT (HWR.out.trans (hb9.mono HWR.out.size))
              clear hb9 HRB HWR c0 c1 c2 c3 c4
              cases z
              · have HNX := hidT (HNO.out rfl)
                simp only [Bool.not_false]
                go_wp2_with fail
                go_roundg (nb - (kk + 1))
                case measure => have := HKK.out; omega
                case rel => exact ⟨kk + 1, 0, HKK.out.1, Nat.le_refl _, rfl, by first | exact congrArg (Value.int .i64) HWK.out | go_num | simp, fun _ => ⟨HKK.out.2.2, HNX.out⟩, fun h => absurd rfl h, HW9.out⟩
              · have HNX := hidT (HYES.out rfl)
                simp only [Bool.not_true]
                go_wp2_with fail
                go_roundg (nb - (kk + 1))
                case measure => have := HKK.out; omega
                case rel => exact ⟨kk + 1, 3, HKK.out.1, Nat.le_refl _, rfl, by first | exact congrArg (Value.int .i64) HWK.out | go_num | simp, fun h => absurd h (by decide), fun _ => HNX.out.symm, HW9.out⟩
            · rw [decide_eq_false hlt]
              have hxj : x = joinE bs := by
                by_cases h2 : x = 0
                · obtain ⟨hE30, hok⟩ := HA.out.1 h2
                  have hk : kk = nb := by omega
                  rw [List.take_of_length_le (by rw [HNB.out]; omega)] at hok
                  rw [HJE.out, if_pos hE30, hok, h2]
                  rfl
                · exact HA.out.2.1 h2
              have HXJ := hidT hxj
              have HXN : Hid (x = 0 → nb ≤ 400) := fun h => HE34.out (HA.out.1 h).1
              have HWA := hidT (HW8.out.trans (HA.out.2.2.mono HW8.out.size))
              have HXA := hidT (HX8.out.trans (HA.out.2.2.mono HX8.out.size))
              clear hxj hkk hg hlt HA HW8 HX8 HJE HE34
              generalize wc = wg at *
              obtain ⟨lim, hlim⟩ : ∃ lim, lim = if x = 0 then nb else 0 := ⟨_, rfl⟩
              have HLIM := hidT hlim
              clear hlim
              obtain ⟨Z, hZ⟩ : ∃ y, y = wg.heap.size := ⟨_, rfl⟩
              obtain ⟨V5, hV5⟩ : ∃ V, V = wg.alloc (.cells #[.int .i64 0, .int .i64 0, .int .i64 0, .int .i64 0, .int .i64 0] 26) := ⟨_, rfl⟩
              have HV5 : Hid (V5.heap[Z]? = some (.cells #[.int .i64 0, .int .i64 0, .int .i64 0, .int .i64 0, .int .i64 0] 26 (0, 0)) ∧ Below wg.heap.size wg V5 ∧ Z = wg.heap.size) := by
                rw [hV5, hZ]
                exact ⟨heap_alloc_new wg _, (Below.refl _ _).alloc (Nat.le_refl _) _, rfl⟩
              go_upto_region 51 with fail
              simp only [← hZ, ← hV5]
              clear hZ hV5
              go_wp2_with fail
              go_loopg [29] lim (fun gg s29 wr => ∃ (kk : Nat), kk ≤ lim ∧ lim - kk ≤ gg ∧ s29 = .int .i64 kk ∧ Aside (wr.heap[Z]? = some (.cells (bV (joinOf (bs.take kk))).toArray 26 (0, 0)) ∧ Below wg.heap.size wg wr))
              case atStart => exact ⟨0, Nat.zero_le _, by omega, rfl, HV5.out.1, HV5.out.2.1⟩
              case round =>
                obtain ⟨kk, hkk, hg, rfl, HA⟩ := hrel
                go_upto_region 52 with fail
                go_cut [184] from 177 to 184 (fun s184 wx => s184 = .bool (decide (kk < lim)) ∧ wx = wr)
                case first =>
                  by_cases h1 : kk < nb
                  · have h1z : (kk : Int) < (nb : Int) := by omega
                    by_cases h2 : x = 0
                    · have hd : Hid (decide (kk < lim) = true) := by show _ = _; rw [HLIM.out, if_pos h2]; exact decide_eq_true h1
                      have h2b : (x == 0) = true := by simp [h2]
                      clear h1 h2
                      go_wp2_with fail
                      go_meet
                      case rel => exact ⟨congrArg Value.bool hd.out.symm, rfl⟩
                    · have hd : Hid (decide (kk < lim) = false) := by show _ = _; rw [HLIM.out, if_neg h2]; exact decide_eq_false (Nat.not_lt_zero _)
                      have h2b : (x == 0) = false := by simpa using h2
                      clear h1 h2
                      go_wp2_with fail
                      go_meet
                      case rel => exact ⟨congrArg Value.bool hd.out.symm, rfl⟩
                  · have h1z : ¬ (kk : Int) < (nb : Int) := by omega
                    have hd : Hid (decide (kk < lim) = false) := by
                      show _ = _
                      rw [HLIM.out]
                      apply decide_eq_false
                      intro hh
                      by_cases h2 : x = 0
                      · rw [if_pos h2] at hh; exact h1 hh
                      · rw [if_neg h2] at hh; exact Nat.not_lt_zero _ hh
                    clear h1
                    go_wp2_with fail
                    go_meet
                    case rel => exact ⟨congrArg Value.bool hd.out.symm, rfl⟩
                case rest =>
                obtain ⟨hs184, hwx⟩ := hcut
                subst hs184 hwx
                go_upto_if 184 with fail
                by_cases hlt : kk < lim
                · rw [decide_eq_true hlt]
                  have hx0 : x = 0 := by
                    by_cases h2 : x = 0
                    · exact h2
                    · rw [HLIM.out, if_neg h2] at hlt; exact absurd hlt (Nat.not_lt_zero _)
                  have hln : kk < nb := by rw [HLIM.out, if_pos hx0] at hlt; exact hlt
                  have hltz : (kk : Int) < (nb : Int) := by omega
                  have hin1 : ¬ ((kk : Int) < 0) := by omega
                  have hlz : kk < bs.length := by rw [HNB.out]; exact hln
                  have HBW : Hid (∀ W, Below Z wg W → Below w.heap.size w W) := by
                    intro W hW
                    rw [HV5.out.2.2] at hW
                    exact HWA.out.trans (hW.mono HWA.out.size)
                  have HWZ : Hid (Below Z wg wc) := by rw [HV5.out.2.2]; exact HA.out.2
                  obtain ⟨g1, o1, rfl, hg1, -⟩ := (HB.out _ (HBW.out wc HWZ.out)).at hlz
                  have HCC2 : Hid (∀ W, Below Z wg W → ∀ i v, (bV bs[kk]!)[i]? = some v → W.cell? ⟨g1, o1 + kk * 5 + i, none⟩ = some v) := by
                    intro W hW i v hv
                    obtain ⟨g2, o2, h2, _, h3⟩ := (HB.out _ (HBW.out W hW)).at hlz
                    cases h2
                    exact h3 i v hv
                  have HWK := hidT (wrapSucc kk nb hln (by have := HXN.out hx0; omega))
                  have HKK : Hid (kk < lim ∧ lim - kk ≤ gk) := ⟨hlt, hg⟩
                  have HJS : Hid (joinOf (bs.take (kk + 1)) = if kk = 0 then bs[kk]! else bhd (joinOf (bs.take kk)) bs[kk]!) := joinOf_take hlz
                  have HRW := hidT HA.out.1
                  clear hg1 hkk hg hlt HA hlz hln
                  generalize bs[kk]! = y at *
                  obtain ⟨y1, y2, y3, y4, y5⟩ := y
                  have HCY : Hid (∀ W, Below Z wg W → W.cell? ⟨g1, o1 + kk * 5, none⟩ = some (.int .i64 y1) ∧ W.cell? ⟨g1, o1 + kk * 5 + 1, none⟩ = some (.int .i64 y2) ∧ W.cell? ⟨g1, o1 + kk * 5 + 2, none⟩ = some (.int .i64 y3) ∧ W.cell? ⟨g1, o1 + kk * 5 + 3, none⟩ = some (.int .i64 y4) ∧ W.cell? ⟨g1, o1 + kk * 5 + 4, none⟩ = some (.int .i64 y5)) := fun W hW => ⟨HCC2.out W hW 0 _ rfl, HCC2.out W hW 1 _ rfl, HCC2.out W hW 2 _ rfl, HCC2.out W hW 3 _ rfl, HCC2.out W hW 4 _ rfl⟩
                  clear HCC2
                  have HWB2 := hidT HWZ.out
                  clear HWZ hx0
                  by_cases k0 : kk = 0
                  · subst k0
                    have HJ1 := HJS.out
                    rw [if_pos rfl] at HJ1
                    have hrz : wc.heap[Z]? = some (.cells #[.int .i64 0, .int .i64 0, .int .i64 0, .int .i64 0, .int .i64 0] 26 (0, 0)) := HRW.out
                    have HSE := hidT (set5 (b0 := .int .i64 y1) (b1 := .int .i64 y2) (b2 := .int .i64 y3) (b3 := .int .i64 y4) (b4 := .int .i64 y5) hrz)
                    have HSB := hidT (low5 (b0 := .int .i64 y1) (b1 := .int .i64 y2) (b2 := .int .i64 y3) (b3 := .int .i64 y4) (b4 := .int .i64 y5) HWB2.out (Nat.le_refl Z))
                    obtain ⟨c0, c1, c2, c3, c4⟩ := HCY.out wc HWB2.out
                    simp only [Nat.zero_mul, Nat.add_zero] at c0 c1 c2 c3 c4
                    obtain ⟨r0, r1, r2, r3, r4⟩ := row5 hrz
                    obtain ⟨f0, f1, f2, f3, f4⟩ := frz5 hrz
                    have HJ2 := hidT HJ1
                    clear HJ1 HJS hrz HCY HRW HBW HWB2
                    go_upto_region 53 with fail
                    generalize (((((wc.setCell ⟨Z, 0, none⟩ (.int .i64 y1)).setCell ⟨Z, 1, none⟩ (.int .i64 y2)).setCell ⟨Z, 2, none⟩ (.int .i64 y3)).setCell ⟨Z, 3, none⟩ (.int .i64 y4)).setCell ⟨Z, 4, none⟩ (.int .i64 y5)) = W9 at HSE HSB ⊢
                    clear c0 c1 c2 c3 c4 r0 r1 r2 r3 r4 f0 f1 f2 f3 f4
                    go_wp2_with fail
                    go_roundg (lim - (0 + 1))
                    case measure => have := HKK.out; omega
                    case rel => exact ⟨0 + 1, HKK.out.1, Nat.le_refl _, by first | exact congrArg (Value.int .i64) HWK.out | go_num | simp, by rw [HJ2.out]; exact HSE.out, by rw [← HV5.out.2.2]; exact HSB.out⟩
                  · have hk0 : ((kk : Int) == 0) = false := by simp; omega
                    have HJ1 := HJS.out
                    rw [if_neg k0] at HJ1
                    generalize joinOf (bs.take kk) = acc at *
                    obtain ⟨o, h, l, cl, qt⟩ := acc
                    have HJ2 : Hid (joinOf (bs.take (kk + 1)) = ⟨o, max h y2, min l y3, y4, wrap64 (qt + y5)⟩) := HJ1
                    have HR1 : Hid (wc.heap[Z]? = some (.cells #[.int .i64 o, .int .i64 h, .int .i64 l, .int .i64 cl, .int .i64 qt] 26 (0, 0))) := HRW.out
                    clear HJ1 HJS HRW k0
                    obtain ⟨c0, c1, c2, c3, c4⟩ := HCY.out wc HWB2.out
                    obtain ⟨r0, r1, r2, r3, r4⟩ := row5 HR1.out
                    go_upto_region 56 with fail
                    go_quiet (fail)
                    have HQ : Hid ((wc.drewN nq).heap[Z]? = some (.cells #[.int .i64 o, .int .i64 h, .int .i64 l, .int .i64 cl, .int .i64 qt] 26 (0, 0)) ∧ Below Z wg (wc.drewN nq)) := ⟨HR1.out, HWB2.out.trans ⟨rfl, rfl, rfl, Nat.le_refl _, fun _ _ => rfl⟩⟩
                    generalize wc.drewN nq = wn at *
                    clear c0 c1 c2 c3 c4 r0 r1 r2 r3 r4 HR1 HWB2
                    go_upto_if 199 with fail
                    go_cut [29] from 192 to 205 (fun s29 wx => s29 = .int .i64 kk ∧ Aside (wx.heap[Z]? = some (.cells #[.int .i64 o, .int .i64 (max h y2), .int .i64 l, .int .i64 cl, .int .i64 qt] 26 (0, 0)) ∧ Below Z wg wx))
                    case first =>
                      obtain ⟨c0, c1, c2, c3, c4⟩ := HCY.out wn HQ.out.2
                      obtain ⟨r0, r1, r2, r3, r4⟩ := row5 HQ.out.1
                      obtain ⟨f0, f1, f2, f3, f4⟩ := frz5 HQ.out.1
                      have HP := hidT (put1 (b := .int .i64 y2) HQ.out.1)
                      have HPB := hidT (HQ.out.2.setCell (p := ⟨Z, 1, none⟩) (Nat.le_refl Z) (.int .i64 y2))
                      by_cases hc : h < y2
                      · have HM : Hid (max h y2 = y2) := by show _ = _; omega
                        go_wp2_with fail
                        go_meet
                        case rel => exact ⟨rfl, by rw [HM.out]; exact HP.out, HPB.out⟩
                      · have HM : Hid (max h y2 = h) := by show _ = _; omega
                        go_wp2_with fail
                        go_meet
                        case rel => exact ⟨rfl, by rw [HM.out]; exact HQ.out.1, HQ.out.2⟩
                    case rest =>
                    obtain ⟨hs, HA6⟩ := hcut
                    subst hs
                    generalize max h y2 = hm at *
                    clear HQ
                    obtain ⟨c0, c1, c2, c3, c4⟩ := HCY.out wc HA6.out.2
                    obtain ⟨r0, r1, r2, r3, r4⟩ := row5 HA6.out.1
                    go_upto_region 58 with fail
                    go_quiet (fail)
                    have HQ : Hid ((wc.drewN nq).heap[Z]? = some (.cells #[.int .i64 o, .int .i64 hm, .int .i64 l, .int .i64 cl, .int .i64 qt] 26 (0, 0)) ∧ Below Z wg (wc.drewN nq)) := ⟨HA6.out.1, HA6.out.2.trans ⟨rfl, rfl, rfl, Nat.le_refl _, fun _ _ => rfl⟩⟩
                    generalize wc.drewN nq = wn at *
                    clear c0 c1 c2 c3 c4 r0 r1 r2 r3 r4 HA6
                    go_upto_if 213 with fail
                    go_cut [29] from 206 to 219 (fun s29 wx => s29 = .int .i64 kk ∧ Aside (wx.heap[Z]? = some (.cells #[.int .i64 o, .int .i64 hm, .int .i64 (min l y3), .int .i64 cl, .int .i64 qt] 26 (0, 0)) ∧ Below Z wg wx))
                    case first =>
                      obtain ⟨c0, c1, c2, c3, c4⟩ := HCY.out wn HQ.out.2
                      obtain ⟨r0, r1, r2, r3, r4⟩ := row5 HQ.out.1
                      obtain ⟨f0, f1, f2, f3, f4⟩ := frz5 HQ.out.1
                      have HP := hidT (put2 (b := .int .i64 y3) HQ.out.1)
                      have HPB := hidT (HQ.out.2.setCell (p := ⟨Z, 2, none⟩) (Nat.le_refl Z) (.int .i64 y3))
                      by_cases hc : y3 < l
                      · have HM : Hid (min l y3 = y3) := by show _ = _; omega
                        go_wp2_with fail
                        go_meet
                        case rel => exact ⟨rfl, by rw [HM.out]; exact HP.out, HPB.out⟩
                      · have HM : Hid (min l y3 = l) := by show _ = _; omega
                        go_wp2_with fail
                        go_meet
                        case rel => exact ⟨rfl, by rw [HM.out]; exact HQ.out.1, HQ.out.2⟩
                    case rest =>
                    obtain ⟨hs, HA7⟩ := hcut
                    subst hs
                    generalize min l y3 = lm at *
                    clear HQ
                    have HP3 := hidT (put3 (b := .int .i64 y4) HA7.out.1)
                    have HB3 := hidT (HA7.out.2.setCell (p := ⟨Z, 3, none⟩) (Nat.le_refl Z) (.int .i64 y4))
                    obtain ⟨c0, c1, c2, c3, c4⟩ := HCY.out wc HA7.out.2
                    obtain ⟨r0, r1, r2, r3, r4⟩ := row5 HA7.out.1
                    obtain ⟨f0, f1, f2, f3, f4⟩ := frz5 HA7.out.1
                    go_upto_region 61 with fail
                    generalize wc.setCell ⟨Z, 3, none⟩ (.int .i64 y4) = wn at *
                    clear c0 c1 c2 c3 c4 r0 r1 r2 r3 r4 f0 f1 f2 f3 f4 HA7
                    obtain ⟨c0, c1, c2, c3, c4⟩ := HCY.out wn HB3.out
                    obtain ⟨r0, r1, r2, r3, r4⟩ := row5 HP3.out
                    obtain ⟨f0, f1, f2, f3, f4⟩ := frz5 HP3.out
                    have HW4' : Hid (IntKind.i64.wrap (qt + y5) = wrap64 (qt + y5)) := IntWalk.i64_left _
                    have HP4 := hidT (put4 (b := .int .i64 (wrap64 (qt + y5))) HP3.out)
                    have HB4 := hidT (HB3.out.setCell (p := ⟨Z, 4, none⟩) (Nat.le_refl Z) (.int .i64 (wrap64 (qt + y5))))
                    go_region
                    all_goals
                      clear c0 c1 c2 c3 c4 r0 r1 r2 r3 r4 f0 f1 f2 f3 f4
                      go_wp2_with fail
                      go_roundg (lim - (kk + 1))
                      case measure => have := HKK.out; omega
                      case rel => exact ⟨kk + 1, HKK.out.1, Nat.le_refl _, by first | exact congrArg (Value.int .i64) HWK.out | go_num | simp, by rw [HJ2.out]; exact HP4.out, by rw [← HV5.out.2.2]; exact HB4.out.drew⟩
                · rw [decide_eq_false hlt]
                  have hke : kk = lim := by omega
                  obtain ⟨JB, hJB⟩ : ∃ JB, JB = if x = 0 then joinOf bs else barZ := ⟨_, rfl⟩
                  have hjt : joinOf (bs.take kk) = JB := by
                    rw [hJB, hke, HLIM.out]
                    by_cases h2 : x = 0
                    · rw [if_pos h2, if_pos h2, List.take_of_length_le (by rw [HNB.out]; exact Nat.le_refl _)]
                    · rw [if_neg h2, if_neg h2]
                      rfl
                  have hrow := HA.out.1
                  rw [hjt] at hrow
                  have HWE := hidT (HWA.out.trans (HA.out.2.mono HWA.out.size))
                  have HXE := hidT (HXA.out.trans (HA.out.2.mono HXA.out.size))
                  have hjn := join_any _ bs wc (HB.out wc HWE.out)
                  rw [← HXJ.out, ← hJB, HNB.out] at hjn
                  obtain ⟨j1, j2, j3, j4, j5⟩ := JB
                  obtain ⟨ev3, hev3⟩ : ∃ ev3, ev3 = errV x := ⟨_, rfl⟩
                  have HEX := hidT (HER.out x x)
                  rw [beq_self_eq_true] at HEX
                  simp only [← hev3] at hjn HEX
                  have HJN : Hid (Calls Tryd.prog 11 #[.slice qb nb cb] wc fun e w' => e = .returned (.tuple #[.agg #[.int .i64 j1, .int .i64 j2, .int .i64 j3, .int .i64 j4, .int .i64 j5], ev3]) ∧ Below wc.heap.size wc w') := hjn
                  have HRZ : Hid (wc.heap[Z]? = some (.cells #[.int .i64 j1, .int .i64 j2, .int .i64 j3, .int .i64 j4, .int .i64 j5] 26 (0, 0))) := hrow
                  clear hke hJB hjt hrow hjn hev3 hkk hg hlt HA HV5 HWA HXA HLIM HXJ HXN HB HT HNB HER
                  go_upto_region 62 with fail
                  go_wp2_with fail
                  refine HJN.out.mono ?_
                  rintro e w9 ⟨rfl, hb9⟩
                  have HW9 := hidT hb9
                  obtain ⟨Z3', hZ3⟩ : ∃ y, y = w9.heap.size := ⟨_, rfl⟩
                  obtain ⟨V6, hV6⟩ : ∃ V, V = w9.alloc (.cells #[.int .i64 j1, .int .i64 j2, .int .i64 j3, .int .i64 j4, .int .i64 j5] 26) := ⟨_, rfl⟩
                  have HV6 : Hid (Below wc.heap.size wc V6 ∧ V6.heap[Z3']? = some (.cells #[.int .i64 j1, .int .i64 j2, .int .i64 j3, .int .i64 j4, .int .i64 j5] 26 (0, 0))) := by
                    rw [hV6, hZ3]
                    exact ⟨hb9.alloc hb9.size _, heap_alloc_new w9 _⟩
                  go_upto_region 63 with fail
                  simp only [← hZ3, ← hV6]
                  clear hZ3 hV6 hb9 HW9 HJN
                  go_wp2_with fail
                  refine (HEX.out V6 (HWE.out.trans (HV6.out.1.mono HWE.out.size))).mono ?_
                  rintro e w10 ⟨rfl, hb10⟩
                  have HF1 := hidT (HV6.out.1.trans (hb10.mono HV6.out.1.size))
                  obtain ⟨y0, y1, y2, y3, y4⟩ := row5 (HROW.out w10 (HXE.out.trans (HF1.out.mono HXE.out.size)))
                  obtain ⟨z0, z1, z2, z3, z4⟩ := row5 ((HF1.out.block Z (Array.getElem?_eq_some_iff.1 HRZ.out).1).trans HRZ.out)
                  obtain ⟨t0, t1, t2, t3, t4⟩ := row5 ((hb10.block Z3' (Array.getElem?_eq_some_iff.1 HV6.out.2).1).trans HV6.out.2)
                  have HFF := hidT (HWE.out.trans (HF1.out.mono HWE.out.size))
                  clear hb10 HF1 HROW HXE HRZ HV6 HWE HEX
                  go_upto_region 64 with fail
                  go_wp2_with fail
                  go_ret
                  exact ⟨rfl, HFF.out⟩
end Go.Proofs.YtkbegagpliiljaaDoor.bar
