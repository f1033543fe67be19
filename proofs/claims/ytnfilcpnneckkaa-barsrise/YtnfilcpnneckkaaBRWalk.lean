/- The walk of BarsRise. -/
import Derived.Test.YtnfilcpnneckkaaBRPure
namespace Go.Proofs.Ytnfilcpnneckkaa.bar
open Go.RowKit Go.Proofs.Ytnfilcpnneckkaa.mee
open Go.Proofs.Ytnfilcpnneckkaa.spn (keeps)

def flatT (zs : List T) : List Value := zs.flatMap tV
theorem flatT_get : ∀ (bs : List T) (j i : Nat), j < bs.length → i < 6 → (flatT bs)[j * 6 + i]? = (tV bs[j]!)[i]?
  | [], j, i, h, _ => by simp at h
  | b :: r, 0, i, _, hi => by
    have : (tV b).length = 6 := rfl
    simp only [flatT, List.flatMap_cons]
    rw [List.getElem?_append_left (by omega)]
    simp
  | b :: r, j + 1, i, h, hi => by
    have h5 : (tV b).length = 6 := rfl
    simp only [flatT, List.flatMap_cons]
    rw [List.getElem?_append_right (by omega), h5, show (j + 1) * 6 + i - 6 = j * 6 + i by omega]
    have := flatT_get r j i (by simpa using h) hi
    simpa [flatT] using this
theorem tl_of_row {W : World} {base : Nat} {e : TypeId} {v : Value} {bs : List T} (h : W.ownsRow base e 6 v bs.length (flatT bs)) : TL W v bs := by
  rcases h.2 with ⟨rfl, h0⟩ | ⟨g, cap, cur, rfl, hb, hg, hn, hm, hs, ht⟩
  · exact .inl ⟨rfl, List.eq_nil_of_length_eq_zero h0⟩
  · refine .inr ⟨g, 0, cap, rfl, hn, by unfold maxLen at hm; omega, (Array.getElem?_eq_some_iff.1 hg).1, ?_⟩
    intro j hj i u hu
    have hi : i < 6 := by
      rcases Nat.lt_or_ge i 6 with h | h
      · exact h
      · rw [List.getElem?_eq_none (show (tV bs[j]!).length ≤ i from h)] at hu; cases hu
    rw [← flatT_get bs j i hj hi, ← ht, List.getElem?_take] at hu
    split at hu
    · rw [Nat.zero_add]
      simp only [World.cell?, hg]
      simpa using hu
    · cases hu
theorem row_form {W : World} {base : Nat} {e : TypeId} {sz : Nat} {v : Value} {n : Nat} {xs : List Value} (h : W.ownsRow base e sz v n xs) : ∃ q c, v = .slice q n c := by
  rcases h.2 with ⟨h1, h2⟩ | ⟨g, cap, cur, h1, _⟩
  · subst h2; exact ⟨_, _, h1⟩
  · exact ⟨_, _, h1⟩
def zeroT : Value := .agg #[.int .i64 0, .int .i64 0, .int .i64 0, .int .i64 0, .int .i64 0, .int .i64 0]
theorem infoT : (Try.prog.info? 37).map (fun i => (i.zero, i.size, i.bytes)) = some (some zeroT, 6, 48) := by kernel_rfl
theorem infoT' : ∃ i, Try.prog.info? 37 = some i ∧ i.zero = some zeroT ∧ i.size = 6 ∧ i.bytes = 48 := info_parts infoT
theorem one6 (a b c d e f : Int) : ∀ u ∈ [Value.int .i64 a, .int .i64 b, .int .i64 c, .int .i64 d, .int .i64 e, .int .i64 f], u.oneCell' = true := by
  intro u hu
  simp at hu
  rcases hu with rfl | rfl | rfl | rfl | rfl | rfl <;> rfl

theorem ris_wraps {jj k m : Nat} (h1 : 1 ≤ m) (h2 : m ≤ 400) (h3 : jj * k < 400) : ∃ P O H D : Int, ((jj * k : Nat) : Int) = P ∧ O = 1 + P ∧ H = P + (m : Int) ∧ D = (m : Int) - 1 ∧ wrap64 ((jj : Int) * (k : Int)) = P ∧ wrap64 (1 + P) = O ∧ wrap64 (H - O) = D ∧ wrap64 (D + 1) = (m : Int) := by
  have em : (jj : Int) * (k : Int) = ((jj * k : Nat) : Int) := by simp
  rw [em]
  generalize jj * k = p at *
  refine ⟨_, _, _, _, rfl, rfl, rfl, rfl, ?_, ?_, ?_, ?_⟩ <;> (unfold wrap64; omega)

set_option maxHeartbeats 4000000 in
set_option maxRecDepth 100000 in
theorem rise_fine (n k : Nat) (w : World) (n1 : 1 ≤ n) (n2 : n ≤ 400) (k1 : 1 ≤ k) (k2 : k ≤ 400) :
    Calls Try.prog 4 #[.int .i64 n, .int .i64 k] w fun e w' => e = .returned (.bool true) ∧ Below w.heap.size w w' := by
  obtain ⟨i0, hi0, hz0, hz1, hz2⟩ := infoT'
  have HI := hidT hi0
  have HB : Hid (1 ≤ n ∧ n ≤ 400 ∧ 1 ≤ k ∧ k ≤ 400) := ⟨n1, n2, k1, k2⟩
  have a1 : ¬ ((n : Int) < 1) := by omega
  have a2 : ¬ (400 : Int) < (n : Int) := by omega
  have a3 : ¬ (k : Int) < 1 := by omega
  have a4 : ¬ (400 : Int) < (k : Int) := by omega
  clear n1 n2 k1 k2 hi0
  go_enter Try.func4, Try.ntmps4
  go_wp2_with fail
  clear a1 a2 a3 a4
  go_loopg [5, 6] n (fun gg s5 s6 wr => ∃ (kk : Nat) (q : Option Addr) (c : Nat), kk ≤ n ∧ n - kk ≤ gg ∧ s5 = .slice q kk c ∧ s6 = .int .i64 kk ∧ Aside (wr.ownsRow w.heap.size 37 6 (.slice q kk c) kk (flatT (ris kk)) ∧ Below w.heap.size w wr))
  case atStart => exact ⟨0, none, 0, Nat.zero_le _, by omega, rfl, rfl, World.ownsRow_nil _ _ _ _, Below.refl _ _⟩
  case round =>
    obtain ⟨kk, q, c, hkk, hg, rfl, rfl, HA⟩ := hrel
    have hb := HB.out
    by_cases hlt : kk < n
    · have hltz : (kk : Int) < (n : Int) := by omega
      obtain ⟨p1, hp1⟩ : ∃ x : Int, x = 1 + (kk : Int) := ⟨_, rfl⟩
      have HK1 := hidT hp1
      have HW1 : Hid (wrap64 (1 + (kk : Int)) = p1) := by show _ = _; unfold wrap64; omega
      have HWK := hidT (wrapSucc kk n hlt (by omega))
      have HM : Hid (kk < n ∧ n - kk ≤ gk ∧ kk + 1 ≤ maxLen ∧ (kk + 1) * 48 ≤ 140737488355328) := ⟨hlt, hg, by unfold maxLen; omega, by omega⟩
      have ew := HW1.out
      have HO := hidT (HA.out.1.alloc (.cells #[.int .i64 0, .int .i64 0, .int .i64 0, .int .i64 0, .int .i64 p1, .int .i64 1] 37))
      have HB3 := hidT (HA.out.2.alloc HA.out.2.size (.cells #[.int .i64 0, .int .i64 0, .int .i64 0, .int .i64 0, .int .i64 p1, .int .i64 1] 37))
      have HNW := hidT (new5 wr [.int .i64 0, .int .i64 0, .int .i64 0, .int .i64 0, .int .i64 p1, .int .i64 1] 37)
      clear hp1 hb hkk hg hlt HA
      go_wp2_with (at_builtin; (refine wpList_append_own _ rfl _ _ 22 rfl w.heap.size 37 i0 zeroT 6 48 Try.underlying22 HI.out hz0 hz1 hz2 rfl (by decide) (.slice q kk c) _ _ rfl HO.out ⟨wr.heap.size, 0, none⟩ 1 1 [.int .i64 0, .int .i64 0, .int .i64 0, .int .i64 0, .int .i64 p1, .int .i64 1] rfl rfl HNW.out (one6 _ _ _ _ _ _) HM.out.2.2.1 HM.out.2.2.2 HB3.out.size ?_))
      intro v' w' hO' hgr _
      obtain ⟨q', c', hv'⟩ := row_form hO'
      subst hv'
      have HNX : Hid (w'.ownsRow w.heap.size 37 6 (.slice q' (kk + 1) c') (kk + 1) (flatT (ris (kk + 1))) ∧ Below w.heap.size w w') := by
        refine ⟨?_, HB3.out.grown hgr HB3.out.size (fun j hj => row_ge HO.out j hj)⟩
        have e : flatT (ris (kk + 1)) = flatT (ris kk) ++ [.int .i64 0, .int .i64 0, .int .i64 0, .int .i64 0, .int .i64 p1, .int .i64 1] := by
          rw [ris_succ, HK1.out]
          simp [flatT, tV, risT]
        rw [e]
        exact hO'
      clear hO' hgr HO HNW HB3 ew
      go_wp2_with fail
      go_roundg (n - (kk + 1))
      case measure => have := HM.out; omega
      case rel => exact ⟨kk + 1, q', c', HM.out.1, Nat.le_refl _, rfl, by first | exact congrArg (Value.int .i64) HWK.out | go_num | simp, HNX.out⟩
    · have hke : kk = n := by omega
      subst hke
      have hltz : ¬ (kk : Int) < (kk : Int) := by omega
      have hT := tl_of_row (by rw [ris_len]; exact HA.out.1 : wr.ownsRow w.heap.size 37 6 (.slice q kk c) (ris kk).length (flatT (ris kk)))
      have HBA := hidT (bars_good q c (ris kk) k wr (by rw [ris_len]; exact hT) (ris_chk hb.2.1) hb.2.2.1 hb.2.2.2)
      rw [ris_len] at HBA
      have HAT := hidT (fun j (hj : j < cnt k kk) => ris_at hb.2.2.1 hb.2.1 hj)
      have HLN := hidT (bars_len (ris kk) k)
      rw [ris_len] at HLN
      have HW0 := hidT HA.out.2
      obtain ⟨L, hL⟩ : ∃ L, L = cnt k kk := ⟨_, rfl⟩
      have hLc : ((kk : Int) + (k : Int) - 1).tdiv (k : Int) = (L : Int) := by
        rw [hL]
        unfold cnt
        rw [show (kk : Int) + (k : Int) - 1 = ((kk + k - 1 : Nat) : Int) by omega]
        rfl
      have hL4 : L ≤ 800 := by
        rw [hL]; unfold cnt
        exact Nat.le_trans (Nat.div_le_self _ _) (by omega)
      have u1 : wrap64 ((kk : Int) + (k : Int)) = (kk : Int) + (k : Int) := by unfold wrap64; omega
      have u2 : wrap64 ((kk : Int) + (k : Int) - 1) = (kk : Int) + (k : Int) - 1 := by unfold wrap64; omega
      have u3 : wrap64 (L : Int) = (L : Int) := by unfold wrap64; omega
      have kz : ¬ (k : Int) = 0 := by omega
      rw [← hL] at HLN HAT
      generalize barsOf (ris kk) k = bs at *
      clear hT hL hb hkk hg hlt HA
      go_wp2_with fail
      refine HBA.out.mono ?_
      rintro e W1 ⟨v', rfl, hbl, hb1⟩
      obtain ⟨q2, c2, rfl, -, -⟩ := hbl.form
      have HBL := hidT hbl
      have HWB := hidT (HW0.out.trans (hb1.mono HW0.out.size))
      have hll := HLN.out
      simp only [hll]
      clear hbl hb1 HBA
      go_wp2_with fail
      clear hLc u1 u2 kz
      go_loopg [9] L (fun gg s9 wr2 => ∃ jj : Nat, jj ≤ L ∧ L - jj ≤ gg ∧ s9 = .int .i64 jj ∧ Aside (Below W1.heap.size W1 wr2))
      case atStart => exact ⟨0, Nat.zero_le _, by omega, rfl, Below.refl _ _⟩
      case round =>
        obtain ⟨jj, hjj, hg, rfl, HA⟩ := hrel
        by_cases hlt : jj < L
        · have hltz : (jj : Int) < (L : Int) := by omega
          have hin1 : ¬ ((jj : Int) < 0) := by omega
          have hlz : jj < bs.length := by rw [HLN.out]; exact hlt
          obtain ⟨g, off, rfl, hgl, hcc⟩ := (HBL.out.below HA.out).at hlz
          obtain ⟨m, hm1, hm2, hm3, hm4⟩ := HAT.out jj hlt
          rw [hm4] at hcc
          have c0 := hcc 0 _ rfl
          have c1 := hcc 1 _ rfl
          have c2 := hcc 2 _ rfl
          have c3 := hcc 3 _ rfl
          have c4 := hcc 4 _ rfl
          simp only [Nat.add_zero] at c0 c1 c2 c3 c4
          obtain ⟨P, O, H, D, hP, hO, hH, hD, w0, w1, w2, w3⟩ := ris_wraps (jj := jj) (k := k) hm1 hm2 hm3
          rw [hP, ← hO] at c0 c2
          rw [hP, ← hH] at c1 c3
          have HWK := hidT (wrapSucc jj L hlt (by omega))
          have HKK : Hid (jj < L ∧ L - jj ≤ gk) := ⟨hlt, hg⟩
          have HBW := hidT HA.out
          clear hcc hm1 hm2 hm3 hm4 hP hO hH hD hjj hg hlt HA hL4
          go_upto_region 14 with fail
          go_quiet (fail)
          have HBN := hidT (HBW.out.trans (⟨rfl, rfl, rfl, Nat.le_refl _, fun _ _ => rfl⟩ : Below W1.heap.size wr (wr.drewN nq)))
          generalize wr.drewN nq = wn at *
          clear c0 c1 c2 c3 c4 w0 w1 w2 w3
          go_wp2_with fail
          go_roundg (L - (jj + 1))
          case measure => have := HKK.out; omega
          case rel => exact ⟨jj + 1, HKK.out.1, Nat.le_refl _, by first | exact congrArg (Value.int .i64) HWK.out | go_num | simp, HBN.out⟩
        · have hje : jj = L := by omega
          subst hje
          have hltz : ¬ (jj : Int) < (jj : Int) := by omega
          go_wp2_with fail
          go_ret
          exact ⟨rfl, HWB.out.trans (HA.out.mono HWB.out.size)⟩
set_option maxHeartbeats 1000000 in
theorem rise_walk (n k : Int) (w : World) : Calls Try.prog 4 #[.int .i64 n, .int .i64 k] w fun e w' => e = .returned (.bool true) ∧ Below w.heap.size w w' := by
  by_cases h1 : n < 1
  · go_enter Try.func4, Try.ntmps4
    go_wp2_with fail
    go_ret
    exact ⟨rfl, Below.refl _ _⟩
  by_cases h2 : 400 < n
  · go_enter Try.func4, Try.ntmps4
    go_wp2_with fail
    go_ret
    exact ⟨rfl, Below.refl _ _⟩
  by_cases h3 : k < 1
  · go_enter Try.func4, Try.ntmps4
    go_wp2_with fail
    go_ret
    exact ⟨rfl, Below.refl _ _⟩
  by_cases h4 : 400 < k
  · go_enter Try.func4, Try.ntmps4
    go_wp2_with fail
    go_ret
    exact ⟨rfl, Below.refl _ _⟩
  obtain ⟨N, rfl⟩ : ∃ N : Nat, n = (N : Int) := ⟨n.toNat, by omega⟩
  obtain ⟨K, rfl⟩ : ∃ K : Nat, k = (K : Int) := ⟨k.toNat, by omega⟩
  exact rise_fine N K w (by omega) (by omega) (by omega) (by omega)
end Go.Proofs.Ytnfilcpnneckkaa.bar
