/- The walk of SelfGoes. -/
import Derived.Test.YtnjpjieedgmffaaSelGo
namespace Go.Proofs.Ytnjpjieedgmffaa.slf
open Go.RowKit Go.Proofs.Ytnjpjieedgmffaa.spn Go.Proofs.Ytnjpjieedgmffaa.que Go.Proofs.Ytnjpjieedgmffaa.sid Go.Proofs.Ytnjpjieedgmffaa.bok Go.Proofs.Ytnjpjieedgmffaa.mee Go.Proofs.Ytnjpjieedgmffaa.kin

theorem gsum_take (ts : List T) (k : Nat) (hk : k < ts.length) : sumT (ts.take (k + 1)) = sumT (ts.take k) + ts[k]!.qty := by
  rw [List.take_succ_eq_append_getElem hk, sumT_append, getE _ _ hk]; simp only [sumT]; omega
theorem gsum_pos (ts : List T) (h : ∀ x ∈ ts, 1 ≤ x.qty) : (ts.length : Int) ≤ sumT ts := by
  induction ts with
  | nil => simp [sumT]
  | cons x t ih =>
    have h1 := h x (by simp)
    have h2 := ih (fun y hy => h y (by simp [hy]))
    simp only [sumT, List.length_cons]; omega
theorem gsum_bound (ts : List T) (h : ∀ x ∈ ts, 1 ≤ x.qty) (k : Nat) : 0 ≤ sumT (ts.take k) ∧ sumT (ts.take k) ≤ sumT ts := by
  have h1 := gsum_pos (ts.take k) (fun f hf => h f (List.mem_of_mem_take hf))
  have h2 := gsum_pos (ts.drop k) (fun f hf => h f (List.mem_of_mem_drop hf))
  have h3 := sumT_append (ts.take k) (ts.drop k)
  rw [List.take_append_drop] at h3
  omega
theorem nG_le {m q : Int} (h1 : 1 ≤ q) (h2 : q ≤ 30) : 0 ≤ nG m q ∧ nG m q ≤ 30 := by
  unfold nG mostG
  split
  · omega
  · split
    · omega
    · split
      · omega
      · split <;> omega

set_option maxRecDepth 100000 in
set_option maxHeartbeats 4000000 in
theorem goes_walk (m q : Int) (w : World) :
    Calls Try.prog 4 #[.int .i64 m, .int .i64 q] w fun e w' => e = .returned (.bool true) ∧ Below w.heap.size w w' := by
  by_cases a1 : m < 0
  · go_enter Try.func4, Try.ntmps4
    go_wp2_with fail
    go_ret
    exact ⟨rfl, Below.refl _ _⟩
  by_cases a2 : 3 < m
  · go_enter Try.func4, Try.ntmps4
    go_wp2_with fail
    go_ret
    exact ⟨rfl, Below.refl _ _⟩
  by_cases a3 : q < 1
  · go_enter Try.func4, Try.ntmps4
    go_wp2_with fail
    go_ret
    exact ⟨rfl, Below.refl _ _⟩
  by_cases a4 : 30 < q
  · go_enter Try.func4, Try.ntmps4
    go_wp2_with fail
    go_ret
    exact ⟨rfl, Below.refl _ _⟩
  have HM : Hid (m = 0 ∨ m = 1 ∨ m = 2 ∨ m = 3) := by show _ ∨ _; omega
  have HQ : Hid (1 ≤ q ∧ q ≤ 30) := by show _ ∧ _; omega
  obtain ⟨w2, hw2⟩ : ∃ w2, w2 = (w.alloc (.cells #[.int .i64 1, .int .i64 1, .int .i64 10, .int .i64 0, .int .i64 0, .int .i64 2, .int .i64 5, .int .i64 10, .int .i64 0, .int .i64 0, .int .i64 3, .int .i64 3, .int .i64 10, .int .i64 0, .int .i64 0] 28)).alloc (.cells #[.int .i64 100, .slice (some ⟨w.heap.size, 0, none⟩) 3 3] 31) := ⟨_, rfl⟩
  have hL2 : LS w2 (.slice (some ⟨w.heap.size + 1, 0, none⟩) 1 1) gS := by rw [hw2]; exact goes_lay w
  have hB2 : Below w.heap.size w w2 := by rw [hw2]; exact ((Below.refl _ _).alloc (Nat.le_refl _) _).alloc (by simp) _
  obtain ⟨V, hV⟩ : ∃ V, V = w2.alloc (.cells #[.slice none 0 0, .slice (some ⟨w.heap.size + 1, 0, none⟩) 1 1] 24) := ⟨_, rfl⟩
  have hB3 : Below w2.heap.size w2 V := by rw [hV]; exact (Below.refl _ _).alloc (Nat.le_refl _) _
  have HDO := hidK (goes_do m q HM.out HQ.out.1 HQ.out.2 (some ⟨w.heap.size + 1, 0, none⟩) 1 V (hL2.below hB3))
  have HBV := hidK (hB2.trans (hB3.mono hB2.size))
  clear hL2 hB2 hB3
  go_enter Try.func4, Try.ntmps4
  go_wp2_with fail
  rw [← hw2, ← hV]
  clear hw2 hV a1 a2 a3 a4
  refine HDO.out.mono ?_
  rintro e w3 ⟨y1, y2, l1, l2, f1, f2, tq, tn, tc, iq, ic, ts, rfl, OT, htn, hsum, hea, b3⟩
  have hBa : Below w3.heap.size w3 (w3.alloc (.cells #[.slice y1 l1 f1, .slice y2 l2 f2] 24)) := (Below.refl _ _).alloc (Nat.le_refl _) _
  have HOT := hidK (OwnM.below OT hBa)
  have HB3 := hidK (HBV.out.trans ((b3.trans (hBa.mono b3.size)).mono HBV.out.size))
  obtain ⟨NN, hNN⟩ : ∃ NN, nG m q = NN := ⟨_, rfl⟩
  obtain ⟨II, hII⟩ : ∃ II, iG m q = II := ⟨_, rfl⟩
  have HN := hidK (show nG m q = NN ∧ 0 ≤ NN ∧ NN ≤ 30 from ⟨hNN, by rw [← hNN]; exact nG_le HQ.out.1 HQ.out.2⟩)
  have HI := hidK hII
  rw [hNN] at hsum ⊢
  rw [hII]
  have HTL := hidK (show ts.length = tn ∧ (tn : Int) ≤ 30 from ⟨htn, by have h1 := gsum_pos ts hea; have h2 := HN.out; omega⟩)
  have HS := hidK hsum
  have HEA := hidK hea
  clear OT b3 hBa hsum hea htn HDO hNN hII
  go_upto_region 5 with fail
  generalize w3.alloc (.cells #[.slice y1 l1 f1, .slice y2 l2 f2] 24) = W at *
  generalize w3.heap.size = YB at *
  go_wp2_with fail
  go_loopg [11, 12] tn (fun gg s11 s12 wr => ∃ kk : Nat, kk ≤ tn ∧ tn - kk ≤ gg ∧ s12 = .int .i64 kk ∧ s11 = .int .i64 (sumT (ts.take kk)) ∧ Aside (wr = W))
  case atStart => exact ⟨0, Nat.zero_le _, by omega, rfl, rfl, rfl⟩
  case round =>
    obtain ⟨kk, hkk, hg, rfl, rfl, hwr⟩ := hrel
    have hwr' := hwr.out
    subst hwr'
    clear hwr
    by_cases hlt : kk < tn
    · have hltz : (kk : Int) < (tn : Int) := by omega
      have hkt : kk < ts.length := by rw [HTL.out.1]; exact hlt
      obtain ⟨g, off, htq, -, z0, z1, z2, z3, z4, z5⟩ := OwnT.at HOT.out hkt
      subst htq
      obtain ⟨qx, hqx⟩ : ∃ qx, ts[kk]!.qty = qx := ⟨_, rfl⟩
      rw [hqx] at z5
      have hin1 : ¬ ((kk : Int) < 0) := Int.not_lt.2 (Int.natCast_nonneg _)
      have hsT := gsum_take ts kk hkt
      rw [hqx] at hsT
      have E1 : Hid (wrap64 (sumT (ts.take kk) + qx) = sumT (ts.take (kk + 1))) := by
        have h1 := gsum_bound ts HEA.out (kk + 1)
        have h2 := HS.out
        have h3 := HN.out
        show _ = _
        rw [← hsT]; unfold wrap64; omega
      have HMs : Hid (tn - (kk + 1) < gk ∧ kk + 1 ≤ tn) := ⟨by omega, by omega⟩
      have E2 : Hid (wrap64 ((kk : Int) + 1) = ((kk + 1 : Nat) : Int)) := by
        have h := HTL.out.2
        show _ = _
        unfold wrap64
        omega
      clear hsT hkt hkk hg hlt z0 z1 z2 z3 z4 hqx
      obtain ⟨Sn, hSn⟩ : ∃ Sn, sumT (ts.take (kk + 1)) = Sn := ⟨_, rfl⟩
      obtain ⟨So, hSo⟩ : ∃ So, sumT (ts.take kk) = So := ⟨_, rfl⟩
      have HSn := hidK hSn
      rw [hSn] at E1
      rw [hSo] at E1
      rw [hSo]
      have x1 := E1.out
      have x2 := E2.out
      clear hSn hSo
      go_wp2_with fail
      go_roundg (tn - (kk + 1))
      case measure => exact HMs.out.1
      case rel => exact ⟨kk + 1, HMs.out.2, Nat.le_refl _, by first | rfl | rw [E2.out], by rw [HSn.out], rfl⟩
    · have hltz : ¬ (kk : Int) < (tn : Int) := by omega
      have hT2 : sumT (ts.take kk) = NN := by rw [← HS.out, List.take_of_length_le (by rw [HTL.out.1]; omega)]
      rw [hT2]
      clear hlt hkk hg
      have hN := HN.out.1
      have hI := HI.out
      have hQ := HQ.out
      have HW := HB3
      rcases HM.out with rfl | rfl | rfl | rfl
      · by_cases h10 : q ≤ 10
        · have e1 : NN = q := by rw [← hN]; exact if_pos h10
          have e2 : II = 0 := by rw [← hI]; exact if_pos h10
          subst e1
          subst e2
          rw [Int.sub_self]
          clear hN hI hQ HN HI HS HQ
          go_wp2_with fail
          go_ret
          exact ⟨rfl, HW.out⟩
        · have e2 : II = 0 := by rw [← hI]; exact if_neg h10
          subst e2
          have e0 : NN = min q 30 := by rw [← hN]; exact if_neg h10
          by_cases hlm : q < 30
          · have e1 : NN = q := by omega
            subst e1
            have x1 : wrap64 (NN - NN) = 0 := by unfold wrap64; omega
            rw [Int.sub_self]
            clear hN hI hQ HN HI HS HQ e0
            go_wp2_with fail
            go_ret
            exact ⟨rfl, HW.out⟩
          · have e1 : NN = 30 := by omega
            subst e1
            have x1 : wrap64 (q - 30) = q - 30 := by unfold wrap64; omega
            clear hN hI hQ HN HI HS HQ e0
            go_wp2_with fail
            go_ret
            exact ⟨rfl, HW.out⟩
      · by_cases h10 : q ≤ 10
        · have e1 : NN = q := by rw [← hN]; exact if_pos h10
          have e2 : II = 0 := by rw [← hI]; exact if_pos h10
          subst e1
          subst e2
          rw [Int.sub_self]
          clear hN hI hQ HN HI HS HQ
          go_wp2_with fail
          go_ret
          exact ⟨rfl, HW.out⟩
        · have e2 : II = 0 := by rw [← hI]; exact if_neg h10
          subst e2
          have e0 : NN = min q 10 := by rw [← hN]; exact if_neg h10
          by_cases hlm : q < 10
          · have e1 : NN = q := by omega
            subst e1
            have x1 : wrap64 (NN - NN) = 0 := by unfold wrap64; omega
            rw [Int.sub_self]
            clear hN hI hQ HN HI HS HQ e0
            go_wp2_with fail
            go_ret
            exact ⟨rfl, HW.out⟩
          · have e1 : NN = 10 := by omega
            subst e1
            have x1 : wrap64 (q - 10) = q - 10 := by unfold wrap64; omega
            clear hN hI hQ HN HI HS HQ e0
            go_wp2_with fail
            go_ret
            exact ⟨rfl, HW.out⟩
      · by_cases h10 : q ≤ 10
        · have e1 : NN = q := by rw [← hN]; exact if_pos h10
          have e2 : II = 0 := by rw [← hI]; exact if_pos h10
          subst e1
          subst e2
          rw [Int.sub_self]
          clear hN hI hQ HN HI HS HQ
          go_wp2_with fail
          go_ret
          exact ⟨rfl, HW.out⟩
        · have e2 : II = 1 := by rw [← hI]; exact if_neg h10
          subst e2
          have e0 : NN = min q 20 := by rw [← hN]; exact if_neg h10
          by_cases hlm : q < 20
          · have e1 : NN = q := by omega
            subst e1
            have x1 : wrap64 (NN - NN) = 0 := by unfold wrap64; omega
            rw [Int.sub_self]
            clear hN hI hQ HN HI HS HQ e0
            go_wp2_with fail
            go_ret
            exact ⟨rfl, HW.out⟩
          · have e1 : NN = 20 := by omega
            subst e1
            have x1 : wrap64 (q - 20) = q - 20 := by unfold wrap64; omega
            clear hN hI hQ HN HI HS HQ e0
            go_wp2_with fail
            go_ret
            exact ⟨rfl, HW.out⟩
      · by_cases h10 : q ≤ 10
        · have e1 : NN = q := by rw [← hN]; exact if_pos h10
          have e2 : II = 0 := by rw [← hI]; exact if_pos h10
          subst e1
          subst e2
          rw [Int.sub_self]
          clear hN hI hQ HN HI HS HQ
          go_wp2_with fail
          go_ret
          exact ⟨rfl, HW.out⟩
        · have e2 : II = 1 := by rw [← hI]; exact if_neg h10
          subst e2
          have e0 : NN = min q 10 := by rw [← hN]; exact if_neg h10
          by_cases hlm : q < 10
          · have e1 : NN = q := by omega
            subst e1
            have x1 : wrap64 (NN - NN) = 0 := by unfold wrap64; omega
            rw [Int.sub_self]
            clear hN hI hQ HN HI HS HQ e0
            go_wp2_with fail
            go_ret
            exact ⟨rfl, HW.out⟩
          · have e1 : NN = 10 := by omega
            subst e1
            have x1 : wrap64 (q - 10) = q - 10 := by unfold wrap64; omega
            clear hN hI hQ HN HI HS HQ e0
            go_wp2_with fail
            go_ret
            exact ⟨rfl, HW.out⟩
end Go.Proofs.Ytnjpjieedgmffaa.slf
