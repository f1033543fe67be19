/- The walk of QueueTakes where something is taken. -/
import Derived.Test.YtefolhkecgcigaaQTakes
namespace Go.Proofs.Ytefolhkecgcigaa.que
open Go.RowKit Go.Proofs.Ytefolhkecgcigaa.spn

theorem sum_append (a b : List F) : sum (a ++ b) = sum a + sum b := by
  induction a with
  | nil => simp [sum]
  | cons f t ih => rw [List.cons_append]; simp only [sum]; rw [ih]; omega
theorem sum_bound (fs : List F) (n : Int) (h : ∀ f ∈ fs, 1 ≤ f.qty ∧ f.qty ≤ n) : 0 ≤ sum fs ∧ sum fs ≤ n * fs.length := by
  induction fs with
  | nil => simp [sum]
  | cons f t ih =>
    obtain ⟨i1, i2⟩ := ih (fun x hx => h x (by simp [hx]))
    have := h f (by simp)
    simp only [sum, List.length_cons, Int.natCast_add, Int.mul_add]
    omega
theorem sum_take_le (fs : List F) (n : Int) (h : ∀ f ∈ fs, 1 ≤ f.qty ∧ f.qty ≤ n) (k : Nat) : 0 ≤ sum (fs.take k) ∧ sum (fs.take k) ≤ sum fs := by
  have e : fs = fs.take k ++ fs.drop k := (List.take_append_drop k fs).symm
  have h1 := sum_bound (fs.take k) n (fun f hf => h f (List.mem_of_mem_take hf))
  have h2 := sum_bound (fs.drop k) n (fun f hf => h f (List.mem_of_mem_drop hf))
  have : sum fs = sum (fs.take k) + sum (fs.drop k) := by rw [← sum_append, List.take_append_drop]
  omega

theorem first_fill (n : Int) (zs : List R) (h : 0 < n) (hg : Good zs) (hz : 0 < zs.length) : ∃ a b c t, (take n zs).1 = ⟨a, b, c⟩ :: t ∧ (zs[0]!).id = a := by
  cases zs with
  | nil => simp at hz
  | cons r t =>
    rw [take_cons n r t h hg]
    exact ⟨_, _, _, _, rfl, rfl⟩

theorem wrapK (k : Nat) (h : k ≤ 10000) : wrap64 ((k : Int) + 1) = ((k + 1 : Nat) : Int) := by unfold wrap64; omega

set_option maxRecDepth 100000 in
set_option maxHeartbeats 2000000 in
theorem takes_ok (p0 : Option Addr) (Z c0 : Nat) (zs : List R) (n cut : Int) (w : World) (hZ : zs.length = Z) (h : SL w (.slice p0 Z c0) zs) (h0 : qchk zs = 0) (h1 : 1 ≤ n) (h2 : n ≤ 10000) :
    Calls Try.prog 3 #[.slice p0 Z c0, .int .i64 n, .int .i64 cut] w fun e w' => e = .returned (.bool true) ∧ Below w.heap.size w w' := by
  have HS : Hid (SL w (.slice p0 Z c0) zs) := h
  clear h
  obtain ⟨h60, hG⟩ := (qchk_zero zs).1 h0
  obtain ⟨t1, t2, t3, t4, t5, t6, t7, t8⟩ := take_facts n.toNat n zs (by omega) hG (by omega)
  have hq2 : qchk (take n zs).2 = 0 := (qchk_zero _).2 ⟨by omega, t1⟩
  have HT : Hid (∀ W, SL W (.slice p0 Z c0) zs → Calls Try.prog 6 #[.slice p0 Z c0] W fun e w' => e = .returned (.tuple #[.int .i64 (tot zs), .nilIface]) ∧ Below W.heap.size W w') := by
    intro W hW
    have := total_any _ zs W hW
    rw [if_pos h0, h0, errV_zero] at this
    exact this
  have HT2 : Hid (∀ v W, SL W v (take n zs).2 → Calls Try.prog 6 #[v] W fun e w' => e = .returned (.tuple #[.int .i64 (tot (take n zs).2), .nilIface]) ∧ Below W.heap.size W w') := by
    intro v W hW
    have := total_any v _ W hW
    rw [if_pos hq2, hq2, errV_zero] at this
    exact this
  have HK : Hid (∀ m W, 1 ≤ m → m ≤ 10000 → SL W (.slice p0 Z c0) zs → Calls Try.prog 5 #[.slice p0 Z c0, .int .i64 m] W fun e w' => ∃ fv lv, e = .returned (.tuple #[fv, lv, .nilIface]) ∧ OwnF w' W.heap.size fv (take m zs).1 ∧ OwnQ w' W.heap.size lv (take m zs).2 ∧ Below W.heap.size W w') :=
    fun m W hm1 hm2 hW => take_good _ zs m W hW h0 hm1 hm2
  obtain ⟨tl, htl⟩ := tot_le (take n zs).2 t1.1
  have hlen2 : (take n zs).2.length ≤ 60 := by omega
  have hwas : tot zs = sum (take n zs).1 + tot (take n zs).2 := by omega
  rw [hwas] at HT
  have hnow : sum (take n zs).1 < n → tot (take n zs).2 = 0 := fun hs => by rw [t6 hs]; rfl
  have HF : Hid (zs.length > 0 → ∃ a b c t, (take n zs).1 = ⟨a, b, c⟩ :: t ∧ (zs[0]!).id = a) := fun hz => first_fill n zs (by omega) hG hz
  have hnl : tot (take n zs).2 ≤ 1200000 := by omega
  have HZ : Hid (Good zs ∧ qchk zs = 0 ∧ zs.length = Z ∧ zs.length ≤ 60) := ⟨hG, h0, hZ, h60⟩
  clear h0 hG hZ h60 t1 t2 t3 t6 htl hwas hlen2 hq2
  have H5 : Hid (∀ f ∈ (take n zs).1, 1 ≤ f.qty ∧ f.qty ≤ n) := t5
  clear t5
  obtain ⟨fs, hfs⟩ : ∃ fs, (take n zs).1 = fs := ⟨_, rfl⟩
  obtain ⟨ys, hys⟩ : ∃ ys, (take n zs).2 = ys := ⟨_, rfl⟩
  have HE : Hid ((take n zs).1 = fs ∧ (take n zs).2 = ys) := ⟨hfs, hys⟩
  rw [hfs] at t4 t7 t8 HF H5 hnow HT
  rw [hys] at HT2 tl hnl hnow HT
  clear hfs hys
  obtain ⟨S, hS⟩ : ∃ S, sum fs = S := ⟨_, rfl⟩
  obtain ⟨T, hT⟩ : ∃ T, tot ys = T := ⟨_, rfl⟩
  have HST : Hid (sum fs = S) := hS
  rw [hS] at t4 t8 hnow HT
  rw [hT] at HT2 tl hnl hnow HT
  clear hS hT
  have h7 : fs.length ≤ 10000 := by omega
  go_enter Try.func3, Try.ntmps3
  go_wp2_with fail
  refine (fact_any w).mono ?_
  rintro e w1 ⟨g, o, c, p, d, rfl, k1, k2, hb1⟩
  have HB1 : Hid (Below w.heap.size w w1) := hb1
  clear hb1
  go_wp2_with fail
  refine (HT.out _ (HS.out.below HB1.out)).mono ?_
  rintro e w2 ⟨rfl, hb2⟩
  have HB2 : Hid (Below w.heap.size w w2) := HB1.out.trans (hb2.mono HB1.out.size)
  clear hb2 k1 k2
  go_wp2_with fail
  refine (HK.out _ _ h1 h2 (HS.out.below HB2.out)).mono ?_
  rintro e w3 ⟨fv, lv, rfl, hF, hQ, hb3⟩
  have HB3 : Hid (Below w.heap.size w w3) := HB2.out.trans (hb3.mono HB2.out.size)
  rw [HE.out.1] at hF
  rw [HE.out.2] at hQ
  have HFv : Hid (OwnF w3 w2.heap.size fv fs) := hF
  have HQv : Hid (OwnQ w3 w2.heap.size lv ys) := hQ
  clear hb3 hF hQ
  obtain ⟨pf, cf, rfl⟩ := HFv.out.slc
  obtain ⟨pq, cq, rfl⟩ := HQv.out.slc
  go_wp2_with fail
  refine (HT2.out _ _ (OwnQ.sl HQv.out)).mono ?_
  rintro e w4 ⟨rfl, hb4⟩
  have HB4 : Hid (Below w.heap.size w w4) := HB3.out.trans (hb4.mono HB3.out.size)
  have HF4 : Hid (OwnF w4 w2.heap.size (.slice pf fs.length cf) fs) := HFv.out.below hb4
  have HQ4 : Hid (OwnQ w4 w2.heap.size (.slice pq ys.length cq) ys) := HQv.out.below hb4
  clear hb4 HFv HQv HT HT2
  obtain ⟨L, hL⟩ : ∃ L, fs.length = L := ⟨_, rfl⟩
  have HL : Hid (fs.length = L) := hL
  rw [hL] at h7 HF4 ⊢
  clear hL t7
  go_wp2_with fail
  go_loopg [18, 19] L (fun gg s18 s19 wr => ∃ i : Nat, i ≤ L ∧ L - i ≤ gg ∧ s19 = .int .i64 i ∧ s18 = .int .i64 (sum (fs.take i)) ∧ wr = w4)
  case atStart => exact ⟨0, Nat.zero_le _, by omega, rfl, rfl, rfl⟩
  case round =>
    obtain ⟨i, hi, hg, rfl, rfl, rfl⟩ := hrel
    by_cases hlt : i < L
    · have hltz : (i : Int) < (L : Int) := by omega
      have hin : ¬ ((i : Int) < 0) := by omega
      have hif : i < fs.length := by rw [HL.out]; exact hlt
      obtain ⟨f, hf⟩ : ∃ f, fs[i]? = some f := ⟨fs[i], by simp [hif]⟩
      obtain ⟨xa, xb, xc⟩ := f
      have hmem : (⟨xa, xb, xc⟩ : F) ∈ fs := List.mem_of_getElem? hf
      obtain ⟨q1, q2⟩ := H5.out _ hmem
      simp only [] at q1 q2
      have HF4' : OwnF wr w2.heap.size (.slice pf fs.length cf) fs := by rw [HL.out]; exact HF4.out
      obtain ⟨gf, of, cf', hv, hcel⟩ := fill_at HF4' (by omega)
      simp only [Value.slice.injEq] at hv
      obtain ⟨rfl, -, rfl⟩ := hv
      have x2 := (hcel i _ _ _ hf).2.2
      have hts : fs.take (i + 1) = fs.take i ++ [⟨xa, xb, xc⟩] := by
        rw [List.take_succ_eq_append_getElem hif]
        have := (List.getElem?_eq_some_iff.1 hf).2
        rw [this]
      have hsum : sum (fs.take (i + 1)) = sum (fs.take i) + xc := by rw [hts, sum_append]; simp [sum]
      have hb := sum_take_le fs n H5.out i
      have e1 : wrap64 (sum (fs.take i) + xc) = sum (fs.take i) + xc := by have := HST.out; unfold wrap64; omega
      have HSM : Hid (sum (fs.take (i + 1)) = sum (fs.take i) + xc) := hsum
      have e2 := wrapK i (by omega)
      clear hsum hts hcel HF4' hmem hf hb
      generalize sum (fs.take i) = A at e1 HSM ⊢
      have g1 : ¬ (xc < 1) := by omega
      have g2 : ¬ (n < xc) := by omega
      go_wp2_with fail
      go_roundg (L - (i + 1))
      case measure => clear e1 e2; omega
      case rel => exact ⟨i + 1, hlt, Nat.le_refl _, by go_num, by rw [HSM.out], rfl⟩
    · have hltz : ¬ (i : Int) < (L : Int) := by omega
      have hiL : i = L := by omega
      subst hiL
      have hall : sum (fs.take i) = S := by rw [List.take_of_length_le (by rw [HL.out]; exact Nat.le_refl _)]; exact HST.out
      rw [hall]
      clear hall hltz hlt hg hi
      have e3 : wrap64 (S + T) = S + T := by unfold wrap64; omega
      have e3' : IntKind.i64.wrap (S + T) = S + T := (IntWalk.i64_left _).trans e3
      have e5 : wrap64 S = S := by unfold wrap64; omega
      have e5' : IntKind.i64.wrap S = S := (IntWalk.i64_left _).trans e5
      have g1 : decide (n < S) = false := by simp; omega
      go_upto_region 17 with fail
      go_cut [153] from 106 to 153 (fun s wx => s = .bool false ∧ Aside (∃ q, wx = wr.drewN q))
      case first =>
        by_cases hz : Z = 0
        · subst hz
          by_cases hs : S < n
          · have hT0 := hnow hs
            have gT : (T != 0) = false := by simp [hT0]
            clear hT0
            have g2 : decide (S < n) = true := by simpa using hs
            go_quiet (fail)
            go_wp2
            go_meet
            case rel => exact ⟨rfl, _, rfl⟩
          · have g2 : decide (S < n) = false := by simpa using hs
            go_quiet (fail)
            go_wp2
            go_meet
            case rel => exact ⟨rfl, _, rfl⟩
        · obtain ⟨fa, fb, fc, ft, hfe, hid⟩ := HF.out (by have := HZ.out.2.2.1; omega)
          have hZ1 : zs.length = Z := HZ.out.2.2.1
          rcases HS.out.below HB4.out with ⟨hh, _⟩ | ⟨b0, o0, c0', hh, -, -, hbz, hlz⟩
          · simp only [Value.slice.injEq] at hh
            omega
          simp only [Value.slice.injEq] at hh
          obtain ⟨rfl, -, rfl⟩ := hh
          obtain ⟨r, hr⟩ : ∃ r, zs[0]! = r := ⟨_, rfl⟩
          obtain ⟨r1, r2, r3, r4, r5⟩ := r
          have y0 := (lies_at hlz (show 0 < zs.length by omega) hr).1
          rw [hr] at hid
          simp only [] at hid
          rw [Nat.zero_mul, Nat.add_zero, hid] at y0
          clear hr
          have HF4' : OwnF wr w2.heap.size (.slice pf fs.length cf) fs := by rw [HL.out]; exact HF4.out
          obtain ⟨gf, of, cf', hv, hcel⟩ := fill_at HF4' (by rw [hfe]; simp)
          simp only [Value.slice.injEq] at hv
          obtain ⟨rfl, -, rfl⟩ := hv
          have x0 := (hcel 0 fa fb fc (by rw [hfe]; rfl)).1
          rw [Nat.zero_mul, Nat.add_zero] at x0
          have hi0 : i ≠ 0 := by have := HL.out; rw [hfe] at this; simp at this; omega
          have hi1 : ((i : Int) == 0) = false := by simp; omega
          have hi2 : (0 : Int) < (i : Int) := by omega
          have hzp : decide (0 < (Z : Int)) = true := by simp; omega
          have hz2 : (0 : Int) < (Z : Int) := by omega
          have hz3 : 0 < Z := by omega
          have hz4 : decide (0 < Z) = true := by simp; omega
          have hi3 : (i == 0) = false := by simp; omega
          have hi4 : 0 < i := by omega
          clear hcel HF4' hfe hid hlz hZ1
          by_cases hs : S < n
          · have hT0 := hnow hs
            have gT : (T != 0) = false := by simp [hT0]
            clear hT0
            have g2 : decide (S < n) = true := by simpa using hs
            go_quiet (fail)
            go_wp2
            go_meet
            case rel => exact ⟨rfl, _, rfl⟩
          · have g2 : decide (S < n) = false := by simpa using hs
            go_quiet (fail)
            go_wp2
            go_meet
            case rel => exact ⟨rfl, _, rfl⟩
      case rest =>
        obtain ⟨rfl, hcw⟩ := hcut
        have HBc : Hid (Below w.heap.size w wc) := by
          obtain ⟨q, rfl⟩ := hcw.out
          exact below_drewN HB4.out q
        have HQc : Hid (OwnQ wc w2.heap.size (.slice pq ys.length cq) ys) := by
          obtain ⟨q, rfl⟩ := hcw.out
          exact HQ4.out
        clear hcw e3 e3' e5 e5' g1
        by_cases c1 : cut < 1
        · go_wp2_with fail
          go_ret
          exact ⟨rfl, HBc.out⟩
        by_cases c2 : n ≤ cut
        · go_wp2_with fail
          go_ret
          exact ⟨rfl, HBc.out⟩
        have e4 : wrap64 (n - cut) = n - cut := by unfold wrap64; omega
        go_wp2_with fail
        refine (HK.out cut _ (by omega) (by omega) (HS.out.below HBc.out)).mono ?_
        rintro e w5 ⟨fv5, lv5, rfl, -, hQ5, hb5⟩
        have HB5 : Hid (Below w.heap.size w w5) := HBc.out.trans (hb5.mono HBc.out.size)
        have HQ5 : Hid (OwnQ w5 w2.heap.size (.slice pq ys.length cq) ys) := HQc.out.below hb5
        have HL5 : Hid (OwnQ w5 wc.heap.size lv5 (take cut zs).2) := hQ5
        clear hb5 hQ5
        obtain ⟨u1, u2, -⟩ := take_facts cut.toNat cut zs (by omega) HZ.out.1 (by omega)
        have HU : Hid (qchk (take cut zs).2 = 0) := (qchk_zero _).2 ⟨by have := HZ.out.2.2.2; omega, u1⟩
        clear u1 u2
        go_wp2_with fail
        refine (take_good lv5 (take cut zs).2 (n - cut) _ (OwnQ.sl HL5.out) HU.out (by omega) (by omega)).mono ?_
        rintro e w6 ⟨fv6, lv6, rfl, -, hQ6, hb6⟩
        have HB6 : Hid (Below w.heap.size w w6) := HB5.out.trans (hb6.mono HB5.out.size)
        have HQ6 : Hid (OwnQ w6 w2.heap.size (.slice pq ys.length cq) ys) := HQ5.out.below hb6
        have hty : (take (n - cut) (take cut zs).2).2 = ys := by
          rw [take_two cut.toNat cut (n - cut) zs (by omega) (by omega) (by omega) HZ.out.1, show cut + (n - cut) = n by omega]
          exact HE.out.2
        rw [hty] at hQ6
        have HL6 : Hid (SL w6 lv6 ys) := OwnQ.sl hQ6
        clear hb6 hQ6 hty
        go_wp2_with fail
        refine (rests_same lv6 _ ys _ HL6.out (OwnQ.sl HQ6.out)).mono ?_
        rintro e w7 ⟨rfl, hb7⟩
        have HB7 : Hid (Below w.heap.size w w7) := HB6.out.trans (hb7.mono HB6.out.size)
        clear hb7
        go_wp2_with fail
        go_ret
        exact ⟨rfl, HB7.out⟩

theorem takes_any (v : Value) (zs : List R) (n cut : Int) (w : World) (h : SL w v zs) :
    Calls Try.prog 3 #[v, .int .i64 n, .int .i64 cut] w fun e w' => e = .returned (.bool true) ∧ Below w.heap.size w w' := by
  by_cases hE : tchk zs n = 0
  · unfold tchk at hE
    by_cases h0 : qchk zs = 0
    · rw [if_pos h0] at hE
      by_cases h1 : 1 ≤ n ∧ n ≤ 10000
      · obtain ⟨p, c, rfl⟩ := h.form
        exact takes_ok p zs.length c zs n cut w rfl h h0 h1.1 h1.2
      · rw [if_neg h1] at hE; cases hE
    · rw [if_neg h0] at hE; exact absurd hE h0
  · exact takes_err v zs n cut w h hE

end Go.Proofs.Ytefolhkecgcigaa.que
