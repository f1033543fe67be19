/- Contracts over this seat's translation: slices.symMergeCmpFunc at pointers, where one element stands alone on the right. -/
import Derived.Test.YtabcfmpmkdoieaaDoorCalSymR
namespace Go.Proofs.YtabcfmpmkdoieaaDoor.cal
open Go.RowKit Go.Lib Go.Sort

section
variable {key : Nat → Int} {cf : Nat → Nat → Int} {g : Nat} {cb : Array Value} {enc : Nat → Value} {w0 : World} {blk off cap n : Nat} {d0 : Array Nat}

set_option maxHeartbeats 4000000 in
set_option maxRecDepth 1000000 in
theorem sym_left (eg : ∀ args w, (callFunc g args).run Tryd.prog w = .ok (.enter g args) w) (R : Row1 enc w0 blk off d0) (hs : d0.size = n) (hC : CmpLays1 Tryd.prog g cb enc cf blk off n w0) (hk : ∀ x y, cf x y < 0 ↔ key x < key y)
    (F : Nat → Nat) (a m b : Nat) (dk : Array Nat) (W : World) (hF : Fn dk n F) (S : SW enc w0 blk off dk W) (hm : a + 1 < m) (h2 : b = m + 1) (h3 : b ≤ n) (hn : n ≤ 1000) (hL : Srt key F a m) (hT : TT key F a m b) :
    Calls Tryd.prog 67 #[.slice (some ⟨blk, off, none⟩) n cap, .int .i64 a, .int .i64 m, .int .i64 b, .func (.func g) #[] cb] W fun e w' => SymPost key enc w0 blk off n F a b e w' := by
  have hcl0 := R.hO.cells
  simp only [Value.cells] at hcl0
  have hst := R.hO.store Tryd.prog
  have HCF : Hid (∀ {dj : Array Nat} {G : Nat → Nat} {V : World}, Fn dj n G → SW enc w0 blk off dj V → ∀ i j, i < n → j < n → _) := fun {dj G V} => cmp_facts (dk := dj) (F := G) (W := V) R hs hC
  have HSF : Hid (∀ {dj : Array Nat} {G : Nat → Nat} {V : World}, Fn dj n G → SW enc w0 blk off dj V → ∀ i j, i < n → j < n → _) := fun {dj G V} => swap_facts (dk := dj) (F := G) (W := V) R hs
  have HF := hidC hF
  have HS := hidC S
  have HB : Hid (a + 1 < m ∧ b = m + 1 ∧ b ≤ n ∧ n ≤ 1000) := ⟨hm, h2, h3, hn⟩
  have HK := hidC hk
  have HM : Hid (∀ i, a ≤ i → i ≤ m → (i = a ∨ ¬ key (F m) < key (F (i - 1))) → (i = m ∨ key (F m) < key (F i)) → Mg key F (rot F i m b) a b) := by
    intro i x1 x2 x3 x4
    subst h2
    exact mg_left hL hT x1 x2 x3 x4
  obtain ⟨t, ht⟩ : ∃ t, m = t + a := ⟨m - a, by omega⟩
  have hne : ((t : Int) == 1) = false := by simp; omega
  have hne2 : ¬ ((t : Int) = 1) := by omega
  have w1 := subW m a t ht (by omega)
  have w2 := subW b m 1 (by clear w1; omega) (by clear w1; omega)
  have mixed := mixed
  clear hF S hm h2 h3 hn hs R hC hk hL hT ht
  go_enter Tryd.func67, Tryd.ntmps67
  go_wp2_with fail
  clear w1 w2 hne hne2
  go_loopg [14, 15, 16] (m - a) (fun gg s14 s15 _ wr => ∃ i j : Nat, s14 = .int .i64 i ∧ s15 = .int .i64 j ∧ j - i ≤ gg ∧ Aside (a ≤ i ∧ i ≤ j ∧ j ≤ m ∧ (i = a ∨ ¬ key (F m) < key (F (i - 1))) ∧ (j = m ∨ key (F m) < key (F j)) ∧ ∃ dj, Fn dj n F ∧ SW enc w0 blk off dj wr))
  case atStart => exact ⟨a, m, rfl, rfl, Nat.le_refl _, Nat.le_refl _, by have := HB.out; omega, Nat.le_refl _, .inl rfl, .inl rfl, dk, HF.out, HS.out⟩
  case round =>
    clear HF HS
    obtain ⟨i, j, rfl, rfl, hg, HA⟩ := hrel
    by_cases hlt : i < j
    · obtain ⟨a1, a2, a3, a4, a5, dj, hj, sj⟩ := HA.out
      obtain ⟨b1, b2, b3, b4⟩ := HB.out
      obtain ⟨h, hh⟩ : ∃ h, h = (i + j) / 2 := ⟨_, rfl⟩
      have hb1 : h < m ∧ i ≤ h ∧ h < j := by omega
      obtain ⟨c1, c2, c3⟩ := HCF.out hj sj m h (by omega) (by omega)
      have hltz : (i : Int) < (j : Int) := by omega
      have bh : (h : Int) < (n : Int) := by omega
      have ba : (m : Int) < (n : Int) := by omega
      have hd := halfW i j h hh (by omega)
      have hw := addW i j (i + j) rfl (by clear hd; omega)
      have pj : ((i + j : Nat) : Int) = (i : Int) + (j : Int) := by clear hd hw; omega
      rw [pj] at hw
      clear pj
      have HN : Hid (∃ dj, Fn dj n F ∧ ∀ q os, SW enc w0 blk off dj (grow (wr.drewN q) os)) := ⟨dj, hj, fun q os => sj.grown q os⟩
      have hc : (cf (F m) (F h) < 0 ↔ key (F m) < key (F h)) := HK.out _ _
      have HX : Hid (a ≤ i ∧ i ≤ j ∧ j ≤ m ∧ i ≤ h ∧ h < j ∧ j - i ≤ gk ∧ (i = a ∨ ¬ key (F m) < key (F (i - 1))) ∧ (j = m ∨ key (F m) < key (F j))) := ⟨a1, a2, a3, hb1.2.1, hb1.2.2, hg, a4, a5⟩
      generalize hX : F m = X at c1 c3 hc
      generalize hY : F h = Y at c2 c3 hc
      have HXY : Hid (F m = X ∧ F h = Y) := ⟨hX, hY⟩
      have HCC := hidC hc
      clear a1 a2 a3 a4 a5 hj sj b1 b2 b3 b4 hh hb1 HA hg hX hY hc
      by_cases hv : cf X Y < 0
      · have hd2 : decide (cf X Y < 0) = true := decide_eq_true hv
        go_wp2_with fail
        go_quiet_grown (first | (go_at_fn g; refine Calls.grown_of (c3 _ _)))
        have HN2 : Hid (∃ dj, Fn dj n F ∧ SW enc w0 blk off dj (grow (wr.drewN nq) osq)) := by
          obtain ⟨dj, x1, x2⟩ := HN.out
          exact ⟨dj, x1, x2 nq osq⟩
        clear c1 c2 c3 HN
        generalize grow (wr.drewN nq) osq = w2 at HN2 ⊢
        clear nq osq
        go_wp2_with fail
        go_roundg (h - i)
        case measure => have h1 := HX.out; clear hw hd; omega
        case rel =>
          have h1 := HX.out
          have h2 := HXY.out
          exact ⟨i, h, rfl, rfl, Nat.le_refl _, h1.1, h1.2.2.2.1, by clear hw hd; omega, by have := h1.2.2.2.2.2.2.1; clear hw hd; omega, .inr (by rw [h2.1, h2.2]; exact HCC.out.1 hv), HN2.out⟩
      · have hd2 : decide (cf X Y < 0) = false := decide_eq_false hv
        go_wp2_with fail
        go_quiet_grown (first | (go_at_fn g; refine Calls.grown_of (c3 _ _)))
        have HN2 : Hid (∃ dj, Fn dj n F ∧ SW enc w0 blk off dj (grow (wr.drewN nq) osq)) := by
          obtain ⟨dj, x1, x2⟩ := HN.out
          exact ⟨dj, x1, x2 nq osq⟩
        clear c1 c2 c3 HN
        generalize grow (wr.drewN nq) osq = w2 at HN2 ⊢
        clear nq osq
        have hw2 := succW h (by have h1 := HX.out; have h2 := HB.out; clear hw hd; omega)
        go_wp2_with fail
        go_roundg (j - (h + 1))
        case measure => have h1 := HX.out; clear hw hd hw2; omega
        case rel =>
          have h1 := HX.out
          have h2 := HXY.out
          exact ⟨h + 1, j, by first | rfl | exact congrArg (Value.int .i64) hw2, rfl, Nat.le_refl _, by clear hw hd hw2; omega, by clear hw hd hw2; omega, h1.2.2.1, .inr (by rw [Nat.add_sub_cancel, h2.1, h2.2]; have hc2 := HCC.out.2; clear hw hd hw2; omega), h1.2.2.2.2.2.2.2, HN2.out⟩
    · obtain ⟨a1, a2, a3, a4, a5, dj, hj, sj⟩ := HA.out
      have hij : j = i := by omega
      subst hij
      have HMG := hidC (HM.out j a1 a3 (by omega) (by omega))
      have HDJ : Hid (∃ dj, Fn dj n F ∧ SW enc w0 blk off dj wr) := ⟨dj, hj, sj⟩
      have HI : Hid (a ≤ j ∧ j ≤ m) := ⟨a1, a3⟩
      have hltz : ¬ ((j : Int) < (j : Int)) := by omega
      clear a1 a2 a3 a4 a5 hj sj HA hg HM HCF HK
      go_wp2_with fail
      go_loopg [17] m (fun gg s17 wr => ∃ k : Nat, s17 = .int .i64 k ∧ k ≤ gg ∧ Aside (j ≤ k ∧ k ≤ m ∧ ∃ dj, Fn dj n (rot F k m b) ∧ SW enc w0 blk off dj wr))
      case atStart =>
        obtain ⟨dj, x1, x2⟩ := HDJ.out
        have h2 := HI.out
        exact ⟨m, rfl, Nat.le_refl _, h2.2, Nat.le_refl _, dj, x1.eq (rot_left F m b).symm, x2⟩
      case round =>
        clear HDJ
        obtain ⟨k, rfl, hg, HA⟩ := hrel
        obtain ⟨a1, a2, dj, hj, sj⟩ := HA.out
        by_cases hlt : j < k
        · obtain ⟨b1, b2, b3, b4⟩ := HB.out
          have hI := HI.out
          have hltz : (j : Int) < (k : Int) := by omega
          obtain ⟨k1, hk1⟩ : ∃ q, k = q + 1 := ⟨k - 1, by omega⟩
          have q1 : k < n ∧ k1 < n ∧ k ≤ 5000 := by omega
          obtain ⟨c1, c2, f1, f2, ⟨u, c3⟩, d', g1, g2⟩ := HSF.out hj sj k k1 q1.1 q1.2.1
          have HG : Hid (Fn d' n (rot F k1 m b)) := g1.eq (by rw [hk1, b2]; exact rot_down F m k1 (by omega))
          have ba : (k : Int) < (n : Int) := by omega
          have bb : (k1 : Int) < (n : Int) := by omega
          have HT : Hid (j ≤ k1 ∧ k1 ≤ m ∧ k ≤ gk ∧ k = k1 + 1) := by
            show _ ∧ _
            omega
          have ra := predI k1 k hk1 q1.2.2
          have ri := predW k k1 hk1 q1.2.2
          generalize rot F k m b k = X at *
          generalize rot F k m b k1 = Y at *
          have HS2 := hidC g2
          clear a1 a2 hj sj HA b1 b2 b3 b4 hI hk1 q1 g1 g2 hg hlt
          go_wp2_with fail
          go_big_region_o
          generalize ((wr.setCell ⟨blk, off + k, none⟩ (enc Y)).setCell ⟨blk, off + k1, none⟩ (enc X)).drew = w3 at HS2 ⊢
          clear c1 c2 c3 f1 f2
          go_wp2_with fail
          go_roundg k1
          case measure => have h1 := HT.out; clear ra ri; omega
          case rel => exact ⟨k1, by first | rfl | exact congrArg (Value.int .i64) ri, Nat.le_refl _, HT.out.1, HT.out.2.1, d', HG.out, HS2.out⟩
        · have hltz : ¬ (j : Int) < (k : Int) := by omega
          have HE : Hid (∃ dj, Fn dj n (rot F j m b) ∧ SW enc w0 blk off dj wr) := ⟨dj, by rw [show j = k by omega]; exact hj, sj⟩
          clear a1 a2 hj sj HA hg hlt
          go_wp2_with fail
          go_end0
          obtain ⟨dj, x1, x2⟩ := HE.out
          exact ⟨rfl, dj, _, x1, x2, HMG.out⟩
end
end Go.Proofs.YtabcfmpmkdoieaaDoor.cal
