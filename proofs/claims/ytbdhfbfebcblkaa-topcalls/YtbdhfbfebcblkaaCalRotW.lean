/- Contracts over this seat's translation: slices.symMergeCmpFunc at pointers, where one element stands alone on the right. Contracts over this seat's translation: slices.rotateCmpFunc at pointers. -/
import Derived.Test.YtbdhfbfebcblkaaCalSymR
namespace Go.Proofs.Ytbdhfbfebcblkaa.cal
open Go.RowKit Go.Lib Go.Sort

section
variable {key : Nat → Int} {cf : Nat → Nat → Int} {g : Nat} {cb : Array Value} {enc : Nat → Value} {w0 : World} {blk off cap n : Nat} {d0 : Array Nat}

set_option maxHeartbeats 4000000 in
set_option maxRecDepth 1000000 in
theorem sym_left (eg : ∀ args w, (callFunc g args).run Try.prog w = .ok (.enter g args) w) (R : Row1 enc w0 blk off d0) (hs : d0.size = n) (hC : CmpLays1 Try.prog g cb enc cf blk off n w0) (hk : ∀ x y, cf x y < 0 ↔ key x < key y)
    (F : Nat → Nat) (a m b : Nat) (dk : Array Nat) (W : World) (hF : Fn dk n F) (S : SW enc w0 blk off dk W) (hm : a + 1 < m) (h2 : b = m + 1) (h3 : b ≤ n) (hn : n ≤ 1000) (hL : Srt key F a m) (hT : TT key F a m b) :
    Calls Try.prog 65 #[.slice (some ⟨blk, off, none⟩) n cap, .int .i64 a, .int .i64 m, .int .i64 b, .func (.func g) #[] cb] W fun e w' => SymPost key enc w0 blk off n F a b e w' := by
  have hcl0 := R.hO.cells
  simp only [Value.cells] at hcl0
  have hst := R.hO.store Try.prog
  have HCF : Hid (∀ {dj : Array Nat} {G : Nat → Nat} {V : World}, Fn dj n G → SW enc w0 blk off dj V → ∀ i j, i < n → j < n → _) := fun {dj G V} => cmp_facts (dk := dj) (F := G) (W := V) R hs hC
  have HSF : Hid (∀ {dj : Array Nat} {G : Nat → Nat} {V : World}, Fn dj n G → SW enc w0 blk off dj V → ∀ i j, i < n → j < n → _) := fun {dj G V} => swap_facts (dk := dj) (F := G) (W := V) R hs
  have HF := hidC hF
  have HS := hidC S
  have HB : Hid (a + 1 < m ∧ b = m + 1 ∧ b ≤ n ∧ n ≤ 1000) := ⟨hm, h2, h3, hn⟩
  have HK := hidC hk
  have HM : Hid (∀ i, a ≤ i → i ≤ m → (i = a ∨ ¬ key (F m) < key (F (i - 1))) → (i = m ∨ key (F m) < key (F i)) → Mg key F (rot F i m b) a b) := by
    intro i x1 x2 x3 x4
    subst h2
    exact mg_left hL hT x1 x2 x3 x4
  obtain ⟨t, ht⟩ : ∃ t, m = t + a := ⟨m - a, by omega⟩
  have hne : ((t : Int) == 1) = false := by simp; omega
  have hne2 : ¬ ((t : Int) = 1) := by omega
  have w1 := subW m a t ht (by omega)
  have w2 := subW b m 1 (by clear w1; omega) (by clear w1; omega)
  have mixed := mixed
  clear hF S hm h2 h3 hn hs R hC hk hL hT ht
  go_enter Try.func65, Try.ntmps65
  go_wp2_with fail
  clear w1 w2 hne hne2
  go_loopg [14, 15, 16] (m - a) (fun gg s14 s15 _ wr => ∃ i j : Nat, s14 = .int .i64 i ∧ s15 = .int .i64 j ∧ j - i ≤ gg ∧ Aside (a ≤ i ∧ i ≤ j ∧ j ≤ m ∧ (i = a ∨ ¬ key (F m) < key (F (i - 1))) ∧ (j = m ∨ key (F m) < key (F j)) ∧ ∃ dj, Fn dj n F ∧ SW enc w0 blk off dj wr))
  case atStart => exact ⟨a, m, rfl, rfl, Nat.le_refl _, Nat.le_refl _, by have := HB.out; omega, Nat.le_refl _, .inl rfl, .inl rfl, dk, HF.out, HS.out⟩
  case round =>
    clear HF HS
    obtain ⟨i, j, rfl, rfl, hg, HA⟩ := hrel
    by_cases hlt : i < j
    · obtain ⟨a1, a2, a3, a4, a5, dj, hj, sj⟩ := HA.out
      obtain ⟨b1, b2, b3, b4⟩ := HB.out
      obtain ⟨h, hh⟩ : ∃ h, h = (i + j) / 2 := ⟨_, rfl⟩
      have hb1 : h < m ∧ i ≤ h ∧ h < j := by omega
      obtain ⟨c1, c2, c3⟩ := HCF.out hj sj m h (by omega) (by omega)
      have hltz : (i : Int) < (j : Int) := by omega
      have bh : (h : Int) < (n : Int) := by omega
      have ba : (m : Int) < (n : Int) := by omega
      have hd := halfW i j h hh (by omega)
      have hw := addW i j (i + j) rfl (by clear hd; omega)
      have pj : ((i + j : Nat) : Int) = (i : Int) + (j : Int) := by clear hd hw; omega
      rw [pj] at hw
      clear pj
      have HN : Hid (∃ dj, Fn dj n F ∧ ∀ q os, SW enc w0 blk off dj (grow (wr.drewN q) os)) := ⟨dj, hj, fun q os => sj.grown q os⟩
      have hc : (cf (F m) (F h) < 0 ↔ key (F m) < key (F h)) := HK.out _ _
      have HX : Hid (a ≤ i ∧ i ≤ j ∧ j ≤ m ∧ i ≤ h ∧ h < j ∧ j - i ≤ gk ∧ (i = a ∨ ¬ key (F m) < key (F (i - 1))) ∧ (j = m ∨ key (F m) < key (F j))) := ⟨a1, a2, a3, hb1.2.1, hb1.2.2, hg, a4, a5⟩
      generalize hX : F m = X at c1 c3 hc
      generalize hY : F h = Y at c2 c3 hc
      have HXY : Hid (F m = X ∧ F h = Y) := ⟨hX, hY⟩
      have HCC := hidC hc
      clear a1 a2 a3 a4 a5 hj sj b1 b2 b3 b4 hh hb1 HA hg hX hY hc
      by_cases hv : cf X Y < 0
      · have hd2 : decide (cf X Y < 0) = true := decide_eq_true hv
        go_wp2_with fail
        go_quiet_grown (first | (go_at_fn g; refine Calls.grown_of (c3 _ _)))
        have HN2 : Hid (∃ dj, Fn dj n F ∧ SW enc w0 blk off dj (grow (wr.drewN nq) osq)) := by
          obtain ⟨dj, x1, x2⟩ := HN.out
          exact ⟨dj, x1, x2 nq osq⟩
        clear c1 c2 c3 HN
        generalize grow (wr.drewN nq) osq = w2 at HN2 ⊢
        clear nq osq
        go_wp2_with fail
        go_roundg (h - i)
        case measure => have h1 := HX.out; clear hw hd; omega
        case rel =>
          have h1 := HX.out
          have h2 := HXY.out
          exact ⟨i, h, rfl, rfl, Nat.le_refl _, h1.1, h1.2.2.2.1, by clear hw hd; omega, by have := h1.2.2.2.2.2.2.1; clear hw hd; omega, .inr (by rw [h2.1, h2.2]; exact HCC.out.1 hv), HN2.out⟩
      · have hd2 : decide (cf X Y < 0) = false := decide_eq_false hv
        go_wp2_with fail
        go_quiet_grown (first | (go_at_fn g; refine Calls.grown_of (c3 _ _)))
        have HN2 : Hid (∃ dj, Fn dj n F ∧ SW enc w0 blk off dj (grow (wr.drewN nq) osq)) := by
          obtain ⟨dj, x1, x2⟩ := HN.out
          exact ⟨dj, x1, x2 nq osq⟩
        clear c1 c2 c3 HN
        generalize grow (wr.drewN nq) osq = w2 at HN2 ⊢
        clear nq osq
        have hw2 := succW h (by have h1 := HX.out; have h2 := HB.out; clear hw hd; omega)
        go_wp2_with fail
        go_roundg (j - (h + 1))
        case measure => have h1 := HX.out; clear hw hd hw2; omega
        case rel =>
          have h1 := HX.out
          have h2 := HXY.out
          exact ⟨h + 1, j, by first | rfl | exact congrArg (Value.int .i64) hw2, rfl, Nat.le_refl _, by clear hw hd hw2; omega, by clear hw hd hw2; omega, h1.2.2.1, .inr (by rw [Nat.add_sub_cancel, h2.1, h2.2]; have hc2 := HCC.out.2; clear hw hd hw2; omega), h1.2.2.2.2.2.2.2, HN2.out⟩
    · obtain ⟨a1, a2, a3, a4, a5, dj, hj, sj⟩ := HA.out
      have hij : j = i := by omega
      subst hij
      have HMG := hidC (HM.out j a1 a3 (by omega) (by omega))
      have HDJ : Hid (∃ dj, Fn dj n F ∧ SW enc w0 blk off dj wr) := ⟨dj, hj, sj⟩
      have HI : Hid (a ≤ j ∧ j ≤ m) := ⟨a1, a3⟩
      have hltz : ¬ ((j : Int) < (j : Int)) := by omega
      clear a1 a2 a3 a4 a5 hj sj HA hg HM HCF HK
      go_wp2_with fail
      go_loopg [17] m (fun gg s17 wr => ∃ k : Nat, s17 = .int .i64 k ∧ k ≤ gg ∧ Aside (j ≤ k ∧ k ≤ m ∧ ∃ dj, Fn dj n (rot F k m b) ∧ SW enc w0 blk off dj wr))
      case atStart =>
        obtain ⟨dj, x1, x2⟩ := HDJ.out
        have h2 := HI.out
        exact ⟨m, rfl, Nat.le_refl _, h2.2, Nat.le_refl _, dj, x1.eq (rot_left F m b).symm, x2⟩
      case round =>
        clear HDJ
        obtain ⟨k, rfl, hg, HA⟩ := hrel
        obtain ⟨a1, a2, dj, hj, sj⟩ := HA.out
        by_cases hlt : j < k
        · obtain ⟨b1, b2, b3, b4⟩ := HB.out
          have hI := HI.out
          have hltz : (j : Int) < (k : Int) := by omega
          obtain ⟨k1, hk1⟩ : ∃ q, k = q + 1 := ⟨k - 1, by omega⟩
          have q1 : k < n ∧ k1 < n ∧ k ≤ 5000 := by omega
          obtain ⟨c1, c2, f1, f2, ⟨u, c3⟩, d', g1, g2⟩ := HSF.out hj sj k k1 q1.1 q1.2.1
          have HG : Hid (Fn d' n (rot F k1 m b)) := g1.eq (by rw [hk1, b2]; exact rot_down F m k1 (by omega))
          have ba : (k : Int) < (n : Int) := by omega
          have bb : (k1 : Int) < (n : Int) := by omega
          have HT : Hid (j ≤ k1 ∧ k1 ≤ m ∧ k ≤ gk ∧ k = k1 + 1) := by
            show _ ∧ _
            omega
          have ra := predI k1 k hk1 q1.2.2
          have ri := predW k k1 hk1 q1.2.2
          generalize rot F k m b k = X at *
          generalize rot F k m b k1 = Y at *
          have HS2 := hidC g2
          clear a1 a2 hj sj HA b1 b2 b3 b4 hI hk1 q1 g1 g2 hg hlt
          go_wp2_with fail
          go_big_region_o
          generalize ((wr.setCell ⟨blk, off + k, none⟩ (enc Y)).setCell ⟨blk, off + k1, none⟩ (enc X)).drew = w3 at HS2 ⊢
          clear c1 c2 c3 f1 f2
          go_wp2_with fail
          go_roundg k1
          case measure => have h1 := HT.out; clear ra ri; omega
          case rel => exact ⟨k1, by first | rfl | exact congrArg (Value.int .i64) ri, Nat.le_refl _, HT.out.1, HT.out.2.1, d', HG.out, HS2.out⟩
        · have hltz : ¬ (j : Int) < (k : Int) := by omega
          have HE : Hid (∃ dj, Fn dj n (rot F j m b) ∧ SW enc w0 blk off dj wr) := ⟨dj, by rw [show j = k by omega]; exact hj, sj⟩
          clear a1 a2 hj sj HA hg hlt
          go_wp2_with fail
          go_end0
          obtain ⟨dj, x1, x2⟩ := HE.out
          exact ⟨rfl, dj, _, x1, x2, HMG.out⟩
end
end Go.Proofs.Ytbdhfbfebcblkaa.cal
namespace Go.Proofs.Ytbdhfbfebcblkaa.cal
open Go.RowKit Go.Lib Go.Sort

section
variable {enc : Nat → Value} {w0 : World} {blk off cap n : Nat} {d0 : Array Nat}

set_option maxHeartbeats 4000000 in
set_option maxRecDepth 1000000 in
theorem rotate_any (R : Row1 enc w0 blk off d0) (hs : d0.size = n) (fv : Value) (F : Nat → Nat) (a m b : Nat) (dk : Array Nat) (W : World) (hF : Fn dk n F) (S : SW enc w0 blk off dk W) (h1 : a < m) (h2 : m < b) (h3 : b ≤ n) (hn : n ≤ 1000) :
    Calls Try.prog 78 #[.slice (some ⟨blk, off, none⟩) n cap, .int .i64 a, .int .i64 m, .int .i64 b, fv] W fun e w' => e = .returned (.tuple #[]) ∧ ∃ d', Fn d' n (rot F a m b) ∧ SW enc w0 blk off d' w' := by
  have HSW : Hid (∀ (G : Nat → Nat) (x y k : Nat) (dj : Array Nat) (V : World), Fn dj n G → SW enc w0 blk off dj V → x + k ≤ y → y + k ≤ n → Calls Try.prog 88 #[.slice (some ⟨blk, off, none⟩) n cap, .int .i64 x, .int .i64 y, .int .i64 k, fv] V fun e w' => e = .returned (.tuple #[]) ∧ ∃ d', Fn d' n (swr G x y k) ∧ SW enc w0 blk off d' w') :=
    fun G x y k dj V g1 g2 g3 g4 => swapRange_any R hs fv G x y k dj V g1 g2 g3 g4 hn
  have HF := hidC hF
  have HS := hidC S
  obtain ⟨i0, hi0⟩ : ∃ i, m = i + a := ⟨m - a, by omega⟩
  obtain ⟨j0, hj0⟩ : ∃ i, b = i + m := ⟨b - m, by omega⟩
  have HB : Hid (0 < i0 ∧ 0 < j0 ∧ b ≤ n ∧ n ≤ 1000) := ⟨by omega, by omega, h3, hn⟩
  have w1 := subW m a i0 (by omega) (by omega)
  have w2 := subW b m j0 (by omega) (by omega)
  have HI := hidC hi0
  have HJ := hidC hj0
  clear hF S h1 h2 h3 hn hs hi0 hj0 R
  go_enter Try.func78, Try.ntmps78
  go_wp2_with fail
  go_loopg [10, 11] (i0 + j0) (fun gg s10 s11 wr => ∃ i j : Nat, s10 = .int .i64 i ∧ s11 = .int .i64 j ∧ i + j ≤ gg ∧ Aside (0 < i ∧ 0 < j ∧ i ≤ m ∧ m + j ≤ b ∧ ∃ G dj, Fn dj n G ∧ SW enc w0 blk off dj wr ∧ rot G (m - i) m (m + j) = rot F a m b))
  case atStart => exact ⟨i0, j0, by first | rfl | exact congrArg (Value.int .i64) w1, by first | rfl | exact congrArg (Value.int .i64) w2, Nat.le_refl _, HB.out.1, HB.out.2.1, by have := HI.out; clear w1 w2; omega, by have := HJ.out; clear w1 w2; omega, F, dk, HF.out, HS.out, by have h1 := HI.out; have h2 := HJ.out; clear w1 w2; rw [show m - i0 = a by omega, show m + j0 = b by omega]⟩
  case round =>
    clear w1 w2
    obtain ⟨i, j, rfl, rfl, hg, HA⟩ := hrel
    obtain ⟨ai, aj, am, ab, G, dj, hG, hS, hR⟩ := HA.out
    have bn := HB.out.2.2.1
    have nn := HB.out.2.2.2
    obtain ⟨p, hp⟩ : ∃ p, m = p + i := ⟨m - i, by omega⟩
    have hpe : m - i = p := by omega
    rw [hpe] at hR
    have wp := subW m i p hp (by omega)
    by_cases hij : i = j
    · subst hij
      have HC := hidC ((HSW.out G p m i dj wr hG hS (by clear wp; omega) (by clear wp; omega)).mono fun e w' h => (⟨h.1, by obtain ⟨d', x1, x2⟩ := h.2; exact ⟨d', x1.eq (by rw [← hR, hp]; exact rot_same G p i), x2⟩⟩ : e = .returned (.tuple #[]) ∧ ∃ d', Fn d' n (rot F a m b) ∧ SW enc w0 blk off d' w'))
      have hne : ((i : Int) != (i : Int)) = false := by simp
      clear HA hG hS hR ai aj am ab bn nn hp hpe hg
      go_wp2_with fail
      refine HC.out.mono ?_
      rintro e w1 ⟨rfl, hp⟩
      have HP := hidC hp
      clear hp HC
      go_wp2_with fail
      go_end0
      exact ⟨rfl, HP.out⟩
    · by_cases hgt : j < i
      · have HC := hidC (HSW.out G p m j dj wr hG hS (by clear wp; omega) (by clear wp; omega))
        obtain ⟨i2, hi2⟩ : ∃ q, i = q + j := ⟨i - j, by omega⟩
        have HR : Hid (rot (swr G p m j) (m - i2) m (m + j) = rot F a m b) := by
          show _ = _
          rw [← hR, show m - i2 = p + j by clear wp; omega, hp]
          exact rot_more G p i j hgt
        have wi := subW i j i2 hi2 (by clear wp; omega)
        have hq : 0 < i2 ∧ i2 ≤ m ∧ i2 + j < i + j := by clear wi wp; omega
        have hne : ((i : Int) != (j : Int)) = true := by simp; clear wi wp; omega
        have hne2 : ¬ ((i : Int) = (j : Int)) := by clear wi wp; omega
        have hgz : (j : Int) < (i : Int) := by clear wi wp; omega
        have HX : Hid (0 < j ∧ m + j ≤ b ∧ i + j ≤ gk) := ⟨aj, ab, hg⟩
        have HQ := hidC hq
        clear HA hG hS hR ai aj am ab bn nn hp hpe hg hi2 hq hgt hij
        go_wp2_with fail
        refine HC.out.mono ?_
        rintro e w1 ⟨rfl, hp⟩
        have HP := hidC hp
        clear hp HC
        go_wp2_with fail
        go_roundg (i2 + j)
        case measure => have h1 := HX.out; have h2 := HQ.out; clear wi wp hne hne2 hgz; omega
        case rel =>
          obtain ⟨d', x1, x2⟩ := HP.out
          exact ⟨i2, j, by first | rfl | exact congrArg (Value.int .i64) wi, rfl, Nat.le_refl _, HQ.out.1, HX.out.1, HQ.out.2.1, HX.out.2.1, _, d', x1, x2, HR.out⟩
      · obtain ⟨j2, hj2⟩ : ∃ q, j = q + i := ⟨j - i, by omega⟩
        obtain ⟨mj, hmj⟩ : ∃ q, q = m + j := ⟨_, rfl⟩
        obtain ⟨mj2, hmj2⟩ : ∃ q, mj = q + i := ⟨m + j - i, by omega⟩
        have HC := hidC (HSW.out G p mj2 i dj wr hG hS (by clear wp; omega) (by clear wp; omega))
        have HR : Hid (rot (swr G p mj2 i) (m - i) m (m + j2) = rot F a m b) := by
          show _ = _
          rw [← hR, hpe, show mj2 = p + j by clear wp; omega, hp, show p + i + j2 = p + j by clear wp; omega]
          exact rot_less G p i j (by clear wp; omega)
        have wi := subW j i j2 hj2 (by clear wp; omega)
        have wm := addW m j mj hmj (by clear wp wi; omega)
        have wn := subW mj i mj2 hmj2 (by clear wp wi wm; omega)
        have hq : 0 < j2 ∧ m + j2 ≤ b ∧ i + j2 < i + j := by clear wi wp wm wn; omega
        have hne : ((i : Int) != (j : Int)) = true := by simp; clear wi wp wm wn; omega
        have hne2 : ¬ ((i : Int) = (j : Int)) := by clear wi wp wm wn; omega
        have hgz : ¬ (j : Int) < (i : Int) := by clear wi wp wm wn; omega
        have HX : Hid (0 < i ∧ i ≤ m ∧ i + j ≤ gk) := ⟨ai, am, hg⟩
        have HQ := hidC hq
        clear HA hG hS hR ai aj am ab bn nn hp hpe hg hj2 hmj hmj2 hq hgt hij
        go_wp2_with fail
        refine HC.out.mono ?_
        rintro e w1 ⟨rfl, hp⟩
        have HP := hidC hp
        clear hp HC
        go_wp2_with fail
        go_roundg (i + j2)
        case measure => have h1 := HX.out; have h2 := HQ.out; clear wi wp wm wn hne hne2 hgz; omega
        case rel =>
          obtain ⟨d', x1, x2⟩ := HP.out
          exact ⟨i, j2, rfl, by first | rfl | exact congrArg (Value.int .i64) wi, Nat.le_refl _, HX.out.1, HQ.out.1, HX.out.2.1, HQ.out.2.1, _, d', x1, x2, HR.out⟩
end
end Go.Proofs.Ytbdhfbfebcblkaa.cal
