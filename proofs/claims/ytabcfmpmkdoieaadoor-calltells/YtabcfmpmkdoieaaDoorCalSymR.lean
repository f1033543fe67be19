/- Contracts over this seat's translation: slices.symMergeCmpFunc at pointers, where one element stands alone on the left. -/
import Derived.Test.YtabcfmpmkdoieaaDoorCalSwr
namespace Go.Proofs.YtabcfmpmkdoieaaDoor.cal
open Go.RowKit Go.Lib Go.Sort

section
variable {key : Nat → Int} {cf : Nat → Nat → Int} {g : Nat} {cb : Array Value} {enc : Nat → Value} {w0 : World} {blk off cap n : Nat} {d0 : Array Nat}

theorem succP (k k1 : Nat) (h : k1 = k + 1) (h2 : k1 ≤ 5000) : wrap64 ((k : Int) + 1) = (k1 : Int) := by unfold wrap64; omega
theorem succI (k k1 : Nat) (h : k1 = k + 1) (h2 : k1 ≤ 5000) : IntKind.i64.wrap ((k : Int) + 1) = (k1 : Int) := by rw [IntKind.wrap_i64]; omega
theorem predI (k k1 : Nat) (h : k1 = k + 1) (h2 : k1 ≤ 5000) : IntKind.i64.wrap ((k1 : Int) - 1) = (k : Int) := by rw [IntKind.wrap_i64]; omega
theorem halfW (i j h : Nat) (hh : h = (i + j) / 2) (h2 : i + j ≤ 5000) : wrap64 (IntKind.u64.wrap ((i : Int) + (j : Int)) / 2) = (h : Int) := by
  have e : IntKind.u64.wrap ((i : Int) + (j : Int)) = (i : Int) + (j : Int) := by rw [IntKind.wrap_u64]; omega
  rw [e]
  unfold wrap64
  omega

/-- What a comparison in a world of the sort's finds. -/
theorem cmp_facts (R : Row1 enc w0 blk off d0) (hs : d0.size = n) (hC : CmpLays1 Tryd.prog g cb enc cf blk off n w0) {dk : Array Nat} {F : Nat → Nat} {W : World} (hF : Fn dk n F) (S : SW enc w0 blk off dk W) (i j : Nat) (hi : i < n) (hj : j < n) :
    (∀ q os, (grow (W.drewN q) os).cell? ⟨blk, off + i, none⟩ = some (enc (F i))) ∧ (∀ q os, (grow (W.drewN q) os).cell? ⟨blk, off + j, none⟩ = some (enc (F j))) ∧
    (∀ q os, Calls Tryd.prog g (#[enc (F i), enc (F j)] ++ cb) (grow (W.drewN q) os) fun e w' => e = .returned (.int .i64 (cf (F i) (F j))) ∧ ∃ r os', w' = grow ((grow (W.drewN q) os).drewN r) os') := by
  have hz := hF.1
  have e1 := hF.2 i hi
  have e2 := hF.2 j hj
  refine ⟨fun q os => ?_, fun q os => ?_, S.cmp hC (by omega) (F i) (F j)⟩
  · rw [← e1]; exact S.cl R (by omega) i (by omega) q os
  · rw [← e2]; exact S.cl R (by omega) j (by omega) q os

/-- What a merge leaves. -/
def SymPost (key : Nat → Int) (enc : Nat → Value) (w0 : World) (blk off n : Nat) (F : Nat → Nat) (a b : Nat) (e : Ending) (w' : World) : Prop :=
  e = .returned (.tuple #[]) ∧ ∃ d' G, Fn d' n G ∧ SW enc w0 blk off d' w' ∧ Mg key F G a b

set_option maxHeartbeats 4000000 in
set_option maxRecDepth 1000000 in
theorem sym_right (eg : ∀ args w, (callFunc g args).run Tryd.prog w = .ok (.enter g args) w) (R : Row1 enc w0 blk off d0) (hs : d0.size = n) (hC : CmpLays1 Tryd.prog g cb enc cf blk off n w0) (hk : ∀ x y, cf x y < 0 ↔ key x < key y)
    (F : Nat → Nat) (a m b : Nat) (dk : Array Nat) (W : World) (hF : Fn dk n F) (S : SW enc w0 blk off dk W) (hm : m = a + 1) (h2 : m < b) (h3 : b ≤ n) (hn : n ≤ 1000) (hR : Srt key F m b) (hT : TT key F a m b) :
    Calls Tryd.prog 67 #[.slice (some ⟨blk, off, none⟩) n cap, .int .i64 a, .int .i64 m, .int .i64 b, .func (.func g) #[] cb] W fun e w' => SymPost key enc w0 blk off n F a b e w' := by
  have hcl0 := R.hO.cells
  simp only [Value.cells] at hcl0
  have hst := R.hO.store Tryd.prog
  have HCF : Hid (∀ {dj : Array Nat} {G : Nat → Nat} {V : World}, Fn dj n G → SW enc w0 blk off dj V → ∀ i j, i < n → j < n → _) := fun {dj G V} => cmp_facts (dk := dj) (F := G) (W := V) R hs hC
  have HSF : Hid (∀ {dj : Array Nat} {G : Nat → Nat} {V : World}, Fn dj n G → SW enc w0 blk off dj V → ∀ i j, i < n → j < n → _) := fun {dj G V} => swap_facts (dk := dj) (F := G) (W := V) R hs
  have HF := hidC hF
  have HS := hidC S
  have HB : Hid (m = a + 1 ∧ m < b ∧ b ≤ n ∧ n ≤ 1000) := ⟨hm, h2, h3, hn⟩
  have HK := hidC hk
  have HM : Hid (∀ i, m ≤ i → i ≤ b → (i = m ∨ key (F (i - 1)) < key (F a)) → (i = b ∨ ¬ key (F i) < key (F a)) → Mg key F (rot F a m i) a b) := by
    intro i x1 x2 x3 x4
    subst hm
    exact mg_right hR hT x1 x2 x3 x4
  have w1 := subW m a 1 (by omega) (by omega)
  have mixed := mixed
  clear hF S hm h2 h3 hn hs R hC hk hR hT
  go_enter Tryd.func67, Tryd.ntmps67
  go_wp2_with fail
  clear w1
  go_loopg [10, 11, 12] (b - m) (fun gg s10 s11 _ wr => ∃ i j : Nat, s10 = .int .i64 i ∧ s11 = .int .i64 j ∧ j - i ≤ gg ∧ Aside (m ≤ i ∧ i ≤ j ∧ j ≤ b ∧ (i = m ∨ key (F (i - 1)) < key (F a)) ∧ (j = b ∨ ¬ key (F j) < key (F a)) ∧ ∃ dj, Fn dj n F ∧ SW enc w0 blk off dj wr))
  case atStart => exact ⟨m, b, rfl, rfl, Nat.le_refl _, Nat.le_refl _, Nat.le_of_lt HB.out.2.1, Nat.le_refl _, .inl rfl, .inl rfl, dk, HF.out, HS.out⟩
  case round =>
    clear HF HS
    obtain ⟨i, j, rfl, rfl, hg, HA⟩ := hrel
    by_cases hlt : i < j
    · obtain ⟨a1, a2, a3, a4, a5, dj, hj, sj⟩ := HA.out
      obtain ⟨b1, b2, b3, b4⟩ := HB.out
      obtain ⟨h, hh⟩ : ∃ h, h = (i + j) / 2 := ⟨_, rfl⟩
      have hb1 : m ≤ h ∧ h < b ∧ i ≤ h ∧ h < j := by omega
      obtain ⟨c1, c2, c3⟩ := HCF.out hj sj h a (by omega) (by omega)
      have hltz : (i : Int) < (j : Int) := by omega
      have bh : (h : Int) < (n : Int) := by omega
      have ba : (a : Int) < (n : Int) := by omega
      have hd := halfW i j h hh (by omega)
      have hw := addW i j (i + j) rfl (by clear hd; omega)
      have pj : ((i + j : Nat) : Int) = (i : Int) + (j : Int) := by clear hd hw; omega
      rw [pj] at hw
      clear pj
      have HN : Hid (∃ dj, Fn dj n F ∧ ∀ q os, SW enc w0 blk off dj (grow (wr.drewN q) os)) := ⟨dj, hj, fun q os => sj.grown q os⟩
      have hc : (cf (F h) (F a) < 0 ↔ key (F h) < key (F a)) := HK.out _ _
      have HX : Hid (m ≤ i ∧ i ≤ j ∧ j ≤ b ∧ i ≤ h ∧ h < j ∧ j - i ≤ gk ∧ (i = m ∨ key (F (i - 1)) < key (F a)) ∧ (j = b ∨ ¬ key (F j) < key (F a))) := ⟨a1, a2, a3, hb1.2.2.1, hb1.2.2.2, hg, a4, a5⟩
      generalize hX : F h = X at c1 c3 hc
      generalize hY : F a = Y at c2 c3 hc
      have HXY : Hid (F h = X ∧ F a = Y) := ⟨hX, hY⟩
      clear a1 a2 a3 a4 a5 hj sj b1 b2 b3 b4 hh hb1 HA hg hX hY
      by_cases hv : cf X Y < 0
      · have hd2 : decide (cf X Y < 0) = true := decide_eq_true hv
        go_wp2_with fail
        go_quiet_grown (first | (go_at_fn g; refine Calls.grown_of (c3 _ _)))
        have HN2 : Hid (∃ dj, Fn dj n F ∧ SW enc w0 blk off dj (grow (wr.drewN nq) osq)) := by
          obtain ⟨dj, x1, x2⟩ := HN.out
          exact ⟨dj, x1, x2 nq osq⟩
        clear c1 c2 c3 HN
        generalize grow (wr.drewN nq) osq = w2 at HN2 ⊢
        clear nq osq
        have hw2 := succW h (by have h1 := HX.out; have h2 := HB.out; clear hw hd; omega)
        go_wp2_with fail
        go_roundg (j - (h + 1))
        case measure => have h1 := HX.out; clear hw hd hw2; omega
        case rel =>
          have h1 := HX.out
          have h2 := HXY.out
          exact ⟨h + 1, j, by first | rfl | exact congrArg (Value.int .i64) hw2, rfl, Nat.le_refl _, by clear hw hd hw2; omega, by clear hw hd hw2; omega, h1.2.2.1, .inr (by rw [Nat.add_sub_cancel, h2.1, h2.2]; exact hc.1 hv), h1.2.2.2.2.2.2.2, HN2.out⟩
      · have hd2 : decide (cf X Y < 0) = false := decide_eq_false hv
        go_wp2_with fail
        go_quiet_grown (first | (go_at_fn g; refine Calls.grown_of (c3 _ _)))
        have HN2 : Hid (∃ dj, Fn dj n F ∧ SW enc w0 blk off dj (grow (wr.drewN nq) osq)) := by
          obtain ⟨dj, x1, x2⟩ := HN.out
          exact ⟨dj, x1, x2 nq osq⟩
        clear c1 c2 c3 HN
        generalize grow (wr.drewN nq) osq = w2 at HN2 ⊢
        clear nq osq
        go_wp2_with fail
        go_roundg (h - i)
        case measure => have h1 := HX.out; clear hw hd; omega
        case rel =>
          have h1 := HX.out
          have h2 := HXY.out
          exact ⟨i, h, rfl, rfl, Nat.le_refl _, h1.1, h1.2.2.2.1, by clear hw hd; omega, h1.2.2.2.2.2.2.1, .inr (by rw [h2.1, h2.2]; have hc2 := hc.2; clear hw hd; omega), HN2.out⟩
    · obtain ⟨a1, a2, a3, a4, a5, dj, hj, sj⟩ := HA.out
      have hij : j = i := by omega
      subst hij
      have HMG := hidC (HM.out j a1 a3 (by omega) (by omega))
      have HDJ : Hid (∃ dj, Fn dj n F ∧ SW enc w0 blk off dj wr) := ⟨dj, hj, sj⟩
      have HI : Hid (m ≤ j ∧ j ≤ b) := ⟨a1, a3⟩
      have hltz : ¬ ((j : Int) < (j : Int)) := by omega
      obtain ⟨jp, hjp⟩ : ∃ q, j = q + 1 := ⟨j - 1, by have := HB.out; omega⟩
      have hjw := predW j jp hjp (by have := HB.out; omega)
      have HJP := hidC hjp
      clear a1 a2 a3 a4 a5 hj sj HA hg hjp HM HCF HK
      go_wp2_with fail
      go_loopg [13] (b - a) (fun gg s13 wr => ∃ k : Nat, s13 = .int .i64 k ∧ b - k ≤ gg ∧ Aside (a ≤ k ∧ k + 1 ≤ j ∧ ∃ dj, Fn dj n (rot F a m (k + 1)) ∧ SW enc w0 blk off dj wr))
      case atStart =>
        obtain ⟨dj, x1, x2⟩ := HDJ.out
        have h1 := HB.out
        have h2 := HI.out
        exact ⟨a, rfl, Nat.le_refl _, Nat.le_refl _, by clear hjw; omega, dj, x1.eq (by rw [← h1.1]; exact (rot_right F a m).symm), x2⟩
      case round =>
        clear HDJ
        obtain ⟨k, rfl, hg, HA⟩ := hrel
        obtain ⟨a1, a2, dj, hj, sj⟩ := HA.out
        by_cases hlt : k < jp
        · obtain ⟨b1, b2, b3, b4⟩ := HB.out
          have hI := HI.out
          have hJ := HJP.out
          have hltz : (k : Int) < (jp : Int) := by clear hjw; omega
          obtain ⟨k1, hk1⟩ : ∃ q, q = k + 1 := ⟨_, rfl⟩
          have q1 : k < n ∧ k1 < n ∧ k1 ≤ 5000 ∧ k ≤ 5000 := by clear hjw; omega
          obtain ⟨c1, c2, f1, f2, ⟨u, c3⟩, d', g1, g2⟩ := HSF.out hj sj k k1 q1.1 q1.2.1
          have HG : Hid (Fn d' n (rot F a m (k1 + 1))) := g1.eq (by rw [hk1, b1]; exact rot_up F a k a1)
          have ba : (k : Int) < (n : Int) := by clear hjw; omega
          have bb : (k1 : Int) < (n : Int) := by clear hjw; omega
          have ra := succI k k1 hk1 q1.2.2.1
          have ri := succP k k1 hk1 q1.2.2.1
          have HT : Hid (a ≤ k1 ∧ k1 + 1 ≤ j ∧ b - k ≤ gk ∧ k1 = k + 1 ∧ k1 < b) := by
            show _ ∧ _
            clear hjw ra ri; omega
          generalize rot F a m (k + 1) k = X at *
          generalize rot F a m (k + 1) k1 = Y at *
          have HS2 := hidC g2
          clear a1 a2 hj sj HA b1 b2 b3 b4 hI hJ hk1 q1 g1 g2 hg hlt
          go_wp2_with fail
          go_big_region_o
          generalize ((wr.setCell ⟨blk, off + k, none⟩ (enc Y)).setCell ⟨blk, off + k1, none⟩ (enc X)).drew = w3 at HS2 ⊢
          clear c1 c2 c3 f1 f2
          go_wp2_with fail
          go_roundg (b - k1)
          case measure => have h1 := HT.out; clear hjw ra ri; omega
          case rel => exact ⟨k1, by first | rfl | exact congrArg (Value.int .i64) ri, Nat.le_refl _, HT.out.1, HT.out.2.1, d', HG.out, HS2.out⟩
        · have hJ := HJP.out
          have hltz : ¬ (k : Int) < (jp : Int) := by clear hjw; omega
          have HE : Hid (∃ dj, Fn dj n (rot F a m j) ∧ SW enc w0 blk off dj wr) := ⟨dj, by rw [show j = k + 1 by clear hjw; omega]; exact hj, sj⟩
          clear a1 a2 hj sj HA hg hlt hJ
          go_wp2_with fail
          go_end0
          obtain ⟨dj, x1, x2⟩ := HE.out
          exact ⟨rfl, dj, _, x1, x2, HMG.out⟩
end
end Go.Proofs.YtabcfmpmkdoieaaDoor.cal
