/- Contracts over this seat's translation: slices.symMergeCmpFunc at pointers. -/
import Derived.Test.YtabcfmpmkdoieaaDoorCalSymL
import Derived.Test.YtabcfmpmkdoieaaDoorCalRotW
namespace Go.Proofs.YtabcfmpmkdoieaaDoor.cal
open Go.RowKit Go.Lib Go.Sort

section
variable {key : Nat → Int} {cf : Nat → Nat → Int} {g : Nat} {cb : Array Value} {enc : Nat → Value} {w0 : World} {blk off cap n : Nat} {d0 : Array Nat}

/-- Where the search for the cut begins and ends. -/
def Ends (a m b mid nn s r : Nat) : Prop := a ≤ s ∧ s ≤ r ∧ r ≤ m ∧ r ≤ mid ∧ nn ≤ s + b ∧ (s = a ∨ nn = s + b) ∧ (r = m ∨ r = mid)
theorem subInt (a i p : Nat) (h : a = p + i) : (a : Int) - (i : Int) = (p : Int) := by omega

set_option maxHeartbeats 8000000 in
set_option maxRecDepth 1000000 in
theorem sym_main (eg : ∀ args w, (callFunc g args).run Tryd.prog w = .ok (.enter g args) w) (R : Row1 enc w0 blk off d0) (hs : d0.size = n) (hC : CmpLays1 Tryd.prog g cb enc cf blk off n w0) (hk : ∀ x y, cf x y < 0 ↔ key x < key y)
    (F : Nat → Nat) (a m b : Nat) (dk : Array Nat) (W : World) (hF : Fn dk n F) (S : SW enc w0 blk off dk W) (hm : a + 1 < m) (h2 : m + 1 < b) (h3 : b ≤ n) (hn : n ≤ 1000) (hL : Srt key F a m) (hR : Srt key F m b) (hT : TT key F a m b)
    (IH : ∀ (F' : Nat → Nat) (a' m' b' : Nat) (dk' : Array Nat) (W' : World), Fn dk' n F' → SW enc w0 blk off dk' W' → a' < m' → m' < b' → b' ≤ n → b' - a' < b - a → Srt key F' a' m' → Srt key F' m' b' → TT key F' a' m' b' →
      Calls Tryd.prog 67 #[.slice (some ⟨blk, off, none⟩) n cap, .int .i64 a', .int .i64 m', .int .i64 b', .func (.func g) #[] cb] W' fun e w' => SymPost key enc w0 blk off n F' a' b' e w') :
    Calls Tryd.prog 67 #[.slice (some ⟨blk, off, none⟩) n cap, .int .i64 a, .int .i64 m, .int .i64 b, .func (.func g) #[] cb] W fun e w' => SymPost key enc w0 blk off n F a b e w' := by
  have HCF : Hid (∀ {dj : Array Nat} {G : Nat → Nat} {V : World}, Fn dj n G → SW enc w0 blk off dj V → ∀ i j, i < n → j < n → _) := fun {dj G V} => cmp_facts (dk := dj) (F := G) (W := V) R hs hC
  have HROT : Hid (∀ (G : Nat → Nat) (x y z : Nat) (dj : Array Nat) (V : World), Fn dj n G → SW enc w0 blk off dj V → x < y → y < z → z ≤ n → Calls Tryd.prog 68 #[.slice (some ⟨blk, off, none⟩) n cap, .int .i64 x, .int .i64 y, .int .i64 z, .func (.func g) #[] cb] V fun e w' => e = .returned (.tuple #[]) ∧ ∃ d', Fn d' n (rot G x y z) ∧ SW enc w0 blk off d' w') :=
    fun G x y z dj V g1 g2 g3 g4 g5 => rotate_any R hs _ G x y z dj V g1 g2 g3 g4 g5 hn
  have HIH := hidC IH
  have HF := hidC hF
  have HS := hidC S
  have HK := hidC hk
  have HL := hidC hL
  have HR := hidC hR
  have HT := hidC hT
  obtain ⟨t, ht⟩ : ∃ t, m = t + a := ⟨m - a, by omega⟩
  obtain ⟨u, hu⟩ : ∃ u, b = u + m := ⟨b - m, by omega⟩
  obtain ⟨mid, hmid⟩ : ∃ x, x = (a + b) / 2 := ⟨_, rfl⟩
  obtain ⟨nn, hnn⟩ : ∃ x, x = mid + m := ⟨_, rfl⟩
  obtain ⟨p, hp⟩ : ∃ x, nn = x + 1 := ⟨nn - 1, by omega⟩
  have HB : Hid (a + 1 < m ∧ m + 1 < b ∧ b ≤ n ∧ n ≤ 1000 ∧ mid = (a + b) / 2 ∧ nn = mid + m ∧ nn = p + 1) := ⟨hm, h2, h3, hn, hmid, hnn, hp⟩
  have hne : ((t : Int) == 1) = false := by simp; omega
  have hne2 : ¬ ((t : Int) = 1) := by omega
  have hne3 : ((u : Int) == 1) = false := by simp; omega
  have hne4 : ¬ ((u : Int) = 1) := by omega
  have q1 : m ≤ 5000 ∧ b ≤ 5000 ∧ a + b ≤ 5000 ∧ nn ≤ 5000 := by omega
  have w1 := subW m a t ht q1.1
  have w2 := subW b m u hu q1.2.1
  have w3 := halfW a b mid hmid q1.2.2.1
  have w4 := addW mid m nn hnn q1.2.2.2
  have w5 := predW nn p hp q1.2.2.2
  have w6 := addW a b (a + b) rfl q1.2.2.1
  have pj : ((a + b : Nat) : Int) = (a : Int) + (b : Int) := Int.natCast_add a b
  rw [pj] at w6
  clear pj
  have mixed := mixed
  clear hF S hm h2 h3 hn hs R hC hk hL hR hT ht hu hmid hnn hp IH q1
  go_enter Tryd.func67, Tryd.ntmps67
  go_upto_if 140 with fail
  simp only [w1, w2, w3, w4]
  go_cut [20, 21] from 25 to 146 (fun s20 s21 wx => ∃ s r : Nat, s20 = .int .i64 s ∧ s21 = .int .i64 r ∧ Aside (Ends a m b mid nn s r) ∧ wx = W)
  case first =>
    by_cases hmm : mid < m
    · obtain ⟨s0, hs0⟩ : ∃ x, nn = x + b := ⟨nn - b, by have := HB.out; clear w1 w2 w3 w4 w5 w6; omega⟩
      have w7 := subW nn b s0 hs0 (by have := HB.out; clear w1 w2 w3 w4 w5 w6; omega)
      have hmz : (mid : Int) < (m : Int) := by clear w1 w2 w3 w4 w5 w6 w7; omega
      have HE : Hid (Ends a m b mid nn s0 mid) := by
        show _ ∧ _
        have := HB.out; clear w1 w2 w3 w4 w5 w6 w7; omega
      clear hs0 hmm
      go_wp2_with fail
      go_meet
      case rel => exact ⟨s0, mid, by first | rfl | exact congrArg (Value.int .i64) w7, rfl, HE.out, rfl⟩
    · have hmz : ¬ (mid : Int) < (m : Int) := by clear w1 w2 w3 w4 w5 w6; omega
      have HE : Hid (Ends a m b mid nn a m) := by
        show _ ∧ _
        have := HB.out; clear w1 w2 w3 w4 w5 w6; omega
      clear hmm
      go_wp2_with fail
      go_meet
      case rel => exact ⟨a, m, rfl, rfl, HE.out, rfl⟩
  case rest =>
    obtain ⟨s0, r0, rfl, rfl, HE, rfl⟩ := hcut
    go_wp2_with fail
    simp only [w5]
    clear w1 w2 w3 w4 w5 w6 hne hne2 hne3 hne4
    go_loopg [20, 21, 23] m (fun gg s20 s21 _ wr => ∃ s r : Nat, s20 = .int .i64 s ∧ s21 = .int .i64 r ∧ r - s ≤ gg ∧ Aside (s0 ≤ s ∧ s ≤ r ∧ r ≤ r0 ∧ (s = s0 ∨ ¬ key (F (nn - s)) < key (F (s - 1))) ∧ (r = r0 ∨ key (F (nn - 1 - r)) < key (F r)) ∧ ∃ dj, Fn dj n F ∧ SW enc w0 blk off dj wr))
    case atStart =>
      have h1 := HE.out
      exact ⟨s0, r0, rfl, rfl, by unfold Ends at h1; omega, Nat.le_refl _, h1.2.1, Nat.le_refl _, .inl rfl, .inl rfl, dk, HF.out, HS.out⟩
    case round =>
      clear HF HS
      obtain ⟨s, r, rfl, rfl, hg, HA⟩ := hrel
      obtain ⟨a1, a2, a3, a4, a5, dj, hj, sj⟩ := HA.out
      by_cases hlt : s < r
      · obtain ⟨b1, b2, b3, b4, b5, b6, b7⟩ := HB.out
        have hE := HE.out
        unfold Ends at hE
        obtain ⟨c, hc⟩ : ∃ h, h = (s + r) / 2 := ⟨_, rfl⟩
        obtain ⟨pc, hpc⟩ : ∃ x, p = x + c := ⟨p - c, by omega⟩
        have hb1 : s ≤ c ∧ c < r ∧ c < n ∧ pc < n ∧ p ≤ 5000 := by omega
        obtain ⟨c1, c2, c3⟩ := HCF.out hj sj pc c hb1.2.2.2.1 hb1.2.2.1
        have HX : Hid (s0 ≤ s ∧ s ≤ r ∧ r ≤ r0 ∧ s ≤ c ∧ c < r ∧ r - s ≤ gk ∧ (s = s0 ∨ ¬ key (F (nn - s)) < key (F (s - 1))) ∧ (r = r0 ∨ key (F (nn - 1 - r)) < key (F r)) ∧ nn - (c + 1) = pc ∧ nn - 1 - c = pc ∧ c ≤ 5000) := ⟨a1, a2, a3, hb1.1, hb1.2.1, hg, a4, a5, by omega, by omega, by omega⟩
        have hltz : (s : Int) < (r : Int) := by omega
        have bh : (pc : Int) < (n : Int) := by omega
        have ba : (c : Int) < (n : Int) := by omega
        have hsr : s + r ≤ 5000 := by omega
        have hd := halfW s r c hc hsr
        have hw := addW s r (s + r) rfl hsr
        have pj : ((s + r : Nat) : Int) = (s : Int) + (r : Int) := Int.natCast_add s r
        rw [pj] at hw
        clear pj hsr
        have hp1 := subI p c pc hpc hb1.2.2.2.2
        have hp2 := subW p c pc hpc hb1.2.2.2.2
        have HN : Hid (∃ dj, Fn dj n F ∧ ∀ q os, SW enc w0 blk off dj (grow (wr.drewN q) os)) := ⟨dj, hj, fun q os => sj.grown q os⟩
        have HCC : Hid (cf (F pc) (F c) < 0 ↔ key (F pc) < key (F c)) := HK.out _ _
        generalize hX : F pc = X at c1 c3 HCC
        generalize hY : F c = Y at c2 c3 HCC
        have HXY : Hid (F pc = X ∧ F c = Y) := ⟨hX, hY⟩
        clear a1 a2 a3 a4 a5 hj sj b1 b2 b3 b4 b5 b6 b7 hc hpc hb1 HA hg hX hY hE
        by_cases hv : cf X Y < 0
        · have hd2 : decide (cf X Y < 0) = true := decide_eq_true hv
          go_wp2_with fail
          go_quiet_grown (first | (go_at_fn g; refine Calls.grown_of (c3 _ _)))
          have HN2 : Hid (∃ dj, Fn dj n F ∧ SW enc w0 blk off dj (grow (wr.drewN nq) osq)) := by
            obtain ⟨dj, x1, x2⟩ := HN.out
            exact ⟨dj, x1, x2 nq osq⟩
          clear c1 c2 c3 HN
          generalize grow (wr.drewN nq) osq = w2 at HN2 ⊢
          clear nq osq
          go_wp2_with fail
          go_roundg (c - s)
          case measure => have h1 := HX.out; clear hw hd hp1 hp2; omega
          case rel =>
            have h1 := HX.out
            have h2 := HXY.out
            exact ⟨s, c, rfl, rfl, Nat.le_refl _, h1.1, h1.2.2.2.1, by clear hw hd hp1 hp2; omega, by have := h1.2.2.2.2.2.2.1; clear hw hd hp1 hp2; omega, .inr (by rw [h1.2.2.2.2.2.2.2.2.2.1, h2.1, h2.2]; exact HCC.out.1 hv), HN2.out⟩
        · have hd2 : decide (cf X Y < 0) = false := decide_eq_false hv
          go_wp2_with fail
          go_quiet_grown (first | (go_at_fn g; refine Calls.grown_of (c3 _ _)))
          have HN2 : Hid (∃ dj, Fn dj n F ∧ SW enc w0 blk off dj (grow (wr.drewN nq) osq)) := by
            obtain ⟨dj, x1, x2⟩ := HN.out
            exact ⟨dj, x1, x2 nq osq⟩
          clear c1 c2 c3 HN
          generalize grow (wr.drewN nq) osq = w2 at HN2 ⊢
          clear nq osq
          have hw2 := succW c (by have h1 := HX.out; clear hw hd hp1 hp2; omega)
          go_wp2_with fail
          go_roundg (r - (c + 1))
          case measure => have h1 := HX.out; clear hw hd hp1 hp2 hw2; omega
          case rel =>
            have h1 := HX.out
            have h2 := HXY.out
            exact ⟨c + 1, r, by first | rfl | exact congrArg (Value.int .i64) hw2, rfl, Nat.le_refl _, by clear hw hd hp1 hp2 hw2; omega, by clear hw hd hp1 hp2 hw2; omega, h1.2.2.1, .inr (by rw [h1.2.2.2.2.2.2.2.2.1, Nat.add_sub_cancel, h2.1, h2.2]; have hc2 := HCC.out.2; clear hw hd hp1 hp2 hw2; omega), h1.2.2.2.2.2.2.2.1, HN2.out⟩
      · have hrs : r = s := by omega
        subst hrs
        obtain ⟨b1, b2, b3, b4, b5, b6, b7⟩ := HB.out
        have hE := HE.out
        unfold Ends at hE
        obtain ⟨e, he⟩ : ∃ x, nn = x + r := ⟨nn - r, by omega⟩
        have CUT : Cut key F a m b mid r e := by
          refine ⟨by omega, by omega, by omega, by omega, by omega, by omega, by omega, by omega, by omega, ?_, ?_⟩
          · rcases a5 with h | h
            · rcases hE.2.2.2.2.2.2 with h' | h'
              · exact .inl (by omega)
              · exact .inr (.inl (by omega))
            · exact .inr (.inr (by rw [show e - 1 = nn - 1 - r by omega]; exact h))
          · rcases a4 with h | h
            · rcases hE.2.2.2.2.2.1 with h' | h'
              · exact .inl (by omega)
              · exact .inr (.inl (by omega))
            · exact .inr (.inr (by rw [show e = nn - r by omega]; omega))
        have HCU := hidC CUT
        have HDJ : Hid (∃ dj, Fn dj n F ∧ SW enc w0 blk off dj wr) := ⟨dj, hj, sj⟩
        have HO : Hid (a ≤ r ∧ r ≤ m ∧ m ≤ e ∧ e ≤ b ∧ r + e = mid + m ∧ e ≤ n ∧ mid ≤ n ∧ b ≤ n ∧ mid - a < b - a ∧ b - mid < b - a ∧ a ≤ mid ∧ mid ≤ b ∧ r ≤ mid ∧ mid ≤ e) := by
          show _ ∧ _
          omega
        have hltz : ¬ ((r : Int) < (r : Int)) := by omega
        have hw := subW nn r e he (by omega)
        clear a1 a2 a3 a4 a5 hj sj HA hg HCF HK HE hE CUT he b1 b2 b3 b4 b5 b6 b7
        go_upto_region 39 with fail
        simp only [hw]
        clear hw
        go_cut [185] from 178 to 185 (fun s185 wx => s185 = .bool (decide (r < m ∧ m < e)) ∧ wx = wr)
        case first =>
          by_cases x1 : r < m
          · have x1z : (r : Int) < (m : Int) := by omega
            by_cases x2 : m < e
            · have x2z : (m : Int) < (e : Int) := by omega
              go_wp2_with fail
              go_meet
              case rel => exact ⟨congrArg Value.bool (decide_eq_true ⟨x1, x2⟩).symm, rfl⟩
            · have x2z : ¬ (m : Int) < (e : Int) := by omega
              go_wp2_with fail
              go_meet
              case rel => exact ⟨congrArg Value.bool (decide_eq_false (fun h => x2 h.2)).symm, rfl⟩
          · have x1z : ¬ (r : Int) < (m : Int) := by omega
            go_wp2_with fail
            go_meet
            case rel => exact ⟨congrArg Value.bool (decide_eq_false (fun h => x1 h.1)).symm, rfl⟩
        case rest =>
          obtain ⟨rfl, rfl⟩ := hcut
          go_upto_if 185 with fail
          go_cut [185] from 185 to 191 (fun _ wx => Aside (∃ dj, Fn dj n (rot F r m e) ∧ SW enc w0 blk off dj wx))
          case first =>
            by_cases x : r < m ∧ m < e
            · have hx : decide (r < m ∧ m < e) = true := decide_eq_true x
              obtain ⟨dj, y1, y2⟩ := HDJ.out
              have HC := hidC (HROT.out F r m e dj wc y1 y2 x.1 x.2 (by have := HO.out; omega))
              rw [hx]
              clear y1 y2 x hx HDJ
              go_wp2_with fail
              refine HC.out.mono ?_
              rintro e w1 ⟨rfl, hp⟩
              have HP := hidC hp
              clear hp HC
              go_wp2_with fail
              go_meet
              case rel => exact HP.out
            · have hx : decide (r < m ∧ m < e) = false := decide_eq_false x
              have HE : Hid (∃ dj, Fn dj n (rot F r m e) ∧ SW enc w0 blk off dj wc) := by
                obtain ⟨dj, y1, y2⟩ := HDJ.out
                have h1 := HO.out
                refine ⟨dj, y1.eq ?_, y2⟩
                by_cases z : r = m
                · rw [z]; exact (rot_left F m e).symm
                · rw [show e = m by omega]; exact (rot_right F r m).symm
              rw [hx]
              clear x hx HDJ
              go_wp2_with fail
              go_meet
              case rel => exact HE.out
          case rest =>
            have HD1 := hidC hcut.out
            clear hcut HDJ HROT
            go_upto_region 41 with fail
            go_cut [199] from 192 to 199 (fun s199 wx => s199 = .bool (decide (a < r ∧ r < mid)) ∧ wx = wc)
            case first =>
              by_cases x1 : a < r
              · have x1z : (a : Int) < (r : Int) := by omega
                by_cases x2 : r < mid
                · have x2z : (r : Int) < (mid : Int) := by omega
                  go_wp2_with fail
                  go_meet
                  case rel => exact ⟨congrArg Value.bool (decide_eq_true ⟨x1, x2⟩).symm, rfl⟩
                · have x2z : ¬ (r : Int) < (mid : Int) := by omega
                  go_wp2_with fail
                  go_meet
                  case rel => exact ⟨congrArg Value.bool (decide_eq_false (fun h => x2 h.2)).symm, rfl⟩
              · have x1z : ¬ (a : Int) < (r : Int) := by omega
                go_wp2_with fail
                go_meet
                case rel => exact ⟨congrArg Value.bool (decide_eq_false (fun h => x1 h.1)).symm, rfl⟩
            case rest =>
              obtain ⟨rfl, rfl⟩ := hcut
              go_upto_if 199 with fail
              go_cut [199] from 199 to 205 (fun _ wx => Aside (∃ dj H, Fn dj n H ∧ SW enc w0 blk off dj wx ∧ Mg key (rot F r m e) H a mid))
              case first =>
                by_cases x : a < r ∧ r < mid
                · have hx : decide (a < r ∧ r < mid) = true := decide_eq_true x
                  obtain ⟨dj, y1, y2⟩ := HD1.out
                  obtain ⟨z1, z2, z3⟩ := HCU.out.left HL.out HR.out HT.out
                  have HC := hidC (HIH.out (rot F r m e) a r mid dj wc y1 y2 x.1 x.2 (by have := HO.out; omega) (by have := HO.out; omega) z1 z2 z3)
                  rw [hx]
                  clear y1 y2 z1 z2 z3 x hx HD1 HIH
                  go_wp2_with fail
                  refine HC.out.mono ?_
                  rintro ee w1 ⟨rfl, hp⟩
                  have HP := hidC hp
                  clear hp HC
                  go_wp2_with fail
                  go_meet
                  case rel => exact HP.out
                · have hx : decide (a < r ∧ r < mid) = false := decide_eq_false x
                  have HE : Hid (∃ dj H, Fn dj n H ∧ SW enc w0 blk off dj wc ∧ Mg key (rot F r m e) H a mid) := by
                    obtain ⟨dj, y1, y2⟩ := HD1.out
                    have h1 := HO.out
                    obtain ⟨z1, z2, z3⟩ := HCU.out.left HL.out HR.out HT.out
                    refine ⟨dj, _, y1, y2, Mg.refl ?_⟩
                    by_cases z : r = a
                    · rw [z] at z2 ⊢; exact z2
                    · exact z1.sub (Nat.le_refl _) (by omega)
                  rw [hx]
                  clear x hx HD1 HIH
                  go_wp2_with fail
                  go_meet
                  case rel => exact HE.out
              case rest =>
                have HD2 := hidC hcut.out
                clear hcut HD1
                go_upto_region 43 with fail
                go_cut [213] from 206 to 213 (fun s213 wx => s213 = .bool (decide (mid < e ∧ e < b)) ∧ wx = wc)
                case first =>
                  by_cases x1 : mid < e
                  · have x1z : (mid : Int) < (e : Int) := by omega
                    by_cases x2 : e < b
                    · have x2z : (e : Int) < (b : Int) := by omega
                      go_wp2_with fail
                      go_meet
                      case rel => exact ⟨congrArg Value.bool (decide_eq_true ⟨x1, x2⟩).symm, rfl⟩
                    · have x2z : ¬ (e : Int) < (b : Int) := by omega
                      go_wp2_with fail
                      go_meet
                      case rel => exact ⟨congrArg Value.bool (decide_eq_false (fun h => x2 h.2)).symm, rfl⟩
                  · have x1z : ¬ (mid : Int) < (e : Int) := by omega
                    go_wp2_with fail
                    go_meet
                    case rel => exact ⟨congrArg Value.bool (decide_eq_false (fun h => x1 h.1)).symm, rfl⟩
                case rest =>
                  obtain ⟨rfl, rfl⟩ := hcut
                  have HFIN : Hid (∀ H K, Mg key (rot F r m e) H a mid → Mg key H K mid b → Mg key F K a b) := by
                    intro H K z1 z2
                    have h1 := HO.out
                    exact mg_both h1.2.2.2.2.2.2.2.2.2.2.1 h1.2.2.2.2.2.2.2.2.2.2.2.1 (rot_sm F r m e a b (by omega) (by omega) (by omega) (by omega)) (fun j hj => rot_out F r m e j (by omega) (by omega) (by omega)) (HCU.out.cross HL.out HR.out HT.out) z1 z2
                  have HRT : Hid (∀ H, Mg key (rot F r m e) H a mid → Srt key H mid e ∧ Srt key H e b ∧ TT key H mid e b) := by
                    intro H z1
                    have h1 := HO.out
                    obtain ⟨y1, y2, y3⟩ := HCU.out.right HL.out HR.out HT.out
                    exact ⟨srt_cong y1 (fun j hj _ => z1.2.2 j (.inr hj)), srt_cong y2 (fun j hj _ => z1.2.2 j (.inr (by omega))), tt_cong y3 (fun j hj _ => z1.2.2 j (.inr hj))⟩
                  by_cases x : mid < e ∧ e < b
                  · have hx : decide (mid < e ∧ e < b) = true := decide_eq_true x
                    obtain ⟨dj, H, y1, y2, y3⟩ := HD2.out
                    obtain ⟨z1, z2, z3⟩ := HRT.out H y3
                    have HC := hidC (HIH.out H mid e b dj wc y1 y2 x.1 x.2 (by have := HO.out; omega) (by have := HO.out; omega) z1 z2 z3)
                    have HM3 := hidC y3
                    rw [hx]
                    clear y1 y2 y3 z1 z2 z3 x hx HD2 HIH HRT
                    go_wp2_with fail
                    refine HC.out.mono ?_
                    rintro ee w1 ⟨rfl, hp⟩
                    have HP := hidC hp
                    clear hp HC
                    go_wp2_with fail
                    go_end0
                    obtain ⟨d', K, k1, k2, k3⟩ := HP.out
                    exact ⟨rfl, d', K, k1, k2, HFIN.out _ _ HM3.out k3⟩
                  · have hx : decide (mid < e ∧ e < b) = false := decide_eq_false x
                    have HE : Hid (∃ dj H, Fn dj n H ∧ SW enc w0 blk off dj wc ∧ Mg key F H a b) := by
                      obtain ⟨dj, H, y1, y2, y3⟩ := HD2.out
                      have h1 := HO.out
                      obtain ⟨z1, z2, z3⟩ := HRT.out H y3
                      refine ⟨dj, H, y1, y2, HFIN.out H H y3 (Mg.refl ?_)⟩
                      by_cases z : e = mid
                      · rw [z] at z2; exact z2
                      · exact z1.sub (Nat.le_refl _) (by omega)
                    rw [hx]
                    clear x hx HD2 HIH HRT
                    go_wp2_with fail
                    go_end0
                    obtain ⟨d', K, k1, k2, k3⟩ := HE.out
                    exact ⟨rfl, d', K, k1, k2, k3⟩

theorem sym_any (eg : ∀ args w, (callFunc g args).run Tryd.prog w = .ok (.enter g args) w) (R : Row1 enc w0 blk off d0) (hs : d0.size = n) (hC : CmpLays1 Tryd.prog g cb enc cf blk off n w0) (hk : ∀ x y, cf x y < 0 ↔ key x < key y) (hn : n ≤ 1000) :
    ∀ (k : Nat) (F : Nat → Nat) (a m b : Nat) (dk : Array Nat) (W : World), b - a ≤ k → Fn dk n F → SW enc w0 blk off dk W → a < m → m < b → b ≤ n → Srt key F a m → Srt key F m b → TT key F a m b →
      Calls Tryd.prog 67 #[.slice (some ⟨blk, off, none⟩) n cap, .int .i64 a, .int .i64 m, .int .i64 b, .func (.func g) #[] cb] W fun e w' => SymPost key enc w0 blk off n F a b e w' := by
  intro k
  induction k with
  | zero => intro F a m b dk W h; omega
  | succ k ih =>
    intro F a m b dk W hk2 hF S h1 h2 h3 hL hR hT
    by_cases c1 : m = a + 1
    · exact sym_right eg R hs hC hk F a m b dk W hF S c1 h2 h3 hn hR hT
    · by_cases c2 : b = m + 1
      · exact sym_left eg R hs hC hk F a m b dk W hF S (by omega) c2 h3 hn hL hT
      · exact sym_main eg R hs hC hk F a m b dk W hF S (by omega) (by omega) h3 hn hL hR hT fun F' a' m' b' dk' W' x1 x2 x3 x4 x5 x6 x7 x8 x9 => ih F' a' m' b' dk' W' (by omega) x1 x2 x3 x4 x5 x7 x8 x9
end
end Go.Proofs.YtabcfmpmkdoieaaDoor.cal
