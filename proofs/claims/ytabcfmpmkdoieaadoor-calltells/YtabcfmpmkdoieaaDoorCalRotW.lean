/- Contracts over this seat's translation: slices.rotateCmpFunc at pointers. -/
import Derived.Test.YtabcfmpmkdoieaaDoorCalSwr
namespace Go.Proofs.YtabcfmpmkdoieaaDoor.cal
open Go.RowKit Go.Lib Go.Sort

section
variable {enc : Nat → Value} {w0 : World} {blk off cap n : Nat} {d0 : Array Nat}

set_option maxHeartbeats 4000000 in
set_option maxRecDepth 1000000 in
theorem rotate_any (R : Row1 enc w0 blk off d0) (hs : d0.size = n) (fv : Value) (F : Nat → Nat) (a m b : Nat) (dk : Array Nat) (W : World) (hF : Fn dk n F) (S : SW enc w0 blk off dk W) (h1 : a < m) (h2 : m < b) (h3 : b ≤ n) (hn : n ≤ 1000) :
    Calls Tryd.prog 68 #[.slice (some ⟨blk, off, none⟩) n cap, .int .i64 a, .int .i64 m, .int .i64 b, fv] W fun e w' => e = .returned (.tuple #[]) ∧ ∃ d', Fn d' n (rot F a m b) ∧ SW enc w0 blk off d' w' := by
  have HSW : Hid (∀ (G : Nat → Nat) (x y k : Nat) (dj : Array Nat) (V : World), Fn dj n G → SW enc w0 blk off dj V → x + k ≤ y → y + k ≤ n → Calls Tryd.prog 69 #[.slice (some ⟨blk, off, none⟩) n cap, .int .i64 x, .int .i64 y, .int .i64 k, fv] V fun e w' => e = .returned (.tuple #[]) ∧ ∃ d', Fn d' n (swr G x y k) ∧ SW enc w0 blk off d' w') :=
    fun G x y k dj V g1 g2 g3 g4 => swapRange_any R hs fv G x y k dj V g1 g2 g3 g4 hn
  have HF := hidC hF
  have HS := hidC S
  obtain ⟨i0, hi0⟩ : ∃ i, m = i + a := ⟨m - a, by omega⟩
  obtain ⟨j0, hj0⟩ : ∃ i, b = i + m := ⟨b - m, by omega⟩
  have HB : Hid (0 < i0 ∧ 0 < j0 ∧ b ≤ n ∧ n ≤ 1000) := ⟨by omega, by omega, h3, hn⟩
  have w1 := subW m a i0 (by omega) (by omega)
  have w2 := subW b m j0 (by omega) (by omega)
  have HI := hidC hi0
  have HJ := hidC hj0
  clear hF S h1 h2 h3 hn hs hi0 hj0 R
  go_enter Tryd.func68, Tryd.ntmps68
  go_wp2_with fail
  go_loopg [10, 11] (i0 + j0) (fun gg s10 s11 wr => ∃ i j : Nat, s10 = .int .i64 i ∧ s11 = .int .i64 j ∧ i + j ≤ gg ∧ Aside (0 < i ∧ 0 < j ∧ i ≤ m ∧ m + j ≤ b ∧ ∃ G dj, Fn dj n G ∧ SW enc w0 blk off dj wr ∧ rot G (m - i) m (m + j) = rot F a m b))
  case atStart => exact ⟨i0, j0, by first | rfl | exact congrArg (Value.int .i64) w1, by first | rfl | exact congrArg (Value.int .i64) w2, Nat.le_refl _, HB.out.1, HB.out.2.1, by have := HI.out; clear w1 w2; omega, by have := HJ.out; clear w1 w2; omega, F, dk, HF.out, HS.out, by have h1 := HI.out; have h2 := HJ.out; clear w1 w2; rw [show m - i0 = a by omega, show m + j0 = b by omega]⟩
  case round =>
    clear w1 w2
    obtain ⟨i, j, rfl, rfl, hg, HA⟩ := hrel
    obtain ⟨ai, aj, am, ab, G, dj, hG, hS, hR⟩ := HA.out
    have bn := HB.out.2.2.1
    have nn := HB.out.2.2.2
    obtain ⟨p, hp⟩ : ∃ p, m = p + i := ⟨m - i, by omega⟩
    have hpe : m - i = p := by omega
    rw [hpe] at hR
    have wp := subW m i p hp (by omega)
    by_cases hij : i = j
    · subst hij
      have HC := hidC ((HSW.out G p m i dj wr hG hS (by clear wp; omega) (by clear wp; omega)).mono fun e w' h => (⟨h.1, by obtain ⟨d', x1, x2⟩ := h.2; exact ⟨d', x1.eq (by rw [← hR, hp]; exact rot_same G p i), x2⟩⟩ : e = .returned (.tuple #[]) ∧ ∃ d', Fn d' n (rot F a m b) ∧ SW enc w0 blk off d' w'))
      have hne : ((i : Int) != (i : Int)) = false := by simp
      clear HA hG hS hR ai aj am ab bn nn hp hpe hg
      go_wp2_with fail
      refine HC.out.mono ?_
      rintro e w1 ⟨rfl, hp⟩
      have HP := hidC hp
      clear hp HC
      go_wp2_with fail
      go_end0
      exact ⟨rfl, HP.out⟩
    · by_cases hgt : j < i
      · have HC := hidC (HSW.out G p m j dj wr hG hS (by clear wp; omega) (by clear wp; omega))
        obtain ⟨i2, hi2⟩ : ∃ q, i = q + j := ⟨i - j, by omega⟩
        have HR : Hid (rot (swr G p m j) (m - i2) m (m + j) = rot F a m b) := by
          show _ = _
          rw [← hR, show m - i2 = p + j by clear wp; omega, hp]
          exact rot_more G p i j hgt
        have wi := subW i j i2 hi2 (by clear wp; omega)
        have hq : 0 < i2 ∧ i2 ≤ m ∧ i2 + j < i + j := by clear wi wp; omega
        have hne : ((i : Int) != (j : Int)) = true := by simp; clear wi wp; omega
        have hne2 : ¬ ((i : Int) = (j : Int)) := by clear wi wp; omega
        have hgz : (j : Int) < (i : Int) := by clear wi wp; omega
        have HX : Hid (0 < j ∧ m + j ≤ b ∧ i + j ≤ gk) := ⟨aj, ab, hg⟩
        have HQ := hidC hq
        clear HA hG hS hR ai aj am ab bn nn hp hpe hg hi2 hq hgt hij
        go_wp2_with fail
        refine HC.out.mono ?_
        rintro e w1 ⟨rfl, hp⟩
        have HP := hidC hp
        clear hp HC
        go_wp2_with fail
        go_roundg (i2 + j)
        case measure => have h1 := HX.out; have h2 := HQ.out; clear wi wp hne hne2 hgz; omega
        case rel =>
          obtain ⟨d', x1, x2⟩ := HP.out
          exact ⟨i2, j, by first | rfl | exact congrArg (Value.int .i64) wi, rfl, Nat.le_refl _, HQ.out.1, HX.out.1, HQ.out.2.1, HX.out.2.1, _, d', x1, x2, HR.out⟩
      · obtain ⟨j2, hj2⟩ : ∃ q, j = q + i := ⟨j - i, by omega⟩
        obtain ⟨mj, hmj⟩ : ∃ q, q = m + j := ⟨_, rfl⟩
        obtain ⟨mj2, hmj2⟩ : ∃ q, mj = q + i := ⟨m + j - i, by omega⟩
        have HC := hidC (HSW.out G p mj2 i dj wr hG hS (by clear wp; omega) (by clear wp; omega))
        have HR : Hid (rot (swr G p mj2 i) (m - i) m (m + j2) = rot F a m b) := by
          show _ = _
          rw [← hR, hpe, show mj2 = p + j by clear wp; omega, hp, show p + i + j2 = p + j by clear wp; omega]
          exact rot_less G p i j (by clear wp; omega)
        have wi := subW j i j2 hj2 (by clear wp; omega)
        have wm := addW m j mj hmj (by clear wp wi; omega)
        have wn := subW mj i mj2 hmj2 (by clear wp wi wm; omega)
        have hq : 0 < j2 ∧ m + j2 ≤ b ∧ i + j2 < i + j := by clear wi wp wm wn; omega
        have hne : ((i : Int) != (j : Int)) = true := by simp; clear wi wp wm wn; omega
        have hne2 : ¬ ((i : Int) = (j : Int)) := by clear wi wp wm wn; omega
        have hgz : ¬ (j : Int) < (i : Int) := by clear wi wp wm wn; omega
        have HX : Hid (0 < i ∧ i ≤ m ∧ i + j ≤ gk) := ⟨ai, am, hg⟩
        have HQ := hidC hq
        clear HA hG hS hR ai aj am ab bn nn hp hpe hg hj2 hmj hmj2 hq hgt hij
        go_wp2_with fail
        refine HC.out.mono ?_
        rintro e w1 ⟨rfl, hp⟩
        have HP := hidC hp
        clear hp HC
        go_wp2_with fail
        go_roundg (i + j2)
        case measure => have h1 := HX.out; have h2 := HQ.out; clear wi wp wm wn hne hne2 hgz; omega
        case rel =>
          obtain ⟨d', x1, x2⟩ := HP.out
          exact ⟨i, j2, rfl, by first | rfl | exact congrArg (Value.int .i64) wi, Nat.le_refl _, HX.out.1, HQ.out.1, HX.out.2.1, HQ.out.2.1, _, d', x1, x2, HR.out⟩
end
end Go.Proofs.YtabcfmpmkdoieaaDoor.cal
