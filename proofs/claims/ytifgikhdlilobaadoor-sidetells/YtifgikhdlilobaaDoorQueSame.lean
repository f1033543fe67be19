/- Contracts over this seat's translation: pitsame.Rests at two queues that are the same. -/
import Derived.Test.YtifgikhdlilobaaDoorQueChk
import Derived.Deep.QuietTactic
import Derived.BigQuiet
namespace Go.Proofs.YtifgikhdlilobaaDoor.que
open Go.RowKit Go.Proofs.YtifgikhdlilobaaDoor.spn

theorem wrapSucc (k n : Nat) (h : k < n) (hn : n ≤ 9223372036854775807) : wrap64 ((k : Int) + 1) = ((k + 1 : Nat) : Int) := by unfold wrap64; omega

theorem below_drewN {B : Nat} {a w : World} (h : Below B a w) (n : Nat) : Below B a (w.drewN n) := ⟨h.os, h.tape, h.output, h.size, h.block⟩

theorem rests_none (p q : Option Addr) (c d : Nat) (w : World) :
    Calls Tryd.prog 31 #[.slice p 0 c, .slice q 0 d] w fun e w' => e = .returned (.bool true) ∧ Below w.heap.size w w' := by
  go_enter Tryd.func31, Tryd.ntmps31
  go_wp2_with fail
  go_loopg [5] 0 (fun _ s5 wr => s5 = .int .i64 0 ∧ wr = w)
  case atStart => exact ⟨rfl, rfl⟩
  case round =>
    obtain ⟨rfl, rfl⟩ := hrel
    go_wp2_with fail
    go_ret
    exact ⟨rfl, Below.refl _ _⟩

set_option maxRecDepth 100000 in
set_option maxHeartbeats 1000000 in
theorem rests_some (b o c b' o' c' : Nat) (zs : List R) (w : World) (hb : b < w.heap.size) (hb' : b' < w.heap.size) (hn : zs.length ≤ 9223372036854775807) (hl : Lies w b o zs) (hl' : Lies w b' o' zs) :
    Calls Tryd.prog 31 #[.slice (some ⟨b, o, none⟩) zs.length c, .slice (some ⟨b', o', none⟩) zs.length c'] w fun e w' => e = .returned (.bool true) ∧ Below w.heap.size w w' := by
  have HL : Hid (Lies w b o zs ∧ Lies w b' o' zs) := ⟨hl, hl'⟩
  clear hl hl'
  generalize hN : zs.length = n at *
  have HN : Hid (zs.length = n) := hN
  clear hN
  go_enter Tryd.func31, Tryd.ntmps31
  go_wp2_with fail
  go_loopg [5] n (fun gg s5 wr => ∃ kk : Nat, kk ≤ n ∧ n - kk ≤ gg ∧ s5 = .int .i64 kk ∧ Aside (Below w.heap.size w wr))
  case atStart => exact ⟨0, Nat.zero_le _, by omega, rfl, Below.refl _ w⟩
  case round =>
    obtain ⟨kk, hkk, hg, rfl, BW⟩ := hrel
    by_cases hlt : kk < n
    · have hltz : (kk : Int) < (n : Int) := by omega
      have hlz : kk < zs.length := by rw [HN.out]; exact hlt
      obtain ⟨r, hr⟩ : ∃ r, zs[kk]! = r := ⟨_, rfl⟩
      obtain ⟨r1, r2, r3, r4, r5⟩ := r
      obtain ⟨c0, c1, c2, c3, c4⟩ := lies_at (HL.out.1.below hb BW.out) hlz hr
      obtain ⟨d0, d1, d2, d3, d4⟩ := lies_at (HL.out.2.below hb' BW.out) hlz hr
      have hin1 : ¬ ((kk : Int) < 0) := by omega
      have e1 := wrapSucc kk n hlt hn
      clear hr
      go_wp2_with fail
      go_quiet (fail)
      go_wp2_with fail
      go_roundg (n - (kk + 1))
      case measure => clear e1; omega
      case rel => exact ⟨kk + 1, hlt, Nat.le_refl _, by go_num, below_drewN BW.out _⟩
    · have hltz : ¬ (kk : Int) < (n : Int) := by omega
      go_wp2_with fail
      go_ret
      exact ⟨rfl, BW.out⟩

theorem rests_same (va vb : Value) (zs : List R) (w : World) (ha : SL w va zs) (hb : SL w vb zs) :
    Calls Tryd.prog 31 #[va, vb] w fun e w' => e = .returned (.bool true) ∧ Below w.heap.size w w' := by
  rcases ha with ⟨rfl, rfl⟩ | ⟨b, o, c, rfl, h2, h3, h4, h5⟩
  · rcases hb with ⟨rfl, -⟩ | ⟨b', o', c', rfl, -, -, -, -⟩
    · exact rests_none none none 0 0 w
    · exact rests_none none (some ⟨b', o', none⟩) 0 c' w
  · rcases hb with ⟨rfl, rfl⟩ | ⟨b', o', c', rfl, -, -, i4, i5⟩
    · exact rests_none (some ⟨b, o, none⟩) none c 0 w
    · exact rests_some b o c b' o' c' zs w h4 i4 (by omega) h5 i5

end Go.Proofs.YtifgikhdlilobaaDoor.que
