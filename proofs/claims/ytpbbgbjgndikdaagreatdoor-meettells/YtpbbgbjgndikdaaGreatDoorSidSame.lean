/- Contracts over this seat's translation: pitsame.Levels at two sides that are the same. -/
import Derived.Test.YtpbbgbjgndikdaaGreatDoorSidDeep
import Derived.Test.YtpbbgbjgndikdaaGreatDoorQueSame
import Derived.Deep.RegionHeld3
namespace Go.Proofs.YtpbbgbjgndikdaaGreatDoor.sid
open Go.RowKit Go.Proofs.YtpbbgbjgndikdaaGreatDoor.spn Go.Proofs.YtpbbgbjgndikdaaGreatDoor.que

theorem rests_same' (va vb : Value) (zs : List R) (w : World) (ha : SLe w va zs) (hb : SLe w vb zs) :
    Calls Tryz.prog 81 #[va, vb] w fun e w' => e = .returned (.bool true) ∧ Below w.heap.size w w' := by
  by_cases hz : zs = []
  · obtain ⟨p, c, h1⟩ := sl_form ha
    obtain ⟨q, d, h2⟩ := sl_form hb
    subst hz
    subst h1
    subst h2
    exact rests_none p q c d w
  · exact rests_same va vb zs w (ha.sl hz) (hb.sl hz)
theorem levels_none (p q : Option Addr) (c d : Nat) (w : World) :
    Calls Tryz.prog 51 #[.slice p 0 c, .slice q 0 d] w fun e w' => e = .returned (.bool true) ∧ Below w.heap.size w w' := by
  go_enter Tryz.func51, Tryz.ntmps51
  go_wp2_with fail
  go_loopg [5, 6] 0 (fun _ s5 _ wr => s5 = .int .i64 0 ∧ wr = w)
  case atStart => exact ⟨rfl, rfl⟩
  case round =>
    obtain ⟨rfl, rfl⟩ := hrel
    go_wp2_with fail
    go_ret
    exact ⟨rfl, Below.refl _ _⟩

set_option maxRecDepth 100000 in
set_option maxHeartbeats 2000000 in
theorem levels_some (b o c b' o' c' : Nat) (ls : List L) (w : World) (hb : b < w.heap.size) (hb' : b' < w.heap.size) (hn : ls.length ≤ 9223372036854775807) (hl : LL w b o ls) (hl' : LL w b' o' ls) :
    Calls Tryz.prog 51 #[.slice (some ⟨b, o, none⟩) ls.length c, .slice (some ⟨b', o', none⟩) ls.length c'] w fun e w' => e = .returned (.bool true) ∧ Below w.heap.size w w' := by
  have HL : Hid (LL w b o ls ∧ LL w b' o' ls) := ⟨hl, hl'⟩
  clear hl hl'
  generalize hN : ls.length = n at *
  have HN : Hid (ls.length = n) := hN
  clear hN
  go_enter Tryz.func51, Tryz.ntmps51
  go_wp2_with fail
  go_loopg [5, 6] n (fun gg s5 _ wr => ∃ kk : Nat, kk ≤ n ∧ n - kk ≤ gg ∧ s5 = .int .i64 kk ∧ Aside (Below w.heap.size w wr))
  case atStart => exact ⟨0, Nat.zero_le _, by omega, rfl, Below.refl _ w⟩
  case round =>
    obtain ⟨kk, hkk, hg, rfl, BW⟩ := hrel
    by_cases hlt : kk < n
    · have hltz : (kk : Int) < (n : Int) := by omega
      have hlz : kk < ls.length := by rw [HN.out]; exact hlt
      obtain ⟨r, hr⟩ : ∃ r, ls[kk]! = r := ⟨_, rfl⟩
      obtain ⟨p, zs⟩ := r
      obtain ⟨q, cc, a0, a1, hs⟩ := (HL.out.1.below hb BW.out).at hlz hr
      obtain ⟨q', cc', b0, b1, hs'⟩ := (HL.out.2.below hb' BW.out).at hlz hr
      have hin1 : ¬ ((kk : Int) < 0) := by omega
      have hin2 : (0 : Int) ≤ (kk : Int) := by omega
      have HE1 : Hid (wrap64 ((kk : Int) + 1) = ((kk + 1 : Nat) : Int)) := wrapSucc kk n hlt hn
      have HRS : Hid (∀ W, Below wr.heap.size wr W → Calls Tryz.prog 81 #[.slice q zs.length cc, .slice q' zs.length cc'] W fun e w' => e = .returned (.bool true) ∧ Below wr.heap.size wr w') := fun W hW => (rests_same' _ _ zs W (hs.below hW) (hs'.below hW)).mono fun e w' h => ⟨h.1, hW.trans (h.2.mono hW.size)⟩
      clear hr hs hs'
      generalize zs.length = zn at *
      have SO : Hid (∀ W, Below wr.heap.size wr W → (Below wr.heap.size wr W ∧ W.cell? ⟨b, o + kk * 2 + 1, none⟩ = some (.slice q zn cc) ∧ W.cell? ⟨b', o' + kk * 2 + 1, none⟩ = some (.slice q' zn cc'))) := fun W hW => ⟨hW, keeps hW a1, keeps hW b1⟩
      go_upto_region 6 with fail
      go_region_held3 (fun W => Below wr.heap.size wr W ∧ W.cell? ⟨b, o + kk * 2 + 1, none⟩ = some (.slice q zn cc) ∧ W.cell? ⟨b', o' + kk * 2 + 1, none⟩ = some (.slice q' zn cc'))
        ((refine SO.out _ ?_; (repeat' (first | with_reducible assumption | with_reducible refine bal ?_ _ | with_reducible refine Below.setCell ?_ ?_ _ | with_reducible refine Below.drew ?_ | with_reducible exact Below.refl _ _ | with_reducible exact Nat.le_refl _ | with_reducible exact Below.size (by with_reducible assumption) | with_reducible refine Nat.le_succ_of_le ?_))))
        (first | (go_at_call 81; refine (HRS.out _ ?_).mono ?_; (repeat' (first | with_reducible assumption | with_reducible refine bal ?_ _ | with_reducible refine Below.setCell ?_ ?_ _ | with_reducible refine Below.drew ?_ | with_reducible exact Below.refl _ _ | with_reducible exact Nat.le_refl _ | with_reducible exact Below.size (by with_reducible assumption) | with_reducible refine Nat.le_succ_of_le ?_)); rintro x W ⟨rfl, hbn⟩))
      have HW : Hid (Below w.heap.size w W) := BW.out.trans (hbn.mono BW.out.size)
      have c0 := keeps hbn a0
      have c1 := keeps hbn b0
      have hbW : b < W.heap.size := Nat.lt_of_lt_of_le hb HW.out.size
      have hbW' : b' < W.heap.size := Nat.lt_of_lt_of_le hb' HW.out.size
      have e1 := HE1.out
      clear SO HRS hbn a0 a1 b0 b1
      go_upto_region 7 with fail
      go_quiet (fail)
      go_wp2_with fail
      go_roundg (n - (kk + 1))
      case measure => clear e1; omega
      case rel => exact ⟨kk + 1, hlt, Nat.le_refl _, by go_num, below_drewN HW.out _⟩
    · have hltz : ¬ (kk : Int) < (n : Int) := by omega
      go_wp2_with fail
      go_ret
      exact ⟨rfl, BW.out⟩

theorem levels_same (va vb : Value) (ls : List L) (w : World) (ha : LS w va ls) (hb : LS w vb ls) :
    Calls Tryz.prog 51 #[va, vb] w fun e w' => e = .returned (.bool true) ∧ Below w.heap.size w w' := by
  rcases ha with ⟨rfl, rfl⟩ | ⟨b, o, c, rfl, h2, h3, h4, h5⟩
  · rcases hb with ⟨rfl, -⟩ | ⟨b', o', c', rfl, -, -, -, -⟩
    · exact levels_none none none 0 0 w
    · exact levels_none none (some ⟨b', o', none⟩) 0 c' w
  · rcases hb with ⟨rfl, rfl⟩ | ⟨b', o', c', rfl, -, -, i4, i5⟩
    · exact levels_none (some ⟨b, o, none⟩) none c 0 w
    · exact levels_some b o c b' o' c' ls w h4 i4 (by omega) h5 i5
end Go.Proofs.YtpbbgbjgndikdaaGreatDoor.sid
