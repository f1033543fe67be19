/- Contracts over this seat's translation: pitsame.Orders at two that are the same. -/
import Derived.Test.YtabcfmpmkdoieaaDoorWakSl
import Derived.Deep.QuietTactic
import Derived.BigQuiet
namespace Go.Proofs.YtabcfmpmkdoieaaDoor.wak
open Go.RowKit Go.Proofs.YtabcfmpmkdoieaaDoor.ord
open Go.Proofs.YtabcfmpmkdoieaaDoor.spn (keeps bcell)

theorem lies_at {w : World} {b o : Nat} {zs : List O} (h : Lies w b o zs) {k : Nat} (hk : k < zs.length) {a1 a2 a3 a4 a5 a6 a7 a8 : Int} (hr : zs[k]! = ⟨a1, a2, a3, a4, a5, a6, a7, a8⟩) : w.cell? ⟨b, o + k * 8, none⟩ = some (.int .i64 a1) ∧ w.cell? ⟨b, o + k * 8 + 1, none⟩ = some (.int .i64 a2) ∧ w.cell? ⟨b, o + k * 8 + 2, none⟩ = some (.int .i64 a3) ∧ w.cell? ⟨b, o + k * 8 + 3, none⟩ = some (.int .i64 a4) ∧ w.cell? ⟨b, o + k * 8 + 4, none⟩ = some (.int .i64 a5) ∧ w.cell? ⟨b, o + k * 8 + 5, none⟩ = some (.int .i64 a6) ∧ w.cell? ⟨b, o + k * 8 + 6, none⟩ = some (.int .i64 a7) ∧ w.cell? ⟨b, o + k * 8 + 7, none⟩ = some (.int .i64 a8) := by
  have hc := h k hk
  rw [hr] at hc
  exact ⟨hc 0 _ rfl, hc 1 _ rfl, hc 2 _ rfl, hc 3 _ rfl, hc 4 _ rfl, hc 5 _ rfl, hc 6 _ rfl, hc 7 _ rfl⟩
theorem wrapSucc (k n : Nat) (h : k < n) (hn : n ≤ 9223372036854775807) : wrap64 ((k : Int) + 1) = ((k + 1 : Nat) : Int) := by unfold wrap64; omega

theorem below_drewN {B : Nat} {a w : World} (h : Below B a w) (n : Nat) : Below B a (w.drewN n) := ⟨h.os, h.tape, h.output, h.size, h.block⟩

theorem orders_none (p q : Option Addr) (c d : Nat) (w : World) :
    Calls Tryd.prog 14 #[.slice p 0 c, .slice q 0 d] w fun e w' => e = .returned (.bool true) ∧ Below w.heap.size w w' := by
  go_enter Tryd.func14, Tryd.ntmps14
  go_wp2_with fail
  go_loopg [5] 0 (fun _ s5 wr => s5 = .int .i64 0 ∧ wr = w)
  case atStart => exact ⟨rfl, rfl⟩
  case round =>
    obtain ⟨rfl, rfl⟩ := hrel
    go_wp2_with fail
    go_ret
    exact ⟨rfl, Below.refl _ _⟩

set_option maxRecDepth 100000 in
set_option maxHeartbeats 1000000 in
theorem orders_some (b o c b' o' c' : Nat) (zs : List O) (w : World) (hb : b < w.heap.size) (hb' : b' < w.heap.size) (hn : zs.length ≤ 9223372036854775807) (hl : Lies w b o zs) (hl' : Lies w b' o' zs) :
    Calls Tryd.prog 14 #[.slice (some ⟨b, o, none⟩) zs.length c, .slice (some ⟨b', o', none⟩) zs.length c'] w fun e w' => e = .returned (.bool true) ∧ Below w.heap.size w w' := by
  have HL : Hid (Lies w b o zs ∧ Lies w b' o' zs) := ⟨hl, hl'⟩
  clear hl hl'
  generalize hN : zs.length = n at *
  have HN : Hid (zs.length = n) := hN
  clear hN
  go_enter Tryd.func14, Tryd.ntmps14
  go_wp2_with fail
  go_loopg [5] n (fun gg s5 wr => ∃ kk : Nat, kk ≤ n ∧ n - kk ≤ gg ∧ s5 = .int .i64 kk ∧ Aside (Below w.heap.size w wr))
  case atStart => exact ⟨0, Nat.zero_le _, by omega, rfl, Below.refl _ w⟩
  case round =>
    obtain ⟨kk, hkk, hg, rfl, BW⟩ := hrel
    by_cases hlt : kk < n
    · have hltz : (kk : Int) < (n : Int) := by omega
      have hlz : kk < zs.length := by rw [HN.out]; exact hlt
      obtain ⟨r, hr⟩ : ∃ r, zs[kk]! = r := ⟨_, rfl⟩
      obtain ⟨r1, r2, r3, r4, r5, r6, r7, r8⟩ := r
      obtain ⟨c0, c1, c2, c3, c4, c5, c6, c7⟩ := lies_at (HL.out.1.below hb BW.out) hlz hr
      obtain ⟨d0, d1, d2, d3, d4, d5, d6, d7⟩ := lies_at (HL.out.2.below hb' BW.out) hlz hr
      have hin1 : ¬ ((kk : Int) < 0) := by omega
      have e1 := wrapSucc kk n hlt hn
      clear hr
      go_wp2_with fail
      go_quiet (fail)
      go_wp2_with fail
      go_roundg (n - (kk + 1))
      case measure => clear e1; omega
      case rel => exact ⟨kk + 1, hlt, Nat.le_refl _, by go_num, below_drewN BW.out _⟩
    · have hltz : ¬ (kk : Int) < (n : Int) := by omega
      go_wp2_with fail
      go_ret
      exact ⟨rfl, BW.out⟩

theorem orders_same (va vb : Value) (zs : List O) (w : World) (ha : SL w va zs) (hb : SL w vb zs) :
    Calls Tryd.prog 14 #[va, vb] w fun e w' => e = .returned (.bool true) ∧ Below w.heap.size w w' := by
  rcases ha with ⟨rfl, rfl⟩ | ⟨b, o, c, rfl, h2, h3, h4, h5⟩
  · rcases hb with ⟨rfl, -⟩ | ⟨b', o', c', rfl, -, -, -, -⟩
    · exact orders_none none none 0 0 w
    · exact orders_none none (some ⟨b', o', none⟩) 0 c' w
  · rcases hb with ⟨rfl, rfl⟩ | ⟨b', o', c', rfl, -, -, i4, i5⟩
    · exact orders_none (some ⟨b, o, none⟩) none c 0 w
    · exact orders_some b o c b' o' c' zs w h4 i4 (by omega) h5 i5

end Go.Proofs.YtabcfmpmkdoieaaDoor.wak
