/- Contracts over this seat's translation: the document's Meet at every order that comes. Contracts over this seat's translation: pitsame.Trades at two that are the same; meet.Trades. Contracts over this seat's translation: pitsame.Levels at two sides that are the same. -/
import Derived.Test.YtalhdjlopkdnbaaGreatDoorMeeRef3
import Derived.Test.YtalhdjlopkdnbaaGreatDoorMeeRef3b
import Derived.Test.YtalhdjlopkdnbaaGreatDoorMeeOwn
import Derived.Test.YtalhdjlopkdnbaaGreatDoorMeeDo2
import Derived.Test.YtalhdjlopkdnbaaGreatDoorQueRef1
import Derived.Test.YtalhdjlopkdnbaaGreatDoorSidDeep
import Derived.Deep.RegionHeld3
namespace Go.Proofs.YtalhdjlopkdnbaaGreatDoor.mee
open Go.RowKit Go.Proofs.YtalhdjlopkdnbaaGreatDoor.spn Go.Proofs.YtalhdjlopkdnbaaGreatDoor.que Go.Proofs.YtalhdjlopkdnbaaGreatDoor.sid Go.Proofs.YtalhdjlopkdnbaaGreatDoor.bok
open Go.Proofs.YtalhdjlopkdnbaaGreatDoor.ord (O oV mB mE chk rord_any ref_may)

theorem rmeet_any (b0 : Nat) (q1 q2 : Option Addr) (n1 n2 c1 c2 : Nat) (bs ss : List L) (a b c d p q s t : Int) (w : World) (hb0 : b0 ≤ w.heap.size) (h1 : LS (hide b0 w) (.slice q1 n1 c1) bs) (h2 : LS (hide b0 w) (.slice q2 n2 c2) ss) (hC : comeE bs ss ⟨a, b, c, d, p, q, s, t⟩ = 0) :
    Calls Tryz.prog 26 #[.agg #[.slice q1 n1 c1, .slice q2 n2 c2], .agg #[.int .i64 a, .int .i64 b, .int .i64 c, .int .i64 d, .int .i64 p, .int .i64 q, .int .i64 s, .int .i64 t], .int .i64 0] w fun e w' => MeetPost b0 bs ss ⟨a, b, c, d, p, q, s, t⟩ w e w' := by
  have hs : c = 1 ∨ c = 2 := by
    have h := (ord.chk_zero (come_zero hC).2.1).1
    simp [ord.headB] at h
    omega
  rcases hs with rfl | rfl
  · exact rmeet_buy b0 q1 q2 n1 n2 c1 c2 bs ss a b d p q s t w hb0 h1 h2 hC
  · exact rmeet_sell b0 q1 q2 n1 n2 c1 c2 bs ss a b d p q s t w hb0 h1 h2 hC
end Go.Proofs.YtalhdjlopkdnbaaGreatDoor.mee
namespace Go.Proofs.YtalhdjlopkdnbaaGreatDoor.mee
open Go.RowKit Go.Proofs.YtalhdjlopkdnbaaGreatDoor.spn Go.Proofs.YtalhdjlopkdnbaaGreatDoor.que Go.Proofs.YtalhdjlopkdnbaaGreatDoor.sid Go.Proofs.YtalhdjlopkdnbaaGreatDoor.bok
open Go.Proofs.YtalhdjlopkdnbaaGreatDoor.ord (O oV mB mE chk meets_any)

theorem trades_none (p q : Option Addr) (c d : Nat) (w : World) :
    Calls Tryz.prog 28 #[.slice p 0 c, .slice q 0 d] w fun e w' => e = .returned (.bool true) ∧ Below w.heap.size w w' := by
  go_enter Tryz.func28, Tryz.ntmps28
  go_wp2_with fail
  go_loopg [5] 0 (fun _ s5 wr => s5 = .int .i64 0 ∧ wr = w)
  case atStart => exact ⟨rfl, rfl⟩
  case round =>
    obtain ⟨rfl, rfl⟩ := hrel
    go_wp2_with fail
    go_ret
    exact ⟨rfl, Below.refl _ _⟩

set_option maxRecDepth 100000 in
set_option maxHeartbeats 1000000 in
theorem trades_same (q1 q2 : Option Addr) (n1 n2 c1 c2 B1 B2 : Nat) (ts : List T) (w : World) (hn : ts.length ≤ 9223372036854775807) (h1 : OwnT w B1 (.slice q1 n1 c1) ts) (h2 : OwnT w B2 (.slice q2 n2 c2) ts) :
    Calls Tryz.prog 28 #[.slice q1 n1 c1, .slice q2 n2 c2] w fun e w' => e = .returned (.bool true) ∧ Below w.heap.size w w' := by
  have e1 : n1 = ts.length := by obtain ⟨q', c', e⟩ := OwnM.form h1; cases e; rfl
  have e2 : n2 = ts.length := by obtain ⟨q', c', e⟩ := OwnM.form h2; cases e; rfl
  subst e1
  subst e2
  by_cases hz : ts = []
  · subst hz
    exact trades_none q1 q2 c1 c2 w
  have hpos : 0 < ts.length := List.length_pos_iff.2 hz
  have HA1 : Hid (∀ k, k < ts.length → ∃ g off, q1 = some ⟨g, off, none⟩ ∧ g < w.heap.size ∧ w.cell? ⟨g, off + k * 6, none⟩ = some (.int .i64 ts[k]!.maker) ∧ w.cell? ⟨g, off + k * 6 + 1, none⟩ = some (.int .i64 ts[k]!.taker) ∧ w.cell? ⟨g, off + k * 6 + 2, none⟩ = some (.int .i64 ts[k]!.frm) ∧ w.cell? ⟨g, off + k * 6 + 3, none⟩ = some (.int .i64 ts[k]!.into) ∧ w.cell? ⟨g, off + k * 6 + 4, none⟩ = some (.int .i64 ts[k]!.price) ∧ w.cell? ⟨g, off + k * 6 + 5, none⟩ = some (.int .i64 ts[k]!.qty)) := fun k hk => OwnT.at h1 hk
  have HA2 : Hid (∀ k, k < ts.length → ∃ g off, q2 = some ⟨g, off, none⟩ ∧ g < w.heap.size ∧ w.cell? ⟨g, off + k * 6, none⟩ = some (.int .i64 ts[k]!.maker) ∧ w.cell? ⟨g, off + k * 6 + 1, none⟩ = some (.int .i64 ts[k]!.taker) ∧ w.cell? ⟨g, off + k * 6 + 2, none⟩ = some (.int .i64 ts[k]!.frm) ∧ w.cell? ⟨g, off + k * 6 + 3, none⟩ = some (.int .i64 ts[k]!.into) ∧ w.cell? ⟨g, off + k * 6 + 4, none⟩ = some (.int .i64 ts[k]!.price) ∧ w.cell? ⟨g, off + k * 6 + 5, none⟩ = some (.int .i64 ts[k]!.qty)) := fun k hk => OwnT.at h2 hk
  obtain ⟨b, o, rfl, hb, -⟩ := HA1.out 0 hpos
  obtain ⟨b', o', rfl, hb', -⟩ := HA2.out 0 hpos
  clear h1 h2 hz hpos
  generalize hN : ts.length = n at *
  go_enter Tryz.func28, Tryz.ntmps28
  go_wp2_with fail
  go_loopg [5] n (fun gg s5 wr => ∃ kk : Nat, kk ≤ n ∧ n - kk ≤ gg ∧ s5 = .int .i64 kk ∧ Aside (Below w.heap.size w wr))
  case atStart => exact ⟨0, Nat.zero_le _, by omega, rfl, Below.refl _ w⟩
  case round =>
    obtain ⟨kk, hkk, hg, rfl, BW⟩ := hrel
    by_cases hlt : kk < n
    · have hltz : (kk : Int) < (n : Int) := by omega
      obtain ⟨g1, o1, ee1, -, a0, a1, a2, a3, a4, a5⟩ := HA1.out kk hlt
      obtain ⟨g2, o2, ee2, -, b0, b1, b2, b3, b4, b5⟩ := HA2.out kk hlt
      cases ee1
      cases ee2
      have c0 := keeps BW.out a0
      have c1' := keeps BW.out a1
      have c2' := keeps BW.out a2
      have c3 := keeps BW.out a3
      have c4 := keeps BW.out a4
      have c5 := keeps BW.out a5
      have d0 := keeps BW.out b0
      have d1 := keeps BW.out b1
      have d2 := keeps BW.out b2
      have d3 := keeps BW.out b3
      have d4 := keeps BW.out b4
      have d5 := keeps BW.out b5
      clear a0 a1 a2 a3 a4 a5 b0 b1 b2 b3 b4 b5
      obtain ⟨r, hr⟩ : ∃ r, ts[kk]! = r := ⟨_, rfl⟩
      rw [hr] at c0 c1' c2' c3 c4 c5 d0 d1 d2 d3 d4 d5
      obtain ⟨r1, r2, r3, r4, r5, r6⟩ := r
      have hin1 : ¬ ((kk : Int) < 0) := by omega
      have e1 := wrapSucc kk n hlt hn
      clear hr hN
      go_wp2_with fail
      go_quiet (fail)
      go_wp2_with fail
      go_roundg (n - (kk + 1))
      case measure => clear e1; omega
      case rel => exact ⟨kk + 1, hlt, Nat.le_refl _, by go_num, below_drewN BW.out _⟩
    · have hltz : ¬ (kk : Int) < (n : Int) := by omega
      go_wp2_with fail
      go_ret
      exact ⟨rfl, BW.out⟩

/-- The trades of Do, no more. -/
def TrPost (bs ss : List L) (o : O) (w : World) (e : Ending) (w' : World) : Prop :=
  (doE bs ss o = 0 → ∃ q n c, e = .returned (.tuple #[.slice q n c, .nilIface]) ∧ OwnT w' w.heap.size (.slice q n c) (metR bs ss o).2.1) ∧
  (¬ doE bs ss o = 0 → e = .returned (.tuple #[.slice none 0 0, errV (doE bs ss o)])) ∧ Below w.heap.size w w'
set_option maxRecDepth 100000 in
set_option maxHeartbeats 4000000 in
theorem trades_any (q1 q2 : Option Addr) (n1 n2 c1 c2 : Nat) (bs ss : List L) (a b c d p q s t : Int) (w : World) (h1 : LS w (.slice q1 n1 c1) bs) (h2 : LS w (.slice q2 n2 c2) ss) :
    Calls Tryz.prog 29 #[.agg #[.slice q1 n1 c1, .slice q2 n2 c2], .agg #[.int .i64 a, .int .i64 b, .int .i64 c, .int .i64 d, .int .i64 p, .int .i64 q, .int .i64 s, .int .i64 t]] w fun e w' => TrPost bs ss ⟨a, b, c, d, p, q, s, t⟩ w e w' := by
  have HDO : Hid (∀ W, Below w.heap.size w W → Calls Tryz.prog 27 #[.agg #[.slice q1 n1 c1, .slice q2 n2 c2], .agg #[.int .i64 a, .int .i64 b, .int .i64 c, .int .i64 d, .int .i64 p, .int .i64 q, .int .i64 s, .int .i64 t]] W fun e w' => DoPost bs ss ⟨a, b, c, d, p, q, s, t⟩ W e w') := fun W hW => do_any q1 q2 n1 n2 c1 c2 bs ss a b c d p q s t W (h1.below hW) (h2.below hW)
  obtain ⟨V, hV⟩ : ∃ V, V = (w.alloc (.cells #[.slice q1 n1 c1, .slice q2 n2 c2] 24)).alloc (.cells #[.int .i64 a, .int .i64 b, .int .i64 c, .int .i64 d, .int .i64 p, .int .i64 q, .int .i64 s, .int .i64 t] 60) := ⟨_, rfl⟩
  have HB : Hid (Below w.heap.size w V) := by rw [hV]; exact ((Below.refl _ _).alloc (Nat.le_refl _) _).alloc (by simp) _
  clear h1 h2
  go_enter Tryz.func29, Tryz.ntmps29
  go_wp2_with fail
  rw [← hV]
  clear hV
  refine (HDO.out V HB.out).mono ?_
  rintro e w1 ⟨i1, i2, b1⟩
  have hW1 : Below w.heap.size w w1 := HB.out.trans (b1.mono HB.out.size)
  by_cases hC : doE bs ss ⟨a, b, c, d, p, q, s, t⟩ = 0
  · obtain ⟨u1, u2, m1, m2, k1, k2, tv, rfl, -, -, hO⟩ := i1 hC
    obtain ⟨tq, tc, rfl⟩ := OwnM.form hO
    have HO : Hid (OwnT w1 V.heap.size (.slice tq (metR bs ss ⟨a, b, c, d, p, q, s, t⟩).2.1.length tc) (metR bs ss ⟨a, b, c, d, p, q, s, t⟩).2.1) := hO
    have HC : Hid (doE bs ss ⟨a, b, c, d, p, q, s, t⟩ = 0) := hC
    clear i1 i2 b1 hO HDO hC
    go_wp2_with fail
    go_ret2
    exact ⟨fun _ => ⟨tq, _, tc, rfl, OwnM.mono (OwnM.below HO.out ((Below.refl _ _).alloc (Nat.le_refl _) _)) HB.out.size⟩, fun h => absurd HC.out h, hW1.alloc hW1.size _⟩
  · have e2 := i2 hC
    subst e2
    rw [errV_of hC]
    have HC : Hid (¬ doE bs ss ⟨a, b, c, d, p, q, s, t⟩ = 0) := hC
    clear i1 i2 b1 HDO hC
    go_wp2_with fail
    go_ret2
    exact ⟨fun h => absurd h HC.out, fun _ => by rw [errV_of HC.out]; rfl, hW1.alloc hW1.size _⟩
end Go.Proofs.YtalhdjlopkdnbaaGreatDoor.mee
namespace Go.Proofs.YtalhdjlopkdnbaaGreatDoor.sid
open Go.RowKit Go.Proofs.YtalhdjlopkdnbaaGreatDoor.spn Go.Proofs.YtalhdjlopkdnbaaGreatDoor.que

theorem rests_same' (va vb : Value) (zs : List R) (w : World) (ha : SLe w va zs) (hb : SLe w vb zs) :
    Calls Tryz.prog 86 #[va, vb] w fun e w' => e = .returned (.bool true) ∧ Below w.heap.size w w' := by
  by_cases hz : zs = []
  · obtain ⟨p, c, h1⟩ := sl_form ha
    obtain ⟨q, d, h2⟩ := sl_form hb
    subst hz
    subst h1
    subst h2
    exact rests_none p q c d w
  · exact rests_same va vb zs w (ha.sl hz) (hb.sl hz)
theorem levels_none (p q : Option Addr) (c d : Nat) (w : World) :
    Calls Tryz.prog 54 #[.slice p 0 c, .slice q 0 d] w fun e w' => e = .returned (.bool true) ∧ Below w.heap.size w w' := by
  go_enter Tryz.func54, Tryz.ntmps54
  go_wp2_with fail
  go_loopg [5, 6] 0 (fun _ s5 _ wr => s5 = .int .i64 0 ∧ wr = w)
  case atStart => exact ⟨rfl, rfl⟩
  case round =>
    obtain ⟨rfl, rfl⟩ := hrel
    go_wp2_with fail
    go_ret
    exact ⟨rfl, Below.refl _ _⟩

set_option maxRecDepth 100000 in
set_option maxHeartbeats 2000000 in
theorem levels_some (b o c b' o' c' : Nat) (ls : List L) (w : World) (hb : b < w.heap.size) (hb' : b' < w.heap.size) (hn : ls.length ≤ 9223372036854775807) (hl : LL w b o ls) (hl' : LL w b' o' ls) :
    Calls Tryz.prog 54 #[.slice (some ⟨b, o, none⟩) ls.length c, .slice (some ⟨b', o', none⟩) ls.length c'] w fun e w' => e = .returned (.bool true) ∧ Below w.heap.size w w' := by
  have HL : Hid (LL w b o ls ∧ LL w b' o' ls) := ⟨hl, hl'⟩
  clear hl hl'
  generalize hN : ls.length = n at *
  have HN : Hid (ls.length = n) := hN
  clear hN
  go_enter Tryz.func54, Tryz.ntmps54
  go_wp2_with fail
  go_loopg [5, 6] n (fun gg s5 _ wr => ∃ kk : Nat, kk ≤ n ∧ n - kk ≤ gg ∧ s5 = .int .i64 kk ∧ Aside (Below w.heap.size w wr))
  case atStart => exact ⟨0, Nat.zero_le _, by omega, rfl, Below.refl _ w⟩
  case round =>
    obtain ⟨kk, hkk, hg, rfl, BW⟩ := hrel
    by_cases hlt : kk < n
    · have hltz : (kk : Int) < (n : Int) := by omega
      have hlz : kk < ls.length := by rw [HN.out]; exact hlt
      obtain ⟨r, hr⟩ : ∃ r, ls[kk]! = r := ⟨_, rfl⟩
      obtain ⟨p, zs⟩ := r
      obtain ⟨q, cc, a0, a1, hs⟩ := (HL.out.1.below hb BW.out).at hlz hr
      obtain ⟨q', cc', b0, b1, hs'⟩ := (HL.out.2.below hb' BW.out).at hlz hr
      have hin1 : ¬ ((kk : Int) < 0) := by omega
      have hin2 : (0 : Int) ≤ (kk : Int) := by omega
      have HE1 : Hid (wrap64 ((kk : Int) + 1) = ((kk + 1 : Nat) : Int)) := wrapSucc kk n hlt hn
      have HRS : Hid (∀ W, Below wr.heap.size wr W → Calls Tryz.prog 86 #[.slice q zs.length cc, .slice q' zs.length cc'] W fun e w' => e = .returned (.bool true) ∧ Below wr.heap.size wr w') := fun W hW => (rests_same' _ _ zs W (hs.below hW) (hs'.below hW)).mono fun e w' h => ⟨h.1, hW.trans (h.2.mono hW.size)⟩
      clear hr hs hs'
      generalize zs.length = zn at *
      have SO : Hid (∀ W, Below wr.heap.size wr W → (Below wr.heap.size wr W ∧ W.cell? ⟨b, o + kk * 2 + 1, none⟩ = some (.slice q zn cc) ∧ W.cell? ⟨b', o' + kk * 2 + 1, none⟩ = some (.slice q' zn cc'))) := fun W hW => ⟨hW, keeps hW a1, keeps hW b1⟩
      go_upto_region 6 with fail
      go_region_held3 (fun W => Below wr.heap.size wr W ∧ W.cell? ⟨b, o + kk * 2 + 1, none⟩ = some (.slice q zn cc) ∧ W.cell? ⟨b', o' + kk * 2 + 1, none⟩ = some (.slice q' zn cc'))
        ((refine SO.out _ ?_; (repeat' (first | with_reducible assumption | with_reducible refine bal ?_ _ | with_reducible refine Below.setCell ?_ ?_ _ | with_reducible refine Below.drew ?_ | with_reducible exact Below.refl _ _ | with_reducible exact Nat.le_refl _ | with_reducible exact Below.size (by with_reducible assumption) | with_reducible refine Nat.le_succ_of_le ?_))))
        (first | (go_at_call 86; refine (HRS.out _ ?_).mono ?_; (repeat' (first | with_reducible assumption | with_reducible refine bal ?_ _ | with_reducible refine Below.setCell ?_ ?_ _ | with_reducible refine Below.drew ?_ | with_reducible exact Below.refl _ _ | with_reducible exact Nat.le_refl _ | with_reducible exact Below.size (by with_reducible assumption) | with_reducible refine Nat.le_succ_of_le ?_)); rintro x W ⟨rfl, hbn⟩))
      have HW : Hid (Below w.heap.size w W) := BW.out.trans (hbn.mono BW.out.size)
      have c0 := keeps hbn a0
      have c1 := keeps hbn b0
      have hbW : b < W.heap.size := Nat.lt_of_lt_of_le hb HW.out.size
      have hbW' : b' < W.heap.size := Nat.lt_of_lt_of_le hb' HW.out.size
      have e1 := HE1.out
      clear SO HRS hbn a0 a1 b0 b1
      go_upto_region 7 with fail
      go_quiet (fail)
      go_wp2_with fail
      go_roundg (n - (kk + 1))
      case measure => clear e1; omega
      case rel => exact ⟨kk + 1, hlt, Nat.le_refl _, by go_num, below_drewN HW.out _⟩
    · have hltz : ¬ (kk : Int) < (n : Int) := by omega
      go_wp2_with fail
      go_ret
      exact ⟨rfl, BW.out⟩

theorem levels_same (va vb : Value) (ls : List L) (w : World) (ha : LS w va ls) (hb : LS w vb ls) :
    Calls Tryz.prog 54 #[va, vb] w fun e w' => e = .returned (.bool true) ∧ Below w.heap.size w w' := by
  rcases ha with ⟨rfl, rfl⟩ | ⟨b, o, c, rfl, h2, h3, h4, h5⟩
  · rcases hb with ⟨rfl, -⟩ | ⟨b', o', c', rfl, -, -, -, -⟩
    · exact levels_none none none 0 0 w
    · exact levels_none none (some ⟨b', o', none⟩) 0 c' w
  · rcases hb with ⟨rfl, rfl⟩ | ⟨b', o', c', rfl, -, -, i4, i5⟩
    · exact levels_none (some ⟨b, o, none⟩) none c 0 w
    · exact levels_some b o c b' o' c' ls w h4 i4 (by omega) h5 i5
end Go.Proofs.YtalhdjlopkdnbaaGreatDoor.sid
