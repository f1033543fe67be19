/- Contracts over this seat's translation: pitsame.Levels at two sides that are the same. Contracts over this seat's translation: pitsame.Book at two that are the same. Trades of the call's own, place by place. -/
import Derived.Test.YtjphhieloicdeaaSidDeep
import Derived.Test.YtjphhieloicdeaaSwpPlace
import Derived.Deep.RegionHeld3
import Derived.Test.YtjphhieloicdeaaBokChk
import Derived.Test.YtjphhieloicdeaaMeeLvl
namespace Go.Proofs.Ytjphhieloicdeaa.sid
open Go.RowKit Go.Proofs.Ytjphhieloicdeaa.spn Go.Proofs.Ytjphhieloicdeaa.que

theorem rests_same' (va vb : Value) (zs : List R) (w : World) (ha : SLe w va zs) (hb : SLe w vb zs) :
    Calls Try.prog 48 #[va, vb] w fun e w' => e = .returned (.bool true) ∧ Below w.heap.size w w' := by
  by_cases hz : zs = []
  · obtain ⟨p, c, h1⟩ := sl_form ha
    obtain ⟨q, d, h2⟩ := sl_form hb
    subst hz
    subst h1
    subst h2
    exact rests_none p q c d w
  · exact rests_same va vb zs w (ha.sl hz) (hb.sl hz)
theorem levels_none (p q : Option Addr) (c d : Nat) (w : World) :
    Calls Try.prog 29 #[.slice p 0 c, .slice q 0 d] w fun e w' => e = .returned (.bool true) ∧ Below w.heap.size w w' := by
  go_enter Try.func29, Try.ntmps29
  go_wp2_with fail
  go_loopg [5, 6] 0 (fun _ s5 _ wr => s5 = .int .i64 0 ∧ wr = w)
  case atStart => exact ⟨rfl, rfl⟩
  case round =>
    obtain ⟨rfl, rfl⟩ := hrel
    go_wp2_with fail
    go_ret
    exact ⟨rfl, Below.refl _ _⟩

set_option maxRecDepth 100000 in
set_option maxHeartbeats 2000000 in
theorem levels_some (b o c b' o' c' : Nat) (ls : List L) (w : World) (hb : b < w.heap.size) (hb' : b' < w.heap.size) (hn : ls.length ≤ 9223372036854775807) (hl : LL w b o ls) (hl' : LL w b' o' ls) :
    Calls Try.prog 29 #[.slice (some ⟨b, o, none⟩) ls.length c, .slice (some ⟨b', o', none⟩) ls.length c'] w fun e w' => e = .returned (.bool true) ∧ Below w.heap.size w w' := by
  have HL : Hid (LL w b o ls ∧ LL w b' o' ls) := ⟨hl, hl'⟩
  clear hl hl'
  generalize hN : ls.length = n at *
  have HN : Hid (ls.length = n) := hN
  clear hN
  go_enter Try.func29, Try.ntmps29
  go_wp2_with fail
  go_loopg [5, 6] n (fun gg s5 _ wr => ∃ kk : Nat, kk ≤ n ∧ n - kk ≤ gg ∧ s5 = .int .i64 kk ∧ Aside (Below w.heap.size w wr))
  case atStart => exact ⟨0, Nat.zero_le _, by omega, rfl, Below.refl _ w⟩
  case round =>
    obtain ⟨kk, hkk, hg, rfl, BW⟩ := hrel
    by_cases hlt : kk < n
    · have hltz : (kk : Int) < (n : Int) := by omega
      have hlz : kk < ls.length := by rw [HN.out]; exact hlt
      obtain ⟨r, hr⟩ : ∃ r, ls[kk]! = r := ⟨_, rfl⟩
      obtain ⟨p, zs⟩ := r
      obtain ⟨q, cc, a0, a1, hs⟩ := (HL.out.1.below hb BW.out).at hlz hr
      obtain ⟨q', cc', b0, b1, hs'⟩ := (HL.out.2.below hb' BW.out).at hlz hr
      have hin1 : ¬ ((kk : Int) < 0) := by omega
      have hin2 : (0 : Int) ≤ (kk : Int) := by omega
      have HE1 : Hid (wrap64 ((kk : Int) + 1) = ((kk + 1 : Nat) : Int)) := que.wrapSucc kk n hlt hn
      have HRS : Hid (∀ W, Below wr.heap.size wr W → Calls Try.prog 48 #[.slice q zs.length cc, .slice q' zs.length cc'] W fun e w' => e = .returned (.bool true) ∧ Below wr.heap.size wr w') := fun W hW => (rests_same' _ _ zs W (hs.below hW) (hs'.below hW)).mono fun e w' h => ⟨h.1, hW.trans (h.2.mono hW.size)⟩
      clear hr hs hs'
      generalize zs.length = zn at *
      have SO : Hid (∀ W, Below wr.heap.size wr W → (Below wr.heap.size wr W ∧ W.cell? ⟨b, o + kk * 2 + 1, none⟩ = some (.slice q zn cc) ∧ W.cell? ⟨b', o' + kk * 2 + 1, none⟩ = some (.slice q' zn cc'))) := fun W hW => ⟨hW, keeps hW a1, keeps hW b1⟩
      go_upto_region 6 with fail
      go_region_held3 (fun W => Below wr.heap.size wr W ∧ W.cell? ⟨b, o + kk * 2 + 1, none⟩ = some (.slice q zn cc) ∧ W.cell? ⟨b', o' + kk * 2 + 1, none⟩ = some (.slice q' zn cc'))
        ((refine SO.out _ ?_; (repeat' (first | with_reducible assumption | with_reducible refine bal ?_ _ | with_reducible refine Below.setCell ?_ ?_ _ | with_reducible refine Below.drew ?_ | with_reducible exact Below.refl _ _ | with_reducible exact Nat.le_refl _ | with_reducible exact Below.size (by with_reducible assumption) | with_reducible refine Nat.le_succ_of_le ?_))))
        (first | (go_at_call 48; refine (HRS.out _ ?_).mono ?_; (repeat' (first | with_reducible assumption | with_reducible refine bal ?_ _ | with_reducible refine Below.setCell ?_ ?_ _ | with_reducible refine Below.drew ?_ | with_reducible exact Below.refl _ _ | with_reducible exact Nat.le_refl _ | with_reducible exact Below.size (by with_reducible assumption) | with_reducible refine Nat.le_succ_of_le ?_)); rintro x W ⟨rfl, hbn⟩))
      have HW : Hid (Below w.heap.size w W) := BW.out.trans (hbn.mono BW.out.size)
      have c0 := keeps hbn a0
      have c1 := keeps hbn b0
      have hbW : b < W.heap.size := Nat.lt_of_lt_of_le hb HW.out.size
      have hbW' : b' < W.heap.size := Nat.lt_of_lt_of_le hb' HW.out.size
      have e1 := HE1.out
      clear SO HRS hbn a0 a1 b0 b1
      go_upto_region 7 with fail
      go_quiet (fail)
      go_wp2_with fail
      go_roundg (n - (kk + 1))
      case measure => clear e1; omega
      case rel => exact ⟨kk + 1, hlt, Nat.le_refl _, by go_num, below_drewN HW.out _⟩
    · have hltz : ¬ (kk : Int) < (n : Int) := by omega
      go_wp2_with fail
      go_ret
      exact ⟨rfl, BW.out⟩

theorem levels_same (va vb : Value) (ls : List L) (w : World) (ha : LS w va ls) (hb : LS w vb ls) :
    Calls Try.prog 29 #[va, vb] w fun e w' => e = .returned (.bool true) ∧ Below w.heap.size w w' := by
  rcases ha with ⟨rfl, rfl⟩ | ⟨b, o, c, rfl, h2, h3, h4, h5⟩
  · rcases hb with ⟨rfl, -⟩ | ⟨b', o', c', rfl, -, -, -, -⟩
    · exact levels_none none none 0 0 w
    · exact levels_none none (some ⟨b', o', none⟩) 0 c' w
  · rcases hb with ⟨rfl, rfl⟩ | ⟨b', o', c', rfl, -, -, i4, i5⟩
    · exact levels_none (some ⟨b, o, none⟩) none c 0 w
    · exact levels_some b o c b' o' c' ls w h4 i4 (by omega) h5 i5
end Go.Proofs.Ytjphhieloicdeaa.sid
namespace Go.Proofs.Ytjphhieloicdeaa.bok
open Go.RowKit Go.Proofs.Ytjphhieloicdeaa.spn Go.Proofs.Ytjphhieloicdeaa.que Go.Proofs.Ytjphhieloicdeaa.sid

set_option maxRecDepth 100000 in
set_option maxHeartbeats 2000000 in
theorem book_same (q1 q2 p1 p2 : Option Addr) (n1 n2 c1 c2 m1 m2 d1 d2 : Nat) (bs ss : List L) (w : World) (h1 : LS w (.slice q1 n1 c1) bs) (h2 : LS w (.slice q2 n2 c2) ss) (g1 : LS w (.slice p1 m1 d1) bs) (g2 : LS w (.slice p2 m2 d2) ss) :
    Calls Try.prog 10 #[.agg #[.slice q1 n1 c1, .slice q2 n2 c2], .agg #[.slice p1 m1 d1, .slice p2 m2 d2]] w fun e w' => e = .returned (.bool true) ∧ Below w.heap.size w w' := by
  have HL1 : Hid (∀ W, Below w.heap.size w W → Calls Try.prog 29 #[.slice q1 n1 c1, .slice p1 m1 d1] W fun e w' => e = .returned (.bool true) ∧ Below W.heap.size W w') := fun W hW => levels_same _ _ bs W (h1.below hW) (g1.below hW)
  have HL2 : Hid (∀ W, Below w.heap.size w W → Calls Try.prog 29 #[.slice q2 n2 c2, .slice p2 m2 d2] W fun e w' => e = .returned (.bool true) ∧ Below W.heap.size W w') := fun W hW => levels_same _ _ ss W (h2.below hW) (g2.below hW)
  obtain ⟨V, hV⟩ : ∃ V, V = (w.alloc (.cells #[.slice q1 n1 c1, .slice q2 n2 c2] 24)).alloc (.cells #[.slice p1 m1 d1, .slice p2 m2 d2] 24) := ⟨_, rfl⟩
  have HB : Hid (Below w.heap.size w V) := by rw [hV]; exact ((Below.refl _ _).alloc (Nat.le_refl _) _).alloc (by simp) _
  have v0 : V.cell? ⟨w.heap.size, 1, none⟩ = some (.slice q2 n2 c2) := by rw [hV]; simp [go_sem]
  have v1 : V.cell? ⟨w.heap.size + 1, 1, none⟩ = some (.slice p2 m2 d2) := by rw [hV]; simp [go_sem]
  have hVs : w.heap.size + 1 < V.heap.size := by rw [hV]; simp
  clear h1 h2 g1 g2
  go_enter Try.func10, Try.ntmps10
  go_wp2_with fail
  rw [← hV]
  refine (HL1.out V HB.out).mono ?_
  rintro e w1 ⟨rfl, b1⟩
  have HB1 : Hid (Below w.heap.size w w1) := HB.out.trans (b1.mono HB.out.size)
  have x0 := keeps b1 v0
  have x1 := keeps b1 v1
  have hs1 : w.heap.size + 1 < w1.heap.size := Nat.lt_of_lt_of_le hVs b1.size
  clear b1 v0 v1 HL1
  go_wp2_with fail
  refine (HL2.out w1 HB1.out).mono ?_
  rintro e w2 ⟨rfl, b2⟩
  have HB2 : Hid (Below w.heap.size w w2) := HB1.out.trans (b2.mono HB1.out.size)
  clear b2 x0 x1 HL2
  go_wp2_with fail
  go_ret
  exact ⟨rfl, HB2.out⟩
end Go.Proofs.Ytjphhieloicdeaa.bok
namespace Go.Proofs.Ytjphhieloicdeaa.mee
open Go.RowKit Go.Proofs.Ytjphhieloicdeaa.spn Go.Proofs.Ytjphhieloicdeaa.que Go.Proofs.Ytjphhieloicdeaa.sid

theorem flatT_get (ts : List T) : ∀ j, j < ts.length → ∀ i, i < 6 → (flatT ts)[j * 6 + i]? = (tV ts[j]!)[i]? := by
  induction ts with
  | nil => intro j hj; simp at hj
  | cons r t ih =>
    intro j hj i hi
    have e : flatT (r :: t) = tV r ++ flatT t := rfl
    rw [e]
    cases j with
    | zero => rw [Nat.zero_mul, Nat.zero_add, List.getElem?_append_left (by show i < 6; exact hi)]; rfl
    | succ j =>
      rw [List.getElem?_append_right (by show 6 ≤ _; omega)]
      have : (j + 1) * 6 + i - (tV r).length = j * 6 + i := by show (j + 1) * 6 + i - 6 = _; omega
      rw [this, ih j (by simpa using hj) i hi]
      rfl
/-- Trades of the call's own, place by place. -/
theorem OwnT.at {w : World} {base : Nat} {q : Option Addr} {n c : Nat} {ts : List T} (h : OwnT w base (.slice q n c) ts) {k : Nat} (hk : k < ts.length) : ∃ g off, q = some ⟨g, off, none⟩ ∧ g < w.heap.size ∧ w.cell? ⟨g, off + k * 6, none⟩ = some (.int .i64 ts[k]!.maker) ∧ w.cell? ⟨g, off + k * 6 + 1, none⟩ = some (.int .i64 ts[k]!.taker) ∧ w.cell? ⟨g, off + k * 6 + 2, none⟩ = some (.int .i64 ts[k]!.frm) ∧ w.cell? ⟨g, off + k * 6 + 3, none⟩ = some (.int .i64 ts[k]!.into) ∧ w.cell? ⟨g, off + k * 6 + 4, none⟩ = some (.int .i64 ts[k]!.price) ∧ w.cell? ⟨g, off + k * 6 + 5, none⟩ = some (.int .i64 ts[k]!.qty) := by
  have hn : n = ts.length := by obtain ⟨q', c', e⟩ := OwnM.form h; cases e; rfl
  subst hn
  cases q with
  | none =>
    rcases h.2 with ⟨e, hn⟩ | ⟨g, off, cap, cur, e, _⟩
    · rw [hn] at hk; exact absurd hk (Nat.not_lt_zero _)
    · cases e
  | some a =>
    rcases h.2 with ⟨e, hn⟩ | ⟨g, off, cap, cur, e, _⟩
    · cases e
    · cases e
      obtain ⟨hc, -, -, hlt⟩ := OwnM.cells h
      have hh : ∀ i u, i < 6 → (tV ts[k]!)[i]? = some u → w.cell? ⟨g, off + (k * 6 + i), none⟩ = some u := fun i u hi hu => hc (k * 6 + i) u (by rw [flatT_get ts k hk i hi]; exact hu)
      exact ⟨g, off, rfl, hlt, hh 0 _ (by omega) rfl, hh 1 _ (by omega) rfl, hh 2 _ (by omega) rfl, hh 3 _ (by omega) rfl, hh 4 _ (by omega) rfl, hh 5 _ (by omega) rfl⟩

end Go.Proofs.Ytjphhieloicdeaa.mee
