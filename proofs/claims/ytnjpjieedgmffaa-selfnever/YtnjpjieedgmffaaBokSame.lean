/- Contracts over this seat's translation: pitsame.Rests at two queues that are the same. Contracts over this seat's translation: the document's Of and Flat; pitsame.Trades at two that are the same. Contracts over this seat's translation: pitsame.Levels at two sides that are the same. Contracts over this seat's translation: pitsame.Book at two that are the same. -/
import Derived.Test.YtnjpjieedgmffaaQueChk
import Derived.Deep.QuietTactic
import Derived.BigQuiet
import Derived.Test.YtnjpjieedgmffaaMeeOwn
import Derived.Test.YtnjpjieedgmffaaSidPut
import Derived.Test.YtnjpjieedgmffaaQueCat
import Derived.Test.YtnjpjieedgmffaaSidDeep
import Derived.Deep.RegionHeld3
import Derived.Test.YtnjpjieedgmffaaBokChk
namespace Go.Proofs.Ytnjpjieedgmffaa.que
open Go.RowKit Go.Proofs.Ytnjpjieedgmffaa.spn

theorem wrapSucc (k n : Nat) (h : k < n) (hn : n ≤ 9223372036854775807) : wrap64 ((k : Int) + 1) = ((k + 1 : Nat) : Int) := by unfold wrap64; omega

theorem below_drewN {B : Nat} {a w : World} (h : Below B a w) (n : Nat) : Below B a (w.drewN n) := ⟨h.os, h.tape, h.output, h.size, h.block⟩

theorem rests_none (p q : Option Addr) (c d : Nat) (w : World) :
    Calls Try.prog 31 #[.slice p 0 c, .slice q 0 d] w fun e w' => e = .returned (.bool true) ∧ Below w.heap.size w w' := by
  go_enter Try.func31, Try.ntmps31
  go_wp2_with fail
  go_loopg [5] 0 (fun _ s5 wr => s5 = .int .i64 0 ∧ wr = w)
  case atStart => exact ⟨rfl, rfl⟩
  case round =>
    obtain ⟨rfl, rfl⟩ := hrel
    go_wp2_with fail
    go_ret
    exact ⟨rfl, Below.refl _ _⟩

set_option maxRecDepth 100000 in
set_option maxHeartbeats 1000000 in
theorem rests_some (b o c b' o' c' : Nat) (zs : List R) (w : World) (hb : b < w.heap.size) (hb' : b' < w.heap.size) (hn : zs.length ≤ 9223372036854775807) (hl : Lies w b o zs) (hl' : Lies w b' o' zs) :
    Calls Try.prog 31 #[.slice (some ⟨b, o, none⟩) zs.length c, .slice (some ⟨b', o', none⟩) zs.length c'] w fun e w' => e = .returned (.bool true) ∧ Below w.heap.size w w' := by
  have HL : Hid (Lies w b o zs ∧ Lies w b' o' zs) := ⟨hl, hl'⟩
  clear hl hl'
  generalize hN : zs.length = n at *
  have HN : Hid (zs.length = n) := hN
  clear hN
  go_enter Try.func31, Try.ntmps31
  go_wp2_with fail
  go_loopg [5] n (fun gg s5 wr => ∃ kk : Nat, kk ≤ n ∧ n - kk ≤ gg ∧ s5 = .int .i64 kk ∧ Aside (Below w.heap.size w wr))
  case atStart => exact ⟨0, Nat.zero_le _, by omega, rfl, Below.refl _ w⟩
  case round =>
    obtain ⟨kk, hkk, hg, rfl, BW⟩ := hrel
    by_cases hlt : kk < n
    · have hltz : (kk : Int) < (n : Int) := by omega
      have hlz : kk < zs.length := by rw [HN.out]; exact hlt
      obtain ⟨r, hr⟩ : ∃ r, zs[kk]! = r := ⟨_, rfl⟩
      obtain ⟨r1, r2, r3, r4, r5⟩ := r
      obtain ⟨c0, c1, c2, c3, c4⟩ := lies_at (HL.out.1.below hb BW.out) hlz hr
      obtain ⟨d0, d1, d2, d3, d4⟩ := lies_at (HL.out.2.below hb' BW.out) hlz hr
      have hin1 : ¬ ((kk : Int) < 0) := by omega
      have e1 := wrapSucc kk n hlt hn
      clear hr
      go_wp2_with fail
      go_quiet (fail)
      go_wp2_with fail
      go_roundg (n - (kk + 1))
      case measure => clear e1; omega
      case rel => exact ⟨kk + 1, hlt, Nat.le_refl _, by go_num, below_drewN BW.out _⟩
    · have hltz : ¬ (kk : Int) < (n : Int) := by omega
      go_wp2_with fail
      go_ret
      exact ⟨rfl, BW.out⟩

theorem rests_same (va vb : Value) (zs : List R) (w : World) (ha : SL w va zs) (hb : SL w vb zs) :
    Calls Try.prog 31 #[va, vb] w fun e w' => e = .returned (.bool true) ∧ Below w.heap.size w w' := by
  rcases ha with ⟨rfl, rfl⟩ | ⟨b, o, c, rfl, h2, h3, h4, h5⟩
  · rcases hb with ⟨rfl, -⟩ | ⟨b', o', c', rfl, -, -, -, -⟩
    · exact rests_none none none 0 0 w
    · exact rests_none none (some ⟨b', o', none⟩) 0 c' w
  · rcases hb with ⟨rfl, rfl⟩ | ⟨b', o', c', rfl, -, -, i4, i5⟩
    · exact rests_none (some ⟨b, o, none⟩) none c 0 w
    · exact rests_some b o c b' o' c' zs w h4 i4 (by omega) h5 i5

end Go.Proofs.Ytnjpjieedgmffaa.que
namespace Go.Proofs.Ytnjpjieedgmffaa.slf
open Go.RowKit Go.Proofs.Ytnjpjieedgmffaa.spn Go.Proofs.Ytnjpjieedgmffaa.que Go.Proofs.Ytnjpjieedgmffaa.sid Go.Proofs.Ytnjpjieedgmffaa.bok Go.Proofs.Ytnjpjieedgmffaa.mee

theorem allR_take {ls : List L} {k : Nat} (hk : k < ls.length) : allR (ls.take (k + 1)) = allR (ls.take k) ++ ls[k]!.rests := by
  unfold allR; rw [ltake_at hk, List.flatMap_append]; simp
theorem allR_lenZ (ls : List L) : ((allR ls).length : Int) = cnt ls := by
  induction ls with
  | nil => rfl
  | cons x t ih =>
    have e : allR (x :: t) = x.rests ++ allR t := rfl
    rw [e, List.length_append]; simp only [cnt]; omega
theorem allR_le (ls : List L) (k : Nat) : (allR (ls.take k)).length ≤ (allR ls).length := by
  have e : allR ls = allR (ls.take k) ++ allR (ls.drop k) := by unfold allR; rw [← List.flatMap_append, List.take_append_drop]
  rw [e, List.length_append]; omega
theorem run_append_zero {P : Program} (w : World) (base : Nat) (t ty e : TypeId) (i : TypeInfo) (size : Nat) (ht : P.underlying t = some (.slice e)) (hi : P.info? e = some i)
    (v : Value) (n : Nat) (xs : List Value) (hown : OwnM w base e size v n xs) (q : Option Addr) (c : Nat) : (Builtin.append_ #[t, t] ty #[v, .slice q 0 c]).run P w = .ok v w := by
  rcases hown.2 with ⟨rfl, rfl⟩ | ⟨g, off, cap, cur, rfl, hbg, hg, hnc, hcm, hcs, htake⟩
  · cases q <;> simp [Builtin.append_, run_underlying ht, sizeOf, typeInfo, hi, Builtin.lenOf, Builtin.firstCells, loadCells, loadCellsFrom]
  · cases q <;> simp [Builtin.append_, run_underlying ht, sizeOf, typeInfo, hi, Builtin.lenOf, Builtin.firstCells, hnc, storeCells, loadCells, loadCellsFrom]

set_option maxRecDepth 100000 in
set_option maxHeartbeats 1000000 in
theorem rflat_some (b o c : Nat) (ls : List L) (w : World) (hn8 : ls.length ≤ 9223372036854775807) (hl : LL w b o ls) (h60 : cnt ls ≤ 60) :
    Calls Try.prog 6 #[.slice (some ⟨b, o, none⟩) ls.length c] w fun e w' => ∃ v, e = .returned v ∧ OwnQ w' w.heap.size v (allR ls) ∧ Below w.heap.size w w' := by
  have HLEN : Hid (∀ k, (allR (ls.take k)).length ≤ 60) := fun k => by
    have h1 := allR_le ls k
    have h2 := allR_lenZ ls
    omega
  have HL : Hid (LL w b o ls) := hl
  clear hl h60
  obtain ⟨i0, hi, hz0, hz1, hz2⟩ := infoR'
  have HI : Hid (Try.prog.info? 28 = some i0) := hi
  clear hi
  generalize hn : ls.length = n at *
  have HN : Hid (ls.length = n) := hn
  clear hn
  go_enter Try.func6, Try.ntmps6
  go_wp2_with fail
  go_loopg [3, 4] n (fun gg s3 s4 wr => ∃ kk : Nat, kk ≤ n ∧ n - kk ≤ gg ∧ s4 = .int .i64 kk ∧ Aside (OwnQ wr w.heap.size s3 (allR (ls.take kk))) ∧ Aside (Below w.heap.size w wr))
  case atStart => exact ⟨0, Nat.zero_le _, by omega, rfl, ⟨rfl, .inl ⟨rfl, rfl⟩⟩, Below.refl _ _⟩
  case round =>
    obtain ⟨kk, hkk, hg, rfl, OW, BW⟩ := hrel
    by_cases hlt : kk < n
    · have hltz : (kk : Int) < (n : Int) := by omega
      have hlz : kk < ls.length := by rw [HN.out]; exact hlt
      obtain ⟨r, hr⟩ : ∃ r, ls[kk]! = r := ⟨_, rfl⟩
      obtain ⟨p, zs⟩ := r
      obtain ⟨q, cc, a0, a1, hs⟩ := HL.out.at hlz hr
      have c1 := keeps BW.out a1
      have HTK : Hid (allR (ls.take (kk + 1)) = allR (ls.take kk) ++ zs) := by
        have := allR_take hlz
        rw [hr] at this
        exact this
      have hle : (allR (ls.take kk)).length + zs.length ≤ 60 := by
        have := HLEN.out (kk + 1)
        rw [HTK.out, List.length_append] at this
        exact this
      have hin1 : ¬ ((kk : Int) < 0) := by omega
      have hw1 : wrap64 ((kk : Int) + 1) = ((kk + 1 : Nat) : Int) := by unfold wrap64; omega
      have hsw := hs.below BW.out
      clear hr hs a0 a1
      by_cases hz : zs = []
      · subst hz
        have hO2 : Aside (OwnQ wr w.heap.size u3 (allR (ls.take (kk + 1)))) := by
          show OwnQ _ _ _ _
          rw [HTK.out, List.append_nil]
          exact OW.out
        have HR : Hid ((Builtin.append_ #[29, 29] 29 #[u3, .slice q 0 cc]).run Try.prog wr = .ok u3 wr) := run_append_zero wr _ _ _ _ i0 5 Try.underlying29 HI.out _ _ _ OW.out q cc
        rw [List.length_nil] at c1
        clear hle hsw
        go_wp2_with (at_builtin; refine Lib.wpList_append_run _ rfl _ _ _ _ rfl _ _ rfl rfl _ _ HR.out ?_)
        go_roundg (n - (kk + 1))
        case measure => omega
        case rel => exact ⟨kk + 1, by omega, by omega, by go_num, hO2, BW⟩
      rcases hsw.sl hz with ⟨hv, hz'⟩ | ⟨b2, o2, cp, hv, h2, h3, h4, h5⟩
      · exact absurd hz' hz
      · injection hv with v1 v2 v3
        subst v1
        subst v3
        have HF : Hid (∀ j u, (flat zs)[j]? = some u → wr.cell? ((⟨b2, o2, none⟩ : Addr).add j) = some u) := lies_flat h5
        clear h5 hsw
        go_wp2_with (at_builtin; (refine wpList_append_mid _ rfl _ _ 29 rfl w.heap.size 28 i0 zeroR 5 40 Try.underlying29 HI.out hz0 hz1 hz2 rfl u3 _ _ rfl OW.out ⟨b2, o2, none⟩ zs.length cc (flat zs) rfl (flat_len _) HF.out (flat_one _) ?c3 ?c4 ?c5 ?_))
        case c3 => unfold maxLen; omega
        case c4 => omega
        case c5 => exact BW.out.size
        intro v' w' hO' hgr hat
        have hB' : Aside (Below w.heap.size w w') := BW.out.grown hgr BW.out.size (fun k hk => (OwnM.lt OW.out k hk).1)
        have hO2 : Aside (OwnQ w' w.heap.size v' (allR (ls.take (kk + 1)))) := by
          show OwnM _ _ _ _ _ _ _
          rw [HTK.out, List.length_append, flat_append]
          exact hO'
        clear hO' hgr hat HF c1
        go_wp2_with fail
        go_roundg (n - (kk + 1))
        case measure => omega
        case rel => exact ⟨kk + 1, by omega, by omega, by go_num, hO2, hB'⟩
    · have hltz : ¬ (kk : Int) < (n : Int) := by omega
      have hT2 : ls.take kk = ls := List.take_of_length_le (by rw [HN.out]; omega)
      rw [hT2] at OW
      go_wp2_with fail
      go_ret
      exact ⟨_, rfl, OW.out, BW.out⟩
set_option maxRecDepth 100000 in
theorem rflat_nil (w : World) :
    Calls Try.prog 6 #[.slice none 0 0] w fun e w' => e = .returned (.slice none 0 0) ∧ w' = w := by
  go_enter Try.func6, Try.ntmps6
  go_wp2_with fail
  go_loopg [3, 4] 0 (fun gg s3 s4 wr => s3 = .slice none 0 0 ∧ s4 = .int .i64 0 ∧ wr = w)
  case atStart => exact ⟨rfl, rfl, rfl⟩
  case round =>
    obtain ⟨rfl, rfl, rfl⟩ := hrel
    go_wp2_with fail
    go_ret
    exact ⟨rfl, rfl⟩
theorem rflat_any (v : Value) (ls : List L) (w : World) (h : LS w v ls) (h60 : cnt ls ≤ 60) :
    Calls Try.prog 6 #[v] w fun e w' => ∃ u, e = .returned u ∧ OwnQ w' w.heap.size u (allR ls) ∧ Below w.heap.size w w' := by
  rcases h with ⟨rfl, rfl⟩ | ⟨b, o, c, rfl, h2, h3, h4, h5⟩
  · refine (rflat_nil w).mono ?_
    rintro e w' ⟨rfl, rfl⟩
    exact ⟨_, rfl, ⟨rfl, .inl ⟨rfl, rfl⟩⟩, Below.refl _ _⟩
  · exact rflat_some b o c ls w (by omega) h5 h60

theorem rof_any (s : Int) (q1 q2 : Option Addr) (n1 n2 c1 c2 : Nat) (w : World) :
    Calls Try.prog 7 #[.agg #[.slice q1 n1 c1, .slice q2 n2 c2], .int .i64 s] w fun e w' => e = .returned (if s = 1 then .slice q1 n1 c1 else .slice q2 n2 c2) ∧ Below w.heap.size w w' := by
  by_cases hs : s = 1
  · rw [if_pos hs]
    subst hs
    go_enter Try.func7, Try.ntmps7
    go_wp2
    go_ret
    exact ⟨rfl, (Below.refl _ _).alloc (Nat.le_refl _) _⟩
  · rw [if_neg hs]
    have h1 : (s == 1) = false := by simpa using hs
    go_enter Try.func7, Try.ntmps7
    go_wp2
    go_ret
    exact ⟨rfl, (Below.refl _ _).alloc (Nat.le_refl _) _⟩

theorem trades_none (p q : Option Addr) (c d : Nat) (w : World) :
    Calls Try.prog 10 #[.slice p 0 c, .slice q 0 d] w fun e w' => e = .returned (.bool true) ∧ Below w.heap.size w w' := by
  go_enter Try.func10, Try.ntmps10
  go_wp2_with fail
  go_loopg [5] 0 (fun _ s5 wr => s5 = .int .i64 0 ∧ wr = w)
  case atStart => exact ⟨rfl, rfl⟩
  case round =>
    obtain ⟨rfl, rfl⟩ := hrel
    go_wp2_with fail
    go_ret
    exact ⟨rfl, Below.refl _ _⟩

set_option maxRecDepth 100000 in
set_option maxHeartbeats 1000000 in
theorem trades_same (q1 q2 : Option Addr) (n1 n2 c1 c2 B1 B2 : Nat) (ts : List T) (w : World) (hn : ts.length ≤ 9223372036854775807) (h1 : OwnT w B1 (.slice q1 n1 c1) ts) (h2 : OwnT w B2 (.slice q2 n2 c2) ts) :
    Calls Try.prog 10 #[.slice q1 n1 c1, .slice q2 n2 c2] w fun e w' => e = .returned (.bool true) ∧ Below w.heap.size w w' := by
  have e1 : n1 = ts.length := by obtain ⟨q', c', e⟩ := OwnM.form h1; cases e; rfl
  have e2 : n2 = ts.length := by obtain ⟨q', c', e⟩ := OwnM.form h2; cases e; rfl
  subst e1
  subst e2
  by_cases hz : ts = []
  · subst hz
    exact trades_none q1 q2 c1 c2 w
  have hpos : 0 < ts.length := List.length_pos_iff.2 hz
  have HA1 : Hid (∀ k, k < ts.length → ∃ g off, q1 = some ⟨g, off, none⟩ ∧ g < w.heap.size ∧ w.cell? ⟨g, off + k * 6, none⟩ = some (.int .i64 ts[k]!.maker) ∧ w.cell? ⟨g, off + k * 6 + 1, none⟩ = some (.int .i64 ts[k]!.taker) ∧ w.cell? ⟨g, off + k * 6 + 2, none⟩ = some (.int .i64 ts[k]!.frm) ∧ w.cell? ⟨g, off + k * 6 + 3, none⟩ = some (.int .i64 ts[k]!.into) ∧ w.cell? ⟨g, off + k * 6 + 4, none⟩ = some (.int .i64 ts[k]!.price) ∧ w.cell? ⟨g, off + k * 6 + 5, none⟩ = some (.int .i64 ts[k]!.qty)) := fun k hk => OwnT.at h1 hk
  have HA2 : Hid (∀ k, k < ts.length → ∃ g off, q2 = some ⟨g, off, none⟩ ∧ g < w.heap.size ∧ w.cell? ⟨g, off + k * 6, none⟩ = some (.int .i64 ts[k]!.maker) ∧ w.cell? ⟨g, off + k * 6 + 1, none⟩ = some (.int .i64 ts[k]!.taker) ∧ w.cell? ⟨g, off + k * 6 + 2, none⟩ = some (.int .i64 ts[k]!.frm) ∧ w.cell? ⟨g, off + k * 6 + 3, none⟩ = some (.int .i64 ts[k]!.into) ∧ w.cell? ⟨g, off + k * 6 + 4, none⟩ = some (.int .i64 ts[k]!.price) ∧ w.cell? ⟨g, off + k * 6 + 5, none⟩ = some (.int .i64 ts[k]!.qty)) := fun k hk => OwnT.at h2 hk
  obtain ⟨b, o, rfl, hb, -⟩ := HA1.out 0 hpos
  obtain ⟨b', o', rfl, hb', -⟩ := HA2.out 0 hpos
  clear h1 h2 hz hpos
  generalize hN : ts.length = n at *
  go_enter Try.func10, Try.ntmps10
  go_wp2_with fail
  go_loopg [5] n (fun gg s5 wr => ∃ kk : Nat, kk ≤ n ∧ n - kk ≤ gg ∧ s5 = .int .i64 kk ∧ Aside (Below w.heap.size w wr))
  case atStart => exact ⟨0, Nat.zero_le _, by omega, rfl, Below.refl _ w⟩
  case round =>
    obtain ⟨kk, hkk, hg, rfl, BW⟩ := hrel
    by_cases hlt : kk < n
    · have hltz : (kk : Int) < (n : Int) := by omega
      obtain ⟨g1, o1, ee1, -, a0, a1, a2, a3, a4, a5⟩ := HA1.out kk hlt
      obtain ⟨g2, o2, ee2, -, b0, b1, b2, b3, b4, b5⟩ := HA2.out kk hlt
      cases ee1
      cases ee2
      have c0 := keeps BW.out a0
      have c1' := keeps BW.out a1
      have c2' := keeps BW.out a2
      have c3 := keeps BW.out a3
      have c4 := keeps BW.out a4
      have c5 := keeps BW.out a5
      have d0 := keeps BW.out b0
      have d1 := keeps BW.out b1
      have d2 := keeps BW.out b2
      have d3 := keeps BW.out b3
      have d4 := keeps BW.out b4
      have d5 := keeps BW.out b5
      clear a0 a1 a2 a3 a4 a5 b0 b1 b2 b3 b4 b5
      obtain ⟨r, hr⟩ : ∃ r, ts[kk]! = r := ⟨_, rfl⟩
      rw [hr] at c0 c1' c2' c3 c4 c5 d0 d1 d2 d3 d4 d5
      obtain ⟨r1, r2, r3, r4, r5, r6⟩ := r
      have hin1 : ¬ ((kk : Int) < 0) := by omega
      have e1 := wrapSucc kk n hlt hn
      clear hr hN
      go_wp2_with fail
      go_quiet (fail)
      go_wp2_with fail
      go_roundg (n - (kk + 1))
      case measure => clear e1; omega
      case rel => exact ⟨kk + 1, hlt, Nat.le_refl _, by go_num, below_drewN BW.out _⟩
    · have hltz : ¬ (kk : Int) < (n : Int) := by omega
      go_wp2_with fail
      go_ret
      exact ⟨rfl, BW.out⟩

end Go.Proofs.Ytnjpjieedgmffaa.slf
namespace Go.Proofs.Ytnjpjieedgmffaa.sid
open Go.RowKit Go.Proofs.Ytnjpjieedgmffaa.spn Go.Proofs.Ytnjpjieedgmffaa.que

theorem rests_same' (va vb : Value) (zs : List R) (w : World) (ha : SLe w va zs) (hb : SLe w vb zs) :
    Calls Try.prog 31 #[va, vb] w fun e w' => e = .returned (.bool true) ∧ Below w.heap.size w w' := by
  by_cases hz : zs = []
  · obtain ⟨p, c, h1⟩ := sl_form ha
    obtain ⟨q, d, h2⟩ := sl_form hb
    subst hz
    subst h1
    subst h2
    exact rests_none p q c d w
  · exact rests_same va vb zs w (ha.sl hz) (hb.sl hz)
theorem levels_none (p q : Option Addr) (c d : Nat) (w : World) :
    Calls Try.prog 18 #[.slice p 0 c, .slice q 0 d] w fun e w' => e = .returned (.bool true) ∧ Below w.heap.size w w' := by
  go_enter Try.func18, Try.ntmps18
  go_wp2_with fail
  go_loopg [5, 6] 0 (fun _ s5 _ wr => s5 = .int .i64 0 ∧ wr = w)
  case atStart => exact ⟨rfl, rfl⟩
  case round =>
    obtain ⟨rfl, rfl⟩ := hrel
    go_wp2_with fail
    go_ret
    exact ⟨rfl, Below.refl _ _⟩

set_option maxRecDepth 100000 in
set_option maxHeartbeats 2000000 in
theorem levels_some (b o c b' o' c' : Nat) (ls : List L) (w : World) (hb : b < w.heap.size) (hb' : b' < w.heap.size) (hn : ls.length ≤ 9223372036854775807) (hl : LL w b o ls) (hl' : LL w b' o' ls) :
    Calls Try.prog 18 #[.slice (some ⟨b, o, none⟩) ls.length c, .slice (some ⟨b', o', none⟩) ls.length c'] w fun e w' => e = .returned (.bool true) ∧ Below w.heap.size w w' := by
  have HL : Hid (LL w b o ls ∧ LL w b' o' ls) := ⟨hl, hl'⟩
  clear hl hl'
  generalize hN : ls.length = n at *
  have HN : Hid (ls.length = n) := hN
  clear hN
  go_enter Try.func18, Try.ntmps18
  go_wp2_with fail
  go_loopg [5, 6] n (fun gg s5 _ wr => ∃ kk : Nat, kk ≤ n ∧ n - kk ≤ gg ∧ s5 = .int .i64 kk ∧ Aside (Below w.heap.size w wr))
  case atStart => exact ⟨0, Nat.zero_le _, by omega, rfl, Below.refl _ w⟩
  case round =>
    obtain ⟨kk, hkk, hg, rfl, BW⟩ := hrel
    by_cases hlt : kk < n
    · have hltz : (kk : Int) < (n : Int) := by omega
      have hlz : kk < ls.length := by rw [HN.out]; exact hlt
      obtain ⟨r, hr⟩ : ∃ r, ls[kk]! = r := ⟨_, rfl⟩
      obtain ⟨p, zs⟩ := r
      obtain ⟨q, cc, a0, a1, hs⟩ := (HL.out.1.below hb BW.out).at hlz hr
      obtain ⟨q', cc', b0, b1, hs'⟩ := (HL.out.2.below hb' BW.out).at hlz hr
      have hin1 : ¬ ((kk : Int) < 0) := by omega
      have hin2 : (0 : Int) ≤ (kk : Int) := by omega
      have HE1 : Hid (wrap64 ((kk : Int) + 1) = ((kk + 1 : Nat) : Int)) := que.wrapSucc kk n hlt hn
      have HRS : Hid (∀ W, Below wr.heap.size wr W → Calls Try.prog 31 #[.slice q zs.length cc, .slice q' zs.length cc'] W fun e w' => e = .returned (.bool true) ∧ Below wr.heap.size wr w') := fun W hW => (rests_same' _ _ zs W (hs.below hW) (hs'.below hW)).mono fun e w' h => ⟨h.1, hW.trans (h.2.mono hW.size)⟩
      clear hr hs hs'
      generalize zs.length = zn at *
      have SO : Hid (∀ W, Below wr.heap.size wr W → (Below wr.heap.size wr W ∧ W.cell? ⟨b, o + kk * 2 + 1, none⟩ = some (.slice q zn cc) ∧ W.cell? ⟨b', o' + kk * 2 + 1, none⟩ = some (.slice q' zn cc'))) := fun W hW => ⟨hW, keeps hW a1, keeps hW b1⟩
      go_upto_region 6 with fail
      go_region_held3 (fun W => Below wr.heap.size wr W ∧ W.cell? ⟨b, o + kk * 2 + 1, none⟩ = some (.slice q zn cc) ∧ W.cell? ⟨b', o' + kk * 2 + 1, none⟩ = some (.slice q' zn cc'))
        ((refine SO.out _ ?_; (repeat' (first | with_reducible assumption | with_reducible refine bal ?_ _ | with_reducible refine Below.setCell ?_ ?_ _ | with_reducible refine Below.drew ?_ | with_reducible exact Below.refl _ _ | with_reducible exact Nat.le_refl _ | with_reducible exact Below.size (by with_reducible assumption) | with_reducible refine Nat.le_succ_of_le ?_))))
        (first | (go_at_call 31; refine (HRS.out _ ?_).mono ?_; (repeat' (first | with_reducible assumption | with_reducible refine bal ?_ _ | with_reducible refine Below.setCell ?_ ?_ _ | with_reducible refine Below.drew ?_ | with_reducible exact Below.refl _ _ | with_reducible exact Nat.le_refl _ | with_reducible exact Below.size (by with_reducible assumption) | with_reducible refine Nat.le_succ_of_le ?_)); rintro x W ⟨rfl, hbn⟩))
      have HW : Hid (Below w.heap.size w W) := BW.out.trans (hbn.mono BW.out.size)
      have c0 := keeps hbn a0
      have c1 := keeps hbn b0
      have hbW : b < W.heap.size := Nat.lt_of_lt_of_le hb HW.out.size
      have hbW' : b' < W.heap.size := Nat.lt_of_lt_of_le hb' HW.out.size
      have e1 := HE1.out
      clear SO HRS hbn a0 a1 b0 b1
      go_upto_region 7 with fail
      go_quiet (fail)
      go_wp2_with fail
      go_roundg (n - (kk + 1))
      case measure => clear e1; omega
      case rel => exact ⟨kk + 1, hlt, Nat.le_refl _, by go_num, below_drewN HW.out _⟩
    · have hltz : ¬ (kk : Int) < (n : Int) := by omega
      go_wp2_with fail
      go_ret
      exact ⟨rfl, BW.out⟩

theorem levels_same (va vb : Value) (ls : List L) (w : World) (ha : LS w va ls) (hb : LS w vb ls) :
    Calls Try.prog 18 #[va, vb] w fun e w' => e = .returned (.bool true) ∧ Below w.heap.size w w' := by
  rcases ha with ⟨rfl, rfl⟩ | ⟨b, o, c, rfl, h2, h3, h4, h5⟩
  · rcases hb with ⟨rfl, -⟩ | ⟨b', o', c', rfl, -, -, -, -⟩
    · exact levels_none none none 0 0 w
    · exact levels_none none (some ⟨b', o', none⟩) 0 c' w
  · rcases hb with ⟨rfl, rfl⟩ | ⟨b', o', c', rfl, -, -, i4, i5⟩
    · exact levels_none (some ⟨b, o, none⟩) none c 0 w
    · exact levels_some b o c b' o' c' ls w h4 i4 (by omega) h5 i5
end Go.Proofs.Ytnjpjieedgmffaa.sid
namespace Go.Proofs.Ytnjpjieedgmffaa.bok
open Go.RowKit Go.Proofs.Ytnjpjieedgmffaa.spn Go.Proofs.Ytnjpjieedgmffaa.que Go.Proofs.Ytnjpjieedgmffaa.sid

set_option maxRecDepth 100000 in
set_option maxHeartbeats 2000000 in
theorem book_same (q1 q2 p1 p2 : Option Addr) (n1 n2 c1 c2 m1 m2 d1 d2 : Nat) (bs ss : List L) (w : World) (h1 : LS w (.slice q1 n1 c1) bs) (h2 : LS w (.slice q2 n2 c2) ss) (g1 : LS w (.slice p1 m1 d1) bs) (g2 : LS w (.slice p2 m2 d2) ss) :
    Calls Try.prog 9 #[.agg #[.slice q1 n1 c1, .slice q2 n2 c2], .agg #[.slice p1 m1 d1, .slice p2 m2 d2]] w fun e w' => e = .returned (.bool true) ∧ Below w.heap.size w w' := by
  have HL1 : Hid (∀ W, Below w.heap.size w W → Calls Try.prog 18 #[.slice q1 n1 c1, .slice p1 m1 d1] W fun e w' => e = .returned (.bool true) ∧ Below W.heap.size W w') := fun W hW => levels_same _ _ bs W (h1.below hW) (g1.below hW)
  have HL2 : Hid (∀ W, Below w.heap.size w W → Calls Try.prog 18 #[.slice q2 n2 c2, .slice p2 m2 d2] W fun e w' => e = .returned (.bool true) ∧ Below W.heap.size W w') := fun W hW => levels_same _ _ ss W (h2.below hW) (g2.below hW)
  obtain ⟨V, hV⟩ : ∃ V, V = (w.alloc (.cells #[.slice q1 n1 c1, .slice q2 n2 c2] 24)).alloc (.cells #[.slice p1 m1 d1, .slice p2 m2 d2] 24) := ⟨_, rfl⟩
  have HB : Hid (Below w.heap.size w V) := by rw [hV]; exact ((Below.refl _ _).alloc (Nat.le_refl _) _).alloc (by simp) _
  have v0 : V.cell? ⟨w.heap.size, 1, none⟩ = some (.slice q2 n2 c2) := by rw [hV]; simp [go_sem]
  have v1 : V.cell? ⟨w.heap.size + 1, 1, none⟩ = some (.slice p2 m2 d2) := by rw [hV]; simp [go_sem]
  have hVs : w.heap.size + 1 < V.heap.size := by rw [hV]; simp
  clear h1 h2 g1 g2
  go_enter Try.func9, Try.ntmps9
  go_wp2_with fail
  rw [← hV]
  refine (HL1.out V HB.out).mono ?_
  rintro e w1 ⟨rfl, b1⟩
  have HB1 : Hid (Below w.heap.size w w1) := HB.out.trans (b1.mono HB.out.size)
  have x0 := keeps b1 v0
  have x1 := keeps b1 v1
  have hs1 : w.heap.size + 1 < w1.heap.size := Nat.lt_of_lt_of_le hVs b1.size
  clear b1 v0 v1 HL1
  go_wp2_with fail
  refine (HL2.out w1 HB1.out).mono ?_
  rintro e w2 ⟨rfl, b2⟩
  have HB2 : Hid (Below w.heap.size w w2) := HB1.out.trans (b2.mono HB1.out.size)
  clear b2 x0 x1 HL2
  go_wp2_with fail
  go_ret
  exact ⟨rfl, HB2.out⟩
end Go.Proofs.Ytnjpjieedgmffaa.bok
