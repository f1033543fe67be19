/- Plain facts: a book of one level with two rests, as it is laid, and with less of its first. Contracts over this seat's translation: pitsame.Rests at two queues that are the same. Contracts over this seat's translation: the document's Rest. Contracts over this seat's translation: the document's Rest, In, Queue and Total. Contracts over this seat's translation: the document's Of; the law's own 'place', at levels none of which is empty. -/
import Derived.Test.YtjphhieloicdeaaSwpDo
import Derived.Test.YtjphhieloicdeaaQueChk
import Derived.Deep.QuietTactic
import Derived.BigQuiet
import Derived.Test.YtjphhieloicdeaaQueRest
import Derived.Test.YtjphhieloicdeaaSwpPure
namespace Go.Proofs.Ytjphhieloicdeaa.swp
open Go.RowKit Go.Proofs.Ytjphhieloicdeaa.spn Go.Proofs.Ytjphhieloicdeaa.que Go.Proofs.Ytjphhieloicdeaa.sid Go.Proofs.Ytjphhieloicdeaa.bok
open Go.Proofs.Ytjphhieloicdeaa.tickP (priceB)

def lsB (q h sh : Int) : List L := [⟨100, [⟨1, 1, q, h, sh⟩, ⟨2, 2, 4, 0, 0⟩]⟩]
theorem ls_base : At (lsB 5 0 0) [] 1 1 100 ⟨1, 1, 5, 0, 0⟩ 0 0 :=
  ⟨lsB 5 0 0, ⟨by decide, by decide, by decide, by decide, .inl ⟨rfl, rfl, by decide, by decide⟩⟩, rfl, rfl⟩
theorem ls_at {q h sh : Int} (hr : rchk ⟨1, 1, q, h, sh⟩ = 0) : At (lsB q h sh) [] 1 1 100 ⟨1, 1, q, h, sh⟩ 0 0 :=
  ls_base.keep (r' := ⟨1, 1, q, h, sh⟩) rfl hr
theorem ls_less (q h sh n : Int) : kB 1 (lsB q h sh) 0 0 (lessR ⟨1, 1, q, h, sh⟩ n) = lsB (min q n) (n - min q n) sh := rfl
theorem ls_none (i k : Nat) (r : R) : kS 1 [] i k r = [] := rfl
theorem price100 : priceB 100 = true := by decide
/-- Two rests of a level as they are laid. -/
theorem two_lay (a b c d e : Int) (w : World) : LS ((w.alloc (.cells #[.int .i64 a, .int .i64 b, .int .i64 c, .int .i64 d, .int .i64 e, .int .i64 2, .int .i64 2, .int .i64 4, .int .i64 0, .int .i64 0] 26)).alloc (.cells #[.int .i64 100, .slice (some ⟨w.heap.size, 0, none⟩) 2 2] 29)) (.slice (some ⟨w.heap.size + 1, 0, none⟩) 1 1) [⟨100, [⟨a, b, c, d, e⟩, ⟨2, 2, 4, 0, 0⟩]⟩] := by
  obtain ⟨w1, h1⟩ : ∃ w1, w1 = w.alloc (.cells #[.int .i64 a, .int .i64 b, .int .i64 c, .int .i64 d, .int .i64 e, .int .i64 2, .int .i64 2, .int .i64 4, .int .i64 0, .int .i64 0] 26) := ⟨_, rfl⟩
  have hs1 : w1.heap.size = w.heap.size + 1 := by rw [h1]; simp
  have hr1 := heap_alloc_new w (.cells #[.int .i64 a, .int .i64 b, .int .i64 c, .int .i64 d, .int .i64 e, .int .i64 2, .int .i64 2, .int .i64 4, .int .i64 0, .int .i64 0] 26)
  rw [← h1] at hr1 ⊢
  obtain ⟨w2, h2⟩ : ∃ w2, w2 = w1.alloc (.cells #[.int .i64 100, .slice (some ⟨w.heap.size, 0, none⟩) 2 2] 29) := ⟨_, rfl⟩
  have hr2 := heap_alloc_new w1 (.cells #[.int .i64 100, .slice (some ⟨w.heap.size, 0, none⟩) 2 2] 29)
  have hB2 : Below w1.heap.size w1 w2 := by rw [h2]; exact (Below.refl _ _).alloc (Nat.le_refl _) _
  rw [← h2] at hr2 ⊢
  have hr1' := (hB2.block w.heap.size (by omega)).trans hr1
  rw [hs1] at hr2
  have hQ : OwnQ w2 0 (.slice (some ⟨w.heap.size, 0, none⟩) 2 2) [⟨a, b, c, d, e⟩, ⟨2, 2, 4, 0, 0⟩] := ⟨rfl, .inr ⟨w.heap.size, 0, 2, _, rfl, Nat.zero_le _, hr1', Nat.le_refl _, by unfold maxLen; omega, by simp, rfl⟩⟩
  have hLv : rlv.OwnQ w2 0 (.slice (some ⟨w.heap.size + 1, 0, none⟩) 1 1) [⟨100, some ⟨w.heap.size, 0, none⟩, 2, 2⟩] := ⟨rfl, .inr ⟨w.heap.size + 1, 0, 1, _, rfl, Nat.zero_le _, hr2, Nat.le_refl _, by unfold maxLen; omega, by simp, rfl⟩⟩
  have h : LS w2 (.slice (some ⟨w.heap.size + 1, 0, none⟩) 1 1) (([(⟨100, some ⟨w.heap.size, 0, none⟩, 2, 2⟩, [⟨a, b, c, d, e⟩, ⟨2, 2, 4, 0, 0⟩])] : List RP).map toL) :=
    Loose.ls ⟨rlv.OwnQ.sl hLv, fun p hp => by simp only [List.mem_singleton] at hp; subst hp; exact .inl (OwnQ.sl hQ)⟩
  exact h
/-- What the loop of SwapLess keeps of its numbers. -/
def LsI (shown q h sh n : Int) : Prop := rchk ⟨1, 1, q, h, sh⟩ = 0 ∧ q ≤ shown ∧ (0 < h → q = shown) ∧ n ≤ q + h
theorem LsI.step {shown q h sh n : Int} (H : LsI shown q h sh n) (h1 : 1 ≤ n) (h2 : n ≤ 100) : rchk ⟨1, 1, min q n, n - min q n, sh⟩ = 0 ∧ LsI shown (min q n) (n - min q n) sh (n - 1) ∧ keepB 100 ⟨1, 1, q, h, sh⟩ 100 n = true ∧ wrap64 (min q n + (n - min q n)) = n ∧ min q n ≤ shown ∧ (0 < n - min q n → min q n = shown) := by
  obtain ⟨a, b, c, d⟩ := H
  have hr : rchk ⟨1, 1, min q n, n - min q n, sh⟩ = 0 := rchk_less a h1 d
  refine ⟨hr, ⟨hr, by omega, by omega, by omega⟩, ?_, by unfold wrap64; omega, by omega, by omega⟩
  unfold keepB
  simp [d]
end Go.Proofs.Ytjphhieloicdeaa.swp
namespace Go.Proofs.Ytjphhieloicdeaa.que
open Go.RowKit Go.Proofs.Ytjphhieloicdeaa.spn

theorem wrapSucc (k n : Nat) (h : k < n) (hn : n ≤ 9223372036854775807) : wrap64 ((k : Int) + 1) = ((k + 1 : Nat) : Int) := by unfold wrap64; omega

theorem below_drewN {B : Nat} {a w : World} (h : Below B a w) (n : Nat) : Below B a (w.drewN n) := ⟨h.os, h.tape, h.output, h.size, h.block⟩

theorem rests_none (p q : Option Addr) (c d : Nat) (w : World) :
    Calls Try.prog 48 #[.slice p 0 c, .slice q 0 d] w fun e w' => e = .returned (.bool true) ∧ Below w.heap.size w w' := by
  go_enter Try.func48, Try.ntmps48
  go_wp2_with fail
  go_loopg [5] 0 (fun _ s5 wr => s5 = .int .i64 0 ∧ wr = w)
  case atStart => exact ⟨rfl, rfl⟩
  case round =>
    obtain ⟨rfl, rfl⟩ := hrel
    go_wp2_with fail
    go_ret
    exact ⟨rfl, Below.refl _ _⟩

set_option maxRecDepth 100000 in
set_option maxHeartbeats 1000000 in
theorem rests_some (b o c b' o' c' : Nat) (zs : List R) (w : World) (hb : b < w.heap.size) (hb' : b' < w.heap.size) (hn : zs.length ≤ 9223372036854775807) (hl : Lies w b o zs) (hl' : Lies w b' o' zs) :
    Calls Try.prog 48 #[.slice (some ⟨b, o, none⟩) zs.length c, .slice (some ⟨b', o', none⟩) zs.length c'] w fun e w' => e = .returned (.bool true) ∧ Below w.heap.size w w' := by
  have HL : Hid (Lies w b o zs ∧ Lies w b' o' zs) := ⟨hl, hl'⟩
  clear hl hl'
  generalize hN : zs.length = n at *
  have HN : Hid (zs.length = n) := hN
  clear hN
  go_enter Try.func48, Try.ntmps48
  go_wp2_with fail
  go_loopg [5] n (fun gg s5 wr => ∃ kk : Nat, kk ≤ n ∧ n - kk ≤ gg ∧ s5 = .int .i64 kk ∧ Aside (Below w.heap.size w wr))
  case atStart => exact ⟨0, Nat.zero_le _, by omega, rfl, Below.refl _ w⟩
  case round =>
    obtain ⟨kk, hkk, hg, rfl, BW⟩ := hrel
    by_cases hlt : kk < n
    · have hltz : (kk : Int) < (n : Int) := by omega
      have hlz : kk < zs.length := by rw [HN.out]; exact hlt
      obtain ⟨r, hr⟩ : ∃ r, zs[kk]! = r := ⟨_, rfl⟩
      obtain ⟨r1, r2, r3, r4, r5⟩ := r
      obtain ⟨c0, c1, c2, c3, c4⟩ := lies_at (HL.out.1.below hb BW.out) hlz hr
      obtain ⟨d0, d1, d2, d3, d4⟩ := lies_at (HL.out.2.below hb' BW.out) hlz hr
      have hin1 : ¬ ((kk : Int) < 0) := by omega
      have e1 := wrapSucc kk n hlt hn
      clear hr
      go_wp2_with fail
      go_quiet (fail)
      go_wp2_with fail
      go_roundg (n - (kk + 1))
      case measure => clear e1; omega
      case rel => exact ⟨kk + 1, hlt, Nat.le_refl _, by go_num, below_drewN BW.out _⟩
    · have hltz : ¬ (kk : Int) < (n : Int) := by omega
      go_wp2_with fail
      go_ret
      exact ⟨rfl, BW.out⟩

theorem rests_same (va vb : Value) (zs : List R) (w : World) (ha : SL w va zs) (hb : SL w vb zs) :
    Calls Try.prog 48 #[va, vb] w fun e w' => e = .returned (.bool true) ∧ Below w.heap.size w w' := by
  rcases ha with ⟨rfl, rfl⟩ | ⟨b, o, c, rfl, h2, h3, h4, h5⟩
  · rcases hb with ⟨rfl, -⟩ | ⟨b', o', c', rfl, -, -, -, -⟩
    · exact rests_none none none 0 0 w
    · exact rests_none none (some ⟨b', o', none⟩) 0 c' w
  · rcases hb with ⟨rfl, rfl⟩ | ⟨b', o', c', rfl, -, -, i4, i5⟩
    · exact rests_none (some ⟨b, o, none⟩) none c 0 w
    · exact rests_some b o c b' o' c' zs w h4 i4 (by omega) h5 i5

end Go.Proofs.Ytjphhieloicdeaa.que
namespace Go.Proofs.Ytjphhieloicdeaa.que
open Go.RowKit Go.Proofs.Ytjphhieloicdeaa.spn

theorem ret_int {a b : Int} (h : a = b) : Ending.returned (.int .i64 a) = .returned (.int .i64 b) := by rw [h]

theorem rchk_out {r : R} (h : ¬ ((1 ≤ r.id ∧ r.id ≤ 9999) ∧ (1 ≤ r.who ∧ r.who ≤ 9) ∧ (1 ≤ r.qty ∧ r.qty ≤ 10000) ∧ (0 ≤ r.hid ∧ r.hid ≤ 10000) ∧ (0 ≤ r.shw ∧ r.shw ≤ 10000))) : rchk r = 1 := by
  unfold rchk
  rw [if_neg]
  intro h1
  simp only [rangeB, Bool.and_eq_true, inB_iff] at h1
  exact h ⟨h1.1.1.1.1, h1.1.1.1.2, h1.1.1.2, h1.1.2, h1.2⟩
theorem rchk_in {r : R} (h : (1 ≤ r.id ∧ r.id ≤ 9999) ∧ (1 ≤ r.who ∧ r.who ≤ 9) ∧ (1 ≤ r.qty ∧ r.qty ≤ 10000) ∧ (0 ≤ r.hid ∧ r.hid ≤ 10000) ∧ (0 ≤ r.shw ∧ r.shw ≤ 10000)) (h2 : (r.shw = 0 ∧ r.hid ≠ 0) ∨ (r.shw ≠ 0 ∧ r.shw < r.qty)) : rchk r = 3 := by
  have h1 : rangeB r = true := by
    simp only [rangeB, Bool.and_eq_true, inB_iff]
    exact ⟨⟨⟨⟨h.1, h.2.1⟩, h.2.2.1⟩, h.2.2.2.1⟩, h.2.2.2.2⟩
  unfold rchk
  rw [if_pos h1, if_neg]
  intro hs
  simp only [shapeB, Bool.and_eq_true, Bool.not_eq_true', Bool.and_eq_false_iff, decide_eq_false_iff_not, Bool.not_eq_false', decide_eq_true_eq] at hs
  omega


end Go.Proofs.Ytjphhieloicdeaa.que
namespace Go.Proofs.Ytjphhieloicdeaa.que
open Go.RowKit Go.Proofs.Ytjphhieloicdeaa.spn

def sh (k : Nat) (m : Int) : Int := if m < 0 then -1 else (k : Int) + m
theorem sh_start (id : Int) (zs : List R) : idx id zs = sh 0 (idx id (zs.drop 0)) := by
  have := idx_ge id zs
  unfold sh
  rw [List.drop_zero]
  split <;> omega
theorem sh_step {id : Int} {zs : List R} {k : Nat} {Q : Int} (h : Q = sh k (idx id (zs.drop k))) (hk : k < zs.length) (hn : ¬ (zs[k]!).id = id) : Q = sh (k + 1) (idx id (zs.drop (k + 1))) := by
  have := idx_ge id (zs.drop (k + 1))
  rw [drop_at hk, idx_cons, if_neg hn] at h
  rw [h]
  unfold sh
  by_cases h2 : idx id (zs.drop (k + 1)) < 0
  · rw [if_pos h2, if_pos (by omega), if_pos h2]
  · rw [if_neg h2, if_neg (by omega), if_neg h2]; omega
theorem sh_found {id : Int} {zs : List R} {k : Nat} {Q : Int} (h : Q = sh k (idx id (zs.drop k))) (hk : k < zs.length) (hn : (zs[k]!).id = id) : Q = k := by
  rw [drop_at hk, idx_cons, if_pos hn] at h
  rw [h]; unfold sh; rw [if_neg (by omega)]; omega
theorem sh_end {id : Int} {zs : List R} {k : Nat} {Q : Int} (h : Q = sh k (idx id (zs.drop k))) (hk : zs.length ≤ k) : Q = -1 := by
  rw [List.drop_eq_nil_of_le hk] at h
  rw [h]; rfl

theorem in_none (p : Option Addr) (c : Nat) (id : Int) (w : World) :
    Calls Try.prog 31 #[.slice p 0 c, .int .i64 id] w fun e w' => e = .returned (.int .i64 (-1)) ∧ w' = w := by
  go_enter Try.func31, Try.ntmps31
  go_wp2_with fail
  go_loopg [5] 0 (fun _ s5 wr => s5 = .int .i64 0 ∧ wr = w)
  case atStart => exact ⟨rfl, rfl⟩
  case round =>
    obtain ⟨rfl, rfl⟩ := hrel
    go_wp2_with fail
    go_ret
    exact ⟨rfl, rfl⟩

set_option maxRecDepth 100000 in
set_option maxHeartbeats 1000000 in
theorem in_some (b o c : Nat) (zs : List R) (id : Int) (w : World) (hn : zs.length ≤ 9223372036854775807) (hl : Lies w b o zs) :
    Calls Try.prog 31 #[.slice (some ⟨b, o, none⟩) zs.length c, .int .i64 id] w fun e w' => e = .returned (.int .i64 (idx id zs)) ∧ w' = w := by
  have HL : Hid (Lies w b o zs) := hl
  clear hl
  have hst := sh_start id zs
  generalize idx id zs = Q at hst ⊢
  have HS : Hid (Q = sh 0 (idx id (zs.drop 0))) := hst
  clear hst
  generalize hN : zs.length = n at *
  have HN : Hid (zs.length = n) := hN
  clear hN
  go_enter Try.func31, Try.ntmps31
  go_wp2_with fail
  go_loopg [5] n (fun gg s5 wr => ∃ kk : Nat, kk ≤ n ∧ n - kk ≤ gg ∧ s5 = .int .i64 kk ∧ Aside (Q = sh kk (idx id (zs.drop kk))) ∧ wr = w)
  case atStart => exact ⟨0, Nat.zero_le _, by omega, rfl, HS.out, rfl⟩
  case round =>
    obtain ⟨kk, hkk, hg, rfl, hQ, rfl⟩ := hrel
    by_cases hlt : kk < n
    · have hltz : (kk : Int) < (n : Int) := by omega
      have hlz : kk < zs.length := by rw [HN.out]; exact hlt
      obtain ⟨r, hr⟩ : ∃ r, zs[kk]! = r := ⟨_, rfl⟩
      obtain ⟨r1, r2, r3, r4, r5⟩ := r
      obtain ⟨c0, -, -, -, -⟩ := lies_at HL.out hlz hr
      have hin1 : ¬ ((kk : Int) < 0) := by omega
      have e1 := que.wrapSucc kk n hlt hn
      by_cases hid : r1 = id
      · subst hid
        have hQ2 : Q = kk := sh_found hQ.out hlz (by rw [hr])
        clear hr
        go_wp2_with fail
        go_ret
        exact ⟨rfl, rfl⟩
      · have hQ2 : Hid (Q = sh (kk + 1) (idx id (zs.drop (kk + 1)))) := sh_step hQ.out hlz (by rw [hr]; exact hid)
        have hid2 : (r1 == id) = false := by simp [hid]
        clear hr
        go_wp2_with fail
        go_roundg (n - (kk + 1))
        case measure => clear e1; omega
        case rel => exact ⟨kk + 1, hlt, Nat.le_refl _, by go_num, hQ2.out, rfl⟩
    · have hltz : ¬ (kk : Int) < (n : Int) := by omega
      have hQ2 : Q = -1 := sh_end hQ.out (by rw [HN.out]; omega)
      go_wp2_with fail
      go_ret
      exact ⟨rfl, rfl⟩

theorem in_any (v : Value) (zs : List R) (id : Int) (w : World) (h : SL w v zs) :
    Calls Try.prog 31 #[v, .int .i64 id] w fun e w' => e = .returned (.int .i64 (idx id zs)) ∧ w' = w := by
  rcases h with ⟨rfl, rfl⟩ | ⟨b, o, c, rfl, h2, h3, h4, h5⟩
  · exact in_none none 0 id w
  · exact in_some b o c zs id w (by omega) h5

end Go.Proofs.Ytjphhieloicdeaa.que
namespace Go.Proofs.Ytjphhieloicdeaa.swp
open Go.RowKit Go.Proofs.Ytjphhieloicdeaa.spn Go.Proofs.Ytjphhieloicdeaa.que Go.Proofs.Ytjphhieloicdeaa.sid Go.Proofs.Ytjphhieloicdeaa.bok

theorem of_any (s : Int) (q1 q2 : Option Addr) (n1 n2 c1 c2 : Nat) (w : World) :
    Calls Try.prog 30 #[.agg #[.slice q1 n1 c1, .slice q2 n2 c2], .int .i64 s] w fun e w' => e = .returned (if s = 1 then .slice q1 n1 c1 else .slice q2 n2 c2) ∧ Below w.heap.size w w' := by
  by_cases hs : s = 1
  · rw [if_pos hs]
    subst hs
    go_enter Try.func30, Try.ntmps30
    go_wp2
    go_ret
    exact ⟨rfl, (Below.refl _ _).alloc (Nat.le_refl _) _⟩
  · rw [if_neg hs]
    have h1 : (s == 1) = false := by simpa using hs
    go_enter Try.func30, Try.ntmps30
    go_wp2
    go_ret
    exact ⟨rfl, (Below.refl _ _).alloc (Nat.le_refl _) _⟩
set_option maxRecDepth 100000 in
set_option maxHeartbeats 1000000 in
theorem place_is (s p id : Int) (q1 q2 vq : Option Addr) (n1 n2 c1 c2 n vc : Nat) (ls : List L) (w : World) (hv : (if s = 1 then Value.slice q1 n1 c1 else .slice q2 n2 c2) = .slice vq n vc) (h : LS w (.slice vq n vc) ls) (hne : ∀ l ∈ ls, l.rests ≠ []) (h60 : ls.length ≤ 60) :
    Calls Try.prog 11 #[.agg #[.slice q1 n1 c1, .slice q2 n2 c2], .int .i64 s, .int .i64 p, .int .i64 id] w fun e w' => e = .returned (.int .i64 (placeV p id ls)) ∧ Below w.heap.size w w' := by
  obtain ⟨V, hV⟩ : ∃ V, V = w.alloc (.cells #[.slice q1 n1 c1, .slice q2 n2 c2] 24) := ⟨_, rfl⟩
  have HB : Hid (Below w.heap.size w V) := by rw [hV]; exact (Below.refl _ _).alloc (Nat.le_refl _) _
  have HOF := hidW (of_any s q1 q2 n1 n2 c1 c2 V)
  rw [hv] at HOF
  have HL : Hid (∀ W, Below w.heap.size w W → LS W (.slice vq n vc) ls) := fun W hW => h.below hW
  have hn := ls_len h
  have HN := hidW hn
  have HNE := hidW hne
  have HQ : Hid (placeV p id ls = placeV p id (ls.drop 0)) := rfl
  generalize placeV p id ls = Q at *
  have hn60 : n ≤ 60 := by omega
  have HN60 := hidW hn60
  clear h hv hne h60 hn hn60
  go_enter Try.func11, Try.ntmps11
  go_wp2_with fail
  rw [← hV]
  clear hV
  refine HOF.out.mono ?_
  rintro x w1 ⟨rfl, b1⟩
  have HB1 := hidW (HB.out.trans (b1.mono HB.out.size))
  clear b1 HOF
  go_wp2_with fail
  go_loopg [10] n (fun gg s10 wr => ∃ kk : Nat, kk ≤ n ∧ n - kk ≤ gg ∧ s10 = .int .i64 kk ∧ Aside (Q = placeV p id (ls.drop kk)) ∧ wr = w1)
  case atStart => exact ⟨0, Nat.zero_le _, by omega, rfl, HQ.out, rfl⟩
  case round =>
    obtain ⟨kk, hkk, hg, rfl, hQ, rfl⟩ := hrel
    by_cases hlt : kk < n
    · have hltz : (kk : Int) < (n : Int) := by omega
      have hin1 : ¬ ((kk : Int) < 0) := by omega
      have hlz : kk < ls.length := by rw [← HN.out]; exact hlt
      obtain ⟨l, hl⟩ : ∃ l, ls[kk]! = l := ⟨_, rfl⟩
      have hlm : l ∈ ls := by rw [← hl, getE _ _ hlz]; exact List.getElem_mem hlz
      have hz := HNE.out l hlm
      have hdr := ldrop_at hlz
      rw [hl] at hdr
      have hq0 := hQ.out
      rw [hdr] at hq0
      obtain ⟨pp, zs⟩ := l
      have hq : Q = if pp = p then idx id zs else placeV p id (ls.drop (kk + 1)) := hq0
      clear hq0
      obtain ⟨b, o, hvq, l0, v, l1, hsl⟩ : ∃ b o, vq = some ⟨b, o, none⟩ ∧ wr.cell? ⟨b, o + kk * 2, none⟩ = some (.int .i64 pp) ∧ ∃ v, wr.cell? ⟨b, o + kk * 2 + 1, none⟩ = some v ∧ SL wr v zs := by
        rcases HL.out wr HB1.out with ⟨h9, h8⟩ | ⟨b, o, c, h9, -, -, -, hLL⟩
        · rw [h8] at hlz; simp at hlz
        · simp only [Value.slice.injEq] at h9
          obtain ⟨k0, v, k1, k2⟩ := hLL kk hlz
          rw [hl] at k0 k2
          exact ⟨b, o, h9.1, k0, v, k1, k2.sl hz⟩
      subst hvq
      obtain ⟨pq, pc, hvf⟩ := sl_form (.inl hsl)
      subst hvf
      have HIN := hidW (in_any _ zs id wr hsl)
      have e1 : wrap64 ((kk : Int) + 1) = ((kk + 1 : Nat) : Int) := by have := HN60.out; unfold wrap64; omega
      have HE1 := hidW e1
      by_cases hp : pp = p
      · subst hp
        rw [if_pos rfl] at hq
        rw [← hq] at HIN
        have hpp : (pp == pp) = true := by simp
        clear hsl hdr hl hlm hz hQ e1 hq
        generalize zs.length = zn at *
        go_wp2_with fail
        refine HIN.out.mono ?_
        rintro x w3 ⟨rfl, rfl⟩
        go_wp2_with fail
        go_ret
        exact ⟨rfl, HB1.out⟩
      · rw [if_neg hp] at hq
        have HQ2 := hidW hq
        have hpp : (pp == p) = false := by simp [hp]
        have HMs := hidW (show n - (kk + 1) < gk ∧ kk + 1 ≤ n from ⟨by omega, by omega⟩)
        clear hsl hdr hl hlm hz hQ hq HIN hkk hg
        generalize zs.length = zn at *
        go_wp2_with fail
        go_roundg (n - (kk + 1))
        case measure => exact HMs.out.1
        case rel => exact ⟨kk + 1, HMs.out.2, Nat.le_refl _, by first | rfl | rw [HE1.out], HQ2.out, rfl⟩
    · have hltz : ¬ (kk : Int) < (n : Int) := by omega
      have hq : Q = -1 := by
        have h9 := hQ.out
        rw [List.drop_eq_nil_of_le (by have := HN.out; omega)] at h9
        exact h9
      subst hq
      clear hQ
      go_wp2_with fail
      go_ret
      exact ⟨rfl, HB1.out⟩
end Go.Proofs.Ytjphhieloicdeaa.swp
