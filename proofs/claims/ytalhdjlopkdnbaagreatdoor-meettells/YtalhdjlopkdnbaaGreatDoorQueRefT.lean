/- Contracts over this seat's translation: pitsame.Book at two that are the same. Plain facts: what an order could take of levels that are right and sorted. No walk. Contracts over this seat's translation: the document's Total. -/
import Derived.Test.YtalhdjlopkdnbaaGreatDoorBokChk
import Derived.Test.YtalhdjlopkdnbaaGreatDoorSidSame
import Derived.Test.YtalhdjlopkdnbaaGreatDoorMeeFact
import Derived.Test.YtalhdjlopkdnbaaGreatDoorQueChk
import Derived.Test.YtalhdjlopkdnbaaGreatDoorQueOwn
namespace Go.Proofs.YtalhdjlopkdnbaaGreatDoor.bok
open Go.RowKit Go.Proofs.YtalhdjlopkdnbaaGreatDoor.spn Go.Proofs.YtalhdjlopkdnbaaGreatDoor.que Go.Proofs.YtalhdjlopkdnbaaGreatDoor.sid

set_option maxRecDepth 100000 in
set_option maxHeartbeats 2000000 in
theorem book_same (q1 q2 p1 p2 : Option Addr) (n1 n2 c1 c2 m1 m2 d1 d2 : Nat) (bs ss : List L) (w : World) (h1 : LS w (.slice q1 n1 c1) bs) (h2 : LS w (.slice q2 n2 c2) ss) (g1 : LS w (.slice p1 m1 d1) bs) (g2 : LS w (.slice p2 m2 d2) ss) :
    Calls Tryz.prog 18 #[.agg #[.slice q1 n1 c1, .slice q2 n2 c2], .agg #[.slice p1 m1 d1, .slice p2 m2 d2]] w fun e w' => e = .returned (.bool true) ∧ Below w.heap.size w w' := by
  have HL1 : Hid (∀ W, Below w.heap.size w W → Calls Tryz.prog 54 #[.slice q1 n1 c1, .slice p1 m1 d1] W fun e w' => e = .returned (.bool true) ∧ Below W.heap.size W w') := fun W hW => levels_same _ _ bs W (h1.below hW) (g1.below hW)
  have HL2 : Hid (∀ W, Below w.heap.size w W → Calls Tryz.prog 54 #[.slice q2 n2 c2, .slice p2 m2 d2] W fun e w' => e = .returned (.bool true) ∧ Below W.heap.size W w') := fun W hW => levels_same _ _ ss W (h2.below hW) (g2.below hW)
  obtain ⟨V, hV⟩ : ∃ V, V = (w.alloc (.cells #[.slice q1 n1 c1, .slice q2 n2 c2] 24)).alloc (.cells #[.slice p1 m1 d1, .slice p2 m2 d2] 24) := ⟨_, rfl⟩
  have HB : Hid (Below w.heap.size w V) := by rw [hV]; exact ((Below.refl _ _).alloc (Nat.le_refl _) _).alloc (by simp) _
  have v0 : V.cell? ⟨w.heap.size, 1, none⟩ = some (.slice q2 n2 c2) := by rw [hV]; simp [go_sem]
  have v1 : V.cell? ⟨w.heap.size + 1, 1, none⟩ = some (.slice p2 m2 d2) := by rw [hV]; simp [go_sem]
  have hVs : w.heap.size + 1 < V.heap.size := by rw [hV]; simp
  clear h1 h2 g1 g2
  go_enter Tryz.func18, Tryz.ntmps18
  go_wp2_with fail
  rw [← hV]
  refine (HL1.out V HB.out).mono ?_
  rintro e w1 ⟨rfl, b1⟩
  have HB1 : Hid (Below w.heap.size w w1) := HB.out.trans (b1.mono HB.out.size)
  have x0 := keeps b1 v0
  have x1 := keeps b1 v1
  have hs1 : w.heap.size + 1 < w1.heap.size := Nat.lt_of_lt_of_le hVs b1.size
  clear b1 v0 v1 HL1
  go_wp2_with fail
  refine (HL2.out w1 HB1.out).mono ?_
  rintro e w2 ⟨rfl, b2⟩
  have HB2 : Hid (Below w.heap.size w w2) := HB1.out.trans (b2.mono HB1.out.size)
  clear b2 x0 x1 HL2
  go_wp2_with fail
  go_ret
  exact ⟨rfl, HB2.out⟩
end Go.Proofs.YtalhdjlopkdnbaaGreatDoor.bok
namespace Go.Proofs.YtalhdjlopkdnbaaGreatDoor.mee
open Go.RowKit Go.Proofs.YtalhdjlopkdnbaaGreatDoor.spn Go.Proofs.YtalhdjlopkdnbaaGreatDoor.que Go.Proofs.YtalhdjlopkdnbaaGreatDoor.sid
open Go.Proofs.YtalhdjlopkdnbaaGreatDoor.ord (O mB chk)
open Go.Proofs.YtalhdjlopkdnbaaGreatDoor.tickP (priceB sideB betOk betR)

/-- All that rests where an order may trade. -/
def couL (o : O) : List L → Int
  | [] => 0
  | l :: t => (if mB o l.price = true then tot l.rests else 0) + couL o t
theorem couL_append (o : O) (a b : List L) : couL o (a ++ b) = couL o a + couL o b := by
  induction a with
  | nil => simp [couL]
  | cons x t ih => simp only [List.cons_append, couL, ih]; omega
theorem couL_take (o : O) (ls : List L) (k : Nat) (hk : k < ls.length) : couL o (ls.take (k + 1)) = couL o (ls.take k) + (if mB o ls[k]!.price = true then tot ls[k]!.rests else 0) := by
  rw [ltake_at hk, couL_append]; simp only [couL]; omega
theorem tot_lvl {l : L} (h : lchk l = 0) : 0 ≤ tot l.rests ∧ tot l.rests ≤ 1200000 := by
  obtain ⟨-, -, hq⟩ := lchk_zero h
  obtain ⟨h60, hg⟩ := (qchk_zero _).1 hq
  have := tot_le l.rests hg.1
  omega
theorem couL_le (o : O) (ls : List L) (h : ∀ l ∈ ls, lchk l = 0) : 0 ≤ couL o ls ∧ couL o ls ≤ 1200000 * (ls.length : Int) := by
  induction ls with
  | nil => simp [couL]
  | cons x t ih =>
    have h1 := tot_lvl (h x (by simp))
    have h2 := ih (fun l hl => h l (by simp [hl]))
    simp only [couL, List.length_cons]
    split <;> omega
theorem couL_none (o : O) (ls : List L) (h : ∀ l ∈ ls, mB o l.price = false) : couL o ls = 0 := by
  induction ls with
  | nil => rfl
  | cons x t ih =>
    have h1 := h x (by simp)
    simp only [couL, h1, ih (fun l hl => h l (by simp [hl]))]
    simp
theorem mB_is (o : O) (x : Int) : mB o x = (decide (o.kind = 2) || (if o.side = 1 then decide (x ≤ o.price) else decide (o.price ≤ x))) := rfl
theorem mB_worse {o : O} {s a b : Int} (hs : (o.side = 1 ∧ s = 2) ∨ (o.side = 2 ∧ s = 1)) (h : ahd s a b) (hm : mB o a = false) : mB o b = false := by
  rw [mB_is, Bool.or_eq_false_iff] at hm
  rw [mB_is, Bool.or_eq_false_iff]
  refine ⟨hm.1, ?_⟩
  have h2 := hm.2
  unfold ahd at h
  rcases hs with ⟨e1, e2⟩ | ⟨e1, e2⟩
  · rw [if_pos e1, decide_eq_false_iff_not] at h2 ⊢
    rw [e2, if_neg (by decide)] at h
    omega
  · rw [if_neg (by omega), decide_eq_false_iff_not] at h2 ⊢
    rw [if_pos e2] at h
    omega
theorem tkl_could {o : O} {s : Int} (hs : (o.side = 1 ∧ s = 2) ∨ (o.side = 2 ∧ s = 1)) : ∀ (ls : List L) (q : Int), 0 ≤ q → (∀ l ∈ ls, lchk l = 0) → (ls.Pairwise fun a b => ahd s a.price b.price) → sumT (tkl o ls q).2.1 = min q (couL o ls) := by
  intro ls
  induction ls with
  | nil => intro q h _ _; simp [tkl, sumT, couL]; omega
  | cons l t ih =>
    intro q h hl hp
    have hl2 : ∀ x ∈ t, lchk x = 0 := fun x hx => hl x (by simp [hx])
    have hc := (couL_le o t hl2).1
    have ht := tot_lvl (hl l (by simp))
    obtain ⟨hp1, hp2⟩ := List.pairwise_cons.1 hp
    by_cases hd : 0 < q ∧ mB o l.price = true
    · obtain ⟨-, -, hq0⟩ := lchk_zero (hl l (by simp))
      obtain ⟨a1, a2, a3, a4, a5, a6, a7⟩ := take_all hq0 (show 1 ≤ q by omega)
      have e : couL o (l :: t) = tot l.rests + couL o t := by simp only [couL]; rw [if_pos hd.2]
      rw [e]
      rcases tkl_step (t := t) hd.1 hd.2 (hl l (by simp)) with ⟨g1, g2⟩ | ⟨g1, g2, g3⟩
      · rw [g2]
        simp only []
        rw [sumT_append, sumT_map, ih _ (by omega) hl2 hp2]
        rw [g1] at a7
        simp only [tot] at a7
        omega
      · rw [g3]
        simp only []
        rw [sumT_map]
        obtain ⟨h60, hg⟩ := (qchk_zero _).1 a4
        have := (tot_le _ hg.1).1
        omega
    · rw [tkl_done hd]
      simp only [sumT]
      by_cases h0 : 0 < q
      · have hm : mB o l.price = false := by
          cases hm : mB o l.price with
          | false => rfl
          | true => exact absurd ⟨h0, hm⟩ hd
        have e : couL o (l :: t) = 0 := couL_none o _ (fun x hx => by
          rcases List.mem_cons.1 hx with rfl | hx
          · exact hm
          · exact mB_worse hs (hp1 x hx) hm)
        rw [e]; omega
      · have := (couL_le o (l :: t) hl).1
        omega
end Go.Proofs.YtalhdjlopkdnbaaGreatDoor.mee
namespace Go.Proofs.YtalhdjlopkdnbaaGreatDoor.que
open Go.RowKit Go.Proofs.YtalhdjlopkdnbaaGreatDoor.spn

theorem wrapSuccT (k n : Nat) (h : k < n) (hn : n ≤ 9223372036854775807) : wrap64 ((k : Int) + 1) = ((k + 1 : Nat) : Int) := by unfold wrap64; omega
theorem rtotal_none (p : Option Addr) (c : Nat) (w : World) :
    Calls Tryz.prog 31 #[.slice p 0 c] w fun e w' => e = .returned (.int .i64 0) ∧ Below w.heap.size w w' := by
  go_enter Tryz.func31, Tryz.ntmps31
  go_wp2_with fail
  go_loopg [3, 4] 0 (fun _ s3 s4 wr => s3 = .int .i64 0 ∧ s4 = .int .i64 0 ∧ wr = w)
  case atStart => exact ⟨rfl, rfl, rfl⟩
  case round =>
    obtain ⟨rfl, rfl, rfl⟩ := hrel
    go_wp2_with fail
    go_ret
    exact ⟨rfl, Below.refl _ _⟩
set_option maxRecDepth 100000 in
set_option maxHeartbeats 1000000 in
theorem rtotal_some (b o c : Nat) (zs : List R) (w : World) (hb : b < w.heap.size) (hl : Lies w b o zs) (h0 : qchk zs = 0) :
    Calls Tryz.prog 31 #[.slice (some ⟨b, o, none⟩) zs.length c] w fun e w' => e = .returned (.int .i64 (tot zs)) ∧ Below w.heap.size w w' := by
  obtain ⟨h60, hG⟩ := (qchk_zero zs).1 h0
  have HG : Hid (∀ r ∈ zs, rchk r = 0) := hG.1
  clear hG h0
  have HL : Hid (Lies w b o zs) := hl
  clear hl
  generalize hT : tot zs = T
  have HT : Hid (tot zs = T) := hT
  clear hT
  generalize hn : zs.length = n at *
  have HN : Hid (zs.length = n) := hn
  clear hn
  go_enter Tryz.func31, Tryz.ntmps31
  go_wp2_with fail
  go_loopg [3, 4] n (fun gg s3 s4 wr => ∃ kk : Nat, kk ≤ n ∧ n - kk ≤ gg ∧ s4 = .int .i64 kk ∧ s3 = .int .i64 (tot (zs.take kk)) ∧ Aside (Below w.heap.size w wr))
  case atStart => exact ⟨0, Nat.zero_le _, by omega, rfl, rfl, Below.refl _ w⟩
  case round =>
    obtain ⟨kk, hkk, hg, rfl, rfl, BW⟩ := hrel
    by_cases hlt : kk < n
    · have hltz : (kk : Int) < (n : Int) := by omega
      have hlz : kk < zs.length := by rw [HN.out]; exact hlt
      have LW : Hid (Lies wr b o zs) := HL.out.below hb BW.out
      obtain ⟨r, hr⟩ : ∃ r, zs[kk]! = r := ⟨_, rfl⟩
      obtain ⟨r1, r2, r3, r4, r5⟩ := r
      obtain ⟨c0, c1, c2, c3, c4⟩ := lies_at LW.out hlz hr
      have hrm : rchk ⟨r1, r2, r3, r4, r5⟩ = 0 := HG.out _ (by rw [← hr, getE _ _ hlz]; exact List.getElem_mem hlz)
      obtain ⟨⟨q1, q2⟩, ⟨q3, q4⟩, -⟩ := rchk_zero hrm
      simp only [] at q1 q2 q3 q4
      have hts : tot (zs.take (kk + 1)) = tot (zs.take kk) + r3 + r4 := by rw [take_at hlz, hr, tot_append]; simp only [tot]; omega
      obtain ⟨tl, th⟩ := tot_le (zs.take kk) (fun x hx => HG.out x (List.mem_of_mem_take hx))
      have htk : ((zs.take kk).length : Int) ≤ 60 := by rw [List.length_take]; omega
      have HTS : Hid (tot (zs.take (kk + 1)) = tot (zs.take kk) + r3 + r4) := hts
      have e1 : wrap64 (tot (zs.take kk) + r3) = tot (zs.take kk) + r3 := by unfold wrap64; omega
      have e2 : wrap64 (tot (zs.take kk) + r3 + r4) = tot (zs.take kk) + r3 + r4 := by unfold wrap64; omega
      clear hts th htk hrm hr
      generalize tot (zs.take kk) = S at *
      have e1' : IntKind.i64.wrap (S + r3) = S + r3 := (IntWalk.i64_left _).trans e1
      have e2' : IntKind.i64.wrap (S + r3 + r4) = S + r3 + r4 := (IntWalk.i64_left _).trans e2
      have hin1 : ¬ ((kk : Int) < 0) := by omega
      have e3 := wrapSuccT kk n hlt (by omega)
      go_wp2_with fail
      go_quiet (fail)
      go_wp2_with fail
      go_roundg (n - (kk + 1))
      case measure => clear e1 e2 e1' e2' e3; omega
      case rel => exact ⟨kk + 1, hlt, Nat.le_refl _, by go_num, by rw [HTS.out], below_drewN BW.out _⟩
    · have hltz : ¬ (kk : Int) < (n : Int) := by omega
      have hT2 : tot (zs.take kk) = T := by rw [← HT.out, List.take_of_length_le (by rw [HN.out]; omega)]
      rw [hT2]
      go_wp2_with fail
      go_ret
      exact ⟨rfl, BW.out⟩
theorem rtotal_any (v : Value) (zs : List R) (w : World) (h : SL w v zs) (h0 : qchk zs = 0) :
    Calls Tryz.prog 31 #[v] w fun e w' => e = .returned (.int .i64 (tot zs)) ∧ Below w.heap.size w w' := by
  rcases h with ⟨rfl, rfl⟩ | ⟨b, o, c, rfl, h2, h3, h4, h5⟩
  · exact rtotal_none none 0 w
  · exact rtotal_some b o c zs w h4 h5 h0

/-! ### Fills -/
end Go.Proofs.YtalhdjlopkdnbaaGreatDoor.que
