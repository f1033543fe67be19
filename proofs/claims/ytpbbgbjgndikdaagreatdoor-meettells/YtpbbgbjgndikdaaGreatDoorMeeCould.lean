/- Contracts over this seat's translation: pitsame.Book at two that are the same. Plain facts: what an order could take of levels that are right and sorted. No walk. -/
import Derived.Test.YtpbbgbjgndikdaaGreatDoorBokChk
import Derived.Test.YtpbbgbjgndikdaaGreatDoorSidSame
import Derived.Test.YtpbbgbjgndikdaaGreatDoorMeeFact
namespace Go.Proofs.YtpbbgbjgndikdaaGreatDoor.bok
open Go.RowKit Go.Proofs.YtpbbgbjgndikdaaGreatDoor.spn Go.Proofs.YtpbbgbjgndikdaaGreatDoor.que Go.Proofs.YtpbbgbjgndikdaaGreatDoor.sid

set_option maxRecDepth 100000 in
set_option maxHeartbeats 2000000 in
theorem book_same (q1 q2 p1 p2 : Option Addr) (n1 n2 c1 c2 m1 m2 d1 d2 : Nat) (bs ss : List L) (w : World) (h1 : LS w (.slice q1 n1 c1) bs) (h2 : LS w (.slice q2 n2 c2) ss) (g1 : LS w (.slice p1 m1 d1) bs) (g2 : LS w (.slice p2 m2 d2) ss) :
    Calls Tryz.prog 17 #[.agg #[.slice q1 n1 c1, .slice q2 n2 c2], .agg #[.slice p1 m1 d1, .slice p2 m2 d2]] w fun e w' => e = .returned (.bool true) ∧ Below w.heap.size w w' := by
  have HL1 : Hid (∀ W, Below w.heap.size w W → Calls Tryz.prog 51 #[.slice q1 n1 c1, .slice p1 m1 d1] W fun e w' => e = .returned (.bool true) ∧ Below W.heap.size W w') := fun W hW => levels_same _ _ bs W (h1.below hW) (g1.below hW)
  have HL2 : Hid (∀ W, Below w.heap.size w W → Calls Tryz.prog 51 #[.slice q2 n2 c2, .slice p2 m2 d2] W fun e w' => e = .returned (.bool true) ∧ Below W.heap.size W w') := fun W hW => levels_same _ _ ss W (h2.below hW) (g2.below hW)
  obtain ⟨V, hV⟩ : ∃ V, V = (w.alloc (.cells #[.slice q1 n1 c1, .slice q2 n2 c2] 24)).alloc (.cells #[.slice p1 m1 d1, .slice p2 m2 d2] 24) := ⟨_, rfl⟩
  have HB : Hid (Below w.heap.size w V) := by rw [hV]; exact ((Below.refl _ _).alloc (Nat.le_refl _) _).alloc (by simp) _
  have v0 : V.cell? ⟨w.heap.size, 1, none⟩ = some (.slice q2 n2 c2) := by rw [hV]; simp [go_sem]
  have v1 : V.cell? ⟨w.heap.size + 1, 1, none⟩ = some (.slice p2 m2 d2) := by rw [hV]; simp [go_sem]
  have hVs : w.heap.size + 1 < V.heap.size := by rw [hV]; simp
  clear h1 h2 g1 g2
  go_enter Tryz.func17, Tryz.ntmps17
  go_wp2_with fail
  rw [← hV]
  refine (HL1.out V HB.out).mono ?_
  rintro e w1 ⟨rfl, b1⟩
  have HB1 : Hid (Below w.heap.size w w1) := HB.out.trans (b1.mono HB.out.size)
  have x0 := keeps b1 v0
  have x1 := keeps b1 v1
  have hs1 : w.heap.size + 1 < w1.heap.size := Nat.lt_of_lt_of_le hVs b1.size
  clear b1 v0 v1 HL1
  go_wp2_with fail
  refine (HL2.out w1 HB1.out).mono ?_
  rintro e w2 ⟨rfl, b2⟩
  have HB2 : Hid (Below w.heap.size w w2) := HB1.out.trans (b2.mono HB1.out.size)
  clear b2 x0 x1 HL2
  go_wp2_with fail
  go_ret
  exact ⟨rfl, HB2.out⟩
end Go.Proofs.YtpbbgbjgndikdaaGreatDoor.bok
namespace Go.Proofs.YtpbbgbjgndikdaaGreatDoor.mee
open Go.RowKit Go.Proofs.YtpbbgbjgndikdaaGreatDoor.spn Go.Proofs.YtpbbgbjgndikdaaGreatDoor.que Go.Proofs.YtpbbgbjgndikdaaGreatDoor.sid
open Go.Proofs.YtpbbgbjgndikdaaGreatDoor.ord (O mB chk)
open Go.Proofs.YtpbbgbjgndikdaaGreatDoor.tickP (priceB sideB betOk betR)

/-- All that rests where an order may trade. -/
def couL (o : O) : List L → Int
  | [] => 0
  | l :: t => (if mB o l.price = true then tot l.rests else 0) + couL o t
theorem couL_append (o : O) (a b : List L) : couL o (a ++ b) = couL o a + couL o b := by
  induction a with
  | nil => simp [couL]
  | cons x t ih => simp only [List.cons_append, couL, ih]; omega
theorem couL_take (o : O) (ls : List L) (k : Nat) (hk : k < ls.length) : couL o (ls.take (k + 1)) = couL o (ls.take k) + (if mB o ls[k]!.price = true then tot ls[k]!.rests else 0) := by
  rw [ltake_at hk, couL_append]; simp only [couL]; omega
theorem tot_lvl {l : L} (h : lchk l = 0) : 0 ≤ tot l.rests ∧ tot l.rests ≤ 1200000 := by
  obtain ⟨-, -, hq⟩ := lchk_zero h
  obtain ⟨h60, hg⟩ := (qchk_zero _).1 hq
  have := tot_le l.rests hg.1
  omega
theorem couL_le (o : O) (ls : List L) (h : ∀ l ∈ ls, lchk l = 0) : 0 ≤ couL o ls ∧ couL o ls ≤ 1200000 * (ls.length : Int) := by
  induction ls with
  | nil => simp [couL]
  | cons x t ih =>
    have h1 := tot_lvl (h x (by simp))
    have h2 := ih (fun l hl => h l (by simp [hl]))
    simp only [couL, List.length_cons]
    split <;> omega
theorem couL_none (o : O) (ls : List L) (h : ∀ l ∈ ls, mB o l.price = false) : couL o ls = 0 := by
  induction ls with
  | nil => rfl
  | cons x t ih =>
    have h1 := h x (by simp)
    simp only [couL, h1, ih (fun l hl => h l (by simp [hl]))]
    simp
theorem mB_is (o : O) (x : Int) : mB o x = (decide (o.kind = 2) || (if o.side = 1 then decide (x ≤ o.price) else decide (o.price ≤ x))) := rfl
theorem mB_worse {o : O} {s a b : Int} (hs : (o.side = 1 ∧ s = 2) ∨ (o.side = 2 ∧ s = 1)) (h : ahd s a b) (hm : mB o a = false) : mB o b = false := by
  rw [mB_is, Bool.or_eq_false_iff] at hm
  rw [mB_is, Bool.or_eq_false_iff]
  refine ⟨hm.1, ?_⟩
  have h2 := hm.2
  unfold ahd at h
  rcases hs with ⟨e1, e2⟩ | ⟨e1, e2⟩
  · rw [if_pos e1, decide_eq_false_iff_not] at h2 ⊢
    rw [e2, if_neg (by decide)] at h
    omega
  · rw [if_neg (by omega), decide_eq_false_iff_not] at h2 ⊢
    rw [if_pos e2] at h
    omega
theorem tkl_could {o : O} {s : Int} (hs : (o.side = 1 ∧ s = 2) ∨ (o.side = 2 ∧ s = 1)) : ∀ (ls : List L) (q : Int), 0 ≤ q → (∀ l ∈ ls, lchk l = 0) → (ls.Pairwise fun a b => ahd s a.price b.price) → sumT (tkl o ls q).2.1 = min q (couL o ls) := by
  intro ls
  induction ls with
  | nil => intro q h _ _; simp [tkl, sumT, couL]; omega
  | cons l t ih =>
    intro q h hl hp
    have hl2 : ∀ x ∈ t, lchk x = 0 := fun x hx => hl x (by simp [hx])
    have hc := (couL_le o t hl2).1
    have ht := tot_lvl (hl l (by simp))
    obtain ⟨hp1, hp2⟩ := List.pairwise_cons.1 hp
    by_cases hd : 0 < q ∧ mB o l.price = true
    · obtain ⟨-, -, hq0⟩ := lchk_zero (hl l (by simp))
      obtain ⟨a1, a2, a3, a4, a5, a6, a7⟩ := take_all hq0 (show 1 ≤ q by omega)
      have e : couL o (l :: t) = tot l.rests + couL o t := by simp only [couL]; rw [if_pos hd.2]
      rw [e]
      rcases tkl_step (t := t) hd.1 hd.2 (hl l (by simp)) with ⟨g1, g2⟩ | ⟨g1, g2, g3⟩
      · rw [g2]
        simp only []
        rw [sumT_append, sumT_map, ih _ (by omega) hl2 hp2]
        rw [g1] at a7
        simp only [tot] at a7
        omega
      · rw [g3]
        simp only []
        rw [sumT_map]
        obtain ⟨h60, hg⟩ := (qchk_zero _).1 a4
        have := (tot_le _ hg.1).1
        omega
    · rw [tkl_done hd]
      simp only [sumT]
      by_cases h0 : 0 < q
      · have hm : mB o l.price = false := by
          cases hm : mB o l.price with
          | false => rfl
          | true => exact absurd ⟨h0, hm⟩ hd
        have e : couL o (l :: t) = 0 := couL_none o _ (fun x hx => by
          rcases List.mem_cons.1 hx with rfl | hx
          · exact hm
          · exact mB_worse hs (hp1 x hx) hm)
        rw [e]; omega
      · have := (couL_le o (l :: t) hl).1
        omega
end Go.Proofs.YtpbbgbjgndikdaaGreatDoor.mee
