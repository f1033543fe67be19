/- The walk of the law BookApart. -/
import Derived.Test.YtfjabgomakjepaaDoorBokPut2
import Derived.Test.YtfjabgomakjepaaDoorTold
namespace Go.Proofs.YtfjabgomakjepaaDoor.bookApart
open Go.RowKit Go.Proofs.YtfjabgomakjepaaDoor.spn Go.Proofs.YtfjabgomakjepaaDoor.que Go.Proofs.YtfjabgomakjepaaDoor.sid Go.Proofs.YtfjabgomakjepaaDoor.bok
open Go.Proofs.YtfjabgomakjepaaDoor.tickP (priceB sideB)

theorem side_one {s p : Int} {r : R} (hs : sideB s = true) (hp : priceB p = true) (hr : rchk r = 0) : schk s [⟨p, [r]⟩] = 0 :=
  schk_put (ls := []) (schk_none hs) hp hr (by simp [ids, flatP]) (by simp [cnt])
theorem add_one' {s p : Int} {r : R} (hs : sideB s = true) (hr : rchk r = 0) : addE s [] p r = if priceB p = true then 0 else 1 := by
  unfold addE
  rw [if_pos (schk_none hs), if_pos hr, if_neg (show ¬ r.id ∈ ids [] by simp [ids, flatP]), if_neg (show ¬ cnt [] = 60 by simp [cnt])]
theorem book_none : bookE [] [] = 0 := by decide
theorem r1 : rchk ⟨1, 1, 5, 0, 0⟩ = 0 := by decide
theorem r2 : rchk ⟨2, 2, 5, 0, 0⟩ = 0 := by decide
theorem book_sell {p : Int} (hp : priceB p = true) : bookE [] [⟨p, [⟨1, 1, 5, 0, 0⟩]⟩] = 0 := by
  unfold bookE
  rw [if_pos (schk_none (by decide)), if_pos (side_one (by decide) hp r1), if_neg (show ¬ crossB [] [⟨p, [⟨1, 1, 5, 0, 0⟩]⟩] = true by simp [crossB]), if_neg (by simp [twiceB, allR]), if_neg (by simp [allR])]
theorem put_one (p : Int) : putE [] [] 2 p ⟨1, 1, 5, 0, 0⟩ = if priceB p = true then 0 else 1 := by
  unfold putE
  rw [if_pos book_none, show (if (2 : Int) = 1 then ([] : List L) else []) = [] from rfl, add_one' (by decide) r1]
  by_cases hp : priceB p = true
  · rw [if_pos hp, if_pos rfl]
    exact book_sell hp
  · rw [if_neg hp, if_neg (by decide)]
theorem put_two {p q : Int} (hp : priceB p = true) : putE [] [⟨p, [⟨1, 1, 5, 0, 0⟩]⟩] 1 q ⟨2, 2, 5, 0, 0⟩ = if priceB q = true then (if p ≤ q then 8 else 0) else 1 := by
  unfold putE
  rw [if_pos (book_sell hp), if_pos rfl, add_one' (by decide) r2]
  by_cases hq : priceB q = true
  · rw [if_pos hq, if_pos rfl]
    show bookE [⟨q, [⟨2, 2, 5, 0, 0⟩]⟩] [⟨p, [⟨1, 1, 5, 0, 0⟩]⟩] = _
    unfold bookE
    rw [if_pos (side_one (by decide) hq r2), if_pos (side_one (by decide) hp r1)]
    by_cases hx : p ≤ q
    · rw [if_pos (by simp [crossB, bestI, hx]), if_pos hq, if_pos hx]
    · rw [if_neg (by simp [crossB, bestI, hx]), if_neg (by simp [twiceB, allR]), if_neg (by simp [allR]), if_pos hq, if_neg hx]
  · rw [if_neg hq, if_neg (by decide), if_neg hq]
theorem price_out {p : Int} (h : ¬ priceB p = true) : p < 1 ∨ 10000 < p := by
  simp [priceB] at h
  omega
theorem price_in {p : Int} (h : priceB p = true) : 1 ≤ p ∧ p ≤ 10000 := by simpa [priceB] using h
/-- What the first Put gives. -/
theorem first_any (p : Int) (w : World) : Calls Tryd.prog 18 #[.agg #[.slice none 0 0, .slice none 0 0], .int .i64 2, .int .i64 p, .agg #[.int .i64 1, .int .i64 1, .int .i64 5, .int .i64 0, .int .i64 0]] w fun x w' => ∃ u1 u2 m1 m2 d1 d2, x = .returned (.tuple #[.agg #[.slice u1 m1 d1, .slice u2 m2 d2], errV (if priceB p = true then 0 else 1)]) ∧ (priceB p = true → LS w' (.slice u1 m1 d1) [] ∧ LS w' (.slice u2 m2 d2) [⟨p, [⟨1, 1, 5, 0, 0⟩]⟩]) ∧ Below w.heap.size w w' :=
  (put_any 2 p none none 0 0 0 0 1 1 5 0 0 [] [] w (ls_nil _) (ls_nil _)).mono fun x w' h => by
    obtain ⟨u1, u2, m1, m2, d1, d2, g1, g2, g3, g4⟩ := h
    rw [put_one] at g1 g2 g3
    refine ⟨u1, u2, m1, m2, d1, d2, g1, fun hp => ?_, g4⟩
    rw [if_pos hp, if_pos rfl] at g2 g3
    exact ⟨g2, g3⟩
theorem second_any (p q : Int) (hp : priceB p = true) (u1 u2 : Option Addr) (m1 m2 d1 d2 : Nat) (w : World) (h1 : LS w (.slice u1 m1 d1) []) (h2 : LS w (.slice u2 m2 d2) [⟨p, [⟨1, 1, 5, 0, 0⟩]⟩]) : Calls Tryd.prog 18 #[.agg #[.slice u1 m1 d1, .slice u2 m2 d2], .int .i64 1, .int .i64 q, .agg #[.int .i64 2, .int .i64 2, .int .i64 5, .int .i64 0, .int .i64 0]] w fun x w' => ∃ u1 u2 m1 m2 d1 d2, x = .returned (.tuple #[.agg #[.slice u1 m1 d1, .slice u2 m2 d2], errV (if priceB q = true then (if p ≤ q then 8 else 0) else 1)]) ∧ Below w.heap.size w w' :=
  (put_any 1 q u1 u2 m1 m2 d1 d2 2 2 5 0 0 [] _ w h1 h2).mono fun x w' h => by
    obtain ⟨u1, u2, m1, m2, d1, d2, g1, g2, g3, g4⟩ := h
    rw [put_two hp] at g1
    exact ⟨u1, u2, m1, m2, d1, d2, g1, g4⟩

theorem walk_out (p q : Int) (B w : World) (h : told.Inv B w) (hp : ¬ priceB p = true) :
    Calls Tryd.prog 5 #[.int .i64 p, .int .i64 q] w fun e w' => e = .returned (.bool true) ∧ told.Inv B w' := by
  have HF := first_any p w
  rw [if_neg hp, errV_of (by omega)] at HF
  have HI : Hid (told.Inv B w) := h
  rcases price_out hp with hq | hq
  all_goals
    clear hp h
    go_enter Tryd.func5, Tryd.ntmps5
    go_wp2_with fail
    refine HF.mono ?_
    rintro x w1 ⟨u1, u2, m1, m2, d1, d2, rfl, hL, b1⟩
    have HI1 : Hid (told.Inv B w1) := HI.out.on b1
    clear HF hL b1
    go_wp2_with fail
    go_ret
    exact ⟨rfl, HI1.out.on ((Below.refl _ _).alloc (Nat.le_refl _) _)⟩

set_option maxRecDepth 100000 in
theorem walk_lo (p q : Int) (B w : World) (h : told.Inv B w) (hp : priceB p = true) (hq : ¬ priceB q = true) (hq1 : q < 1) :
    Calls Tryd.prog 5 #[.int .i64 p, .int .i64 q] w fun e w' => e = .returned (.bool true) ∧ told.Inv B w' := by
  have HF := first_any p w
  rw [if_pos hp, errV_zero] at HF
  have HS : Hid (∀ (u1 u2 : Option Addr) (m1 m2 d1 d2 : Nat) (W : World), LS W (.slice u1 m1 d1) [] → LS W (.slice u2 m2 d2) [⟨p, [⟨1, 1, 5, 0, 0⟩]⟩] → Calls Tryd.prog 18 #[.agg #[.slice u1 m1 d1, .slice u2 m2 d2], .int .i64 1, .int .i64 q, .agg #[.int .i64 2, .int .i64 2, .int .i64 5, .int .i64 0, .int .i64 0]] W fun x w' => ∃ u1 u2 m1 m2 d1 d2, x = .returned (.tuple #[.agg #[.slice u1 m1 d1, .slice u2 m2 d2], .iface 65 (.int .i64 1)]) ∧ Below W.heap.size W w') := fun u1 u2 m1 m2 d1 d2 W g1 g2 => by
    have := second_any p q hp u1 u2 m1 m2 d1 d2 W g1 g2
    rw [if_neg hq, errV_of (by omega)] at this
    exact this
  have HE := fun W hW => told.error_any B 1 1 W hW
  simp only [show told.errV 1 = .iface 65 (.int .i64 1) from rfl, show ((1 : Int) == 1) = true from rfl] at HE
  have HI : Hid (told.Inv B w) := h
  have HP : Hid (priceB p = true) := hp
  clear hp hq h
  go_enter Tryd.func5, Tryd.ntmps5
  go_wp2_with fail
  refine HF.mono ?_
  rintro x w1 ⟨u1, u2, m1, m2, d1, d2, rfl, hL, b1⟩
  have HI1 : Hid (told.Inv B w1) := HI.out.on b1
  have HL : Hid (LS w1 (.slice u1 m1 d1) [] ∧ LS w1 (.slice u2 m2 d2) [⟨p, [⟨1, 1, 5, 0, 0⟩]⟩]) := hL HP.out
  clear HF hL b1
  go_wp2_with fail
  have hA2 : Below w1.heap.size w1 (w1.alloc (.cells #[.slice u1 m1 d1, .slice u2 m2 d2] 55)) := (Below.refl _ _).alloc (Nat.le_refl _) _
  have HI2 : Hid (told.Inv B (w1.alloc (.cells #[.slice u1 m1 d1, .slice u2 m2 d2] 55))) := HI1.out.on hA2
  have HL2 : Hid (LS (w1.alloc (.cells #[.slice u1 m1 d1, .slice u2 m2 d2] 55)) (.slice u1 m1 d1) [] ∧ LS (w1.alloc (.cells #[.slice u1 m1 d1, .slice u2 m2 d2] 55)) (.slice u2 m2 d2) [⟨p, [⟨1, 1, 5, 0, 0⟩]⟩]) := ⟨HL.out.1.below hA2, HL.out.2.below hA2⟩
  clear hA2 HL
  refine (HS.out u1 u2 m1 m2 d1 d2 _ HL2.out.1 HL2.out.2).mono ?_
  rintro x w2 ⟨y1, y2, k1, k2, e1, e2, rfl, b2⟩
  have HI3 : Hid (told.Inv B w2) := HI2.out.on b2
  clear HS b2 HL2 HI2
  go_wp2_with fail
  refine (HE _ (HI3.out.on ((Below.refl _ _).alloc (Nat.le_refl _) _))).mono ?_
  rintro x w3 ⟨rfl, h3⟩
  have HI4 : Hid (told.Inv B w3) := h3
  clear HE h3
  go_wp2_with fail
  go_ret
  exact ⟨rfl, HI4.out⟩

set_option maxRecDepth 100000 in
theorem walk_hi (p q : Int) (B w : World) (h : told.Inv B w) (hp : priceB p = true) (hq : ¬ priceB q = true) (hq1 : 10000 < q) :
    Calls Tryd.prog 5 #[.int .i64 p, .int .i64 q] w fun e w' => e = .returned (.bool true) ∧ told.Inv B w' := by
  have HF := first_any p w
  rw [if_pos hp, errV_zero] at HF
  have HS : Hid (∀ (u1 u2 : Option Addr) (m1 m2 d1 d2 : Nat) (W : World), LS W (.slice u1 m1 d1) [] → LS W (.slice u2 m2 d2) [⟨p, [⟨1, 1, 5, 0, 0⟩]⟩] → Calls Tryd.prog 18 #[.agg #[.slice u1 m1 d1, .slice u2 m2 d2], .int .i64 1, .int .i64 q, .agg #[.int .i64 2, .int .i64 2, .int .i64 5, .int .i64 0, .int .i64 0]] W fun x w' => ∃ u1 u2 m1 m2 d1 d2, x = .returned (.tuple #[.agg #[.slice u1 m1 d1, .slice u2 m2 d2], .iface 65 (.int .i64 1)]) ∧ Below W.heap.size W w') := fun u1 u2 m1 m2 d1 d2 W g1 g2 => by
    have := second_any p q hp u1 u2 m1 m2 d1 d2 W g1 g2
    rw [if_neg hq, errV_of (by omega)] at this
    exact this
  have HE := fun W hW => told.error_any B 1 1 W hW
  simp only [show told.errV 1 = .iface 65 (.int .i64 1) from rfl, show ((1 : Int) == 1) = true from rfl] at HE
  have HI : Hid (told.Inv B w) := h
  have HP : Hid (priceB p = true) := hp
  have hq2 : ¬ q < 1 := by omega
  clear hp hq h
  go_enter Tryd.func5, Tryd.ntmps5
  go_wp2_with fail
  refine HF.mono ?_
  rintro x w1 ⟨u1, u2, m1, m2, d1, d2, rfl, hL, b1⟩
  have HI1 : Hid (told.Inv B w1) := HI.out.on b1
  have HL : Hid (LS w1 (.slice u1 m1 d1) [] ∧ LS w1 (.slice u2 m2 d2) [⟨p, [⟨1, 1, 5, 0, 0⟩]⟩]) := hL HP.out
  clear HF hL b1
  go_wp2_with fail
  have hA2 : Below w1.heap.size w1 (w1.alloc (.cells #[.slice u1 m1 d1, .slice u2 m2 d2] 55)) := (Below.refl _ _).alloc (Nat.le_refl _) _
  have HI2 : Hid (told.Inv B (w1.alloc (.cells #[.slice u1 m1 d1, .slice u2 m2 d2] 55))) := HI1.out.on hA2
  have HL2 : Hid (LS (w1.alloc (.cells #[.slice u1 m1 d1, .slice u2 m2 d2] 55)) (.slice u1 m1 d1) [] ∧ LS (w1.alloc (.cells #[.slice u1 m1 d1, .slice u2 m2 d2] 55)) (.slice u2 m2 d2) [⟨p, [⟨1, 1, 5, 0, 0⟩]⟩]) := ⟨HL.out.1.below hA2, HL.out.2.below hA2⟩
  clear hA2 HL
  refine (HS.out u1 u2 m1 m2 d1 d2 _ HL2.out.1 HL2.out.2).mono ?_
  rintro x w2 ⟨y1, y2, k1, k2, e1, e2, rfl, b2⟩
  have HI3 : Hid (told.Inv B w2) := HI2.out.on b2
  clear HS b2 HL2 HI2
  go_wp2_with fail
  refine (HE _ (HI3.out.on ((Below.refl _ _).alloc (Nat.le_refl _) _))).mono ?_
  rintro x w3 ⟨rfl, h3⟩
  have HI4 : Hid (told.Inv B w3) := h3
  clear HE h3
  go_wp2_with fail
  go_ret
  exact ⟨rfl, HI4.out⟩

set_option maxRecDepth 100000 in
theorem walk_cross (p q : Int) (B w : World) (h : told.Inv B w) (hp : priceB p = true) (hq : priceB q = true) (hx : p ≤ q) :
    Calls Tryd.prog 5 #[.int .i64 p, .int .i64 q] w fun e w' => e = .returned (.bool true) ∧ told.Inv B w' := by
  have HF := first_any p w
  rw [if_pos hp, errV_zero] at HF
  have HS : Hid (∀ (u1 u2 : Option Addr) (m1 m2 d1 d2 : Nat) (W : World), LS W (.slice u1 m1 d1) [] → LS W (.slice u2 m2 d2) [⟨p, [⟨1, 1, 5, 0, 0⟩]⟩] → Calls Tryd.prog 18 #[.agg #[.slice u1 m1 d1, .slice u2 m2 d2], .int .i64 1, .int .i64 q, .agg #[.int .i64 2, .int .i64 2, .int .i64 5, .int .i64 0, .int .i64 0]] W fun x w' => ∃ u1 u2 m1 m2 d1 d2, x = .returned (.tuple #[.agg #[.slice u1 m1 d1, .slice u2 m2 d2], .iface 65 (.int .i64 8)]) ∧ Below W.heap.size W w') := fun u1 u2 m1 m2 d1 d2 W g1 g2 => by
    have := second_any p q hp u1 u2 m1 m2 d1 d2 W g1 g2
    rw [if_pos hq, if_pos hx, errV_of (by omega)] at this
    exact this
  have HE := fun W hW => told.error_any B 8 8 W hW
  simp only [show told.errV 8 = .iface 65 (.int .i64 8) from rfl, show ((8 : Int) == 8) = true from rfl] at HE
  have HI : Hid (told.Inv B w) := h
  have HP : Hid (priceB p = true) := hp
  obtain ⟨hq1, hq2⟩ := price_in hq
  have hq3 : ¬ q < 1 := by omega
  have hq4 : ¬ 10000 < q := by omega
  have hq5 : ¬ q < p := by omega
  have hd1 : decide (p ≤ q) = true := by simp [hx]
  have hd2 : decide (q < p) = false := by simp; omega
  clear hp hq h
  go_enter Tryd.func5, Tryd.ntmps5
  go_wp2_with fail
  refine HF.mono ?_
  rintro x w1 ⟨u1, u2, m1, m2, d1, d2, rfl, hL, b1⟩
  have HI1 : Hid (told.Inv B w1) := HI.out.on b1
  have HL : Hid (LS w1 (.slice u1 m1 d1) [] ∧ LS w1 (.slice u2 m2 d2) [⟨p, [⟨1, 1, 5, 0, 0⟩]⟩]) := hL HP.out
  clear HF hL b1
  go_wp2_with fail
  have hA2 : Below w1.heap.size w1 (w1.alloc (.cells #[.slice u1 m1 d1, .slice u2 m2 d2] 55)) := (Below.refl _ _).alloc (Nat.le_refl _) _
  have HI2 : Hid (told.Inv B (w1.alloc (.cells #[.slice u1 m1 d1, .slice u2 m2 d2] 55))) := HI1.out.on hA2
  have HL2 : Hid (LS (w1.alloc (.cells #[.slice u1 m1 d1, .slice u2 m2 d2] 55)) (.slice u1 m1 d1) [] ∧ LS (w1.alloc (.cells #[.slice u1 m1 d1, .slice u2 m2 d2] 55)) (.slice u2 m2 d2) [⟨p, [⟨1, 1, 5, 0, 0⟩]⟩]) := ⟨HL.out.1.below hA2, HL.out.2.below hA2⟩
  clear hA2 HL
  refine (HS.out u1 u2 m1 m2 d1 d2 _ HL2.out.1 HL2.out.2).mono ?_
  rintro x w2 ⟨y1, y2, k1, k2, e1, e2, rfl, b2⟩
  have HI3 : Hid (told.Inv B w2) := HI2.out.on b2
  clear HS b2 HL2 HI2
  go_wp2_with fail
  refine (HE _ (HI3.out.on ((Below.refl _ _).alloc (Nat.le_refl _) _))).mono ?_
  rintro x w3 ⟨rfl, h3⟩
  have HI4 : Hid (told.Inv B w3) := h3
  clear HE h3
  go_wp2_with fail
  go_ret
  exact ⟨rfl, HI4.out⟩

set_option maxRecDepth 100000 in
theorem walk_fine (p q : Int) (B w : World) (h : told.Inv B w) (hp : priceB p = true) (hq : priceB q = true) (hx : ¬ p ≤ q) :
    Calls Tryd.prog 5 #[.int .i64 p, .int .i64 q] w fun e w' => e = .returned (.bool true) ∧ told.Inv B w' := by
  have HF := first_any p w
  rw [if_pos hp, errV_zero] at HF
  have HS : Hid (∀ (u1 u2 : Option Addr) (m1 m2 d1 d2 : Nat) (W : World), LS W (.slice u1 m1 d1) [] → LS W (.slice u2 m2 d2) [⟨p, [⟨1, 1, 5, 0, 0⟩]⟩] → Calls Tryd.prog 18 #[.agg #[.slice u1 m1 d1, .slice u2 m2 d2], .int .i64 1, .int .i64 q, .agg #[.int .i64 2, .int .i64 2, .int .i64 5, .int .i64 0, .int .i64 0]] W fun x w' => ∃ u1 u2 m1 m2 d1 d2, x = .returned (.tuple #[.agg #[.slice u1 m1 d1, .slice u2 m2 d2], .nilIface]) ∧ Below W.heap.size W w') := fun u1 u2 m1 m2 d1 d2 W g1 g2 => by
    have := second_any p q hp u1 u2 m1 m2 d1 d2 W g1 g2
    rw [if_pos hq, if_neg hx, errV_zero] at this
    exact this
  have HE := fun W hW => told.error_any B 0 8 W hW
  simp only [show told.errV 0 = .nilIface from rfl, show ((0 : Int) == 8) = false from rfl] at HE
  have HI : Hid (told.Inv B w) := h
  have HP : Hid (priceB p = true) := hp
  obtain ⟨hq1, hq2⟩ := price_in hq
  have hq3 : ¬ q < 1 := by omega
  have hq4 : ¬ 10000 < q := by omega
  have hq5 : q < p := by omega
  have hd1 : decide (p ≤ q) = false := by simp [hx]
  have hd2 : decide (q < p) = true := by simp; omega
  clear hp hq h
  go_enter Tryd.func5, Tryd.ntmps5
  go_wp2_with fail
  refine HF.mono ?_
  rintro x w1 ⟨u1, u2, m1, m2, d1, d2, rfl, hL, b1⟩
  have HI1 : Hid (told.Inv B w1) := HI.out.on b1
  have HL : Hid (LS w1 (.slice u1 m1 d1) [] ∧ LS w1 (.slice u2 m2 d2) [⟨p, [⟨1, 1, 5, 0, 0⟩]⟩]) := hL HP.out
  clear HF hL b1
  go_wp2_with fail
  have hA2 : Below w1.heap.size w1 (w1.alloc (.cells #[.slice u1 m1 d1, .slice u2 m2 d2] 55)) := (Below.refl _ _).alloc (Nat.le_refl _) _
  have HI2 : Hid (told.Inv B (w1.alloc (.cells #[.slice u1 m1 d1, .slice u2 m2 d2] 55))) := HI1.out.on hA2
  have HL2 : Hid (LS (w1.alloc (.cells #[.slice u1 m1 d1, .slice u2 m2 d2] 55)) (.slice u1 m1 d1) [] ∧ LS (w1.alloc (.cells #[.slice u1 m1 d1, .slice u2 m2 d2] 55)) (.slice u2 m2 d2) [⟨p, [⟨1, 1, 5, 0, 0⟩]⟩]) := ⟨HL.out.1.below hA2, HL.out.2.below hA2⟩
  clear hA2 HL
  refine (HS.out u1 u2 m1 m2 d1 d2 _ HL2.out.1 HL2.out.2).mono ?_
  rintro x w2 ⟨y1, y2, k1, k2, e1, e2, rfl, b2⟩
  have HI3 : Hid (told.Inv B w2) := HI2.out.on b2
  clear HS b2 HL2 HI2
  go_wp2_with fail
  refine (HE _ (HI3.out.on ((Below.refl _ _).alloc (Nat.le_refl _) _))).mono ?_
  rintro x w3 ⟨rfl, h3⟩
  have HI4 : Hid (told.Inv B w3) := h3
  clear HE h3
  go_wp2_with fail
  go_ret
  exact ⟨rfl, HI4.out⟩

theorem walk (p q : Int) {B : World} (w : World) (h : told.Inv B w) :
    Calls Tryd.prog 5 #[.int .i64 p, .int .i64 q] w fun e w' => e = .returned (.bool true) ∧ told.Inv B w' := by
  by_cases hp : priceB p = true
  · by_cases hq : priceB q = true
    · by_cases hx : p ≤ q
      · exact walk_cross p q B w h hp hq hx
      · exact walk_fine p q B w h hp hq hx
    · rcases price_out hq with hq1 | hq1
      · exact walk_lo p q B w h hp hq hq1
      · exact walk_hi p q B w h hp hq hq1
  · exact walk_out p q B w h hp
end Go.Proofs.YtfjabgomakjepaaDoor.bookApart
