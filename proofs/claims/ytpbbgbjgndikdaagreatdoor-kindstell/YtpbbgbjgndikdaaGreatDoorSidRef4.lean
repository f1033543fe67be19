/- Contracts over this seat's translation: the document's Price, Side, Ahead. Contracts over this seat's translation: the document's Twice. -/
import Derived.Test.YtpbbgbjgndikdaaGreatDoorQueRefQ
namespace Go.Proofs.YtpbbgbjgndikdaaGreatDoor.sid
open Go.RowKit Go.Proofs.YtpbbgbjgndikdaaGreatDoor.spn Go.Proofs.YtpbbgbjgndikdaaGreatDoor.que
open Go.Proofs.YtpbbgbjgndikdaaGreatDoor.tickP (priceB sideB betOk betR)

theorem rprice_any (p : Int) (w : World) : Calls Tryz.prog 60 #[.int .i64 p] w fun e w' => e = .returned (.bool (priceB p)) ∧ w' = w := by
  have e : priceB p = (decide (1 ≤ p) && decide (p ≤ 10000)) := rfl
  rw [e]
  by_cases h1 : 1 ≤ p
  · by_cases h2 : p ≤ 10000
    · rw [decide_eq_true h1, decide_eq_true h2]
      go_enter Tryz.func60, Tryz.ntmps60
      go_wp2
      go_ret
      exact ⟨rfl, rfl⟩
    · rw [decide_eq_true h1, decide_eq_false h2]
      go_enter Tryz.func60, Tryz.ntmps60
      go_wp2
      go_ret
      exact ⟨rfl, rfl⟩
  · rw [decide_eq_false h1]
    go_enter Tryz.func60, Tryz.ntmps60
    go_wp2
    go_ret
    exact ⟨rfl, rfl⟩
theorem rside_any (s : Int) (w : World) : Calls Tryz.prog 14 #[.int .i64 s] w fun e w' => e = .returned (.bool (sideB s)) ∧ w' = w := by
  have e : sideB s = (decide (s = 1) || decide (s = 2)) := rfl
  rw [e]
  by_cases h1 : s = 1
  · subst h1
    go_enter Tryz.func14, Tryz.ntmps14
    go_wp2
    go_ret
    exact ⟨rfl, rfl⟩
  · by_cases h2 : s = 2
    · subst h2
      go_enter Tryz.func14, Tryz.ntmps14
      go_wp2
      go_ret
      exact ⟨rfl, rfl⟩
    · have b1 : (s == 1) = false := by simp [h1]
      have b2 : (s == 2) = false := by simp [h2]
      rw [decide_eq_false h1, decide_eq_false h2]
      go_enter Tryz.func14, Tryz.ntmps14
      go_wp2
      go_ret
      exact ⟨rfl, rfl⟩
theorem retB {a b : Bool} (h : a = b) : Ending.returned (.bool a) = .returned (.bool b) := by rw [h]
/-- Is a price better than another one for who comes from a side? -/
def aheadB (s a b : Int) : Bool := if s = 1 then decide (a < b) else if s = 2 then decide (b < a) else false
theorem ref_ahead (s a b : Int) (w : World) :
    Calls Tryz.prog 65 #[.int .i64 s, .int .i64 a, .int .i64 b] w fun e w' => e = .returned (.bool (aheadB s a b)) ∧ w' = w := by
  by_cases h : s = 1
  · subst h
    by_cases hab : a < b
    all_goals
      go_enter Tryz.func65, Tryz.ntmps65
      go_wp2
      go_ret
      exact ⟨retB (by simp [aheadB, hab]), rfl⟩
  · have h1 : (s == 1) = false := by simp; omega
    by_cases h2 : s = 2
    · subst h2
      go_enter Tryz.func65, Tryz.ntmps65
      go_wp2
      go_ret
      exact ⟨retB (by simp [aheadB]), rfl⟩
    · have h3 : (s == 2) = false := by simp; omega
      go_enter Tryz.func65, Tryz.ntmps65
      go_wp2
      go_ret
      exact ⟨retB (by simp [aheadB, h, h2]), rfl⟩
/-- At prices that may be, the document's order is the program's. -/
theorem ahead_lead {s a b : Int} (hs : sideB s = true) (ha : priceB a = true) (hb : priceB b = true) : aheadB (wrap64 (3 - s)) a b = leadB s a b := by
  simp [sideB] at hs
  rcases hs with rfl | rfl
  · have e : wrap64 (3 - 1) = 2 := by unfold wrap64; omega
    unfold leadB betR betOk aheadB
    rw [e, ha, hb]; simp [sideB]
  · have e : wrap64 (3 - 2) = 1 := by unfold wrap64; omega
    unfold leadB betR betOk aheadB
    rw [e, ha, hb]; simp [sideB]
end Go.Proofs.YtpbbgbjgndikdaaGreatDoor.sid
namespace Go.Proofs.YtpbbgbjgndikdaaGreatDoor.sid
open Go.RowKit Go.Proofs.YtpbbgbjgndikdaaGreatDoor.spn Go.Proofs.YtpbbgbjgndikdaaGreatDoor.que

def idsR (zs : List R) : List Int := zs.map (·.id)
theorem nodup_more {zs : List R} {k : Nat} (hk : k < zs.length) {r : R} (hr : zs[k]! = r) (h : (idsR (zs.take k)).Nodup) (hx : ¬ 0 ≤ idx r.id (zs.take k)) : (idsR (zs.take (k + 1))).Nodup := by
  have h1 : has r.id (zs.take k) = false := by rw [has_idx, decide_eq_false hx]
  rw [has_false] at h1
  unfold idsR at h ⊢
  rw [take_at hk, hr, List.map_append, List.nodup_append]
  refine ⟨h, by simp, ?_⟩
  intro a ha b hb e
  simp at hb
  rw [e, hb] at ha
  exact h1 ha
theorem nodup_not {zs : List R} {k : Nat} (hk : k < zs.length) {r : R} (hr : zs[k]! = r) (hx : 0 ≤ idx r.id (zs.take k)) : ¬ (idsR zs).Nodup := by
  intro h
  have h1 : ¬ has r.id (zs.take k) = false := by rw [has_idx, decide_eq_true hx]; simp
  rw [has_false] at h1
  apply h1
  intro hm
  have e : idsR zs = (zs.take k).map (·.id) ++ (zs.drop k).map (·.id) := by unfold idsR; rw [← List.map_append, List.take_append_drop]
  rw [e, List.nodup_append] at h
  exact h.2.2 _ hm _ (by rw [drop_at hk, hr]; simp) rfl

set_option maxRecDepth 100000 in
set_option maxHeartbeats 1000000 in
theorem rtwice_some (b o c : Nat) (zs : List R) (w : World) (hb : b < w.heap.size) (hc : zs.length ≤ c) (hm : c ≤ 9223372036854775807) (hl : Lies w b o zs) :
    Calls Tryz.prog 66 #[.slice (some ⟨b, o, none⟩) zs.length c] w fun e w' => e = .returned (.bool (decide (¬ (idsR zs).Nodup))) ∧ Below w.heap.size w w' := by
  generalize hT : decide (¬ (idsR zs).Nodup) = T
  have HT : Hid (decide (¬ (idsR zs).Nodup) = T) := hT
  clear hT
  have HL : Hid (Lies w b o zs) := hl
  clear hl
  generalize hn : zs.length = n at *
  have HN : Hid (zs.length = n) := hn
  clear hn
  go_enter Tryz.func66, Tryz.ntmps66
  go_wp2_with fail
  go_loopg [3] n (fun gg s3 wr => ∃ kk : Nat, kk ≤ n ∧ n - kk ≤ gg ∧ s3 = .int .i64 kk ∧ Aside (Below w.heap.size w wr) ∧ Aside ((idsR (zs.take kk)).Nodup))
  case atStart => exact ⟨0, Nat.zero_le _, by omega, rfl, Below.refl _ _, by rw [List.take_zero]; exact List.nodup_nil⟩
  case round =>
    obtain ⟨kk, hkk, hg, rfl, BW, A⟩ := hrel
    by_cases hlt : kk < n
    · have hltz : (kk : Int) < (n : Int) := by omega
      have hlz : kk < zs.length := by rw [HN.out]; exact hlt
      obtain ⟨r, hr⟩ : ∃ r, zs[kk]! = r := ⟨_, rfl⟩
      have hmore := nodup_more hlz hr A.out
      have hnot := nodup_not hlz hr
      obtain ⟨r1, r2, r3, r4, r5⟩ := r
      obtain ⟨c0, c1, c2, c3, c4⟩ := lies_at (HL.out.below hb BW.out) hlz hr
      simp only [] at hmore hnot
      have HMORE : Hid (¬ 0 ≤ idx r1 (zs.take kk) → (idsR (zs.take (kk + 1))).Nodup) := hmore
      have HNOT : Hid (0 ≤ idx r1 (zs.take kk) → ¬ (idsR zs).Nodup) := hnot
      have hin1 : ¬ ((kk : Int) < 0) := by omega
      have hkc : ¬ ((c : Int) < (kk : Int)) := by omega
      have hkc2 : (kk : Int) ≤ (c : Int) := by omega
      have e1 := wrapSucc kk n hlt (by omega)
      have HIN : Hid (∀ W, SL W (.slice (some ⟨b, o, none⟩) kk c) (zs.take kk) → Calls Tryz.prog 82 #[.slice (some ⟨b, o, none⟩) kk c, .int .i64 r1] W fun e w' => e = .returned (.int .i64 (idx r1 (zs.take kk))) ∧ w' = W) := fun W h => in_any _ _ r1 W h
      have HSL : Hid (∀ q, SL (wr.drewN q) (.slice (some ⟨b, o, none⟩) kk c) (zs.take kk)) := fun q =>
        (sl_take (by rw [HN.out]; exact hkk) (by rw [HN.out]; exact hc) hm hb HL.out).below (belowN BW.out q)
      clear hr hmore hnot A
      generalize idx r1 (zs.take kk) = m at *
      by_cases hm0 : 0 ≤ m
      · have HX : Hid (T = true) := by rw [← HT.out]; exact decide_eq_true (HNOT.out hm0)
        go_wp2_with fail
        go_quiet ((go_at_call 82; exact Calls.quiet_of_same (HIN.out _ (HSL.out _))))
        go_wp2_with fail
        go_ret
        exact ⟨by rw [HX.out]; rfl, belowN BW.out _⟩
      · have HX : Hid ((idsR (zs.take (kk + 1))).Nodup) := HMORE.out hm0
        go_wp2_with fail
        go_quiet ((go_at_call 82; exact Calls.quiet_of_same (HIN.out _ (HSL.out _))))
        go_wp2_with fail
        go_roundg (n - (kk + 1))
        case measure => clear e1; omega
        case rel => exact ⟨kk + 1, hlt, Nat.le_refl _, by go_num, belowN BW.out _, HX.out⟩
    · have hltz : ¬ (kk : Int) < (n : Int) := by omega
      have hk : kk = n := by omega
      have HX : Hid (T = false) := by
        have h := A.out
        rw [List.take_of_length_le (by rw [HN.out]; omega)] at h
        rw [← HT.out]
        exact decide_eq_false (fun hn => hn h)
      clear A hk
      go_wp2_with fail
      go_ret
      exact ⟨by rw [HX.out]; rfl, BW.out⟩
end Go.Proofs.YtpbbgbjgndikdaaGreatDoor.sid
