/- Contracts over this seat's translation: package order's first, with its two closures, and takePart. -/
import Derived.Test.YtpcomgnglidhhaaGreatDoorOrdSplit
import Derived.Deep.QuietTactic
import Derived.BigQuiet
namespace Go.Proofs.YtpcomgnglidhhaaGreatDoor.ord
open Go.RowKit

theorem toList_mk (l : List UInt8) : (⟨l.toArray⟩ : ByteArray).toList = l := by rw [Lib.toList_data]

attribute [local go_sem ↓] Go.wp_at_zero Go.wp_at_succ

set_option maxRecDepth 100000 in
theorem side_closure (B n g len cap : Nat) (x : List UInt8) (W : World) (hw : W.cell? ⟨B, 0, none⟩ = some (.slice (some ⟨g, 0, none⟩) len cap)) (h2 : W.cell? ⟨g, 2, none⟩ = some (.string ⟨x.toArray⟩)) (hlen : 5 ≤ len)
    (hn : n < 3) (hs : W.cell? ⟨0, n, none⟩ = some (.string ⟨(sideW n).toArray⟩)) :
    Calls Tryz.prog 43 #[.int .i64 n, .pointer (some ⟨B, 0, none⟩)] W fun e w' => e = .returned (.bool (sideW n == x)) ∧ Below W.heap.size W w' := by
  have g1 : (0 : Int) ≤ (n : Int) := by omega
  have g2 : (n : Int) < 3 := by omega
  have g3 : (2 : Int) < (len : Int) := by omega
  have HE : Hid ((sideW n == x) = ((⟨(sideW n).toArray⟩ : ByteArray).toList == (⟨x.toArray⟩ : ByteArray).toList)) := by
    show _ = _
    rw [toList_mk, toList_mk]
  generalize (sideW n == x) = r at HE ⊢
  generalize (⟨(sideW n).toArray⟩ : ByteArray) = a at *
  generalize (⟨x.toArray⟩ : ByteArray) = b at *
  go_enter Tryz.func43, Tryz.ntmps43
  go_wp2_with fail
  go_region_held3 (fun w' => w'.cell? ⟨B, 0, none⟩ = some (.slice (some ⟨g, 0, none⟩) len cap) ∧ w'.cell? ⟨g, 2, none⟩ = some (.string b) ∧ w'.cell? ⟨0, n, none⟩ = some (.string a)) (go_keep) (fail)
  all_goals go_wp2
  all_goals go_ret
  all_goals exact ⟨by rw [HE.out]; rfl, (Below.refl _ _).drew⟩

set_option maxRecDepth 100000 in
theorem kind_closure (B n g len cap : Nat) (x : List UInt8) (W : World) (hw : W.cell? ⟨B, 0, none⟩ = some (.slice (some ⟨g, 0, none⟩) len cap)) (h2 : W.cell? ⟨g, 3, none⟩ = some (.string ⟨x.toArray⟩)) (hlen : 5 ≤ len)
    (hn : n < 6) (hs : W.cell? ⟨1, n, none⟩ = some (.string ⟨(kindW n).toArray⟩)) :
    Calls Tryz.prog 44 #[.int .i64 n, .pointer (some ⟨B, 0, none⟩)] W fun e w' => e = .returned (.bool (kindW n == x)) ∧ Below W.heap.size W w' := by
  have g1 : (0 : Int) ≤ (n : Int) := by omega
  have g2 : (n : Int) < 6 := by omega
  have g3 : (3 : Int) < (len : Int) := by omega
  have HE : Hid ((kindW n == x) = ((⟨(kindW n).toArray⟩ : ByteArray).toList == (⟨x.toArray⟩ : ByteArray).toList)) := by
    show _ = _
    rw [toList_mk, toList_mk]
  generalize (kindW n == x) = r at HE ⊢
  generalize (⟨(kindW n).toArray⟩ : ByteArray) = a at *
  generalize (⟨x.toArray⟩ : ByteArray) = b at *
  go_enter Tryz.func44, Tryz.ntmps44
  go_wp2_with fail
  go_region_held3 (fun w' => w'.cell? ⟨B, 0, none⟩ = some (.slice (some ⟨g, 0, none⟩) len cap) ∧ w'.cell? ⟨g, 3, none⟩ = some (.string b) ∧ w'.cell? ⟨1, n, none⟩ = some (.string a)) (go_keep) (fail)
  all_goals go_wp2
  all_goals go_ret
  all_goals exact ⟨by rw [HE.out]; rfl, (Below.refl _ _).drew⟩

/-- The first number of which something is so, 0 if there is none. -/
def IsFirst (p : Nat → Bool) (last r : Nat) : Prop := (r = 0 ∧ ∀ j, 1 ≤ j → j ≤ last → p j = false) ∨ (1 ≤ r ∧ r ≤ last ∧ p r = true ∧ ∀ j, 1 ≤ j → j < r → p j = false)

set_option maxRecDepth 100000 in
set_option maxHeartbeats 1000000 in
theorem first_any (gf last : Nat) (lb : Array Value) (p : Nat → Bool) (w : World) (hl : last ≤ 100) (eg : ∀ args w, (callFunc gf args).run Tryz.prog w = .ok (.enter gf args) w)
    (hp : ∀ (W : World) (n : Nat), Below w.heap.size w W → 1 ≤ n → n ≤ last → Calls Tryz.prog gf (#[.int .i64 n] ++ lb) W fun e w' => e = .returned (.bool (p n)) ∧ Below W.heap.size W w') :
    Calls Tryz.prog 42 #[.int .i64 last, .func (.func gf) #[] lb] w fun e w' => (∃ r : Nat, e = .returned (.int .i64 r) ∧ IsFirst p last r) ∧ Below w.heap.size w w' := by
  have HP : Hid (∀ (W : World) (n : Nat), Below w.heap.size w W → 1 ≤ n → n ≤ last → Calls Tryz.prog gf (#[.int .i64 n] ++ lb) W fun e w' => e = .returned (.bool (p n)) ∧ Below W.heap.size W w') := hp
  clear hp
  go_enter Tryz.func42, Tryz.ntmps42
  go_wp2_with fail
  go_loopw [5] (fun i wr => ∃ k : Nat, 1 ≤ k ∧ k ≤ last + 1 ∧ i = .int .i64 k ∧ Hid (∀ j, 1 ≤ j → j < k → p j = false) ∧ Hid (Below w.heap.size w wr)) (fun i _ => last + 1 - (intOf i).toNat)
  case atStart => exact ⟨1, Nat.le_refl _, by omega, rfl, (show Hid _ from fun j h1 h2 => by omega), Below.refl _ _⟩
  case round =>
    obtain ⟨k, h1, h2, rfl, HJ, HB⟩ := hrel
    by_cases hk : k ≤ last
    · have hkI : (k : Int) ≤ (last : Int) := by omega
      have hcall := HP.out wr k HB.out h1 hk
      cases hq : p k with
      | true =>
        rw [hq] at hcall
        go_wp2_with (go_at_fn gf; refine hcall.mono ?_; rintro e w' ⟨rfl, hb'⟩)
        go_ret
        exact ⟨⟨k, rfl, Or.inr ⟨h1, hk, hq, HJ.out⟩⟩, HB.out.trans (hb'.mono HB.out.size)⟩
      | false =>
        rw [hq] at hcall
        go_wp2_with (go_at_fn gf; refine hcall.mono ?_; rintro e w' ⟨rfl, hb'⟩)
        go_roundw
        case rel =>
          refine ⟨k + 1, by omega, by omega, by go_num, (show Hid _ from fun j hj1 hj2 => ?_), HB.out.trans (hb'.mono HB.out.size)⟩
          by_cases e : j = k
          · rw [e]; exact hq
          · exact HJ.out j hj1 (by omega)
        case measure => simp [intOf]; omega
    · have hkI : ¬ ((k : Int) ≤ (last : Int)) := by omega
      go_wp2_with fail
      go_ret
      exact ⟨⟨0, rfl, Or.inl ⟨rfl, fun j hj1 hj2 => HJ.out j hj1 (by omega)⟩⟩, HB.out⟩

theorem isFirst_side {x : List UInt8} {r : Nat} (h : IsFirst (fun n => sideW n == x) 2 r) : r = sideN x := by
  unfold sideN
  rcases h with ⟨rfl, h⟩ | ⟨h1, h2, h3, h4⟩
  · have a := h 1 (by omega) (by omega)
    have b := h 2 (by omega) (by omega)
    have a' : x ≠ wBuy := fun e => by subst e; simp [sideW] at a
    have b' : x ≠ wSell := fun e => by subst e; simp [sideW] at b
    rw [if_neg a', if_neg b']
  · have : r = 1 ∨ r = 2 := by omega
    rcases this with rfl | rfl
    · have e : x = wBuy := by simpa [sideW] using (beq_iff_eq.1 h3).symm
      rw [if_pos e]
    · have e : x = wSell := by simpa [sideW] using (beq_iff_eq.1 h3).symm
      rw [if_neg (by rw [e]; decide), if_pos e]

theorem isFirst_kind {x : List UInt8} {r : Nat} (h : IsFirst (fun n => kindW n == x) 5 r) : r = kindN x := by
  unfold kindN
  rcases h with ⟨rfl, h⟩ | ⟨h1, h2, h3, h4⟩
  · have a1 := h 1 (by omega) (by omega)
    have a2 := h 2 (by omega) (by omega)
    have a3 := h 3 (by omega) (by omega)
    have a4 := h 4 (by omega) (by omega)
    have a5 := h 5 (by omega) (by omega)
    have b1 : x ≠ wLimit := fun e => by subst e; simp [kindW] at a1
    have b2 : x ≠ wMarket := fun e => by subst e; simp [kindW] at a2
    have b3 : x ≠ wNow := fun e => by subst e; simp [kindW] at a3
    have b4 : x ≠ wWhole := fun e => by subst e; simp [kindW] at a4
    have b5 : x ≠ wPost := fun e => by subst e; simp [kindW] at a5
    rw [if_neg b1, if_neg b2, if_neg b3, if_neg b4, if_neg b5]
  · have : r = 1 ∨ r = 2 ∨ r = 3 ∨ r = 4 ∨ r = 5 := by omega
    rcases this with rfl | rfl | rfl | rfl | rfl
    · have e : x = wLimit := by simpa [kindW] using (beq_iff_eq.1 h3).symm
      rw [if_pos e]
    · have e : x = wMarket := by simpa [kindW] using (beq_iff_eq.1 h3).symm
      rw [e]; decide
    · have e : x = wNow := by simpa [kindW] using (beq_iff_eq.1 h3).symm
      rw [e]; decide
    · have e : x = wWhole := by simpa [kindW] using (beq_iff_eq.1 h3).symm
      rw [e]; decide
    · have e : x = wPost := by simpa [kindW] using (beq_iff_eq.1 h3).symm
      rw [e]; decide

theorem sideCell {W : World} (h : Laid W) (n : Nat) (h1 : 1 ≤ n) (h2 : n ≤ 2) : W.cell? ⟨0, n, none⟩ = some (.string ⟨(sideW n).toArray⟩) := by
  have : n = 1 ∨ n = 2 := by omega
  rcases this with rfl | rfl
  · exact h.s1
  · exact h.s2
theorem kindCell {W : World} (h : Laid W) (n : Nat) (h1 : 1 ≤ n) (h2 : n ≤ 5) : W.cell? ⟨1, n, none⟩ = some (.string ⟨(kindW n).toArray⟩) := by
  have : n = 1 ∨ n = 2 ∨ n = 3 ∨ n = 4 ∨ n = 5 := by omega
  rcases this with rfl | rfl | rfl | rfl | rfl
  · exact h.k1
  · exact h.k2
  · exact h.k3
  · exact h.k4
  · exact h.k5

theorem first_side (B g len cap : Nat) (x : List UInt8) (w : World) (hL : Laid w) (hw : w.cell? ⟨B, 0, none⟩ = some (.slice (some ⟨g, 0, none⟩) len cap)) (h2 : w.cell? ⟨g, 2, none⟩ = some (.string ⟨x.toArray⟩)) (hlen : 5 ≤ len) :
    Calls Tryz.prog 42 #[.int .i64 2, .func (.func 43) #[] #[.pointer (some ⟨B, 0, none⟩)]] w fun e w' => e = .returned (.int .i64 (sideN x)) ∧ Below w.heap.size w w' := by
  refine (first_any 43 2 #[.pointer (some ⟨B, 0, none⟩)] (fun n => sideW n == x) w (by omega) (enters_of Tryz.func43 (by kernel_rfl) rfl) ?_).mono ?_
  · intro W n hb h1 hn
    exact side_closure B n g len cap x W (keeps hb hw) (keeps hb h2) hlen (by omega) (sideCell (hL.below hb) n h1 hn)
  · rintro e w' ⟨⟨r, rfl, hr⟩, hb⟩
    rw [isFirst_side hr]
    exact ⟨rfl, hb⟩
theorem first_kind (B g len cap : Nat) (x : List UInt8) (w : World) (hL : Laid w) (hw : w.cell? ⟨B, 0, none⟩ = some (.slice (some ⟨g, 0, none⟩) len cap)) (h2 : w.cell? ⟨g, 3, none⟩ = some (.string ⟨x.toArray⟩)) (hlen : 5 ≤ len) :
    Calls Tryz.prog 42 #[.int .i64 5, .func (.func 44) #[] #[.pointer (some ⟨B, 0, none⟩)]] w fun e w' => e = .returned (.int .i64 (kindN x)) ∧ Below w.heap.size w w' := by
  refine (first_any 44 5 #[.pointer (some ⟨B, 0, none⟩)] (fun n => kindW n == x) w (by omega) (enters_of Tryz.func44 (by kernel_rfl) rfl) ?_).mono ?_
  · intro W n hb h1 hn
    exact kind_closure B n g len cap x W (keeps hb hw) (keeps hb h2) hlen (by omega) (kindCell (hL.below hb) n h1 hn)
  · rintro e w' ⟨⟨r, rfl, hr⟩, hb⟩
    rw [isFirst_kind hr]
    exact ⟨rfl, hb⟩

end Go.Proofs.YtpcomgnglidhhaaGreatDoor.ord
