/- Contracts over this seat's translation: the document's Rest, In, Queue and Total. -/
import Derived.Test.YtpbbgbjgndikdaaGreatDoorQueSame
namespace Go.Proofs.YtpbbgbjgndikdaaGreatDoor.que
open Go.RowKit Go.Proofs.YtpbbgbjgndikdaaGreatDoor.spn

theorem ret_int {a b : Int} (h : a = b) : Ending.returned (.int .i64 a) = .returned (.int .i64 b) := by rw [h]

theorem rchk_out {r : R} (h : ¬ ((1 ≤ r.id ∧ r.id ≤ 9999) ∧ (1 ≤ r.who ∧ r.who ≤ 9) ∧ (1 ≤ r.qty ∧ r.qty ≤ 10000) ∧ (0 ≤ r.hid ∧ r.hid ≤ 10000) ∧ (0 ≤ r.shw ∧ r.shw ≤ 10000))) : rchk r = 1 := by
  unfold rchk
  rw [if_neg]
  intro h1
  simp only [rangeB, Bool.and_eq_true, inB_iff] at h1
  exact h ⟨h1.1.1.1.1, h1.1.1.1.2, h1.1.1.2, h1.1.2, h1.2⟩
theorem rchk_in {r : R} (h : (1 ≤ r.id ∧ r.id ≤ 9999) ∧ (1 ≤ r.who ∧ r.who ≤ 9) ∧ (1 ≤ r.qty ∧ r.qty ≤ 10000) ∧ (0 ≤ r.hid ∧ r.hid ≤ 10000) ∧ (0 ≤ r.shw ∧ r.shw ≤ 10000)) (h2 : (r.shw = 0 ∧ r.hid ≠ 0) ∨ (r.shw ≠ 0 ∧ r.shw < r.qty)) : rchk r = 3 := by
  have h1 : rangeB r = true := by
    simp only [rangeB, Bool.and_eq_true, inB_iff]
    exact ⟨⟨⟨⟨h.1, h.2.1⟩, h.2.2.1⟩, h.2.2.2.1⟩, h.2.2.2.2⟩
  unfold rchk
  rw [if_pos h1, if_neg]
  intro hs
  simp only [shapeB, Bool.and_eq_true, Bool.not_eq_true', Bool.and_eq_false_iff, decide_eq_false_iff_not, Bool.not_eq_false', decide_eq_true_eq] at hs
  omega

set_option maxHeartbeats 1000000 in
theorem rrest_any (a b c d e : Int) (w : World) :
    Calls Tryz.prog 75 #[.agg #[.int .i64 a, .int .i64 b, .int .i64 c, .int .i64 d, .int .i64 e]] w fun x w' => x = .returned (.int .i64 (rchk ⟨a, b, c, d, e⟩)) ∧ Below w.heap.size w w' := by
  by_cases g1 : a < 1
  · rw [rchk_out (r := ⟨a, b, c, d, e⟩) (by simp only []; omega)]
    go_enter Tryz.func75, Tryz.ntmps75
    go_wp2
    go_ret
    exact ⟨rfl, (Below.refl _ _).alloc (Nat.le_refl _) _⟩
  by_cases g2 : 9999 < a
  · rw [rchk_out (r := ⟨a, b, c, d, e⟩) (by simp only []; omega)]
    go_enter Tryz.func75, Tryz.ntmps75
    go_wp2
    go_ret
    exact ⟨rfl, (Below.refl _ _).alloc (Nat.le_refl _) _⟩
  by_cases g3 : b < 1
  · rw [rchk_out (r := ⟨a, b, c, d, e⟩) (by simp only []; omega)]
    go_enter Tryz.func75, Tryz.ntmps75
    go_wp2
    go_ret
    exact ⟨rfl, (Below.refl _ _).alloc (Nat.le_refl _) _⟩
  by_cases g4 : 9 < b
  · rw [rchk_out (r := ⟨a, b, c, d, e⟩) (by simp only []; omega)]
    go_enter Tryz.func75, Tryz.ntmps75
    go_wp2
    go_ret
    exact ⟨rfl, (Below.refl _ _).alloc (Nat.le_refl _) _⟩
  by_cases g5 : c < 1
  · rw [rchk_out (r := ⟨a, b, c, d, e⟩) (by simp only []; omega)]
    go_enter Tryz.func75, Tryz.ntmps75
    go_wp2
    go_ret
    exact ⟨rfl, (Below.refl _ _).alloc (Nat.le_refl _) _⟩
  by_cases g6 : 10000 < c
  · rw [rchk_out (r := ⟨a, b, c, d, e⟩) (by simp only []; omega)]
    go_enter Tryz.func75, Tryz.ntmps75
    go_wp2
    go_ret
    exact ⟨rfl, (Below.refl _ _).alloc (Nat.le_refl _) _⟩
  by_cases g7 : d < 0
  · rw [rchk_out (r := ⟨a, b, c, d, e⟩) (by simp only []; omega)]
    go_enter Tryz.func75, Tryz.ntmps75
    go_wp2
    go_ret
    exact ⟨rfl, (Below.refl _ _).alloc (Nat.le_refl _) _⟩
  by_cases g8 : 10000 < d
  · rw [rchk_out (r := ⟨a, b, c, d, e⟩) (by simp only []; omega)]
    go_enter Tryz.func75, Tryz.ntmps75
    go_wp2
    go_ret
    exact ⟨rfl, (Below.refl _ _).alloc (Nat.le_refl _) _⟩
  by_cases g9 : e < 0
  · rw [rchk_out (r := ⟨a, b, c, d, e⟩) (by simp only []; omega)]
    go_enter Tryz.func75, Tryz.ntmps75
    go_wp2
    go_ret
    exact ⟨rfl, (Below.refl _ _).alloc (Nat.le_refl _) _⟩
  by_cases g10 : 10000 < e
  · rw [rchk_out (r := ⟨a, b, c, d, e⟩) (by simp only []; omega)]
    go_enter Tryz.func75, Tryz.ntmps75
    go_wp2
    go_ret
    exact ⟨rfl, (Below.refl _ _).alloc (Nat.le_refl _) _⟩
  by_cases g11 : e = 0
  · subst g11
    by_cases g12 : d = 0
    · subst g12
      rw [rchk_of (r := ⟨a, b, c, 0, 0⟩) ⟨by simp only []; omega, by simp only []; omega, by simp only []; omega, fun _ => rfl, fun h => absurd rfl h, by simp only []; omega, by simp only []; omega⟩]
      go_enter Tryz.func75, Tryz.ntmps75
      go_wp2
      go_ret
      exact ⟨rfl, (Below.refl _ _).alloc (Nat.le_refl _) _⟩
    · rw [rchk_in (r := ⟨a, b, c, d, 0⟩) (by simp only []; omega) (.inl ⟨rfl, g12⟩)]
      have g13 : (d != 0) = true := by simp [g12]
      go_enter Tryz.func75, Tryz.ntmps75
      go_wp2
      go_ret
      exact ⟨rfl, (Below.refl _ _).alloc (Nat.le_refl _) _⟩
  · have g14 : (e == 0) = false := by simp [g11]
    have g15 : (e != 0) = true := by simp [g11]
    by_cases g16 : e < c
    · rw [rchk_in (r := ⟨a, b, c, d, e⟩) (by simp only []; omega) (.inr ⟨g11, g16⟩)]
      go_enter Tryz.func75, Tryz.ntmps75
      go_wp2
      go_ret
      exact ⟨rfl, (Below.refl _ _).alloc (Nat.le_refl _) _⟩
    · rw [rchk_of (r := ⟨a, b, c, d, e⟩) ⟨by simp only []; omega, by simp only []; omega, by simp only []; omega, fun h => absurd h g11, fun _ => (by simp only []; omega), by simp only []; omega, by simp only []; omega⟩]
      go_enter Tryz.func75, Tryz.ntmps75
      go_wp2
      go_ret
      exact ⟨rfl, (Below.refl _ _).alloc (Nat.le_refl _) _⟩

/-! ### In -/
def sh (k : Nat) (m : Int) : Int := if m < 0 then -1 else (k : Int) + m
theorem sh_start (id : Int) (zs : List R) : idx id zs = sh 0 (idx id (zs.drop 0)) := by
  have := idx_ge id zs
  unfold sh
  rw [List.drop_zero]
  split <;> omega
theorem sh_step {id : Int} {zs : List R} {k : Nat} {Q : Int} (h : Q = sh k (idx id (zs.drop k))) (hk : k < zs.length) (hn : ¬ (zs[k]!).id = id) : Q = sh (k + 1) (idx id (zs.drop (k + 1))) := by
  have := idx_ge id (zs.drop (k + 1))
  rw [drop_at hk, idx_cons, if_neg hn] at h
  rw [h]
  unfold sh
  by_cases h2 : idx id (zs.drop (k + 1)) < 0
  · rw [if_pos h2, if_pos (by omega), if_pos h2]
  · rw [if_neg h2, if_neg (by omega), if_neg h2]; omega
theorem sh_found {id : Int} {zs : List R} {k : Nat} {Q : Int} (h : Q = sh k (idx id (zs.drop k))) (hk : k < zs.length) (hn : (zs[k]!).id = id) : Q = k := by
  rw [drop_at hk, idx_cons, if_pos hn] at h
  rw [h]; unfold sh; rw [if_neg (by omega)]; omega
theorem sh_end {id : Int} {zs : List R} {k : Nat} {Q : Int} (h : Q = sh k (idx id (zs.drop k))) (hk : zs.length ≤ k) : Q = -1 := by
  rw [List.drop_eq_nil_of_le hk] at h
  rw [h]; rfl

theorem in_none (p : Option Addr) (c : Nat) (id : Int) (w : World) :
    Calls Tryz.prog 82 #[.slice p 0 c, .int .i64 id] w fun e w' => e = .returned (.int .i64 (-1)) ∧ w' = w := by
  go_enter Tryz.func82, Tryz.ntmps82
  go_wp2_with fail
  go_loopg [5] 0 (fun _ s5 wr => s5 = .int .i64 0 ∧ wr = w)
  case atStart => exact ⟨rfl, rfl⟩
  case round =>
    obtain ⟨rfl, rfl⟩ := hrel
    go_wp2_with fail
    go_ret
    exact ⟨rfl, rfl⟩

set_option maxRecDepth 100000 in
set_option maxHeartbeats 1000000 in
theorem in_some (b o c : Nat) (zs : List R) (id : Int) (w : World) (hn : zs.length ≤ 9223372036854775807) (hl : Lies w b o zs) :
    Calls Tryz.prog 82 #[.slice (some ⟨b, o, none⟩) zs.length c, .int .i64 id] w fun e w' => e = .returned (.int .i64 (idx id zs)) ∧ w' = w := by
  have HL : Hid (Lies w b o zs) := hl
  clear hl
  have hst := sh_start id zs
  generalize idx id zs = Q at hst ⊢
  have HS : Hid (Q = sh 0 (idx id (zs.drop 0))) := hst
  clear hst
  generalize hN : zs.length = n at *
  have HN : Hid (zs.length = n) := hN
  clear hN
  go_enter Tryz.func82, Tryz.ntmps82
  go_wp2_with fail
  go_loopg [5] n (fun gg s5 wr => ∃ kk : Nat, kk ≤ n ∧ n - kk ≤ gg ∧ s5 = .int .i64 kk ∧ Aside (Q = sh kk (idx id (zs.drop kk))) ∧ wr = w)
  case atStart => exact ⟨0, Nat.zero_le _, by omega, rfl, HS.out, rfl⟩
  case round =>
    obtain ⟨kk, hkk, hg, rfl, hQ, rfl⟩ := hrel
    by_cases hlt : kk < n
    · have hltz : (kk : Int) < (n : Int) := by omega
      have hlz : kk < zs.length := by rw [HN.out]; exact hlt
      obtain ⟨r, hr⟩ : ∃ r, zs[kk]! = r := ⟨_, rfl⟩
      obtain ⟨r1, r2, r3, r4, r5⟩ := r
      obtain ⟨c0, -, -, -, -⟩ := lies_at HL.out hlz hr
      have hin1 : ¬ ((kk : Int) < 0) := by omega
      have e1 := wrapSucc kk n hlt hn
      by_cases hid : r1 = id
      · subst hid
        have hQ2 : Q = kk := sh_found hQ.out hlz (by rw [hr])
        clear hr
        go_wp2_with fail
        go_ret
        exact ⟨rfl, rfl⟩
      · have hQ2 : Hid (Q = sh (kk + 1) (idx id (zs.drop (kk + 1)))) := sh_step hQ.out hlz (by rw [hr]; exact hid)
        have hid2 : (r1 == id) = false := by simp [hid]
        clear hr
        go_wp2_with fail
        go_roundg (n - (kk + 1))
        case measure => clear e1; omega
        case rel => exact ⟨kk + 1, hlt, Nat.le_refl _, by go_num, hQ2.out, rfl⟩
    · have hltz : ¬ (kk : Int) < (n : Int) := by omega
      have hQ2 : Q = -1 := sh_end hQ.out (by rw [HN.out]; omega)
      go_wp2_with fail
      go_ret
      exact ⟨rfl, rfl⟩

theorem in_any (v : Value) (zs : List R) (id : Int) (w : World) (h : SL w v zs) :
    Calls Tryz.prog 82 #[v, .int .i64 id] w fun e w' => e = .returned (.int .i64 (idx id zs)) ∧ w' = w := by
  rcases h with ⟨rfl, rfl⟩ | ⟨b, o, c, rfl, h2, h3, h4, h5⟩
  · exact in_none none 0 id w
  · exact in_some b o c zs id w (by omega) h5

end Go.Proofs.YtpbbgbjgndikdaaGreatDoor.que
