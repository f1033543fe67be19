/- Plain facts: what is wrong with a side. -/
import Derived.Test.YtegbicmfgblphaaDoorSidSee
namespace Go.Proofs.YtegbicmfgblphaaDoor.sid
open Go.RowKit Go.Proofs.YtegbicmfgblphaaDoor.que
open Go.Proofs.YtegbicmfgblphaaDoor.tickP (priceB sideB betOk betR)

/-- A level's price stands behind the one ahead of it. -/
def behindB (s : Int) (prev : Option Int) (b : Int) : Bool := match prev with | some p => leadB s p b | none => true
/-- What is wrong with the levels, each by itself and behind the one ahead of it. -/
def sgo (s : Int) : Option Int → List L → Int
  | _, [] => 0
  | prev, l :: t => if lchk l = 0 then (if behindB s prev l.price = true then sgo s (some l.price) t else 7) else lchk l
def ids (ls : List L) : List Int := (flatP 0 ls).map (·.1)
/-- What is wrong with a side. -/
def schk (s : Int) (ls : List L) : Int :=
  if sideB s = true then (if sgo s none ls = 0 then (if 60 < cnt ls then 4 else if (ids ls).Nodup then 0 else 7) else sgo s none ls) else 1

theorem lead_buy {a b : Int} (h : leadB 1 a b = true) : b < a := by
  have e : wrap64 (3 - 1) = 2 := by unfold wrap64; omega
  unfold leadB betR at h
  rw [e] at h
  simp at h
  exact h.2
theorem lead_sell {a b : Int} (h : leadB 2 a b = true) : a < b := by
  have e : wrap64 (3 - 2) = 1 := by unfold wrap64; omega
  unfold leadB betR at h
  rw [e] at h
  simp at h
  exact h.2
theorem lchk_zero {l : L} (h : lchk l = 0) : (1 ≤ l.price ∧ l.price ≤ 10000) ∧ l.rests ≠ [] ∧ qchk l.rests = 0 := by
  unfold lchk at h
  by_cases hp : priceB l.price = true
  · rw [if_pos hp] at h
    by_cases hz : l.rests = []
    · rw [if_pos hz] at h; cases h
    · rw [if_neg hz] at h
      refine ⟨?_, hz, h⟩
      simp [priceB] at hp; exact hp
  · rw [if_neg hp] at h; cases h
theorem sgo_cons {s : Int} {prev : Option Int} {l : L} {t : List L} (h : sgo s prev (l :: t) = 0) : lchk l = 0 ∧ behindB s prev l.price = true ∧ sgo s (some l.price) t = 0 := by
  unfold sgo at h
  by_cases h1 : lchk l = 0
  · rw [if_pos h1] at h
    by_cases h2 : behindB s prev l.price = true
    · rw [if_pos h2] at h; exact ⟨h1, h2, h⟩
    · rw [if_neg h2] at h; cases h
  · rw [if_neg h1] at h; exact absurd h h1
theorem sgo_each {s : Int} {prev : Option Int} {ls : List L} (h : sgo s prev ls = 0) : ∀ l ∈ ls, lchk l = 0 := by
  induction ls generalizing prev with
  | nil => intro l hl; cases hl
  | cons x t ih =>
    obtain ⟨h1, -, h3⟩ := sgo_cons h
    intro l hl
    rcases List.mem_cons.1 hl with e | e
    · rw [e]; exact h1
    · exact ih h3 l e
theorem sgo_buy {p : Int} {ls : List L} (h : sgo 1 (some p) ls = 0) (hp : 1 ≤ p) : (ls.length : Int) ≤ p - 1 := by
  induction ls generalizing p with
  | nil => simp; omega
  | cons x t ih =>
    obtain ⟨h1, h2, h3⟩ := sgo_cons h
    have := lead_buy h2
    have hx := (lchk_zero h1).1
    have := ih h3 hx.1
    simp only [List.length_cons]; omega
theorem sgo_sell {p : Int} {ls : List L} (h : sgo 2 (some p) ls = 0) (hp : p ≤ 10000) : (ls.length : Int) ≤ 10000 - p := by
  induction ls generalizing p with
  | nil => simp; omega
  | cons x t ih =>
    obtain ⟨h1, h2, h3⟩ := sgo_cons h
    have := lead_sell h2
    have hx := (lchk_zero h1).1
    have := ih h3 hx.2
    simp only [List.length_cons]; omega
/-- Levels that stand in order are not too many. -/
theorem sgo_len {s : Int} {ls : List L} (hs : sideB s = true) (h : sgo s none ls = 0) : ls.length ≤ 10000 := by
  cases ls with
  | nil => simp
  | cons x t =>
    obtain ⟨h1, -, h3⟩ := sgo_cons h
    have hx := (lchk_zero h1).1
    simp [sideB] at hs
    rcases hs with rfl | rfl
    · have := sgo_buy h3 hx.1; simp only [List.length_cons]; omega
    · have := sgo_sell h3 hx.2; simp only [List.length_cons]; omega

def prevAt (ls : List L) (k : Nat) : Option Int := if k = 0 then none else some ls[k - 1]!.price
theorem prevAt_zero (ls : List L) : prevAt ls 0 = none := rfl
theorem prevAt_succ (ls : List L) (k : Nat) : prevAt ls (k + 1) = some ls[k]!.price := rfl
/-- Where the loop stands at a level. -/
theorem sgo_at {s : Int} {ls : List L} {k : Nat} (hk : k < ls.length) : sgo s (prevAt ls k) (ls.drop k) =
    if lchk ls[k]! = 0 then (if behindB s (prevAt ls k) ls[k]!.price = true then sgo s (prevAt ls (k + 1)) (ls.drop (k + 1)) else 7) else lchk ls[k]! := by
  rw [ldrop_at hk, prevAt_succ]; rfl

theorem schk_side {s : Int} {ls : List L} (h : sideB s = false) : schk s ls = 1 := by unfold schk; rw [if_neg (by simp [h])]
theorem schk_go {s : Int} {ls : List L} (h : sideB s = true) (h2 : ¬ sgo s none ls = 0) : schk s ls = sgo s none ls := by unfold schk; rw [if_pos h, if_neg h2]
theorem schk_full {s : Int} {ls : List L} (h : sideB s = true) (h2 : sgo s none ls = 0) (h3 : 60 < cnt ls) : schk s ls = 4 := by unfold schk; rw [if_pos h, if_pos h2, if_pos h3]
theorem schk_two {s : Int} {ls : List L} (h : sideB s = true) (h2 : sgo s none ls = 0) (h3 : ¬ 60 < cnt ls) (h4 : ¬ (ids ls).Nodup) : schk s ls = 7 := by unfold schk; rw [if_pos h, if_pos h2, if_neg h3, if_neg h4]
theorem schk_ok {s : Int} {ls : List L} (h : sideB s = true) (h2 : sgo s none ls = 0) (h3 : ¬ 60 < cnt ls) (h4 : (ids ls).Nodup) : schk s ls = 0 := by unfold schk; rw [if_pos h, if_pos h2, if_neg h3, if_pos h4]
/-- What a side that is right gives. -/
theorem schk_zero {s : Int} {ls : List L} (h : schk s ls = 0) : sideB s = true ∧ sgo s none ls = 0 ∧ cnt ls ≤ 60 ∧ (ids ls).Nodup := by
  unfold schk at h
  by_cases h1 : sideB s = true
  · rw [if_pos h1] at h
    by_cases h2 : sgo s none ls = 0
    · rw [if_pos h2] at h
      by_cases h3 : 60 < cnt ls
      · rw [if_pos h3] at h; cases h
      · rw [if_neg h3] at h
        by_cases h4 : (ids ls).Nodup
        · exact ⟨h1, h2, by omega, h4⟩
        · rw [if_neg h4] at h; cases h
    · rw [if_neg h2] at h; exact absurd h h2
  · rw [if_neg h1] at h; cases h
end Go.Proofs.YtegbicmfgblphaaDoor.sid
