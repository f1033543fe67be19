/- Plain facts for the second loop of the document's Read: what has been taken of the words behind the first five, name by name. -/
import Derived.Test.YtpcomgnglidhhaaGreatDoorOrdRef5
namespace Go.Proofs.YtpcomgnglidhhaaGreatDoor.ord
open Go.RowKit

theorem part_short (nm : List UInt8) {r : List (List UInt8)} (h : r.length < 2) : part nm r = (0, r) := by
  unfold part
  split
  · simp at h; omega
  · rfl
theorem part_skip {nm a : List UInt8} (b : List UInt8) (r : List (List UInt8)) (h : a ≠ nm) : part nm (a :: b :: r) = (0, a :: b :: r) := by
  show (if a = nm ∧ num b ≠ 0 then (num b, r) else (0, a :: b :: r)) = _
  rw [if_neg (fun e => h e.1)]
theorem part_take (nm : List UInt8) {b : List UInt8} (r : List (List UInt8)) (h : num b ≠ 0) : part nm (nm :: b :: r) = (num b, r) := by
  show (if nm = nm ∧ num b ≠ 0 then (num b, r) else (0, nm :: b :: r)) = _
  rw [if_pos ⟨rfl, h⟩]
theorem part_stuck (nm : List UInt8) {b : List UInt8} (r : List (List UInt8)) (h : num b = 0) : part nm (nm :: b :: r) = (0, nm :: b :: r) := by
  show (if nm = nm ∧ num b ≠ 0 then (num b, r) else (0, nm :: b :: r)) = _
  rw [if_neg (fun e => e.2 h)]

/-- What stands behind k of the three names: the three numbers, and the words that are left. -/
def stL (tl : List (List UInt8)) : Nat → Nat × Nat × Nat × List (List UInt8)
  | 0 => (0, 0, 0, tl)
  | 1 => ((part wAt tl).1, 0, 0, (part wAt tl).2)
  | 2 => ((part wAt tl).1, (part wShow (part wAt tl).2).1, 0, (part wShow (part wAt tl).2).2)
  | _ => tail3 tl

theorem stL_short {tl rest : List (List UInt8)} {k p s t : Nat} (h : stL tl k = (p, s, t, rest)) (hr : rest.length < 2) : tail3 tl = (p, s, t, rest) := by
  match k with
  | 0 =>
    simp only [stL, Prod.mk.injEq] at h
    obtain ⟨rfl, rfl, rfl, rfl⟩ := h
    unfold tail3
    simp only [part_short _ hr]
  | 1 =>
    simp only [stL, Prod.mk.injEq] at h
    obtain ⟨rfl, rfl, rfl, rfl⟩ := h
    unfold tail3
    simp only [part_short _ hr]
  | 2 =>
    simp only [stL, Prod.mk.injEq] at h
    obtain ⟨rfl, rfl, rfl, rfl⟩ := h
    unfold tail3
    simp only [part_short _ hr]
  | k + 3 => exact h

theorem stL_skip0 {tl r : List (List UInt8)} {a b : List UInt8} {p s t : Nat} (h : stL tl 0 = (p, s, t, a :: b :: r)) (hn : a ≠ wAt) : stL tl 1 = (p, s, t, a :: b :: r) := by
  simp only [stL, Prod.mk.injEq] at h
  obtain ⟨rfl, rfl, rfl, rfl⟩ := h
  simp only [stL, part_skip b r hn]
theorem stL_skip1 {tl r : List (List UInt8)} {a b : List UInt8} {p s t : Nat} (h : stL tl 1 = (p, s, t, a :: b :: r)) (hn : a ≠ wShow) : stL tl 2 = (p, s, t, a :: b :: r) := by
  simp only [stL, Prod.mk.injEq] at h
  obtain ⟨rfl, rfl, rfl, h4⟩ := h
  simp only [stL, h4, part_skip b r hn]
theorem stL_skip2 {tl r : List (List UInt8)} {a b : List UInt8} {p s t : Nat} (h : stL tl 2 = (p, s, t, a :: b :: r)) (hn : a ≠ wStop) : stL tl 3 = (p, s, t, a :: b :: r) := by
  simp only [stL, Prod.mk.injEq] at h
  obtain ⟨rfl, rfl, rfl, h4⟩ := h
  simp only [stL, tail3, h4, part_skip b r hn]
theorem stL_take0 {tl r : List (List UInt8)} {b : List UInt8} {p s t : Nat} (h : stL tl 0 = (p, s, t, wAt :: b :: r)) (hn : num b ≠ 0) : stL tl 1 = (num b, s, t, r) := by
  simp only [stL, Prod.mk.injEq] at h
  obtain ⟨rfl, rfl, rfl, rfl⟩ := h
  simp only [stL, part_take wAt r hn]
theorem stL_take1 {tl r : List (List UInt8)} {b : List UInt8} {p s t : Nat} (h : stL tl 1 = (p, s, t, wShow :: b :: r)) (hn : num b ≠ 0) : stL tl 2 = (p, num b, t, r) := by
  simp only [stL, Prod.mk.injEq] at h
  obtain ⟨rfl, rfl, rfl, h4⟩ := h
  simp only [stL, h4, part_take wShow r hn]
theorem stL_take2 {tl r : List (List UInt8)} {b : List UInt8} {p s t : Nat} (h : stL tl 2 = (p, s, t, wStop :: b :: r)) (hn : num b ≠ 0) : stL tl 3 = (p, s, num b, r) := by
  simp only [stL, Prod.mk.injEq] at h
  obtain ⟨rfl, rfl, rfl, h4⟩ := h
  simp only [stL, tail3, h4, part_take wStop r hn]
theorem stL_stuck0 {tl r : List (List UInt8)} {b : List UInt8} {p s t : Nat} (h : stL tl 0 = (p, s, t, wAt :: b :: r)) (hn : num b = 0) : (tail3 tl).2.2.2.isEmpty = false := by
  simp only [stL, Prod.mk.injEq] at h
  obtain ⟨rfl, rfl, rfl, rfl⟩ := h
  simp only [tail3, part_stuck wAt r hn, part_skip b r (show wAt ≠ wShow by decide), part_skip b r (show wAt ≠ wStop by decide)]
  rfl
theorem stL_stuck1 {tl r : List (List UInt8)} {b : List UInt8} {p s t : Nat} (h : stL tl 1 = (p, s, t, wShow :: b :: r)) (hn : num b = 0) : (tail3 tl).2.2.2.isEmpty = false := by
  simp only [stL, Prod.mk.injEq] at h
  obtain ⟨rfl, rfl, rfl, h4⟩ := h
  simp only [tail3, h4, part_stuck wShow r hn, part_skip b r (show wShow ≠ wStop by decide)]
  rfl
theorem stL_stuck2 {tl r : List (List UInt8)} {b : List UInt8} {p s t : Nat} (h : stL tl 2 = (p, s, t, wStop :: b :: r)) (hn : num b = 0) : (tail3 tl).2.2.2.isEmpty = false := by
  simp only [stL, Prod.mk.injEq] at h
  obtain ⟨rfl, rfl, rfl, h4⟩ := h
  simp only [tail3, h4, part_stuck wStop r hn]
  rfl

end Go.Proofs.YtpcomgnglidhhaaGreatDoor.ord
