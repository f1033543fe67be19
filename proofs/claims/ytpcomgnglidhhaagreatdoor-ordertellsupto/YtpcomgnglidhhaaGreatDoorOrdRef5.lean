/- Contracts over this seat's translation: the document's Read, its first loop. -/
import Derived.Test.YtpcomgnglidhhaaGreatDoorOrdRef4
import Derived.BigQuiet
namespace Go.Proofs.YtpcomgnglidhhaaGreatDoor.ord
open Go.RowKit

/-- An order lies in a block, and may be written. -/
structure OB (W : World) (b : Nat) (o : O) : Prop where
  c0 : W.cell? ⟨b, 0, none⟩ = some (.int .i64 o.id)
  c1 : W.cell? ⟨b, 1, none⟩ = some (.int .i64 o.who)
  c2 : W.cell? ⟨b, 2, none⟩ = some (.int .i64 o.side)
  c3 : W.cell? ⟨b, 3, none⟩ = some (.int .i64 o.kind)
  c4 : W.cell? ⟨b, 4, none⟩ = some (.int .i64 o.price)
  c5 : W.cell? ⟨b, 5, none⟩ = some (.int .i64 o.qty)
  c6 : W.cell? ⟨b, 6, none⟩ = some (.int .i64 o.shw)
  c7 : W.cell? ⟨b, 7, none⟩ = some (.int .i64 o.stop)
  fr : ∀ j, W.frozen? ⟨b, j, none⟩ = false

theorem OB.set0 {W : World} {b : Nat} {o : O} (h : OB W b o) (v : Int) : OB (W.setCell ⟨b, 0, none⟩ (.int .i64 v)) b { o with id := v } where
  c0 := World.cell?_setCell_same _ _ _ h.c0
  c1 := (World.cell?_setCell_other _ _ _ _ (by simp)).trans h.c1
  c2 := (World.cell?_setCell_other _ _ _ _ (by simp)).trans h.c2
  c3 := (World.cell?_setCell_other _ _ _ _ (by simp)).trans h.c3
  c4 := (World.cell?_setCell_other _ _ _ _ (by simp)).trans h.c4
  c5 := (World.cell?_setCell_other _ _ _ _ (by simp)).trans h.c5
  c6 := (World.cell?_setCell_other _ _ _ _ (by simp)).trans h.c6
  c7 := (World.cell?_setCell_other _ _ _ _ (by simp)).trans h.c7
  fr := fun j => by rw [World.frozen?_setCell]; exact h.fr j

theorem OB.set1 {W : World} {b : Nat} {o : O} (h : OB W b o) (v : Int) : OB (W.setCell ⟨b, 1, none⟩ (.int .i64 v)) b { o with who := v } where
  c0 := (World.cell?_setCell_other _ _ _ _ (by simp)).trans h.c0
  c1 := World.cell?_setCell_same _ _ _ h.c1
  c2 := (World.cell?_setCell_other _ _ _ _ (by simp)).trans h.c2
  c3 := (World.cell?_setCell_other _ _ _ _ (by simp)).trans h.c3
  c4 := (World.cell?_setCell_other _ _ _ _ (by simp)).trans h.c4
  c5 := (World.cell?_setCell_other _ _ _ _ (by simp)).trans h.c5
  c6 := (World.cell?_setCell_other _ _ _ _ (by simp)).trans h.c6
  c7 := (World.cell?_setCell_other _ _ _ _ (by simp)).trans h.c7
  fr := fun j => by rw [World.frozen?_setCell]; exact h.fr j

theorem OB.set2 {W : World} {b : Nat} {o : O} (h : OB W b o) (v : Int) : OB (W.setCell ⟨b, 2, none⟩ (.int .i64 v)) b { o with side := v } where
  c0 := (World.cell?_setCell_other _ _ _ _ (by simp)).trans h.c0
  c1 := (World.cell?_setCell_other _ _ _ _ (by simp)).trans h.c1
  c2 := World.cell?_setCell_same _ _ _ h.c2
  c3 := (World.cell?_setCell_other _ _ _ _ (by simp)).trans h.c3
  c4 := (World.cell?_setCell_other _ _ _ _ (by simp)).trans h.c4
  c5 := (World.cell?_setCell_other _ _ _ _ (by simp)).trans h.c5
  c6 := (World.cell?_setCell_other _ _ _ _ (by simp)).trans h.c6
  c7 := (World.cell?_setCell_other _ _ _ _ (by simp)).trans h.c7
  fr := fun j => by rw [World.frozen?_setCell]; exact h.fr j

theorem OB.set3 {W : World} {b : Nat} {o : O} (h : OB W b o) (v : Int) : OB (W.setCell ⟨b, 3, none⟩ (.int .i64 v)) b { o with kind := v } where
  c0 := (World.cell?_setCell_other _ _ _ _ (by simp)).trans h.c0
  c1 := (World.cell?_setCell_other _ _ _ _ (by simp)).trans h.c1
  c2 := (World.cell?_setCell_other _ _ _ _ (by simp)).trans h.c2
  c3 := World.cell?_setCell_same _ _ _ h.c3
  c4 := (World.cell?_setCell_other _ _ _ _ (by simp)).trans h.c4
  c5 := (World.cell?_setCell_other _ _ _ _ (by simp)).trans h.c5
  c6 := (World.cell?_setCell_other _ _ _ _ (by simp)).trans h.c6
  c7 := (World.cell?_setCell_other _ _ _ _ (by simp)).trans h.c7
  fr := fun j => by rw [World.frozen?_setCell]; exact h.fr j

theorem OB.set4 {W : World} {b : Nat} {o : O} (h : OB W b o) (v : Int) : OB (W.setCell ⟨b, 4, none⟩ (.int .i64 v)) b { o with price := v } where
  c0 := (World.cell?_setCell_other _ _ _ _ (by simp)).trans h.c0
  c1 := (World.cell?_setCell_other _ _ _ _ (by simp)).trans h.c1
  c2 := (World.cell?_setCell_other _ _ _ _ (by simp)).trans h.c2
  c3 := (World.cell?_setCell_other _ _ _ _ (by simp)).trans h.c3
  c4 := World.cell?_setCell_same _ _ _ h.c4
  c5 := (World.cell?_setCell_other _ _ _ _ (by simp)).trans h.c5
  c6 := (World.cell?_setCell_other _ _ _ _ (by simp)).trans h.c6
  c7 := (World.cell?_setCell_other _ _ _ _ (by simp)).trans h.c7
  fr := fun j => by rw [World.frozen?_setCell]; exact h.fr j

theorem OB.set5 {W : World} {b : Nat} {o : O} (h : OB W b o) (v : Int) : OB (W.setCell ⟨b, 5, none⟩ (.int .i64 v)) b { o with qty := v } where
  c0 := (World.cell?_setCell_other _ _ _ _ (by simp)).trans h.c0
  c1 := (World.cell?_setCell_other _ _ _ _ (by simp)).trans h.c1
  c2 := (World.cell?_setCell_other _ _ _ _ (by simp)).trans h.c2
  c3 := (World.cell?_setCell_other _ _ _ _ (by simp)).trans h.c3
  c4 := (World.cell?_setCell_other _ _ _ _ (by simp)).trans h.c4
  c5 := World.cell?_setCell_same _ _ _ h.c5
  c6 := (World.cell?_setCell_other _ _ _ _ (by simp)).trans h.c6
  c7 := (World.cell?_setCell_other _ _ _ _ (by simp)).trans h.c7
  fr := fun j => by rw [World.frozen?_setCell]; exact h.fr j

theorem OB.set6 {W : World} {b : Nat} {o : O} (h : OB W b o) (v : Int) : OB (W.setCell ⟨b, 6, none⟩ (.int .i64 v)) b { o with shw := v } where
  c0 := (World.cell?_setCell_other _ _ _ _ (by simp)).trans h.c0
  c1 := (World.cell?_setCell_other _ _ _ _ (by simp)).trans h.c1
  c2 := (World.cell?_setCell_other _ _ _ _ (by simp)).trans h.c2
  c3 := (World.cell?_setCell_other _ _ _ _ (by simp)).trans h.c3
  c4 := (World.cell?_setCell_other _ _ _ _ (by simp)).trans h.c4
  c5 := (World.cell?_setCell_other _ _ _ _ (by simp)).trans h.c5
  c6 := World.cell?_setCell_same _ _ _ h.c6
  c7 := (World.cell?_setCell_other _ _ _ _ (by simp)).trans h.c7
  fr := fun j => by rw [World.frozen?_setCell]; exact h.fr j

theorem OB.set7 {W : World} {b : Nat} {o : O} (h : OB W b o) (v : Int) : OB (W.setCell ⟨b, 7, none⟩ (.int .i64 v)) b { o with stop := v } where
  c0 := (World.cell?_setCell_other _ _ _ _ (by simp)).trans h.c0
  c1 := (World.cell?_setCell_other _ _ _ _ (by simp)).trans h.c1
  c2 := (World.cell?_setCell_other _ _ _ _ (by simp)).trans h.c2
  c3 := (World.cell?_setCell_other _ _ _ _ (by simp)).trans h.c3
  c4 := (World.cell?_setCell_other _ _ _ _ (by simp)).trans h.c4
  c5 := (World.cell?_setCell_other _ _ _ _ (by simp)).trans h.c5
  c6 := (World.cell?_setCell_other _ _ _ _ (by simp)).trans h.c6
  c7 := World.cell?_setCell_same _ _ _ h.c7
  fr := fun j => by rw [World.frozen?_setCell]; exact h.fr j

def sd (i : Nat) (C : List UInt8) : Int := if sideN C < i then (sideN C : Int) else 0
def kd (i : Nat) (E : List UInt8) : Int := if kindN E < i then (kindN E : Int) else 0
theorem sd_hit {i : Nat} {C : List UInt8} (h : sideN C = i) : sd (i + 1) C = i := by unfold sd; rw [if_pos (by omega)]; omega
theorem sd_miss {i : Nat} {C : List UInt8} (h : sideN C ≠ i) : sd (i + 1) C = sd i C := by
  unfold sd
  by_cases e : sideN C < i
  · rw [if_pos e, if_pos (by omega)]
  · rw [if_neg e, if_neg (by omega)]
theorem kd_hit {i : Nat} {E : List UInt8} (h : kindN E = i) : kd (i + 1) E = i := by unfold kd; rw [if_pos (by omega)]; omega
theorem kd_miss {i : Nat} {E : List UInt8} (h : kindN E ≠ i) : kd (i + 1) E = kd i E := by
  unfold kd
  by_cases e : kindN E < i
  · rw [if_pos e, if_pos (by omega)]
  · rw [if_neg e, if_neg (by omega)]
theorem sideN_le (C : List UInt8) : sideN C ≤ 2 := by unfold sideN; split <;> (try split) <;> omega
theorem kindN_le (E : List UInt8) : kindN E ≤ 5 := by unfold kindN; (repeat' split) <;> omega
theorem sideN_is {C : List UInt8} {i : Nat} (h1 : 1 ≤ i) (h2 : i ≤ 2) : sideN C = i ↔ C = sideW i := by
  constructor
  · intro e
    have := sideW_sideN (w := C) (by omega)
    rw [← e]; exact this.symm
  · intro e
    have := sideN_sideW (n := (i : Int)) (by omega)
    rw [e]; omega
theorem kindN_is {E : List UInt8} {i : Nat} (h1 : 1 ≤ i) (h2 : i ≤ 5) : kindN E = i ↔ E = kindW i := by
  constructor
  · intro e
    have := kindW_kindN (w := E) (by omega)
    rw [← e]; exact this.symm
  · intro e
    have := kindN_kindW (n := (i : Int)) (by omega) (by omega)
    rw [e]; omega

end Go.Proofs.YtpcomgnglidhhaaGreatDoor.ord
