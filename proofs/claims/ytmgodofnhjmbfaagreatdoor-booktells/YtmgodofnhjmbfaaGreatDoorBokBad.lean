/- Contracts over this seat's translation: book.Top, book.Count, book.Print where the book is wrong. -/
import Derived.Test.YtmgodofnhjmbfaaGreatDoorBokChk
namespace Go.Proofs.YtmgodofnhjmbfaaGreatDoor.bok
open Go.RowKit Go.Proofs.YtmgodofnhjmbfaaGreatDoor.spn Go.Proofs.YtmgodofnhjmbfaaGreatDoor.que Go.Proofs.YtmgodofnhjmbfaaGreatDoor.sid

set_option maxRecDepth 100000 in
set_option maxHeartbeats 1000000 in
theorem top_bad (q1 q2 : Option Addr) (n1 n2 c1 c2 : Nat) (bs ss : List L) (w : World) (h1 : LS w (.slice q1 n1 c1) bs) (h2 : LS w (.slice q2 n2 c2) ss) (h0 : ¬ bookE bs ss = 0) :
    Calls Tryz.prog 9 #[.agg #[.slice q1 n1 c1, .slice q2 n2 c2]] w fun e w' => e = .returned (.tuple #[.int .i64 0, .int .i64 0, .iface 60 (.int .i64 (bookE bs ss))]) ∧ Below w.heap.size w w' := by
  have HCH := fun W (hW : Below w.heap.size w W) => check_any q1 q2 n1 n2 c1 c2 bs ss W (h1.below hW) (h2.below hW)
  rw [errV_of h0] at HCH
  generalize bookE bs ss = K at *
  obtain ⟨V, hV⟩ : ∃ V, V = w.alloc (.cells #[.slice q1 n1 c1, .slice q2 n2 c2] 24) := ⟨_, rfl⟩
  have HB : Hid (Below w.heap.size w V) := by rw [hV]; exact (Below.refl _ _).alloc (Nat.le_refl _) _
  have v0 : V.cell? ⟨w.heap.size, 0, none⟩ = some (.slice q1 n1 c1) := by rw [hV]; simp [go_sem]
  have v1 : V.cell? ⟨w.heap.size, 1, none⟩ = some (.slice q2 n2 c2) := by rw [hV]; simp [go_sem]
  clear h1 h2
  go_enter Tryz.func9, Tryz.ntmps9
  go_wp2_with fail
  rw [← hV]
  refine (HCH V HB.out).mono ?_
  rintro e w1 ⟨rfl, b1⟩
  have HB1 : Hid (Below w.heap.size w w1) := HB.out.trans (b1.mono HB.out.size)
  clear b1 HCH v0 v1
  go_wp2_with fail
  go_ret3
  exact ⟨rfl, HB1.out⟩
set_option maxRecDepth 100000 in
set_option maxHeartbeats 1000000 in
theorem count_bad (q1 q2 : Option Addr) (n1 n2 c1 c2 : Nat) (bs ss : List L) (w : World) (h1 : LS w (.slice q1 n1 c1) bs) (h2 : LS w (.slice q2 n2 c2) ss) (h0 : ¬ bookE bs ss = 0) :
    Calls Tryz.prog 10 #[.agg #[.slice q1 n1 c1, .slice q2 n2 c2]] w fun e w' => e = .returned (.tuple #[.int .i64 0, .iface 60 (.int .i64 (bookE bs ss))]) ∧ Below w.heap.size w w' := by
  have HCH := fun W (hW : Below w.heap.size w W) => check_any q1 q2 n1 n2 c1 c2 bs ss W (h1.below hW) (h2.below hW)
  rw [errV_of h0] at HCH
  generalize bookE bs ss = K at *
  obtain ⟨V, hV⟩ : ∃ V, V = w.alloc (.cells #[.slice q1 n1 c1, .slice q2 n2 c2] 24) := ⟨_, rfl⟩
  have HB : Hid (Below w.heap.size w V) := by rw [hV]; exact (Below.refl _ _).alloc (Nat.le_refl _) _
  have v0 : V.cell? ⟨w.heap.size, 0, none⟩ = some (.slice q1 n1 c1) := by rw [hV]; simp [go_sem]
  have v1 : V.cell? ⟨w.heap.size, 1, none⟩ = some (.slice q2 n2 c2) := by rw [hV]; simp [go_sem]
  clear h1 h2
  go_enter Tryz.func10, Tryz.ntmps10
  go_wp2_with fail
  rw [← hV]
  refine (HCH V HB.out).mono ?_
  rintro e w1 ⟨rfl, b1⟩
  have HB1 : Hid (Below w.heap.size w w1) := HB.out.trans (b1.mono HB.out.size)
  clear b1 HCH v0 v1
  go_wp2_with fail
  go_ret2
  exact ⟨rfl, HB1.out⟩
set_option maxRecDepth 100000 in
set_option maxHeartbeats 1000000 in
theorem print_bad (q1 q2 : Option Addr) (n1 n2 c1 c2 : Nat) (bs ss : List L) (w : World) (h1 : LS w (.slice q1 n1 c1) bs) (h2 : LS w (.slice q2 n2 c2) ss) (h0 : ¬ bookE bs ss = 0) :
    Calls Tryz.prog 11 #[.agg #[.slice q1 n1 c1, .slice q2 n2 c2]] w fun e w' => e = .returned (.tuple #[.string ⟨#[]⟩, .iface 60 (.int .i64 (bookE bs ss))]) ∧ Below w.heap.size w w' := by
  have HCH := fun W (hW : Below w.heap.size w W) => check_any q1 q2 n1 n2 c1 c2 bs ss W (h1.below hW) (h2.below hW)
  rw [errV_of h0] at HCH
  generalize bookE bs ss = K at *
  obtain ⟨V, hV⟩ : ∃ V, V = w.alloc (.cells #[.slice q1 n1 c1, .slice q2 n2 c2] 24) := ⟨_, rfl⟩
  have HB : Hid (Below w.heap.size w V) := by rw [hV]; exact (Below.refl _ _).alloc (Nat.le_refl _) _
  have v0 : V.cell? ⟨w.heap.size, 0, none⟩ = some (.slice q1 n1 c1) := by rw [hV]; simp [go_sem]
  have v1 : V.cell? ⟨w.heap.size, 1, none⟩ = some (.slice q2 n2 c2) := by rw [hV]; simp [go_sem]
  clear h1 h2
  go_enter Tryz.func11, Tryz.ntmps11
  go_wp2_with fail
  rw [← hV]
  refine (HCH V HB.out).mono ?_
  rintro e w1 ⟨rfl, b1⟩
  have HB1 : Hid (Below w.heap.size w w1) := HB.out.trans (b1.mono HB.out.size)
  clear b1 HCH v0 v1
  go_wp2_with fail
  go_ret2
  exact ⟨rfl, HB1.out⟩
end Go.Proofs.YtmgodofnhjmbfaaGreatDoor.bok
