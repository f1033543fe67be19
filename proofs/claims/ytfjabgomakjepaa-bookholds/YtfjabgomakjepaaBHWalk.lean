/- The walk of the law BookHolds. -/
import Derived.Test.YtfjabgomakjepaaBHWalk1
import Derived.Test.YtfjabgomakjepaaBHWalk2
namespace Go.Proofs.Ytfjabgomakjepaa.bok
open Go.RowKit Go.Proofs.Ytfjabgomakjepaa.spn Go.Proofs.Ytfjabgomakjepaa.que Go.Proofs.Ytfjabgomakjepaa.sid

set_option maxRecDepth 100000 in
set_option maxHeartbeats 4000000 in
theorem holds_err (s : Int) (p : Int) (q1 q2 : Option Addr) (n1 n2 c1 c2 : Nat) (a b c d e : Int) (bs ss : List L) (w : World) (h1 : LS w (.slice q1 n1 c1) bs) (h2 : LS w (.slice q2 n2 c2) ss) (h0 : ¬ putE bs ss s p ⟨a, b, c, d, e⟩ = 0) :
    Calls Try.prog 4 #[.agg #[.slice q1 n1 c1, .slice q2 n2 c2], .int .i64 s, .int .i64 p, .agg #[.int .i64 a, .int .i64 b, .int .i64 c, .int .i64 d, .int .i64 e]] w fun x w' => x = .returned (.bool true) ∧ Below w.heap.size w w' := by
  have HPU : Hid (∀ W, Below w.heap.size w W → Calls Try.prog 10 #[.agg #[.slice q1 n1 c1, .slice q2 n2 c2], .int .i64 s, .int .i64 p, .agg #[.int .i64 a, .int .i64 b, .int .i64 c, .int .i64 d, .int .i64 e]] W fun x w' => ∃ u1 u2 m1 m2 d1 d2, x = .returned (.tuple #[.agg #[.slice u1 m1 d1, .slice u2 m2 d2], .iface 60 (.int .i64 (putE bs ss s p ⟨a, b, c, d, e⟩))]) ∧ Below W.heap.size W w') := fun W hW => (put_any s p q1 q2 n1 n2 c1 c2 a b c d e bs ss W (h1.below hW) (h2.below hW)).mono fun x w' h => by
    obtain ⟨u1, u2, m1, m2, d1, d2, g1, g2, g3, g4⟩ := h
    rw [errV_of h0] at g1
    exact ⟨u1, u2, m1, m2, d1, d2, g1, g4⟩
  generalize putE bs ss s p ⟨a, b, c, d, e⟩ = k at *
  obtain ⟨V, hV⟩ : ∃ V, V = (w.alloc (.cells #[.slice q1 n1 c1, .slice q2 n2 c2] 40)).alloc (.cells #[.int .i64 a, .int .i64 b, .int .i64 c, .int .i64 d, .int .i64 e] 24) := ⟨_, rfl⟩
  have HB : Hid (Below w.heap.size w V) := by rw [hV]; exact ((Below.refl _ _).alloc (Nat.le_refl _) _).alloc (by simp) _
  have v0 : V.cell? ⟨w.heap.size, 0, none⟩ = some (.slice q1 n1 c1) := by rw [hV]; simp [go_sem]
  have v1 : V.cell? ⟨w.heap.size, 1, none⟩ = some (.slice q2 n2 c2) := by rw [hV]; simp [go_sem]
  have t0 : V.cell? ⟨w.heap.size + 1, 0, none⟩ = some (.int .i64 a) := by rw [hV]; simp [go_sem]
  have t1 : V.cell? ⟨w.heap.size + 1, 1, none⟩ = some (.int .i64 b) := by rw [hV]; simp [go_sem]
  have t2 : V.cell? ⟨w.heap.size + 1, 2, none⟩ = some (.int .i64 c) := by rw [hV]; simp [go_sem]
  have t3 : V.cell? ⟨w.heap.size + 1, 3, none⟩ = some (.int .i64 d) := by rw [hV]; simp [go_sem]
  have t4 : V.cell? ⟨w.heap.size + 1, 4, none⟩ = some (.int .i64 e) := by rw [hV]; simp [go_sem]
  have hVs : w.heap.size + 1 < V.heap.size := by rw [hV]; simp
  have HCELL : Hid (∀ W, Below V.heap.size V W → W.cell? ⟨w.heap.size, 0, none⟩ = some (.slice q1 n1 c1) ∧ W.cell? ⟨w.heap.size, 1, none⟩ = some (.slice q2 n2 c2) ∧ W.cell? ⟨w.heap.size + 1, 0, none⟩ = some (.int .i64 a) ∧ W.cell? ⟨w.heap.size + 1, 1, none⟩ = some (.int .i64 b) ∧ W.cell? ⟨w.heap.size + 1, 2, none⟩ = some (.int .i64 c) ∧ W.cell? ⟨w.heap.size + 1, 3, none⟩ = some (.int .i64 d) ∧ W.cell? ⟨w.heap.size + 1, 4, none⟩ = some (.int .i64 e) ∧ w.heap.size + 1 < W.heap.size ∧ w.heap.size < W.heap.size) := fun W hW => ⟨keeps hW v0, keeps hW v1, keeps hW t0, keeps hW t1, keeps hW t2, keeps hW t3, keeps hW t4, Nat.lt_of_lt_of_le hVs hW.size, Nat.lt_of_lt_of_le (Nat.lt_of_succ_lt hVs) hW.size⟩
  clear v0 v1 t0 t1 t2 t3 t4
  clear h0 h1 h2
  go_enter Try.func4, Try.ntmps4
  go_wp2_with fail
  rw [← hV]
  refine (fact_any V).mono ?_
  rintro x w1 ⟨f1, f2, f3, f4, rfl, b1⟩
  have H1 : Hid (Below V.heap.size V w1) := b1
  obtain ⟨x0, x1, x2, x3, x4, x5, x6, hs1, hs1'⟩ := HCELL.out w1 b1
  clear b1
  go_wp2_with fail
  have hA1 : Below w1.heap.size w1 (w1.alloc (.cells #[.slice f1 0 f3, .slice f2 1 f4] 40)) := (Below.refl _ _).alloc (Nat.le_refl _) _
  have H2 : Hid (Below V.heap.size V (w1.alloc (.cells #[.slice f1 0 f3, .slice f2 1 f4] 40))) := H1.out.trans (hA1.mono H1.out.size)
  generalize w1.alloc (.cells #[.slice f1 0 f3, .slice f2 1 f4] 40) = V1 at *
  clear hA1 x0 x1 x2 x3 x4 x5 x6 hs1 hs1' H1
  refine (HPU.out V1 (HB.out.trans (H2.out.mono HB.out.size))).mono ?_
  rintro x w2 ⟨u1, u2, m1, m2, d1, d2, rfl, b2⟩
  have H3 : Hid (Below V.heap.size V w2) := H2.out.trans (b2.mono H2.out.size)
  have HF : Hid (Below w.heap.size w w2) := HB.out.trans (H3.out.mono HB.out.size)
  clear b2 HPU HCELL
  go_wp2_with fail
  go_ret
  exact ⟨rfl, HF.out.alloc HF.out.size _⟩

theorem holds_walk (s : Int) (p : Int) (q1 q2 : Option Addr) (n1 n2 c1 c2 : Nat) (a b c d e : Int) (bs ss : List L) (w : World) (h1 : LS w (.slice q1 n1 c1) bs) (h2 : LS w (.slice q2 n2 c2) ss) :
    Calls Try.prog 4 #[.agg #[.slice q1 n1 c1, .slice q2 n2 c2], .int .i64 s, .int .i64 p, .agg #[.int .i64 a, .int .i64 b, .int .i64 c, .int .i64 d, .int .i64 e]] w fun x w' => x = .returned (.bool true) ∧ Below w.heap.size w w' := by
  by_cases h0 : putE bs ss s p ⟨a, b, c, d, e⟩ = 0
  · rcases put_side h0 with rfl | rfl
    · exact holds_1 p q1 q2 n1 n2 c1 c2 a b c d e bs ss w h1 h2 h0
    · exact holds_2 p q1 q2 n1 n2 c1 c2 a b c d e bs ss w h1 h2 h0
  · exact holds_err s p q1 q2 n1 n2 c1 c2 a b c d e bs ss w h1 h2 h0
end Go.Proofs.Ytfjabgomakjepaa.bok
