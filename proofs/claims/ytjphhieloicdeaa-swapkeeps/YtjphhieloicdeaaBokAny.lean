/- Contracts over this seat's translation: book.Find, Cancel, Top, Count where the book is wrong, or the id is not there. -/
import Derived.Test.YtjphhieloicdeaaBokFind2
namespace Go.Proofs.Ytjphhieloicdeaa.bok
open Go.RowKit Go.Proofs.Ytjphhieloicdeaa.spn Go.Proofs.Ytjphhieloicdeaa.que Go.Proofs.Ytjphhieloicdeaa.sid

theorem hidB {P : Prop} (h : P) : Hid P := h
set_option maxRecDepth 100000 in
set_option maxHeartbeats 2000000 in
theorem find_bad (q1 q2 : Option Addr) (n1 n2 c1 c2 : Nat) (bs ss : List L) (id : Int) (w : World) (h1 : LS w (.slice q1 n1 c1) bs) (h2 : LS w (.slice q2 n2 c2) ss) (h0 : ¬ bookE bs ss = 0) :
    Calls Try.prog 7 #[.agg #[.slice q1 n1 c1, .slice q2 n2 c2], .int .i64 id] w fun e w' => e = .returned (.tuple #[.int .i64 0, .int .i64 0, .agg #[.int .i64 0, .int .i64 0, .int .i64 0, .int .i64 0, .int .i64 0], .iface 64 (.int .i64 (bookE bs ss))]) ∧ Below w.heap.size w w' := by
  have HCH := fun W (hW : Below w.heap.size w W) => check_any q1 q2 n1 n2 c1 c2 bs ss W (h1.below hW) (h2.below hW)
  rw [errV_of h0] at HCH
  generalize bookE bs ss = K at *
  obtain ⟨V, hV⟩ : ∃ V, V = (w.alloc (.cells #[.slice q1 n1 c1, .slice q2 n2 c2] 24)).alloc (.cells #[.int .i64 0, .int .i64 0, .int .i64 0, .int .i64 0, .int .i64 0] 26) := ⟨_, rfl⟩
  have HB : Hid (Below w.heap.size w V) := by rw [hV]; exact ((Below.refl _ _).alloc (Nat.le_refl _) _).alloc (by simp) _
  have v0 : V.cell? ⟨w.heap.size, 0, none⟩ = some (.slice q1 n1 c1) := by rw [hV]; simp [go_sem]
  have v1 : V.cell? ⟨w.heap.size, 1, none⟩ = some (.slice q2 n2 c2) := by rw [hV]; simp [go_sem]
  have hR : V.heap[w.heap.size + 1]? = some (.cells #[.int .i64 0, .int .i64 0, .int .i64 0, .int .i64 0, .int .i64 0] 26 (0, 0)) := by
    rw [hV]
    have := heap_alloc_new (w.alloc (.cells #[.slice q1 n1 c1, .slice q2 n2 c2] 24)) (.cells #[.int .i64 0, .int .i64 0, .int .i64 0, .int .i64 0, .int .i64 0] 26)
    simpa using this
  have hVs : w.heap.size + 1 < V.heap.size := (Array.getElem?_eq_some_iff.1 hR).1
  clear h1 h2
  go_enter Try.func7, Try.ntmps7
  go_wp2_with fail
  rw [← hV]
  refine (HCH V HB.out).mono ?_
  rintro x w1 ⟨rfl, b1⟩
  have hB1 := HB.out.trans (b1.mono HB.out.size)
  have hR1 : w1.heap[w.heap.size + 1]? = some (.cells #[.int .i64 0, .int .i64 0, .int .i64 0, .int .i64 0, .int .i64 0] 26 (0, 0)) := by rw [b1.block _ hVs]; exact hR
  obtain ⟨e0, e1, e2, e3, e4, hfr⟩ := rowFive hR1
  have f0 := hfr 0
  have f1 := hfr 1
  have f2 := hfr 2
  have f3 := hfr 3
  have f4 := hfr 4
  have HHX := hidB (setFive hR1 (.int .i64 0) (.int .i64 0) (.int .i64 0) (.int .i64 0) (.int .i64 0))
  have hg := grFive w1 (w.heap.size + 1) (.int .i64 0) (.int .i64 0) (.int .i64 0) (.int .i64 0) (.int .i64 0)
  have HBX := hidB (hB1.grown hg hB1.size (fun k hk => by cases hk; omega))
  clear b1 HCH v0 v1 hR hV hfr hR1 hg hB1
  go_wp2_with fail
  generalize (((((w1.setCell ⟨w.heap.size + 1, 0, none⟩ (.int .i64 0)).setCell ⟨w.heap.size + 1, 1, none⟩ (.int .i64 0)).setCell ⟨w.heap.size + 1, 2, none⟩ (.int .i64 0)).setCell ⟨w.heap.size + 1, 3, none⟩ (.int .i64 0)).setCell ⟨w.heap.size + 1, 4, none⟩ (.int .i64 0)) = X at *
  obtain ⟨y0, y1, y2, y3, y4, -⟩ := rowFive HHX.out
  exact bodyPost_ret (v := .tuple #[.int .i64 0, .int .i64 0, .agg #[.int .i64 0, .int .i64 0, .int .i64 0, .int .i64 0, .int .i64 0], .iface 64 (.int .i64 K)]) (by simp [results, Try.results7, go_sem, y0, y1, y2, y3, y4]) rfl ⟨rfl, HBX.out⟩
set_option maxRecDepth 100000 in
set_option maxHeartbeats 2000000 in
theorem cancel_out (q1 q2 : Option Addr) (n1 n2 c1 c2 : Nat) (id K : Int) (w : World) (HFI : ∀ W, Below w.heap.size w W → Calls Try.prog 7 #[.agg #[.slice q1 n1 c1, .slice q2 n2 c2], .int .i64 id] W fun e w' => e = .returned (.tuple #[.int .i64 0, .int .i64 0, .agg #[.int .i64 0, .int .i64 0, .int .i64 0, .int .i64 0, .int .i64 0], .iface 64 (.int .i64 K)]) ∧ Below W.heap.size W w') :
    Calls Try.prog 9 #[.agg #[.slice q1 n1 c1, .slice q2 n2 c2], .int .i64 id] w fun e w' => e = .returned (.tuple #[.agg #[.slice none 0 0, .slice none 0 0], .agg #[.int .i64 0, .int .i64 0, .int .i64 0, .int .i64 0, .int .i64 0], .iface 64 (.int .i64 K)]) ∧ Below w.heap.size w w' := by
  obtain ⟨V1, hV1⟩ : ∃ V1, V1 = w.alloc (.cells #[.slice q1 n1 c1, .slice q2 n2 c2] 24) := ⟨_, rfl⟩
  obtain ⟨V2, hV2⟩ : ∃ V2, V2 = V1.alloc (.cells #[.slice none 0 0, .slice none 0 0] 24) := ⟨_, rfl⟩
  obtain ⟨V, hV⟩ : ∃ V, V = V2.alloc (.cells #[.int .i64 0, .int .i64 0, .int .i64 0, .int .i64 0, .int .i64 0] 26) := ⟨_, rfl⟩
  have hs1 : V1.heap.size = w.heap.size + 1 := by rw [hV1]; simp
  have hs2 : V2.heap.size = w.heap.size + 2 := by rw [hV2]; simp [hs1]
  have hb1 : Below w.heap.size w V1 := by rw [hV1]; exact (Below.refl _ _).alloc (Nat.le_refl _) _
  have hb2 : Below V1.heap.size V1 V2 := by rw [hV2]; exact (Below.refl _ _).alloc (Nat.le_refl _) _
  have hb3 : Below V2.heap.size V2 V := by rw [hV]; exact (Below.refl _ _).alloc (Nat.le_refl _) _
  have HB : Hid (Below w.heap.size w V) := by
    have h := hb1.trans (hb2.mono hb1.size)
    exact h.trans (hb3.mono h.size)
  have hB0 : V.heap[w.heap.size]? = some (.cells #[.slice q1 n1 c1, .slice q2 n2 c2] 24 (0, 0)) := by rw [hb3.block _ (by omega), hb2.block _ (by omega), hV1]; exact heap_alloc_new w _
  have hP0 : V.heap[w.heap.size + 1]? = some (.cells #[.slice none 0 0, .slice none 0 0] 24 (0, 0)) := by rw [hb3.block _ (by omega), ← hs1, hV2]; exact heap_alloc_new V1 _
  have hQ0 : V.heap[w.heap.size + 2]? = some (.cells #[.int .i64 0, .int .i64 0, .int .i64 0, .int .i64 0, .int .i64 0] 26 (0, 0)) := by rw [← hs2, hV]; exact heap_alloc_new V2 _
  obtain ⟨P, hP⟩ : ∃ P, P = w.heap.size + 1 := ⟨_, rfl⟩
  obtain ⟨Q, hQ⟩ : ∃ Q, Q = w.heap.size + 2 := ⟨_, rfl⟩
  rw [← hP] at hP0
  rw [← hQ] at hQ0
  have HPQ := hidB (show P = w.heap.size + 1 ∧ Q = w.heap.size + 2 from ⟨hP, hQ⟩)
  have HFI2 := hidB HFI
  obtain ⟨g0, g1, -⟩ := rowTwo hB0
  clear hs1 hs2 hb1 hb2 hb3 hB0 HFI
  go_enter Try.func9, Try.ntmps9
  go_wp2_with fail
  rw [← hV1, ← hV2, ← hV]
  simp only [← hQ]
  simp only [← hP]
  clear hV1 hV2 hV hP hQ
  refine (HFI2.out V HB.out).mono ?_
  rintro x w0 ⟨rfl, b1⟩
  obtain ⟨w1, hw1⟩ : ∃ W, W = w0.alloc (.cells #[.int .i64 0, .int .i64 0, .int .i64 0, .int .i64 0, .int .i64 0] 26) := ⟨_, rfl⟩
  have b2 : Below w0.heap.size w0 w1 := by rw [hw1]; exact (Below.refl _ _).alloc (Nat.le_refl _) _
  have b3 := b1.trans (b2.mono b1.size)
  have HB1 := hidB (HB.out.trans (b3.mono HB.out.size))
  have HP1 := hidB ((b3.block P (Array.getElem?_eq_some_iff.1 hP0).1).trans hP0)
  have HQ1 := hidB ((b3.block Q (Array.getElem?_eq_some_iff.1 hQ0).1).trans hQ0)
  clear b1 b2 b3 hP0 hQ0 HFI2 g0 g1
  go_upto_if 23 with fail
  rw [← hw1]
  clear hw1
  have hB1 := HB1.out
  have hP1 := HP1.out
  have hQ1 := HQ1.out
  have hgP := grTwo w1 P (.slice none 0 0) (.slice none 0 0)
  have hP2 := setTwo hP1 (.slice none 0 0) (.slice none 0 0)
  have hQ2 := (hgP.block Q (Array.getElem?_eq_some_iff.1 hQ1).1 (fun e => by cases e; have := HPQ.out; omega)).trans hQ1
  have hB2 := hB1.grown hgP hB1.size (fun k hk => by cases hk; have := HPQ.out; omega)
  have hgQ := grFive ((w1.setCell ⟨P, 0, none⟩ (.slice none 0 0)).setCell ⟨P, 1, none⟩ (.slice none 0 0)) Q (.int .i64 0) (.int .i64 0) (.int .i64 0) (.int .i64 0) (.int .i64 0)
  have HQX := hidB (setFive hQ2 (.int .i64 0) (.int .i64 0) (.int .i64 0) (.int .i64 0) (.int .i64 0))
  have HPX := hidB ((hgQ.block P (Array.getElem?_eq_some_iff.1 hP2).1 (fun e => by cases e; have := HPQ.out; omega)).trans hP2)
  have HBX := hidB (hB2.grown hgQ hB2.size (fun k hk => by cases hk; have := HPQ.out; omega))
  obtain ⟨p0, p1, pf⟩ := rowTwo hP1
  have pf0 := pf 0
  have pf1 := pf 1
  obtain ⟨q0, q1', q2', q3, q4, qf⟩ := rowFive hQ2
  have qf0 := qf 0
  have qf1 := qf 1
  have qf2 := qf 2
  have qf3 := qf 3
  have qf4 := qf 4
  clear hB1 hP1 hQ1 hgP hP2 hQ2 hB2 hgQ pf qf HB1 HP1 HQ1
  go_wp2_with fail
  generalize ((((((w1.setCell ⟨P, 0, none⟩ (.slice none 0 0)).setCell ⟨P, 1, none⟩ (.slice none 0 0)).setCell ⟨Q, 0, none⟩ (.int .i64 0)).setCell ⟨Q, 1, none⟩ (.int .i64 0)).setCell ⟨Q, 2, none⟩ (.int .i64 0)).setCell ⟨Q, 3, none⟩ (.int .i64 0)).setCell ⟨Q, 4, none⟩ (.int .i64 0) = X at *
  obtain ⟨a0, a1, -⟩ := rowTwo HPX.out
  obtain ⟨y0, y1, y2, y3, y4, -⟩ := rowFive HQX.out
  exact bodyPost_ret (v := .tuple #[.agg #[.slice none 0 0, .slice none 0 0], .agg #[.int .i64 0, .int .i64 0, .int .i64 0, .int .i64 0, .int .i64 0], .iface 64 (.int .i64 K)]) (by simp [results, Try.results9, go_sem, a0, a1, y0, y1, y2, y3, y4]) rfl ⟨rfl, HBX.out⟩
end Go.Proofs.Ytjphhieloicdeaa.bok
