/- Contracts over this seat's translation: swap.find, seat.keeps, seat.anew, less, Keeps; book.Find and book.Cancel where an id rests. -/
import Derived.Test.YtjphhieloicdeaaSwpPure
import Derived.Test.YtjphhieloicdeaaBokCancel
import Derived.Test.YtjphhieloicdeaaBokAny
namespace Go.Proofs.Ytjphhieloicdeaa.swp
open Go.RowKit Go.Proofs.Ytjphhieloicdeaa.spn Go.Proofs.Ytjphhieloicdeaa.que Go.Proofs.Ytjphhieloicdeaa.sid Go.Proofs.Ytjphhieloicdeaa.bok
open Go.Proofs.Ytjphhieloicdeaa.tickP (errB priceB tprice_V)

theorem setSeven {w : World} {B : Nat} {y0 y1 y2 y3 y4 y5 y6 : Value} {t : TypeId} (h : w.heap[B]? = some (.cells #[y0, y1, y2, y3, y4, y5, y6] t (0, 0))) (x0 x1 x2 x3 x4 x5 x6 : Value) :
    (((((((w.setCell ⟨B, 0, none⟩ x0).setCell ⟨B, 1, none⟩ x1).setCell ⟨B, 2, none⟩ x2).setCell ⟨B, 3, none⟩ x3).setCell ⟨B, 4, none⟩ x4).setCell ⟨B, 5, none⟩ x5).setCell ⟨B, 6, none⟩ x6).heap[B]? = some (.cells #[x0, x1, x2, x3, x4, x5, x6] t (0, 0)) := by
  have h0 := heap_setCell_same _ B 0 _ _ x0 h
  simp only [List.setIfInBounds_toArray, List.set_cons_zero] at h0
  have h1 := heap_setCell_same _ B 1 _ _ x1 h0
  simp only [List.setIfInBounds_toArray, List.set_cons_zero, List.set_cons_succ] at h1
  have h2 := heap_setCell_same _ B 2 _ _ x2 h1
  simp only [List.setIfInBounds_toArray, List.set_cons_zero, List.set_cons_succ] at h2
  have h3 := heap_setCell_same _ B 3 _ _ x3 h2
  simp only [List.setIfInBounds_toArray, List.set_cons_zero, List.set_cons_succ] at h3
  have h4 := heap_setCell_same _ B 4 _ _ x4 h3
  simp only [List.setIfInBounds_toArray, List.set_cons_zero, List.set_cons_succ] at h4
  have h5 := heap_setCell_same _ B 5 _ _ x5 h4
  simp only [List.setIfInBounds_toArray, List.set_cons_zero, List.set_cons_succ] at h5
  have h6 := heap_setCell_same _ B 6 _ _ x6 h5
  simp only [List.setIfInBounds_toArray, List.set_cons_zero, List.set_cons_succ] at h6
  exact h6
theorem rowSeven {w : World} {B : Nat} {x0 x1 x2 x3 x4 x5 x6 : Value} {t : TypeId} (h : w.heap[B]? = some (.cells #[x0, x1, x2, x3, x4, x5, x6] t (0, 0))) :
    w.cell? ⟨B, 0, none⟩ = some x0 ∧ w.cell? ⟨B, 1, none⟩ = some x1 ∧ w.cell? ⟨B, 2, none⟩ = some x2 ∧ w.cell? ⟨B, 3, none⟩ = some x3 ∧ w.cell? ⟨B, 4, none⟩ = some x4 ∧ w.cell? ⟨B, 5, none⟩ = some x5 ∧ w.cell? ⟨B, 6, none⟩ = some x6 ∧ ∀ j, w.frozen? ⟨B, j, none⟩ = false :=
  ⟨by simp [World.cell?, h], by simp [World.cell?, h], by simp [World.cell?, h], by simp [World.cell?, h], by simp [World.cell?, h], by simp [World.cell?, h], by simp [World.cell?, h], fun j => frozen_of_row w _ j _ _ h⟩
theorem grSeven (w : World) (B : Nat) (x0 x1 x2 x3 x4 x5 x6 : Value) : w.grownBy (((((((w.setCell ⟨B, 0, none⟩ x0).setCell ⟨B, 1, none⟩ x1).setCell ⟨B, 2, none⟩ x2).setCell ⟨B, 3, none⟩ x3).setCell ⟨B, 4, none⟩ x4).setCell ⟨B, 5, none⟩ x5).setCell ⟨B, 6, none⟩ x6) (some B) :=
  gr_trans (gr_trans (gr_trans (gr_trans (gr_trans (gr_trans (gr_setCell _ _ _ _) (gr_setCell _ _ _ _)) (gr_setCell _ _ _ _)) (gr_setCell _ _ _ _)) (gr_setCell _ _ _ _)) (gr_setCell _ _ _ _)) (gr_setCell _ _ _ _)
/-- Where an id rests, at which price, and what. -/
def At (bs ss : List L) (id s p : Int) (r : R) (i k : Nat) : Prop := ∃ ls, ∃ h : Spot bs ss id s ls i k, (ls[i]'h.hi).price = p ∧ (ls[i]'h.hi).rests[k]'h.hk = r
theorem at_of {bs ss : List L} {id : Int} (h0 : bookE bs ss = 0) (hin : inBook bs ss id = true) : ∃ s p r i k, At bs ss id s p r i k := by
  obtain ⟨s, ls, i, k, h⟩ := spot_of h0 hin
  exact ⟨s, _, _, i, k, ls, h, rfl, rfl⟩
theorem At.book {bs ss : List L} {id s p : Int} {r : R} {i k : Nat} (h : At bs ss id s p r i k) : bookE bs ss = 0 := by obtain ⟨ls, h, -⟩ := h; exact h.h0
theorem At.id {bs ss : List L} {id s p : Int} {r : R} {i k : Nat} (h : At bs ss id s p r i k) : r.id = id := by obtain ⟨ls, h, -, rfl⟩ := h; exact h.hr
theorem At.wf {bs ss : List L} {id s p : Int} {r : R} {i k : Nat} (h : At bs ss id s p r i k) : (Lit.int .i64 id).wf = true := by obtain ⟨ls, h, -⟩ := h; exact h.wf
theorem At.rest {bs ss : List L} {id s p : Int} {r : R} {i k : Nat} (h : At bs ss id s p r i k) : rchk r = 0 := by obtain ⟨ls, h, -, rfl⟩ := h; exact h.rest
theorem At.side {bs ss : List L} {id s p : Int} {r : R} {i k : Nat} (h : At bs ss id s p r i k) : s = 1 ∨ s = 2 := by
  obtain ⟨ls, h, -⟩ := h
  rcases h.side with h | h
  · exact .inl h.1
  · exact .inr h.1
theorem At.keep {bs ss : List L} {id s p : Int} {r r' : R} {i k : Nat} (h : At bs ss id s p r i k) (hid : r'.id = id) (hr : rchk r' = 0) : At (kB s bs i k r') (kS s ss i k r') id s p r' i k := by
  obtain ⟨ls, h, rfl, -⟩ := h
  refine ⟨_, h.keep hid hr, ?_, ?_⟩
  · rw [setL_at h.hi]
  · simp only [setL_at h.hi, List.getElem_set_self]
theorem At.drop {bs ss : List L} {id s p : Int} {r r' : R} {i k : Nat} (h : At bs ss id s p r i k) : cB s (kB s bs i k r') i k = cB s bs i k ∧ cS s (kS s ss i k r') i k = cS s ss i k := by
  obtain ⟨ls, h, -⟩ := h; exact h.drop
theorem bfind_at (q1 q2 : Option Addr) (n1 n2 c1 c2 : Nat) (bs ss : List L) (id s p r1 r2 r3 r4 r5 : Int) (i k : Nat) (w : World) (h1 : LS w (.slice q1 n1 c1) bs) (h2 : LS w (.slice q2 n2 c2) ss) (hA : At bs ss id s p ⟨r1, r2, r3, r4, r5⟩ i k) :
    Calls Try.prog 7 #[.agg #[.slice q1 n1 c1, .slice q2 n2 c2], .int .i64 id] w fun e w' => e = .returned (.tuple #[.int .i64 s, .int .i64 p, .agg #[.int .i64 r1, .int .i64 r2, .int .i64 r3, .int .i64 r4, .int .i64 r5], .nilIface]) ∧ Below w.heap.size w w' := by
  obtain ⟨ls, h, hp, hr⟩ := hA
  have hi := h.hi
  have hk := h.hk
  have hw := h.wf
  rcases h.side with ⟨rfl, rfl, f1, f2⟩ | ⟨rfl, rfl, f0, f1, f2⟩
  · have := find_in1 q1 q2 n1 n2 c1 c2 ls ss id hw i k w h1 h2 h.h0 hi hk (by unfold findV; rw [f2, f1, errV_zero])
    rw [hp, hr] at this
    exact this
  · have := find_in2 q1 q2 n1 n2 c1 c2 bs ls id hw i k w h1 h2 h.h0 f0 hi hk (by unfold findV; rw [f2, f1, errV_zero])
    rw [hp, hr] at this
    exact this
theorem bcancel_at (q1 q2 : Option Addr) (n1 n2 c1 c2 : Nat) (bs ss : List L) (id s p r1 r2 r3 r4 r5 : Int) (i k : Nat) (w : World) (h1 : LS w (.slice q1 n1 c1) bs) (h2 : LS w (.slice q2 n2 c2) ss) (hA : At bs ss id s p ⟨r1, r2, r3, r4, r5⟩ i k) :
    Calls Try.prog 9 #[.agg #[.slice q1 n1 c1, .slice q2 n2 c2], .int .i64 id] w fun e w' => ∃ u1 u2 m1 m2 d1 d2, e = .returned (.tuple #[.agg #[.slice u1 m1 d1, .slice u2 m2 d2], .agg #[.int .i64 r1, .int .i64 r2, .int .i64 r3, .int .i64 r4, .int .i64 r5], .nilIface]) ∧ DL w' w.heap.size (.slice u1 m1 d1) (cB s bs i k) ∧ DL w' w.heap.size (.slice u2 m2 d2) (cS s ss i k) ∧ Below w.heap.size w w' := by
  obtain ⟨ls, h, hp, hr⟩ := hA
  have hi := h.hi
  have hk := h.hk
  have hw := h.wf
  unfold cB cS
  rcases h.side with ⟨rfl, rfl, f1, f2⟩ | ⟨rfl, rfl, f0, f1, f2⟩
  · have := cancel_in1D q1 q2 n1 n2 c1 c2 ls ss id hw i k w h1 h2 h.h0 hi hk f1 f2
    rw [hr] at this
    rw [if_pos rfl, if_pos rfl]
    exact this
  · have := cancel_in2D q1 q2 n1 n2 c1 c2 bs ls id hw i k w h1 h2 h.h0 f0 hi hk f1 f2
    rw [hr] at this
    rw [if_neg (by decide), if_neg (by decide)]
    exact this

set_option maxRecDepth 100000 in
set_option maxHeartbeats 2000000 in
theorem sfind_out (q1 q2 : Option Addr) (n1 n2 c1 c2 : Nat) (id price K : Int) (w : World) (HFI : ∀ W, Below w.heap.size w W → Calls Try.prog 7 #[.agg #[.slice q1 n1 c1, .slice q2 n2 c2], .int .i64 id] W fun e w' => e = .returned (.tuple #[.int .i64 0, .int .i64 0, .agg #[.int .i64 0, .int .i64 0, .int .i64 0, .int .i64 0, .int .i64 0], .iface 64 (.int .i64 K)]) ∧ Below W.heap.size W w') :
    Calls Try.prog 14 #[.agg #[.slice q1 n1 c1, .slice q2 n2 c2], .int .i64 id, .int .i64 price] w fun e w' => e = .returned (.tuple #[.agg #[.int .i64 0, .int .i64 0, .int .i64 0, .int .i64 0, .int .i64 0, .int .i64 0, .int .i64 0], .iface 64 (.int .i64 K)]) ∧ Below w.heap.size w w' := by
  obtain ⟨V, hV⟩ : ∃ V, V = (w.alloc (.cells #[.slice q1 n1 c1, .slice q2 n2 c2] 24)).alloc (.cells #[.int .i64 0, .int .i64 0, .int .i64 0, .int .i64 0, .int .i64 0, .int .i64 0, .int .i64 0] 51) := ⟨_, rfl⟩
  have HB : Hid (Below w.heap.size w V) := by rw [hV]; exact ((Below.refl _ _).alloc (Nat.le_refl _) _).alloc (by simp) _
  have hR : V.heap[w.heap.size + 1]? = some (.cells #[.int .i64 0, .int .i64 0, .int .i64 0, .int .i64 0, .int .i64 0, .int .i64 0, .int .i64 0] 51 (0, 0)) := by
    rw [hV]
    have := heap_alloc_new (w.alloc (.cells #[.slice q1 n1 c1, .slice q2 n2 c2] 24)) (.cells #[.int .i64 0, .int .i64 0, .int .i64 0, .int .i64 0, .int .i64 0, .int .i64 0, .int .i64 0] 51)
    simpa using this
  obtain ⟨P, hP⟩ : ∃ P, P = w.heap.size + 1 := ⟨_, rfl⟩
  rw [← hP] at hR
  have HP : Hid (w.heap.size ≤ P) := by show _ ≤ _; omega
  have hVs : P < V.heap.size := (Array.getElem?_eq_some_iff.1 hR).1
  have HFV := hidW (HFI V HB.out)
  clear HFI
  go_enter Try.func14, Try.ntmps14
  go_wp2_with fail
  rw [← hV]
  simp only [← hP]
  clear hV hP
  refine HFV.out.mono ?_
  rintro x w1 ⟨rfl, b1⟩
  have hBa : Below w1.heap.size w1 (w1.alloc (.cells #[.int .i64 0, .int .i64 0, .int .i64 0, .int .i64 0, .int .i64 0] 26)) := (Below.refl _ _).alloc (Nat.le_refl _) _
  have hb2 := b1.trans (hBa.mono b1.size)
  have HB2 := hidW (HB.out.trans (hb2.mono HB.out.size))
  have hR2 := (hb2.block P hVs).trans hR
  clear HFV hR b1 hBa hb2
  go_upto_if 22 with fail
  generalize w1.alloc (.cells #[.int .i64 0, .int .i64 0, .int .i64 0, .int .i64 0, .int .i64 0] 26) = W2 at *
  generalize w1.heap.size = R0 at *
  obtain ⟨z0, z1, z2, z3, z4, z5, z6, zf⟩ := rowSeven hR2
  have f0 := zf 0
  have f1 := zf 1
  have f2 := zf 2
  have f3 := zf 3
  have f4 := zf 4
  have f5 := zf 5
  have f6 := zf 6
  have HHX := hidW (setSeven hR2 (.int .i64 0) (.int .i64 0) (.int .i64 0) (.int .i64 0) (.int .i64 0) (.int .i64 0) (.int .i64 0))
  have hgr := grSeven W2 P (.int .i64 0) (.int .i64 0) (.int .i64 0) (.int .i64 0) (.int .i64 0) (.int .i64 0) (.int .i64 0)
  have HBX := hidW (HB2.out.grown hgr HB2.out.size (fun k hk => by cases hk; exact HP.out))
  clear zf hgr hR2
  go_wp2_with fail
  generalize (((((((W2.setCell ⟨P, 0, none⟩ (.int .i64 0)).setCell ⟨P, 1, none⟩ (.int .i64 0)).setCell ⟨P, 2, none⟩ (.int .i64 0)).setCell ⟨P, 3, none⟩ (.int .i64 0)).setCell ⟨P, 4, none⟩ (.int .i64 0)).setCell ⟨P, 5, none⟩ (.int .i64 0)).setCell ⟨P, 6, none⟩ (.int .i64 0)) = X at *
  obtain ⟨y0, y1, y2, y3, y4, y5, y6, -⟩ := rowSeven HHX.out
  exact bodyPost_ret (v := .tuple #[.agg #[.int .i64 0, .int .i64 0, .int .i64 0, .int .i64 0, .int .i64 0, .int .i64 0, .int .i64 0], .iface 64 (.int .i64 K)]) (by simp [results, Try.results14, go_sem, y0, y1, y2, y3, y4, y5, y6]) rfl ⟨rfl, HBX.out⟩

set_option maxRecDepth 100000 in
set_option maxHeartbeats 2000000 in
theorem sfind_at (q1 q2 : Option Addr) (n1 n2 c1 c2 : Nat) (bs ss : List L) (id s p r1 r2 r3 r4 r5 price : Int) (i k : Nat) (w : World) (h1 : LS w (.slice q1 n1 c1) bs) (h2 : LS w (.slice q2 n2 c2) ss) (hA : At bs ss id s p ⟨r1, r2, r3, r4, r5⟩ i k) (hpr : priceB price = true) :
    Calls Try.prog 14 #[.agg #[.slice q1 n1 c1, .slice q2 n2 c2], .int .i64 id, .int .i64 price] w fun e w' => e = .returned (.tuple #[.agg #[.int .i64 s, .int .i64 p, .int .i64 r1, .int .i64 r2, .int .i64 r3, .int .i64 r4, .int .i64 r5], .nilIface]) ∧ Below w.heap.size w w' := by
  obtain ⟨V, hV⟩ : ∃ V, V = (w.alloc (.cells #[.slice q1 n1 c1, .slice q2 n2 c2] 24)).alloc (.cells #[.int .i64 0, .int .i64 0, .int .i64 0, .int .i64 0, .int .i64 0, .int .i64 0, .int .i64 0] 51) := ⟨_, rfl⟩
  have HB : Hid (Below w.heap.size w V) := by rw [hV]; exact ((Below.refl _ _).alloc (Nat.le_refl _) _).alloc (by simp) _
  have hR : V.heap[w.heap.size + 1]? = some (.cells #[.int .i64 0, .int .i64 0, .int .i64 0, .int .i64 0, .int .i64 0, .int .i64 0, .int .i64 0] 51 (0, 0)) := by
    rw [hV]
    have := heap_alloc_new (w.alloc (.cells #[.slice q1 n1 c1, .slice q2 n2 c2] 24)) (.cells #[.int .i64 0, .int .i64 0, .int .i64 0, .int .i64 0, .int .i64 0, .int .i64 0, .int .i64 0] 51)
    simpa using this
  obtain ⟨P, hP⟩ : ∃ P, P = w.heap.size + 1 := ⟨_, rfl⟩
  rw [← hP] at hR
  have HP : Hid (w.heap.size ≤ P) := by show _ ≤ _; omega
  have hVs : P < V.heap.size := (Array.getElem?_eq_some_iff.1 hR).1
  have HFV := hidW (bfind_at q1 q2 n1 n2 c1 c2 bs ss id s p r1 r2 r3 r4 r5 i k V (h1.below HB.out) (h2.below HB.out) hA)
  clear hA h1 h2
  go_enter Try.func14, Try.ntmps14
  go_wp2_with fail
  rw [← hV]
  simp only [← hP]
  clear hV hP
  refine HFV.out.mono ?_
  rintro x w1 ⟨rfl, b1⟩
  have hBa : Below w1.heap.size w1 (w1.alloc (.cells #[.int .i64 r1, .int .i64 r2, .int .i64 r3, .int .i64 r4, .int .i64 r5] 26)) := (Below.refl _ _).alloc (Nat.le_refl _) _
  have hRR : (w1.alloc (.cells #[.int .i64 r1, .int .i64 r2, .int .i64 r3, .int .i64 r4, .int .i64 r5] 26)).heap[w1.heap.size]? = some (.cells #[.int .i64 r1, .int .i64 r2, .int .i64 r3, .int .i64 r4, .int .i64 r5] 26 (0, 0)) := heap_alloc_new w1 _
  have hb2 := b1.trans (hBa.mono b1.size)
  have HB2 := hidW (HB.out.trans (hb2.mono HB.out.size))
  have hR2 := (hb2.block P hVs).trans hR
  clear HFV hR b1 hBa hb2
  go_upto_if 22 with fail
  generalize w1.alloc (.cells #[.int .i64 r1, .int .i64 r2, .int .i64 r3, .int .i64 r4, .int .i64 r5] 26) = W2 at *
  generalize w1.heap.size = R0 at *
  have HTP := hidW (tprice_V W2 price W2 (Below.refl _ _))
  rw [hpr, show errB true = Value.nilIface from rfl] at HTP
  clear hpr
  go_wp2_with fail
  refine HTP.out.mono ?_
  rintro x w3 ⟨rfl, b3⟩
  have HB3 := hidW (HB2.out.trans (b3.mono HB2.out.size))
  have hR3 := (b3.block P (Array.getElem?_eq_some_iff.1 hR2).1).trans hR2
  have hRR3 := (b3.block R0 (Array.getElem?_eq_some_iff.1 hRR).1).trans hRR
  obtain ⟨r0', r1', r2', r3', r4', -⟩ := rowFive hRR3
  clear b3 HTP HB2 hR2 hRR hRR3
  obtain ⟨z0, z1, z2, z3, z4, z5, z6, zf⟩ := rowSeven hR3
  have f0 := zf 0
  have f1 := zf 1
  have f2 := zf 2
  have f3 := zf 3
  have f4 := zf 4
  have f5 := zf 5
  have f6 := zf 6
  have HHX := hidW (setSeven hR3 (.int .i64 s) (.int .i64 p) (.int .i64 r1) (.int .i64 r2) (.int .i64 r3) (.int .i64 r4) (.int .i64 r5))
  have hgr := grSeven w3 P (.int .i64 s) (.int .i64 p) (.int .i64 r1) (.int .i64 r2) (.int .i64 r3) (.int .i64 r4) (.int .i64 r5)
  have HBX := hidW (HB3.out.grown hgr HB3.out.size (fun k hk => by cases hk; exact HP.out))
  clear zf hgr hR3
  go_wp2_with fail
  generalize (((((((w3.setCell ⟨P, 0, none⟩ (.int .i64 s)).setCell ⟨P, 1, none⟩ (.int .i64 p)).setCell ⟨P, 2, none⟩ (.int .i64 r1)).setCell ⟨P, 3, none⟩ (.int .i64 r2)).setCell ⟨P, 4, none⟩ (.int .i64 r3)).setCell ⟨P, 5, none⟩ (.int .i64 r4)).setCell ⟨P, 6, none⟩ (.int .i64 r5)) = X at *
  obtain ⟨y0, y1, y2, y3, y4, y5, y6, -⟩ := rowSeven HHX.out
  exact bodyPost_ret (v := .tuple #[.agg #[.int .i64 s, .int .i64 p, .int .i64 r1, .int .i64 r2, .int .i64 r3, .int .i64 r4, .int .i64 r5], .nilIface]) (by simp [results, Try.results14, go_sem, y0, y1, y2, y3, y4, y5, y6]) rfl ⟨rfl, HBX.out⟩

set_option maxRecDepth 100000 in
set_option maxHeartbeats 2000000 in
theorem sfind_pr (q1 q2 : Option Addr) (n1 n2 c1 c2 : Nat) (bs ss : List L) (id s p r1 r2 r3 r4 r5 price : Int) (i k : Nat) (w : World) (h1 : LS w (.slice q1 n1 c1) bs) (h2 : LS w (.slice q2 n2 c2) ss) (hA : At bs ss id s p ⟨r1, r2, r3, r4, r5⟩ i k) (hpr : priceB price = false) :
    Calls Try.prog 14 #[.agg #[.slice q1 n1 c1, .slice q2 n2 c2], .int .i64 id, .int .i64 price] w fun e w' => e = .returned (.tuple #[.agg #[.int .i64 0, .int .i64 0, .int .i64 0, .int .i64 0, .int .i64 0, .int .i64 0, .int .i64 0], .iface 64 (.int .i64 1)]) ∧ Below w.heap.size w w' := by
  obtain ⟨V, hV⟩ : ∃ V, V = (w.alloc (.cells #[.slice q1 n1 c1, .slice q2 n2 c2] 24)).alloc (.cells #[.int .i64 0, .int .i64 0, .int .i64 0, .int .i64 0, .int .i64 0, .int .i64 0, .int .i64 0] 51) := ⟨_, rfl⟩
  have HB : Hid (Below w.heap.size w V) := by rw [hV]; exact ((Below.refl _ _).alloc (Nat.le_refl _) _).alloc (by simp) _
  have hR : V.heap[w.heap.size + 1]? = some (.cells #[.int .i64 0, .int .i64 0, .int .i64 0, .int .i64 0, .int .i64 0, .int .i64 0, .int .i64 0] 51 (0, 0)) := by
    rw [hV]
    have := heap_alloc_new (w.alloc (.cells #[.slice q1 n1 c1, .slice q2 n2 c2] 24)) (.cells #[.int .i64 0, .int .i64 0, .int .i64 0, .int .i64 0, .int .i64 0, .int .i64 0, .int .i64 0] 51)
    simpa using this
  obtain ⟨P, hP⟩ : ∃ P, P = w.heap.size + 1 := ⟨_, rfl⟩
  rw [← hP] at hR
  have HP : Hid (w.heap.size ≤ P) := by show _ ≤ _; omega
  have hVs : P < V.heap.size := (Array.getElem?_eq_some_iff.1 hR).1
  have HFV := hidW (bfind_at q1 q2 n1 n2 c1 c2 bs ss id s p r1 r2 r3 r4 r5 i k V (h1.below HB.out) (h2.below HB.out) hA)
  clear hA h1 h2
  go_enter Try.func14, Try.ntmps14
  go_wp2_with fail
  rw [← hV]
  simp only [← hP]
  clear hV hP
  refine HFV.out.mono ?_
  rintro x w1 ⟨rfl, b1⟩
  have hBa : Below w1.heap.size w1 (w1.alloc (.cells #[.int .i64 r1, .int .i64 r2, .int .i64 r3, .int .i64 r4, .int .i64 r5] 26)) := (Below.refl _ _).alloc (Nat.le_refl _) _
  have hb2 := b1.trans (hBa.mono b1.size)
  have HB2 := hidW (HB.out.trans (hb2.mono HB.out.size))
  have hR2 := (hb2.block P hVs).trans hR
  clear HFV hR b1 hBa hb2
  go_upto_if 22 with fail
  generalize w1.alloc (.cells #[.int .i64 r1, .int .i64 r2, .int .i64 r3, .int .i64 r4, .int .i64 r5] 26) = W2 at *
  generalize w1.heap.size = R0 at *
  have HTP := hidW (tprice_V W2 price W2 (Below.refl _ _))
  rw [hpr, show errB false = Value.iface 64 (.int .i64 1) from rfl] at HTP
  clear hpr
  go_wp2_with fail
  refine HTP.out.mono ?_
  rintro x w3 ⟨rfl, b3⟩
  have HB3 := hidW (HB2.out.trans (b3.mono HB2.out.size))
  have hR3 := (b3.block P (Array.getElem?_eq_some_iff.1 hR2).1).trans hR2
  clear b3 HTP HB2 hR2
  obtain ⟨z0, z1, z2, z3, z4, z5, z6, zf⟩ := rowSeven hR3
  have f0 := zf 0
  have f1 := zf 1
  have f2 := zf 2
  have f3 := zf 3
  have f4 := zf 4
  have f5 := zf 5
  have f6 := zf 6
  have HHX := hidW (setSeven hR3 (.int .i64 0) (.int .i64 0) (.int .i64 0) (.int .i64 0) (.int .i64 0) (.int .i64 0) (.int .i64 0))
  have hgr := grSeven w3 P (.int .i64 0) (.int .i64 0) (.int .i64 0) (.int .i64 0) (.int .i64 0) (.int .i64 0) (.int .i64 0)
  have HBX := hidW (HB3.out.grown hgr HB3.out.size (fun k hk => by cases hk; exact HP.out))
  clear zf hgr hR3
  go_wp2_with fail
  generalize (((((((w3.setCell ⟨P, 0, none⟩ (.int .i64 0)).setCell ⟨P, 1, none⟩ (.int .i64 0)).setCell ⟨P, 2, none⟩ (.int .i64 0)).setCell ⟨P, 3, none⟩ (.int .i64 0)).setCell ⟨P, 4, none⟩ (.int .i64 0)).setCell ⟨P, 5, none⟩ (.int .i64 0)).setCell ⟨P, 6, none⟩ (.int .i64 0)) = X at *
  obtain ⟨y0, y1, y2, y3, y4, y5, y6, -⟩ := rowSeven HHX.out
  exact bodyPost_ret (v := .tuple #[.agg #[.int .i64 0, .int .i64 0, .int .i64 0, .int .i64 0, .int .i64 0, .int .i64 0, .int .i64 0], .iface 64 (.int .i64 1)]) (by simp [results, Try.results14, go_sem, y0, y1, y2, y3, y4, y5, y6]) rfl ⟨rfl, HBX.out⟩

/-- What is wrong with a swap: the book, the id, the price. -/
def fE (bs ss : List L) (id price : Int) : Int := if bookE bs ss = 0 then (if inBook bs ss id = true then (if priceB price = true then 0 else 1) else 5) else bookE bs ss
theorem fE_zero {bs ss : List L} {id price : Int} (h : fE bs ss id price = 0) : bookE bs ss = 0 ∧ inBook bs ss id = true ∧ priceB price = true := by
  unfold fE at h
  by_cases h0 : bookE bs ss = 0
  · rw [if_pos h0] at h
    by_cases h1 : inBook bs ss id = true
    · rw [if_pos h1] at h
      by_cases h2 : priceB price = true
      · exact ⟨h0, h1, h2⟩
      · rw [if_neg h2] at h; omega
    · rw [if_neg h1] at h; omega
  · rw [if_neg h0] at h; exact absurd h h0
theorem sfind_bad (q1 q2 : Option Addr) (n1 n2 c1 c2 : Nat) (bs ss : List L) (id price : Int) (hid : (Lit.int .i64 id).wf = true) (w : World) (h1 : LS w (.slice q1 n1 c1) bs) (h2 : LS w (.slice q2 n2 c2) ss) (hE : ¬ fE bs ss id price = 0) :
    Calls Try.prog 14 #[.agg #[.slice q1 n1 c1, .slice q2 n2 c2], .int .i64 id, .int .i64 price] w fun e w' => e = .returned (.tuple #[.agg #[.int .i64 0, .int .i64 0, .int .i64 0, .int .i64 0, .int .i64 0, .int .i64 0, .int .i64 0], .iface 64 (.int .i64 (fE bs ss id price))]) ∧ Below w.heap.size w w' := by
  unfold fE at hE ⊢
  by_cases h0 : bookE bs ss = 0
  · rw [if_pos h0] at hE ⊢
    by_cases hin : inBook bs ss id = true
    · rw [if_pos hin] at hE ⊢
      by_cases hp : priceB price = true
      · rw [if_pos hp] at hE; exact absurd rfl hE
      · rw [if_neg hp]
        obtain ⟨s, p, ⟨r1, r2, r3, r4, r5⟩, i, k, hA⟩ := at_of h0 hin
        exact sfind_pr q1 q2 n1 n2 c1 c2 bs ss id s p r1 r2 r3 r4 r5 price i k w h1 h2 hA (by simpa using hp)
    · rw [if_neg hin]
      obtain ⟨e1, e2, -⟩ := book_zero h0
      have hn : ¬ id ∈ ids bs ∧ ¬ id ∈ ids ss := by unfold inBook at hin; simpa using hin
      exact sfind_out q1 q2 n1 n2 c1 c2 id price 5 w (fun W hW => find_no q1 q2 n1 n2 c1 c2 bs ss id hid W (h1.below hW) (h2.below hW) h0 (findE_out e1 hn.1) (findE_out e2 hn.2))
  · rw [if_neg h0]
    exact sfind_out q1 q2 n1 n2 c1 c2 id price _ w (fun W hW => bok.find_bad q1 q2 n1 n2 c1 c2 bs ss id W (h1.below hW) (h2.below hW) h0)
/-- Does it keep its place? -/
def keepB (p : Int) (r : R) (price qty : Int) : Bool := decide (price = p) && decide (qty ≤ r.qty + r.hid)
set_option maxRecDepth 100000 in
set_option maxHeartbeats 1000000 in
theorem skeeps_any (s p r1 r2 r3 r4 r5 price qty : Int) (w : World) (hr : rchk ⟨r1, r2, r3, r4, r5⟩ = 0) :
    Calls Try.prog 17 #[.agg #[.int .i64 s, .int .i64 p, .int .i64 r1, .int .i64 r2, .int .i64 r3, .int .i64 r4, .int .i64 r5], .int .i64 price, .int .i64 qty] w fun e w' => e = .returned (.bool (keepB p ⟨r1, r2, r3, r4, r5⟩ price qty)) ∧ Below w.heap.size w w' := by
  have hs : wrap64 (r3 + r4) = r3 + r4 := by
    obtain ⟨a, b, -⟩ := rchk_zero hr
    simp only [] at a b
    unfold wrap64; omega
  unfold keepB
  clear hr
  show Calls _ _ _ _ fun e w' => e = .returned (.bool (decide (price = p) && decide (qty ≤ r3 + r4))) ∧ Below w.heap.size w w'
  have hB : Below w.heap.size w (w.alloc (.cells #[.int .i64 s, .int .i64 p, .int .i64 r1, .int .i64 r2, .int .i64 r3, .int .i64 r4, .int .i64 r5] 51)) := (Below.refl _ _).alloc (Nat.le_refl _) _
  by_cases hp : price = p
  · subst hp
    have he : (price == price) = true := by simp
    go_enter Try.func17, Try.ntmps17
    go_wp2
    go_ret
    exact ⟨by simp, hB⟩
  · have he : (price == p) = false := by simp [hp]
    go_enter Try.func17, Try.ntmps17
    go_wp2
    go_ret
    exact ⟨by simp [hp], hB⟩

set_option maxRecDepth 100000 in
set_option maxHeartbeats 1000000 in
theorem less_any (r1 r2 r3 r4 r5 qty : Int) (w : World) (hr : 1 ≤ r3 ∧ r3 ≤ 10000) (hq : 1 ≤ qty ∧ qty ≤ 10000) :
    Calls Try.prog 19 #[.agg #[.int .i64 r1, .int .i64 r2, .int .i64 r3, .int .i64 r4, .int .i64 r5], .int .i64 qty] w fun e w' => e = .returned (.agg #[.int .i64 r1, .int .i64 r2, .int .i64 (min r3 qty), .int .i64 (qty - min r3 qty), .int .i64 r5]) ∧ Below w.heap.size w w' := by
  have hs : wrap64 (qty - min r3 qty) = qty - min r3 qty := by unfold wrap64; omega
  have hB : Below w.heap.size w ((w.alloc (.cells #[.int .i64 r1, .int .i64 r2, .int .i64 (min r3 qty), .int .i64 (qty - min r3 qty), .int .i64 r5] 26)).alloc (.cells #[.int .i64 r1, .int .i64 r2, .int .i64 (min r3 qty), .int .i64 (qty - min r3 qty), .int .i64 r5] 26)) := ((Below.refl _ _).alloc (Nat.le_refl _) _).alloc (by simp) _
  clear hr hq
  go_enter Try.func19, Try.ntmps19
  go_wp2
  go_returns
  exact ⟨rfl, hB⟩
set_option maxRecDepth 100000 in
set_option maxHeartbeats 1000000 in
theorem anew_any (s r1 r2 r3 r4 r5 price qty : Int) (w : World) :
    Calls Try.prog 20 #[.agg #[.int .i64 r1, .int .i64 r2, .int .i64 r3, .int .i64 r4, .int .i64 r5], .int .i64 s, .int .i64 price, .int .i64 qty] w fun e w' => e = .returned (.agg #[.int .i64 r1, .int .i64 r2, .int .i64 s, .int .i64 1, .int .i64 price, .int .i64 qty, .int .i64 (min r5 qty), .int .i64 0]) ∧ Below w.heap.size w w' := by
  have hB : Below w.heap.size w ((w.alloc (.cells #[.int .i64 r1, .int .i64 r2, .int .i64 r3, .int .i64 r4, .int .i64 r5] 26)).alloc (.cells #[.int .i64 r1, .int .i64 r2, .int .i64 s, .int .i64 1, .int .i64 price, .int .i64 qty, .int .i64 (min r5 qty), .int .i64 0] 46)) := ((Below.refl _ _).alloc (Nat.le_refl _) _).alloc (by simp) _
  go_enter Try.func20, Try.ntmps20
  go_wp2
  go_returns
  exact ⟨rfl, hB⟩
set_option maxRecDepth 100000 in
set_option maxHeartbeats 1000000 in
theorem keeps_bad (q1 q2 : Option Addr) (n1 n2 c1 c2 : Nat) (bs ss : List L) (id price qty : Int) (hid : (Lit.int .i64 id).wf = true) (w : World) (h1 : LS w (.slice q1 n1 c1) bs) (h2 : LS w (.slice q2 n2 c2) ss) (hE : ¬ fE bs ss id price = 0) :
    Calls Try.prog 6 #[.agg #[.slice q1 n1 c1, .slice q2 n2 c2], .int .i64 id, .int .i64 price, .int .i64 qty] w fun e w' => e = .returned (.tuple #[.bool false, .iface 64 (.int .i64 (fE bs ss id price))]) ∧ Below w.heap.size w w' := by
  obtain ⟨V, hV⟩ : ∃ V, V = w.alloc (.cells #[.slice q1 n1 c1, .slice q2 n2 c2] 24) := ⟨_, rfl⟩
  have HB : Hid (Below w.heap.size w V) := by rw [hV]; exact (Below.refl _ _).alloc (Nat.le_refl _) _
  have HF := hidW (sfind_bad q1 q2 n1 n2 c1 c2 bs ss id price hid V (h1.below HB.out) (h2.below HB.out) hE)
  clear h1 h2 hid hE
  generalize fE bs ss id price = K at *
  go_enter Try.func6, Try.ntmps6
  go_wp2_with fail
  rw [← hV]
  clear hV
  refine HF.out.mono ?_
  rintro x w1 ⟨rfl, b1⟩
  have hb1 := HB.out.trans (b1.mono HB.out.size)
  have HD := hidW (hb1.alloc hb1.size (.cells #[.int .i64 0, .int .i64 0, .int .i64 0, .int .i64 0, .int .i64 0, .int .i64 0, .int .i64 0] 51))
  clear HF b1 hb1
  go_wp2_with fail
  go_ret2
  exact ⟨rfl, HD.out⟩
set_option maxRecDepth 100000 in
set_option maxHeartbeats 1000000 in
theorem keeps_at (q1 q2 : Option Addr) (n1 n2 c1 c2 : Nat) (bs ss : List L) (id s p r1 r2 r3 r4 r5 price qty : Int) (i k : Nat) (w : World) (h1 : LS w (.slice q1 n1 c1) bs) (h2 : LS w (.slice q2 n2 c2) ss) (hA : At bs ss id s p ⟨r1, r2, r3, r4, r5⟩ i k) (hpr : priceB price = true) :
    Calls Try.prog 6 #[.agg #[.slice q1 n1 c1, .slice q2 n2 c2], .int .i64 id, .int .i64 price, .int .i64 qty] w fun e w' => e = .returned (.tuple #[.bool (keepB p ⟨r1, r2, r3, r4, r5⟩ price qty), .nilIface]) ∧ Below w.heap.size w w' := by
  obtain ⟨V, hV⟩ : ∃ V, V = w.alloc (.cells #[.slice q1 n1 c1, .slice q2 n2 c2] 24) := ⟨_, rfl⟩
  have HB : Hid (Below w.heap.size w V) := by rw [hV]; exact (Below.refl _ _).alloc (Nat.le_refl _) _
  have HF := hidW (sfind_at q1 q2 n1 n2 c1 c2 bs ss id s p r1 r2 r3 r4 r5 price i k V (h1.below HB.out) (h2.below HB.out) hA hpr)
  have HK := hidW (fun W => skeeps_any s p r1 r2 r3 r4 r5 price qty W hA.rest)
  clear h1 h2 hA hpr
  generalize keepB p ⟨r1, r2, r3, r4, r5⟩ price qty = K at *
  go_enter Try.func6, Try.ntmps6
  go_wp2_with fail
  rw [← hV]
  clear hV
  refine HF.out.mono ?_
  rintro x w1 ⟨rfl, b1⟩
  have hb1 := HB.out.trans (b1.mono HB.out.size)
  have HD := hidW (hb1.alloc hb1.size (.cells #[.int .i64 s, .int .i64 p, .int .i64 r1, .int .i64 r2, .int .i64 r3, .int .i64 r4, .int .i64 r5] 51))
  clear HF b1 hb1
  go_wp2_with fail
  refine (HK.out _).mono ?_
  rintro x w2 ⟨rfl, b2⟩
  have HD2 := hidW (HD.out.trans (b2.mono HD.out.size))
  clear b2 HK HD
  go_wp2_with fail
  go_ret2
  exact ⟨rfl, HD2.out⟩

end Go.Proofs.Ytjphhieloicdeaa.swp
