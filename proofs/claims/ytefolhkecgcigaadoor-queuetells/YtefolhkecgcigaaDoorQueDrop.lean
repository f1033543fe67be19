/- Contracts over this seat's translation: queue.Drop at every queue and id. -/
import Derived.Test.YtefolhkecgcigaaDoorQuePush
import Derived.Test.YtefolhkecgcigaaDoorQueRef3
import Derived.Deep.RegionHeld3
namespace Go.Proofs.YtefolhkecgcigaaDoor.que
open Go.RowKit Go.Proofs.YtefolhkecgcigaaDoor.spn

theorem OwnM.up'' {w : World} {base base' : Nat} {e : TypeId} {sz : Nat} {v : Value} {n : Nat} {xs : List Value} (h : OwnM w base e sz v n xs) (hb : base' ≤ base) : OwnM w base' e sz v n xs := by
  refine ⟨h.1, ?_⟩
  rcases h.2 with hh | ⟨g, off, cap, cur, e1, e2, e3⟩
  · exact .inl hh
  · exact .inr ⟨g, off, cap, cur, e1, Nat.le_trans hb e2, e3⟩

/-- What is wrong with dropping an id. -/
def dchk (zs : List R) (id : Int) : Int := if qchk zs = 0 then (if idx id zs < 0 then 5 else 0) else qchk zs

/-- Five stores, cell by cell, into a block of five. -/
theorem set5 {w : World} {B : Nat} {y0 y1 y2 y3 y4 : Value} {t : TypeId} (h : w.heap[B]? = some (.cells #[y0, y1, y2, y3, y4] t (0, 0))) (x0 x1 x2 x3 x4 : Value) :
    (((((w.setCell ⟨B, 0, none⟩ x0).setCell ⟨B, 1, none⟩ x1).setCell ⟨B, 2, none⟩ x2).setCell ⟨B, 3, none⟩ x3).setCell ⟨B, 4, none⟩ x4).heap[B]? = some (.cells #[x0, x1, x2, x3, x4] t (0, 0)) := by
  have h0 := heap_setCell_same w B 0 _ _ x0 h
  have h1 := heap_setCell_same _ B 1 _ _ x1 h0
  have h2 := heap_setCell_same _ B 2 _ _ x2 h1
  have h3 := heap_setCell_same _ B 3 _ _ x3 h2
  have h4 := heap_setCell_same _ B 4 _ _ x4 h3
  exact h4
theorem row5 {w : World} {B : Nat} {x0 x1 x2 x3 x4 : Value} {t : TypeId} (h : w.heap[B]? = some (.cells #[x0, x1, x2, x3, x4] t (0, 0))) :
    w.cell? ⟨B, 0, none⟩ = some x0 ∧ w.cell? ⟨B, 1, none⟩ = some x1 ∧ w.cell? ⟨B, 2, none⟩ = some x2 ∧ w.cell? ⟨B, 3, none⟩ = some x3 ∧ w.cell? ⟨B, 4, none⟩ = some x4 ∧ ∀ j, w.frozen? ⟨B, j, none⟩ = false :=
  ⟨by simp [World.cell?, h], by simp [World.cell?, h], by simp [World.cell?, h], by simp [World.cell?, h], by simp [World.cell?, h], fun j => frozen_of_row w _ j _ _ h⟩

theorem drop_bad (v : Value) (zs : List R) (id : Int) (w : World) (h : SL w v zs) (h0 : ¬ qchk zs = 0) :
    Calls Tryd.prog 15 #[v, .int .i64 id] w fun x w' => x = .returned (.tuple #[.slice none 0 0, .agg #[.int .i64 0, .int .i64 0, .int .i64 0, .int .i64 0, .int .i64 0], errV (qchk zs)]) ∧ Below w.heap.size w w' := by
  have HC : Hid (∀ W, SL W v zs → Calls Tryd.prog 7 #[v] W fun e w' => e = .returned (.iface 48 (.int .i64 (qchk zs))) ∧ Below W.heap.size W w') := by
    intro W hW
    have := qcheck_any v zs W hW
    rwa [errV_of h0] at this
  rw [errV_of h0]
  generalize qchk zs = k at *
  have HS : Hid (SL w v zs) := h
  clear h
  go_enter Tryd.func15, Tryd.ntmps15
  go_wp2_with fail
  refine (HC.out _ (HS.out.below ((Below.refl _ _).alloc (Nat.le_refl _) _))).mono ?_
  rintro x w1 ⟨rfl, hb1⟩
  have hB : Below w.heap.size w w1 := ((Below.refl _ _).alloc (Nat.le_refl _) _).trans (hb1.mono (by simp))
  have hR1 : w1.heap[w.heap.size]? = some (.cells #[.int .i64 0, .int .i64 0, .int .i64 0, .int .i64 0, .int .i64 0] 24 (0, 0)) := by
    rw [hb1.block w.heap.size (by simp)]
    exact heap_alloc_new w _
  clear hb1
  obtain ⟨c0, c1, c2, c3, c4, hf⟩ := row5 hR1
  have f0 := hf 0
  have f1 := hf 1
  have f2 := hf 2
  have f3 := hf 3
  have f4 := hf 4
  clear hf
  have HX := set5 hR1 (.int .i64 0) (.int .i64 0) (.int .i64 0) (.int .i64 0) (.int .i64 0)
  have HBX : Below w.heap.size w (((((w1.setCell ⟨w.heap.size, 0, none⟩ (.int .i64 0)).setCell ⟨w.heap.size, 1, none⟩ (.int .i64 0)).setCell ⟨w.heap.size, 2, none⟩ (.int .i64 0)).setCell ⟨w.heap.size, 3, none⟩ (.int .i64 0)).setCell ⟨w.heap.size, 4, none⟩ (.int .i64 0)) := ((((hB.setCell (Nat.le_refl _) _).setCell (Nat.le_refl _) _).setCell (Nat.le_refl _) _).setCell (Nat.le_refl _) _).setCell (Nat.le_refl _) _
  go_wp2_with fail
  generalize (((((w1.setCell ⟨w.heap.size, 0, none⟩ (.int .i64 0)).setCell ⟨w.heap.size, 1, none⟩ (.int .i64 0)).setCell ⟨w.heap.size, 2, none⟩ (.int .i64 0)).setCell ⟨w.heap.size, 3, none⟩ (.int .i64 0)).setCell ⟨w.heap.size, 4, none⟩ (.int .i64 0)) = V at *
  obtain ⟨d0, d1, d2, d3, d4, -⟩ := row5 HX
  clear HX
  exact bodyPost_ret (v := .tuple #[.slice none 0 0, .agg #[.int .i64 0, .int .i64 0, .int .i64 0, .int .i64 0, .int .i64 0], .iface 48 (.int .i64 k)]) (by simp [results, Tryd.results15, go_sem, d0, d1, d2, d3, d4]) rfl ⟨rfl, HBX⟩

theorem drop_none (v : Value) (zs : List R) (id : Int) (w : World) (h : SL w v zs) (h0 : qchk zs = 0) (h1 : idx id zs < 0) :
    Calls Tryd.prog 15 #[v, .int .i64 id] w fun x w' => x = .returned (.tuple #[.slice none 0 0, .agg #[.int .i64 0, .int .i64 0, .int .i64 0, .int .i64 0, .int .i64 0], errV 5]) ∧ Below w.heap.size w w' := by
  have HC : Hid (∀ W, SL W v zs → Calls Tryd.prog 7 #[v] W fun e w' => e = .returned .nilIface ∧ Below W.heap.size W w') := by
    intro W hW
    have := qcheck_any v zs W hW
    rwa [h0, errV_zero] at this
  have HF : Hid (∀ W, SL W v zs → Calls Tryd.prog 22 #[v, .int .i64 id] W fun e w' => e = .returned (.int .i64 (idx id zs)) ∧ Below W.heap.size W w') := fun W hW => find_any id v zs W hW
  generalize idx id zs = k at *
  have HS : Hid (SL w v zs) := h
  clear h h0
  go_enter Tryd.func15, Tryd.ntmps15
  go_wp2_with fail
  refine (HC.out _ (HS.out.below ((Below.refl _ _).alloc (Nat.le_refl _) _))).mono ?_
  rintro x w1 ⟨rfl, hb1⟩
  have hB : Below w.heap.size w w1 := ((Below.refl _ _).alloc (Nat.le_refl _) _).trans (hb1.mono (by simp))
  have hR1 : w1.heap[w.heap.size]? = some (.cells #[.int .i64 0, .int .i64 0, .int .i64 0, .int .i64 0, .int .i64 0] 24 (0, 0)) := by
    rw [hb1.block w.heap.size (by simp)]
    exact heap_alloc_new w _
  have hz : w.heap.size < w1.heap.size := by have := hb1.size; simp at this; omega
  clear hb1
  go_wp2_with fail
  refine (HF.out _ (HS.out.below hB)).mono ?_
  rintro x w2 ⟨rfl, hb2⟩
  have hB2 : Below w.heap.size w w2 := hB.trans (hb2.mono hB.size)
  have hR2 : w2.heap[w.heap.size]? = some (.cells #[.int .i64 0, .int .i64 0, .int .i64 0, .int .i64 0, .int .i64 0] 24 (0, 0)) := by
    rw [hb2.block w.heap.size hz]
    exact hR1
  clear hb2 hB hR1 hz
  obtain ⟨c0, c1, c2, c3, c4, hf⟩ := row5 hR2
  have f0 := hf 0
  have f1 := hf 1
  have f2 := hf 2
  have f3 := hf 3
  have f4 := hf 4
  clear hf
  have HX := set5 hR2 (.int .i64 0) (.int .i64 0) (.int .i64 0) (.int .i64 0) (.int .i64 0)
  have HBX : Below w.heap.size w (((((w2.setCell ⟨w.heap.size, 0, none⟩ (.int .i64 0)).setCell ⟨w.heap.size, 1, none⟩ (.int .i64 0)).setCell ⟨w.heap.size, 2, none⟩ (.int .i64 0)).setCell ⟨w.heap.size, 3, none⟩ (.int .i64 0)).setCell ⟨w.heap.size, 4, none⟩ (.int .i64 0)) := ((((hB2.setCell (Nat.le_refl _) _).setCell (Nat.le_refl _) _).setCell (Nat.le_refl _) _).setCell (Nat.le_refl _) _).setCell (Nat.le_refl _) _
  go_wp2_with fail
  generalize (((((w2.setCell ⟨w.heap.size, 0, none⟩ (.int .i64 0)).setCell ⟨w.heap.size, 1, none⟩ (.int .i64 0)).setCell ⟨w.heap.size, 2, none⟩ (.int .i64 0)).setCell ⟨w.heap.size, 3, none⟩ (.int .i64 0)).setCell ⟨w.heap.size, 4, none⟩ (.int .i64 0)) = V at *
  obtain ⟨d0, d1, d2, d3, d4, -⟩ := row5 HX
  clear HX
  exact bodyPost_ret (v := .tuple #[.slice none 0 0, .agg #[.int .i64 0, .int .i64 0, .int .i64 0, .int .i64 0, .int .i64 0], .iface 48 (.int .i64 5)]) (by simp [results, Tryd.results15, go_sem, d0, d1, d2, d3, d4]) rfl ⟨rfl, HBX⟩

set_option maxRecDepth 100000 in
set_option maxHeartbeats 1000000 in
theorem drop_good (b o c n : Nat) (zs : List R) (id : Int) (i : Nat) (a1 b1 q d e : Int) (w : World) (hN : zs.length = n) (hb : b < w.heap.size) (hc : n ≤ c) (hm : c ≤ 9223372036854775807) (hl : Lies w b o zs) (h0 : qchk zs = 0) (h1 : idx id zs = (i : Int)) (hi : i < n) (hr : zs[i]! = ⟨a1, b1, q, d, e⟩) :
    Calls Tryd.prog 15 #[.slice (some ⟨b, o, none⟩) n c, .int .i64 id] w fun x w' => ∃ lv, x = .returned (.tuple #[lv, .agg #[.int .i64 a1, .int .i64 b1, .int .i64 q, .int .i64 d, .int .i64 e], .nilIface]) ∧ OwnQ w' w.heap.size lv (zs.take i ++ zs.drop (i + 1)) ∧ Below w.heap.size w w' := by
  obtain ⟨h60, -⟩ := (qchk_zero zs).1 h0
  have HSL : Hid (SL w (.slice (some ⟨b, o, none⟩) n c) zs) := .inr ⟨b, o, c, by rw [hN], by rw [hN]; exact hc, hm, hb, hl⟩
  have HC : Hid (∀ W, SL W (.slice (some ⟨b, o, none⟩) n c) zs → Calls Tryd.prog 7 #[.slice (some ⟨b, o, none⟩) n c] W fun e w' => e = .returned .nilIface ∧ Below W.heap.size W w') := by
    intro W hW
    have := qcheck_any _ zs W hW
    rwa [h0, errV_zero] at this
  have HF : Hid (∀ W, SL W (.slice (some ⟨b, o, none⟩) n c) zs → Calls Tryd.prog 22 #[.slice (some ⟨b, o, none⟩) n c, .int .i64 id] W fun e w' => e = .returned (.int .i64 (i : Int)) ∧ Below W.heap.size W w') := by
    intro W hW
    have := find_any id _ zs W hW
    rwa [h1] at this
  obtain ⟨c0, c1, c2, c3, c4⟩ := lies_at hl (show i < zs.length by omega) hr
  have HL : Hid (Lies w b o zs) := hl
  have HN : Hid (zs.length = n) := hN
  clear h0 h1 hl hr hN
  have hn60 : n ≤ 60 := by have := HN.out; omega
  clear h60
  have g1 : ¬ ((i : Int) < 0) := by omega
  have g2 : (i : Int) ≤ (c : Int) := by omega
  have g3 : (i : Int) < (n : Int) := by omega
  have g4 : (n : Int) ≤ (c : Int) := by omega
  have e1 : wrap64 ((i : Int) + 1) = (i : Int) + 1 := by unfold wrap64; omega
  have e2 : IntKind.i64.wrap ((i : Int) + 1) = (i : Int) + 1 := (IntWalk.i64_left _).trans e1
  have g5 : (0 : Int) ≤ (i : Int) + 1 := by omega
  have g6 : (i : Int) + 1 ≤ (n : Int) := by omega
  have g7 : (0 : Int) ≤ (i : Int) := by omega
  go_enter Tryd.func15, Tryd.ntmps15
  go_wp2_with fail
  refine (HC.out _ (HSL.out.below ((Below.refl _ _).alloc (Nat.le_refl _) _))).mono ?_
  rintro x w1 ⟨rfl, hb1⟩
  have hB : Below w.heap.size w w1 := ((Below.refl _ _).alloc (Nat.le_refl _) _).trans (hb1.mono (by simp))
  have hR1 : w1.heap[w.heap.size]? = some (.cells #[.int .i64 0, .int .i64 0, .int .i64 0, .int .i64 0, .int .i64 0] 24 (0, 0)) := by
    rw [hb1.block w.heap.size (by simp)]
    exact heap_alloc_new w _
  have hz : w.heap.size < w1.heap.size := by have := hb1.size; simp at this; omega
  clear hb1
  go_wp2_with fail
  refine (HF.out _ (HSL.out.below hB)).mono ?_
  rintro x w2 ⟨rfl, hb2⟩
  have hB2 : Below w.heap.size w w2 := hB.trans (hb2.mono hB.size)
  have hR2 : w2.heap[w.heap.size]? = some (.cells #[.int .i64 0, .int .i64 0, .int .i64 0, .int .i64 0, .int .i64 0] 24 (0, 0)) := by
    rw [hb2.block w.heap.size hz]
    exact hR1
  have hz2 : w.heap.size < w2.heap.size := by have := hb2.size; omega
  clear hb2 hB hR1 hz
  have d0 := c0
  have d1 := c1
  have d2 := c2
  have d3 := c3
  have d4 := c4
  clear c0 c1 c2 c3 c4
  go_upto_region 7 with fail
  by_cases hcap : c = i + 1
  · have hni : n = i + 1 := by omega
    subst hcap
    subst hni
    have g8 : (i : Int) ≤ (i : Int) + 1 := by omega
    have g9 : (i : Int) < (i : Int) + 1 := by omega
    have hV : Below w2.heap.size w2 ((w2.alloc (.cells #[.slice (some ⟨b, o, none⟩) i (i + 1), .slice (some ⟨b, o, none⟩) 0 0] 22)).drew) := ((Below.refl _ _).alloc (Nat.le_refl _) _).drew
    have HCON : Hid (Calls Tryd.prog 21 #[.slice (some ⟨w2.heap.size, 0, none⟩) 2 2] ((w2.alloc (.cells #[.slice (some ⟨b, o, none⟩) i (i + 1), .slice (some ⟨b, o, none⟩) 0 0] 22)).drew) fun x w' => ∃ lv, x = .returned lv ∧ OwnQ w' (w2.heap.size + 1) lv (zs.take i ++ zs.drop (i + 1)) ∧ Below w2.heap.size w2 w') := by
      have h := concat_any w2.heap.size 2 2 (fun j => if j = 0 then .slice (some ⟨b, o, none⟩) i (i + 1) else .slice (some ⟨b, o, none⟩) 0 0) (fun j => if j = 0 then zs.take i else zs.drop (i + 1)) ((w2.alloc (.cells #[.slice (some ⟨b, o, none⟩) i (i + 1), .slice (some ⟨b, o, none⟩) 0 0] 22)).drew) (by omega) ?hc ?hs ?hl
      · refine h.mono ?_
        rintro x w' ⟨lv, h1, h2, h3⟩
        have h2' : OwnQ w' ((w2.alloc (.cells #[.slice (some ⟨b, o, none⟩) i (i + 1), .slice (some ⟨b, o, none⟩) 0 0] 22)).drew).heap.size lv (zs.take i ++ zs.drop (i + 1)) := h2
        rw [show ((w2.alloc (.cells #[.slice (some ⟨b, o, none⟩) i (i + 1), .slice (some ⟨b, o, none⟩) 0 0] 22)).drew).heap.size = w2.heap.size + 1 by simp] at h2'
        exact ⟨lv, h1, h2', hV.trans (h3.mono hV.size)⟩
      case hc =>
        intro j hj
        have : j = 0 ∨ j = 1 := by omega
        rcases this with rfl | rfl <;> simp [go_sem]
      case hs =>
        have hbw : b < w2.heap.size := Nat.lt_trans hb hz2
        have hlw : Lies w2 b o zs := HL.out.below hb hB2
        intro j hj
        have : j = 0 ∨ j = 1 := by omega
        rcases this with rfl | rfl
        · exact (sl_take (by rw [HN.out]; omega) (by rw [HN.out]; exact hc) hm hbw hlw).below hV
        · exact (show SL w2 (.slice (some ⟨b, o, none⟩) 0 0) (zs.drop (i + 1)) from by rw [List.drop_eq_nil_of_le (by rw [HN.out]; omega)]; exact .inr ⟨b, o, 0, rfl, Nat.le_refl _, by omega, hbw, fun j hj => by simp at hj⟩).below hV
      case hl =>
        show (([] ++ zs.take i) ++ zs.drop (i + 1)).length ≤ 1000
        have := HN.out
        simp; omega
    clear hV
    have SO : Hid (∀ W, Below w.heap.size w W → (Below w.heap.size w W ∧ W.cell? ⟨b, o + i * 5, none⟩ = some (.int .i64 a1) ∧ W.cell? ⟨b, o + i * 5 + 1, none⟩ = some (.int .i64 b1) ∧ W.cell? ⟨b, o + i * 5 + 2, none⟩ = some (.int .i64 q) ∧ W.cell? ⟨b, o + i * 5 + 3, none⟩ = some (.int .i64 d) ∧ W.cell? ⟨b, o + i * 5 + 4, none⟩ = some (.int .i64 e))) := fun W hW => ⟨hW, keeps hW d0, keeps hW d1, keeps hW d2, keeps hW d3, keeps hW d4⟩
    go_region_held3 (fun W => Below w.heap.size w W ∧ W.cell? ⟨b, o + i * 5, none⟩ = some (.int .i64 a1) ∧ W.cell? ⟨b, o + i * 5 + 1, none⟩ = some (.int .i64 b1) ∧ W.cell? ⟨b, o + i * 5 + 2, none⟩ = some (.int .i64 q) ∧ W.cell? ⟨b, o + i * 5 + 3, none⟩ = some (.int .i64 d) ∧ W.cell? ⟨b, o + i * 5 + 4, none⟩ = some (.int .i64 e))
      ((refine SO.out _ ?_; (repeat' (first | with_reducible assumption | with_reducible refine bal ?_ _ | with_reducible refine Below.setCell ?_ ?_ _ | with_reducible refine Below.drew ?_ | with_reducible exact Below.refl _ _ | with_reducible exact Nat.le_refl _ | with_reducible exact Below.size (by with_reducible assumption) | with_reducible refine Nat.le_succ_of_le ?_))))
      (first | (go_at_call 21; refine HCON.out.mono ?_; rintro x W ⟨lv, rfl, hO, hbn⟩; have hRW := (hbn.block w.heap.size hz2).trans hR2; have hBW : Below w.heap.size w W := hB2.trans (hbn.mono hB2.size); obtain ⟨x0, x1, x2, x3, x4, xf⟩ := row5 hRW; have f0 := xf 0; have f1 := xf 1; have f2 := xf 2; have f3 := xf 3; have f4 := xf 4))
    have HX := set5 hRW (.int .i64 a1) (.int .i64 b1) (.int .i64 q) (.int .i64 d) (.int .i64 e)
    have HBX : Below w.heap.size w (((((W.setCell ⟨w.heap.size, 0, none⟩ (.int .i64 a1)).setCell ⟨w.heap.size, 1, none⟩ (.int .i64 b1)).setCell ⟨w.heap.size, 2, none⟩ (.int .i64 q)).setCell ⟨w.heap.size, 3, none⟩ (.int .i64 d)).setCell ⟨w.heap.size, 4, none⟩ (.int .i64 e)) := ((((hBW.setCell (Nat.le_refl _) _).setCell (Nat.le_refl _) _).setCell (Nat.le_refl _) _).setCell (Nat.le_refl _) _).setCell (Nat.le_refl _) _
    have hne : lv.ownBlock = none ∨ lv.ownBlock ≠ some w.heap.size := by
      cases h : lv.ownBlock with
      | none => exact .inl rfl
      | some k =>
        right
        intro he
        have := (hO.lt k h).1
        simp only [Option.some.injEq] at he
        omega
    have HOX : Hid (OwnQ (((((W.setCell ⟨w.heap.size, 0, none⟩ (.int .i64 a1)).setCell ⟨w.heap.size, 1, none⟩ (.int .i64 b1)).setCell ⟨w.heap.size, 2, none⟩ (.int .i64 q)).setCell ⟨w.heap.size, 3, none⟩ (.int .i64 d)).setCell ⟨w.heap.size, 4, none⟩ (.int .i64 e)) w.heap.size lv (zs.take i ++ zs.drop (i + 1))) := (hO.kept (grown_trans (grown_trans (grown_trans (grown_trans (grown_set _ _ _ _) (grown_set _ _ _ _)) (grown_set _ _ _ _)) (grown_set _ _ _ _)) (grown_set _ _ _ _)) hne).up'' (by omega)
    clear hO hne hbn hBW
    go_wp2_with fail
    generalize (((((W.setCell ⟨w.heap.size, 0, none⟩ (.int .i64 a1)).setCell ⟨w.heap.size, 1, none⟩ (.int .i64 b1)).setCell ⟨w.heap.size, 2, none⟩ (.int .i64 q)).setCell ⟨w.heap.size, 3, none⟩ (.int .i64 d)).setCell ⟨w.heap.size, 4, none⟩ (.int .i64 e)) = V at *
    obtain ⟨y0, y1, y2, y3, y4, -⟩ := row5 HX
    clear HX
    exact bodyPost_ret (v := .tuple #[lv, .agg #[.int .i64 a1, .int .i64 b1, .int .i64 q, .int .i64 d, .int .i64 e], .nilIface]) (by simp [results, Tryd.results15, go_sem, y0, y1, y2, y3, y4]) rfl ⟨_, rfl, HOX.out, HBX⟩
  · have hV : Below w2.heap.size w2 ((w2.alloc (.cells #[.slice (some ⟨b, o, none⟩) i c, .slice (some ⟨b, o + (i + 1) * 5, none⟩) (n - (i + 1)) (c - (i + 1))] 22)).drew) := ((Below.refl _ _).alloc (Nat.le_refl _) _).drew
    have HCON : Hid (Calls Tryd.prog 21 #[.slice (some ⟨w2.heap.size, 0, none⟩) 2 2] ((w2.alloc (.cells #[.slice (some ⟨b, o, none⟩) i c, .slice (some ⟨b, o + (i + 1) * 5, none⟩) (n - (i + 1)) (c - (i + 1))] 22)).drew) fun x w' => ∃ lv, x = .returned lv ∧ OwnQ w' (w2.heap.size + 1) lv (zs.take i ++ zs.drop (i + 1)) ∧ Below w2.heap.size w2 w') := by
      have h := concat_any w2.heap.size 2 2 (fun j => if j = 0 then .slice (some ⟨b, o, none⟩) i c else .slice (some ⟨b, o + (i + 1) * 5, none⟩) (n - (i + 1)) (c - (i + 1))) (fun j => if j = 0 then zs.take i else zs.drop (i + 1)) ((w2.alloc (.cells #[.slice (some ⟨b, o, none⟩) i c, .slice (some ⟨b, o + (i + 1) * 5, none⟩) (n - (i + 1)) (c - (i + 1))] 22)).drew) (by omega) ?hc ?hs ?hl
      · refine h.mono ?_
        rintro x w' ⟨lv, h1, h2, h3⟩
        have h2' : OwnQ w' ((w2.alloc (.cells #[.slice (some ⟨b, o, none⟩) i c, .slice (some ⟨b, o + (i + 1) * 5, none⟩) (n - (i + 1)) (c - (i + 1))] 22)).drew).heap.size lv (zs.take i ++ zs.drop (i + 1)) := h2
        rw [show ((w2.alloc (.cells #[.slice (some ⟨b, o, none⟩) i c, .slice (some ⟨b, o + (i + 1) * 5, none⟩) (n - (i + 1)) (c - (i + 1))] 22)).drew).heap.size = w2.heap.size + 1 by simp] at h2'
        exact ⟨lv, h1, h2', hV.trans (h3.mono hV.size)⟩
      case hc =>
        intro j hj
        have : j = 0 ∨ j = 1 := by omega
        rcases this with rfl | rfl <;> simp [go_sem]
      case hs =>
        have hbw : b < w2.heap.size := Nat.lt_trans hb hz2
        have hlw : Lies w2 b o zs := HL.out.below hb hB2
        intro j hj
        have : j = 0 ∨ j = 1 := by omega
        rcases this with rfl | rfl
        · exact (sl_take (by rw [HN.out]; omega) (by rw [HN.out]; exact hc) hm hbw hlw).below hV
        · exact (show SL w2 (.slice (some ⟨b, o + (i + 1) * 5, none⟩) (n - (i + 1)) (c - (i + 1))) (zs.drop (i + 1)) from by have h := cut_sl (k := i + 1) (by rw [HN.out]; omega) (by rw [HN.out]; exact hc) hm hbw hlw; rw [HN.out] at h; exact h).below hV
      case hl =>
        show (([] ++ zs.take i) ++ zs.drop (i + 1)).length ≤ 1000
        have := HN.out
        simp; omega
    clear hV
    have SO : Hid (∀ W, Below w.heap.size w W → (Below w.heap.size w W ∧ W.cell? ⟨b, o + i * 5, none⟩ = some (.int .i64 a1) ∧ W.cell? ⟨b, o + i * 5 + 1, none⟩ = some (.int .i64 b1) ∧ W.cell? ⟨b, o + i * 5 + 2, none⟩ = some (.int .i64 q) ∧ W.cell? ⟨b, o + i * 5 + 3, none⟩ = some (.int .i64 d) ∧ W.cell? ⟨b, o + i * 5 + 4, none⟩ = some (.int .i64 e))) := fun W hW => ⟨hW, keeps hW d0, keeps hW d1, keeps hW d2, keeps hW d3, keeps hW d4⟩
    go_region_held3 (fun W => Below w.heap.size w W ∧ W.cell? ⟨b, o + i * 5, none⟩ = some (.int .i64 a1) ∧ W.cell? ⟨b, o + i * 5 + 1, none⟩ = some (.int .i64 b1) ∧ W.cell? ⟨b, o + i * 5 + 2, none⟩ = some (.int .i64 q) ∧ W.cell? ⟨b, o + i * 5 + 3, none⟩ = some (.int .i64 d) ∧ W.cell? ⟨b, o + i * 5 + 4, none⟩ = some (.int .i64 e))
      ((refine SO.out _ ?_; (repeat' (first | with_reducible assumption | with_reducible refine bal ?_ _ | with_reducible refine Below.setCell ?_ ?_ _ | with_reducible refine Below.drew ?_ | with_reducible exact Below.refl _ _ | with_reducible exact Nat.le_refl _ | with_reducible exact Below.size (by with_reducible assumption) | with_reducible refine Nat.le_succ_of_le ?_))))
      (first | (go_at_call 21; refine HCON.out.mono ?_; rintro x W ⟨lv, rfl, hO, hbn⟩; have hRW := (hbn.block w.heap.size hz2).trans hR2; have hBW : Below w.heap.size w W := hB2.trans (hbn.mono hB2.size); obtain ⟨x0, x1, x2, x3, x4, xf⟩ := row5 hRW; have f0 := xf 0; have f1 := xf 1; have f2 := xf 2; have f3 := xf 3; have f4 := xf 4))
    have HX := set5 hRW (.int .i64 a1) (.int .i64 b1) (.int .i64 q) (.int .i64 d) (.int .i64 e)
    have HBX : Below w.heap.size w (((((W.setCell ⟨w.heap.size, 0, none⟩ (.int .i64 a1)).setCell ⟨w.heap.size, 1, none⟩ (.int .i64 b1)).setCell ⟨w.heap.size, 2, none⟩ (.int .i64 q)).setCell ⟨w.heap.size, 3, none⟩ (.int .i64 d)).setCell ⟨w.heap.size, 4, none⟩ (.int .i64 e)) := ((((hBW.setCell (Nat.le_refl _) _).setCell (Nat.le_refl _) _).setCell (Nat.le_refl _) _).setCell (Nat.le_refl _) _).setCell (Nat.le_refl _) _
    have hne : lv.ownBlock = none ∨ lv.ownBlock ≠ some w.heap.size := by
      cases h : lv.ownBlock with
      | none => exact .inl rfl
      | some k =>
        right
        intro he
        have := (hO.lt k h).1
        simp only [Option.some.injEq] at he
        omega
    have HOX : Hid (OwnQ (((((W.setCell ⟨w.heap.size, 0, none⟩ (.int .i64 a1)).setCell ⟨w.heap.size, 1, none⟩ (.int .i64 b1)).setCell ⟨w.heap.size, 2, none⟩ (.int .i64 q)).setCell ⟨w.heap.size, 3, none⟩ (.int .i64 d)).setCell ⟨w.heap.size, 4, none⟩ (.int .i64 e)) w.heap.size lv (zs.take i ++ zs.drop (i + 1))) := (hO.kept (grown_trans (grown_trans (grown_trans (grown_trans (grown_set _ _ _ _) (grown_set _ _ _ _)) (grown_set _ _ _ _)) (grown_set _ _ _ _)) (grown_set _ _ _ _)) hne).up'' (by omega)
    clear hO hne hbn hBW
    go_wp2_with fail
    generalize (((((W.setCell ⟨w.heap.size, 0, none⟩ (.int .i64 a1)).setCell ⟨w.heap.size, 1, none⟩ (.int .i64 b1)).setCell ⟨w.heap.size, 2, none⟩ (.int .i64 q)).setCell ⟨w.heap.size, 3, none⟩ (.int .i64 d)).setCell ⟨w.heap.size, 4, none⟩ (.int .i64 e)) = V at *
    obtain ⟨y0, y1, y2, y3, y4, -⟩ := row5 HX
    clear HX
    exact bodyPost_ret (v := .tuple #[lv, .agg #[.int .i64 a1, .int .i64 b1, .int .i64 q, .int .i64 d, .int .i64 e], .nilIface]) (by simp [results, Tryd.results15, go_sem, y0, y1, y2, y3, y4]) rfl ⟨_, rfl, HOX.out, HBX⟩

/-- Drop, at every queue and every id. -/
theorem drop_any (v : Value) (zs : List R) (id : Int) (w : World) (h : SL w v zs) :
    Calls Tryd.prog 15 #[v, .int .i64 id] w fun x w' => ∃ lv r, x = .returned (.tuple #[lv, .agg (rV r).toArray, errV (dchk zs id)]) ∧ (dchk zs id = 0 → OwnQ w' w.heap.size lv (zs.take (idx id zs).toNat ++ zs.drop ((idx id zs).toNat + 1)) ∧ r = zs[(idx id zs).toNat]!) ∧ (dchk zs id ≠ 0 → lv = .slice none 0 0 ∧ r = ⟨0, 0, 0, 0, 0⟩) ∧ Below w.heap.size w w' := by
  unfold dchk
  by_cases h0 : qchk zs = 0
  · rw [if_pos h0]
    by_cases h1 : idx id zs < 0
    · rw [if_pos h1]
      refine (drop_none v zs id w h h0 h1).mono ?_
      rintro x w' ⟨rfl, hB⟩
      exact ⟨_, ⟨0, 0, 0, 0, 0⟩, rfl, fun hh => absurd hh (by decide), fun _ => ⟨rfl, rfl⟩, hB⟩
    · rw [if_neg h1]
      obtain ⟨i, hi⟩ : ∃ i : Nat, idx id zs = (i : Int) := ⟨(idx id zs).toNat, by omega⟩
      have hil := idx_lt id zs
      rcases h with ⟨rfl, rfl⟩ | ⟨b, o, c, rfl, i2, i3, i4, i5⟩
      · simp at hil; omega
      · obtain ⟨r, hr⟩ : ∃ r, zs[i]! = r := ⟨_, rfl⟩
        obtain ⟨a1, b1, q, d, e⟩ := r
        refine (drop_good b o c zs.length zs id i a1 b1 q d e w rfl i4 i2 i3 i5 h0 hi (by omega) hr).mono ?_
        rintro x w' ⟨lv, rfl, hO, hB⟩
        refine ⟨lv, ⟨a1, b1, q, d, e⟩, rfl, fun _ => ?_, fun hh => absurd rfl hh, hB⟩
        rw [hi, Int.toNat_natCast]
        exact ⟨hO, hr.symm⟩
  · rw [if_neg h0]
    refine (drop_bad v zs id w h h0).mono ?_
    rintro x w' ⟨rfl, hB⟩
    exact ⟨_, ⟨0, 0, 0, 0, 0⟩, rfl, fun hh => absurd hh h0, fun _ => ⟨rfl, rfl⟩, hB⟩

end Go.Proofs.YtefolhkecgcigaaDoor.que
