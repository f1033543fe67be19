/- Contracts over this seat's translation: purse's Get. -/
import Derived.Test.YthndnndejdckeaaDoorPurPure
namespace Go.Proofs.YthndnndejdckeaaDoor.pur
open Go.RowKit Go.Proofs.YthndnndejdckeaaDoor.spn

theorem set5 {w : World} {B : Nat} {y0 y1 y2 y3 y4 : Value} {t : TypeId} (h : w.heap[B]? = some (.cells #[y0, y1, y2, y3, y4] t (0, 0))) (x0 x1 x2 x3 x4 : Value) :
    (((((w.setCell ⟨B, 0, none⟩ x0).setCell ⟨B, 1, none⟩ x1).setCell ⟨B, 2, none⟩ x2).setCell ⟨B, 3, none⟩ x3).setCell ⟨B, 4, none⟩ x4).heap[B]? = some (.cells #[x0, x1, x2, x3, x4] t (0, 0)) := by
  have h0 := heap_setCell_same w B 0 _ _ x0 h
  have h1 := heap_setCell_same _ B 1 _ _ x1 h0
  have h2 := heap_setCell_same _ B 2 _ _ x2 h1
  have h3 := heap_setCell_same _ B 3 _ _ x3 h2
  have h4 := heap_setCell_same _ B 4 _ _ x4 h3
  exact h4
theorem row5 {w : World} {B : Nat} {x0 x1 x2 x3 x4 : Value} {t : TypeId} (h : w.heap[B]? = some (.cells #[x0, x1, x2, x3, x4] t (0, 0))) :
    w.cell? ⟨B, 0, none⟩ = some x0 ∧ w.cell? ⟨B, 1, none⟩ = some x1 ∧ w.cell? ⟨B, 2, none⟩ = some x2 ∧ w.cell? ⟨B, 3, none⟩ = some x3 ∧ w.cell? ⟨B, 4, none⟩ = some x4 ∧ ∀ j, w.frozen? ⟨B, j, none⟩ = false :=
  ⟨by simp [World.cell?, h], by simp [World.cell?, h], by simp [World.cell?, h], by simp [World.cell?, h], by simp [World.cell?, h], fun j => frozen_of_row w _ j _ _ h⟩
theorem gr5 (w : World) (B : Nat) (x0 x1 x2 x3 x4 : Value) : w.grownBy (((((w.setCell ⟨B, 0, none⟩ x0).setCell ⟨B, 1, none⟩ x1).setCell ⟨B, 2, none⟩ x2).setCell ⟨B, 3, none⟩ x3).setCell ⟨B, 4, none⟩ x4) (some B) :=
  grT (grT (grT (grT (grC _ _ _ _) (grC _ _ _ _)) (grC _ _ _ _)) (grC _ _ _ _)) (grC _ _ _ _)

def badW (who : Int) : Bool := [(who, 1, 9)].any spanB
theorem badW_no {who : Int} (h : badW who = false) : 1 ≤ who ∧ who ≤ 9 := by
  simp [badW, spanB] at h
  omega
def getZ (ps : List Pz) (who : Int) : Pz := if badW who = true then zeroP else ps[ix who]!

set_option maxRecDepth 100000 in
set_option maxHeartbeats 2000000 in
theorem get_any (P : Nat) (ps : List Pz) (who : Int) (w : World) (h : Pu 52 9 w P ps) :
    Calls Tryd.prog 15 #[.pointer (some ⟨P, 0, none⟩), .int .i64 who] w fun e w' => e = .returned (.tuple #[.agg (pL (getZ ps who)).toArray, errV (rangeE (badW who))]) ∧ Below w.heap.size w w' := by
  have HP := hidU h
  have HR : Hid ([(who, 1, 9)].any spanB = badW who) := rfl
  obtain ⟨X, hX⟩ : ∃ x, x = w.heap.size := ⟨_, rfl⟩
  have HB0 := hidU ((Below.refl _ w).alloc (Nat.le_refl _) (.cells #[.int .i64 0, .int .i64 0, .int .i64 0, .int .i64 0, .int .i64 0] 26))
  have HR0 := hidU (heap_alloc_new w (.cells #[.int .i64 0, .int .i64 0, .int .i64 0, .int .i64 0, .int .i64 0] 26))
  rw [← hX] at HR0
  have HX : Hid (w.heap.size ≤ X) := Nat.le_of_eq hX.symm
  cases hb : badW who with
  | true =>
    rw [hb] at HR
    have eg : getZ ps who = zeroP := by unfold getZ; rw [hb]; rfl
    rw [eg]
    clear h hb eg
    go_enter Tryd.func15, Tryd.ntmps15
    go_wp2_with fail
    simp only [← hX]
    generalize w.alloc (.cells #[.int .i64 0, .int .i64 0, .int .i64 0, .int .i64 0, .int .i64 0] 26) = w0 at *
    clear hX
    refine (who_any who _).mono ?_
    rintro e w1 ⟨rfl, hb1⟩
    have HB1 := hidU (HB0.out.trans (hb1.mono HB0.out.size))
    have HR1 := hidU ((hb1.block X (Array.getElem?_eq_some_iff.1 HR0.out).1).trans HR0.out)
    clear hb1
    go_wp2_with fail
    refine (scheck1 true _ _ _ _ _ rfl HR.out).mono ?_
    rintro e w2 ⟨rfl, hb2⟩
    have HB2 := hidU (HB1.out.trans (hb2.mono HB1.out.size))
    have HR2 := hidU ((hb2.block X (Array.getElem?_eq_some_iff.1 HR1.out).1).trans HR1.out)
    have HS := hidU (set5 HR2.out (.int .i64 0) (.int .i64 0) (.int .i64 0) (.int .i64 0) (.int .i64 0))
    have HG := hidU (HB2.out.grown (gr5 w2 X (.int .i64 0) (.int .i64 0) (.int .i64 0) (.int .i64 0) (.int .i64 0)) HB2.out.size (fun k hk => by cases hk; exact HX.out))
    obtain ⟨d0, d1, d2, d3, d4, df⟩ := row5 HR2.out
    clear hb2
    simp only [show errV (rangeE true) = .iface 55 (.int .i64 1) from rfl]
    go_wp2_with fail
    clear d0 d1 d2 d3 d4 df
    generalize (((((w2.setCell ⟨X, 0, none⟩ (.int .i64 0)).setCell ⟨X, 1, none⟩ (.int .i64 0)).setCell ⟨X, 2, none⟩ (.int .i64 0)).setCell ⟨X, 3, none⟩ (.int .i64 0)).setCell ⟨X, 4, none⟩ (.int .i64 0)) = w9 at *
    obtain ⟨y0, y1, y2, y3, y4, -⟩ := row5 HS.out
    exact bodyPost_ret (v := .tuple #[.agg #[.int .i64 0, .int .i64 0, .int .i64 0, .int .i64 0, .int .i64 0], .iface 55 (.int .i64 1)]) (by simp [results, Tryd.results15, go_sem, y0, y1, y2, y3, y4]) rfl ⟨rfl, HG.out⟩
  | false =>
    rw [hb] at HR
    obtain ⟨b1, b2⟩ := badW_no hb
    obtain ⟨k, hw, hk, hix⟩ := ix_of b1 b2
    have eg : getZ ps who = ps[k]! := by unfold getZ; rw [hb, hix]; rfl
    rw [eg]
    have HOF : Hid (∀ W, Calls Tryd.prog 21 #[.pointer (some ⟨P, 0, none⟩), .int .i64 who] W fun e w' => e = .returned (.pointer (some ⟨P, k * 5, none⟩)) ∧ w' = W) := fun W => of_at P k who W hw hk
    have HC : Hid (∀ W, Pu 52 9 W P ps → ∀ f v, (pL ps[k]!)[f]? = some v → W.cell? ⟨P, k * 5 + f, none⟩ = some v) := fun W hW => hW.cell k hk
    generalize ps[k]! = z at *
    obtain ⟨z0, z1, z2, z3, z4⟩ := z
    clear h hb eg hw hk hix b1 b2
    go_enter Tryd.func15, Tryd.ntmps15
    go_wp2_with fail
    simp only [← hX]
    generalize w.alloc (.cells #[.int .i64 0, .int .i64 0, .int .i64 0, .int .i64 0, .int .i64 0] 26) = w0 at *
    clear hX
    refine (who_any who _).mono ?_
    rintro e w1 ⟨rfl, hb1⟩
    have HB1 := hidU (HB0.out.trans (hb1.mono HB0.out.size))
    have HR1 := hidU ((hb1.block X (Array.getElem?_eq_some_iff.1 HR0.out).1).trans HR0.out)
    clear hb1
    go_wp2_with fail
    refine (scheck1 false _ _ _ _ _ rfl HR.out).mono ?_
    rintro e w2 ⟨rfl, hb2⟩
    have HB2 := hidU (HB1.out.trans (hb2.mono HB1.out.size))
    have HR2 := hidU ((hb2.block X (Array.getElem?_eq_some_iff.1 HR1.out).1).trans HR1.out)
    clear hb2
    simp only [show errV (rangeE false) = .nilIface from rfl]
    go_wp2_with fail
    refine (HOF.out _).mono ?_
    rintro e w3 ⟨rfl, rfl⟩
    have HS := hidU (set5 HR2.out (.int .i64 z0) (.int .i64 z1) (.int .i64 z2) (.int .i64 z3) (.int .i64 z4))
    have HG := hidU (HB2.out.grown (gr5 w3 X (.int .i64 z0) (.int .i64 z1) (.int .i64 z2) (.int .i64 z3) (.int .i64 z4)) HB2.out.size (fun k hk => by cases hk; exact HX.out))
    obtain ⟨d0, d1, d2, d3, d4, df⟩ := row5 HR2.out
    have hc := HC.out w3 (HP.out.below HB2.out)
    have c0 := hc 0 _ rfl
    have c1 := hc 1 _ rfl
    have c2 := hc 2 _ rfl
    have c3 := hc 3 _ rfl
    have c4 := hc 4 _ rfl
    simp only [Nat.add_zero] at c0
    clear hc
    go_wp2_with fail
    clear d0 d1 d2 d3 d4 df c0 c1 c2 c3 c4
    generalize (((((w3.setCell ⟨X, 0, none⟩ (.int .i64 z0)).setCell ⟨X, 1, none⟩ (.int .i64 z1)).setCell ⟨X, 2, none⟩ (.int .i64 z2)).setCell ⟨X, 3, none⟩ (.int .i64 z3)).setCell ⟨X, 4, none⟩ (.int .i64 z4)) = w9 at *
    obtain ⟨y0, y1, y2, y3, y4, -⟩ := row5 HS.out
    exact bodyPost_ret (v := .tuple #[.agg #[.int .i64 z0, .int .i64 z1, .int .i64 z2, .int .i64 z3, .int .i64 z4], .nilIface]) (by simp [results, Tryd.results15, go_sem, y0, y1, y2, y3, y4]) rfl ⟨rfl, HG.out⟩
end Go.Proofs.YthndnndejdckeaaDoor.pur
