/- Contracts over this seat's translation: package order's read at too few words; what its other way leans on. -/
import Derived.Test.YtpcomgnglidhhaaGreatDoorOrdRead2
namespace Go.Proofs.YtpcomgnglidhhaaGreatDoor.ord
open Go.RowKit

attribute [local go_sem ↓] Go.wp_at_zero Go.wp_at_succ


theorem there8 {w : World} {b : Nat} {z0 z1 z2 z3 z4 z5 z6 z7 : Value} {t : TypeId} (h : w.heap[b]? = some (.cells #[z0, z1, z2, z3, z4, z5, z6, z7] t (0, 0))) : w.there b 0 8 := by
  intro j hj
  rw [Joins.cell_of_block h, Joins.unfrozen_of_block h]
  have : j = 0 ∨ j = 1 ∨ j = 2 ∨ j = 3 ∨ j = 4 ∨ j = 5 ∨ j = 6 ∨ j = 7 := by omega
  rcases this with rfl | rfl | rfl | rfl | rfl | rfl | rfl | rfl <;> exact ⟨rfl, rfl⟩

theorem stored8 {w : World} {b : Nat} {z0 z1 z2 z3 z4 z5 z6 z7 : Value} {t : TypeId} (v0 v1 v2 v3 v4 v5 v6 v7 : Value) (h : w.heap[b]? = some (.cells #[z0, z1, z2, z3, z4, z5, z6, z7] t (0, 0))) :
    (w.setCells b 0 [v0, v1, v2, v3, v4, v5, v6, v7]).heap[b]? = some (.cells #[v0, v1, v2, v3, v4, v5, v6, v7] t (0, 0)) := by
  simp only [World.setCells]
  have := Joins.block_setCell (i := 7) (Joins.block_setCell (i := 6) (Joins.block_setCell (i := 5) (Joins.block_setCell (i := 4) (Joins.block_setCell (i := 3) (Joins.block_setCell (i := 2) (Joins.block_setCell (i := 1) (Joins.block_setCell (i := 0) h v0) v1) v2) v3) v4) v5) v6) v7
  simpa using this

theorem part_sub (nm : List UInt8) (ws : List (List UInt8)) : ∀ l ∈ (part nm ws).2, l ∈ ws := by
  intro l hl
  unfold part at hl
  split at hl
  · split at hl
    · simp only at hl; simp [hl]
    · exact hl
  · exact hl

theorem heap_lt {w : World} {b : Nat} {o : Obj} (h : w.heap[b]? = some o) : b < w.heap.size := by
  rcases Nat.lt_or_ge b w.heap.size with h' | h'
  · exact h'
  · rw [Array.getElem?_eq_none h'] at h; cases h

theorem RowAt.via {V w W : World} {g off : Nat} {ws : List (List UInt8)} (hg : g < V.heap.size) (h1 : Below V.heap.size V w) (h2 : Below V.heap.size V W) (r : RowAt w g off ws) : RowAt W g off ws := fun j l hj =>
  (h2.cell (p := ⟨g, off + j, none⟩) hg).trans ((h1.cell (p := ⟨g, off + j, none⟩) hg).symm.trans (r j l hj))

theorem rd_parts (a b c d e : List UInt8) {tl T1 T2 T3 : List (List UInt8)} {p1 p2 p3 : Nat} (h1 : part wAt tl = (p1, T1)) (h2 : part wShow T1 = (p2, T2)) (h3 : part wStop T2 = (p3, T3)) :
    rdO (a :: b :: c :: d :: e :: tl) = ⟨num a, num b, sideN c, kindN d, p1, num e, p2, p3⟩ ∧
    rdB (a :: b :: c :: d :: e :: tl) = (!([(num a : Int), num b, sideN c, kindN d, num e].contains 0) && (((p1 : Int) == 0) == ((kindN d : Int) == 2)) && ((T3.length : Int) == 0)) := by
  have t : tail3 tl = (p1, p2, p3, T3) := by unfold tail3; rw [h1]; simp only; rw [h2]; simp only; rw [h3]
  constructor
  · unfold rdO; simp only [t]
  · unfold rdB
    simp only [t]
    rw [Bool.eq_iff_iff]
    simp only [Bool.and_eq_true, decide_eq_true_eq, Bool.not_eq_true', List.contains_eq_mem, List.mem_cons, List.not_mem_nil, or_false, decide_eq_false_iff_not, not_or, beq_iff_eq, List.isEmpty_iff]
    have e1 : (((p1 : Int) == 0) = ((kindN d : Int) == 2)) ↔ (p1 = 0 ↔ kindN d = 2) := by
      rw [Bool.eq_iff_iff, beq_iff_eq, beq_iff_eq]; omega
    have e2 : ((T3.length : Int) = 0) ↔ T3 = [] := by
      rw [← List.length_eq_zero_iff]; omega
    rw [e1, e2]
    constructor
    · rintro ⟨⟨⟨⟨⟨⟨x1, x2⟩, x3⟩, x4⟩, x5⟩, x6⟩, x7⟩
      exact ⟨⟨⟨by omega, by omega, by omega, by omega, by omega⟩, x6⟩, x7⟩
    · rintro ⟨⟨⟨x1, x2, x3, x4, x5⟩, x6⟩, x7⟩
      exact ⟨⟨⟨⟨⟨⟨by omega, by omega⟩, by omega⟩, by omega⟩, by omega⟩, x6⟩, x7⟩

theorem contains5 (r : Bool) (x0 x1 x2 x3 x4 : Int) (W : World) (hr : [x0, x1, x2, x3, x4].contains 0 = r) :
    Calls Tryz.prog 46 #[.slice (some ⟨W.heap.size, 0, none⟩) 5 5, .int .i64 0] (W.alloc (.cells #[.int .i64 x0, .int .i64 x1, .int .i64 x2, .int .i64 x3, .int .i64 x4] 3))
      fun e w' => e = .returned (.bool r) ∧ w' = W.alloc (.cells #[.int .i64 x0, .int .i64 x1, .int .i64 x2, .int .i64 x3, .int .i64 x4] 3) := by
  have h := Tryz.slices_Contains_int W.heap.size 0 5 5 [x0, x1, x2, x3, x4] 0 (W.alloc (.cells #[.int .i64 x0, .int .i64 x1, .int .i64 x2, .int .i64 x3, .int .i64 x4] 3)) (by simp) (by omega) (by
    intro j hj
    rw [World.cell?_alloc_at _ _ _ _ rfl, Nat.zero_add]
    have hj5 : j < 5 := hj
    have : j = 0 ∨ j = 1 ∨ j = 2 ∨ j = 3 ∨ j = 4 := by omega
    rcases this with rfl | rfl | rfl | rfl | rfl <;> rfl)
  rw [← hr]
  exact h

theorem below_setCells {B b : Nat} {V : World} (hB : B ≤ b) : ∀ (vs : List Value) (o : Nat) (W : World), Below B V W → Below B V (W.setCells b o vs)
  | [], _, _, h => h
  | v :: r, o, _, h => below_setCells hB r (o + 1) _ (h.setCell hB v)

set_option linter.unusedSimpArgs false in
set_option maxRecDepth 100000 in
set_option maxHeartbeats 400000 in
theorem read_short (s : ByteArray) (w : World) (hs : s.size ≤ 9223372036854775806) (h : (cutK 11 s.data.toList).length < 5) :
    Calls Tryz.prog 31 #[.string s] w fun e w' => e = .returned (.tuple #[oV zeroO, .bool false]) ∧ Below w.heap.size w w' := by
  have hcon := fun W => splitN_row s W hs
  generalize hws : cutK 11 s.data.toList = ws at *
  have HC : Hid (∀ W : World, Calls Tryz.prog 40 #[.string s, .string ⟨#[32]⟩, .int .i64 12] W fun e w' => ∃ cap, e = .returned (.slice (some ⟨W.heap.size, 0, none⟩) ws.length cap) ∧ ws.length ≤ cap ∧ cap ≤ 12 ∧ RowAt w' W.heap.size 0 ws ∧ Below W.heap.size W w') := hcon
  clear hcon hws
  have h5 : ((ws.length : Nat) : Int) < 5 := by omega
  generalize ws.length = n at *
  go_enter Tryz.func31, Tryz.ntmps31
  go_wp2_with fail
  refine (HC.out _).mono ?_
  rintro e w1 ⟨cap, rfl, h1, h2, h3, hb⟩
  have hz : w.heap.size < w1.heap.size := by have := hb.size; simp at this; omega
  clear h3
  have hW : Below w.heap.size w w1 := ((Below.refl _ _).alloc (Nat.le_refl _) _).trans (hb.mono (by simp))
  have r : w1.heap[w.heap.size]? = some (.cells #[.int .i64 0, .int .i64 0, .int .i64 0, .int .i64 0, .int .i64 0, .int .i64 0, .int .i64 0, .int .i64 0] 23 (0, 0)) := (hb.block w.heap.size (by simp)).trans (heap_alloc_new _ _)
  clear hb
  have HRr : Hid ((w1.alloc (.cells #[.slice (some ⟨w.heap.size + 1, 0, none⟩) n cap] 49)).heap[w.heap.size]? = some (.cells #[.int .i64 0, .int .i64 0, .int .i64 0, .int .i64 0, .int .i64 0, .int .i64 0, .int .i64 0, .int .i64 0] 23 (0, 0))) := (Below.heap_alloc _ _ _ (heap_lt r)).trans r
  have HB : Hid (Below w.heap.size w (w1.alloc (.cells #[.slice (some ⟨w.heap.size + 1, 0, none⟩) n cap] 49))) := hW.alloc hW.size _
  clear r hW
  go_upto_region 3 with fail
  refine wp_region_lit ?_
  refine wpList_plain rfl fun K hK => ?_
  go_simp
  refine hK _ _ ?_
  clear hK K
  try simp only [Act.put, List.setIfInBounds_toArray, List.set_cons_zero, List.set_cons_succ]
  refine wpList_store_mid rfl 23 (.tmp 2) (.tmp 14) rfl w.heap.size 0 #[.int .i64 0, .int .i64 0, .int .i64 0, .int .i64 0, .int .i64 0, .int .i64 0, .int .i64 0, .int .i64 0] rfl rfl (there8 HRr.out) (by kernel_rfl) (by simp [Value.oneCell']) ?_
  have hXs := stored8 (.int .i64 0) (.int .i64 0) (.int .i64 0) (.int .i64 0) (.int .i64 0) (.int .i64 0) (.int .i64 0) (.int .i64 0) HRr.out
  have hXb := below_setCells (Nat.le_refl _) [.int .i64 0, .int .i64 0, .int .i64 0, .int .i64 0, .int .i64 0, .int .i64 0, .int .i64 0, .int .i64 0] 0 _ HB.out
  show wpList _ _ _ _ _ ((w1.alloc (.cells #[.slice (some ⟨w.heap.size + 1, 0, none⟩) n cap] 49)).setCells w.heap.size 0 [.int .i64 0, .int .i64 0, .int .i64 0, .int .i64 0, .int .i64 0, .int .i64 0, .int .i64 0, .int .i64 0])
  generalize (w1.alloc (.cells #[.slice (some ⟨w.heap.size + 1, 0, none⟩) n cap] 49)).setCells w.heap.size 0 [.int .i64 0, .int .i64 0, .int .i64 0, .int .i64 0, .int .i64 0, .int .i64 0, .int .i64 0, .int .i64 0] = X at *
  have x0 : X.cell? ⟨w.heap.size, 0, none⟩ = some (.int .i64 0) := Joins.cell_of_block hXs 0
  have x1 : X.cell? ⟨w.heap.size, 1, none⟩ = some (.int .i64 0) := Joins.cell_of_block hXs 1
  have x2 : X.cell? ⟨w.heap.size, 2, none⟩ = some (.int .i64 0) := Joins.cell_of_block hXs 2
  have x3 : X.cell? ⟨w.heap.size, 3, none⟩ = some (.int .i64 0) := Joins.cell_of_block hXs 3
  have x4 : X.cell? ⟨w.heap.size, 4, none⟩ = some (.int .i64 0) := Joins.cell_of_block hXs 4
  have x5 : X.cell? ⟨w.heap.size, 5, none⟩ = some (.int .i64 0) := Joins.cell_of_block hXs 5
  have x6 : X.cell? ⟨w.heap.size, 6, none⟩ = some (.int .i64 0) := Joins.cell_of_block hXs 6
  have x7 : X.cell? ⟨w.heap.size, 7, none⟩ = some (.int .i64 0) := Joins.cell_of_block hXs 7
  clear hXs HRr HB
  go_wp2_with fail
  exact bodyPost_ret (v := .tuple #[oV zeroO, .bool false]) (by simp [results, Tryz.results31, go_sem, oV, zeroO, x0, x1, x2, x3, x4, x5, x6, x7]) rfl ⟨rfl, hXb⟩

/-- number behind whatever was laid since a world V. -/
theorem numberV (V : World) (hL : Laid V) (hE : ErrL V) (l : List UInt8) (W : World) (hs : l.length ≤ maxLen) (hW : Below V.heap.size V W) :
    Calls Tryz.prog 41 #[.string ⟨l.toArray⟩] W fun e w' => e = .returned (.int .i64 (num l)) ∧ Below V.heap.size V w' ∧ Below W.heap.size W w' := by
  refine (number_any ⟨l.toArray⟩ W (hL.below hW) (hE.below hW) (by rw [size_list]; exact hs)).mono ?_
  rintro e w' ⟨rfl, hb⟩
  exact ⟨rfl, hW.trans (hb.mono hW.size), hb⟩

theorem sideV (V : World) (hL : Laid V) (B g len cap : Nat) (x : List UInt8) (hw : V.cell? ⟨B, 0, none⟩ = some (.slice (some ⟨g, 0, none⟩) len cap)) (h2 : V.cell? ⟨g, 2, none⟩ = some (.string ⟨x.toArray⟩)) (hlen : 5 ≤ len) (W : World) (hW : Below V.heap.size V W) :
    Calls Tryz.prog 42 #[.int .i64 2, .func (.func 43) #[] #[.pointer (some ⟨B, 0, none⟩)]] W fun e w' => e = .returned (.int .i64 (sideN x)) ∧ Below V.heap.size V w' ∧ Below W.heap.size W w' := by
  refine (first_side B g len cap x W (hL.below hW) (keeps hW hw) (keeps hW h2) hlen).mono ?_
  rintro e w' ⟨rfl, hb⟩
  exact ⟨rfl, hW.trans (hb.mono hW.size), hb⟩
theorem kindV (V : World) (hL : Laid V) (B g len cap : Nat) (x : List UInt8) (hw : V.cell? ⟨B, 0, none⟩ = some (.slice (some ⟨g, 0, none⟩) len cap)) (h2 : V.cell? ⟨g, 3, none⟩ = some (.string ⟨x.toArray⟩)) (hlen : 5 ≤ len) (W : World) (hW : Below V.heap.size V W) :
    Calls Tryz.prog 42 #[.int .i64 5, .func (.func 44) #[] #[.pointer (some ⟨B, 0, none⟩)]] W fun e w' => e = .returned (.int .i64 (kindN x)) ∧ Below V.heap.size V w' ∧ Below W.heap.size W w' := by
  refine (first_kind B g len cap x W (hL.below hW) (keeps hW hw) (keeps hW h2) hlen).mono ?_
  rintro e w' ⟨rfl, hb⟩
  exact ⟨rfl, hW.trans (hb.mono hW.size), hb⟩


end Go.Proofs.YtpcomgnglidhhaaGreatDoor.ord
