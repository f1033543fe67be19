/- Contracts over this seat's translation: package order's Parse and Meets, each at every input. -/
import Derived.Test.YtpcomgnglidhhaaGreatDoorOrdRead4
namespace Go.Proofs.YtpcomgnglidhhaaGreatDoor.ord
open Go.RowKit

set_option linter.unusedSimpArgs false in
set_option maxRecDepth 100000 in
set_option maxHeartbeats 1000000 in
theorem parse_syn (tx : ByteArray) (a b c d p q s t : Int) (w : World) (hL : Laid w) (hE : ErrL w) (hr : ∀ W, Laid W → ErrL W → Calls Tryz.prog 31 #[.string tx] W fun e w' => e = .returned (.tuple #[.agg #[.int .i64 a, .int .i64 b, .int .i64 c, .int .i64 d, .int .i64 p, .int .i64 q, .int .i64 s, .int .i64 t], .bool false]) ∧ Below W.heap.size W w') :
    Calls Tryz.prog 10 #[.string tx] w fun e w' => e = .returned (.tuple #[.agg #[.int .i64 0, .int .i64 0, .int .i64 0, .int .i64 0, .int .i64 0, .int .i64 0, .int .i64 0, .int .i64 0], .iface 41 (.int .i64 2)]) ∧ Below w.heap.size w w' := by
  have HRD : Hid (∀ W, Laid W → ErrL W → Calls Tryz.prog 31 #[.string tx] W fun e w' => e = .returned (.tuple #[.agg #[.int .i64 a, .int .i64 b, .int .i64 c, .int .i64 d, .int .i64 p, .int .i64 q, .int .i64 s, .int .i64 t], .bool false]) ∧ Below W.heap.size W w') := hr
  clear hr
  go_enter Tryz.func10, Tryz.ntmps10
  go_wp2_with fail
  refine (HRD.out _ (hL.alloc _) (hE.below ((Below.refl _ _).alloc (Nat.le_refl _) _))).mono ?_
  rintro e w1 ⟨rfl, hb⟩
  have hW : Below w.heap.size w w1 := ((Below.refl _ _).alloc (Nat.le_refl _) _).trans (hb.mono (by simp))
  have r : w1.heap[w.heap.size]? = some (.cells #[.int .i64 0, .int .i64 0, .int .i64 0, .int .i64 0, .int .i64 0, .int .i64 0, .int .i64 0, .int .i64 0] 23 (0, 0)) := (hb.block w.heap.size (by simp)).trans (heap_alloc_new _ _)
  have HRr : Hid ((w1.alloc (.cells #[.int .i64 a, .int .i64 b, .int .i64 c, .int .i64 d, .int .i64 p, .int .i64 q, .int .i64 s, .int .i64 t] 23)).heap[w.heap.size]? = some (.cells #[.int .i64 0, .int .i64 0, .int .i64 0, .int .i64 0, .int .i64 0, .int .i64 0, .int .i64 0, .int .i64 0] 23 (0, 0))) := (Below.heap_alloc _ _ _ (heap_lt r)).trans r
  have HB : Hid (Below w.heap.size w (w1.alloc (.cells #[.int .i64 a, .int .i64 b, .int .i64 c, .int .i64 d, .int .i64 p, .int .i64 q, .int .i64 s, .int .i64 t] 23))) := hW.alloc hW.size _
  clear r hW hb
  go_upto_region 3 with fail
  refine wp_region_lit ?_
  iterate 2 (refine wpList_step fun K hK => ?_; go_simp; refine hK _ _ ?_; clear hK K; try simp only [Act.put, List.setIfInBounds_toArray, List.set_cons_zero, List.set_cons_succ])
  refine wpList_store_mid rfl 23 (.tmp 2) (.tmp 14) rfl w.heap.size 0 #[.int .i64 0, .int .i64 0, .int .i64 0, .int .i64 0, .int .i64 0, .int .i64 0, .int .i64 0, .int .i64 0] rfl rfl (there8 HRr.out) (by kernel_rfl) (by simp [Value.oneCell']) ?_
  have hXs := stored8 (.int .i64 0) (.int .i64 0) (.int .i64 0) (.int .i64 0) (.int .i64 0) (.int .i64 0) (.int .i64 0) (.int .i64 0) HRr.out
  have hXb := below_setCells (Nat.le_refl _) [.int .i64 0, .int .i64 0, .int .i64 0, .int .i64 0, .int .i64 0, .int .i64 0, .int .i64 0, .int .i64 0] 0 _ HB.out
  show wpList _ _ _ _ _ ((w1.alloc (.cells #[.int .i64 a, .int .i64 b, .int .i64 c, .int .i64 d, .int .i64 p, .int .i64 q, .int .i64 s, .int .i64 t] 23)).setCells w.heap.size 0 [.int .i64 0, .int .i64 0, .int .i64 0, .int .i64 0, .int .i64 0, .int .i64 0, .int .i64 0, .int .i64 0])
  generalize (w1.alloc (.cells #[.int .i64 a, .int .i64 b, .int .i64 c, .int .i64 d, .int .i64 p, .int .i64 q, .int .i64 s, .int .i64 t] 23)).setCells w.heap.size 0 [.int .i64 0, .int .i64 0, .int .i64 0, .int .i64 0, .int .i64 0, .int .i64 0, .int .i64 0, .int .i64 0] = X at *
  have x0 : X.cell? ⟨w.heap.size, 0, none⟩ = some (.int .i64 0) := Joins.cell_of_block hXs 0
  have x1 : X.cell? ⟨w.heap.size, 1, none⟩ = some (.int .i64 0) := Joins.cell_of_block hXs 1
  have x2 : X.cell? ⟨w.heap.size, 2, none⟩ = some (.int .i64 0) := Joins.cell_of_block hXs 2
  have x3 : X.cell? ⟨w.heap.size, 3, none⟩ = some (.int .i64 0) := Joins.cell_of_block hXs 3
  have x4 : X.cell? ⟨w.heap.size, 4, none⟩ = some (.int .i64 0) := Joins.cell_of_block hXs 4
  have x5 : X.cell? ⟨w.heap.size, 5, none⟩ = some (.int .i64 0) := Joins.cell_of_block hXs 5
  have x6 : X.cell? ⟨w.heap.size, 6, none⟩ = some (.int .i64 0) := Joins.cell_of_block hXs 6
  have x7 : X.cell? ⟨w.heap.size, 7, none⟩ = some (.int .i64 0) := Joins.cell_of_block hXs 7
  clear hXs HRr HB HRD
  go_wp2_with fail
  exact bodyPost_ret (v := .tuple #[.agg #[.int .i64 0, .int .i64 0, .int .i64 0, .int .i64 0, .int .i64 0, .int .i64 0, .int .i64 0, .int .i64 0], .iface 41 (.int .i64 2)]) (by simp [results, Tryz.results10, go_sem, x0, x1, x2, x3, x4, x5, x6, x7]) rfl ⟨rfl, hXb⟩

set_option linter.unusedSimpArgs false in
set_option maxRecDepth 100000 in
set_option maxHeartbeats 1000000 in
theorem parse_bad (tx : ByteArray) (a b c d p q s t : Int) (w : World) (hL : Laid w) (hE : ErrL w) (k : Int) (hr : ∀ W, Laid W → ErrL W → Calls Tryz.prog 31 #[.string tx] W fun e w' => e = .returned (.tuple #[.agg #[.int .i64 a, .int .i64 b, .int .i64 c, .int .i64 d, .int .i64 p, .int .i64 q, .int .i64 s, .int .i64 t], .bool true]) ∧ Below W.heap.size W w') (hck : ∀ W, Calls Tryz.prog 6 #[.agg #[.int .i64 a, .int .i64 b, .int .i64 c, .int .i64 d, .int .i64 p, .int .i64 q, .int .i64 s, .int .i64 t]] W fun e w' => e = .returned (.iface 41 (.int .i64 k)) ∧ Below W.heap.size W w') :
    Calls Tryz.prog 10 #[.string tx] w fun e w' => e = .returned (.tuple #[.agg #[.int .i64 0, .int .i64 0, .int .i64 0, .int .i64 0, .int .i64 0, .int .i64 0, .int .i64 0, .int .i64 0], .iface 41 (.int .i64 k)]) ∧ Below w.heap.size w w' := by
  have HRD : Hid (∀ W, Laid W → ErrL W → Calls Tryz.prog 31 #[.string tx] W fun e w' => e = .returned (.tuple #[.agg #[.int .i64 a, .int .i64 b, .int .i64 c, .int .i64 d, .int .i64 p, .int .i64 q, .int .i64 s, .int .i64 t], .bool true]) ∧ Below W.heap.size W w') := hr
  clear hr
  go_enter Tryz.func10, Tryz.ntmps10
  go_wp2_with fail
  refine (HRD.out _ (hL.alloc _) (hE.below ((Below.refl _ _).alloc (Nat.le_refl _) _))).mono ?_
  rintro e w1 ⟨rfl, hb⟩
  have hW : Below w.heap.size w w1 := ((Below.refl _ _).alloc (Nat.le_refl _) _).trans (hb.mono (by simp))
  have r : w1.heap[w.heap.size]? = some (.cells #[.int .i64 0, .int .i64 0, .int .i64 0, .int .i64 0, .int .i64 0, .int .i64 0, .int .i64 0, .int .i64 0] 23 (0, 0)) := (hb.block w.heap.size (by simp)).trans (heap_alloc_new _ _)
  have HRr : Hid ((w1.alloc (.cells #[.int .i64 a, .int .i64 b, .int .i64 c, .int .i64 d, .int .i64 p, .int .i64 q, .int .i64 s, .int .i64 t] 23)).heap[w.heap.size]? = some (.cells #[.int .i64 0, .int .i64 0, .int .i64 0, .int .i64 0, .int .i64 0, .int .i64 0, .int .i64 0, .int .i64 0] 23 (0, 0))) := (Below.heap_alloc _ _ _ (heap_lt r)).trans r
  have HB : Hid (Below w.heap.size w (w1.alloc (.cells #[.int .i64 a, .int .i64 b, .int .i64 c, .int .i64 d, .int .i64 p, .int .i64 q, .int .i64 s, .int .i64 t] 23))) := hW.alloc hW.size _
  clear r hW hb
  go_wp2_with fail
  refine (hck _).mono ?_
  rintro e w2 ⟨rfl, hb2⟩
  have HR2 : Hid (w2.heap[w.heap.size]? = some (.cells #[.int .i64 0, .int .i64 0, .int .i64 0, .int .i64 0, .int .i64 0, .int .i64 0, .int .i64 0, .int .i64 0] 23 (0, 0))) := (hb2.block _ (heap_lt HRr.out)).trans HRr.out
  have HB2 : Hid (Below w.heap.size w w2) := HB.out.trans (hb2.mono HB.out.size)
  have o2 : w2.heap[w1.heap.size]? = some (.cells #[.int .i64 a, .int .i64 b, .int .i64 c, .int .i64 d, .int .i64 p, .int .i64 q, .int .i64 s, .int .i64 t] 23 (0, 0)) := (hb2.block _ (by simp)).trans (heap_alloc_new _ _)
  have d0 : w2.cell? ⟨w1.heap.size, 0, none⟩ = some (.int .i64 a) := Joins.cell_of_block o2 0
  have d1 : w2.cell? ⟨w1.heap.size, 1, none⟩ = some (.int .i64 b) := Joins.cell_of_block o2 1
  have d2 : w2.cell? ⟨w1.heap.size, 2, none⟩ = some (.int .i64 c) := Joins.cell_of_block o2 2
  have d3 : w2.cell? ⟨w1.heap.size, 3, none⟩ = some (.int .i64 d) := Joins.cell_of_block o2 3
  have d4 : w2.cell? ⟨w1.heap.size, 4, none⟩ = some (.int .i64 p) := Joins.cell_of_block o2 4
  have d5 : w2.cell? ⟨w1.heap.size, 5, none⟩ = some (.int .i64 q) := Joins.cell_of_block o2 5
  have d6 : w2.cell? ⟨w1.heap.size, 6, none⟩ = some (.int .i64 s) := Joins.cell_of_block o2 6
  have d7 : w2.cell? ⟨w1.heap.size, 7, none⟩ = some (.int .i64 t) := Joins.cell_of_block o2 7
  clear o2 hb2 hck HRr HB
  go_upto_region 6 with fail
  refine wp_region_lit ?_
  iterate 2 (refine wpList_step fun K hK => ?_; go_simp; refine hK _ _ ?_; clear hK K; try simp only [Act.put, List.setIfInBounds_toArray, List.set_cons_zero, List.set_cons_succ])
  refine wpList_store_mid rfl 23 (.tmp 2) (.tmp 20) rfl w.heap.size 0 #[.int .i64 0, .int .i64 0, .int .i64 0, .int .i64 0, .int .i64 0, .int .i64 0, .int .i64 0, .int .i64 0] rfl rfl (there8 HR2.out) (by kernel_rfl) (by simp [Value.oneCell']) ?_
  have hXs := stored8 (.int .i64 0) (.int .i64 0) (.int .i64 0) (.int .i64 0) (.int .i64 0) (.int .i64 0) (.int .i64 0) (.int .i64 0) HR2.out
  have hXb := below_setCells (Nat.le_refl _) [.int .i64 0, .int .i64 0, .int .i64 0, .int .i64 0, .int .i64 0, .int .i64 0, .int .i64 0, .int .i64 0] 0 _ HB2.out
  show wpList _ _ _ _ _ (w2.setCells w.heap.size 0 [.int .i64 0, .int .i64 0, .int .i64 0, .int .i64 0, .int .i64 0, .int .i64 0, .int .i64 0, .int .i64 0])
  generalize w2.setCells w.heap.size 0 [.int .i64 0, .int .i64 0, .int .i64 0, .int .i64 0, .int .i64 0, .int .i64 0, .int .i64 0, .int .i64 0] = X at *
  have x0 : X.cell? ⟨w.heap.size, 0, none⟩ = some (.int .i64 0) := Joins.cell_of_block hXs 0
  have x1 : X.cell? ⟨w.heap.size, 1, none⟩ = some (.int .i64 0) := Joins.cell_of_block hXs 1
  have x2 : X.cell? ⟨w.heap.size, 2, none⟩ = some (.int .i64 0) := Joins.cell_of_block hXs 2
  have x3 : X.cell? ⟨w.heap.size, 3, none⟩ = some (.int .i64 0) := Joins.cell_of_block hXs 3
  have x4 : X.cell? ⟨w.heap.size, 4, none⟩ = some (.int .i64 0) := Joins.cell_of_block hXs 4
  have x5 : X.cell? ⟨w.heap.size, 5, none⟩ = some (.int .i64 0) := Joins.cell_of_block hXs 5
  have x6 : X.cell? ⟨w.heap.size, 6, none⟩ = some (.int .i64 0) := Joins.cell_of_block hXs 6
  have x7 : X.cell? ⟨w.heap.size, 7, none⟩ = some (.int .i64 0) := Joins.cell_of_block hXs 7
  clear hXs HR2 HB2 HRD d0 d1 d2 d3 d4 d5 d6 d7
  go_wp2_with fail
  exact bodyPost_ret (v := .tuple #[.agg #[.int .i64 0, .int .i64 0, .int .i64 0, .int .i64 0, .int .i64 0, .int .i64 0, .int .i64 0, .int .i64 0], .iface 41 (.int .i64 k)]) (by simp [results, Tryz.results10, go_sem, x0, x1, x2, x3, x4, x5, x6, x7]) rfl ⟨rfl, hXb⟩

set_option linter.unusedSimpArgs false in
set_option maxRecDepth 100000 in
set_option maxHeartbeats 1000000 in
theorem parse_fine (tx : ByteArray) (a b c d p q s t : Int) (w : World) (hL : Laid w) (hE : ErrL w) (hr : ∀ W, Laid W → ErrL W → Calls Tryz.prog 31 #[.string tx] W fun e w' => e = .returned (.tuple #[.agg #[.int .i64 a, .int .i64 b, .int .i64 c, .int .i64 d, .int .i64 p, .int .i64 q, .int .i64 s, .int .i64 t], .bool true]) ∧ Below W.heap.size W w') (hck : ∀ W, Calls Tryz.prog 6 #[.agg #[.int .i64 a, .int .i64 b, .int .i64 c, .int .i64 d, .int .i64 p, .int .i64 q, .int .i64 s, .int .i64 t]] W fun e w' => e = .returned .nilIface ∧ Below W.heap.size W w') :
    Calls Tryz.prog 10 #[.string tx] w fun e w' => e = .returned (.tuple #[.agg #[.int .i64 a, .int .i64 b, .int .i64 c, .int .i64 d, .int .i64 p, .int .i64 q, .int .i64 s, .int .i64 t], .nilIface]) ∧ Below w.heap.size w w' := by
  have HRD : Hid (∀ W, Laid W → ErrL W → Calls Tryz.prog 31 #[.string tx] W fun e w' => e = .returned (.tuple #[.agg #[.int .i64 a, .int .i64 b, .int .i64 c, .int .i64 d, .int .i64 p, .int .i64 q, .int .i64 s, .int .i64 t], .bool true]) ∧ Below W.heap.size W w') := hr
  clear hr
  go_enter Tryz.func10, Tryz.ntmps10
  go_wp2_with fail
  refine (HRD.out _ (hL.alloc _) (hE.below ((Below.refl _ _).alloc (Nat.le_refl _) _))).mono ?_
  rintro e w1 ⟨rfl, hb⟩
  have hW : Below w.heap.size w w1 := ((Below.refl _ _).alloc (Nat.le_refl _) _).trans (hb.mono (by simp))
  have r : w1.heap[w.heap.size]? = some (.cells #[.int .i64 0, .int .i64 0, .int .i64 0, .int .i64 0, .int .i64 0, .int .i64 0, .int .i64 0, .int .i64 0] 23 (0, 0)) := (hb.block w.heap.size (by simp)).trans (heap_alloc_new _ _)
  have HRr : Hid ((w1.alloc (.cells #[.int .i64 a, .int .i64 b, .int .i64 c, .int .i64 d, .int .i64 p, .int .i64 q, .int .i64 s, .int .i64 t] 23)).heap[w.heap.size]? = some (.cells #[.int .i64 0, .int .i64 0, .int .i64 0, .int .i64 0, .int .i64 0, .int .i64 0, .int .i64 0, .int .i64 0] 23 (0, 0))) := (Below.heap_alloc _ _ _ (heap_lt r)).trans r
  have HB : Hid (Below w.heap.size w (w1.alloc (.cells #[.int .i64 a, .int .i64 b, .int .i64 c, .int .i64 d, .int .i64 p, .int .i64 q, .int .i64 s, .int .i64 t] 23))) := hW.alloc hW.size _
  clear r hW hb
  go_wp2_with fail
  refine (hck _).mono ?_
  rintro e w2 ⟨rfl, hb2⟩
  have HR2 : Hid (w2.heap[w.heap.size]? = some (.cells #[.int .i64 0, .int .i64 0, .int .i64 0, .int .i64 0, .int .i64 0, .int .i64 0, .int .i64 0, .int .i64 0] 23 (0, 0))) := (hb2.block _ (heap_lt HRr.out)).trans HRr.out
  have HB2 : Hid (Below w.heap.size w w2) := HB.out.trans (hb2.mono HB.out.size)
  have o2 : w2.heap[w1.heap.size]? = some (.cells #[.int .i64 a, .int .i64 b, .int .i64 c, .int .i64 d, .int .i64 p, .int .i64 q, .int .i64 s, .int .i64 t] 23 (0, 0)) := (hb2.block _ (by simp)).trans (heap_alloc_new _ _)
  have d0 : w2.cell? ⟨w1.heap.size, 0, none⟩ = some (.int .i64 a) := Joins.cell_of_block o2 0
  have d1 : w2.cell? ⟨w1.heap.size, 1, none⟩ = some (.int .i64 b) := Joins.cell_of_block o2 1
  have d2 : w2.cell? ⟨w1.heap.size, 2, none⟩ = some (.int .i64 c) := Joins.cell_of_block o2 2
  have d3 : w2.cell? ⟨w1.heap.size, 3, none⟩ = some (.int .i64 d) := Joins.cell_of_block o2 3
  have d4 : w2.cell? ⟨w1.heap.size, 4, none⟩ = some (.int .i64 p) := Joins.cell_of_block o2 4
  have d5 : w2.cell? ⟨w1.heap.size, 5, none⟩ = some (.int .i64 q) := Joins.cell_of_block o2 5
  have d6 : w2.cell? ⟨w1.heap.size, 6, none⟩ = some (.int .i64 s) := Joins.cell_of_block o2 6
  have d7 : w2.cell? ⟨w1.heap.size, 7, none⟩ = some (.int .i64 t) := Joins.cell_of_block o2 7
  clear o2 hb2 hck HRr HB
  go_upto_region 7 with fail
  refine wp_region_lit ?_
  iterate 1 (refine wpList_step fun K hK => ?_; go_simp; refine hK _ _ ?_; clear hK K; try simp only [Act.put, List.setIfInBounds_toArray, List.set_cons_zero, List.set_cons_succ])
  refine wpList_store_mid rfl 23 (.tmp 2) (.tmp 22) rfl w.heap.size 0 #[.int .i64 a, .int .i64 b, .int .i64 c, .int .i64 d, .int .i64 p, .int .i64 q, .int .i64 s, .int .i64 t] rfl rfl (there8 HR2.out) (by kernel_rfl) (by simp [Value.oneCell']) ?_
  have hXs := stored8 (.int .i64 a) (.int .i64 b) (.int .i64 c) (.int .i64 d) (.int .i64 p) (.int .i64 q) (.int .i64 s) (.int .i64 t) HR2.out
  have hXb := below_setCells (Nat.le_refl _) [.int .i64 a, .int .i64 b, .int .i64 c, .int .i64 d, .int .i64 p, .int .i64 q, .int .i64 s, .int .i64 t] 0 _ HB2.out
  show wpList _ _ _ _ _ (w2.setCells w.heap.size 0 [.int .i64 a, .int .i64 b, .int .i64 c, .int .i64 d, .int .i64 p, .int .i64 q, .int .i64 s, .int .i64 t])
  generalize w2.setCells w.heap.size 0 [.int .i64 a, .int .i64 b, .int .i64 c, .int .i64 d, .int .i64 p, .int .i64 q, .int .i64 s, .int .i64 t] = X at *
  have x0 : X.cell? ⟨w.heap.size, 0, none⟩ = some (.int .i64 a) := Joins.cell_of_block hXs 0
  have x1 : X.cell? ⟨w.heap.size, 1, none⟩ = some (.int .i64 b) := Joins.cell_of_block hXs 1
  have x2 : X.cell? ⟨w.heap.size, 2, none⟩ = some (.int .i64 c) := Joins.cell_of_block hXs 2
  have x3 : X.cell? ⟨w.heap.size, 3, none⟩ = some (.int .i64 d) := Joins.cell_of_block hXs 3
  have x4 : X.cell? ⟨w.heap.size, 4, none⟩ = some (.int .i64 p) := Joins.cell_of_block hXs 4
  have x5 : X.cell? ⟨w.heap.size, 5, none⟩ = some (.int .i64 q) := Joins.cell_of_block hXs 5
  have x6 : X.cell? ⟨w.heap.size, 6, none⟩ = some (.int .i64 s) := Joins.cell_of_block hXs 6
  have x7 : X.cell? ⟨w.heap.size, 7, none⟩ = some (.int .i64 t) := Joins.cell_of_block hXs 7
  clear hXs HR2 HB2 HRD d0 d1 d2 d3 d4 d5 d6 d7
  go_wp2_with fail
  exact bodyPost_ret (v := .tuple #[.agg #[.int .i64 a, .int .i64 b, .int .i64 c, .int .i64 d, .int .i64 p, .int .i64 q, .int .i64 s, .int .i64 t], .nilIface]) (by simp [results, Tryz.results10, go_sem, x0, x1, x2, x3, x4, x5, x6, x7]) rfl ⟨rfl, hXb⟩

theorem part_len (nm : List UInt8) (ws : List (List UInt8)) : ws.length ≤ (part nm ws).2.length + 2 := by
  unfold part
  split
  · split <;> simp
  · simp

theorem rd_long (ws : List (List UInt8)) (h : 12 ≤ ws.length) : rdB ws = false := by
  match ws, h with
  | a :: b :: c :: d :: e :: tl, h =>
    have h1 := part_len wAt tl
    have h2 := part_len wShow (part wAt tl).2
    have h3 := part_len wStop (part wShow (part wAt tl).2).2
    have h4 : (tail3 tl).2.2.2 ≠ [] := by
      show (part wStop (part wShow (part wAt tl).2).2).2 ≠ []
      intro e
      rw [e] at h3
      simp at h h3
      omega
    have h5 : (tail3 tl).2.2.2.isEmpty = false := by
      cases e : (tail3 tl).2.2.2 with
      | nil => exact absurd e h4
      | cons _ _ => rfl
    unfold rdB
    simp only [h5, Bool.and_false]

theorem rd_cutK (l : List UInt8) : rdB (cutK 11 l) = rdB (cut l) ∧ (rdB (cut l) = true → rdO (cutK 11 l) = rdO (cut l)) := by
  by_cases h : (cut l).length ≤ 12
  · rw [cutK_all 11 l h]; exact ⟨rfl, fun _ => rfl⟩
  · have h1 : rdB (cut l) = false := rd_long _ (by omega)
    have h2 : rdB (cutK 11 l) = false := rd_long _ (by rw [cutK_length]; omega)
    rw [h1, h2]
    exact ⟨rfl, fun h => by cases h⟩

/-- Parse, at every text. -/
theorem parse_any (tx : ByteArray) (w : World) (hL : Laid w) (hE : ErrL w) (hs : tx.size ≤ 9223372036854775806) :
    Calls Tryz.prog 10 #[.string tx] w fun e w' => e = .returned (.tuple #[oV (rdR tx.data.toList), errV (rdE tx.data.toList)]) ∧ Below w.heap.size w w' := by
  obtain ⟨e1, e2⟩ := rd_cutK tx.data.toList
  have hr := fun W hLW hEW => read_any tx W hLW hEW hs
  unfold rdR rdE
  cases hB : rdB (cut tx.data.toList)
  · rw [e1, hB] at hr
    have e0 : (if (false : Bool) = true then chk (rdO (cut tx.data.toList)) else (2 : Int)) = 2 := if_neg (by simp)
    rw [e0, if_neg (by decide)]
    generalize rdO (cutK 11 tx.data.toList) = o at hr
    obtain ⟨a, b, c, d, p, q, s, t⟩ := o
    exact parse_syn tx a b c d p q s t w hL hE hr
  · rw [e1, hB, e2 hB] at hr
    rw [if_pos rfl]
    generalize rdO (cut tx.data.toList) = o at hr ⊢
    have hck := fun W => check_any o W
    obtain ⟨a, b, c, d, p, q, s, t⟩ := o
    by_cases h0 : chk ⟨a, b, c, d, p, q, s, t⟩ = 0
    · rw [if_pos h0]
      rw [h0] at hck ⊢
      exact parse_fine tx a b c d p q s t w hL hE hr hck
    · rw [if_neg h0]
      rw [errV_of h0] at hck ⊢
      exact parse_bad tx a b c d p q s t w hL hE _ hr hck

/-- May an order trade at a price? -/
def mE (o : O) (x : Int) : Int := if chk o = 0 then (if prB x then 0 else 1) else chk o
def mB (o : O) (x : Int) : Bool := decide (o.kind = 2) || (if o.side = 1 then decide (x ≤ o.price) else decide (o.price ≤ x))

set_option linter.unusedSimpArgs false in
set_option maxRecDepth 100000 in
set_option maxHeartbeats 1000000 in
theorem meets_bad (a b c d p q s t x : Int) (w : World) (k : Int) (hck : ∀ W, Calls Tryz.prog 6 #[.agg #[.int .i64 a, .int .i64 b, .int .i64 c, .int .i64 d, .int .i64 p, .int .i64 q, .int .i64 s, .int .i64 t]] W fun e w' => e = .returned (.iface 41 (.int .i64 k)) ∧ Below W.heap.size W w') :
    Calls Tryz.prog 13 #[.agg #[.int .i64 a, .int .i64 b, .int .i64 c, .int .i64 d, .int .i64 p, .int .i64 q, .int .i64 s, .int .i64 t], .int .i64 x] w fun e w' => e = .returned (.tuple #[.bool false, .iface 41 (.int .i64 k)]) ∧ Below w.heap.size w w' := by
  have HCK : Hid (∀ W, Calls Tryz.prog 6 #[.agg #[.int .i64 a, .int .i64 b, .int .i64 c, .int .i64 d, .int .i64 p, .int .i64 q, .int .i64 s, .int .i64 t]] W fun e w' => e = .returned (.iface 41 (.int .i64 k)) ∧ Below W.heap.size W w') := hck
  clear hck
  go_enter Tryz.func13, Tryz.ntmps13
  go_wp2_with fail
  refine (HCK.out _).mono ?_
  rintro e w1 ⟨rfl, hb⟩
  have hW : Below w.heap.size w w1 := ((Below.refl _ _).alloc (Nat.le_refl _) _).trans (hb.mono (by simp))
  go_wp2_with fail
  go_ret2
  exact ⟨rfl, hW⟩

set_option linter.unusedSimpArgs false in
set_option maxRecDepth 100000 in
set_option maxHeartbeats 1000000 in
theorem meets_noprice (a b c d p q s t x : Int) (w : World) (hck : ∀ W, Calls Tryz.prog 6 #[.agg #[.int .i64 a, .int .i64 b, .int .i64 c, .int .i64 d, .int .i64 p, .int .i64 q, .int .i64 s, .int .i64 t]] W fun e w' => e = .returned .nilIface ∧ Below W.heap.size W w') (hx : prB x = false) :
    Calls Tryz.prog 13 #[.agg #[.int .i64 a, .int .i64 b, .int .i64 c, .int .i64 d, .int .i64 p, .int .i64 q, .int .i64 s, .int .i64 t], .int .i64 x] w fun e w' => e = .returned (.tuple #[.bool false, .iface 41 (.int .i64 1)]) ∧ Below w.heap.size w w' := by
  have HP : Hid (prB x = false) := hx
  clear hx
  have HCK : Hid (∀ W, Calls Tryz.prog 6 #[.agg #[.int .i64 a, .int .i64 b, .int .i64 c, .int .i64 d, .int .i64 p, .int .i64 q, .int .i64 s, .int .i64 t]] W fun e w' => e = .returned .nilIface ∧ Below W.heap.size W w') := hck
  clear hck
  go_enter Tryz.func13, Tryz.ntmps13
  go_wp2_with fail
  refine (HCK.out _).mono ?_
  rintro e w1 ⟨rfl, hb⟩
  have hW : Below w.heap.size w w1 := ((Below.refl _ _).alloc (Nat.le_refl _) _).trans (hb.mono (by simp))
  go_wp2_with fail
  refine (price_no _ _ HP.out).mono ?_
  rintro e w2 ⟨rfl, hb2⟩
  have hW2 := hW.trans (hb2.mono hW.size)
  clear hb2
  go_wp2_with fail
  go_ret2
  exact ⟨rfl, hW2⟩

set_option linter.unusedSimpArgs false in
set_option maxRecDepth 100000 in
set_option maxHeartbeats 1000000 in
theorem meets_market (a b c d p q s t x : Int) (w : World) (hck : ∀ W, Calls Tryz.prog 6 #[.agg #[.int .i64 a, .int .i64 b, .int .i64 c, .int .i64 d, .int .i64 p, .int .i64 q, .int .i64 s, .int .i64 t]] W fun e w' => e = .returned .nilIface ∧ Below W.heap.size W w') (hx : prB x = true) (hd : (d == 2) = true) :
    Calls Tryz.prog 13 #[.agg #[.int .i64 a, .int .i64 b, .int .i64 c, .int .i64 d, .int .i64 p, .int .i64 q, .int .i64 s, .int .i64 t], .int .i64 x] w fun e w' => e = .returned (.tuple #[.bool true, .nilIface]) ∧ Below w.heap.size w w' := by
  have HP : Hid (prB x = true) := hx
  clear hx
  have HCK : Hid (∀ W, Calls Tryz.prog 6 #[.agg #[.int .i64 a, .int .i64 b, .int .i64 c, .int .i64 d, .int .i64 p, .int .i64 q, .int .i64 s, .int .i64 t]] W fun e w' => e = .returned .nilIface ∧ Below W.heap.size W w') := hck
  clear hck
  go_enter Tryz.func13, Tryz.ntmps13
  go_wp2_with fail
  refine (HCK.out _).mono ?_
  rintro e w1 ⟨rfl, hb⟩
  have hW : Below w.heap.size w w1 := ((Below.refl _ _).alloc (Nat.le_refl _) _).trans (hb.mono (by simp))
  have d2 : w1.cell? ⟨w.heap.size, 2, none⟩ = some (.int .i64 c) := keeps hb (by simp)
  have d3 : w1.cell? ⟨w.heap.size, 3, none⟩ = some (.int .i64 d) := keeps hb (by simp)
  have d4 : w1.cell? ⟨w.heap.size, 4, none⟩ = some (.int .i64 p) := keeps hb (by simp)
  clear hb
  go_wp2_with fail
  refine (price_ok _ _ HP.out).mono ?_
  rintro e w2 ⟨rfl, hb2⟩
  have hW2 := hW.trans (hb2.mono hW.size)
  have c2 := keeps hb2 d2
  have c3 := keeps hb2 d3
  have c4 := keeps hb2 d4
  clear hb2 d2 d3 d4
  go_wp2_with fail
  go_ret2
  exact ⟨rfl, hW2⟩

set_option linter.unusedSimpArgs false in
set_option maxRecDepth 100000 in
set_option maxHeartbeats 1000000 in
theorem meets_buy (a b c d p q s t x : Int) (w : World) (hck : ∀ W, Calls Tryz.prog 6 #[.agg #[.int .i64 a, .int .i64 b, .int .i64 c, .int .i64 d, .int .i64 p, .int .i64 q, .int .i64 s, .int .i64 t]] W fun e w' => e = .returned .nilIface ∧ Below W.heap.size W w') (hx : prB x = true) (hd : (d == 2) = false) (hc : (c == 1) = true) :
    Calls Tryz.prog 13 #[.agg #[.int .i64 a, .int .i64 b, .int .i64 c, .int .i64 d, .int .i64 p, .int .i64 q, .int .i64 s, .int .i64 t], .int .i64 x] w fun e w' => e = .returned (.tuple #[.bool (decide (x ≤ p)), .nilIface]) ∧ Below w.heap.size w w' := by
  have HP : Hid (prB x = true) := hx
  clear hx
  have HCK : Hid (∀ W, Calls Tryz.prog 6 #[.agg #[.int .i64 a, .int .i64 b, .int .i64 c, .int .i64 d, .int .i64 p, .int .i64 q, .int .i64 s, .int .i64 t]] W fun e w' => e = .returned .nilIface ∧ Below W.heap.size W w') := hck
  clear hck
  go_enter Tryz.func13, Tryz.ntmps13
  go_wp2_with fail
  refine (HCK.out _).mono ?_
  rintro e w1 ⟨rfl, hb⟩
  have hW : Below w.heap.size w w1 := ((Below.refl _ _).alloc (Nat.le_refl _) _).trans (hb.mono (by simp))
  have d2 : w1.cell? ⟨w.heap.size, 2, none⟩ = some (.int .i64 c) := keeps hb (by simp)
  have d3 : w1.cell? ⟨w.heap.size, 3, none⟩ = some (.int .i64 d) := keeps hb (by simp)
  have d4 : w1.cell? ⟨w.heap.size, 4, none⟩ = some (.int .i64 p) := keeps hb (by simp)
  clear hb
  go_wp2_with fail
  refine (price_ok _ _ HP.out).mono ?_
  rintro e w2 ⟨rfl, hb2⟩
  have hW2 := hW.trans (hb2.mono hW.size)
  have c2 := keeps hb2 d2
  have c3 := keeps hb2 d3
  have c4 := keeps hb2 d4
  clear hb2 d2 d3 d4
  go_wp2_with fail
  go_ret2
  exact ⟨rfl, hW2⟩

set_option linter.unusedSimpArgs false in
set_option maxRecDepth 100000 in
set_option maxHeartbeats 1000000 in
theorem meets_sell (a b c d p q s t x : Int) (w : World) (hck : ∀ W, Calls Tryz.prog 6 #[.agg #[.int .i64 a, .int .i64 b, .int .i64 c, .int .i64 d, .int .i64 p, .int .i64 q, .int .i64 s, .int .i64 t]] W fun e w' => e = .returned .nilIface ∧ Below W.heap.size W w') (hx : prB x = true) (hd : (d == 2) = false) (hc : (c == 1) = false) :
    Calls Tryz.prog 13 #[.agg #[.int .i64 a, .int .i64 b, .int .i64 c, .int .i64 d, .int .i64 p, .int .i64 q, .int .i64 s, .int .i64 t], .int .i64 x] w fun e w' => e = .returned (.tuple #[.bool (decide (p ≤ x)), .nilIface]) ∧ Below w.heap.size w w' := by
  have HP : Hid (prB x = true) := hx
  clear hx
  have HCK : Hid (∀ W, Calls Tryz.prog 6 #[.agg #[.int .i64 a, .int .i64 b, .int .i64 c, .int .i64 d, .int .i64 p, .int .i64 q, .int .i64 s, .int .i64 t]] W fun e w' => e = .returned .nilIface ∧ Below W.heap.size W w') := hck
  clear hck
  go_enter Tryz.func13, Tryz.ntmps13
  go_wp2_with fail
  refine (HCK.out _).mono ?_
  rintro e w1 ⟨rfl, hb⟩
  have hW : Below w.heap.size w w1 := ((Below.refl _ _).alloc (Nat.le_refl _) _).trans (hb.mono (by simp))
  have d2 : w1.cell? ⟨w.heap.size, 2, none⟩ = some (.int .i64 c) := keeps hb (by simp)
  have d3 : w1.cell? ⟨w.heap.size, 3, none⟩ = some (.int .i64 d) := keeps hb (by simp)
  have d4 : w1.cell? ⟨w.heap.size, 4, none⟩ = some (.int .i64 p) := keeps hb (by simp)
  clear hb
  go_wp2_with fail
  refine (price_ok _ _ HP.out).mono ?_
  rintro e w2 ⟨rfl, hb2⟩
  have hW2 := hW.trans (hb2.mono hW.size)
  have c2 := keeps hb2 d2
  have c3 := keeps hb2 d3
  have c4 := keeps hb2 d4
  clear hb2 d2 d3 d4
  go_wp2_with fail
  go_ret2
  exact ⟨rfl, hW2⟩

/-- Meets, at every order and number. -/
theorem meets_any (o : O) (x : Int) (w : World) :
    Calls Tryz.prog 13 #[oV o, .int .i64 x] w fun e w' => e = .returned (.tuple #[.bool (if mE o x = 0 then mB o x else false), errV (mE o x)]) ∧ Below w.heap.size w w' := by
  have hck := fun W => check_any o W
  obtain ⟨a, b, c, d, p, q, s, t⟩ := o
  by_cases h0 : chk ⟨a, b, c, d, p, q, s, t⟩ = 0
  · rw [h0] at hck
    cases hx : prB x
    · have e : mE ⟨a, b, c, d, p, q, s, t⟩ x = 1 := by unfold mE; rw [if_pos h0, hx]; rfl
      rw [e, if_neg (by omega)]
      exact meets_noprice a b c d p q s t x w hck hx
    · have e : mE ⟨a, b, c, d, p, q, s, t⟩ x = 0 := by unfold mE; rw [if_pos h0, hx]; rfl
      rw [e, if_pos rfl]
      have em : mB ⟨a, b, c, d, p, q, s, t⟩ x = (decide (d = 2) || (if c = 1 then decide (x ≤ p) else decide (p ≤ x))) := rfl
      rw [em]
      by_cases hd : d = 2
      · rw [show decide (d = 2) = true from decide_eq_true hd, Bool.true_or]
        exact meets_market a b c d p q s t x w hck hx (beq_iff_eq.2 hd)
      · rw [show decide (d = 2) = false from decide_eq_false hd, Bool.false_or]
        by_cases hc : c = 1
        · rw [if_pos hc]
          exact meets_buy a b c d p q s t x w hck hx (beq_eq_false_iff_ne.2 hd) (beq_iff_eq.2 hc)
        · rw [if_neg hc]
          exact meets_sell a b c d p q s t x w hck hx (beq_eq_false_iff_ne.2 hd) (beq_eq_false_iff_ne.2 hc)
  · have e : mE ⟨a, b, c, d, p, q, s, t⟩ x = chk ⟨a, b, c, d, p, q, s, t⟩ := by unfold mE; rw [if_neg h0]
    rw [e, if_neg h0]
    rw [errV_of h0] at hck ⊢
    exact meets_bad a b c d p q s t x w _ hck

end Go.Proofs.YtpcomgnglidhhaaGreatDoor.ord
