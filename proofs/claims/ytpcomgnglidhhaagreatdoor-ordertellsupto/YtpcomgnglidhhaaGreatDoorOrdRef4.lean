/- Contracts over this seat's translation: the document's Read. -/
import Derived.Test.YtpcomgnglidhhaaGreatDoorOrdRef1c
import Derived.Test.YtpcomgnglidhhaaGreatDoorOrdCut
namespace Go.Proofs.YtpcomgnglidhhaaGreatDoor.ord
open Go.RowKit

set_option linter.unusedSimpArgs false in
set_option maxRecDepth 100000 in
set_option maxHeartbeats 1000000 in
theorem rread_short (s : ByteArray) (w : World) (hs : s.size ≤ 2000000) (h : (cut s.data.toList).length < 5) :
    Calls Tryz.prog 9 #[.string s] w fun e w' => e = .returned (.tuple #[oV zeroO, .int .i64 2]) ∧ Below w.heap.size w w' := by
  go_enter Tryz.func9, Tryz.ntmps9
  go_wp2_with fail
  refine (cut_any s _ hs).mono ?_
  rintro e w1 ⟨g, cap, k, rfl, hown, hb⟩
  have hk : k = (cut s.data.toList).length := by
    obtain ⟨-, -, -, e⟩ := own_lt hown
    rw [← e]; unfold vals; simp
  have hk5 : (k : Int) < 5 := by omega
  have HB : Hid (Below w.heap.size w w1) := ((((Below.refl _ _).alloc (Nat.le_refl _) _).alloc (by simp) _).alloc (by simp; omega) _).trans (hb.mono (by simp; omega))
  have R0 := heap_alloc_new w (.cells #[.int .i64 0, .int .i64 0, .int .i64 0, .int .i64 0, .int .i64 0, .int .i64 0, .int .i64 0, .int .i64 0] 23)
  have R1 := fun ob => (Below.heap_alloc (w.alloc (.cells #[.int .i64 0, .int .i64 0, .int .i64 0, .int .i64 0, .int .i64 0, .int .i64 0, .int .i64 0, .int .i64 0] 23)) ob _ (heap_lt R0)).trans R0
  have R2 := fun oa ob => (Below.heap_alloc ((w.alloc (.cells #[.int .i64 0, .int .i64 0, .int .i64 0, .int .i64 0, .int .i64 0, .int .i64 0, .int .i64 0, .int .i64 0] 23)).alloc oa) ob _ (heap_lt (R1 oa))).trans (R1 oa)
  have HR : Hid (w1.heap[w.heap.size]? = some (.cells #[.int .i64 0, .int .i64 0, .int .i64 0, .int .i64 0, .int .i64 0, .int .i64 0, .int .i64 0, .int .i64 0] 23 (0, 0))) := (hb.block w.heap.size (heap_lt (R2 _ _))).trans (R2 _ _)
  clear R0 R1 R2 hown hb h
  go_upto_region 5 with fail
  refine wp_region_lit ?_
  iterate 1 (refine wpList_step fun K hK => ?_; go_simp; refine hK _ _ ?_; clear hK K; try simp only [Act.put, List.setIfInBounds_toArray, List.set_cons_zero, List.set_cons_succ])
  refine wpList_store_mid rfl 23 (.tmp 2) (.tmp 27) rfl w.heap.size 0 #[.int .i64 0, .int .i64 0, .int .i64 0, .int .i64 0, .int .i64 0, .int .i64 0, .int .i64 0, .int .i64 0] rfl rfl (there8 HR.out) (by kernel_rfl) (by simp [Value.oneCell']) ?_
  have hXs := stored8 (.int .i64 0) (.int .i64 0) (.int .i64 0) (.int .i64 0) (.int .i64 0) (.int .i64 0) (.int .i64 0) (.int .i64 0) HR.out
  have hXb := below_setCells (Nat.le_refl _) [.int .i64 0, .int .i64 0, .int .i64 0, .int .i64 0, .int .i64 0, .int .i64 0, .int .i64 0, .int .i64 0] 0 _ HB.out
  show wpList _ _ _ _ _ (w1.setCells w.heap.size 0 [.int .i64 0, .int .i64 0, .int .i64 0, .int .i64 0, .int .i64 0, .int .i64 0, .int .i64 0, .int .i64 0])
  generalize w1.setCells w.heap.size 0 [.int .i64 0, .int .i64 0, .int .i64 0, .int .i64 0, .int .i64 0, .int .i64 0, .int .i64 0, .int .i64 0] = X at *
  have x0 : X.cell? ⟨w.heap.size, 0, none⟩ = some (.int .i64 0) := Joins.cell_of_block hXs 0
  have x1 : X.cell? ⟨w.heap.size, 1, none⟩ = some (.int .i64 0) := Joins.cell_of_block hXs 1
  have x2 : X.cell? ⟨w.heap.size, 2, none⟩ = some (.int .i64 0) := Joins.cell_of_block hXs 2
  have x3 : X.cell? ⟨w.heap.size, 3, none⟩ = some (.int .i64 0) := Joins.cell_of_block hXs 3
  have x4 : X.cell? ⟨w.heap.size, 4, none⟩ = some (.int .i64 0) := Joins.cell_of_block hXs 4
  have x5 : X.cell? ⟨w.heap.size, 5, none⟩ = some (.int .i64 0) := Joins.cell_of_block hXs 5
  have x6 : X.cell? ⟨w.heap.size, 6, none⟩ = some (.int .i64 0) := Joins.cell_of_block hXs 6
  have x7 : X.cell? ⟨w.heap.size, 7, none⟩ = some (.int .i64 0) := Joins.cell_of_block hXs 7
  clear hXs HR HB 
  go_wp2_with fail
  exact bodyPost_ret (v := .tuple #[.agg #[.int .i64 0, .int .i64 0, .int .i64 0, .int .i64 0, .int .i64 0, .int .i64 0, .int .i64 0, .int .i64 0], .int .i64 2]) (by simp [results, Tryz.results9, go_sem, x0, x1, x2, x3, x4, x5, x6, x7]) rfl ⟨rfl, hXb⟩

end Go.Proofs.YtpcomgnglidhhaaGreatDoor.ord
