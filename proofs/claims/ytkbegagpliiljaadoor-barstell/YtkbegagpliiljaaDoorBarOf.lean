/- Contracts over this seat's translation: package bars' single, behind, barOf. -/
import Derived.Test.YtkbegagpliiljaaDoorBarSl
import Derived.Test.YtkbegagpliiljaaDoorOwnGen
import Derived.Deep.RegionHeld3
namespace Go.Proofs.YtkbegagpliiljaaDoor.bar
open Go.RowKit Go.Proofs.YtkbegagpliiljaaDoor.mee
open Go.Proofs.YtkbegagpliiljaaDoor.spn (keeps)

/-- The bar of one trade. -/
def sgl (t : T) : B := ⟨t.price, t.price, t.price, t.price, t.qty⟩
/-- The bar of two, the second one behind the first. -/
def bhd (a b : B) : B := ⟨a.o, max a.h b.h, min a.l b.l, b.c, wrap64 (a.q + b.q)⟩
/-- The bar of trades behind a bar. -/
def barF (a : B) (r : List T) : B := r.foldl (fun a x => bhd a (sgl x)) a
def barZ : B := ⟨0, 0, 0, 0, 0⟩
def barOf : List T → B
  | [] => barZ
  | t :: r => barF (sgl t) r
theorem barF_take {a : B} {r : List T} {k : Nat} (h : k < r.length) : barF a (r.take (k + 1)) = bhd (barF a (r.take k)) (sgl (r[k]!)) := by
  unfold barF
  rw [take_succ_at h, List.foldl_append]
  rfl

theorem set5 {w : World} {g : Nat} {e : TypeId} {a0 a1 a2 a3 a4 b0 b1 b2 b3 b4 : Value} (h : w.heap[g]? = some (.cells #[a0, a1, a2, a3, a4] e (0, 0))) :
    (((((w.setCell ⟨g, 0, none⟩ b0).setCell ⟨g, 1, none⟩ b1).setCell ⟨g, 2, none⟩ b2).setCell ⟨g, 3, none⟩ b3).setCell ⟨g, 4, none⟩ b4).heap[g]? = some (.cells #[b0, b1, b2, b3, b4] e (0, 0)) := by
  have h0 := heap_setCell_same w g 0 _ _ b0 h
  have h1 := heap_setCell_same _ g 1 _ _ b1 h0
  have h2 := heap_setCell_same _ g 2 _ _ b2 h1
  have h3 := heap_setCell_same _ g 3 _ _ b3 h2
  have h4 := heap_setCell_same _ g 4 _ _ b4 h3
  simpa using h4
theorem low5 {W w : World} {n g : Nat} {b0 b1 b2 b3 b4 : Value} (h : Below n W w) (hg : n ≤ g) : Below n W (((((w.setCell ⟨g, 0, none⟩ b0).setCell ⟨g, 1, none⟩ b1).setCell ⟨g, 2, none⟩ b2).setCell ⟨g, 3, none⟩ b3).setCell ⟨g, 4, none⟩ b4) :=
  ((((h.setCell (p := ⟨g, 0, none⟩) hg b0).setCell (p := ⟨g, 1, none⟩) hg b1).setCell (p := ⟨g, 2, none⟩) hg b2).setCell (p := ⟨g, 3, none⟩) hg b3).setCell (p := ⟨g, 4, none⟩) hg b4

theorem there5 {w : World} {b : Nat} {z0 z1 z2 z3 z4 : Value} {t : TypeId} (h : w.heap[b]? = some (.cells #[z0, z1, z2, z3, z4] t (0, 0))) : w.there b 0 5 := by
  intro j hj
  have hc : w.cell? ⟨b, 0 + j, none⟩ = (#[z0, z1, z2, z3, z4])[j]? := by rw [Nat.zero_add]; simp [World.cell?, h]
  have hf : w.frozen? ⟨b, 0 + j, none⟩ = false := by simp [World.frozen?, h]
  rw [hc, hf]
  have : j = 0 ∨ j = 1 ∨ j = 2 ∨ j = 3 ∨ j = 4 := by omega
  rcases this with rfl | rfl | rfl | rfl | rfl <;> exact ⟨rfl, rfl⟩
theorem stored5 {w : World} {b : Nat} {z0 z1 z2 z3 z4 : Value} {t : TypeId} (v0 v1 v2 v3 v4 : Value) (h : w.heap[b]? = some (.cells #[z0, z1, z2, z3, z4] t (0, 0))) :
    (w.setCells b 0 [v0, v1, v2, v3, v4]).heap[b]? = some (.cells #[v0, v1, v2, v3, v4] t (0, 0)) := by
  simp only [World.setCells]
  exact set5 h
theorem row5 {w : World} {b : Nat} {z0 z1 z2 z3 z4 : Value} {t : TypeId} (h : w.heap[b]? = some (.cells #[z0, z1, z2, z3, z4] t (0, 0))) : w.cell? ⟨b, 0, none⟩ = some z0 ∧ w.cell? ⟨b, 1, none⟩ = some z1 ∧ w.cell? ⟨b, 2, none⟩ = some z2 ∧ w.cell? ⟨b, 3, none⟩ = some z3 ∧ w.cell? ⟨b, 4, none⟩ = some z4 :=
  ⟨by simp [World.cell?, h], by simp [World.cell?, h], by simp [World.cell?, h], by simp [World.cell?, h], by simp [World.cell?, h]⟩

set_option maxRecDepth 100000 in
set_option maxHeartbeats 400000 in
theorem single_walk (t1 t2 t3 t4 t5 t6 : Int) (w : World) :
    Calls Tryd.prog 30 #[.agg #[.int .i64 t1, .int .i64 t2, .int .i64 t3, .int .i64 t4, .int .i64 t5, .int .i64 t6]] w
      fun e w' => e = .returned (.agg #[.int .i64 t5, .int .i64 t5, .int .i64 t5, .int .i64 t5, .int .i64 t6]) ∧ Below w.heap.size w w' := by
  obtain ⟨X, hX⟩ : ∃ x, x = w.heap.size := ⟨_, rfl⟩
  have HB : Hid (Below w.heap.size w ((w.alloc (.cells #[.int .i64 t1, .int .i64 t2, .int .i64 t3, .int .i64 t4, .int .i64 t5, .int .i64 t6] 34)).alloc (.cells #[.int .i64 0, .int .i64 0, .int .i64 0, .int .i64 0, .int .i64 0] 26))) := ((Below.refl _ _).alloc (Nat.le_refl _) _).alloc (by simp) _
  have HR : Hid (((w.alloc (.cells #[.int .i64 t1, .int .i64 t2, .int .i64 t3, .int .i64 t4, .int .i64 t5, .int .i64 t6] 34)).alloc (.cells #[.int .i64 0, .int .i64 0, .int .i64 0, .int .i64 0, .int .i64 0] 26)).heap[X + 1]? = some (.cells #[.int .i64 0, .int .i64 0, .int .i64 0, .int .i64 0, .int .i64 0] 26 (0, 0))) := by
    have := heap_alloc_new (w.alloc (.cells #[.int .i64 t1, .int .i64 t2, .int .i64 t3, .int .i64 t4, .int .i64 t5, .int .i64 t6] 34)) (.cells #[.int .i64 0, .int .i64 0, .int .i64 0, .int .i64 0, .int .i64 0] 26)
    rw [World.size_alloc] at this
    rw [hX]
    exact this
  have c4 : ((w.alloc (.cells #[.int .i64 t1, .int .i64 t2, .int .i64 t3, .int .i64 t4, .int .i64 t5, .int .i64 t6] 34)).alloc (.cells #[.int .i64 0, .int .i64 0, .int .i64 0, .int .i64 0, .int .i64 0] 26)).cell? ⟨X, 4, none⟩ = some (.int .i64 t5) := by subst hX; simp
  have c5 : ((w.alloc (.cells #[.int .i64 t1, .int .i64 t2, .int .i64 t3, .int .i64 t4, .int .i64 t5, .int .i64 t6] 34)).alloc (.cells #[.int .i64 0, .int .i64 0, .int .i64 0, .int .i64 0, .int .i64 0] 26)).cell? ⟨X, 5, none⟩ = some (.int .i64 t6) := by subst hX; simp
  have HX := hidT hX
  go_enter Tryd.func30, Tryd.ntmps30
  go_upto_region 1 with fail
  simp only [← hX]
  clear hX
  generalize (w.alloc (.cells #[.int .i64 t1, .int .i64 t2, .int .i64 t3, .int .i64 t4, .int .i64 t5, .int .i64 t6] 34)).alloc (.cells #[.int .i64 0, .int .i64 0, .int .i64 0, .int .i64 0, .int .i64 0] 26) = V at *
  refine wp_region_lit ?_
  iterate 11 (refine wpList_step fun K hK => ?_; go_simp; refine hK _ _ ?_; clear hK K; try simp only [Act.put, List.setIfInBounds_toArray, List.set_cons_zero, List.set_cons_succ])
  refine wpList_store_mid rfl 26 (.tmp 2) (.tmp 13) rfl (X + 1) 0 #[.int .i64 t5, .int .i64 t5, .int .i64 t5, .int .i64 t5, .int .i64 t6] rfl rfl (there5 HR.out) (by kernel_rfl) (by simp [Value.oneCell']) ?_
  have HS := hidT (stored5 (.int .i64 t5) (.int .i64 t5) (.int .i64 t5) (.int .i64 t5) (.int .i64 t6) HR.out)
  have HBF : Hid (Below w.heap.size w (V.setCells (X + 1) 0 [.int .i64 t5, .int .i64 t5, .int .i64 t5, .int .i64 t5, .int .i64 t6])) := HB.out.grown (wak.gr_setCells (X + 1) _ _ _) HB.out.size (fun k hk => by cases hk; rw [HX.out]; omega)
  show wpList _ _ _ _ _ (V.setCells (X + 1) 0 [.int .i64 t5, .int .i64 t5, .int .i64 t5, .int .i64 t5, .int .i64 t6])
  generalize V.setCells (X + 1) 0 [.int .i64 t5, .int .i64 t5, .int .i64 t5, .int .i64 t5, .int .i64 t6] = W9 at HS HBF ⊢
  obtain ⟨y0, y1, y2, y3, y4⟩ := row5 HS.out
  go_wp2_with fail
  exact bodyPost_ret (v := .agg #[.int .i64 t5, .int .i64 t5, .int .i64 t5, .int .i64 t5, .int .i64 t6]) (by simp [results, Tryd.results30, go_sem, y0, y1, y2, y3, y4]) rfl ⟨rfl, HBF.out⟩

set_option maxRecDepth 100000 in
set_option maxHeartbeats 400000 in
theorem behind_walk (a1 a2 a3 a4 a5 b1 b2 b3 b4 b5 : Int) (w : World) :
    Calls Tryd.prog 23 #[.agg #[.int .i64 a1, .int .i64 a2, .int .i64 a3, .int .i64 a4, .int .i64 a5], .agg #[.int .i64 b1, .int .i64 b2, .int .i64 b3, .int .i64 b4, .int .i64 b5]] w
      fun e w' => e = .returned (.agg #[.int .i64 a1, .int .i64 (max a2 b2), .int .i64 (min a3 b3), .int .i64 b4, .int .i64 (wrap64 (a5 + b5))]) ∧ Below w.heap.size w w' := by
  obtain ⟨X, hX⟩ : ∃ x, x = w.heap.size := ⟨_, rfl⟩
  obtain ⟨V, hV⟩ : ∃ V, V = ((w.alloc (.cells #[.int .i64 a1, .int .i64 a2, .int .i64 a3, .int .i64 a4, .int .i64 a5] 26)).alloc (.cells #[.int .i64 b1, .int .i64 b2, .int .i64 b3, .int .i64 b4, .int .i64 b5] 26)).alloc (.cells #[.int .i64 0, .int .i64 0, .int .i64 0, .int .i64 0, .int .i64 0] 26) := ⟨_, rfl⟩
  have HB : Hid (Below w.heap.size w V) := by rw [hV]; exact (((Below.refl _ _).alloc (Nat.le_refl _) _).alloc (by simp) _).alloc (by simp; omega) _
  have HR : Hid (V.heap[X + 2]? = some (.cells #[.int .i64 0, .int .i64 0, .int .i64 0, .int .i64 0, .int .i64 0] 26 (0, 0))) := by
    have := heap_alloc_new ((w.alloc (.cells #[.int .i64 a1, .int .i64 a2, .int .i64 a3, .int .i64 a4, .int .i64 a5] 26)).alloc (.cells #[.int .i64 b1, .int .i64 b2, .int .i64 b3, .int .i64 b4, .int .i64 b5] 26)) (.cells #[.int .i64 0, .int .i64 0, .int .i64 0, .int .i64 0, .int .i64 0] 26)
    rw [World.size_alloc, World.size_alloc] at this
    rw [hX, hV]
    exact this
  have kA : ∀ o v, (#[.int .i64 a1, .int .i64 a2, .int .i64 a3, .int .i64 a4, .int .i64 a5] : Array Value)[o]? = some v → V.cell? ⟨X, o, none⟩ = some v := fun o v h => by
    have h0 := heap_alloc_new w (.cells #[.int .i64 a1, .int .i64 a2, .int .i64 a3, .int .i64 a4, .int .i64 a5] 26)
    rw [hV, hX]
    exact keeps (((Below.refl _ (w.alloc (.cells #[.int .i64 a1, .int .i64 a2, .int .i64 a3, .int .i64 a4, .int .i64 a5] 26))).alloc (Nat.le_refl _) _).alloc (by simp) _) (by simp only [World.cell?, h0]; exact h)
  have kB : ∀ o v, (#[.int .i64 b1, .int .i64 b2, .int .i64 b3, .int .i64 b4, .int .i64 b5] : Array Value)[o]? = some v → V.cell? ⟨X + 1, o, none⟩ = some v := fun o v h => by
    have h0 := heap_alloc_new (w.alloc (.cells #[.int .i64 a1, .int .i64 a2, .int .i64 a3, .int .i64 a4, .int .i64 a5] 26)) (.cells #[.int .i64 b1, .int .i64 b2, .int .i64 b3, .int .i64 b4, .int .i64 b5] 26)
    rw [World.size_alloc] at h0
    rw [hV, hX]
    exact keeps ((Below.refl _ ((w.alloc (.cells #[.int .i64 a1, .int .i64 a2, .int .i64 a3, .int .i64 a4, .int .i64 a5] 26)).alloc (.cells #[.int .i64 b1, .int .i64 b2, .int .i64 b3, .int .i64 b4, .int .i64 b5] 26))).alloc (Nat.le_refl _) _) (by simp only [World.cell?, h0]; exact h)
  have c0 := kA 0 _ rfl
  have c1 := kA 1 _ rfl
  have c2 := kA 2 _ rfl
  have c4 := kA 4 _ rfl
  have d1 := kB 1 _ rfl
  have d2 := kB 2 _ rfl
  have d3 := kB 3 _ rfl
  have d4 := kB 4 _ rfl
  clear kA kB
  have HX := hidT hX
  go_enter Tryd.func23, Tryd.ntmps23
  go_upto_region 1 with fail
  simp only [← hX, ← hV]
  clear hX hV
  refine wp_region_lit ?_
  have EW : Hid (IntKind.i64.wrap (a5 + b5) = wrap64 (a5 + b5)) := IntWalk.i64_left _
  iterate 20 (refine wpList_step fun K hK => ?_; go_simp; refine hK _ _ ?_; clear hK K; try simp only [Act.put, List.setIfInBounds_toArray, List.set_cons_zero, List.set_cons_succ])
  refine wpList_store_mid rfl 26 (.tmp 4) (.tmp 24) rfl (X + 2) 0 #[.int .i64 a1, .int .i64 (max a2 b2), .int .i64 (min a3 b3), .int .i64 b4, .int .i64 (IntKind.i64.wrap (a5 + b5))] rfl rfl (there5 HR.out) (by kernel_rfl) (by simp [Value.oneCell']) ?_
  have HS := hidT (stored5 (.int .i64 a1) (.int .i64 (max a2 b2)) (.int .i64 (min a3 b3)) (.int .i64 b4) (.int .i64 (IntKind.i64.wrap (a5 + b5))) HR.out)
  have HBF : Hid (Below w.heap.size w (V.setCells (X + 2) 0 [.int .i64 a1, .int .i64 (max a2 b2), .int .i64 (min a3 b3), .int .i64 b4, .int .i64 (IntKind.i64.wrap (a5 + b5))])) := HB.out.grown (wak.gr_setCells (X + 2) _ _ _) HB.out.size (fun k hk => by cases hk; rw [HX.out]; omega)
  show wpList _ _ _ _ _ (V.setCells (X + 2) 0 [.int .i64 a1, .int .i64 (max a2 b2), .int .i64 (min a3 b3), .int .i64 b4, .int .i64 (IntKind.i64.wrap (a5 + b5))])
  generalize V.setCells (X + 2) 0 [.int .i64 a1, .int .i64 (max a2 b2), .int .i64 (min a3 b3), .int .i64 b4, .int .i64 (IntKind.i64.wrap (a5 + b5))] = W9 at HS HBF ⊢
  obtain ⟨y0, y1, y2, y3, y4⟩ := row5 HS.out
  go_wp2_with fail
  exact bodyPost_ret (v := .agg #[.int .i64 a1, .int .i64 (max a2 b2), .int .i64 (min a3 b3), .int .i64 b4, .int .i64 (IntKind.i64.wrap (a5 + b5))]) (by simp [results, Tryd.results23, go_sem, y0, y1, y2, y3, y4]) rfl ⟨by rw [EW.out], HBF.out⟩
end Go.Proofs.YtkbegagpliiljaaDoor.bar
