import Derived.Test.YtifjhlgjgnnnpaaGreatWakPart
import Derived.Deep.MidRow
import Derived.Lib.SliceRun
namespace Go.Proofs.YtifjhlgjgnnnpaaGreat
namespace lim
open Go.RowKit ord
open wak (oL gr_setCells)
theorem hidC{P:Prop}(h:P):Hid P:=h
theorem there8{w:World}{b:Nat}{z0 z1 z2 z3 z4 z5 z6 z7:Value}{t:TypeId}(h:w.heap[b]?=some (.cells #[z0,z1,z2,z3,z4,z5,z6,z7] t (0,0))):w.there b 0 8:=by
 intro j hj
 have hc:w.cell? ⟨b,0+j,none⟩=(#[z0,z1,z2,z3,z4,z5,z6,z7])[j]?:=by rw[Nat.zero_add];simp[World.cell?,h]
 have hf:w.frozen? ⟨b,0+j,none⟩=false:=by simp[World.frozen?,h]
 rw[hc,hf]
 have:j=0∨j=1∨j=2∨j=3∨j=4∨j=5∨j=6∨j=7:=by omega
 rcases this with rfl|rfl|rfl|rfl|rfl|rfl|rfl|rfl <;>exact⟨rfl,rfl⟩
theorem stored8{w:World}{b:Nat}{z0 z1 z2 z3 z4 z5 z6 z7:Value}{t:TypeId}(v0 v1 v2 v3 v4 v5 v6 v7:Value)(h:w.heap[b]?=some (.cells #[z0,z1,z2,z3,z4,z5,z6,z7] t (0,0))) :
  (w.setCells b 0 [v0,v1,v2,v3,v4,v5,v6,v7]).heap[b]?=some (.cells #[v0,v1,v2,v3,v4,v5,v6,v7] t (0,0)):=by
 simp only[World.setCells]
 have h0:=heap_setCell_same w b 0 _ _ v0 h
 have h1:=heap_setCell_same _ b 1 _ _ v1 h0
 have h2:=heap_setCell_same _ b 2 _ _ v2 h1
 have h3:=heap_setCell_same _ b 3 _ _ v3 h2
 have h4:=heap_setCell_same _ b 4 _ _ v4 h3
 have h5:=heap_setCell_same _ b 5 _ _ v5 h4
 have h6:=heap_setCell_same _ b 6 _ _ v6 h5
 have h7:=heap_setCell_same _ b 7 _ _ v7 h6
 simpa using h7
theorem row8{w:World}{b:Nat}{z0 z1 z2 z3 z4 z5 z6 z7:Value}{t:TypeId}(h:w.heap[b]?=some (.cells #[z0,z1,z2,z3,z4,z5,z6,z7] t (0,0))):w.cell? ⟨b,0,none⟩=some z0∧w.cell? ⟨b,1,none⟩=some z1∧w.cell? ⟨b,2,none⟩=some z2∧w.cell? ⟨b,3,none⟩=some z3∧w.cell? ⟨b,4,none⟩=some z4∧w.cell? ⟨b,5,none⟩=some z5∧w.cell? ⟨b,6,none⟩=some z6∧w.cell? ⟨b,7,none⟩=some z7:=
 ⟨by simp[World.cell?,h],by simp[World.cell?,h],by simp[World.cell?,h],by simp[World.cell?,h],by simp[World.cell?,h],by simp[World.cell?,h],by simp[World.cell?,h],by simp[World.cell?,h]⟩
set_option maxHeartbeats 1000000 in
theorem zFn(a1 a2 a3 a4 a5:Int)(w:World):Calls Tryz.prog 19 #[.int .i64 a1,.int .i64 a2,.int .i64 a3,.int .i64 a4,.int .i64 a5] w fun e w'=>e=.returned (.agg #[.int .i64 a1,.int .i64 a2,.int .i64 a3,.int .i64 1,.int .i64 a4,.int .i64 a5,.int .i64 0,.int .i64 0])∧Below w.heap.size w w':=by
 obtain⟨X,hX⟩:∃x,x=w.heap.size:=⟨_,rfl⟩
 have HB0:Hid (Below w.heap.size w (w.alloc (.cells #[.int .i64 0,.int .i64 0,.int .i64 0,.int .i64 0,.int .i64 0,.int .i64 0,.int .i64 0,.int .i64 0] 32))):=(bzR _ _).alloc (nzR _) _
 have HR:Hid ((w.alloc (.cells #[.int .i64 0,.int .i64 0,.int .i64 0,.int .i64 0,.int .i64 0,.int .i64 0,.int .i64 0,.int .i64 0] 32)).heap[X]?=some (.cells #[.int .i64 0,.int .i64 0,.int .i64 0,.int .i64 0,.int .i64 0,.int .i64 0,.int .i64 0,.int .i64 0] 32 (0,0))):=by rw[hX];exact heap_alloc_new w _
 have HX:=hidC hX
 go_enter Tryz.func19,Tryz.ntmps19
 go_upto_region 1 with fail
 simp only[←hX]
 generalize w.alloc (.cells #[.int .i64 0,.int .i64 0,.int .i64 0,.int .i64 0,.int .i64 0,.int .i64 0,.int .i64 0,.int .i64 0] 32)=W1 at HB0 HR ⊢
 clear hX
 refine wp_region_lit ?_
 iterate 6 (refine wpList_step fun K hK=>?_;go_simp;refine hK _ _ ?_;clear hK K;try simp only[Act.put,List.setIfInBounds_toArray,List.set_cons_zero,List.set_cons_succ])
 refine wpList_store_mid rfl 32 (.tmp 10) (.tmp 16) rfl X 0 #[.int .i64 a1,.int .i64 a2,.int .i64 a3,.int .i64 1,.int .i64 a4,.int .i64 a5,.int .i64 0,.int .i64 0] rfl rfl (there8 HR.out) (by kernel_rfl) (by simp[Value.oneCell']) ?_
 have HS:Hid ((W1.setCells X 0 (oL ⟨a1,a2,a3,1,a4,a5,0,0⟩)).heap[X]?=some (.cells #[.int .i64 a1,.int .i64 a2,.int .i64 a3,.int .i64 1,.int .i64 a4,.int .i64 a5,.int .i64 0,.int .i64 0] 32 (0,0))):=stored8 (.int .i64 a1) (.int .i64 a2) (.int .i64 a3) (.int .i64 1) (.int .i64 a4) (.int .i64 a5) (.int .i64 0) (.int .i64 0) HR.out
 have HBF:Hid (Below w.heap.size w (W1.setCells X 0 (oL ⟨a1,a2,a3,1,a4,a5,0,0⟩))):=HB0.out.grown (gr_setCells X _ _ _) HB0.out.size (fun k hk=>by cases hk;exact Nat.le_of_eq HX.out.symm)
 show wpList _ _ _ _ _ (W1.setCells X 0 (oL ⟨a1,a2,a3,1,a4,a5,0,0⟩))
 generalize W1.setCells X 0 (oL ⟨a1,a2,a3,1,a4,a5,0,0⟩)=W9 at HS HBF ⊢
 obtain⟨y0,y1,y2,y3,y4,y5,y6,y7⟩:=row8 HS.out
 go_wp2_with fail
 exact bodyPost_ret (v:=.agg #[.int .i64 a1,.int .i64 a2,.int .i64 a3,.int .i64 1,.int .i64 a4,.int .i64 a5,.int .i64 0,.int .i64 0]) (by simp[results,Tryz.results19,go_sem,y0,y1,y2,y3,y4,y5,y6,y7]) rfl ⟨rfl,HBF.out⟩
end lim
end Go.Proofs.YtifjhlgjgnnnpaaGreat
