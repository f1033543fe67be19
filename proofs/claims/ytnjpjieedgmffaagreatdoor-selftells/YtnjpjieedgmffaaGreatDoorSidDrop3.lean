import Derived.Test.YtnjpjieedgmffaaGreatDoorSidIns2
import Derived.Lib.SlicesDelete
import Derived.Deep.RegionLaw
import Derived.Test.YtnjpjieedgmffaaGreatDoorSidAdd
namespace Go.Proofs.YtnjpjieedgmffaaGreatDoor.rlv
open Go.RowKit spn que sid
theorem zeroVR (w:World):(zeroValue 51).run Tryz.prog w=.ok zeroR w:=by kernel_rfl
set_option maxRecDepth 100000 in
set_option maxHeartbeats 4000000 in
theorem delete_own (w:World) (base g off n c i j:Nat) (xs:List Value) (ho:OwnM w base 51 2 (.slice (some ⟨g,off,none⟩) n c) n xs) (hij:i < j) (hj:j≤n) (h1x:∀u∈xs,u.oneCell'=true) :
  Calls Tryz.prog 108 #[.slice (some ⟨g,off,none⟩) n c,.int .i64 i,.int .i64 j] w fun e w'=>e=.returned (.slice (some ⟨g,off,none⟩) (i+(n - j)) c)∧OwnM w' base 51 2 (.slice (some ⟨g,off,none⟩) (i+(n - j)) c) (i+(n - j)) (xs.take (i * 2)++xs.drop (j * 2))∧w.grownBy w' (some g):=by
 obtain⟨hxl,hbg,⟨cur,hcur,hcs⟩,hnc,hcm,hrg,hth⟩:=own_range ho
 have hc63:c≤9223372036854775807:=by simpa [maxLen] using hcm
 obtain⟨i0,hi0,hz0,hz1,hz2⟩:=rlv.infoR'
 have hdl:(xs.drop (j * 2)).length=(n - j) * 2:=by rw[List.length_drop,hxl];omega
 have htl:(xs.take (i * 2)).length=i * 2:=by rw[List.length_take,hxl];omega
 have hx1:xs=xs.take (i * 2)++xs.drop (i * 2):=(List.take_append_drop _ _).symm
 have hx2:xs=xs.take (j * 2)++xs.drop (j * 2):=(List.take_append_drop _ _).symm
 have hr1:w.rangeAt g off (xs.take (i * 2)):=by rw[hx1] at hrg;exact range_left hrg
 have hr2:w.rangeAt g (off+j * 2) (xs.drop (j * 2)):=by
  rw[hx2] at hrg;have:=range_right hrg;rwa [List.length_take,hxl,Nat.min_eq_left (by omega)] at this
 have hthX:∀o k,o+k≤c * 2→w.there g (off+o) k:=fun o k hk q hq=>by rw[Nat.add_assoc];exact hth (o+q) (by omega)
 obtain⟨news,hnews⟩:∃news,news=xs.drop (j * 2):=⟨_,rfl⟩
 obtain⟨A,hA,hsrc⟩:∃A:Addr,(if c=j then some (⟨g,off,none⟩:Addr) else some ⟨g,off+j * 2,none⟩)=some A∧Hid (∀t u,news[t]?=some u→w.drew.cell? (A.add t)=some u):=by
  by_cases h:c=j
  ·refine⟨⟨g,off,none⟩,by simp[h],fun t u hu=>?_⟩
   have h0:news.length=0:=by rw[hnews,hdl];omega
   rw[List.length_eq_zero_iff.1 h0] at hu
   simp at hu
  ·refine⟨⟨g,off+j * 2,none⟩,by simp[h],fun t u hu=>?_⟩
   rw[Addr.add_lit]
   rw[hnews] at hu
   exact hr2 t u hu
 have s1:Hid (news.length=(n - j) * 2):=by show _=_;rw[hnews,hdl]
 have s2:Hid (∀u∈news,u.oneCell'=true):=fun u hu=>h1x u (List.mem_of_mem_drop (by rw[hnews] at hu;exact hu))
 have s3:Hid (∀t,t < news.length→(w.drew.cell? ⟨g,off+i * 2+t,none⟩).isSome=true∧w.drew.frozen? ⟨g,off+i * 2+t,none⟩=false):=fun t ht=>by
  have ht2:t < (n - j) * 2:=by rw[hnews,hdl] at ht;exact ht
  exact hthX (i * 2) ((n - j) * 2) (by omega) t ht2
 obtain⟨W1,hW1⟩:∃W1,W1=w.drew.setCells g (off+i * 2) news:=⟨_,rfl⟩
 have hth1:∀o k,o+k≤c * 2→W1.there g (off+o) k:=fun o k hk=>by rw[hW1];exact World.there_setCells ((World.there_drew _ _ _ _).2 (hthX o k hk)) _ _ _
 have hcl:∀ty,(Builtin.clear_ #[22] ty #[.slice (some ⟨g,off+(i+(n - j)) * 2,none⟩) (n - (i+(n - j))) (c - (i+(n - j)))]).run Tryz.prog W1=.ok (.tuple #[]) (W1.setCells g (off+(i+(n - j)) * 2) (Builtin.zeroCells zeroR.cells (n - (i+(n - j)))).toList):=
  fun ty=>run_clear_wide W1 _ _ ty zeroR 2 Tryz.underlying22 zeroVR rfl (by simp[zeroR,Value.cells,Value.oneCell']) g _ _ _ (by omega) (hth1 _ _ (by omega))
 have HPOST:Hid (OwnM (W1.setCells g (off+(i+(n - j)) * 2) (Builtin.zeroCells zeroR.cells (n - (i+(n - j)))).toList) base 51 2 (.slice (some ⟨g,off,none⟩) (i+(n - j)) c) (i+(n - j)) (xs.take (i * 2)++xs.drop (j * 2))∧w.grownBy (W1.setCells g (off+(i+(n - j)) * 2) (Builtin.zeroCells zeroR.cells (n - (i+(n - j)))).toList) (some g)):=by
  obtain⟨cur1,hb1,hs1⟩:=setCells_blk g 51 (0,0) news (off+i * 2) w.drew cur hcur
  rw[←hW1] at hb1
  obtain⟨cur2,hb2,hs2⟩:=setCells_blk g 51 (0,0) (Builtin.zeroCells zeroR.cells (n - (i+(n - j)))).toList (off+(i+(n - j)) * 2) W1 cur1 hb1
  refine⟨own_of ?_ hbg hb2 (by rw[hs2,hs1];exact hcs) (by omega) hcm ?_,?_⟩
  ·rw[List.length_append,htl,hdl];omega
  ·refine range_append ?_ ?_
   ·refine World.rangeAt_setCells_apart ?_ _ _ _ (.inr (.inl (by rw[htl];omega)))
    rw[hW1]
    exact World.rangeAt_setCells_apart ((World.rangeAt_drew _ _ _ _).2 hr1) _ _ _ (.inr (.inl (by rw[htl];omega)))
   ·rw[htl]
    refine World.rangeAt_setCells_apart ?_ _ _ _ (.inr (.inl (by rw[hdl];omega)))
    rw[hW1,hnews]
    exact World.rangeAt_setCells_same _ _ _ _ ((World.there_drew _ _ _ _).2 (hthX _ _ (by rw[hdl];omega)))
  ·rw[hW1]
   exact gr_trans (gr_trans (gr_drew _ _) (gr_setCells g _ _ _)) (gr_setCells g _ _ _)
 have hW:Hid (W1=w.drew.setCells g (off+i * 2) news):=hW1
 obtain⟨W2,hW2⟩:∃W2,W2=W1.setCells g (off+(i+(n - j)) * 2) (Builtin.zeroCells zeroR.cells (n - (i+(n - j)))).toList:=⟨_,rfl⟩
 rw[←hW2] at HPOST
 simp only[←hW2] at hcl
 clear hW2
 have hic:i≤c:=by omega
 have hjc:j≤c:=by omega
 have hne:¬((i:Int)=(j:Int)):=by omega
 have hne2:¬(i=j):=by omega
 clear hW1 ho hxl hcur hcs hrg hth hdl htl hx1 hx2 hr1 hr2 hthX hth1 hnews h1x hcm hbg hz0 hz2
 go_enter Tryz.func108,Tryz.ntmps108
 go_wp2_with fail
 go_region_law (refine step_append_room rfl (.tmp 22) (.tmp 25) 22 rfl 51 i0 2 Tryz.underlying22 hi0 hz1 g off i c (by simp[Act.eval,Act.put]) A (n - j) (c - j) news (by simp[Act.eval,Act.put]) s1.out hsrc.out s2.out (by omega) s3.out ?_;rw[←hW.out])
 go_wp2
 go_ret
 exact⟨rfl,HPOST.out⟩
end Go.Proofs.YtnjpjieedgmffaaGreatDoor.rlv
namespace Go.Proofs.YtnjpjieedgmffaaGreatDoor.que
open Go.RowKit spn que sid
theorem zeroVR (w:World):(zeroValue 55).run Tryz.prog w=.ok zeroR w:=by kernel_rfl
set_option maxRecDepth 100000 in
set_option maxHeartbeats 4000000 in
theorem delete_own (w:World) (base g off n c i j:Nat) (xs:List Value) (ho:OwnM w base 55 5 (.slice (some ⟨g,off,none⟩) n c) n xs) (hij:i < j) (hj:j≤n) (h1x:∀u∈xs,u.oneCell'=true) :
  Calls Tryz.prog 109 #[.slice (some ⟨g,off,none⟩) n c,.int .i64 i,.int .i64 j] w fun e w'=>e=.returned (.slice (some ⟨g,off,none⟩) (i+(n - j)) c)∧OwnM w' base 55 5 (.slice (some ⟨g,off,none⟩) (i+(n - j)) c) (i+(n - j)) (xs.take (i * 5)++xs.drop (j * 5))∧w.grownBy w' (some g):=by
 obtain⟨hxl,hbg,⟨cur,hcur,hcs⟩,hnc,hcm,hrg,hth⟩:=own_range ho
 have hc63:c≤9223372036854775807:=by simpa [maxLen] using hcm
 obtain⟨i0,hi0,hz0,hz1,hz2⟩:=que.infoR'
 have hdl:(xs.drop (j * 5)).length=(n - j) * 5:=by rw[List.length_drop,hxl];omega
 have htl:(xs.take (i * 5)).length=i * 5:=by rw[List.length_take,hxl];omega
 have hx1:xs=xs.take (i * 5)++xs.drop (i * 5):=(List.take_append_drop _ _).symm
 have hx2:xs=xs.take (j * 5)++xs.drop (j * 5):=(List.take_append_drop _ _).symm
 have hr1:w.rangeAt g off (xs.take (i * 5)):=by rw[hx1] at hrg;exact range_left hrg
 have hr2:w.rangeAt g (off+j * 5) (xs.drop (j * 5)):=by
  rw[hx2] at hrg;have:=range_right hrg;rwa [List.length_take,hxl,Nat.min_eq_left (by omega)] at this
 have hthX:∀o k,o+k≤c * 5→w.there g (off+o) k:=fun o k hk q hq=>by rw[Nat.add_assoc];exact hth (o+q) (by omega)
 obtain⟨news,hnews⟩:∃news,news=xs.drop (j * 5):=⟨_,rfl⟩
 obtain⟨A,hA,hsrc⟩:∃A:Addr,(if c=j then some (⟨g,off,none⟩:Addr) else some ⟨g,off+j * 5,none⟩)=some A∧Hid (∀t u,news[t]?=some u→w.drew.cell? (A.add t)=some u):=by
  by_cases h:c=j
  ·refine⟨⟨g,off,none⟩,by simp[h],fun t u hu=>?_⟩
   have h0:news.length=0:=by rw[hnews,hdl];omega
   rw[List.length_eq_zero_iff.1 h0] at hu
   simp at hu
  ·refine⟨⟨g,off+j * 5,none⟩,by simp[h],fun t u hu=>?_⟩
   rw[Addr.add_lit]
   rw[hnews] at hu
   exact hr2 t u hu
 have s1:Hid (news.length=(n - j) * 5):=by show _=_;rw[hnews,hdl]
 have s2:Hid (∀u∈news,u.oneCell'=true):=fun u hu=>h1x u (List.mem_of_mem_drop (by rw[hnews] at hu;exact hu))
 have s3:Hid (∀t,t < news.length→(w.drew.cell? ⟨g,off+i * 5+t,none⟩).isSome=true∧w.drew.frozen? ⟨g,off+i * 5+t,none⟩=false):=fun t ht=>by
  have ht2:t < (n - j) * 5:=by rw[hnews,hdl] at ht;exact ht
  exact hthX (i * 5) ((n - j) * 5) (by omega) t ht2
 obtain⟨W1,hW1⟩:∃W1,W1=w.drew.setCells g (off+i * 5) news:=⟨_,rfl⟩
 have hth1:∀o k,o+k≤c * 5→W1.there g (off+o) k:=fun o k hk=>by rw[hW1];exact World.there_setCells ((World.there_drew _ _ _ _).2 (hthX o k hk)) _ _ _
 have hcl:∀ty,(Builtin.clear_ #[49] ty #[.slice (some ⟨g,off+(i+(n - j)) * 5,none⟩) (n - (i+(n - j))) (c - (i+(n - j)))]).run Tryz.prog W1=.ok (.tuple #[]) (W1.setCells g (off+(i+(n - j)) * 5) (Builtin.zeroCells zeroR.cells (n - (i+(n - j)))).toList):=
  fun ty=>run_clear_wide W1 _ _ ty zeroR 5 Tryz.underlying49 zeroVR rfl (by simp[zeroR,Value.cells,Value.oneCell']) g _ _ _ (by omega) (hth1 _ _ (by omega))
 have HPOST:Hid (OwnM (W1.setCells g (off+(i+(n - j)) * 5) (Builtin.zeroCells zeroR.cells (n - (i+(n - j)))).toList) base 55 5 (.slice (some ⟨g,off,none⟩) (i+(n - j)) c) (i+(n - j)) (xs.take (i * 5)++xs.drop (j * 5))∧w.grownBy (W1.setCells g (off+(i+(n - j)) * 5) (Builtin.zeroCells zeroR.cells (n - (i+(n - j)))).toList) (some g)):=by
  obtain⟨cur1,hb1,hs1⟩:=setCells_blk g 55 (0,0) news (off+i * 5) w.drew cur hcur
  rw[←hW1] at hb1
  obtain⟨cur2,hb2,hs2⟩:=setCells_blk g 55 (0,0) (Builtin.zeroCells zeroR.cells (n - (i+(n - j)))).toList (off+(i+(n - j)) * 5) W1 cur1 hb1
  refine⟨own_of ?_ hbg hb2 (by rw[hs2,hs1];exact hcs) (by omega) hcm ?_,?_⟩
  ·rw[List.length_append,htl,hdl];omega
  ·refine range_append ?_ ?_
   ·refine World.rangeAt_setCells_apart ?_ _ _ _ (.inr (.inl (by rw[htl];omega)))
    rw[hW1]
    exact World.rangeAt_setCells_apart ((World.rangeAt_drew _ _ _ _).2 hr1) _ _ _ (.inr (.inl (by rw[htl];omega)))
   ·rw[htl]
    refine World.rangeAt_setCells_apart ?_ _ _ _ (.inr (.inl (by rw[hdl];omega)))
    rw[hW1,hnews]
    exact World.rangeAt_setCells_same _ _ _ _ ((World.there_drew _ _ _ _).2 (hthX _ _ (by rw[hdl];omega)))
  ·rw[hW1]
   exact gr_trans (gr_trans (gr_drew _ _) (gr_setCells g _ _ _)) (gr_setCells g _ _ _)
 have hW:Hid (W1=w.drew.setCells g (off+i * 5) news):=hW1
 obtain⟨W2,hW2⟩:∃W2,W2=W1.setCells g (off+(i+(n - j)) * 5) (Builtin.zeroCells zeroR.cells (n - (i+(n - j)))).toList:=⟨_,rfl⟩
 rw[←hW2] at HPOST
 simp only[←hW2] at hcl
 clear hW2
 have hic:i≤c:=by omega
 have hjc:j≤c:=by omega
 have hne:¬((i:Int)=(j:Int)):=by omega
 have hne2:¬(i=j):=by omega
 clear hW1 ho hxl hcur hcs hrg hth hdl htl hx1 hx2 hr1 hr2 hthX hth1 hnews h1x hcm hbg hz0 hz2
 go_enter Tryz.func109,Tryz.ntmps109
 go_wp2_with fail
 go_region_law (refine step_append_room rfl (.tmp 22) (.tmp 25) 49 rfl 55 i0 5 Tryz.underlying49 hi0 hz1 g off i c (by simp[Act.eval,Act.put]) A (n - j) (c - j) news (by simp[Act.eval,Act.put]) s1.out hsrc.out s2.out (by omega) s3.out ?_;rw[←hW.out])
 go_wp2
 go_ret
 exact⟨rfl,HPOST.out⟩
end Go.Proofs.YtnjpjieedgmffaaGreatDoor.que
namespace Go.Proofs.YtnjpjieedgmffaaGreatDoor.sid
open Go.RowKit spn que Go.Maps
theorem qflat_take (zs:List R) (i:Nat):flat (zs.take i)=(flat zs).take (i * 5):=by
 induction zs generalizing i with
 | nil=>simp[flat]
 | cons r t ih=>
  cases i with
  | zero=>simp[flat]
  | succ i=>rw[List.take_succ_cons,flat_cons,flat_cons,ih,show (i+1) * 5=(rV r).length+i * 5 by show _=5+i * 5;omega,List.take_length_add_append]
theorem qflat_drop (zs:List R) (i:Nat):flat (zs.drop i)=(flat zs).drop (i * 5):=by
 induction zs generalizing i with
 | nil=>simp[flat]
 | cons r t ih=>
  cases i with
  | zero=>simp
  | succ i=>rw[List.drop_succ_cons,flat_cons,ih,show (i+1) * 5=(rV r).length+i * 5 by show _=5+i * 5;omega,List.drop_length_add_append]
theorem DeepT.delete {w w' : World}{base:Nat}{v v' : Value}{a:List RP}{x:RP}{b:List RP}(h:Deep w base v (a++x::b)) (ho:rlv.OwnQ w' base v' ((a++b).map (·.1))) (hg:w.grownBy w' v.ownBlock) (hv:v'.ownBlock=v.ownBlock):Deep w' base v' (a++b):=by
 have hm:∀y∈a++b,y∈a++x::b:=fun y hy=>by
  rcases List.mem_append.1 hy with hy|hy <;> simp[hy]
 refine⟨by rw[List.append_nil];exact ho,fun y hy=>kept_of (h.each y (hm y hy)) hg (fun z hz=>h.far y (hm y hy) z hz),?_,fun y hy z hz=>by rw[hv];exact h.far y (hm y hy) z hz⟩
 obtain⟨p1,p2,p3⟩:=List.pairwise_append.1 h.apart
 exact List.pairwise_append.2 ⟨p1,(List.pairwise_cons.1 p2).2,fun y hy z hz=>p3 y hy z (by simp[hz])⟩
def dropE (s:Int) (ls:List L) (id:Int):List L:=if findE s ls id=0 then dropL ls (findP s ls id).1.toNat (findP s ls id).2.toNat else []
def dropRest (s:Int) (ls:List L) (id:Int):R:=if findE s ls id=0 then ls[(findP s ls id).1.toNat]!.rests[(findP s ls id).2.toNat]! else ⟨0,0,0,0,0⟩
def dropPrice (s:Int) (ls:List L) (id:Int):Int:=if findE s ls id=0 then ls[(findP s ls id).1.toNat]!.price else 0
def DropPost (s:Int) (ls:List L) (id:Int) (w:World) (x:Ending) (w' : World):Prop:=
 Below w.heap.size w w'∧∃v',x=.returned (.tuple #[v',.agg (rV (dropRest s ls id)).toArray,.int .i64 (dropPrice s ls id),errV (findE s ls id)])∧DL w' w.heap.size v' (dropE s ls id)
theorem drop_err (s:Int) (vq:Option Addr) (vm vc:Nat) (ls:List L) (id:Int) (w:World) (h:LS w (.slice vq vm vc) ls) (hid:(Lit.int .i64 id).wf=true) (h0:¬findE s ls id=0) :
  Calls Tryz.prog 93 #[.int .i64 s,.slice vq vm vc,.int .i64 id] w fun x w'=>DropPost s ls id w x w':=by
 have HC:=fun W (hW:Below w.heap.size w W)=>find_any s _ ls id W (h.below hW) hid
 have hf:findV s ls id=.tuple #[.int .i64 0,.int .i64 0,.iface 70 (.int .i64 (findE s ls id))]:=by
  unfold findV findP;rw[if_neg h0,errV_of h0]
 rw[hf] at HC
 have HP:Hid (∀W,Below w.heap.size w W→DropPost s ls id w (.returned (.tuple #[.slice none 0 0,.agg #[.int .i64 0,.int .i64 0,.int .i64 0,.int .i64 0,.int .i64 0],.int .i64 0,.iface 70 (.int .i64 (findE s ls id))])) W):=fun W hW=>by
  refine⟨hW,.slice none 0 0,?_,?_⟩
  ·unfold dropRest dropPrice;rw[if_neg h0,if_neg h0,errV_of h0];rfl
  ·unfold dropE;rw[if_neg h0];exact dl_nil _ _
 generalize DropPost s ls id w=POST at *
 generalize findE s ls id=k at *
 clear h hid h0 hf
 go_enter Tryz.func93,Tryz.ntmps93
 go_wp2_with fail
 refine(HC _ ((bzR _ _).alloc (nzR _) _)).mono ?_
 rintro x w1 ⟨rfl,hb1⟩
 have hB:Below w.heap.size w w1:=((bzR _ _).alloc (nzR _) _).trans (hb1.mono (by simp))
 have hR1:w1.heap[w.heap.size]?=some (.cells #[.int .i64 0,.int .i64 0,.int .i64 0,.int .i64 0,.int .i64 0] 55 (0,0)):=by
  rw[hb1.block w.heap.size (by simp)]
  exact heap_alloc_new w _
 clear hb1 HC
 obtain⟨c0,c1,c2,c3,c4,hf⟩:=rowFive hR1
 have f0:=hf 0
 have f1:=hf 1
 have f2:=hf 2
 have f3:=hf 3
 have f4:=hf 4
 clear hf
 have HX:=setFive hR1 (.int .i64 0) (.int .i64 0) (.int .i64 0) (.int .i64 0) (.int .i64 0)
 have HBX:Below w.heap.size w (((((w1.setCell ⟨w.heap.size,0,none⟩ (.int .i64 0)).setCell ⟨w.heap.size,1,none⟩ (.int .i64 0)).setCell ⟨w.heap.size,2,none⟩ (.int .i64 0)).setCell ⟨w.heap.size,3,none⟩ (.int .i64 0)).setCell ⟨w.heap.size,4,none⟩ (.int .i64 0)):=((((hB.setCell (nzR _) _).setCell (nzR _) _).setCell (nzR _) _).setCell (nzR _) _).setCell (nzR _) _
 go_wp2_with fail
 generalize (((((w1.setCell ⟨w.heap.size,0,none⟩ (.int .i64 0)).setCell ⟨w.heap.size,1,none⟩ (.int .i64 0)).setCell ⟨w.heap.size,2,none⟩ (.int .i64 0)).setCell ⟨w.heap.size,3,none⟩ (.int .i64 0)).setCell ⟨w.heap.size,4,none⟩ (.int .i64 0))=V at *
 obtain⟨d0,d1,d2,d3,d4,-⟩:=rowFive HX
 clear HX
 exact bodyPost_ret (v:=.tuple #[.slice none 0 0,.agg #[.int .i64 0,.int .i64 0,.int .i64 0,.int .i64 0,.int .i64 0],.int .i64 0,.iface 70 (.int .i64 k)]) (by simp[results,Tryz.results93,go_sem,d0,d1,d2,d3,d4]) rfl (HP.out V HBX)
end Go.Proofs.YtnjpjieedgmffaaGreatDoor.sid
namespace Go.Proofs.YtnjpjieedgmffaaGreatDoor.sid
open Go.RowKit spn que Go.Maps
theorem wrapSucc (i:Nat) (h:i≤1000):wrap64 ((i:Int)+1)=(i:Int)+1∧IntKind.i64.wrap ((i:Int)+1)=(i:Int)+1:=by
 have i2:wrap64 ((i:Int)+1)=(i:Int)+1:=by unfold wrap64;omega
 exact⟨i2,(IntWalk.i64_left _).trans i2⟩
set_option maxRecDepth 100000 in
set_option maxHeartbeats 4000000 in
theorem drop_good (s:Int) (b o c n:Nat) (ls:List L) (id:Int) (i k:Nat) (p:Int) (zs:List R) (r1 r2 r3 r4 r5:Int) (w:World) (hn:ls.length=n) (hb:b < w.heap.size) (hc:n≤c) (hm:c≤9223372036854775807) (hl:LL w b o ls) (hid:(Lit.int .i64 id).wf=true) (h0:schk s ls=0)
  (hfv:findV s ls id=.tuple #[.int .i64 i,.int .i64 k,.nilIface]) (hi:i < n) (he:ls[i]! = ⟨p,zs⟩) (hk:k < zs.length) (hr:zs[k]! = ⟨r1,r2,r3,r4,r5⟩) (POST:Ending→World→Prop)
  (hpost:∀W v3,Below w.heap.size w W→DL W w.heap.size v3 (dropL ls i k)→POST (.returned (.tuple #[v3,.agg #[.int .i64 r1,.int .i64 r2,.int .i64 r3,.int .i64 r4,.int .i64 r5],.int .i64 p,.nilIface])) W) :
  Calls Tryz.prog 93 #[.int .i64 s,.slice (some ⟨b,o,none⟩) n c,.int .i64 id] w fun x w'=>POST x w':=by
 have hLS:LS w (.slice (some ⟨b,o,none⟩) n c) ls:=.inr ⟨b,o,c,by rw[hn],by rw[hn];exact hc,hm,hb,hl⟩
 obtain⟨z1,z2,z3,z4⟩:=schk_zero h0
 have hlen:=len_cnt (sgo_each z2)
 have HFI:=fun W (hW:Below w.heap.size w W)=>find_any s _ ls id W (hLS.below hW) hid
 rw[hfv] at HFI
 have HFR:Hid (∀W,Below w.heap.size w W→Calls Tryz.prog 72 #[.slice (some ⟨b,o,none⟩) n c] W fun e w'=>FreshPost W ls e w'):=fun W hW=>fresh_any _ ls W (hLS.below hW) (by omega) (fun l hl=>by have:=rests_le hl;omega) (fun l hl=>(lchk_zero (sgo_each z2 l hl)).2.1)
 have hn60:n≤60:=by omega
 have hil:i < ls.length:=by omega
 obtain⟨q,rc,l0,l1,hsl⟩:=hl.at hil he
 obtain⟨rb,ro,hq,-,hrb,hlr⟩:=sl_some hsl hk
 subst hq
 obtain⟨v0,v1,v2,v3,v4⟩:=lies_at hlr hk hr
 have hm60:zs.length≤60:=by
  have h1:ls[i]!∈ls:=by rw[getE _ _ hil];exact List.getElem_mem hil
  have:=rests_le h1
  rw[he] at this
  simp only[] at this
  omega
 have hrc:zs.length≤rc∧rc≤9223372036854775807:=by
  rcases hsl.sl (fun e=>by rw[e] at hk;simp at hk) with ⟨e,-⟩|⟨b',o',c',e,h1,h2,-⟩
  ·cases e
  ·cases e;exact⟨h1,h2⟩
 have HLS:Hid (ls.length=n∧ls[i]! = ⟨p,zs⟩∧i < ls.length):=⟨hn,he,hil⟩
 have HPOST:Hid (∀W v3,Below w.heap.size w W→DL W w.heap.size v3 (dropL ls i k)→POST (.returned (.tuple #[v3,.agg #[.int .i64 r1,.int .i64 r2,.int .i64 r3,.int .i64 r4,.int .i64 r5],.int .i64 p,.nilIface])) W):=hpost
 obtain⟨hrc1,hrc2⟩:=hrc
 generalize hmm:zs.length=m at *
 have HM:Hid (zs.length=m):=hmm
 have SO:Hid (∀W,Below w.heap.size w W→(Below w.heap.size w W∧W.cell? ⟨b,o+i * 2,none⟩=some (.int .i64 p)∧W.cell? ⟨b,o+i * 2+1,none⟩=some (.slice (some ⟨rb,ro,none⟩) m rc)∧W.cell? ⟨rb,ro+k * 5,none⟩=some (.int .i64 r1)∧W.cell? ⟨rb,ro+k * 5+1,none⟩=some (.int .i64 r2)∧W.cell? ⟨rb,ro+k * 5+2,none⟩=some (.int .i64 r3)∧W.cell? ⟨rb,ro+k * 5+3,none⟩=some (.int .i64 r4)∧W.cell? ⟨rb,ro+k * 5+4,none⟩=some (.int .i64 r5))):=fun W hW=>⟨hW,keeps hW l0,keeps hW l1,keeps hW v0,keeps hW v1,keeps hW v2,keeps hW v3,keeps hW v4⟩
 clear hmm hpost hLS z1 z2 z3 z4 hlen hsl hlr hl h0 hfv he hr hn hil v0 v1 v2 v3 v4 l0 l1 hid
 have i0:¬((i:Int) < 0):=by omega
 have i1:(i:Int) < (n:Int):=by omega
 have i4:(0:Int)≤(i:Int):=by omega
 have k0:¬((k:Int) < 0):=by omega
 have k1:(k:Int) < (m:Int):=by omega
 have k4:(0:Int)≤(k:Int):=by omega
 have HI2:Hid (wrap64 ((i:Int)+1)=(i:Int)+1∧IntKind.i64.wrap ((i:Int)+1)=(i:Int)+1):=wrapSucc i (by omega)
 have HK2:Hid (wrap64 ((k:Int)+1)=(k:Int)+1∧IntKind.i64.wrap ((k:Int)+1)=(k:Int)+1):=wrapSucc k (by omega)
 go_enter Tryz.func93,Tryz.ntmps93
 go_wp2_with fail
 refine(HFI _ ((bzR _ _).alloc (nzR _) _)).mono ?_
 rintro x w1 ⟨rfl,hb1⟩
 have HB1:Hid (Below w.heap.size w w1):=((bzR _ _).alloc (nzR _) _).trans (hb1.mono (by simp))
 have hR1:w1.heap[w.heap.size]?=some (.cells #[.int .i64 0,.int .i64 0,.int .i64 0,.int .i64 0,.int .i64 0] 55 (0,0)):=by
  rw[hb1.block w.heap.size (by simp)]
  exact heap_alloc_new w _
 have hz1:w.heap.size < w1.heap.size:=by have:=hb1.size;simp at this;omega
 clear hb1 HFI
 go_wp2_with fail
 refine(HFR.out w1 HB1.out).mono ?_
 rintro x w2 ⟨v2,ps,rfl,hps,hD,hb2⟩
 have HB2:Hid (Below w.heap.size w w2):=HB1.out.trans (hb2.mono HB1.out.size)
 have hR2:w2.heap[w.heap.size]?=some (.cells #[.int .i64 0,.int .i64 0,.int .i64 0,.int .i64 0,.int .i64 0] 55 (0,0)):=by
  rw[hb2.block w.heap.size hz1];exact hR1
 clear HFR hR1
 obtain⟨hn,he,hil⟩:=HLS.out
 have hpl:ps.length=n:=by rw[←hn,←hps,List.length_map]
 have hip:i < ps.length:=by omega
 obtain⟨⟨⟨xp,xq,xn,xc⟩,xz⟩,hx⟩:∃x,x=ps[i]:=⟨_,rfl⟩
 have hxl:toL (⟨xp,xq,xn,xc⟩,xz)=⟨p,zs⟩:=by
  rw[hx,←he,getE _ _ hil]
  simp only[←hps,List.getElem_map]
 have hxp:p=xp:=(congrArg L.price hxl).symm
 have hxz:zs=xz:=(congrArg L.rests hxl).symm
 subst hxp
 subst hxz
 have hsp:ps=ps.take i++(⟨p,xq,xn,xc⟩,zs)::ps.drop (i+1):=by
  rw[hx,←List.drop_eq_getElem_cons hip,List.take_append_drop]
 obtain⟨a,ha⟩:∃a,a=ps.take i:=⟨_,rfl⟩
 obtain⟨t,ht⟩:∃t,t=ps.drop (i+1):=⟨_,rfl⟩
 rw[←ha,←ht] at hsp
 have hai:a.length=i:=by rw[ha,List.length_take];omega
 rw[hsp] at hD
 have hex:=hD.each (⟨p,xq,xn,xc⟩,zs) (by simp)
 have hxn:m=xn:=by
  obtain⟨q',c',e⟩:=OwnM.form hex
  have e' : Value.slice xq xn xc=.slice q' zs.length c':=e
  simp at e'
  rw[e'.2.1,HM.out]
 subst hxn
 have ho5:=hD.own
 rw[List.append_nil,List.map_append,List.map_cons] at ho5
 have hnl:(a.map (·.1)++(⟨p,xq,m,xc⟩:rlv.RL)::t.map (·.1)).length=n:=by
  rw[←hpl,hsp];simp
 have HDL:Hid (dropL ls i k=if m=1 then (a++t).map toL else a.map toL++⟨p,zs.eraseIdx k⟩::t.map toL):=by
  show _=_
  have e1:ls=a.map toL++⟨p,zs⟩::t.map toL:=by rw[←hps,hsp];simp[toL]
  unfold dropL
  rw[he]
  simp only[]
  rw[HM.out]
  rw[e1,←show (a.map toL).length=i by rw[List.length_map,hai],erase_mid,set_mid]
  split
  ·simp
  ·rfl
 rcases ho5.2 with ⟨-,hz⟩|⟨g,off,cap,cur,e5,-,-,hcap,hcm,-,-⟩
 ·simp at hz
 ·rw[hnl] at e5 hcap
  subst e5
  have hcap2:cap≤9223372036854775807:=by simpa [maxLen] using hcm
  obtain⟨-,-,c1,hfr,hgb,hgs⟩:=ownr_at ho5
  rw[List.length_map,hai] at c1
  simp only[] at c1
  have f1:=hfr (off+i * 2+1)
  have hwg:w.heap.size≠g:=by omega
  have HDD:Hid (Deep w2 w1.heap.size (.slice (some ⟨g,off,none⟩) n cap) (a++(⟨p,xq,m,xc⟩,zs)::t)):=hD
  have HAI:Hid (a.length=i):=hai
  have HEX:Hid (OwnM w2 w1.heap.size 55 5 (.slice xq m xc) m (flat zs)):=by have h:OwnM w2 w1.heap.size 55 5 (.slice xq m xc) zs.length (flat zs):=hex;rwa [HM.out] at h
  have HO5:Hid (OwnM w2 w1.heap.size 51 2 (.slice (some ⟨g,off,none⟩) n cap) n (rlv.flat (a.map (·.1)++(⟨p,xq,m,xc⟩:rlv.RL)::t.map (·.1)))):=by have h:OwnM w2 w1.heap.size 51 2 _ _ _:=ho5;rwa [hnl] at h
  have HB2b:Hid (Below w1.heap.size w1 w2):=hb2
  clear hn he hil hpl hip hx hxl hsp ha ht hai hex ho5 hnl hcm hD hfr hps HLS hb2
  by_cases h1:m=1
  ·have HDL1:Hid (dropL ls i k=(a++t).map toL):=by show _=_;rw[HDL.out,if_pos h1]
   have hdel:=rlv.delete_own w2 w1.heap.size g off n cap i (i+1) _ HO5.out (by omega) (by omega) (rlv.flat_one _)
   rw[show (((i+1:Nat)):Int)=(i:Int)+1 by omega] at hdel
   have h11:((m:Int) == 1)=true:=by simp;omega
   have h12:(m:Int)=1:=by omega
   obtain⟨i2,i3⟩:=HI2.out
   go_wp2_with fail
   refine hdel.mono ?_
   clear i2 i3 h11 h12 h1
   rintro x W3 ⟨rfl,hO3,hg3⟩
   have HB3:Hid (Below w.heap.size w W3):=HB2.out.grown hg3 HB2.out.size (fun k hk=>by cases hk;omega)
   have hR3:W3.heap[w.heap.size]?=some (.cells #[.int .i64 0,.int .i64 0,.int .i64 0,.int .i64 0,.int .i64 0] 55 (0,0)):=by
    rw[hg3.block w.heap.size (by have:=HB2b.out.size;omega) (fun e=>by cases e;exact hwg rfl)];exact hR2
   have HL3:Hid (∀W,W3.grownBy W (some w.heap.size)→DL W w.heap.size (.slice (some ⟨g,off,none⟩) (i+(n - (i+1))) cap) (dropL ls i k)):=fun W hW=>by
    rw[HDL1.out]
    have ho:rlv.OwnQ W3 w1.heap.size (.slice (some ⟨g,off,none⟩) (i+(n - (i+1))) cap) ((a++t).map (·.1)):=by
     have e1:rlv.flat ((a++t).map (·.1))=(rlv.flat (a.map (·.1)++(⟨p,xq,m,xc⟩:rlv.RL)::t.map (·.1))).take (i * 2)++(rlv.flat (a.map (·.1)++(⟨p,xq,m,xc⟩:rlv.RL)::t.map (·.1))).drop ((i+1) * 2):=by
      rw[←flat_take,←flat_drop,←rlv.flat_append,List.take_left' (by rw[List.length_map,HAI.out]),List.map_append]
      congr 2
      rw[show i+1=(a.map (·.1)).length+1 by rw[List.length_map,HAI.out],List.drop_length_add_append]
      rfl
     have e2:((a++t).map (·.1)).length=i+(n - (i+1)):=by
      have h1:=HO5.out.1
      rw[rlv.flat_len] at h1
      simp at h1 ⊢
      have:=HAI.out
      omega
     show OwnM _ _ _ _ _ _ _
     rw[e1,e2]
     exact hO3
    have hd:=DeepT.delete HDD.out ho hg3 rfl
    exact⟨_,rfl,(hd.other hW hz1).mono HB1.out.size⟩
   clear hdel hO3 hg3 HDL HDL1 HDD HEX HO5 c1 f1 hR2 HB2 HB2b
   have hB3:=HB3.out
   obtain⟨e0,e1,e2,e3,e4,hfr⟩:=rowFive hR3
   have f0:=hfr 0
   have f1:=hfr 1
   have f2:=hfr 2
   have f3:=hfr 3
   have f4:=hfr 4
   have HX:=setFive hR3 (.int .i64 r1) (.int .i64 r2) (.int .i64 r3) (.int .i64 r4) (.int .i64 r5)
   have HBX:Below w.heap.size w (((((W3.setCell ⟨w.heap.size,0,none⟩ (.int .i64 r1)).setCell ⟨w.heap.size,1,none⟩ (.int .i64 r2)).setCell ⟨w.heap.size,2,none⟩ (.int .i64 r3)).setCell ⟨w.heap.size,3,none⟩ (.int .i64 r4)).setCell ⟨w.heap.size,4,none⟩ (.int .i64 r5)):=((((hB3.setCell (nzR _) _).setCell (nzR _) _).setCell (nzR _) _).setCell (nzR _) _).setCell (nzR _) _
   have HPX:=HPOST.out _ _ HBX (HL3.out _ (grFive W3 w.heap.size (.int .i64 r1) (.int .i64 r2) (.int .i64 r3) (.int .i64 r4) (.int .i64 r5)))
   have HPX1:=HPOST.out _ _ HBX.drew (HL3.out _ (gr_trans (grFive W3 w.heap.size (.int .i64 r1) (.int .i64 r2) (.int .i64 r3) (.int .i64 r4) (.int .i64 r5)) (gr_drew _ _)))
   have HHX:Hid ((((((W3.setCell ⟨w.heap.size,0,none⟩ (.int .i64 r1)).setCell ⟨w.heap.size,1,none⟩ (.int .i64 r2)).setCell ⟨w.heap.size,2,none⟩ (.int .i64 r3)).setCell ⟨w.heap.size,3,none⟩ (.int .i64 r4)).setCell ⟨w.heap.size,4,none⟩ (.int .i64 r5)).heap[w.heap.size]?=some (.cells #[.int .i64 r1,.int .i64 r2,.int .i64 r3,.int .i64 r4,.int .i64 r5] 55 (0,0))):=HX
   clear hfr HPOST HL3 HBX HX hR3
   go_upto_region 8 with fail
   go_region_held3 (fun W=>Below w.heap.size w W∧W.cell? ⟨b,o+i * 2,none⟩=some (.int .i64 p)∧W.cell? ⟨b,o+i * 2+1,none⟩=some (.slice (some ⟨rb,ro,none⟩) m rc)∧W.cell? ⟨rb,ro+k * 5,none⟩=some (.int .i64 r1)∧W.cell? ⟨rb,ro+k * 5+1,none⟩=some (.int .i64 r2)∧W.cell? ⟨rb,ro+k * 5+2,none⟩=some (.int .i64 r3)∧W.cell? ⟨rb,ro+k * 5+3,none⟩=some (.int .i64 r4)∧W.cell? ⟨rb,ro+k * 5+4,none⟩=some (.int .i64 r5))
    ((refine SO.out _ ?_;(repeat' (first|with_reducible assumption|with_reducible refine bal ?_ _|with_reducible refine Below.setCell ?_ ?_ _|with_reducible refine Below.drew ?_|with_reducible exact bzR _ _|with_reducible exact nzR _|with_reducible exact Below.size (by with_reducible assumption)|with_reducible refine Nat.le_succ_of_le ?_))))
    (fail)
   go_wp2_with fail
   generalize (((((W3.setCell ⟨w.heap.size,0,none⟩ (.int .i64 r1)).setCell ⟨w.heap.size,1,none⟩ (.int .i64 r2)).setCell ⟨w.heap.size,2,none⟩ (.int .i64 r3)).setCell ⟨w.heap.size,3,none⟩ (.int .i64 r4)).setCell ⟨w.heap.size,4,none⟩ (.int .i64 r5))=V at *
   obtain⟨y0,y1,y2,y3,y4,-⟩:=rowFive HHX.out
   first|exact bodyPost_ret (v:=.tuple #[.slice (some ⟨g,off,none⟩) (i+(n - (i+1))) cap,.agg #[.int .i64 r1,.int .i64 r2,.int .i64 r3,.int .i64 r4,.int .i64 r5],.int .i64 p,.nilIface]) (by simp[results,Tryz.results93,go_sem,y0,y1,y2,y3,y4]) rfl HPX1|exact bodyPost_ret (v:=.tuple #[.slice (some ⟨g,off,none⟩) (i+(n - (i+1))) cap,.agg #[.int .i64 r1,.int .i64 r2,.int .i64 r3,.int .i64 r4,.int .i64 r5],.int .i64 p,.nilIface]) (by simp[results,Tryz.results93,go_sem,y0,y1,y2,y3,y4]) rfl HPX
  ·have HDL1:Hid (dropL ls i k=a.map toL++⟨p,zs.eraseIdx k⟩::t.map toL):=by show _=_;rw[HDL.out,if_neg h1]
   have h12:¬((m:Int)=1):=by omega
   have h11:((m:Int) == 1)=false:=by simp;omega
   rcases HEX.out.2 with ⟨e,hz⟩|⟨xg,xo,xcap,xcur,e,hxb,hxg,hxcap,hxcm,-,-⟩
   ·omega
   ·cases e
    have hxc2:xc≤9223372036854775807:=by simpa [maxLen] using hxcm
    have hdel:=que.delete_own w2 w1.heap.size xg xo m xc k (k+1) _ HEX.out (by omega) (by omega) (flat_one _)
    rw[show (((k+1:Nat)):Int)=(k:Int)+1 by omega] at hdel
    have hxgs:xg < w2.heap.size:=(gzE.1 hxg).1
    have hfar:xg≠g:=fun e=>HDD.out.far (⟨p,some ⟨xg,xo,none⟩,m,xc⟩,zs) (by simp) xg rfl (by rw[e];rfl)
    clear hxcm hxg
    obtain⟨k2,k3⟩:=HK2.out
    go_wp2_with fail
    refine hdel.mono ?_
    clear k2 k3
    rintro x w3 ⟨rfl,hO3,hg3⟩
    have hwg3:w.heap.size≠xg:=by omega
    have d1:w3.cell? ⟨g,off+i * 2+1,none⟩=some (.slice (some ⟨xg,xo,none⟩) m xc):=by
     rw[hg3.cell_far ⟨g,off+i * 2+1,none⟩ hgs (fun e=>hfar (by cases e;rfl))];exact c1
    have d2:w3.frozen? ⟨g,off+i * 2+1,none⟩=false:=by
     rw[World.frozen?_of_block (hg3.block g hgs (fun e=>hfar (by cases e;rfl)))];exact f1
    have hgs3:g < w3.heap.size:=Nat.lt_of_lt_of_le hgs hg3.size
    have hB3a:Below w.heap.size w w3:=HB2.out.grown hg3 HB2.out.size (fun k hk=>by cases hk;omega)
    have HB3:Hid (Below w.heap.size w (w3.setCell ⟨g,off+i * 2+1,none⟩ (.slice (some ⟨xg,xo,none⟩) (k+(m - (k+1))) xc))):=hB3a.setCell (by show _≤g;omega) _
    have hR3:(w3.setCell ⟨g,off+i * 2+1,none⟩ (.slice (some ⟨xg,xo,none⟩) (k+(m - (k+1))) xc)).heap[w.heap.size]?=some (.cells #[.int .i64 0,.int .i64 0,.int .i64 0,.int .i64 0,.int .i64 0] 55 (0,0)):=by
     rw[heap_setCell_other _ _ _ _ hwg,hg3.block w.heap.size (by have:=HB2b.out.size;omega) (fun e=>by cases e;exact hwg3 rfl)];exact hR2
    have HL3:Hid (∀W,(w3.setCell ⟨g,off+i * 2+1,none⟩ (.slice (some ⟨xg,xo,none⟩) (k+(m - (k+1))) xc)).grownBy W (some w.heap.size)→DL W w.heap.size (.slice (some ⟨g,off,none⟩) n cap) (dropL ls i k)):=fun W hW=>by
     rw[HDL1.out]
     have ho:OwnQ w3 w1.heap.size (.slice (some ⟨xg,xo,none⟩) (k+(m - (k+1))) xc) (zs.eraseIdx k):=by
      have e1:flat (zs.eraseIdx k)=(flat zs).take (k * 5)++(flat zs).drop ((k+1) * 5):=by
       rw[List.eraseIdx_eq_take_drop_succ,flat_append,qflat_take,qflat_drop]
      have e2:(zs.eraseIdx k).length=k+(m - (k+1)):=by
       rw[List.length_eraseIdx_of_lt (by rw[HM.out];exact hk),HM.out];omega
      show OwnM _ _ _ _ _ _ _
      rw[e1,e2]
      exact hO3
     have hd:=DeepT.swap HDD.out hg3 ho (.inl rfl)
     rw[HAI.out] at hd
     rw[show a.map toL++(⟨p,zs.eraseIdx k⟩:L)::t.map toL=(a++(((⟨p,some ⟨xg,xo,none⟩,k+(m - (k+1)),xc⟩:rlv.RL),zs.eraseIdx k):RP)::t).map toL by simp[toL]]
     exact⟨_,rfl,(hd.other hW hz1).mono HB1.out.size⟩
    clear hdel hO3 HDL HDL1 HDD HEX HO5 c1 f1 hR2 HB2 HB2b hB3a
    go_upto_region 8 with fail
    generalize w3.setCell ⟨g,off+i * 2+1,none⟩ (.slice (some ⟨xg,xo,none⟩) (k+(m - (k+1))) xc)=W3 at *
    clear hg3 d1 d2 hgs3
    have hB3:=HB3.out
    obtain⟨e0,e1,e2,e3,e4,hfr⟩:=rowFive hR3
    have f0:=hfr 0
    have f1:=hfr 1
    have f2:=hfr 2
    have f3:=hfr 3
    have f4:=hfr 4
    have HX:=setFive hR3 (.int .i64 r1) (.int .i64 r2) (.int .i64 r3) (.int .i64 r4) (.int .i64 r5)
    have HBX:Below w.heap.size w (((((W3.setCell ⟨w.heap.size,0,none⟩ (.int .i64 r1)).setCell ⟨w.heap.size,1,none⟩ (.int .i64 r2)).setCell ⟨w.heap.size,2,none⟩ (.int .i64 r3)).setCell ⟨w.heap.size,3,none⟩ (.int .i64 r4)).setCell ⟨w.heap.size,4,none⟩ (.int .i64 r5)):=((((hB3.setCell (nzR _) _).setCell (nzR _) _).setCell (nzR _) _).setCell (nzR _) _).setCell (nzR _) _
    have HPX:=HPOST.out _ _ HBX (HL3.out _ (grFive W3 w.heap.size (.int .i64 r1) (.int .i64 r2) (.int .i64 r3) (.int .i64 r4) (.int .i64 r5)))
    have HPX1:=HPOST.out _ _ HBX.drew (HL3.out _ (gr_trans (grFive W3 w.heap.size (.int .i64 r1) (.int .i64 r2) (.int .i64 r3) (.int .i64 r4) (.int .i64 r5)) (gr_drew _ _)))
    have HHX:Hid ((((((W3.setCell ⟨w.heap.size,0,none⟩ (.int .i64 r1)).setCell ⟨w.heap.size,1,none⟩ (.int .i64 r2)).setCell ⟨w.heap.size,2,none⟩ (.int .i64 r3)).setCell ⟨w.heap.size,3,none⟩ (.int .i64 r4)).setCell ⟨w.heap.size,4,none⟩ (.int .i64 r5)).heap[w.heap.size]?=some (.cells #[.int .i64 r1,.int .i64 r2,.int .i64 r3,.int .i64 r4,.int .i64 r5] 55 (0,0))):=HX
    clear hfr HPOST HL3 HBX HX hR3
    go_region_held3 (fun W=>Below w.heap.size w W∧W.cell? ⟨b,o+i * 2,none⟩=some (.int .i64 p)∧W.cell? ⟨b,o+i * 2+1,none⟩=some (.slice (some ⟨rb,ro,none⟩) m rc)∧W.cell? ⟨rb,ro+k * 5,none⟩=some (.int .i64 r1)∧W.cell? ⟨rb,ro+k * 5+1,none⟩=some (.int .i64 r2)∧W.cell? ⟨rb,ro+k * 5+2,none⟩=some (.int .i64 r3)∧W.cell? ⟨rb,ro+k * 5+3,none⟩=some (.int .i64 r4)∧W.cell? ⟨rb,ro+k * 5+4,none⟩=some (.int .i64 r5))
     ((refine SO.out _ ?_;(repeat' (first|with_reducible assumption|with_reducible refine bal ?_ _|with_reducible refine Below.setCell ?_ ?_ _|with_reducible refine Below.drew ?_|with_reducible exact bzR _ _|with_reducible exact nzR _|with_reducible exact Below.size (by with_reducible assumption)|with_reducible refine Nat.le_succ_of_le ?_))))
     (fail)
    go_wp2_with fail
    generalize (((((W3.setCell ⟨w.heap.size,0,none⟩ (.int .i64 r1)).setCell ⟨w.heap.size,1,none⟩ (.int .i64 r2)).setCell ⟨w.heap.size,2,none⟩ (.int .i64 r3)).setCell ⟨w.heap.size,3,none⟩ (.int .i64 r4)).setCell ⟨w.heap.size,4,none⟩ (.int .i64 r5))=V at *
    obtain⟨y0,y1,y2,y3,y4,-⟩:=rowFive HHX.out
    first|exact bodyPost_ret (v:=.tuple #[.slice (some ⟨g,off,none⟩) n cap,.agg #[.int .i64 r1,.int .i64 r2,.int .i64 r3,.int .i64 r4,.int .i64 r5],.int .i64 p,.nilIface]) (by simp[results,Tryz.results93,go_sem,y0,y1,y2,y3,y4]) rfl HPX1|exact bodyPost_ret (v:=.tuple #[.slice (some ⟨g,off,none⟩) n cap,.agg #[.int .i64 r1,.int .i64 r2,.int .i64 r3,.int .i64 r4,.int .i64 r5],.int .i64 p,.nilIface]) (by simp[results,Tryz.results93,go_sem,y0,y1,y2,y3,y4]) rfl HPX
end Go.Proofs.YtnjpjieedgmffaaGreatDoor.sid
namespace Go.Proofs.YtnjpjieedgmffaaGreatDoor.sid
open Go.RowKit spn que Go.Maps
theorem drop_any (s:Int) (v:Value) (ls:List L) (id:Int) (w:World) (h:LS w v ls) (hid:(Lit.int .i64 id).wf=true) :
  Calls Tryz.prog 93 #[.int .i64 s,v,.int .i64 id] w fun x w'=>DropPost s ls id w x w':=by
 by_cases h0:findE s ls id=0
 ·obtain⟨hs,i,k,hi,hk,e1,e2⟩:=find_spot h0
  have hfv:findV s ls id=.tuple #[.int .i64 i,.int .i64 k,.nilIface]:=by unfold findV;rw[e2,h0,errV_zero]
  rcases h with ⟨rfl,rfl⟩|⟨b,o,c,rfl,h2,h3,h4,h5⟩
  ·simp at hi
  ·obtain⟨l,hl⟩:∃l,ls[i]! = l:=⟨_,rfl⟩
   obtain⟨p,zs⟩:=l
   have hle:ls[i]=⟨p,zs⟩:=by rw[←hl,getE _ _ hi]
   have hk2:k < zs.length:=by rw[hle] at hk;exact hk
   obtain⟨r,hr⟩:∃r,zs[k]! = r:=⟨_,rfl⟩
   obtain⟨r1,r2,r3,r4,r5⟩:=r
   refine drop_good s b o c ls.length ls id i k p zs r1 r2 r3 r4 r5 w rfl h4 h2 h3 h5 hid hs hfv hi hl hk2 hr (DropPost s ls id w) (fun W v3 hW hL=>⟨hW,v3,?_,?_⟩)
   ·unfold dropRest dropPrice
    rw[if_pos h0,if_pos h0,e2,h0,errV_zero]
    simp only[Int.toNat_natCast]
    rw[hl]
    simp only[]
    rw[hr]
    rfl
   ·unfold dropE
    rw[if_pos h0,e2]
    simp only[Int.toNat_natCast]
    exact hL
 ·obtain⟨q,m,c,rfl⟩:=ls_form h
  exact drop_err s q m c ls id w h hid h0
end Go.Proofs.YtnjpjieedgmffaaGreatDoor.sid
