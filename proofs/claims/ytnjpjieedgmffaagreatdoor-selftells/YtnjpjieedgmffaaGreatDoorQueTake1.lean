import Derived.Test.YtnjpjieedgmffaaGreatDoorSidPut
import Derived.Test.YtnjpjieedgmffaaGreatDoorSidCat
import Derived.Test.YtnjpjieedgmffaaGreatDoorQueChk
import Derived.Deep.RegionLaw
namespace Go.Proofs.YtnjpjieedgmffaaGreatDoor.sid
open Go.RowKit spn que Go.Maps
open tickP (errB priceB sideB betOk betR tprice_V)
theorem DeepT.mono {w:World}{base base' : Nat}{v:Value}{ps:List RP}{tl:List rlv.RL}(h:DeepT w base v ps tl) (hb:base'≤base):DeepT w base' v ps tl:=
 ⟨OwnM.mono h.own hb,fun p hp=>OwnM.mono (h.each p hp) hb,h.apart,h.far⟩
theorem DeepT.swap {w w1:World}{base g off n cap:Nat}{a:List RP}{x:RP}{b:List RP}{q:Option Addr}{m c:Nat}{zs:List R}(h:Deep w base (.slice (some ⟨g,off,none⟩) n cap) (a++x::b)) (hg:w.grownBy w1 (blkR x.1))
  (ho:OwnQ w1 base (.slice q m c) zs) (hv:(Value.slice q m c).ownBlock=blkR x.1∨∃k,(Value.slice q m c).ownBlock=some k∧w.heap.size≤k) :
  Deep (w1.setCell ⟨g,off+a.length * 2+1,none⟩ (.slice q m c)) base (.slice (some ⟨g,off,none⟩) n cap) (a++(⟨x.1.price,q,m,c⟩,zs)::b):=by
 have hgs:=gr_setCell w1 g (off+a.length * 2+1) (.slice q m c)
 have hxm:x∈a++x::b:=by simp
 have hn:n=(a++x::b).length:=by
  obtain⟨q',c',e⟩:=OwnM.form h.own;rw[List.append_nil,List.length_map] at e;cases e;rfl
 obtain⟨p1,p2,p3⟩:=List.pairwise_append.1 h.apart
 obtain⟨p4,p5⟩:=List.pairwise_cons.1 p2
 have hgl:g < w.heap.size:=(OwnM.lt h.own g rfl).2
 have hoth:∀y,y∈a∨y∈b→∀z,blkR y.1=some z→blkR x.1≠some z∧(Value.slice q m c).ownBlock≠some z:=fun y hy z hz=>by
  have h1:blkR x.1≠some z:=by
   rcases hy with hy|hy
   ·exact p3 y hy x (by simp) z hz
   ·exact fun e=>p4 y hy z e hz
  refine⟨h1,?_⟩
  rcases hv with e|⟨k,e,hk⟩
  ·rw[e];exact h1
  ·rw[e];intro e2
   have e3:k=z:=by simpa using e2
   have:=(OwnM.lt (h.each y (by rcases hy with hy|hy <;> simp[hy])) z hz).2
   omega
 have hng:(Value.slice q m c).ownBlock≠some g:=by
  rcases hv with e|⟨k,e,hk⟩
  ·rw[e];intro e2;exact h.far x hxm g e2 rfl
  ·rw[e];intro e2;have e3:k=g:=by simpa using e2
   omega
 have hfar:∀y,y∈a∨y∈b→OwnQ (w1.setCell ⟨g,off+a.length * 2+1,none⟩ (.slice q m c)) base (sv y.1) y.2:=fun y hy=>by
  have hy2:y∈a++x::b:=by rcases hy with hy|hy <;> simp[hy]
  exact kept_of (kept_of (h.each y hy2) hg (fun z hz=>(hoth y hy z hz).1)) hgs (fun z hz=>h.far y hy2 z hz)
 refine⟨?_,?_,?_,?_⟩
 ·have ho1:=kept_of h.own hg (fun z hz e=>h.far x hxm z e hz)
  rw[List.append_nil,List.map_append,List.map_cons] at ho1 ⊢
  have hn2:n=(a.map (·.1)++x.1::b.map (·.1)).length:=by rw[hn];simp
  rw[←hn2] at ho1
  have:=OwnM.set ho1 (a.length * 2+1) (.slice q m c)
  rw[show a.length=(a.map (·.1)).length by simp,flat_set] at this
  show OwnM _ _ _ _ _ _ _
  rw[hn2] at this
  rw[hn2]
  simpa [Nat.add_assoc] using this
 ·intro y hy
  rcases List.mem_append.1 hy with hy|hy
  ·exact hfar y (.inl hy)
  ·rcases List.mem_cons.1 hy with rfl|hy
   ·exact kept_of ho hgs (fun z hz e=>hng (by rw[show (Value.slice q m c).ownBlock=some z from hz];exact e.symm))
   ·exact hfar y (.inr hy)
 ·refine List.pairwise_append.2 ⟨p1,List.pairwise_cons.2 ⟨fun y hy z hz e=>(hoth y (.inr hy) z e).2 hz,p5⟩,fun y hy u hu=>?_⟩
  rcases List.mem_cons.1 hu with rfl|hu
  ·exact fun z hz e=>(hoth y (.inl hy) z hz).2 e
  ·exact p3 y hy u (by simp[hu])
 ·intro y hy
  rcases List.mem_append.1 hy with hy|hy
  ·exact h.far y (by simp[hy])
  ·rcases List.mem_cons.1 hy with rfl|hy
   ·intro z hz e
    exact hng (by rw[show (Value.slice q m c).ownBlock=some z from hz];exact e.symm)
   ·exact h.far y (by simp[hy])
def DL (w:World) (base:Nat) (v:Value) (ls:List L):Prop:=∃ps:List RP,ps.map toL=ls∧Deep w base v ps
theorem DL.ls {w:World}{base:Nat}{v:Value}{ls:List L}(h:DL w base v ls):LS w v ls:=by
 obtain⟨ps,e,hD⟩:=h
 rw[←e];exact hD.ls
theorem DL.below {w w' : World}{base:Nat}{v:Value}{ls:List L}(h:DL w base v ls) (hB:Below w.heap.size w w'):DL w' base v ls:=by
 obtain⟨ps,e,hD⟩:=h
 exact⟨ps,e,hD.below hB⟩
theorem DL.mono {w:World}{base base' : Nat}{v:Value}{ls:List L}(h:DL w base v ls) (hb:base'≤base):DL w base' v ls:=by
 obtain⟨ps,e,hD⟩:=h
 exact⟨ps,e,hD.mono hb⟩
theorem DL.form {w:World}{base:Nat}{v:Value}{ls:List L}(h:DL w base v ls):∃q m c,v=.slice q m c:=by
 obtain⟨ps,e,hD⟩:=h
 obtain⟨q,c,hv⟩:=OwnM.form hD.own
 exact⟨q,_,c,hv⟩
theorem dl_nil (w:World) (base:Nat):DL w base (.slice none 0 0) []:=⟨[],rfl,deep_nil w base⟩
theorem ls_nil (w:World):LS w (.slice none 0 0) []:=.inl ⟨rfl,rfl⟩
theorem Own.below {W W' : World}{B:Nat}{ps:List P3}(h:Own W B ps) (hB:Below W.heap.size W W'):Own W' B ps:=World.ownsMap.kept h (gr_below hB none) (by simp)
theorem wf_id {r:R}(h:rchk r=0):(Lit.int .i64 r.id).wf=true:=by
 obtain⟨-,-,-,-,-,h1,-⟩:=rchk_zero h
 have e:wrap64 r.id=r.id:=by unfold wrap64;omega
 rw[←e]
 exact wrap64_wf _
theorem len_cnt {ls:List L}(h:∀l∈ls,lchk l=0):(ls.length:Int)≤cnt ls:=by
 induction ls with
 | nil=>simp[cnt]
 | cons x t ih=>
  have h1:=ih (fun l hl=>h l (by simp[hl]))
  have h2:x.rests.length≠0:=fun e=>(lchk_zero (h x (by simp))).2.1 (List.length_eq_zero_iff.1 e)
  unfold cnt
  rw[List.length_cons]
  omega
theorem id_ids {ls:List L}{id:Int}:id∈ids ls↔¬lastAt (flatP 0 ls) id=none:=by
 rw[last_none];simp[ids]
theorem setFive {w:World}{B:Nat}{y0 y1 y2 y3 y4:Value}{t:TypeId}(h:w.heap[B]?=some (.cells #[y0,y1,y2,y3,y4] t (0,0))) (x0 x1 x2 x3 x4:Value) :
  (((((w.setCell ⟨B,0,none⟩ x0).setCell ⟨B,1,none⟩ x1).setCell ⟨B,2,none⟩ x2).setCell ⟨B,3,none⟩ x3).setCell ⟨B,4,none⟩ x4).heap[B]?=some (.cells #[x0,x1,x2,x3,x4] t (0,0)):=by
 have h0:=heap_setCell_same w B 0 _ _ x0 h
 have h1:=heap_setCell_same _ B 1 _ _ x1 h0
 have h2:=heap_setCell_same _ B 2 _ _ x2 h1
 have h3:=heap_setCell_same _ B 3 _ _ x3 h2
 have h4:=heap_setCell_same _ B 4 _ _ x4 h3
 exact h4
theorem rowFive {w:World}{B:Nat}{x0 x1 x2 x3 x4:Value}{t:TypeId}(h:w.heap[B]?=some (.cells #[x0,x1,x2,x3,x4] t (0,0))) :
  w.cell? ⟨B,0,none⟩=some x0∧w.cell? ⟨B,1,none⟩=some x1∧w.cell? ⟨B,2,none⟩=some x2∧w.cell? ⟨B,3,none⟩=some x3∧w.cell? ⟨B,4,none⟩=some x4∧∀j,w.frozen? ⟨B,j,none⟩=false:=
 ⟨by simp[World.cell?,h],by simp[World.cell?,h],by simp[World.cell?,h],by simp[World.cell?,h],by simp[World.cell?,h],fun j=>frozen_of_row w _ j _ _ h⟩
theorem grFive (w:World) (B:Nat) (x0 x1 x2 x3 x4:Value):w.grownBy (((((w.setCell ⟨B,0,none⟩ x0).setCell ⟨B,1,none⟩ x1).setCell ⟨B,2,none⟩ x2).setCell ⟨B,3,none⟩ x3).setCell ⟨B,4,none⟩ x4) (some B):=
 gr_trans (gr_trans (gr_trans (gr_trans (gr_setCell _ _ _ _) (gr_setCell _ _ _ _)) (gr_setCell _ _ _ _)) (gr_setCell _ _ _ _)) (gr_setCell _ _ _ _)
theorem DeepT.other {w w' : World}{base:Nat}{v:Value}{ps:List RP}{tl:List rlv.RL}{B:Nat}(h:DeepT w base v ps tl) (hg:w.grownBy w' (some B)) (hB:B < base):DeepT w' base v ps tl:=
 ⟨kept_of h.own hg (fun x hx e=>by have:=(OwnM.lt h.own x hx).1;simp at e;omega),fun p hp=>kept_of (h.each p hp) hg (fun x hx e=>by have:=(OwnM.lt (h.each p hp) x hx).1;simp at e;omega),h.apart,h.far⟩
theorem setTwo {w:World}{B:Nat}{y0 y1:Value}{t:TypeId}(h:w.heap[B]?=some (.cells #[y0,y1] t (0,0))) (x0 x1:Value) :
  ((w.setCell ⟨B,0,none⟩ x0).setCell ⟨B,1,none⟩ x1).heap[B]?=some (.cells #[x0,x1] t (0,0)):=by
 have h0:=heap_setCell_same w B 0 _ _ x0 h
 have h1:=heap_setCell_same _ B 1 _ _ x1 h0
 exact h1
theorem rowTwo {w:World}{B:Nat}{x0 x1:Value}{t:TypeId}(h:w.heap[B]?=some (.cells #[x0,x1] t (0,0))) :
  w.cell? ⟨B,0,none⟩=some x0∧w.cell? ⟨B,1,none⟩=some x1∧∀j,w.frozen? ⟨B,j,none⟩=false:=
 ⟨by simp[World.cell?,h],by simp[World.cell?,h],fun j=>frozen_of_row w _ j _ _ h⟩
theorem grTwo (w:World) (B:Nat) (x0 x1:Value):w.grownBy ((w.setCell ⟨B,0,none⟩ x0).setCell ⟨B,1,none⟩ x1) (some B):=gr_trans (gr_setCell _ _ _ _) (gr_setCell _ _ _ _)
theorem Lies.other {w w' : World}{b o:Nat}{zs:List R}{B:Nat}(h:Lies w b o zs) (hb:b < w.heap.size) (hg:w.grownBy w' (some B)) (hne:b≠B):Lies w' b o zs:=
 fun j hj i v hv=>by rw[hg.cell_far ⟨b,o+j * 5+i,none⟩ hb (fun e=>hne (by cases e;rfl))];exact h j hj i v hv
theorem dl_grown {w W W' : World}{base:Nat}{v:Value}{ls:List L}(h:DL w base v ls) (hB:Below w.heap.size w W) {B:Nat}(hg:W.grownBy W' (some B)) (hBB:w.heap.size≤B):DL W' base v ls:=
 h.below (hB.grown hg hB.size (fun k hk=>by cases hk;exact hBB))
theorem DL.other {w w' : World}{base:Nat}{v:Value}{ls:List L}{B:Nat}(h:DL w base v ls) (hg:w.grownBy w' (some B)) (hB:B < base):DL w' base v ls:=by
 obtain⟨ps,e,hD⟩:=h
 exact⟨ps,e,hD.other hg hB⟩
theorem find_zero {s:Int}{ls:List L}{id:Int}(h:findE s ls id=0):schk s ls=0∧∃t,lastAt (flatP 0 ls) id=some t∧findP s ls id=t.2:=by
 have h1:schk s ls=0:=by
  by_cases h0:schk s ls=0
  ·exact h0
  ·unfold findE at h;rw[if_neg h0] at h;exact h
 refine⟨h1,?_⟩
 cases hl:lastAt (flatP 0 ls) id with
 | none=>unfold findE at h;rw[if_pos h1,hl] at h;simp at h
 | some t=>exact⟨t,rfl,by unfold findP;rw[if_pos h,hl];rfl⟩
theorem find_spot {s:Int}{ls:List L}{id:Int}(h:findE s ls id=0):schk s ls=0∧∃i k:Nat,∃hi:i < ls.length,∃hk:k < ls[i].rests.length,ls[i].rests[k].id=id∧findP s ls id=((i:Int),(k:Int)):=by
 obtain⟨h0,t,h1,h2⟩:=find_zero h
 obtain⟨i,k,hi,hk,e1,e2⟩:=last_is h1
 exact⟨h0,i,k,hi,hk,e1,h2.trans e2⟩
end Go.Proofs.YtnjpjieedgmffaaGreatDoor.sid
namespace Go.Proofs.YtnjpjieedgmffaaGreatDoor.que
open Go.RowKit spn
theorem take_flat (r:R) (t:List R):(flat (r::t)).drop 5=flat t:=by
 rw[flat_cons,List.drop_append_of_le_length (by show 5≤5;omega),List.drop_eq_nil_of_le (by show 5≤5;omega),List.nil_append]
theorem OwnQ.form {w:World}{base:Nat}{v:Value}{r:R}{t:List R}(h:OwnQ w base v (r::t)):∃g off cap,v=.slice (some ⟨g,off,none⟩) (t.length+1) cap∧base≤g∧g < w.heap.size∧t.length+1≤cap∧cap≤9223372036854775807∧
  (w.cell? ⟨g,off,none⟩=some (.int .i64 r.id)∧w.cell? ⟨g,off+1,none⟩=some (.int .i64 r.who)∧w.cell? ⟨g,off+2,none⟩=some (.int .i64 r.qty)∧w.cell? ⟨g,off+3,none⟩=some (.int .i64 r.hid)∧w.cell? ⟨g,off+4,none⟩=some (.int .i64 r.shw))∧
  (∀j,w.frozen? ⟨g,j,none⟩=false)∧
  (∀q,OwnQ (w.setCell ⟨g,off+2,none⟩ (.int .i64 q)) base v ({ r with qty:=q }::t))∧
  (¬cap=1→OwnQ w base (.slice (some ⟨g,off+5,none⟩) t.length (cap - 1)) t)∧
  (cap=1→OwnQ w base (.slice (some ⟨g,off,none⟩) t.length (cap - 1)) t):=by
 rcases h.2 with ⟨_,hn⟩|⟨g,off,cap,cur,rfl,hb,hg,hnc,hcm,hcs,htake⟩
 ·simp at hn
 have hnc2:t.length+1≤cap:=hnc
 have hcm2:cap≤9223372036854775807:=by simpa [maxLen] using hcm
 have hl5:∀x:R,(x::t).length * 5=t.length * 5+5:=fun x=>by rw[List.length_cons];omega
 rw[hl5] at htake
 have hcel:∀j u,(flat (r::t))[j]?=some u→w.cell? ⟨g,off+j,none⟩=some u:=by
  intro j u hu
  rw[cell_of_row w g (off+j) cur _ (0,0) hg]
  rw[←htake,List.getElem?_take] at hu
  split at hu
  ·rw[List.getElem?_drop] at hu;simpa using hu
  ·cases hu
 have hrest:(cur.toList.drop (off+5)).take (t.length * 5)=flat t:=by
  have:=congrArg (List.drop 5) htake
  rw[take_flat,List.drop_take,List.drop_drop] at this
  rw[←this]
  congr 1
 refine⟨g,off,cap,rfl,hb,(gzE.1 hg).1,hnc2,hcm2,⟨hcel 0 _ rfl,hcel 1 _ rfl,hcel 2 _ rfl,hcel 3 _ rfl,hcel 4 _ rfl⟩,fun j=>frozen_of_row w g j cur _ hg,?_,?_,?_⟩
 ·intro q
  refine⟨flat_len _,.inr ⟨g,off,cap,cur.setIfInBounds (off+2) (.int .i64 q),rfl,hb,heap_setCell_same w g (off+2) cur _ _ hg,hnc,hcm,by simpa using hcs,?_⟩⟩
  rw[hl5,Array.toList_setIfInBounds,List.drop_set]
  rw[if_neg (by omega),show off+2 - off=2 by omega,List.take_set,htake]
  rfl
 ·intro hc
  refine⟨flat_len _,.inr ⟨g,off+5,cap - 1,cur,rfl,hb,hg,by omega,by unfold maxLen;omega,by omega,hrest⟩⟩
 ·intro hc
  have ht:t=[]:=by
   apply List.eq_nil_of_length_eq_zero;omega
  subst ht
  refine⟨rfl,.inr ⟨g,off,cap - 1,cur,rfl,hb,hg,by simp,by unfold maxLen;omega,by omega,by simp[flat]⟩⟩
theorem tk1_less {k a b c d e:Int}{t:List R}(h:k < c):tk1 k ⟨a,b,c,d,e⟩ t=⟨a,b,c - k,d,e⟩::t:=by unfold tk1;rw[if_pos h]
theorem tk1_gone {a b c e:Int}{t:List R}:tk1 c ⟨a,b,c,0,e⟩ t=t:=by unfold tk1;rw[if_neg (by simp),if_pos rfl]
theorem tk1_back {a b c d e:Int}{t:List R}(h:¬d=0):tk1 c ⟨a,b,c,d,e⟩ t=t++[⟨a,b,min e d,d - min e d,e⟩]:=by unfold tk1;rw[if_neg (by simp),if_neg h]
theorem grown_trans {a b c:World}{row:Option Nat}(h:a.grownBy b row) (k:b.grownBy c row):a.grownBy c row:=
 ⟨k.os.trans h.os,k.tape.trans h.tape,k.output.trans h.output,Nat.le_trans h.size k.size,fun i hi hr=>(k.block i (Nat.lt_of_lt_of_le hi h.size) hr).trans (h.block i hi hr)⟩
theorem grown_alloc {a b:World}{row:Option Nat}(h:a.grownBy b row) (o:Obj):a.grownBy (b.alloc o) row:=grown_trans h (World.grownBy_alloc b o row)
theorem grown_drew {a b:World}{row:Option Nat}(h:a.grownBy b row):a.grownBy b.drew row:=⟨h.os,h.tape,h.output,h.size,h.block⟩
theorem grown_set (w:World) (g j:Nat) (u:Value):w.grownBy (w.setCell ⟨g,j,none⟩ u) (some g):=
 ⟨rfl,rfl,rfl,by simp,fun k _ hk=>heap_setCell_other w ⟨g,j,none⟩ k u (fun e=>hk (by simp[e]))⟩
set_option maxRecDepth 100000 in
set_option maxHeartbeats 1000000 in
theorem takeFirst_any (base:Nat) (v:Value) (a b c d e k:Int) (t:List R) (w:World) (hown:OwnQ w base v (⟨a,b,c,d,e⟩::t)) (hbase:base≤w.heap.size) (h1:1≤k) (h2:k≤c) (hc:c≤10000) (hd:0≤d) (hd2:d≤10000) (he:0≤e) (he2:e≤10000) (ht:t.length≤100) :
  Calls Tryz.prog 119 #[v,.int .i64 k] w fun x w'=>∃v',x=.returned v'∧OwnQ w' base v' (tk1 k ⟨a,b,c,d,e⟩ t)∧w.grownBy w' v.ownBlock∧(v'.ownBlock=v.ownBlock∨∃j,v'.ownBlock=some j∧w.heap.size≤j):=by
 obtain⟨Z,hZ⟩:∃Z,tk1 k ⟨a,b,c,d,e⟩ t=Z:=⟨_,rfl⟩
 rw[hZ]
 have HT:Hid (tk1 k ⟨a,b,c,d,e⟩ t=Z):=hZ
 clear hZ
 obtain⟨i0,hi,hz0,hz1,hz2⟩:=infoR'
 have HI:Hid (Tryz.prog.info? 55=some i0):=hi
 clear hi
 obtain⟨g,off,cap,rfl,hbg,hgw,hnc,hcm,⟨c0,c1,c2,c3,c4⟩,hf,hset,-,-⟩:=hown.form
 simp only[] at c0 c1 c2 c3 c4
 have hX:=hset (c - k)
 have hBX:w.grownBy (w.setCell ⟨g,off+2,none⟩ (.int .i64 (c - k))) (some g):=grown_set _ _ _ _
 have HO:Hid (OwnQ (w.setCell ⟨g,off+2,none⟩ (.int .i64 (c - k))) base (.slice (some ⟨g,off,none⟩) (t.length+1) cap) (⟨a,b,c - k,d,e⟩::t)):=hX
 have HB:Hid (w.grownBy (w.setCell ⟨g,off+2,none⟩ (.int .i64 (c - k))) (some g)):=hBX
 have hz:base≤(w.setCell ⟨g,off+2,none⟩ (.int .i64 (c - k))).heap.size:=Nat.le_trans hbase hBX.size
 clear hown hset hX hBX
 obtain⟨L,hL⟩:∃L,L=t.length+1:=⟨_,rfl⟩
 have HL:Hid (t.length+1=L):=hL.symm
 rw[←hL] at hnc HO ⊢
 have hL0:(0:Int) < (L:Int):=by omega
 clear hL
 have e1:wrap64 (c - k)=c - k:=by unfold wrap64;omega
 have f2:=hf (off+2)
 clear hf
 go_enter Tryz.func119,Tryz.ntmps119
 go_upto_region 2 with fail
 generalize w.setCell ⟨g,off+2,none⟩ (.int .i64 (c - k))=X at *
 obtain⟨g',off',cap',hv,-,hgX,-,-,⟨x0,x1,x2,x3,x4⟩,-,-,hne,hone⟩:=HO.out.form
 simp only[Value.slice.injEq,Option.some.injEq,Addr.mk.injEq] at hv
 obtain⟨⟨rfl,rfl,-⟩,-,rfl⟩:=hv
 simp only[] at x0 x1 x2 x3 x4
 have hl1:L - 1=t.length:=by have:=HL.out;omega
 have HNE:Hid (¬cap=1→OwnQ X base (.slice (some ⟨g,off+5,none⟩) t.length (cap - 1)) t):=hne
 have HONE:Hid (cap=1→OwnQ X base (.slice (some ⟨g,off,none⟩) t.length (cap - 1)) t):=hone
 clear hne hone c0 c1 c2 c3 c4 f2 hgw
 have hL1:(1:Int)≤(L:Int):=by omega
 have hLc:(L:Int)≤(cap:Int):=by omega
 by_cases hk:k < c
 ·have hk0:0 < c - k:=by omega
  go_wp2_with fail
  go_ret
  exact⟨_,rfl,by rw[←HT.out,tk1_less hk];exact HO.out.below ((bzR _ _).alloc (nzR _) _),grown_alloc HB.out _,.inl rfl⟩
 ·have hkc:k=c:=by omega
  subst hkc
  rw[Int.sub_self] at x2 HO
  by_cases hd0:d=0
  ·subst hd0
   by_cases hc1:cap=1
   ·subst hc1
    have hr:=HONE.out rfl
    clear HONE HNE
    go_wp2_with fail
    go_ret
    exact⟨_,rfl,by rw[←HT.out,tk1_gone];exact hr.below ((bzR _ _).alloc (nzR _) _),grown_alloc HB.out _,.inl rfl⟩
   ·have hr:=HNE.out hc1
    clear HONE HNE
    go_wp2_with fail
    go_ret
    exact⟨_,rfl,by rw[←HT.out,tk1_gone];exact hr.below ((bzR _ _).alloc (nzR _) _),grown_alloc HB.out _,.inl rfl⟩
  ·have hd1:(d == 0)=false:=by simp[hd0]
   have hmin:min e d≤10000∧0≤min e d∧min e d≤d:=by omega
   have e2:wrap64 (d - min e d)=d - min e d:=by unfold wrap64;omega
   have HZ:Hid (Z=t++[⟨a,b,min e d,d - min e d,e⟩]):=by
    show _=_
    rw[←HT.out,tk1_back hd0]
   clear HT
   go_upto_region 9 with fail
   by_cases hc1:cap=1
   ·subst hc1
    have hr:=HONE.out rfl
    have HR:Hid (OwnQ (((X.alloc (.cells #[.int .i64 a,.int .i64 b,.int .i64 (min e d),.int .i64 (d - min e d),.int .i64 e] 55)).alloc (.cells #[.int .i64 a,.int .i64 b,.int .i64 (min e d),.int .i64 (d - min e d),.int .i64 e] 55)).drew) base (.slice (some ⟨g,off,none⟩) t.length (1 - 1)) t):=hr.below (((bzR _ _).alloc (nzR _) _).alloc (by simp) _).drew
    have hBY:w.grownBy (((X.alloc (.cells #[.int .i64 a,.int .i64 b,.int .i64 (min e d),.int .i64 (d - min e d),.int .i64 e] 55)).alloc (.cells #[.int .i64 a,.int .i64 b,.int .i64 (min e d),.int .i64 (d - min e d),.int .i64 e] 55)).drew) (some g):=grown_drew (grown_alloc (grown_alloc HB.out _) _)
    have hnew:=World.news_of_block (w:=((X.alloc (.cells #[.int .i64 a,.int .i64 b,.int .i64 (min e d),.int .i64 (d - min e d),.int .i64 e] 55)).alloc (.cells #[.int .i64 a,.int .i64 b,.int .i64 (min e d),.int .i64 (d - min e d),.int .i64 e] 55)).drew) (heap_alloc_new (X.alloc (.cells #[.int .i64 a,.int .i64 b,.int .i64 (min e d),.int .i64 (d - min e d),.int .i64 e] 55)) _)
    have HNW:Hid (∀j u,(rV ⟨a,b,min e d,d - min e d,e⟩)[j]?=some u→(((X.alloc (.cells #[.int .i64 a,.int .i64 b,.int .i64 (min e d),.int .i64 (d - min e d),.int .i64 e] 55)).alloc (.cells #[.int .i64 a,.int .i64 b,.int .i64 (min e d),.int .i64 (d - min e d),.int .i64 e] 55)).drew).cell? ((⟨X.heap.size+1,0,none⟩:Addr).add j)=some u):=by
     intro j u hu
     have:=hnew j u hu
     simpa using this
    have s3:Hid (t.length+1≤maxLen):=by show _≤_;unfold maxLen;omega
    have s4:Hid ((t.length+1) * 40≤140737488355328):=by show _≤_;omega
    have s5:Hid (base≤(((X.alloc (.cells #[.int .i64 a,.int .i64 b,.int .i64 (min e d),.int .i64 (d - min e d),.int .i64 e] 55)).alloc (.cells #[.int .i64 a,.int .i64 b,.int .i64 (min e d),.int .i64 (d - min e d),.int .i64 e] 55)).drew).heap.size):=by show _≤_;simp;omega
    have s6:Hid (∀u∈rV ⟨a,b,min e d,d - min e d,e⟩,u.oneCell'=true):=by
     intro u hu
     simp only[rV,List.mem_cons,List.not_mem_nil,or_false] at hu
     rcases hu with rfl|rfl|rfl|rfl|rfl <;> rfl
    have HBY:Hid (w.grownBy (((X.alloc (.cells #[.int .i64 a,.int .i64 b,.int .i64 (min e d),.int .i64 (d - min e d),.int .i64 e] 55)).alloc (.cells #[.int .i64 a,.int .i64 b,.int .i64 (min e d),.int .i64 (d - min e d),.int .i64 e] 55)).drew) (some g)):=hBY
    clear hr hnew hBY HONE HNE HO HB x0 x1 x2 x3 x4
    go_region_law (refine step_append_mid _ rfl (.tmp 39) (.tmp 41) 49 rfl base 55 i0 zeroR 5 40 Tryz.underlying49 HI.out hz0 hz1 hz2 rfl (.slice (some ⟨g,off,none⟩) t.length (1 - 1)) t.length (flat t) (by simp[Act.eval]) HR.out ⟨X.heap.size+1,0,none⟩ 1 1 (rV ⟨a,b,min e d,d - min e d,e⟩) (by simp[Act.eval]) rfl HNW.out s6.out s3.out s4.out s5.out ?_;intro v' w' hO' hgr hat)
    go_wp2_with fail
    go_ret
    refine⟨_,rfl,?_,grown_trans HBY.out hgr,?_⟩
    rotate_left
    ·rcases hat with h|h
     ·exact .inl h
     ·exact .inr ⟨_,h,HBY.out.size⟩
    rw[HZ.out]
    show OwnM _ _ _ _ _ _ _
    rw[flat_append,List.length_append]
    exact hO'
   ·skip
    have hr:=HNE.out hc1
    have HR:Hid (OwnQ (((X.alloc (.cells #[.int .i64 a,.int .i64 b,.int .i64 (min e d),.int .i64 (d - min e d),.int .i64 e] 55)).alloc (.cells #[.int .i64 a,.int .i64 b,.int .i64 (min e d),.int .i64 (d - min e d),.int .i64 e] 55)).drew) base (.slice (some ⟨g,off+5,none⟩) t.length (cap - 1)) t):=hr.below (((bzR _ _).alloc (nzR _) _).alloc (by simp) _).drew
    have hBY:w.grownBy (((X.alloc (.cells #[.int .i64 a,.int .i64 b,.int .i64 (min e d),.int .i64 (d - min e d),.int .i64 e] 55)).alloc (.cells #[.int .i64 a,.int .i64 b,.int .i64 (min e d),.int .i64 (d - min e d),.int .i64 e] 55)).drew) (some g):=grown_drew (grown_alloc (grown_alloc HB.out _) _)
    have hnew:=World.news_of_block (w:=((X.alloc (.cells #[.int .i64 a,.int .i64 b,.int .i64 (min e d),.int .i64 (d - min e d),.int .i64 e] 55)).alloc (.cells #[.int .i64 a,.int .i64 b,.int .i64 (min e d),.int .i64 (d - min e d),.int .i64 e] 55)).drew) (heap_alloc_new (X.alloc (.cells #[.int .i64 a,.int .i64 b,.int .i64 (min e d),.int .i64 (d - min e d),.int .i64 e] 55)) _)
    have HNW:Hid (∀j u,(rV ⟨a,b,min e d,d - min e d,e⟩)[j]?=some u→(((X.alloc (.cells #[.int .i64 a,.int .i64 b,.int .i64 (min e d),.int .i64 (d - min e d),.int .i64 e] 55)).alloc (.cells #[.int .i64 a,.int .i64 b,.int .i64 (min e d),.int .i64 (d - min e d),.int .i64 e] 55)).drew).cell? ((⟨X.heap.size+1,0,none⟩:Addr).add j)=some u):=by
     intro j u hu
     have:=hnew j u hu
     simpa using this
    have s3:Hid (t.length+1≤maxLen):=by show _≤_;unfold maxLen;omega
    have s4:Hid ((t.length+1) * 40≤140737488355328):=by show _≤_;omega
    have s5:Hid (base≤(((X.alloc (.cells #[.int .i64 a,.int .i64 b,.int .i64 (min e d),.int .i64 (d - min e d),.int .i64 e] 55)).alloc (.cells #[.int .i64 a,.int .i64 b,.int .i64 (min e d),.int .i64 (d - min e d),.int .i64 e] 55)).drew).heap.size):=by show _≤_;simp;omega
    have s6:Hid (∀u∈rV ⟨a,b,min e d,d - min e d,e⟩,u.oneCell'=true):=by
     intro u hu
     simp only[rV,List.mem_cons,List.not_mem_nil,or_false] at hu
     rcases hu with rfl|rfl|rfl|rfl|rfl <;> rfl
    have HBY:Hid (w.grownBy (((X.alloc (.cells #[.int .i64 a,.int .i64 b,.int .i64 (min e d),.int .i64 (d - min e d),.int .i64 e] 55)).alloc (.cells #[.int .i64 a,.int .i64 b,.int .i64 (min e d),.int .i64 (d - min e d),.int .i64 e] 55)).drew) (some g)):=hBY
    clear hr hnew hBY HONE HNE HO HB x0 x1 x2 x3 x4
    go_region_law (refine step_append_mid _ rfl (.tmp 39) (.tmp 41) 49 rfl base 55 i0 zeroR 5 40 Tryz.underlying49 HI.out hz0 hz1 hz2 rfl (.slice (some ⟨g,off+5,none⟩) t.length (cap - 1)) t.length (flat t) (by simp[Act.eval]) HR.out ⟨X.heap.size+1,0,none⟩ 1 1 (rV ⟨a,b,min e d,d - min e d,e⟩) (by simp[Act.eval]) rfl HNW.out s6.out s3.out s4.out s5.out ?_;intro v' w' hO' hgr hat)
    go_wp2_with fail
    go_ret
    refine⟨_,rfl,?_,grown_trans HBY.out hgr,?_⟩
    rotate_left
    ·rcases hat with h|h
     ·exact .inl h
     ·exact .inr ⟨_,h,HBY.out.size⟩
    rw[HZ.out]
    show OwnM _ _ _ _ _ _ _
    rw[flat_append,List.length_append]
    exact hO'
end Go.Proofs.YtnjpjieedgmffaaGreatDoor.que
