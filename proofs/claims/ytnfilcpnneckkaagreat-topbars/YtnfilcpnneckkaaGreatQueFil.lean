import Derived.Test.YtnfilcpnneckkaaGreatSidPut
import Derived.Deep.RegionLaw
import Derived.OwnWalk
set_option maxHeartbeats 1000000
set_option maxRecDepth 100000
namespace Go.Proofs.YtnfilcpnneckkaaGreat
open Tryz
namespace sid
open Go.RowKit spn que Go.Maps
open tickP (errB zAo zAB zBA betR zAU)
theorem DeepT.mono{w:World}{base base' : Nat}{v:Value}{ps:List RP}{tl:List rlv.RL}(h:DeepT w base v ps tl)(hb:base'≤base):DeepT w base' v ps tl:=
 ⟨OwnM.mono h.own hb,fun p hp=>OwnM.mono (h.each p hp) hb,h.apart,h.far⟩
theorem DeepT.swap{w w1:World}{base g off n cap:Nat}{a:List RP}{x:RP}{b:List RP}{q:Option Addr}{m c:Nat}{zs:List R}(h:Deep w base (.slice (some ⟨g,off,none⟩) n cap) (a++x::b))(hg:w.grownBy w1 (blkR x.1))
  (ho:OwnQ w1 base (.slice q m c) zs) (hv:(Value.slice q m c).ownBlock=blkR x.1∨∃k,(Value.slice q m c).ownBlock=some k∧w.heap.size≤k) :
  Deep (w1.setCell ⟨g,off+a.length*2+1,none⟩ (.slice q m c)) base (.slice (some ⟨g,off,none⟩) n cap) (a++(⟨x.1.price,q,m,c⟩,zs)::b):=by
 have Ur:=wAc w1 g (off+a.length*2+1) (.slice q m c);have cj:x∈a++x::b:=by simp
 have hn:n=(a++x::b).length:=by
  obtain⟨q',c',e⟩:=OwnM.form h.own;rw[jH,jP] at e;cases e;rfl
 obtain⟨p1,p2,p3⟩:=List.pairwise_append.1 h.apart;obtain⟨p4,p5⟩:=List.pairwise_cons.1 p2;have M6:g<w.heap.size:=(OwnM.lt h.own g rfl).2;have CO:∀y,y∈a∨y∈b→∀z,blkR y.1=some z→blkR x.1≠some z∧(Value.slice q m c).ownBlock≠some z:=fun y hy z hz=>by
  have h1:blkR x.1≠some z:=by
   rcases hy with hy|hy
   ·exact p3 y hy x (by simp) z hz
   ·exact fun e=>p4 y hy z e hz
  refine⟨h1,?_⟩;rcases hv with e|⟨k,e,hk⟩
  ·rw[e];exact h1
  ·rw[e];intro e2;have e3:k=z:=by simpa using e2
   have:=(OwnM.lt (h.each y (by rcases hy with hy|hy <;>simp[hy])) z hz).2
   omega
 have hng:(Value.slice q m c).ownBlock≠some g:=by
  rcases hv with e|⟨k,e,hk⟩
  ·rw[e];intro e2;exact h.far x cj g e2 rfl
  ·rw[e];intro e2;have e3:k=g:=by simpa using e2
   omega
 have Pd:∀y,y∈a∨y∈b→OwnQ (w1.setCell ⟨g,off+a.length*2+1,none⟩ (.slice q m c)) base (sv y.1) y.2:=fun y hy=>by
  have hy2:y∈a++x::b:=by rcases hy with hy|hy <;>simp[hy]
  exact zAm (zAm (h.each y hy2) hg (fun z hz=>(CO y hy z hz).1)) Ur (fun z hz=>h.far y hy2 z hz)
 refine⟨?_,?_,?_,?_⟩
 ·have Us:=zAm h.own hg (fun z hz e=>h.far x cj z e hz)
  rw[jH,jF,jK] at Us ⊢;have BV:n=(a.map (·.1)++x.1::b.map (·.1)).length:=by rw[hn];simp
  rw[←BV] at Us;have:=OwnM.set Us (a.length*2+1) (.slice q m c);rw[show a.length=(a.map (·.1)).length by simp,zFy] at this
  show OwnM _ _ _ _ _ _ _
  rw[BV] at this;rw[BV];simpa [Nat.add_assoc] using this
 ·intro y hy;rcases List.mem_append.1 hy with hy|hy
  ·exact Pd y (.inl hy)
  ·rcases List.mem_cons.1 hy with rfl|hy
   ·exact zAm ho Ur (fun z hz e=>hng (by rw[show (Value.slice q m c).ownBlock=some z from hz];exact e.symm))
   ·exact Pd y (.inr hy)
 ·refine List.pairwise_append.2 ⟨p1,List.pairwise_cons.2 ⟨fun y hy z hz e=>(CO y (.inr hy) z e).2 hz,p5⟩,fun y hy u hu=>?_⟩
  rcases List.mem_cons.1 hu with rfl|hu
  ·exact fun z hz e=>(CO y (.inl hy) z hz).2 e
  ·exact p3 y hy u (by simp[hu])
 ·intro y hy;rcases List.mem_append.1 hy with hy|hy
  ·exact h.far y (by simp[hy])
  ·rcases List.mem_cons.1 hy with rfl|hy
   ·intro z hz e;exact hng (by rw[show (Value.slice q m c).ownBlock=some z from hz];exact e.symm)
   ·exact h.far y (by simp[hy])
def DL(w:World)(base:Nat)(v:Value)(ls:List L):Prop:=∃ps:List RP,ps.map toL=ls∧Deep w base v ps
theorem DL.ls{w:World}{base:Nat}{v:Value}{ls:List L}(h:DL w base v ls):LS w v ls:=by
 obtain⟨ps,e,hD⟩:=h;rw[←e];exact hD.ls
theorem DL.below{w w' : World}{base:Nat}{v:Value}{ls:List L}(h:DL w base v ls)(hB:Bw w w'):DL w' base v ls:=by
 obtain⟨ps,e,hD⟩:=h;exact⟨ps,e,hD.below hB⟩
theorem DL.mono{w:World}{base base' : Nat}{v:Value}{ls:List L}(h:DL w base v ls)(hb:base'≤base):DL w base' v ls:=by
 obtain⟨ps,e,hD⟩:=h;exact⟨ps,e,hD.mono hb⟩
theorem DL.form{w:World}{base:Nat}{v:Value}{ls:List L}(h:DL w base v ls):∃q m c,v=.slice q m c:=by
 obtain⟨ps,e,hD⟩:=h;obtain⟨q,c,hv⟩:=OwnM.form hD.own;exact⟨q,_,c,hv⟩
theorem zFb(w:World)(base:Nat):DL w base (.slice none 0 0) []:=⟨[],rfl,zIn w base⟩
theorem ls_nil(w:World):LS w (.slice none 0 0) []:=.inl ⟨rfl,rfl⟩
theorem Own.below{W W' : World}{B:Nat}{ps:List P3}(h:Own W B ps)(hB:Bw W W'):Own W' B ps:=World.ownsMap.kept h (wAw hB none) (by simp)
theorem wf_id{r:R}(h:rchk r=0):(Lit.int .i64 r.id).wf=true:=by
 obtain⟨-,-,-,-,-,h1,-⟩:=zAq h;have e:wrap64 r.id=r.id:=by unfold wrap64;omega
 rw[←e];exact wrap64_wf _
theorem zDq{ls:List L}(h:∀l∈ls,lchk l=0):(ls.length:Int)≤cnt ls:=by
 induction ls with
 | nil=>simp[cnt]
 | cons x t ih=>
  have h1:=ih (fun l hl=>h l (by simp[hl]))
  have h2:x.rests.length≠0:=fun e=>(zAf (h x (by simp))).2.1 (List.length_eq_zero_iff.1 e)
  unfold cnt;rw[jG];omega
theorem zGA{ls:List L}{id:Int}:id∈ids ls↔¬zAC (flatP 0 ls) id=none:=by
 rw[zKZ];simp[ids]
theorem zBd{w:World}{B:Nat}{y0 y1 y2 y3 y4:Value}{t:TypeId}(h:w.heap[B]?=some (.cells #[y0,y1,y2,y3,y4] t (0,0)))(x0 x1 x2 x3 x4:Value) :
  (((((w.setCell ⟨B,0,none⟩ x0).setCell ⟨B,1,none⟩ x1).setCell ⟨B,2,none⟩ x2).setCell ⟨B,3,none⟩ x3).setCell ⟨B,4,none⟩ x4).heap[B]?=some (.cells #[x0,x1,x2,x3,x4] t (0,0)):=by
 have h0:=jB w B 0 _ _ x0 h;have h1:=jB _ B 1 _ _ x1 h0;have h2:=jB _ B 2 _ _ x2 h1;have h3:=jB _ B 3 _ _ x3 h2;have h4:=jB _ B 4 _ _ x4 h3;exact h4
theorem zAi{w:World}{B:Nat}{x0 x1 x2 x3 x4:Value}{t:TypeId}(h:w.heap[B]?=some (.cells #[x0,x1,x2,x3,x4] t (0,0))) :
  w.cell? ⟨B,0,none⟩=some x0∧w.cell? ⟨B,1,none⟩=some x1∧w.cell? ⟨B,2,none⟩=some x2∧w.cell? ⟨B,3,none⟩=some x3∧w.cell? ⟨B,4,none⟩=some x4∧∀j,w.frozen? ⟨B,j,none⟩=false:=
 ⟨by simp[World.cell?,h],by simp[World.cell?,h],by simp[World.cell?,h],by simp[World.cell?,h],by simp[World.cell?,h],fun j=>frozen_of_row w _ j _ _ h⟩
theorem zBW(w:World)(B:Nat)(x0 x1 x2 x3 x4:Value):w.grownBy (((((w.setCell ⟨B,0,none⟩ x0).setCell ⟨B,1,none⟩ x1).setCell ⟨B,2,none⟩ x2).setCell ⟨B,3,none⟩ x3).setCell ⟨B,4,none⟩ x4) (some B):=
 wAd (wAd (wAd (wAd (wAc _ _ _ _) (wAc _ _ _ _)) (wAc _ _ _ _)) (wAc _ _ _ _)) (wAc _ _ _ _)
theorem DeepT.other{w w' : World}{base:Nat}{v:Value}{ps:List RP}{tl:List rlv.RL}{B:Nat}(h:DeepT w base v ps tl)(hg:w.grownBy w' (some B))(hB:B<base):DeepT w' base v ps tl:=
 ⟨zAm h.own hg (fun x hx e=>by have:=(OwnM.lt h.own x hx).1;simp at e;omega),fun p hp=>zAm (h.each p hp) hg (fun x hx e=>by have:=(OwnM.lt (h.each p hp) x hx).1;simp at e;omega),h.apart,h.far⟩
theorem zAz{w:World}{B:Nat}{y0 y1:Value}{t:TypeId}(h:w.heap[B]?=some (.cells #[y0,y1] t (0,0)))(x0 x1:Value) :
  ((w.setCell ⟨B,0,none⟩ x0).setCell ⟨B,1,none⟩ x1).heap[B]?=some (.cells #[x0,x1] t (0,0)):=by
 have h0:=jB w B 0 _ _ x0 h;have h1:=jB _ B 1 _ _ x1 h0;exact h1
theorem zAb{w:World}{B:Nat}{x0 x1:Value}{t:TypeId}(h:w.heap[B]?=some (.cells #[x0,x1] t (0,0))) :
  w.cell? ⟨B,0,none⟩=some x0∧w.cell? ⟨B,1,none⟩=some x1∧∀j,w.frozen? ⟨B,j,none⟩=false:=
 ⟨by simp[World.cell?,h],by simp[World.cell?,h],fun j=>frozen_of_row w _ j _ _ h⟩
theorem zAT(w:World)(B:Nat)(x0 x1:Value):w.grownBy ((w.setCell ⟨B,0,none⟩ x0).setCell ⟨B,1,none⟩ x1) (some B):=wAd (wAc _ _ _ _) (wAc _ _ _ _)
theorem zIo{w W W' : World}{base:Nat}{v:Value}{ls:List L}(h:DL w base v ls)(hB:Bw w W){B:Nat}(hg:W.grownBy W' (some B))(hBB:w.heap.size≤B):DL W' base v ls:=
 h.below (hB.grown hg hB.size (fun k hk=>by cases hk;exact hBB))
theorem DL.other{w w' : World}{base:Nat}{v:Value}{ls:List L}{B:Nat}(h:DL w base v ls)(hg:w.grownBy w' (some B))(hB:B<base):DL w' base v ls:=by
 obtain⟨ps,e,hD⟩:=h;exact⟨ps,e,hD.other hg hB⟩
theorem zLb{s:Int}{ls:List L}{id:Int}(h:zAF s ls id=0):schk s ls=0∧∃t,zAC (flatP 0 ls) id=some t∧zBn s ls id=t.2:=by
 have h1:schk s ls=0:=by
  by_cases h0:schk s ls=0
  ·exact h0
  ·unfold zAF at h;rw[if_neg h0] at h;exact h
 refine⟨h1,?_⟩;cases hl:zAC (flatP 0 ls) id with
 | none=>unfold zAF at h;rw[if_pos h1,hl] at h;simp at h
 | some t=>exact⟨t,rfl,by unfold zBn;rw[if_pos h,hl];rfl⟩
theorem zDb{s:Int}{ls:List L}{id:Int}(h:zAF s ls id=0):schk s ls=0∧∃i k:Nat,∃hi:i<ls.length,∃hk:k<ls[i].rests.length,ls[i].rests[k].id=id∧zBn s ls id=((i:Int),(k:Int)):=by
 obtain⟨h0,t,h1,h2⟩:=zLb h;obtain⟨i,k,hi,hk,e1,e2⟩:=zQy h1;exact⟨h0,i,k,hi,hk,e1,h2.trans e2⟩
end sid
namespace que
open Go.RowKit spn
theorem zLc(r:R)(t:List R):(flat (r::t)).drop 5=flat t:=by
 rw[wAm,List.drop_append_of_le_length (by show 5≤5;omega),List.drop_eq_nil_of_le (by show 5≤5;omega),jU]
theorem OwnQ.form{w:World}{base:Nat}{v:Value}{r:R}{t:List R}(h:OwnQ w base v (r::t)):∃g off cap,v=.slice (some ⟨g,off,none⟩) (t.length+1) cap∧base≤g∧g<w.heap.size∧t.length+1≤cap∧cap≤9223372036854775807∧
  (w.cell? ⟨g,off,none⟩=some (.int .i64 r.id)∧w.cell? ⟨g,off+1,none⟩=some (.int .i64 r.who)∧w.cell? ⟨g,off+2,none⟩=some (.int .i64 r.qty)∧w.cell? ⟨g,off+3,none⟩=some (.int .i64 r.hid)∧w.cell? ⟨g,off+4,none⟩=some (.int .i64 r.shw))∧
  (∀j,w.frozen? ⟨g,j,none⟩=false)∧
  (∀q,OwnQ (w.setCell ⟨g,off+2,none⟩ (.int .i64 q)) base v ({ r with qty:=q }::t))∧
  (¬cap=1→OwnQ w base (.slice (some ⟨g,off+5,none⟩) t.length (cap - 1)) t)∧
  (cap=1→OwnQ w base (.slice (some ⟨g,off,none⟩) t.length (cap - 1)) t):=by
 rcases h.2 with ⟨_,hn⟩|⟨g,off,cap,cur,rfl,hb,hg,GH,gi,Gy,ga⟩
 ·simp at hn
 have hnc2:t.length+1≤cap:=GH;have bA:cap≤9223372036854775807:=by simpa [maxLen] using gi
 have hl5:∀x:R,(x::t).length*5=t.length*5+5:=fun x=>by rw[jG];omega
 rw[hl5] at ga;have Pa:∀j u,(flat (r::t))[j]?=some u→w.cell? ⟨g,off+j,none⟩=some u:=by
  intro j u hu;rw[jZ w g (off+j) cur _ (0,0) hg];rw[←ga,List.getElem?_take] at hu;split at hu
  ·rw[List.getElem?_drop] at hu;simpa using hu
  ·cases hu
 have E8:(cur.toList.drop (off+5)).take (t.length*5)=flat t:=by
  have:=congrArg (List.drop 5) ga;rw[zLc,List.drop_take,List.drop_drop] at this;rw[←this]
  congr 1
 refine⟨g,off,cap,rfl,hb,(gzE.1 hg).1,hnc2,bA,⟨Pa 0 _ rfl,Pa 1 _ rfl,Pa 2 _ rfl,Pa 3 _ rfl,Pa 4 _ rfl⟩,fun j=>frozen_of_row w g j cur _ hg,?_,?_,?_⟩
 ·intro q;refine⟨wAl _,.inr ⟨g,off,cap,cur.setIfInBounds (off+2) (.int .i64 q),rfl,hb,jB w g (off+2) cur _ _ hg,GH,gi,by simpa using Gy,?_⟩⟩
  rw[hl5,Array.toList_setIfInBounds,List.drop_set];rw[if_neg (by omega),show off+2 - off=2 by omega,List.take_set,ga]
  rfl
 ·intro hc;refine⟨wAl _,.inr ⟨g,off+5,cap - 1,cur,rfl,hb,hg,by omega,by unfold maxLen;omega,by omega,E8⟩⟩
 ·intro hc;have ht:t=[]:=by
   apply List.eq_nil_of_length_eq_zero;omega
  subst ht;refine⟨rfl,.inr ⟨g,off,cap - 1,cur,rfl,hb,hg,by simp,by unfold maxLen;omega,by omega,by simp[flat]⟩⟩
theorem zNR{k a b c d e:Int}{t:List R}(h:k<c):tk1 k ⟨a,b,c,d,e⟩ t=⟨a,b,c - k,d,e⟩::t:=by unfold tk1;rw[if_pos h]
theorem zIp{a b c e:Int}{t:List R}:tk1 c ⟨a,b,c,0,e⟩ t=t:=by unfold tk1;rw[if_neg (by simp),if_pos rfl]
theorem zNS{a b c d e:Int}{t:List R}(h:¬d=0):tk1 c ⟨a,b,c,d,e⟩ t=t++[⟨a,b,min e d,d - min e d,e⟩]:=by unfold tk1;rw[if_neg (by simp),if_neg h]
theorem zCN{a b c:World}{row:Option Nat}(h:a.grownBy b row)(k:b.grownBy c row):a.grownBy c row:=
 ⟨k.os.trans h.os,k.tape.trans h.tape,k.output.trans h.output,jM h.size k.size,fun i hi hr=>(k.block i (jC hi h.size) hr).trans (h.block i hi hr)⟩
theorem zBe{a b:World}{row:Option Nat}(h:a.grownBy b row)(o:Obj):a.grownBy (b.alloc o) row:=zCN h (World.grownBy_alloc b o row)
theorem zFc{a b:World}{row:Option Nat}(h:a.grownBy b row):a.grownBy b.drew row:=⟨h.os,h.tape,h.output,h.size,h.block⟩
theorem zLd(w:World)(g j:Nat)(u:Value):w.grownBy (w.setCell ⟨g,j,none⟩ u) (some g):=
 ⟨rfl,rfl,rfl,by simp,fun k _ hk=>heap_setCell_other w ⟨g,j,none⟩ k u (fun e=>hk (by simp[e]))⟩
theorem zFA(base:Nat)(v:Value)(a b c d e k:Int)(t:List R)(w:World)(Hk:OwnQ w base v (⟨a,b,c,d,e⟩::t))(Hq:base≤w.heap.size)(h1:1≤k)(h2:k≤c)(hc:c≤10000)(hd:0≤d)(hd2:d≤10000)(he:0≤e)(he2:e≤10000)(ht:t.length≤100) :
  Calls prog 139 #[v,.int .i64 k] w fun x w'=>∃v',x=.returned v'∧OwnQ w' base v' (tk1 k ⟨a,b,c,d,e⟩ t)∧w.grownBy w' v.ownBlock∧(v'.ownBlock=v.ownBlock∨∃j,v'.ownBlock=some j∧w.heap.size≤j):=by
 obtain⟨Z,hZ⟩:∃Z,tk1 k ⟨a,b,c,d,e⟩ t=Z:=⟨_,rfl⟩;rw[hZ];have HT:Hid (tk1 k ⟨a,b,c,d,e⟩ t=Z):=hZ;clear hZ;obtain⟨i0,hi,gE,gu,gA⟩:=infoR';have HI:Hid (prog.info? 51=some i0):=hi;clear hi;obtain⟨g,off,cap,rfl,ud,UE,GH,gi,⟨c0,c1,c2,c3,c4⟩,hf,PA,-,-⟩:=Hk.form;simp only[] at c0 c1 c2 c3 c4;have hX:=PA (c - k);have Mc:w.grownBy (w.setCell ⟨g,off+2,none⟩ (.int .i64 (c - k))) (some g):=zLd _ _ _ _;have HO:Hid (OwnQ (w.setCell ⟨g,off+2,none⟩ (.int .i64 (c - k))) base (.slice (some ⟨g,off,none⟩) (t.length+1) cap) (⟨a,b,c - k,d,e⟩::t)):=hX;have HB:Hid (w.grownBy (w.setCell ⟨g,off+2,none⟩ (.int .i64 (c - k))) (some g)):=Mc;have hz:base≤(w.setCell ⟨g,off+2,none⟩ (.int .i64 (c - k))).heap.size:=jM Hq Mc.size;clear Hk PA hX Mc;obtain⟨L,hL⟩:∃L,L=t.length+1:=⟨_,rfl⟩;have HL:Hid (t.length+1=L):=hL.symm;rw[←hL] at GH HO ⊢;have pP:(0:Int)<(L:Int):=by omega
 clear hL;have e1:wrap64 (c - k)=c - k:=by unfold wrap64;omega
 have f2:=hf (off+2);clear hf;go_enter func139,ntmps139;go_upto_region 2 with fail
 generalize w.setCell ⟨g,off+2,none⟩ (.int .i64 (c - k))=X at *;obtain⟨g',off',cap',hv,-,Ey,-,-,⟨x0,x1,x2,x3,x4⟩,-,-,H8,ES⟩:=HO.out.form;simp only[Value.slice.injEq,Option.some.injEq,Addr.mk.injEq] at hv;obtain⟨⟨rfl,rfl,-⟩,-,rfl⟩:=hv;simp only[] at x0 x1 x2 x3 x4;have U9:L - 1=t.length:=by have:=HL.out;omega
 have uh:Hid (¬cap=1→OwnQ X base (.slice (some ⟨g,off+5,none⟩) t.length (cap - 1)) t):=H8;have Mw:Hid (cap=1→OwnQ X base (.slice (some ⟨g,off,none⟩) t.length (cap - 1)) t):=ES;clear H8 ES c0 c1 c2 c3 c4 f2 UE;have hL1:(1:Int)≤(L:Int):=by omega
 have hLc:(L:Int)≤(cap:Int):=by omega
 by_cases hk:k<c
 ·have mx:0<c - k:=by omega
  go_wp2_with fail;go_ret;exact⟨_,rfl,by rw[←HT.out,zNR hk];exact HO.out.below ((bzR _ _).alloc (nzR _) _),zBe HB.out _,.inl rfl⟩
 ·have hkc:k=c:=by omega
  subst hkc;rw[Int.sub_self] at x2 HO;by_cases hd0:d=0
  ·subst hd0;by_cases Gn:cap=1
   ·subst Gn;have hr:=Mw.out rfl;clear Mw uh;go_wp2_with fail;go_ret;exact⟨_,rfl,by rw[←HT.out,zIp];exact hr.below ((bzR _ _).alloc (nzR _) _),zBe HB.out _,.inl rfl⟩
   ·have hr:=uh.out Gn;clear Mw uh;go_wp2_with fail;go_ret;exact⟨_,rfl,by rw[←HT.out,zIp];exact hr.below ((bzR _ _).alloc (nzR _) _),zBe HB.out _,.inl rfl⟩
  ·have hd1:(d == 0)=false:=by simp[hd0]
   have Po:min e d≤10000∧0≤min e d∧min e d≤d:=by omega
   have e2:wrap64 (d - min e d)=d - min e d:=by unfold wrap64;omega
   have HZ:Hid (Z=t++[⟨a,b,min e d,d - min e d,e⟩]):=by
    show _=_
    rw[←HT.out,zNS hd0]
   clear HT;go_upto_region 9 with fail
   by_cases Gn:cap=1
   ·subst Gn;have hr:=Mw.out rfl;have HR:Hid (OwnQ (((X.alloc (.cells #[.int .i64 a,.int .i64 b,.int .i64 (min e d),.int .i64 (d - min e d),.int .i64 e] 51)).alloc (.cells #[.int .i64 a,.int .i64 b,.int .i64 (min e d),.int .i64 (d - min e d),.int .i64 e] 51)).drew) base (.slice (some ⟨g,off,none⟩) t.length (1 - 1)) t):=hr.below (((bzR _ _).alloc (nzR _) _).alloc (by simp) _).drew
    have eA:w.grownBy (((X.alloc (.cells #[.int .i64 a,.int .i64 b,.int .i64 (min e d),.int .i64 (d - min e d),.int .i64 e] 51)).alloc (.cells #[.int .i64 a,.int .i64 b,.int .i64 (min e d),.int .i64 (d - min e d),.int .i64 e] 51)).drew) (some g):=zFc (zBe (zBe HB.out _) _);have UO:=World.news_of_block (w:=((X.alloc (.cells #[.int .i64 a,.int .i64 b,.int .i64 (min e d),.int .i64 (d - min e d),.int .i64 e] 51)).alloc (.cells #[.int .i64 a,.int .i64 b,.int .i64 (min e d),.int .i64 (d - min e d),.int .i64 e] 51)).drew) (jA (X.alloc (.cells #[.int .i64 a,.int .i64 b,.int .i64 (min e d),.int .i64 (d - min e d),.int .i64 e] 51)) _)
    have pA:Hid (∀j u,(rV ⟨a,b,min e d,d - min e d,e⟩)[j]?=some u→(((X.alloc (.cells #[.int .i64 a,.int .i64 b,.int .i64 (min e d),.int .i64 (d - min e d),.int .i64 e] 51)).alloc (.cells #[.int .i64 a,.int .i64 b,.int .i64 (min e d),.int .i64 (d - min e d),.int .i64 e] 51)).drew).cell? ((⟨X.heap.size+1,0,none⟩:Addr).add j)=some u):=by
     intro j u hu;have:=UO j u hu;simpa using this
    have s3:Hid (t.length+1≤maxLen):=(by show _≤_;unfold maxLen;omega);have s4:Hid ((t.length+1)*40≤140737488355328):=(by show _≤_;omega);have s5:Hid (base≤(((X.alloc (.cells #[.int .i64 a,.int .i64 b,.int .i64 (min e d),.int .i64 (d - min e d),.int .i64 e] 51)).alloc (.cells #[.int .i64 a,.int .i64 b,.int .i64 (min e d),.int .i64 (d - min e d),.int .i64 e] 51)).drew).heap.size):=(by show _≤_;simp;omega);have s6:Hid (∀u∈rV ⟨a,b,min e d,d - min e d,e⟩,u.oneCell'=true):=by
     intro u hu;simp only[rV,List.mem_cons,List.not_mem_nil,or_false] at hu;rcases hu with rfl|rfl|rfl|rfl|rfl <;>rfl
    have Dh:Hid (w.grownBy (((X.alloc (.cells #[.int .i64 a,.int .i64 b,.int .i64 (min e d),.int .i64 (d - min e d),.int .i64 e] 51)).alloc (.cells #[.int .i64 a,.int .i64 b,.int .i64 (min e d),.int .i64 (d - min e d),.int .i64 e] 51)).drew) (some g)):=eA;clear hr UO eA Mw uh HO HB x0 x1 x2 x3 x4
    go_region_law (refine wAj _ rfl (.tmp 39) (.tmp 41) 52 rfl base 51 i0 zeroR 5 40 underlying52 HI.out gE gu gA rfl (.slice (some ⟨g,off,none⟩) t.length (1 - 1)) t.length (flat t) (by simp[Act.eval]) HR.out ⟨X.heap.size+1,0,none⟩ 1 1 (rV ⟨a,b,min e d,d - min e d,e⟩) (by simp[Act.eval]) rfl pA.out s6.out s3.out s4.out s5.out ?_;intro v' w' gy Hy Gm)
    go_wp2_with fail;go_ret;refine⟨_,rfl,?_,zCN Dh.out Hy,?_⟩
    rotate_left
    ·rcases Gm with h|h
     ·exact .inl h
     ·exact .inr ⟨_,h,Dh.out.size⟩
    rw[HZ.out];show OwnM _ _ _ _ _ _ _
    rw[wAg,jE];exact gy
   ·skip
    have hr:=uh.out Gn;have HR:Hid (OwnQ (((X.alloc (.cells #[.int .i64 a,.int .i64 b,.int .i64 (min e d),.int .i64 (d - min e d),.int .i64 e] 51)).alloc (.cells #[.int .i64 a,.int .i64 b,.int .i64 (min e d),.int .i64 (d - min e d),.int .i64 e] 51)).drew) base (.slice (some ⟨g,off+5,none⟩) t.length (cap - 1)) t):=hr.below (((bzR _ _).alloc (nzR _) _).alloc (by simp) _).drew
    have eA:w.grownBy (((X.alloc (.cells #[.int .i64 a,.int .i64 b,.int .i64 (min e d),.int .i64 (d - min e d),.int .i64 e] 51)).alloc (.cells #[.int .i64 a,.int .i64 b,.int .i64 (min e d),.int .i64 (d - min e d),.int .i64 e] 51)).drew) (some g):=zFc (zBe (zBe HB.out _) _);have UO:=World.news_of_block (w:=((X.alloc (.cells #[.int .i64 a,.int .i64 b,.int .i64 (min e d),.int .i64 (d - min e d),.int .i64 e] 51)).alloc (.cells #[.int .i64 a,.int .i64 b,.int .i64 (min e d),.int .i64 (d - min e d),.int .i64 e] 51)).drew) (jA (X.alloc (.cells #[.int .i64 a,.int .i64 b,.int .i64 (min e d),.int .i64 (d - min e d),.int .i64 e] 51)) _)
    have pA:Hid (∀j u,(rV ⟨a,b,min e d,d - min e d,e⟩)[j]?=some u→(((X.alloc (.cells #[.int .i64 a,.int .i64 b,.int .i64 (min e d),.int .i64 (d - min e d),.int .i64 e] 51)).alloc (.cells #[.int .i64 a,.int .i64 b,.int .i64 (min e d),.int .i64 (d - min e d),.int .i64 e] 51)).drew).cell? ((⟨X.heap.size+1,0,none⟩:Addr).add j)=some u):=by
     intro j u hu;have:=UO j u hu;simpa using this
    have s3:Hid (t.length+1≤maxLen):=(by show _≤_;unfold maxLen;omega);have s4:Hid ((t.length+1)*40≤140737488355328):=(by show _≤_;omega);have s5:Hid (base≤(((X.alloc (.cells #[.int .i64 a,.int .i64 b,.int .i64 (min e d),.int .i64 (d - min e d),.int .i64 e] 51)).alloc (.cells #[.int .i64 a,.int .i64 b,.int .i64 (min e d),.int .i64 (d - min e d),.int .i64 e] 51)).drew).heap.size):=(by show _≤_;simp;omega);have s6:Hid (∀u∈rV ⟨a,b,min e d,d - min e d,e⟩,u.oneCell'=true):=by
     intro u hu;simp only[rV,List.mem_cons,List.not_mem_nil,or_false] at hu;rcases hu with rfl|rfl|rfl|rfl|rfl <;>rfl
    have Dh:Hid (w.grownBy (((X.alloc (.cells #[.int .i64 a,.int .i64 b,.int .i64 (min e d),.int .i64 (d - min e d),.int .i64 e] 51)).alloc (.cells #[.int .i64 a,.int .i64 b,.int .i64 (min e d),.int .i64 (d - min e d),.int .i64 e] 51)).drew) (some g)):=eA;clear hr UO eA Mw uh HO HB x0 x1 x2 x3 x4
    go_region_law (refine wAj _ rfl (.tmp 39) (.tmp 41) 52 rfl base 51 i0 zeroR 5 40 underlying52 HI.out gE gu gA rfl (.slice (some ⟨g,off+5,none⟩) t.length (cap - 1)) t.length (flat t) (by simp[Act.eval]) HR.out ⟨X.heap.size+1,0,none⟩ 1 1 (rV ⟨a,b,min e d,d - min e d,e⟩) (by simp[Act.eval]) rfl pA.out s6.out s3.out s4.out s5.out ?_;intro v' w' gy Hy Gm)
    go_wp2_with fail;go_ret;refine⟨_,rfl,?_,zCN Dh.out Hy,?_⟩
    rotate_left
    ·rcases Gm with h|h
     ·exact .inl h
     ·exact .inr ⟨_,h,Dh.out.size⟩
    rw[HZ.out];show OwnM _ _ _ _ _ _ _
    rw[wAg,jE];exact gy
def fV(f:F):List Value:=[.int .i64 f.id,.int .i64 f.who,.int .i64 f.qty]
def zFB(fs:List F):List Value:=fs.flatMap fV
theorem zGB(a b:List F):zFB (a++b)=zFB a++zFB b:=by unfold zFB;rw[List.flatMap_append]
abbrev OwnF(w:World)(base:Nat)(v:Value)(fs:List F):Prop:=OwnM w base 180 3 v fs.length (zFB fs)
def zQz:Value:=.agg #[.int .i64 0,.int .i64 0,.int .i64 0]
theorem infoF:(prog.info? 180).map (fun i=>(i.zero,i.size,i.bytes))=some (some zQz,3,24):=by kernel_rfl
theorem infoF' : ∃i,prog.info? 180=some i∧i.zero=some zQz∧i.size=3∧i.bytes=24:=by
 have h:=infoF;cases hq:prog.info? 180 with
 | none=>rw[hq] at h;simp at h
 | some i=>
  rw[hq] at h;simp only[Option.map_some,Option.some.injEq,Prod.mk.injEq] at h;exact⟨i,rfl,h.1,h.2.1,h.2.2⟩
structure Held (w0 wr:World) (n0:Int) (z0:List R) (m:Int) (s9 s10:Value) (fs:List F) (ys:List R):Prop where
 m0:0≤m
 f:OwnF wr w0.heap.size s9 fs
 q:OwnQ wr w0.heap.size s10 ys
 dis:∀k,s9.ownBlock=some k→s10.ownBlock≠some k
 good:Good ys
 len:ys.length≤60
 sum:(fs.length:Int)+m≤10000
 eq:take n0 z0=(fs++(take m ys).1,(take m ys).2)
 far:Bw w0 wr
theorem qtyB(n:Int)(h1:1≤n)(h2:n≤10000):[(n,1,10000)].any zAl=false:=by
 simp[zAl];omega
theorem zLe(v:Value)(zs:List R)(n:Int)(w:World)(h:SL w v zs)(h0:qchk zs=0)(h1:1≤n)(h2:n≤10000) :
  Calls prog 109 #[v,.int .i64 n] w fun e w'=>∃fv lv,e=.returned (.tuple #[fv,lv,.nilIface])∧OwnF w' w.heap.size fv (take n zs).1∧OwnQ w' w.heap.size lv (take n zs).2∧Bw w w':=by
 obtain⟨iF,hiF,hf0,M4,hf2⟩:=infoF';have HI:Hid (prog.info? 180=some iF):=hiF;clear hiF;have Hf:=zEX v zs w h;rw[h0,wAa] at Hf;obtain⟨GF,hG⟩:=(zAn zs).1 h0;have HG:Hid (Good zs∧zs.length≤60):=⟨hG,GF⟩;have HS:Hid (SL w v zs):=h;obtain⟨p,c,rfl⟩:=h.form;clear h h0 hG GF;go_enter func109,ntmps109;go_wp2_with fail;refine Hf.mono ?_;rintro e w1⟨rfl,Hc⟩;clear Hf;go_wp2_with fail;refine(zAK n w1).mono ?_;rintro e w2⟨rfl,Ha⟩;go_wp2_with fail;refine(scheck1 false _ _ _ _ _ rfl (qtyB n h1 h2)).mono ?_;rintro e w3⟨rfl,Hr⟩;simp only[show errV (zAd false)=.nilIface from rfl]
 have UK:Bw w w3:=(Hc.trans (Ha.mono Hc.size)).trans (Hr.mono (Hc.trans (Ha.mono Hc.size)).size);clear Hc Ha Hr;go_wp2_with fail;have hSL:SL (w3.alloc (.cells #[.slice p zs.length c] 52)) (.slice p zs.length c) zs:=HS.out.below (UK.alloc UK.size _);have Ub:Bw w (w3.alloc (.cells #[.slice p zs.length c] 52)):=UK.alloc UK.size _;refine(wAG w3.heap.size 1 1 (fun _=>.slice p zs.length c) (fun _=>zs) _ (by omega) ?hc (fun _ _=>hSL) ?hl).mono ?_
 case hc=>
  intro j hj;have:j=0:=by omega
  subst this;simp[go_sem]
 case hl=>
  show ([]++zs).length≤1000
  have:=HG.out.2;simp;omega
 rintro e w4⟨lv,rfl,hO,uI⟩;have hH:Held w w4 n zs n (.slice none 0 0) lv [] zs:=by
  have gy : OwnQ w4 (w3.alloc (.cells #[.slice p zs.length c] 52)).heap.size lv zs:=hO;refine⟨by omega,⟨rfl,.inl ⟨rfl,rfl⟩⟩,?_,?_,HG.out.1,HG.out.2,by simp;omega,by simp,Ub.trans (uI.mono Ub.size)⟩
  ·refine⟨gy.1,?_⟩;rcases gy.2 with hh|⟨g,off,cap,cur,e1,e2,e3⟩
   ·exact .inl hh
   ·exact .inr ⟨g,off,cap,cur,e1,jM Ub.size e2,e3⟩
  ·intro k hk;simp[Value.ownBlock] at hk
 have HH:Hid (Held w w4 n zs n (.slice none 0 0) lv [] zs):=hH;clear hO hH hSL Ub uI UK;go_wp2_with fail;go_loopg [1,9,10,11,12] n.toNat (fun gg s1 s9 s10 _ _ wr=>∃ (m:Int) (fs:List F) (ys:List R),s1=.int .i64 m∧m.toNat≤gg∧Aside (Held w wr n zs m s9 s10 fs ys))
 case atStart=>exact⟨n,[],zs,rfl,nzR _,HH.out⟩
 case round=>
  obtain⟨m,fs,ys,rfl,hg,hH⟩:=hrel;by_cases hm:0<m
  ·cases ys with
   | nil=>
    obtain⟨p',c',hv⟩:=(OwnQ.sl hH.out.q).form;subst hv;have he:=hH.out.eq;rw[zDK] at he;have HE:Hid ((take n zs).1=fs∧(take n zs).2=[]):=(by rw[he];exact⟨by simp,rfl⟩);clear he;go_wp2_with fail
    go_ret3
    exact⟨_,_,rfl,by rw[HE.out.1];exact hH.out.f,by rw[HE.out.2];exact hH.out.q,hH.out.far⟩
   | cons r t=>
    obtain⟨a,b,q,d,e⟩:=r;obtain⟨g,off,cap,hv,ud,UE,GH,gi,⟨c0,c1,c2,c3,c4⟩,-,-,-,-⟩:=(show OwnQ _ _ _ _ from hH.out.q).form
    subst hv;simp only[] at c0 c1 c2 c3 c4;obtain⟨⟨q1,q2⟩,⟨q3,q4⟩,⟨q5,q6⟩,-⟩:=zAq (hH.out.good.1 (⟨a,b,q,d,e⟩:R) (by simp))
    simp only[] at q1 q2 q3 q4 q5 q6;obtain⟨k,hk⟩:∃k,min m q=k:=⟨_,rfl⟩;have my:1≤k:=(by omega);have Gg:k≤q:=(by omega);have uS:k≤m:=(by omega);have e1:wrap64 (m - k)=m - k:=(by have:=hH.out.sum;unfold wrap64;omega);have Hh:t.length≤100:=(by have h:=hH.out.len;rw[jG] at h;omega);have pP:(0:Int)<((t.length+1:Nat):Int):=(by omega);have dP:=hH.out.sum;have HK:Hid (min m q=k):=hk;have MD:Hid (Held w wr n zs m u9 (.slice (some ⟨g,off,none⟩) (t.length+1) cap) fs (⟨a,b,q,d,e⟩::t)):=hH.out;clear hH;obtain⟨L,hL⟩:∃L,L=t.length+1:=⟨_,rfl⟩;have HL:Hid (t.length+1=L):=hL.symm;rw[←hL] at pP MD ⊢;clear hL GH;have hF1:OwnF ((wr.alloc (.cells #[.int .i64 a,.int .i64 b,.int .i64 q,.int .i64 d,.int .i64 e] 51)).alloc (.cells #[.int .i64 a,.int .i64 b,.int .i64 k] 180)) w.heap.size u9 fs:=MD.out.f.below (((bzR _ _).alloc (nzR _) _).alloc (by simp) _)
    have G9:Hid (OwnF ((wr.alloc (.cells #[.int .i64 a,.int .i64 b,.int .i64 q,.int .i64 d,.int .i64 e] 51)).alloc (.cells #[.int .i64 a,.int .i64 b,.int .i64 k] 180)) w.heap.size u9 fs):=hF1;have Bu:OwnQ ((wr.alloc (.cells #[.int .i64 a,.int .i64 b,.int .i64 q,.int .i64 d,.int .i64 e] 51)).alloc (.cells #[.int .i64 a,.int .i64 b,.int .i64 k] 180)) w.heap.size (.slice (some ⟨g,off,none⟩) L cap) (⟨a,b,q,d,e⟩::t):=MD.out.q.below (((bzR _ _).alloc (nzR _) _).alloc (by simp) _)
    have DR:Hid (OwnQ ((wr.alloc (.cells #[.int .i64 a,.int .i64 b,.int .i64 q,.int .i64 d,.int .i64 e] 51)).alloc (.cells #[.int .i64 a,.int .i64 b,.int .i64 k] 180)) w.heap.size (.slice (some ⟨g,off,none⟩) L cap) (⟨a,b,q,d,e⟩::t)):=Bu;have He:Hid (Bw w ((wr.alloc (.cells #[.int .i64 a,.int .i64 b,.int .i64 q,.int .i64 d,.int .i64 e] 51)).alloc (.cells #[.int .i64 a,.int .i64 b,.int .i64 k] 180))):=(MD.out.far.alloc MD.out.far.size _).alloc (by have:=MD.out.far.size;simp;omega) _
    clear hF1 Bu;go_wp2_with (at_builtin;(refine wAe _ rfl _ _ 176 rfl w.heap.size 180 iF zQz 3 24 underlying176 HI.out hf0 M4 hf2 rfl u9 fs.length (zFB fs) rfl G9.out ⟨wr.heap.size+1,0,none⟩ 1 1 [.int .i64 a,.int .i64 b,.int .i64 k] rfl rfl ?c1 ?c2 ?c3 ?c4 ?c5 ?_))
    case c1=>
     have h:=World.news_of_block (cs:=#[.int .i64 a,.int .i64 b,.int .i64 k]) (jA (wr.alloc (.cells #[.int .i64 a,.int .i64 b,.int .i64 q,.int .i64 d,.int .i64 e] 51)) (.cells #[.int .i64 a,.int .i64 b,.int .i64 k] 180));simpa using h
    case c2=>intro u hu;simp at hu;rcases hu with rfl|rfl|rfl <;>rfl
    case c3=>unfold maxLen;omega
    case c4=>omega
    case c5=>exact He.out.size
    intro v9 w5 hO9 bK Em;have hz5:=bK.size;generalize bz:(wr.alloc (.cells #[.int .i64 a,.int .i64 b,.int .i64 q,.int .i64 d,.int .i64 e] 51)).alloc (.cells #[.int .i64 a,.int .i64 b,.int .i64 k] 180)=Wa at *;have ur:wr.heap.size+2=Wa.heap.size:=(by rw[←bz];simp);clear bz;have Eu:(Value.slice (some ⟨g,off,none⟩) L cap).ownBlock=none∨(Value.slice (some ⟨g,off,none⟩) L cap).ownBlock≠u9.ownBlock:=by
     right;intro he;exact MD.out.dis g he.symm rfl
    have eW:OwnQ w5 w.heap.size (.slice (some ⟨g,off,none⟩) L cap) (⟨a,b,q,d,e⟩::t):=DR.out.kept bK Eu;have U4:Bw w w5:=He.out.grown bK He.out.size (fun j hj=>(G9.out.lt j hj).1)
    have h9g:∀j,v9.ownBlock=some j→j≠g:=by
     intro j hj hjg;subst hjg;rcases Em with h9|h9
     ·exact MD.out.dis j (h9.symm.trans hj) rfl
     ·rw[hj] at h9;simp only[Option.some.injEq] at h9;omega
    have HO9:Hid (OwnF w5 w.heap.size v9 (fs++[⟨a,b,k⟩])):=by
     show OwnM _ _ _ _ _ _ _
     rw[zGB,jE];exact hO9
    have HQ5:Hid (OwnQ w5 w.heap.size (.slice (some ⟨g,off,none⟩) L cap) (⟨a,b,q,d,e⟩::t)):=eW;have GX:Hid (Bw w w5):=U4;have H9G:Hid (∀j,v9.ownBlock=some j→j≠g):=h9g;clear hO9 bK Em hz5 ur Eu eW U4 h9g G9 DR He c0 c1 c2 c3 c4;go_wp2_with fail;refine(zFA w.heap.size _ a b q d e k t w5 HQ5.out GX.out.size my Gg q2 q3 q4 q5 q6 Hh).mono ?_;rintro x w6⟨v10,rfl,hO6,CF,El⟩;have hHn:Held w w6 n zs (m - k) v9 v10 (fs++[⟨a,b,k⟩]) (tk1 k ⟨a,b,q,d,e⟩ t):=by
     obtain⟨t1,t2,t3⟩:=zBN MD.out.good my Gg;refine⟨by omega,HO9.out.kept CF ?_,hO6,?_,t1,jM t3 MD.out.len,?_,?_,GX.out.grown CF GX.out.size (fun j hj=>(HQ5.out.lt j hj).1)⟩
     ·cases h9:v9.ownBlock with
      | none=>exact .inl rfl
      | some j=>
       right;intro he;have:j=g:=(by simpa [Value.ownBlock] using he);exact H9G.out j h9 this
     ·intro j hj Ez;rcases El with h6|⟨j',h6,Gh⟩
      ·rw[Ez] at h6;have:j=g:=(by simpa [Value.ownBlock] using h6);exact H9G.out j hj this
      ·rw[Ez] at h6;simp only[Option.some.injEq] at h6;have:=(HO9.out.lt j hj).2;omega
     ·simp only[jE,jG,List.length_nil];omega
     ·have he:=MD.out.eq;rw[zCU m _ t hm MD.out.good] at he;simp only[HK.out] at he;rw[he];simp
    have HHn:Hid (Held w w6 n zs (m - k) v9 v10 (fs++[⟨a,b,k⟩]) (tk1 k ⟨a,b,q,d,e⟩ t)):=hHn;clear hHn hO6 CF El HO9 HQ5 GX H9G MD;go_wp2_with fail;go_roundg (m - k).toNat
    case measure=>omega
    case rel=>exact⟨m - k,_,_,rfl,nzR _,HHn.out⟩
  ·have CK:m≤0:=by omega
   have he:=hH.out.eq;rw[zBT m ys CK] at he;have HE:Hid ((take n zs).1=fs∧(take n zs).2=ys):=by rw[he];exact⟨by simp,rfl⟩
   clear he;go_wp2_with fail
   go_ret3
   exact⟨_,_,rfl,by rw[HE.out.1];exact hH.out.f,by rw[HE.out.2];exact hH.out.q,hH.out.far⟩
end que
namespace mee
open Go.RowKit spn que sid
open ord (O oV mB chk)
def offT(off cap:Nat):Nat:=if cap=1 then off else off+2
theorem zJn(g off n cap:Nat)(q:Option Addr)(c:Nat)(w:World)(hc:n+1≤cap)(hm:cap≤9223372036854775807) :
  Calls prog 111 #[.slice (some ⟨g,off,none⟩) (n+1) cap,.slice q 0 c] w fun e w'=>e=.returned (.slice (some ⟨g,offT off cap,none⟩) n (cap - 1))∧w'=w:=by
 have g1:((n+1:Nat):Int)≤(cap:Int):=by omega
 have g2:(1:Int)≤((n+1:Nat):Int):=by omega
 unfold offT;by_cases h1:cap=1
 ·have hn:n=0:=by omega
  subst h1 hn;go_enter func111,ntmps111;go_wp2_with fail;go_ret;exact⟨rfl,rfl⟩
 ·rw[if_neg h1];go_enter func111,ntmps111;go_wp2_with fail;go_ret;exact⟨rfl,rfl⟩
theorem zJo(g off n cap:Nat)(q:Option Addr)(m c:Nat)(u:Value)(w:World)(hm:0<m)(hu:w.cell? ⟨g,off+1,none⟩=some u)(hf:w.frozen? ⟨g,off+1,none⟩=false) :
  Calls prog 111 #[.slice (some ⟨g,off,none⟩) (n+1) cap,.slice q m c] w fun e w'=>e=.returned (.slice (some ⟨g,off,none⟩) (n+1) cap)∧w'=w.setCell ⟨g,off+1,none⟩ (.slice q m c):=by
 have CK:¬((m:Int)=0):=by omega
 go_enter func111,ntmps111;go_wp2_with fail;go_ret;exact⟨rfl,rfl⟩
theorem zGC{w:World}{base g off n cap:Nat}{x:RP}{ps:List RP}(h:Deep w base (.slice (some ⟨g,off,none⟩) n cap) (x::ps)):n=ps.length+1∧n≤cap∧cap≤9223372036854775807∧Deep w base (.slice (some ⟨g,offT off cap,none⟩) ps.length (cap - 1)) ps:=by
 have ho:=h.own;rw[jH,jK] at ho;rcases ho.2 with ⟨e,_⟩|⟨g',off',cap',cur,e,hb,hg,GH,gi,Gy,ga⟩
 ·cases e
 ·cases e;have hL:(x.1::ps.map (·.1)).length=ps.length+1:=by simp
  have bA:cap≤9223372036854775807:=by simpa [maxLen] using gi
  refine⟨hL,GH,bA,?_,fun p hp=>h.each p (by simp[hp]),(List.pairwise_cons.1 h.apart).2,fun p hp z hz=>h.far p (by simp[hp]) z hz⟩
  rw[jH];show OwnM _ _ _ _ _ _ _
  rw[jP];unfold offT;by_cases h1:cap=1
  ·rw[if_pos h1];have hp:ps=[]:=List.eq_nil_of_length_eq_zero (by omega)
   subst hp;refine⟨rfl,.inr ⟨g,off,cap - 1,cur,rfl,hb,hg,by simp,by unfold maxLen;omega,by omega,by simp[rlv.flat]⟩⟩
  ·rw[if_neg h1];rw[hL] at ga;refine⟨by rw[rlv.wAl,jP],.inr ⟨g,off+2,cap - 1,cur,rfl,hb,hg,by omega,by unfold maxLen;omega,by omega,?_⟩⟩
   have e2:=congrArg (List.drop 2) ga;rw[List.drop_take,List.drop_drop,show (ps.length+1)*2 - 2=ps.length*2 by omega] at e2
   rw[e2];rfl
theorem zGD{w:World}{base:Nat}{v:Value}{x:RP}{ps:List RP}(h:Deep w base v (x::ps)):∃g off cap,v=.slice (some ⟨g,off,none⟩) (ps.length+1) cap∧w.cell? ⟨g,off,none⟩=some (.int .i64 x.1.price)∧w.cell? ⟨g,off+1,none⟩=some (.slice x.1.q x.1.n x.1.c)∧(∀o,w.frozen? ⟨g,o,none⟩=false)∧base≤g∧g<w.heap.size:=by
 have ho:=h.own;rw[jH,jK] at ho;rcases ho.2 with ⟨e,hn⟩|⟨g,off,cap,cur,e,hb,hg,GH,gi,Gy,ga⟩
 ·simp at hn
 ·subst e;obtain⟨-,c0,c1,hf,Hc,Ha⟩:=zDo (a:=[]) ho;exact⟨g,off,cap,by simp,by simpa using c0,by simpa using c1,hf,Hc,Ha⟩
theorem zLf(a b d p q s t:Int)(f1 f2 f3 x:Int)(w:World) :
  Calls prog 110 #[.agg #[.int .i64 a,.int .i64 b,.int .i64 1,.int .i64 d,.int .i64 p,.int .i64 q,.int .i64 s,.int .i64 t],.agg #[.int .i64 f1,.int .i64 f2,.int .i64 f3],.int .i64 x] w fun e w'=>e=.returned (.agg #[.int .i64 f1,.int .i64 a,.int .i64 f2,.int .i64 b,.int .i64 x,.int .i64 f3])∧Bw w w':=by
 go_enter func110,ntmps110;go_wp2_with fail
 go_region
 go_wp2_with fail
 go_returns
 exact⟨rfl,(bal (bal (bal (bal (bzR _ _) _) _) _) _).drew⟩
theorem zJp(a b c d p q s t:Int)(f1 f2 f3 x:Int)(w:World)(hc:¬c=1) :
  Calls prog 110 #[.agg #[.int .i64 a,.int .i64 b,.int .i64 c,.int .i64 d,.int .i64 p,.int .i64 q,.int .i64 s,.int .i64 t],.agg #[.int .i64 f1,.int .i64 f2,.int .i64 f3],.int .i64 x] w fun e w'=>e=.returned (.agg #[.int .i64 f1,.int .i64 a,.int .i64 b,.int .i64 f2,.int .i64 x,.int .i64 f3])∧Bw w w':=by
 have Gn:(c == 1)=false:=by simp[hc]
 go_enter func110,ntmps110;go_wp2_with fail
 go_returns
 exact⟨rfl,bal (bal (bal (bal (bzR _ _) _) _) _) _⟩
end mee
namespace que
open Go.RowKit spn
def LiesF(w:World)(b o:Nat)(fs:List F):Prop:=∀j,j<fs.length→∀i v,(fV fs[j]!)[i]?=some v→w.cell? ⟨b,o+j*3+i,none⟩=some v
def SF(w:World)(v:Value)(fs:List F):Prop:=
 (v=.slice none 0 0∧fs=[])∨∃b o c,v=.slice (some ⟨b,o,none⟩) fs.length c∧fs.length≤9223372036854775807∧b<w.heap.size∧LiesF w b o fs
theorem LiesF.below{w w' : World}{b o:Nat}{fs:List F}(h:LiesF w b o fs)(hb:b<w.heap.size)(hB:Bw w w'):LiesF w' b o fs:=
 fun j hj i v hv=>(hB.cell (p:=⟨b,o+j*3+i,none⟩) hb).trans (h j hj i v hv)
theorem SF.below{w w' : World}{v:Value}{fs:List F}(h:SF w v fs)(hB:Bw w w'):SF w' v fs:=by
 rcases h with h|⟨b,o,c,h1,h2,h3,h4⟩
 ·exact .inl h
 ·exact .inr ⟨b,o,c,h1,h2,jC h3 hB.size,h4.below h3 hB⟩
theorem zLg(fs:List F):∀j,j<fs.length→∀i,i<3→(zFB fs)[j*3+i]?=(fV fs[j]!)[i]?:=by
 induction fs with
 | nil=>intro j hj;simp at hj
 | cons r t ih=>
  intro j hj i hi;have e:zFB (r::t)=fV r++zFB t:=rfl;rw[e];cases j with
  | zero=>rw[Nat.zero_mul,Nat.zero_add,List.getElem?_append_left (by show i<3;exact hi)];rfl
  | succ j=>
   rw[jV (by show 3≤_;omega)]
   have:(j+1)*3+i - (fV r).length=j*3+i:=by show (j+1)*3+i - 3=_;omega
   rw[this,ih j (by simpa using hj) i hi]
   rfl
theorem OwnF.sf{w:World}{base:Nat}{v:Value}{fs:List F}(h:OwnF w base v fs):SF w v fs:=by
 rcases h.2 with ⟨rfl,hn⟩|⟨g,off,cap,cur,rfl,hb,hg,GH,gi,Gy,ga⟩
 ·exact .inl ⟨rfl,List.eq_nil_of_length_eq_zero hn⟩
 ·have bA:cap≤9223372036854775807:=by simpa [maxLen] using gi
  refine .inr ⟨g,off,cap,rfl,by omega,(gzE.1 hg).1,?_⟩
  intro j hj i u hu;have hi:i<3:=(List.getElem?_eq_some_iff.1 hu).1;rw[←zLg fs j hj i hi] at hu;rw[Nat.add_assoc,jZ w g (off+(j*3+i)) cur _ (0,0) hg];rw[←ga,List.getElem?_take] at hu;split at hu
  ·rw[List.getElem?_drop] at hu;simpa using hu
  ·cases hu
theorem zNT{w:World}{b o k:Nat}{fs:List F}(h:LiesF w b o fs)(hk:k<fs.length){r1 r2 r3:Int}(he:fs[k]! = ⟨r1,r2,r3⟩) :
  w.cell? ⟨b,o+k*3,none⟩=some (.int .i64 r1)∧w.cell? ⟨b,o+k*3+1,none⟩=some (.int .i64 r2)∧w.cell? ⟨b,o+k*3+2,none⟩=some (.int .i64 r3):=by
 have hh:=h k hk;rw[he] at hh;exact⟨hh 0 _ rfl,hh 1 _ rfl,hh 2 _ rfl⟩
end que
end Go.Proofs.YtnfilcpnneckkaaGreat
