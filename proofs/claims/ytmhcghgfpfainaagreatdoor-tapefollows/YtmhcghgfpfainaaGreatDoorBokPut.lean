import Derived.Test.YtmhcghgfpfainaaGreatDoorSelAhead
set_option maxHeartbeats 8000000
set_option maxRecDepth 100000
namespace Go.Proofs.YtmhcghgfpfainaaGreatDoor
open Tryz
namespace slf
open Go.RowKit spn que sid bok mee
open ord (O oV mB mE chk)
theorem hidC{P:Prop}(h:P):Hid P:=h
def ComeV(m:Int)(bs ss:List L)(o:O)(w:World)(e:Ending)(w' : World):Prop:=
 (zAt bs ss o=0→∀v,Fine m o (zAr bs ss o) o.qty v→
  (v.ts.length≤400→∃q1 q2 n1 n2 c1 c2 tv iv lf gn,e=.returned (.tuple #[.agg #[.slice q1 n1 c1,.slice q2 n2 c2,tv,.int .i64 lf,.int .i64 gn,iv],.nilIface])∧lf=(if v.ends=true then 0 else v.left)∧gn=(if v.ends=true then v.left else 0)∧LS w' (.slice q1 n1 c1) (repB o bs v.ls)∧LS w' (.slice q2 n2 c2) (repS o ss v.ls)∧OwnT w' w.heap.size tv v.ts∧OwnI w' w.heap.size iv v.ids∧Less (zAr bs ss o) v.ls)∧
  (¬v.ts.length≤400→e=.returned (.tuple #[.agg #[.slice none 0 0,.slice none 0 0,.slice none 0 0,.int .i64 0,.int .i64 0,.slice none 0 0],.iface 80 (.int .i64 4)])))∧
 (¬zAt bs ss o=0→e=.returned (.tuple #[.agg #[.slice none 0 0,.slice none 0 0,.slice none 0 0,.int .i64 0,.int .i64 0,.slice none 0 0],errV (zAt bs ss o)]))∧Bw w w'
structure ComS (K:Prop) (o:O) (bs ss:List L) (w W0 wr:World) (base VB:Nat) (b1 b2 tv iv:Value) (X:List L) (ts:List T) (ids:List Int) (left:Int):Prop where
 far:FarV W0 wr base VB
 s1:SafeS w wr base b1 (repB o bs X)
 s2:SafeS w wr base b2 (repS o ss X)
 less:Less (zAr bs ss o) X
 good:∀l∈X,lchk l=0
 own:OwnT wr base tv ts
 nums:OwnI wr base iv ids
 tl:ts.length≤400
 il:ids.length+(allR X).length≤61
 lf0:0≤left
 lfq:left≤o.qty
 link:K
theorem ComS.below{K:Prop}{o:O}{bs ss:List L}{w W0 wr wr' : World}{base VB:Nat}{b1 b2 tv iv:Value}{X:List L}{ts:List T}{ids:List Int}{left:Int}(h:ComS K o bs ss w W0 wr base VB b1 b2 tv iv X ts ids left)(hB:Bw wr wr')(hb:base≤wr.heap.size):ComS K o bs ss w W0 wr' base VB b1 b2 tv iv X ts ids left:=
 ⟨h.far.trans (FarV.below hB hb),h.s1.below hB,h.s2.below hB,h.less,h.good,OwnM.below h.own hB,OwnM.below h.nums hB,h.tl,h.il,h.lf0,h.lfq,h.link⟩
theorem ComS.free{K:Prop}{o:O}{bs ss:List L}{w W0 wr:World}{base VB:Nat}{b1 b2 tv iv:Value}{X:List L}{ts:List T}{ids:List Int}{left:Int}(h:ComS K o bs ss w W0 wr base VB b1 b2 tv iv X ts ids left):ComS True o bs ss w W0 wr base VB b1 b2 tv iv X ts ids left:=
 ⟨h.far,h.s1,h.s2,h.less,h.good,h.own,h.nums,h.tl,h.il,h.lf0,h.lfq,trivial⟩
theorem zRe{c:Int}{o:O}(ho:o.side=c){bs ss X:List L}{q1 q2:Option Addr}{n1 n2 c1 c2:Nat}{w:World}(h1:LS w (.slice q1 n1 c1) (repB o bs X))(h2:LS w (.slice q2 n2 c2) (repS o ss X)):∃xq xn xc,(if c=1 then Value.slice q2 n2 c2 else .slice q1 n1 c1)=.slice xq xn xc∧LS w (.slice xq xn xc) X:=by
 unfold repB at h1;unfold repS at h2;rw[ho] at h1 h2;by_cases hc:c=1
 ·rw[if_pos hc] at h2 ⊢;exact⟨_,_,_,rfl,h2⟩
 ·rw[if_neg hc] at h1 ⊢;exact⟨_,_,_,rfl,h1⟩
theorem zOP(m:Int)(hm:m=1∨m=2∨m=3)(q1 q2:Option Addr)(n1 n2 c1 c2:Nat)(bs ss:List L)(a b c d p q s t:Int)(w:World)(h1:LS w (.slice q1 n1 c1) bs)(h2:LS w (.slice q2 n2 c2) ss) :
  Calls prog 146 #[.agg #[.slice q1 n1 c1,.slice q2 n2 c2],.agg #[.int .i64 a,.int .i64 b,.int .i64 c,.int .i64 d,.int .i64 p,.int .i64 q,.int .i64 s,.int .i64 t],.int .i64 m] w fun e w'=>ComeV m bs ss ⟨a,b,c,d,p,q,s,t⟩ w e w':=by
 obtain⟨V1,gy⟩:∃V1,V1=w.alloc (.cells #[.slice q1 n1 c1,.slice q2 n2 c2] 50):=⟨_,rfl⟩;have Hm:V1.heap.size=w.heap.size+1:=by rw[gy];simp
 have Ha:Below w.heap.size w V1:=by rw[gy];exact(bzR _ _).alloc (nzR _) _
 have go:V1.heap[w.heap.size]?=some (.cells #[.slice q1 n1 c1,.slice q2 n2 c2] 50 (0,0)):=by rw[gy];exact jA w _
 obtain⟨V2,gl⟩:∃V2,V2=V1.alloc (.cells #[.int .i64 a,.int .i64 b,.int .i64 c,.int .i64 d,.int .i64 p,.int .i64 q,.int .i64 s,.int .i64 t] 40):=⟨_,rfl⟩;have gd:V2.heap.size=w.heap.size+2:=by rw[gl];simp[Hm]
 have Hc:Below V1.heap.size V1 V2:=by rw[gl];exact(bzR _ _).alloc (nzR _) _
 have H5:V2.heap[w.heap.size+1]?=some (.cells #[.int .i64 a,.int .i64 b,.int .i64 c,.int .i64 d,.int .i64 p,.int .i64 q,.int .i64 s,.int .i64 t] 40 (0,0)):=by rw[←Hm,gl];exact jA V1 _
 obtain⟨V,hV⟩:∃V,V=V2.alloc (.cells #[.slice none 0 0,.slice none 0 0,.slice none 0 0,.int .i64 0,.int .i64 0,.slice none 0 0] 242):=⟨_,rfl⟩;have Hr:Below V2.heap.size V2 V:=by rw[hV];exact(bzR _ _).alloc (nzR _) _
 have Gm:V.heap[w.heap.size+2]?=some (.cells #[.slice none 0 0,.slice none 0 0,.slice none 0 0,.int .i64 0,.int .i64 0,.slice none 0 0] 242 (0,0)):=by rw[←gd,hV];exact jA V2 _
 have gj:Below w.heap.size w V:=by
  have h:=Ha.trans (Hc.mono Ha.size);exact h.trans (Hr.mono h.size)
 have gR:V.heap[w.heap.size]?=some (.cells #[.slice q1 n1 c1,.slice q2 n2 c2] 50 (0,0)):=by rw[Hr.block _ (by omega),Hc.block _ (by omega)];exact go
 have Un:V.heap[w.heap.size+1]?=some (.cells #[.int .i64 a,.int .i64 b,.int .i64 c,.int .i64 d,.int .i64 p,.int .i64 q,.int .i64 s,.int .i64 t] 40 (0,0)):=by rw[Hr.block _ (by omega)];exact H5
 obtain⟨P,hP⟩:∃P,P=w.heap.size+2:=⟨_,rfl⟩;obtain⟨G,hG⟩:∃G,G=w.heap.size:=⟨_,rfl⟩;obtain⟨Q,hQ⟩:∃Q,Q=w.heap.size+1:=⟨_,rfl⟩;rw[←hP] at Gm;rw[←hG] at gR;rw[←hQ] at Un;have gY:P<V.heap.size:=(gzE.1 Gm).1;have HP:=hidC (show P=w.heap.size+2∧G=w.heap.size∧Q=w.heap.size+1∧P<V.heap.size from⟨hP,hG,hQ,gY⟩)
 have uB:=hidC gj;have gG:=hidC (zFh q1 q2 n1 n2 c1 c2 bs ss a b c d p q s t V (h1.below gj) (h2.below gj));have Bt:=hidC h1;have HL2:=hidC h2;have HM:=hidC hm;have gi:Hid (∀W e,Below w.heap.size w W→W.heap[P]?=some (.cells #[.slice none 0 0,.slice none 0 0,.slice none 0 0,.int .i64 0,.int .i64 0,.slice none 0 0] 242 (0,0))→((¬zAt bs ss ⟨a,b,c,d,p,q,s,t⟩=0∧errV (zAt bs ss ⟨a,b,c,d,p,q,s,t⟩)=e)∨(zAt bs ss ⟨a,b,c,d,p,q,s,t⟩=0∧e=.iface 80 (.int .i64 4)∧∃v,Fine m ⟨a,b,c,d,p,q,s,t⟩ (zAr bs ss ⟨a,b,c,d,p,q,s,t⟩) q v∧¬v.ts.length≤400))→
   ComeV m bs ss ⟨a,b,c,d,p,q,s,t⟩ w (.returned (.tuple #[.agg #[.slice none 0 0,.slice none 0 0,.slice none 0 0,.int .i64 0,.int .i64 0,.slice none 0 0],e])) ((((((W.setCell ⟨P,0,none⟩ (.slice none 0 0)).setCell ⟨P,1,none⟩ (.slice none 0 0)).setCell ⟨P,2,none⟩ (.slice none 0 0)).setCell ⟨P,3,none⟩ (.int .i64 0)).setCell ⟨P,4,none⟩ (.int .i64 0)).setCell ⟨P,5,none⟩ (.slice none 0 0))∧
   ((((((W.setCell ⟨P,0,none⟩ (.slice none 0 0)).setCell ⟨P,1,none⟩ (.slice none 0 0)).setCell ⟨P,2,none⟩ (.slice none 0 0)).setCell ⟨P,3,none⟩ (.int .i64 0)).setCell ⟨P,4,none⟩ (.int .i64 0)).setCell ⟨P,5,none⟩ (.slice none 0 0)).heap[P]?=some (.cells #[.slice none 0 0,.slice none 0 0,.slice none 0 0,.int .i64 0,.int .i64 0,.slice none 0 0] 242 (0,0))):=fun W e hW hr he=>by
  have Hs:=zQq W P (.slice none 0 0) (.slice none 0 0) (.slice none 0 0) (.int .i64 0) (.int .i64 0) (.slice none 0 0);have UA:=hW.grown Hs hW.size (fun k hk=>by cases hk;have:=HP.out.1;omega)
  refine⟨?_,zLP hr _ _ _ _ _ _⟩;rcases he with ⟨e1,e2⟩|⟨e1,e2,v,e3,e4⟩
  ·exact⟨fun h=>absurd h e1,fun _=>by rw[e2],UA⟩
  ·refine⟨fun _ v' gX=>?_,fun h=>absurd e1 h,UA⟩
   have:=zBo e3 v' gX;subst this;exact⟨fun h=>absurd h e4,fun _=>by rw[e2]⟩
 obtain⟨g0,g1,-⟩:=zAb gR;obtain⟨o0,o1,o2,o3,o4,o5,o6,o7,-⟩:=rowO Un;clear Hm gd Ha Hc Hr go H5 gj h1 h2 gY hm;go_enter func146,ntmps146;go_wp2_with fail;rw[←gy,←gl,←hV];simp only[←hP];simp only[←hQ];simp only[←hG];clear gy gl hV hP hG hQ;refine gG.out.mono ?_;rintro e w1⟨rfl,b1⟩;have He:=hidC b1;have gq:=hidC (uB.out.trans (b1.mono uB.out.size));have uy:=(b1.block P HP.out.2.2.2).trans Gm;have eG:=(b1.block G (gzE.1 gR).1).trans gR;have BK:=(b1.block Q (gzE.1 Un).1).trans Un;clear b1 g0 g1 o0 o1 o2 o3 o4 o5 o6 o7 gG Gm gR Un;by_cases hC:zAt bs ss ⟨a,b,c,d,p,q,s,t⟩=0
 rotate_left
 ·obtain⟨gC,gL⟩:=gi.out w1 _ gq.out uy (.inl ⟨hC,rfl⟩);have Hz:=hidC gC;have Hy:=hidC gL;rw[wAb hC] at Hz ⊢;obtain⟨z0,z1,z2,z3,z4,z5,zf⟩:=rowV uy;have f0:=zf 0;have f1:=zf 1;have f2:=zf 2;have f3:=zf 3;have f4:=zf 4;have f5:=zf 5;generalize zAt bs ss ⟨a,b,c,d,p,q,s,t⟩=kk at *;clear zf gC gL gi uy eG BK;go_wp2_with fail;generalize ((((((w1.setCell ⟨P,0,none⟩ (.slice none 0 0)).setCell ⟨P,1,none⟩ (.slice none 0 0)).setCell ⟨P,2,none⟩ (.slice none 0 0)).setCell ⟨P,3,none⟩ (.int .i64 0)).setCell ⟨P,4,none⟩ (.int .i64 0)).setCell ⟨P,5,none⟩ (.slice none 0 0))=Z at *;obtain⟨y0,y1,y2,y3,y4,y5,-⟩:=rowV Hy.out;exact jN (v:=.tuple #[.agg #[.slice none 0 0,.slice none 0 0,.slice none 0 0,.int .i64 0,.int .i64 0,.slice none 0 0],.iface 80 (.int .i64 kk)]) (by simp[results,results146,go_sem,y0,y1,y2,y3,y4,y5]) rfl Hz.out
 have HC:=hidC hC;rw[hC,wAa];obtain⟨uo,gF,-,-⟩:=zAF hC;have HQ:=hidC (zLH gF);have HOG:=hidC (wAp (o:=⟨a,b,c,d,p,q,s,t⟩) uo);have gN:=hidC gF;obtain⟨v,hv⟩:=zEn (o:=⟨a,b,c,d,p,q,s,t⟩) (k:=q) HM.out HOG.out;have HV:=hidC hv;have H60:Hid ((allR (zAr bs ss ⟨a,b,c,d,p,q,s,t⟩)).length≤60):=by
  obtain⟨e1,e2,-⟩:=zAe uo;show _≤_
  unfold zAr;split
  ·exact zCB e2
  ·exact zCB e1
 clear hC uo gF hv;have Hu:Below w1.heap.size w1 (w1.alloc (.cells #[.slice q1 n1 c1,.slice q2 n2 c2,.slice none 0 0,.int .i64 q,.int .i64 0,.slice none 0 0] 242)):=(bzR _ _).alloc (nzR _) _;have bH:(w1.alloc (.cells #[.slice q1 n1 c1,.slice q2 n2 c2,.slice none 0 0,.int .i64 q,.int .i64 0,.slice none 0 0] 242)).heap[w1.heap.size]?=some (.cells #[.slice q1 n1 c1,.slice q2 n2 c2,.slice none 0 0,.int .i64 q,.int .i64 0,.slice none 0 0] 242 (0,0)):=jA w1 _;obtain⟨g0,g1,-⟩:=zAb eG;obtain⟨o0,o1,o2,o3,o4,o5,o6,o7,-⟩:=rowO BK;have HPa:=hidC ((Hu.block P (gzE.1 uy).1).trans uy);have HQa:=hidC ((Hu.block Q (gzE.1 BK).1).trans BK);have M7:=hidC (gq.out.trans (Hu.mono gq.out.size));have D6:=hidC (show V.heap.size≤w1.heap.size∧w.heap.size≤w1.heap.size from⟨He.out.size,gq.out.size⟩)
 clear Hu uy eG BK;go_upto_region 5 with fail
 clear g0 g1 o0 o1 o2 o3 o4 o5 o6 o7;generalize w1.alloc (.cells #[.slice q1 n1 c1,.slice q2 n2 c2,.slice none 0 0,.int .i64 q,.int .i64 0,.slice none 0 0] 242)=W0 at *;generalize w1.heap.size=VB at *;have Ef:VB<W0.heap.size:=(gzE.1 bH).1;have DY:=hidC (show ComS (Link m ⟨a,b,c,d,p,q,s,t⟩ v (zAr bs ss ⟨a,b,c,d,p,q,s,t⟩) [] [] q 0) ⟨a,b,c,d,p,q,s,t⟩ bs ss w W0 W0 (VB+1) VB (.slice q1 n1 c1) (.slice q2 n2 c2) (.slice none 0 0) (.slice none 0 0) (zAr bs ss ⟨a,b,c,d,p,q,s,t⟩) [] [] q from by
  obtain⟨e1,e2⟩:=zOE ⟨a,b,c,d,p,q,s,t⟩ bs ss;exact⟨FarV.refl _ _ _,by rw[e1];exact .inl Bt.out,by rw[e2];exact .inl HL2.out,Less.refl _,HOG.out,⟨rfl,.inl ⟨rfl,rfl⟩⟩,⟨rfl,.inl ⟨rfl,rfl⟩⟩,by simp,by have:=H60.out;simp;omega,by have:=HQ.out;omega,jY _,zJR HV.out (by have:=HQ.out;omega)⟩)
 have Gq:=hidC (show VB+1≤W0.heap.size∧P<VB∧Q<VB∧w.heap.size≤VB from⟨Ef,by have h1:=HP.out;have h2:=D6.out;omega,by have h1:=HP.out;have h2:=D6.out;omega,D6.out.2⟩)
 have UZ:Hid (∀wr,FarV W0 wr (VB+1) VB→Below w.heap.size w wr∧wr.heap[P]?=some (.cells #[.slice none 0 0,.slice none 0 0,.slice none 0 0,.int .i64 0,.int .i64 0,.slice none 0 0] 242 (0,0))∧wr.heap[Q]?=some (.cells #[.int .i64 a,.int .i64 b,.int .i64 c,.int .i64 d,.int .i64 p,.int .i64 q,.int .i64 s,.int .i64 t] 40 (0,0))):=fun wr hf=>by
  have hn:=Gq.out;exact⟨FarV.ahead M7.out hf (by omega) (by omega),(hf.block P (by omega) (by omega)).trans HPa.out,(hf.block Q (by omega) (by omega)).trans HQa.out⟩
 have gQ:Hid (∀wr u1 u2 m1 m2 k1 k2 tv iv X ts ids left gone,ComS True ⟨a,b,c,d,p,q,s,t⟩ bs ss w W0 wr (VB+1) VB (.slice u1 m1 k1) (.slice u2 m2 k2) tv iv X ts ids left→Fin v X ts ids left gone→
   ComeV m bs ss ⟨a,b,c,d,p,q,s,t⟩ w (.returned (.tuple #[.agg #[.slice u1 m1 k1,.slice u2 m2 k2,tv,.int .i64 left,.int .i64 gone,iv],.nilIface])) ((((((wr.setCell ⟨P,0,none⟩ (.slice u1 m1 k1)).setCell ⟨P,1,none⟩ (.slice u2 m2 k2)).setCell ⟨P,2,none⟩ tv).setCell ⟨P,3,none⟩ (.int .i64 left)).setCell ⟨P,4,none⟩ (.int .i64 gone)).setCell ⟨P,5,none⟩ iv)∧
   ((((((wr.setCell ⟨P,0,none⟩ (.slice u1 m1 k1)).setCell ⟨P,1,none⟩ (.slice u2 m2 k2)).setCell ⟨P,2,none⟩ tv).setCell ⟨P,3,none⟩ (.int .i64 left)).setCell ⟨P,4,none⟩ (.int .i64 gone)).setCell ⟨P,5,none⟩ iv).heap[P]?=some (.cells #[.slice u1 m1 k1,.slice u2 m2 k2,tv,.int .i64 left,.int .i64 gone,iv] 242 (0,0))):=fun wr u1 u2 m1 m2 k1 k2 tv iv X ts ids left gone hS hF=>by
  have hn:=Gq.out;obtain⟨hw,Mb,-⟩:=UZ.out wr hS.far;have Hs:=zQq wr P (.slice u1 m1 k1) (.slice u2 m2 k2) tv (.int .i64 left) (.int .i64 gone) iv;have UA:=hw.grown Hs hw.size (fun k hk=>by cases hk;have:=HP.out.1;omega)
  refine⟨⟨fun _ v' gX=>?_,fun h=>absurd HC.out h,UA⟩,zLP Mb _ _ _ _ _ _⟩
  have:=zBo HV.out v' gX;subst this;obtain⟨f1,f2,f3,f4,f5⟩:=hF;refine⟨fun _=>⟨u1,u2,m1,m2,k1,k2,tv,iv,left,gone,rfl,f4,f5,?_,?_,?_,?_,?_⟩,fun h=>absurd (by rw[f2];exact hS.tl) h⟩
  ·rw[f1];exact(hS.s1.row Hs (by omega)).ls UA
  ·rw[f1];exact(hS.s2.row Hs (by omega)).ls UA
  ·rw[f2];exact OwnM.mono (zAl hS.own Hs (fun z hz e=>by cases e;have:=(OwnM.lt hS.own P hz).1;omega)) (by omega)
  ·rw[f3];exact OwnM.mono (zAl hS.nums Hs (fun z hz e=>by cases e;have:=(OwnM.lt hS.nums P hz).1;omega)) (by omega)
  ·rw[f1];exact hS.less
 have HRa:=hidC bH;clear bH Ef HPa HQa;go_loopg [10,11,12,13,14] (63) (fun gg _ _ _ _ _ wr=>∃u1 u2 m1 m2 k1 k2 tv iv X ts ids left gone,wr.heap[VB]?=some (.cells #[.slice u1 m1 k1,.slice u2 m2 k2,tv,.int .i64 left,.int .i64 gone,iv] 242 (0,0))∧(0<left→(allR X).length+1≤gg)∧Aside (ComS (Link m ⟨a,b,c,d,p,q,s,t⟩ v X ts ids left gone) ⟨a,b,c,d,p,q,s,t⟩ bs ss w W0 wr (VB+1) VB (.slice u1 m1 k1) (.slice u2 m2 k2) tv iv X ts ids left))
 case atStart=>exact⟨_,_,_,_,_,_,_,_,_,_,_,_,_,HRa.out,fun _=>by have:=H60.out;omega,DY.out⟩
 case round=>
  obtain⟨u1,u2,m1,m2,k1,k2,tv,iv,X,ts,ids,left,gone,Hd,MW,HI⟩:=hrel;have HS:=hidC HI.out;have Dy:=hidC MW;clear HI MW DY HRa;obtain⟨tq,tn,tc,Bg⟩:∃tq tn tc,tv=.slice tq tn tc:=by obtain⟨x,y,z⟩:=OwnM.form HS.out.own;exact⟨x,_,y,z⟩
  obtain⟨iq,jn,ic,hiv⟩:∃iq jn ic,iv=.slice iq jn ic:=by obtain⟨x,y,z⟩:=OwnM.form HS.out.nums;exact⟨x,_,y,z⟩
  subst Bg;subst hiv;obtain⟨x0,x1,x2,x3,x4,x5,-⟩:=rowV Hd;obtain⟨hw,Mb,E4⟩:=UZ.out wr HS.out.far;by_cases hp:0<left
  rotate_left
  ·obtain⟨gC,gL⟩:=gQ.out _ _ _ _ _ _ _ _ _ _ _ _ _ _ HS.out.free (zOG HS.out.link hp);have Hz:=hidC gC;have Hy:=hidC gL;obtain⟨z0,z1,z2,z3,z4,z5,zf⟩:=rowV Mb;have f0:=zf 0;have f1:=zf 1;have f2:=zf 2;have f3:=zf 3;have f4:=zf 4;have f5:=zf 5;clear zf gC gL gQ gi UZ Mb E4 hw Hd;go_wp2_with fail;generalize ((((((wr.setCell ⟨P,0,none⟩ (.slice u1 m1 k1)).setCell ⟨P,1,none⟩ (.slice u2 m2 k2)).setCell ⟨P,2,none⟩ (.slice tq tn tc)).setCell ⟨P,3,none⟩ (.int .i64 left)).setCell ⟨P,4,none⟩ (.int .i64 gone)).setCell ⟨P,5,none⟩ (.slice iq jn ic))=Z at *;obtain⟨y0,y1,y2,y3,y4,y5,-⟩:=rowV Hy.out;exact jN (v:=.tuple #[.agg #[.slice u1 m1 k1,.slice u2 m2 k2,.slice tq tn tc,.int .i64 left,.int .i64 gone,.slice iq jn ic],.nilIface]) (by simp[results,results146,go_sem,y0,y1,y2,y3,y4,y5]) rfl Hz.out
  have hn:=Gq.out;have hLK:=zJS HM.out HS.out.link hp HS.out.good;obtain⟨A1,GI⟩:∃A1,(zAj ⟨a,b,c,d,p,q,s,t⟩ X).1=A1:=⟨_,rfl⟩;obtain⟨A2,Ul⟩:∃A2,(zAj ⟨a,b,c,d,p,q,s,t⟩ X).2=A2:=⟨_,rfl⟩;have HAH:Hid (Calls prog 164 #[.agg #[.slice u1 m1 k1,.slice u2 m2 k2],.agg #[.int .i64 a,.int .i64 b,.int .i64 c,.int .i64 d,.int .i64 p,.int .i64 q,.int .i64 s,.int .i64 t]] wr fun e w'=>e=.returned (.tuple #[.int .i64 A1,.int .i64 A2,.nilIface])∧Below wr.heap.size wr w'):=by
   obtain⟨xq,xn,xc,hx,hX⟩:=zRe (c:=c) (o:=⟨a,b,c,d,p,q,s,t⟩) rfl (HS.out.s1.ls hw) (HS.out.s2.ls hw);have h:=zMf u1 u2 xq m1 m2 k1 k2 xn xc X a b c d p q s t wr hx hX HS.out.good (by have h1:=HS.out.less.len;have h2:=H60.out;rw[zAP];omega) gN.out
   rw[GI,Ul] at h;exact h
  obtain⟨K,hK⟩:∃K,min A1 left=K:=⟨_,rfl⟩;rw[GI,Ul,hK] at hLK;obtain⟨rfl,k2z,k3,k4,k5,k6⟩:=hLK;have hKb:0≤K∧K≤left:=by clear k4 k5 k6 k2z;omega
  have HK:=hidC hKb;clear hKb;have Bv:=hidC k4;have uY:=hidC k5;have HON:=hidC k6;have HTZ:=hidC k2z;have uw:=hidC hK;obtain⟨o0,o1,o2,o3,o4,o5,o6,o7,-⟩:=rowO E4;clear k2z k3 k4 k5 k6 GI Ul Mb hw;go_wp2_with fail;refine HAH.out.mono ?_;rintro e w2⟨rfl,b2⟩;have uX:=hidC (HS.out.below b2 (by have:=HS.out.far.size;omega))
  have PA:=(b2.block VB (gzE.1 Hd).1).trans Hd;have E5:=(b2.block Q (gzE.1 E4).1).trans E4;clear b2 HAH x0 x1 x2 x3 x4 x5 o0 o1 o2 o3 o4 o5 o6 o7 Hd E4 HS;obtain⟨x0,x1,x2,x3,x4,x5,-⟩:=rowV PA;obtain⟨o0,o1,o2,o3,o4,o5,o6,o7,-⟩:=rowO E5;have my:=hidC (zLT w VB (VB+1) u1 u2 m1 m2 k1 k2 (.slice tq tn tc) (.slice iq jn ic) bs ss X ts ids left 0 K a b c d p q s t w2 PA (UZ.out w2 uX.out.far).1 uX.out.s1 uX.out.s2 uX.out.own uX.out.nums (Nat.lt_succ_self _) (by have:=uX.out.far.size;omega) uX.out.tl uX.out.good HK.out.1 HK.out.2 uX.out.lfq HQ.out.2 HC.out uX.out.less HTZ.out)
  obtain⟨TK,BO⟩:∃TK,tkl ⟨a,b,c,d,p,q,s,t⟩ X K=TK:=⟨_,rfl⟩;have Ua:=hidC BO;clear BO PA E5 hn;go_wp2_with fail;refine my.out.mono ?_;rintro e w3⟨i1,i2,hf3⟩;rw[Ua.out] at i1 i2;have PR:=hidC (uX.out.far.trans hf3);have HN3:=hidC (show VB+1≤w3.heap.size from by have h1:=uX.out.far.size;have h2:=hf3.size;have h3:=Gq.out;omega)
  clear hf3 my x0 x1 x2 x3 x4 x5 o0 o1 o2 o3 o4 o5 o6 o7;by_cases h4:(ts++TK.2.1).length≤400
  rotate_left
  ·have e4:=i2 h4;subst e4;obtain⟨pk,Mc,-⟩:=UZ.out w3 PR.out;obtain⟨gC,gL⟩:=gi.out w3 _ pk Mc (.inr ⟨HC.out,rfl,v,HV.out,Bv.out (by rw[Ua.out];exact h4)⟩)
   have Hz:=hidC gC;have Hy:=hidC gL;obtain⟨z0,z1,z2,z3,z4,z5,zf⟩:=rowV Mc;have f0:=zf 0;have f1:=zf 1;have f2:=zf 2;have f3:=zf 3;have f4:=zf 4;have f5:=zf 5;clear zf gC gL gQ gi UZ Mc pk i1 i2 h4;go_wp2_with fail;generalize ((((((w3.setCell ⟨P,0,none⟩ (.slice none 0 0)).setCell ⟨P,1,none⟩ (.slice none 0 0)).setCell ⟨P,2,none⟩ (.slice none 0 0)).setCell ⟨P,3,none⟩ (.int .i64 0)).setCell ⟨P,4,none⟩ (.int .i64 0)).setCell ⟨P,5,none⟩ (.slice none 0 0))=Z at *;obtain⟨y0,y1,y2,y3,y4,y5,-⟩:=rowV Hy.out;exact jN (v:=.tuple #[.agg #[.slice none 0 0,.slice none 0 0,.slice none 0 0,.int .i64 0,.int .i64 0,.slice none 0 0],.iface 80 (.int .i64 4)]) (by simp[results,results146,go_sem,y0,y1,y2,y3,y4,y5]) rfl Hz.out
  obtain⟨rfl,v1,v2,l1,l2,d1,d2,tv3,mj,S13,S23,T3,I3⟩:=i1 h4;obtain⟨yq,yn,yc,hyv⟩:∃yq yn yc,tv3=.slice yq yn yc:=by obtain⟨x,y,z⟩:=OwnM.form T3;exact⟨x,_,y,z⟩
  subst hyv;obtain⟨LF,eM⟩:∃LF,left - K=LF:=⟨_,rfl⟩;rw[eM] at mj;have M3:=hidC eM;have Mk:=hidC (show (∀l∈TK.1,lchk l=0)∧Less (zAr bs ss ⟨a,b,c,d,p,q,s,t⟩) TK.1 from by
   rw[←Ua.out];exact⟨zII HK.out.1 uX.out.good,uX.out.less.trans (zDT HK.out.1 uX.out.good)⟩)
  have HCN:=hidC (show (allR TK.1).length≤(allR X).length from by rw[←Ua.out];exact(zDT HK.out.1 uX.out.good).len)
  have HS13:=hidC S13;have HS23:=hidC S23;have GY:=hidC T3;have HI3:=hidC I3;have H4:=hidC h4;have D5 : Hid ((LF=0∨A2=0)→Fin v TK.1 (ts++TK.2.1) ids LF 0):=by
   have h:=uY.out;rw[Ua.out,eM] at h;exact h
  have DH : Hid (¬LF=0→¬A2=0→∃p' r rs t',TK.1=⟨p',r::rs⟩::t'∧r.id=A2∧Link m ⟨a,b,c,d,p,q,s,t⟩ v (zBI m p' r rs t') (ts++TK.2.1) (zDH m ids r.id) (zBN m LF) (zEo m 0 LF)):=by
   have h:=HON.out;rw[Ua.out,eM] at h;exact h
  have HLB:=hidC (show 0≤LF∧LF≤q from by have h1:=HK.out;have h2:=uX.out.lfq;simp only[] at h2;omega)
  have UR:=hidC (show (allR X).length+1≤gk from Dy.out hp)
  have HIL:=hidC uX.out.il;have M5:=hidC (show ComS True ⟨a,b,c,d,p,q,s,t⟩ bs ss w W0 w3 (VB+1) VB (.slice v1 l1 d1) (.slice v2 l2 d2) (.slice yq yn yc) (.slice iq jn ic) TK.1 (ts++TK.2.1) ids LF from⟨PR.out,S13,S23,Mk.out.2,Mk.out.1,T3,I3,h4,by have h1:=HIL.out;have h2:=HCN.out;omega,HLB.out.1,HLB.out.2,trivial⟩)
  obtain⟨pk,Mc,-⟩:=UZ.out w3 PR.out;obtain⟨x0,x1,x2,x3,x4,x5,-⟩:=rowV mj;clear i1 i2 S13 S23 T3 I3 eM HS13 HS23 GY HI3 uY HON uX;by_cases Gc:LF=0∨A2=0
  ·obtain⟨gC,gL⟩:=gQ.out _ _ _ _ _ _ _ _ _ _ _ _ _ _ M5.out (D5.out Gc);have Hz:=hidC gC;have Hy:=hidC gL;obtain⟨z0,z1,z2,z3,z4,z5,zf⟩:=rowV Mc;have f0:=zf 0;have f1:=zf 1;have f2:=zf 2;have f3:=zf 3;have f4:=zf 4;have f5:=zf 5;clear zf gC gL gQ gi UZ Mc pk mj;have HDONE:Hid (∀Z:World,Z.heap[P]?=some (.cells #[.slice v1 l1 d1,.slice v2 l2 d2,.slice yq yn yc,.int .i64 LF,.int .i64 0,.slice iq jn ic] 242 (0,0))→ComeV m bs ss ⟨a,b,c,d,p,q,s,t⟩ w (.returned (.tuple #[.agg #[.slice v1 l1 d1,.slice v2 l2 d2,.slice yq yn yc,.int .i64 LF,.int .i64 0,.slice iq jn ic],.nilIface])) Z→True):=fun _ _ _=>trivial
   by_cases ub:A2=0
   ·subst ub;go_wp2_with fail;generalize ((((((w3.setCell ⟨P,0,none⟩ (.slice v1 l1 d1)).setCell ⟨P,1,none⟩ (.slice v2 l2 d2)).setCell ⟨P,2,none⟩ (.slice yq yn yc)).setCell ⟨P,3,none⟩ (.int .i64 LF)).setCell ⟨P,4,none⟩ (.int .i64 0)).setCell ⟨P,5,none⟩ (.slice iq jn ic))=Z at *;obtain⟨y0,y1,y2,y3,y4,y5,-⟩:=rowV Hy.out;exact jN (v:=.tuple #[.agg #[.slice v1 l1 d1,.slice v2 l2 d2,.slice yq yn yc,.int .i64 LF,.int .i64 0,.slice iq jn ic],.nilIface]) (by simp[results,results146,go_sem,y0,y1,y2,y3,y4,y5]) rfl Hz.out
   ·have eo:(A2 == 0)=false:=(by simp[ub]);have bA:LF=0:=Gc.resolve_right ub;subst bA;go_wp2_with fail;generalize ((((((w3.setCell ⟨P,0,none⟩ (.slice v1 l1 d1)).setCell ⟨P,1,none⟩ (.slice v2 l2 d2)).setCell ⟨P,2,none⟩ (.slice yq yn yc)).setCell ⟨P,3,none⟩ (.int .i64 0)).setCell ⟨P,4,none⟩ (.int .i64 0)).setCell ⟨P,5,none⟩ (.slice iq jn ic))=Z at *;obtain⟨y0,y1,y2,y3,y4,y5,-⟩:=rowV Hy.out;exact jN (v:=.tuple #[.agg #[.slice v1 l1 d1,.slice v2 l2 d2,.slice yq yn yc,.int .i64 0,.int .i64 0,.slice iq jn ic],.nilIface]) (by simp[results,results146,go_sem,y0,y1,y2,y3,y4,y5]) rfl Hz.out
  ·have bA:¬LF=0:=fun h=>Gc (.inl h)
   have ub:¬A2=0:=fun h=>Gc (.inr h)
   have eo:(A2 == 0)=false:=by simp[ub]
   have hL0b:(LF == 0)=false:=by simp[bA]
   obtain⟨p',r,rs,t',e1,e2,e3⟩:=DH.out bA ub;have Bo:=hidC e1;have Dj:=hidC e3;have dC:=Mk.out;rw[e1] at dC;have Uy:=M5.out;rw[e1] at Uy;have uo:zAc (repB ⟨a,b,c,d,p,q,s,t⟩ bs (⟨p',r::rs⟩::t')) (repS ⟨a,b,c,d,p,q,s,t⟩ ss (⟨p',r::rs⟩::t'))=0:=zCe (zAF HC.out).1 dC.2;have Gl:=Gq.out;have mr:=hidC (zMc w m HM.out VB (VB+1) ⟨a,b,c,d,p,q,s,t⟩ v1 v2 l1 l2 d1 d2 (.slice yq yn yc) (.slice iq jn ic) bs ss p' r rs t' (ts++TK.2.1) ids LF 0 w3 mj pk Uy.s1 Uy.s2 uo Uy.own Uy.nums (Nat.lt_succ_self _) HN3.out (by have:=Uy.il;omega))
   rw[e2] at mr;have Do:=hidC (show (∀l∈zBI m p' r rs t',lchk l=0)∧Less (zAr bs ss ⟨a,b,c,d,p,q,s,t⟩) (zBI m p' r rs t') from⟨zJU dC.1,dC.2.trans (zJT dC.1)⟩)
   have bn:=hidC (show (zDH m ids A2).length+(allR (zBI m p' r rs t')).length≤61∧(m=2→(allR (zBI m p' r rs t')).length+1≤(allR X).length)∧(¬m=2→zBN m LF=0)∧0≤zBN m LF∧zBN m LF≤q from by
    have h1:=Uy.il;have h2:=HCN.out;rw[Bo.out] at h2;have h3:=HLB.out;have hc:m≠1→(allR (zBI m p' r rs t')).length+1=(allR (⟨p',r::rs⟩::t')).length:=fun h=>by
     unfold zBI;rw[if_neg h,zBX,zAq];simp only[jE,jG];omega
    refine⟨?_,?_,?_,?_,?_⟩
    ·by_cases h1m:m=1
     ·subst h1m;unfold zDH zBI;rw[if_pos rfl,if_pos rfl];exact h1
     ·have:=hc h1m;unfold zDH;rw[if_neg h1m,jE];simp only[List.length_singleton];omega
    ·intro eh;have:=hc (by omega)
     omega
    ·intro eh;exact if_neg eh
    ·unfold zBN;split <;>omega
    ·unfold zBN;split <;>omega)
   clear dC Uy uo e1 Mc pk Gc D5 DH mj;go_wp2_with fail;refine mr.out.mono ?_;rintro e w4⟨rfl,hf4,y1,y2,j1,j2,f1,f2,iv4,cu,S14,S24,T4,I4⟩;have M4:=hidC cu;have HS4:=hidC (show ComS (Link m ⟨a,b,c,d,p,q,s,t⟩ v (zBI m p' r rs t') (ts++TK.2.1) (zDH m ids A2) (zBN m LF) (zEo m 0 LF)) ⟨a,b,c,d,p,q,s,t⟩ bs ss w W0 w4 (VB+1) VB (.slice y1 j1 f1) (.slice y2 j2 f2) (.slice yq yn yc) iv4 (zBI m p' r rs t') (ts++TK.2.1) (zDH m ids A2) (zBN m LF) from
    ⟨PR.out.trans hf4,S14,S24,Do.out.2,Do.out.1,T4,I4,H4.out,bn.out.1,bn.out.2.2.2.1,bn.out.2.2.2.2,by rw[←e2];exact Dj.out⟩)
   clear cu S14 S24 T4 I4 hf4 x0 x1 x2 x3 x4 x5 eo hL0b;go_wp2_with fail;by_cases eh:m=2
   ·go_roundg ((allR (zBI m p' r rs t')).length+1)
    case measure=>
     have h1:=bn.out.2.1 eh;have h2:=UR.out;omega
    case rel=>exact⟨_,_,_,_,_,_,_,_,_,_,_,_,_,M4.out,fun _=>nzR _,HS4.out⟩
   ·go_roundg 0
    case measure=>
     have h2:=UR.out;omega
    case rel=>exact⟨_,_,_,_,_,_,_,_,_,_,_,_,_,M4.out,fun h=>by have:=bn.out.2.2.1 eh;omega,HS4.out⟩
end slf
namespace bok
open Go.RowKit spn que sid
def put1(bs:List L)(s p:Int)(r:R):List L:=if s=1 then putL s p r bs else bs
def put2(ss:List L)(s p:Int)(r:R):List L:=if s=1 then ss else putL s p r ss
def putE(bs ss:List L)(s p:Int)(r:R):Int:=
 if zAc bs ss=0 then (if addE s (if s=1 then bs else ss) p r=0 then zAc (put1 bs s p r) (put2 ss s p r) else addE s (if s=1 then bs else ss) p r) else zAc bs ss
def PutPostD(bs ss:List L)(s p:Int)(r:R)(w:World)(e:Ending)(w' : World):Prop:=
 ∃q1 q2 n1 n2 c1 c2,e=.returned (.tuple #[.agg #[.slice q1 n1 c1,.slice q2 n2 c2],errV (putE bs ss s p r)])∧DL w' w.heap.size (.slice q1 n1 c1) (if putE bs ss s p r=0 then put1 bs s p r else [])∧DL w' w.heap.size (.slice q2 n2 c2) (if putE bs ss s p r=0 then put2 ss s p r else [])∧Bw w w'
theorem zEs{bs ss:List L}{s p:Int}{r:R}{w W:World}{k:Int}(h:putE bs ss s p r=k)(hk:¬k=0)(hW:Bw w W):PutPostD bs ss s p r w (.returned (.tuple #[.agg #[.slice none 0 0,.slice none 0 0],.iface 80 (.int .i64 k)])) W:=
 ⟨none,none,0,0,0,0,by rw[h,wAb hk],by rw[h,if_neg hk];exact zFe _ _,by rw[h,if_neg hk];exact zFe _ _,hW⟩
theorem zOQ(s p:Int)(q1 q2:Option Addr)(n1 n2 c1 c2:Nat)(a b c d e:Int)(bs ss:List L)(w:World)(h1:LS w (.slice q1 n1 c1) bs)(h2:LS w (.slice q2 n2 c2) ss)(h0:¬zAc bs ss=0) :
  Calls prog 168 #[.agg #[.slice q1 n1 c1,.slice q2 n2 c2],.int .i64 s,.int .i64 p,.agg #[.int .i64 a,.int .i64 b,.int .i64 c,.int .i64 d,.int .i64 e]] w fun x w'=>PutPostD bs ss s p ⟨a,b,c,d,e⟩ w x w':=by
 have gN:=fun W(hW:Bw w W)=>wAf q1 q2 n1 n2 c1 c2 bs ss W (h1.below hW) (h2.below hW)
 rw[wAb h0] at gN;have gi:Hid (∀W,Bw w W→PutPostD bs ss s p ⟨a,b,c,d,e⟩ w (.returned (.tuple #[.agg #[.slice none 0 0,.slice none 0 0],.iface 80 (.int .i64 (zAc bs ss))])) W):=fun W hW=>zEs (by unfold putE;rw[if_neg h0]) h0 hW
 obtain⟨V,hV⟩:∃V,V=((w.alloc (.cells #[.slice q1 n1 c1,.slice q2 n2 c2] 50)).alloc (.cells #[.int .i64 a,.int .i64 b,.int .i64 c,.int .i64 d,.int .i64 e] 54)).alloc (.cells #[.slice none 0 0,.slice none 0 0] 50):=⟨_,rfl⟩;have HB:Hid (Bw w V):=by rw[hV];exact(((bzR _ _).alloc (nzR _) _).alloc (by simp) _).alloc (by simp;omega) _
 have v0:V.cell? ⟨w.heap.size,0,none⟩=some (.slice q1 n1 c1):=by rw[hV];simp[go_sem]
 have v1:V.cell? ⟨w.heap.size,1,none⟩=some (.slice q2 n2 c2):=by rw[hV];simp[go_sem]
 have r0:V.cell? ⟨w.heap.size+1,0,none⟩=some (.int .i64 a):=by rw[hV];simp[go_sem]
 have r1:V.cell? ⟨w.heap.size+1,1,none⟩=some (.int .i64 b):=by rw[hV];simp[go_sem]
 have r2:V.cell? ⟨w.heap.size+1,2,none⟩=some (.int .i64 c):=by rw[hV];simp[go_sem]
 have r3:V.cell? ⟨w.heap.size+1,3,none⟩=some (.int .i64 d):=by rw[hV];simp[go_sem]
 have r4:V.cell? ⟨w.heap.size+1,4,none⟩=some (.int .i64 e):=by rw[hV];simp[go_sem]
 have hR:V.heap[w.heap.size+2]?=some (.cells #[.slice none 0 0,.slice none 0 0] 50 (0,0)):=by
  rw[hV];have:=jA ((w.alloc (.cells #[.slice q1 n1 c1,.slice q2 n2 c2] 50)).alloc (.cells #[.int .i64 a,.int .i64 b,.int .i64 c,.int .i64 d,.int .i64 e] 54)) (.cells #[.slice none 0 0,.slice none 0 0] 50);simpa using this
 have gp:w.heap.size+2<V.heap.size:=(gzE.1 hR).1;generalize PutPostD bs ss s p ⟨a,b,c,d,e⟩ w=POST at *;generalize zAc bs ss=k at *;clear h0 h1 h2 r0 r1 r2 r3 r4;go_enter func168,ntmps168;go_wp2_with fail;rw[←hV];refine(gN V HB.out).mono ?_;rintro x w1⟨rfl,b1⟩;have gI:Hid (Bw w w1):=HB.out.trans (b1.mono HB.out.size);have Gu:w1.heap[w.heap.size+2]?=some (.cells #[.slice none 0 0,.slice none 0 0] 50 (0,0)):=by rw[b1.block _ gp];exact hR
 clear b1 gN v0 v1 hR;obtain⟨g0,g1,hf⟩:=zAb Gu;have f0:=hf 0;have f1:=hf 1;have hg:=zAN w1 (w.heap.size+2) (.slice none 0 0) (.slice none 0 0);have Gs:=gi.out _ (gI.out.grown hg gI.out.size (fun k hk=>by cases hk;omega))
 have Hy:Hid (((w1.setCell ⟨w.heap.size+2,0,none⟩ (.slice none 0 0)).setCell ⟨w.heap.size+2,1,none⟩ (.slice none 0 0)).heap[w.heap.size+2]?=some (.cells #[.slice none 0 0,.slice none 0 0] 50 (0,0))):=zAx Gu (.slice none 0 0) (.slice none 0 0);clear hf hg gi Gu;go_wp2_with fail;generalize ((w1.setCell ⟨w.heap.size+2,0,none⟩ (.slice none 0 0)).setCell ⟨w.heap.size+2,1,none⟩ (.slice none 0 0))=X at *;obtain⟨y0,y1,-⟩:=zAb Hy.out;exact jN (v:=.tuple #[.agg #[.slice none 0 0,.slice none 0 0],.iface 80 (.int .i64 k)]) (by simp[results,results168,go_sem,y0,y1]) rfl Gs
theorem zOR(p:Int)(q1 q2:Option Addr)(n1 n2 c1 c2:Nat)(a b c d e:Int)(bs ss:List L)(w:World)(h1:LS w (.slice q1 n1 c1) bs)(h2:LS w (.slice q2 n2 c2) ss) (h0:zAc bs ss=0)(ha:¬addE 1 bs p ⟨a,b,c,d,e⟩=0) :
  Calls prog 168 #[.agg #[.slice q1 n1 c1,.slice q2 n2 c2],.int .i64 1,.int .i64 p,.agg #[.int .i64 a,.int .i64 b,.int .i64 c,.int .i64 d,.int .i64 e]] w fun x w'=>PutPostD bs ss 1 p ⟨a,b,c,d,e⟩ w x w':=by
 have gN:=fun W(hW:Bw w W)=>wAf q1 q2 n1 n2 c1 c2 bs ss W (h1.below hW) (h2.below hW)
 rw[h0,wAa] at gN;have gi:Hid (∀W,Bw w W→PutPostD bs ss 1 p ⟨a,b,c,d,e⟩ w (.returned (.tuple #[.agg #[.slice none 0 0,.slice none 0 0],.iface 80 (.int .i64 (addE 1 bs p ⟨a,b,c,d,e⟩))])) W):=fun W hW=>zEs (by unfold putE;rw[if_pos h0,if_pos rfl,if_neg ha]) ha hW
 obtain⟨AL,uK⟩:∃AL,AL=addL 1 bs p ⟨a,b,c,d,e⟩:=⟨_,rfl⟩;have UY:Hid (∀W,Bw w W→Calls prog 186 #[.int .i64 1,.slice q1 n1 c1,.int .i64 p,.agg #[.int .i64 a,.int .i64 b,.int .i64 c,.int .i64 d,.int .i64 e]] W fun x w'=>Bw W w'∧∃q n cc,x=.returned (.tuple #[.slice q n cc,.iface 80 (.int .i64 (addE 1 bs p ⟨a,b,c,d,e⟩))])∧LS w' (.slice q n cc) AL):=fun W hW=>(zDs 1 _ bs p a b c d e W (h1.below hW)).mono fun x w' h=>by
  obtain⟨g1,v',g2,g3⟩:=h;rw[wAb ha] at g2;obtain⟨q,n,cc,rfl⟩:=g3.form;exact⟨g1,q,n,cc,g2,by rw[uK];exact g3.ls⟩
 obtain⟨V,hV⟩:∃V,V=((w.alloc (.cells #[.slice q1 n1 c1,.slice q2 n2 c2] 50)).alloc (.cells #[.int .i64 a,.int .i64 b,.int .i64 c,.int .i64 d,.int .i64 e] 54)).alloc (.cells #[.slice none 0 0,.slice none 0 0] 50):=⟨_,rfl⟩;have HB:Hid (Bw w V):=by rw[hV];exact(((bzR _ _).alloc (nzR _) _).alloc (by simp) _).alloc (by simp;omega) _
 have v0:V.cell? ⟨w.heap.size,0,none⟩=some (.slice q1 n1 c1):=by rw[hV];simp[go_sem]
 have v1:V.cell? ⟨w.heap.size,1,none⟩=some (.slice q2 n2 c2):=by rw[hV];simp[go_sem]
 have r0:V.cell? ⟨w.heap.size+1,0,none⟩=some (.int .i64 a):=by rw[hV];simp[go_sem]
 have r1:V.cell? ⟨w.heap.size+1,1,none⟩=some (.int .i64 b):=by rw[hV];simp[go_sem]
 have r2:V.cell? ⟨w.heap.size+1,2,none⟩=some (.int .i64 c):=by rw[hV];simp[go_sem]
 have r3:V.cell? ⟨w.heap.size+1,3,none⟩=some (.int .i64 d):=by rw[hV];simp[go_sem]
 have r4:V.cell? ⟨w.heap.size+1,4,none⟩=some (.int .i64 e):=by rw[hV];simp[go_sem]
 have hR:V.heap[w.heap.size+2]?=some (.cells #[.slice none 0 0,.slice none 0 0] 50 (0,0)):=by
  rw[hV];have:=jA ((w.alloc (.cells #[.slice q1 n1 c1,.slice q2 n2 c2] 50)).alloc (.cells #[.int .i64 a,.int .i64 b,.int .i64 c,.int .i64 d,.int .i64 e] 54)) (.cells #[.slice none 0 0,.slice none 0 0] 50);simpa using this
 have gp:w.heap.size+2<V.heap.size:=(gzE.1 hR).1;generalize PutPostD bs ss 1 p ⟨a,b,c,d,e⟩ w=POST at *;generalize addE 1 bs p ⟨a,b,c,d,e⟩=k at *;clear h0 h1 h2 ha uK;go_enter func168,ntmps168;go_wp2_with fail;rw[←hV];refine(gN V HB.out).mono ?_;rintro x w1⟨rfl,b1⟩;have He:Hid (Bw w w1):=HB.out.trans (b1.mono HB.out.size);have gc:w1.heap[w.heap.size+2]?=some (.cells #[.slice none 0 0,.slice none 0 0] 50 (0,0)):=by rw[b1.block _ gp];exact hR
 have x0:=zAa b1 v0;have x1:=zAa b1 v1;have y0:=zAa b1 r0;have y1:=zAa b1 r1;have y2:=zAa b1 r2;have y3:=zAa b1 r3;have y4:=zAa b1 r4;have Hm:w.heap.size+2<w1.heap.size:=jC gp b1.size;have GD:Hid (∀W,Bw w1 W→Calls prog 32 #[.agg #[.slice q1 n1 c1,.slice q2 n2 c2],.int .i64 1] W fun e w'=>e=.returned (.slice q1 n1 c1)∧Bw w1 w'):=fun W hW=>by
  have:=zAw 1 q1 q2 n1 n2 c1 c2 W;rw[if_pos rfl] at this;exact this.mono fun e w' h=>⟨h.1,hW.trans (h.2.mono hW.size)⟩
 have GH:Hid (∀W,Bw w1 W→Calls prog 186 #[.int .i64 1,.slice q1 n1 c1,.int .i64 p,.agg #[.int .i64 a,.int .i64 b,.int .i64 c,.int .i64 d,.int .i64 e]] W fun x w'=>Bw w1 w'∧∃q n cc,x=.returned (.tuple #[.slice q n cc,.iface 80 (.int .i64 k)])∧LS w' (.slice q n cc) AL):=fun W hW=>(UY.out W (He.out.trans (hW.mono He.out.size))).mono fun x w' h=>⟨hW.trans (h.1.mono hW.size),h.2⟩
 have SO:Hid (∀W,Bw w1 W→(Bw w1 W∧W.cell? ⟨w.heap.size,0,none⟩=some (.slice q1 n1 c1)∧W.cell? ⟨w.heap.size,1,none⟩=some (.slice q2 n2 c2)∧W.cell? ⟨w.heap.size+1,0,none⟩=some (.int .i64 a)∧W.cell? ⟨w.heap.size+1,1,none⟩=some (.int .i64 b)∧W.cell? ⟨w.heap.size+1,2,none⟩=some (.int .i64 c)∧W.cell? ⟨w.heap.size+1,3,none⟩=some (.int .i64 d)∧W.cell? ⟨w.heap.size+1,4,none⟩=some (.int .i64 e))):=fun W hW=>⟨hW,zAa hW x0,zAa hW x1,zAa hW y0,zAa hW y1,zAa hW y2,zAa hW y3,zAa hW y4⟩
 clear b1 gN v0 v1 r0 r1 r2 r3 r4 hR UY;go_upto_region 4 with fail
 go_region_held3 (fun W=>Below w1.heap.size w1 W∧W.cell? ⟨w.heap.size,0,none⟩=some (.slice q1 n1 c1)∧W.cell? ⟨w.heap.size,1,none⟩=some (.slice q2 n2 c2)∧W.cell? ⟨w.heap.size+1,0,none⟩=some (.int .i64 a)∧W.cell? ⟨w.heap.size+1,1,none⟩=some (.int .i64 b)∧W.cell? ⟨w.heap.size+1,2,none⟩=some (.int .i64 c)∧W.cell? ⟨w.heap.size+1,3,none⟩=some (.int .i64 d)∧W.cell? ⟨w.heap.size+1,4,none⟩=some (.int .i64 e))
  ((refine SO.out _ ?_;(with_reducible repeat' (first|assumption|refine bal ?_ _|refine Below.setCell ?_ ?_ _|refine Below.drew ?_|exact bzR _ _|exact nzR _|exact Below.size (by assumption)|refine jD ?_))))
  (first|(go_at_call 32;with_reducible refine(GD.out _ ?_).mono ?_;(with_reducible repeat' (first|assumption|refine bal ?_ _|refine Below.setCell ?_ ?_ _|refine Below.drew ?_|exact bzR _ _|exact nzR _|exact Below.size (by assumption)|refine jD ?_));rintro x W ⟨rfl,Hp⟩)|(go_at_call 186;with_reducible refine(GH.out _ ?_).mono ?_;(with_reducible repeat' (first|assumption|refine bal ?_ _|refine Below.setCell ?_ ?_ _|refine Below.drew ?_|exact bzR _ _|exact nzR _|exact Below.size (by assumption)|refine jD ?_));rintro x W ⟨Hp,q3,n3,c3,rfl,mT⟩))
 have gI:Hid (Bw w W):=He.out.trans (Hp.mono He.out.size);have Gu:W.heap[w.heap.size+2]?=some (.cells #[.slice none 0 0,.slice none 0 0] 50 (0,0)):=by rw[Hp.block _ Hm];exact gc
 clear Hp mT SO GD GH x0 x1 y0 y1 y2 y3 y4 gc;obtain⟨g0,g1,hf⟩:=zAb Gu;have f0:=hf 0;have f1:=hf 1;have hg:=zAN W (w.heap.size+2) (.slice none 0 0) (.slice none 0 0);have Gs:=gi.out _ (gI.out.grown hg gI.out.size (fun k hk=>by cases hk;omega))
 have Hy:Hid (((W.setCell ⟨w.heap.size+2,0,none⟩ (.slice none 0 0)).setCell ⟨w.heap.size+2,1,none⟩ (.slice none 0 0)).heap[w.heap.size+2]?=some (.cells #[.slice none 0 0,.slice none 0 0] 50 (0,0))):=zAx Gu (.slice none 0 0) (.slice none 0 0);clear hf hg gi Gu;go_wp2_with fail;generalize ((W.setCell ⟨w.heap.size+2,0,none⟩ (.slice none 0 0)).setCell ⟨w.heap.size+2,1,none⟩ (.slice none 0 0))=X at *;obtain⟨y0,y1,-⟩:=zAb Hy.out;exact jN (v:=.tuple #[.agg #[.slice none 0 0,.slice none 0 0],.iface 80 (.int .i64 k)]) (by simp[results,results168,go_sem,y0,y1]) rfl Gs
theorem zOS(s p:Int)(q1 q2:Option Addr)(n1 n2 c1 c2:Nat)(a b c d e:Int)(bs ss:List L)(w:World)(h1:LS w (.slice q1 n1 c1) bs)(h2:LS w (.slice q2 n2 c2) ss)(hs:¬s=1)(h0:zAc bs ss=0)(ha:¬addE s ss p ⟨a,b,c,d,e⟩=0) :
  Calls prog 168 #[.agg #[.slice q1 n1 c1,.slice q2 n2 c2],.int .i64 s,.int .i64 p,.agg #[.int .i64 a,.int .i64 b,.int .i64 c,.int .i64 d,.int .i64 e]] w fun x w'=>PutPostD bs ss s p ⟨a,b,c,d,e⟩ w x w':=by
 have gN:=fun W(hW:Bw w W)=>wAf q1 q2 n1 n2 c1 c2 bs ss W (h1.below hW) (h2.below hW)
 rw[h0,wAa] at gN;have gi:Hid (∀W,Bw w W→PutPostD bs ss s p ⟨a,b,c,d,e⟩ w (.returned (.tuple #[.agg #[.slice none 0 0,.slice none 0 0],.iface 80 (.int .i64 (addE s ss p ⟨a,b,c,d,e⟩))])) W):=fun W hW=>zEs (by unfold putE;rw[if_pos h0,if_neg hs,if_neg ha]) ha hW
 obtain⟨AL,uK⟩:∃AL,AL=addL s ss p ⟨a,b,c,d,e⟩:=⟨_,rfl⟩;have UY:Hid (∀W,Bw w W→Calls prog 186 #[.int .i64 s,.slice q2 n2 c2,.int .i64 p,.agg #[.int .i64 a,.int .i64 b,.int .i64 c,.int .i64 d,.int .i64 e]] W fun x w'=>Bw W w'∧∃q n cc,x=.returned (.tuple #[.slice q n cc,.iface 80 (.int .i64 (addE s ss p ⟨a,b,c,d,e⟩))])∧LS w' (.slice q n cc) AL):=fun W hW=>(zDs s _ ss p a b c d e W (h2.below hW)).mono fun x w' h=>by
  obtain⟨g1,v',g2,g3⟩:=h;rw[wAb ha] at g2;obtain⟨q,n,cc,rfl⟩:=g3.form;exact⟨g1,q,n,cc,g2,by rw[uK];exact g3.ls⟩
 obtain⟨V,hV⟩:∃V,V=((w.alloc (.cells #[.slice q1 n1 c1,.slice q2 n2 c2] 50)).alloc (.cells #[.int .i64 a,.int .i64 b,.int .i64 c,.int .i64 d,.int .i64 e] 54)).alloc (.cells #[.slice none 0 0,.slice none 0 0] 50):=⟨_,rfl⟩;have HB:Hid (Bw w V):=by rw[hV];exact(((bzR _ _).alloc (nzR _) _).alloc (by simp) _).alloc (by simp;omega) _
 have v0:V.cell? ⟨w.heap.size,0,none⟩=some (.slice q1 n1 c1):=by rw[hV];simp[go_sem]
 have v1:V.cell? ⟨w.heap.size,1,none⟩=some (.slice q2 n2 c2):=by rw[hV];simp[go_sem]
 have r0:V.cell? ⟨w.heap.size+1,0,none⟩=some (.int .i64 a):=by rw[hV];simp[go_sem]
 have r1:V.cell? ⟨w.heap.size+1,1,none⟩=some (.int .i64 b):=by rw[hV];simp[go_sem]
 have r2:V.cell? ⟨w.heap.size+1,2,none⟩=some (.int .i64 c):=by rw[hV];simp[go_sem]
 have r3:V.cell? ⟨w.heap.size+1,3,none⟩=some (.int .i64 d):=by rw[hV];simp[go_sem]
 have r4:V.cell? ⟨w.heap.size+1,4,none⟩=some (.int .i64 e):=by rw[hV];simp[go_sem]
 have hR:V.heap[w.heap.size+2]?=some (.cells #[.slice none 0 0,.slice none 0 0] 50 (0,0)):=by
  rw[hV];have:=jA ((w.alloc (.cells #[.slice q1 n1 c1,.slice q2 n2 c2] 50)).alloc (.cells #[.int .i64 a,.int .i64 b,.int .i64 c,.int .i64 d,.int .i64 e] 54)) (.cells #[.slice none 0 0,.slice none 0 0] 50);simpa using this
 have gp:w.heap.size+2<V.heap.size:=(gzE.1 hR).1;generalize PutPostD bs ss s p ⟨a,b,c,d,e⟩ w=POST at *;generalize addE s ss p ⟨a,b,c,d,e⟩=k at *;clear h0 h1 h2 ha uK;go_enter func168,ntmps168;go_wp2_with fail;rw[←hV];refine(gN V HB.out).mono ?_;rintro x w1⟨rfl,b1⟩;have He:Hid (Bw w w1):=HB.out.trans (b1.mono HB.out.size);have gc:w1.heap[w.heap.size+2]?=some (.cells #[.slice none 0 0,.slice none 0 0] 50 (0,0)):=by rw[b1.block _ gp];exact hR
 have x0:=zAa b1 v0;have x1:=zAa b1 v1;have y0:=zAa b1 r0;have y1:=zAa b1 r1;have y2:=zAa b1 r2;have y3:=zAa b1 r3;have y4:=zAa b1 r4;have Hm:w.heap.size+2<w1.heap.size:=jC gp b1.size;have GD:Hid (∀W,Bw w1 W→Calls prog 32 #[.agg #[.slice q1 n1 c1,.slice q2 n2 c2],.int .i64 s] W fun e w'=>e=.returned (.slice q2 n2 c2)∧Bw w1 w'):=fun W hW=>by
  have:=zAw s q1 q2 n1 n2 c1 c2 W;rw[if_neg hs] at this;exact this.mono fun e w' h=>⟨h.1,hW.trans (h.2.mono hW.size)⟩
 have GH:Hid (∀W,Bw w1 W→Calls prog 186 #[.int .i64 s,.slice q2 n2 c2,.int .i64 p,.agg #[.int .i64 a,.int .i64 b,.int .i64 c,.int .i64 d,.int .i64 e]] W fun x w'=>Bw w1 w'∧∃q n cc,x=.returned (.tuple #[.slice q n cc,.iface 80 (.int .i64 k)])∧LS w' (.slice q n cc) AL):=fun W hW=>(UY.out W (He.out.trans (hW.mono He.out.size))).mono fun x w' h=>⟨hW.trans (h.1.mono hW.size),h.2⟩
 have SO:Hid (∀W,Bw w1 W→(Bw w1 W∧W.cell? ⟨w.heap.size,0,none⟩=some (.slice q1 n1 c1)∧W.cell? ⟨w.heap.size,1,none⟩=some (.slice q2 n2 c2)∧W.cell? ⟨w.heap.size+1,0,none⟩=some (.int .i64 a)∧W.cell? ⟨w.heap.size+1,1,none⟩=some (.int .i64 b)∧W.cell? ⟨w.heap.size+1,2,none⟩=some (.int .i64 c)∧W.cell? ⟨w.heap.size+1,3,none⟩=some (.int .i64 d)∧W.cell? ⟨w.heap.size+1,4,none⟩=some (.int .i64 e))):=fun W hW=>⟨hW,zAa hW x0,zAa hW x1,zAa hW y0,zAa hW y1,zAa hW y2,zAa hW y3,zAa hW y4⟩
 clear b1 gN v0 v1 r0 r1 r2 r3 r4 hR UY;go_upto_region 4 with fail
 go_region_held3 (fun W=>Below w1.heap.size w1 W∧W.cell? ⟨w.heap.size,0,none⟩=some (.slice q1 n1 c1)∧W.cell? ⟨w.heap.size,1,none⟩=some (.slice q2 n2 c2)∧W.cell? ⟨w.heap.size+1,0,none⟩=some (.int .i64 a)∧W.cell? ⟨w.heap.size+1,1,none⟩=some (.int .i64 b)∧W.cell? ⟨w.heap.size+1,2,none⟩=some (.int .i64 c)∧W.cell? ⟨w.heap.size+1,3,none⟩=some (.int .i64 d)∧W.cell? ⟨w.heap.size+1,4,none⟩=some (.int .i64 e))
  ((refine SO.out _ ?_;(with_reducible repeat' (first|assumption|refine bal ?_ _|refine Below.setCell ?_ ?_ _|refine Below.drew ?_|exact bzR _ _|exact nzR _|exact Below.size (by assumption)|refine jD ?_))))
  (first|(go_at_call 32;with_reducible refine(GD.out _ ?_).mono ?_;(with_reducible repeat' (first|assumption|refine bal ?_ _|refine Below.setCell ?_ ?_ _|refine Below.drew ?_|exact bzR _ _|exact nzR _|exact Below.size (by assumption)|refine jD ?_));rintro x W ⟨rfl,Hp⟩)|(go_at_call 186;with_reducible refine(GH.out _ ?_).mono ?_;(with_reducible repeat' (first|assumption|refine bal ?_ _|refine Below.setCell ?_ ?_ _|refine Below.drew ?_|exact bzR _ _|exact nzR _|exact Below.size (by assumption)|refine jD ?_));rintro x W ⟨Hp,q3,n3,c3,rfl,mT⟩))
 have gI:Hid (Bw w W):=He.out.trans (Hp.mono He.out.size);have Gu:W.heap[w.heap.size+2]?=some (.cells #[.slice none 0 0,.slice none 0 0] 50 (0,0)):=by rw[Hp.block _ Hm];exact gc
 clear Hp mT SO GD GH x0 x1 y0 y1 y2 y3 y4 gc;obtain⟨g0,g1,hf⟩:=zAb Gu;have f0:=hf 0;have f1:=hf 1;have hg:=zAN W (w.heap.size+2) (.slice none 0 0) (.slice none 0 0);have Gs:=gi.out _ (gI.out.grown hg gI.out.size (fun k hk=>by cases hk;omega))
 have Hy:Hid (((W.setCell ⟨w.heap.size+2,0,none⟩ (.slice none 0 0)).setCell ⟨w.heap.size+2,1,none⟩ (.slice none 0 0)).heap[w.heap.size+2]?=some (.cells #[.slice none 0 0,.slice none 0 0] 50 (0,0))):=zAx Gu (.slice none 0 0) (.slice none 0 0);clear hf hg gi Gu;go_wp2_with fail;generalize ((W.setCell ⟨w.heap.size+2,0,none⟩ (.slice none 0 0)).setCell ⟨w.heap.size+2,1,none⟩ (.slice none 0 0))=X at *;obtain⟨y0,y1,-⟩:=zAb Hy.out;exact jN (v:=.tuple #[.agg #[.slice none 0 0,.slice none 0 0],.iface 80 (.int .i64 k)]) (by simp[results,results168,go_sem,y0,y1]) rfl Gs
end bok
end Go.Proofs.YtmhcghgfpfainaaGreatDoor
