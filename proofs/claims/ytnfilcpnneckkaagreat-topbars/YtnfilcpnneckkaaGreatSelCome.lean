import Derived.Test.YtnfilcpnneckkaaGreatSelAhead
namespace Go.Proofs.YtnfilcpnneckkaaGreat
open Tryz
namespace slf
open Go.RowKit spn que sid bok mee
open ord (O oV mB mE chk)
theorem hidC{P:Prop}(h:P):Hid P:=h
def ComeV(m:Int)(bs ss:List L)(o:O)(w:World)(e:Ending)(w' : World):Prop:=
 (zAu bs ss o=0→∀v,Fine m o (zAr bs ss o) o.qty v→
  (v.ts.length≤400→∃q1 q2 n1 n2 c1 c2 tv iv lf gn,e=.returned (.tuple #[.agg #[.slice q1 n1 c1,.slice q2 n2 c2,tv,.int .i64 lf,.int .i64 gn,iv],.nilIface])∧lf=(if v.ends=true then 0 else v.left)∧gn=(if v.ends=true then v.left else 0)∧LS w' (.slice q1 n1 c1) (repB o bs v.ls)∧LS w' (.slice q2 n2 c2) (repS o ss v.ls)∧OwnT w' w.heap.size tv v.ts∧OwnI w' w.heap.size iv v.ids∧Less (zAr bs ss o) v.ls)∧
  (¬v.ts.length≤400→e=.returned (.tuple #[.agg #[.slice none 0 0,.slice none 0 0,.slice none 0 0,.int .i64 0,.int .i64 0,.slice none 0 0],.iface 90 (.int .i64 4)])))∧
 (¬zAu bs ss o=0→e=.returned (.tuple #[.agg #[.slice none 0 0,.slice none 0 0,.slice none 0 0,.int .i64 0,.int .i64 0,.slice none 0 0],errV (zAu bs ss o)]))∧Bw w w'
structure ComS (K:Prop) (o:O) (bs ss:List L) (w W0 wr:World) (base VB:Nat) (b1 b2 tv iv:Value) (X:List L) (ts:List T) (ids:List Int) (left:Int):Prop where
 far:FarV W0 wr base VB
 s1:SafeS w wr base b1 (repB o bs X)
 s2:SafeS w wr base b2 (repS o ss X)
 less:Less (zAr bs ss o) X
 good:∀l∈X,lchk l=0
 own:OwnT wr base tv ts
 nums:OwnI wr base iv ids
 tl:ts.length≤400
 il:ids.length+(allR X).length≤61
 lf0:0≤left
 lfq:left≤o.qty
 link:K
theorem ComS.below{K:Prop}{o:O}{bs ss:List L}{w W0 wr wr' : World}{base VB:Nat}{b1 b2 tv iv:Value}{X:List L}{ts:List T}{ids:List Int}{left:Int}(h:ComS K o bs ss w W0 wr base VB b1 b2 tv iv X ts ids left)(hB:Bw wr wr')(hb:base≤wr.heap.size):ComS K o bs ss w W0 wr' base VB b1 b2 tv iv X ts ids left:=
 ⟨h.far.trans (FarV.below hB hb),h.s1.below hB,h.s2.below hB,h.less,h.good,OwnM.below h.own hB,OwnM.below h.nums hB,h.tl,h.il,h.lf0,h.lfq,h.link⟩
theorem ComS.free{K:Prop}{o:O}{bs ss:List L}{w W0 wr:World}{base VB:Nat}{b1 b2 tv iv:Value}{X:List L}{ts:List T}{ids:List Int}{left:Int}(h:ComS K o bs ss w W0 wr base VB b1 b2 tv iv X ts ids left):ComS True o bs ss w W0 wr base VB b1 b2 tv iv X ts ids left:=
 ⟨h.far,h.s1,h.s2,h.less,h.good,h.own,h.nums,h.tl,h.il,h.lf0,h.lfq,trivial⟩
theorem zQL{c:Int}{o:O}(ho:o.side=c){bs ss X:List L}{q1 q2:Option Addr}{n1 n2 c1 c2:Nat}{w:World}(h1:LS w (.slice q1 n1 c1) (repB o bs X))(h2:LS w (.slice q2 n2 c2) (repS o ss X)):∃xq xn xc,(if c=1 then Value.slice q2 n2 c2 else .slice q1 n1 c1)=.slice xq xn xc∧LS w (.slice xq xn xc) X:=by
 unfold repB at h1;unfold repS at h2;rw[ho] at h1 h2;by_cases hc:c=1
 ·rw[if_pos hc] at h2 ⊢;exact⟨_,_,_,rfl,h2⟩
 ·rw[if_neg hc] at h1 ⊢;exact⟨_,_,_,rfl,h1⟩
set_option maxRecDepth 100000 in
set_option maxHeartbeats 8000000 in
theorem zOu(m:Int)(hm:m=1∨m=2∨m=3)(q1 q2:Option Addr)(n1 n2 c1 c2:Nat)(bs ss:List L)(a b c d p q s t:Int)(w:World)(h1:LS w (.slice q1 n1 c1) bs)(h2:LS w (.slice q2 n2 c2) ss) :
  Calls prog 127 #[.agg #[.slice q1 n1 c1,.slice q2 n2 c2],.agg #[.int .i64 a,.int .i64 b,.int .i64 c,.int .i64 d,.int .i64 p,.int .i64 q,.int .i64 s,.int .i64 t],.int .i64 m] w fun e w'=>ComeV m bs ss ⟨a,b,c,d,p,q,s,t⟩ w e w':=by
 obtain⟨V1,gx⟩:∃V1,V1=w.alloc (.cells #[.slice q1 n1 c1,.slice q2 n2 c2] 57):=⟨_,rfl⟩;have Hl:V1.heap.size=w.heap.size+1:=by rw[gx];simp
 have Hc:Below w.heap.size w V1:=by rw[gx];exact(bzR _ _).alloc (nzR _) _
 have gq:V1.heap[w.heap.size]?=some (.cells #[.slice q1 n1 c1,.slice q2 n2 c2] 57 (0,0)):=by rw[gx];exact jA w _
 obtain⟨V2,gl⟩:∃V2,V2=V1.alloc (.cells #[.int .i64 a,.int .i64 b,.int .i64 c,.int .i64 d,.int .i64 p,.int .i64 q,.int .i64 s,.int .i64 t] 34):=⟨_,rfl⟩;have H9:V2.heap.size=w.heap.size+2:=by rw[gl];simp[Hl]
 have Ha:Below V1.heap.size V1 V2:=by rw[gl];exact(bzR _ _).alloc (nzR _) _
 have H5:V2.heap[w.heap.size+1]?=some (.cells #[.int .i64 a,.int .i64 b,.int .i64 c,.int .i64 d,.int .i64 p,.int .i64 q,.int .i64 s,.int .i64 t] 34 (0,0)):=by rw[←Hl,gl];exact jA V1 _
 obtain⟨V,hV⟩:∃V,V=V2.alloc (.cells #[.slice none 0 0,.slice none 0 0,.slice none 0 0,.int .i64 0,.int .i64 0,.slice none 0 0] 203):=⟨_,rfl⟩;have Hr:Below V2.heap.size V2 V:=by rw[hV];exact(bzR _ _).alloc (nzR _) _
 have GD:V.heap[w.heap.size+2]?=some (.cells #[.slice none 0 0,.slice none 0 0,.slice none 0 0,.int .i64 0,.int .i64 0,.slice none 0 0] 203 (0,0)):=by rw[←H9,hV];exact jA V2 _
 have gc:Below w.heap.size w V:=by
  have h:=Hc.trans (Ha.mono Hc.size);exact h.trans (Hr.mono h.size)
 have gP:V.heap[w.heap.size]?=some (.cells #[.slice q1 n1 c1,.slice q2 n2 c2] 57 (0,0)):=by rw[Hr.block _ (by omega),Ha.block _ (by omega)];exact gq
 have Un:V.heap[w.heap.size+1]?=some (.cells #[.int .i64 a,.int .i64 b,.int .i64 c,.int .i64 d,.int .i64 p,.int .i64 q,.int .i64 s,.int .i64 t] 34 (0,0)):=by rw[Hr.block _ (by omega)];exact H5
 obtain⟨P,hP⟩:∃P,P=w.heap.size+2:=⟨_,rfl⟩;obtain⟨G,hG⟩:∃G,G=w.heap.size:=⟨_,rfl⟩;obtain⟨Q,hQ⟩:∃Q,Q=w.heap.size+1:=⟨_,rfl⟩;rw[←hP] at GD;rw[←hG] at gP;rw[←hQ] at Un;have gV:P<V.heap.size:=(gzE.1 GD).1;have HP:=hidC (show P=w.heap.size+2∧G=w.heap.size∧Q=w.heap.size+1∧P<V.heap.size from⟨hP,hG,hQ,gV⟩)
 have ue:=hidC gc;have GE:=hidC (zFf q1 q2 n1 n2 c1 c2 bs ss a b c d p q s t V (h1.below gc) (h2.below gc));have Mt:=hidC h1;have HL2:=hidC h2;have HM:=hidC hm;have gj:Hid (∀W e,Below w.heap.size w W→W.heap[P]?=some (.cells #[.slice none 0 0,.slice none 0 0,.slice none 0 0,.int .i64 0,.int .i64 0,.slice none 0 0] 203 (0,0))→((¬zAu bs ss ⟨a,b,c,d,p,q,s,t⟩=0∧errV (zAu bs ss ⟨a,b,c,d,p,q,s,t⟩)=e)∨(zAu bs ss ⟨a,b,c,d,p,q,s,t⟩=0∧e=.iface 90 (.int .i64 4)∧∃v,Fine m ⟨a,b,c,d,p,q,s,t⟩ (zAr bs ss ⟨a,b,c,d,p,q,s,t⟩) q v∧¬v.ts.length≤400))→
   ComeV m bs ss ⟨a,b,c,d,p,q,s,t⟩ w (.returned (.tuple #[.agg #[.slice none 0 0,.slice none 0 0,.slice none 0 0,.int .i64 0,.int .i64 0,.slice none 0 0],e])) ((((((W.setCell ⟨P,0,none⟩ (.slice none 0 0)).setCell ⟨P,1,none⟩ (.slice none 0 0)).setCell ⟨P,2,none⟩ (.slice none 0 0)).setCell ⟨P,3,none⟩ (.int .i64 0)).setCell ⟨P,4,none⟩ (.int .i64 0)).setCell ⟨P,5,none⟩ (.slice none 0 0))∧
   ((((((W.setCell ⟨P,0,none⟩ (.slice none 0 0)).setCell ⟨P,1,none⟩ (.slice none 0 0)).setCell ⟨P,2,none⟩ (.slice none 0 0)).setCell ⟨P,3,none⟩ (.int .i64 0)).setCell ⟨P,4,none⟩ (.int .i64 0)).setCell ⟨P,5,none⟩ (.slice none 0 0)).heap[P]?=some (.cells #[.slice none 0 0,.slice none 0 0,.slice none 0 0,.int .i64 0,.int .i64 0,.slice none 0 0] 203 (0,0))):=fun W e hW hr he=>by
  have Hu:=zPW W P (.slice none 0 0) (.slice none 0 0) (.slice none 0 0) (.int .i64 0) (.int .i64 0) (.slice none 0 0);have UC:=hW.grown Hu hW.size (fun k hk=>by cases hk;have:=HP.out.1;omega)
  refine⟨?_,zLx hr _ _ _ _ _ _⟩;rcases he with ⟨e1,e2⟩|⟨e1,e2,v,e3,e4⟩
  ·exact⟨fun h=>absurd h e1,fun _=>by rw[e2],UC⟩
  ·refine⟨fun _ v' gU=>?_,fun h=>absurd e1 h,UC⟩
   have:=zBr e3 v' gU;subst this;exact⟨fun h=>absurd h e4,fun _=>by rw[e2]⟩
 obtain⟨g0,g1,-⟩:=zAb gP;obtain⟨o0,o1,o2,o3,o4,o5,o6,o7,-⟩:=rowO Un;clear Hl H9 Hc Ha Hr gq H5 gc h1 h2 gV hm;go_enter func127,ntmps127;go_wp2_with fail;rw[←gx,←gl,←hV];simp only[←hP];simp only[←hQ];simp only[←hG];clear gx gl hV hP hG hQ;refine GE.out.mono ?_;rintro e w1⟨rfl,b1⟩;have He:=hidC b1;have go:=hidC (ue.out.trans (b1.mono ue.out.size));have ux:=(b1.block P HP.out.2.2.2).trans GD;have eG:=(b1.block G (gzE.1 gP).1).trans gP;have Bu:=(b1.block Q (gzE.1 Un).1).trans Un;clear b1 g0 g1 o0 o1 o2 o3 o4 o5 o6 o7 GE GD gP Un;by_cases hC:zAu bs ss ⟨a,b,c,d,p,q,s,t⟩=0
 rotate_left
 ·obtain⟨gD,gK⟩:=gj.out w1 _ go.out ux (.inl ⟨hC,rfl⟩);have Hz:=hidC gD;have Hx:=hidC gK;rw[wAb hC] at Hz ⊢;obtain⟨z0,z1,z2,z3,z4,z5,zf⟩:=rowV ux;have f0:=zf 0;have f1:=zf 1;have f2:=zf 2;have f3:=zf 3;have f4:=zf 4;have f5:=zf 5;generalize zAu bs ss ⟨a,b,c,d,p,q,s,t⟩=kk at *;clear zf gD gK gj ux eG Bu;go_wp2_with fail;generalize ((((((w1.setCell ⟨P,0,none⟩ (.slice none 0 0)).setCell ⟨P,1,none⟩ (.slice none 0 0)).setCell ⟨P,2,none⟩ (.slice none 0 0)).setCell ⟨P,3,none⟩ (.int .i64 0)).setCell ⟨P,4,none⟩ (.int .i64 0)).setCell ⟨P,5,none⟩ (.slice none 0 0))=Z at *;obtain⟨y0,y1,y2,y3,y4,y5,-⟩:=rowV Hx.out;exact jN (v:=.tuple #[.agg #[.slice none 0 0,.slice none 0 0,.slice none 0 0,.int .i64 0,.int .i64 0,.slice none 0 0],.iface 90 (.int .i64 kk)]) (by simp[results,results127,go_sem,y0,y1,y2,y3,y4,y5]) rfl Hz.out
 have HC:=hidC hC;rw[hC,wAa];obtain⟨uB,gI,-,-⟩:=zAG hC;have HQ:=hidC (zLp gI);have HOG:=hidC (wAp (o:=⟨a,b,c,d,p,q,s,t⟩) uB);have gN:=hidC gI;obtain⟨v,hv⟩:=zEk (o:=⟨a,b,c,d,p,q,s,t⟩) (k:=q) HM.out HOG.out;have HV:=hidC hv;have H60:Hid ((allR (zAr bs ss ⟨a,b,c,d,p,q,s,t⟩)).length≤60):=by
  obtain⟨e1,e2,-⟩:=zAh uB;show _≤_
  unfold zAr;split
  ·exact zCD e2
  ·exact zCD e1
 clear hC uB gI hv;have Ht:Below w1.heap.size w1 (w1.alloc (.cells #[.slice q1 n1 c1,.slice q2 n2 c2,.slice none 0 0,.int .i64 q,.int .i64 0,.slice none 0 0] 203)):=(bzR _ _).alloc (nzR _) _;have bx:(w1.alloc (.cells #[.slice q1 n1 c1,.slice q2 n2 c2,.slice none 0 0,.int .i64 q,.int .i64 0,.slice none 0 0] 203)).heap[w1.heap.size]?=some (.cells #[.slice q1 n1 c1,.slice q2 n2 c2,.slice none 0 0,.int .i64 q,.int .i64 0,.slice none 0 0] 203 (0,0)):=jA w1 _;obtain⟨g0,g1,-⟩:=zAb eG;obtain⟨o0,o1,o2,o3,o4,o5,o6,o7,-⟩:=rowO Bu;have HPa:=hidC ((Ht.block P (gzE.1 ux).1).trans ux);have HQa:=hidC ((Ht.block Q (gzE.1 Bu).1).trans Bu);have M3:=hidC (go.out.trans (Ht.mono go.out.size));have D9:=hidC (show V.heap.size≤w1.heap.size∧w.heap.size≤w1.heap.size from⟨He.out.size,go.out.size⟩)
 clear Ht ux eG Bu;go_upto_region 5 with fail
 clear g0 g1 o0 o1 o2 o3 o4 o5 o6 o7;generalize w1.alloc (.cells #[.slice q1 n1 c1,.slice q2 n2 c2,.slice none 0 0,.int .i64 q,.int .i64 0,.slice none 0 0] 203)=W0 at *;generalize w1.heap.size=VB at *;have Eh:VB<W0.heap.size:=(gzE.1 bx).1;have D0:=hidC (show ComS (Link m ⟨a,b,c,d,p,q,s,t⟩ v (zAr bs ss ⟨a,b,c,d,p,q,s,t⟩) [] [] q 0) ⟨a,b,c,d,p,q,s,t⟩ bs ss w W0 W0 (VB+1) VB (.slice q1 n1 c1) (.slice q2 n2 c2) (.slice none 0 0) (.slice none 0 0) (zAr bs ss ⟨a,b,c,d,p,q,s,t⟩) [] [] q from by
  obtain⟨e1,e2⟩:=zOj ⟨a,b,c,d,p,q,s,t⟩ bs ss;exact⟨FarV.refl _ _ _,by rw[e1];exact .inl Mt.out,by rw[e2];exact .inl HL2.out,Less.refl _,HOG.out,⟨rfl,.inl ⟨rfl,rfl⟩⟩,⟨rfl,.inl ⟨rfl,rfl⟩⟩,by simp,by have:=H60.out;simp;omega,by have:=HQ.out;omega,jY _,zJz HV.out (by have:=HQ.out;omega)⟩)
 have Gt:=hidC (show VB+1≤W0.heap.size∧P<VB∧Q<VB∧w.heap.size≤VB from⟨Eh,by have h1:=HP.out;have h2:=D9.out;omega,by have h1:=HP.out;have h2:=D9.out;omega,D9.out.2⟩)
 have UY:Hid (∀wr,FarV W0 wr (VB+1) VB→Below w.heap.size w wr∧wr.heap[P]?=some (.cells #[.slice none 0 0,.slice none 0 0,.slice none 0 0,.int .i64 0,.int .i64 0,.slice none 0 0] 203 (0,0))∧wr.heap[Q]?=some (.cells #[.int .i64 a,.int .i64 b,.int .i64 c,.int .i64 d,.int .i64 p,.int .i64 q,.int .i64 s,.int .i64 t] 34 (0,0))):=fun wr hf=>by
  have hn:=Gt.out;exact⟨FarV.ahead M3.out hf (by omega) (by omega),(hf.block P (by omega) (by omega)).trans HPa.out,(hf.block Q (by omega) (by omega)).trans HQa.out⟩
 have gO:Hid (∀wr u1 u2 m1 m2 k1 k2 tv iv X ts ids left gone,ComS True ⟨a,b,c,d,p,q,s,t⟩ bs ss w W0 wr (VB+1) VB (.slice u1 m1 k1) (.slice u2 m2 k2) tv iv X ts ids left→Fin v X ts ids left gone→
   ComeV m bs ss ⟨a,b,c,d,p,q,s,t⟩ w (.returned (.tuple #[.agg #[.slice u1 m1 k1,.slice u2 m2 k2,tv,.int .i64 left,.int .i64 gone,iv],.nilIface])) ((((((wr.setCell ⟨P,0,none⟩ (.slice u1 m1 k1)).setCell ⟨P,1,none⟩ (.slice u2 m2 k2)).setCell ⟨P,2,none⟩ tv).setCell ⟨P,3,none⟩ (.int .i64 left)).setCell ⟨P,4,none⟩ (.int .i64 gone)).setCell ⟨P,5,none⟩ iv)∧
   ((((((wr.setCell ⟨P,0,none⟩ (.slice u1 m1 k1)).setCell ⟨P,1,none⟩ (.slice u2 m2 k2)).setCell ⟨P,2,none⟩ tv).setCell ⟨P,3,none⟩ (.int .i64 left)).setCell ⟨P,4,none⟩ (.int .i64 gone)).setCell ⟨P,5,none⟩ iv).heap[P]?=some (.cells #[.slice u1 m1 k1,.slice u2 m2 k2,tv,.int .i64 left,.int .i64 gone,iv] 203 (0,0))):=fun wr u1 u2 m1 m2 k1 k2 tv iv X ts ids left gone hS hF=>by
  have hn:=Gt.out;obtain⟨hw,mX,-⟩:=UY.out wr hS.far;have Hu:=zPW wr P (.slice u1 m1 k1) (.slice u2 m2 k2) tv (.int .i64 left) (.int .i64 gone) iv;have UC:=hw.grown Hu hw.size (fun k hk=>by cases hk;have:=HP.out.1;omega)
  refine⟨⟨fun _ v' gU=>?_,fun h=>absurd HC.out h,UC⟩,zLx mX _ _ _ _ _ _⟩
  have:=zBr HV.out v' gU;subst this;obtain⟨f1,f2,f3,f4,f5⟩:=hF;refine⟨fun _=>⟨u1,u2,m1,m2,k1,k2,tv,iv,left,gone,rfl,f4,f5,?_,?_,?_,?_,?_⟩,fun h=>absurd (by rw[f2];exact hS.tl) h⟩
  ·rw[f1];exact(hS.s1.row Hu (by omega)).ls UC
  ·rw[f1];exact(hS.s2.row Hu (by omega)).ls UC
  ·rw[f2];exact OwnM.mono (zAm hS.own Hu (fun z hz e=>by cases e;have:=(OwnM.lt hS.own P hz).1;omega)) (by omega)
  ·rw[f3];exact OwnM.mono (zAm hS.nums Hu (fun z hz e=>by cases e;have:=(OwnM.lt hS.nums P hz).1;omega)) (by omega)
  ·rw[f1];exact hS.less
 have HRa:=hidC bx;clear bx Eh HPa HQa;go_loopg [10,11,12,13,14] (63) (fun gg _ _ _ _ _ wr=>∃u1 u2 m1 m2 k1 k2 tv iv X ts ids left gone,wr.heap[VB]?=some (.cells #[.slice u1 m1 k1,.slice u2 m2 k2,tv,.int .i64 left,.int .i64 gone,iv] 203 (0,0))∧(0<left→(allR X).length+1≤gg)∧Aside (ComS (Link m ⟨a,b,c,d,p,q,s,t⟩ v X ts ids left gone) ⟨a,b,c,d,p,q,s,t⟩ bs ss w W0 wr (VB+1) VB (.slice u1 m1 k1) (.slice u2 m2 k2) tv iv X ts ids left))
 case atStart=>exact⟨_,_,_,_,_,_,_,_,_,_,_,_,_,HRa.out,fun _=>by have:=H60.out;omega,D0.out⟩
 case round=>
  obtain⟨u1,u2,m1,m2,k1,k2,tv,iv,X,ts,ids,left,gone,Hd,MO,HI⟩:=hrel;have HS:=hidC HI.out;have Bl:=hidC MO;clear HI MO D0 HRa;obtain⟨tq,tn,tc,bX⟩:∃tq tn tc,tv=.slice tq tn tc:=by obtain⟨x,y,z⟩:=OwnM.form HS.out.own;exact⟨x,_,y,z⟩
  obtain⟨iq,jn,ic,hiv⟩:∃iq jn ic,iv=.slice iq jn ic:=by obtain⟨x,y,z⟩:=OwnM.form HS.out.nums;exact⟨x,_,y,z⟩
  subst bX;subst hiv;obtain⟨x0,x1,x2,x3,x4,x5,-⟩:=rowV Hd;obtain⟨hw,mX,E5⟩:=UY.out wr HS.out.far;by_cases hp:0<left
  rotate_left
  ·obtain⟨gD,gK⟩:=gO.out _ _ _ _ _ _ _ _ _ _ _ _ _ _ HS.out.free (zOl HS.out.link hp);have Hz:=hidC gD;have Hx:=hidC gK;obtain⟨z0,z1,z2,z3,z4,z5,zf⟩:=rowV mX;have f0:=zf 0;have f1:=zf 1;have f2:=zf 2;have f3:=zf 3;have f4:=zf 4;have f5:=zf 5;clear zf gD gK gO gj UY mX E5 hw Hd;go_wp2_with fail;generalize ((((((wr.setCell ⟨P,0,none⟩ (.slice u1 m1 k1)).setCell ⟨P,1,none⟩ (.slice u2 m2 k2)).setCell ⟨P,2,none⟩ (.slice tq tn tc)).setCell ⟨P,3,none⟩ (.int .i64 left)).setCell ⟨P,4,none⟩ (.int .i64 gone)).setCell ⟨P,5,none⟩ (.slice iq jn ic))=Z at *;obtain⟨y0,y1,y2,y3,y4,y5,-⟩:=rowV Hx.out;exact jN (v:=.tuple #[.agg #[.slice u1 m1 k1,.slice u2 m2 k2,.slice tq tn tc,.int .i64 left,.int .i64 gone,.slice iq jn ic],.nilIface]) (by simp[results,results127,go_sem,y0,y1,y2,y3,y4,y5]) rfl Hz.out
  have hn:=Gt.out;have hLK:=zJA HM.out HS.out.link hp HS.out.good;obtain⟨A1,GO⟩:∃A1,(zAj ⟨a,b,c,d,p,q,s,t⟩ X).1=A1:=⟨_,rfl⟩;obtain⟨A2,Ul⟩:∃A2,(zAj ⟨a,b,c,d,p,q,s,t⟩ X).2=A2:=⟨_,rfl⟩;have HAH:Hid (Calls prog 150 #[.agg #[.slice u1 m1 k1,.slice u2 m2 k2],.agg #[.int .i64 a,.int .i64 b,.int .i64 c,.int .i64 d,.int .i64 p,.int .i64 q,.int .i64 s,.int .i64 t]] wr fun e w'=>e=.returned (.tuple #[.int .i64 A1,.int .i64 A2,.nilIface])∧Below wr.heap.size wr w'):=by
   obtain⟨xq,xn,xc,hx,hX⟩:=zQL (c:=c) (o:=⟨a,b,c,d,p,q,s,t⟩) rfl (HS.out.s1.ls hw) (HS.out.s2.ls hw);have h:=zLN u1 u2 xq m1 m2 k1 k2 xn xc X a b c d p q s t wr hx hX HS.out.good (by have h1:=HS.out.less.len;have h2:=H60.out;rw[zAQ];omega) gN.out
   rw[GO,Ul] at h;exact h
  obtain⟨K,hK⟩:∃K,min A1 left=K:=⟨_,rfl⟩;rw[GO,Ul,hK] at hLK;obtain⟨rfl,k2z,k3,k4,k5,k6⟩:=hLK;have hKb:0≤K∧K≤left:=by clear k4 k5 k6 k2z;omega
  have HK:=hidC hKb;clear hKb;have C9:=hidC k4;have uY:=hidC k5;have HON:=hidC k6;have HTZ:=hidC k2z;have ug:=hidC hK;obtain⟨o0,o1,o2,o3,o4,o5,o6,o7,-⟩:=rowO E5;clear k2z k3 k4 k5 k6 GO Ul mX hw;go_wp2_with fail;refine HAH.out.mono ?_;rintro e w2⟨rfl,b2⟩;have UJ:=hidC (HS.out.below b2 (by have:=HS.out.far.size;omega))
  have Ga:=(b2.block VB (gzE.1 Hd).1).trans Hd;have E6:=(b2.block Q (gzE.1 E5).1).trans E5;clear b2 HAH x0 x1 x2 x3 x4 x5 o0 o1 o2 o3 o4 o5 o6 o7 Hd E5 HS;obtain⟨x0,x1,x2,x3,x4,x5,-⟩:=rowV Ga;obtain⟨o0,o1,o2,o3,o4,o5,o6,o7,-⟩:=rowO E6;have mo:=hidC (zLB w VB (VB+1) u1 u2 m1 m2 k1 k2 (.slice tq tn tc) (.slice iq jn ic) bs ss X ts ids left 0 K a b c d p q s t w2 Ga (UY.out w2 UJ.out.far).1 UJ.out.s1 UJ.out.s2 UJ.out.own UJ.out.nums (Nat.lt_succ_self _) (by have:=UJ.out.far.size;omega) UJ.out.tl UJ.out.good HK.out.1 HK.out.2 UJ.out.lfq HQ.out.2 HC.out UJ.out.less HTZ.out)
  obtain⟨TK,BB⟩:∃TK,tkl ⟨a,b,c,d,p,q,s,t⟩ X K=TK:=⟨_,rfl⟩;have Ua:=hidC BB;clear BB Ga E6 hn;go_wp2_with fail;refine mo.out.mono ?_;rintro e w3⟨i1,i2,hf3⟩;rw[Ua.out] at i1 i2;have PK:=hidC (UJ.out.far.trans hf3);have HN3:=hidC (show VB+1≤w3.heap.size from by have h1:=UJ.out.far.size;have h2:=hf3.size;have h3:=Gt.out;omega)
  clear hf3 mo x0 x1 x2 x3 x4 x5 o0 o1 o2 o3 o4 o5 o6 o7;by_cases h4:(ts++TK.2.1).length≤400
  rotate_left
  ·have e4:=i2 h4;subst e4;obtain⟨pd,mY,-⟩:=UY.out w3 PK.out;obtain⟨gD,gK⟩:=gj.out w3 _ pd mY (.inr ⟨HC.out,rfl,v,HV.out,C9.out (by rw[Ua.out];exact h4)⟩)
   have Hz:=hidC gD;have Hx:=hidC gK;obtain⟨z0,z1,z2,z3,z4,z5,zf⟩:=rowV mY;have f0:=zf 0;have f1:=zf 1;have f2:=zf 2;have f3:=zf 3;have f4:=zf 4;have f5:=zf 5;clear zf gD gK gO gj UY mY pd i1 i2 h4;go_wp2_with fail;generalize ((((((w3.setCell ⟨P,0,none⟩ (.slice none 0 0)).setCell ⟨P,1,none⟩ (.slice none 0 0)).setCell ⟨P,2,none⟩ (.slice none 0 0)).setCell ⟨P,3,none⟩ (.int .i64 0)).setCell ⟨P,4,none⟩ (.int .i64 0)).setCell ⟨P,5,none⟩ (.slice none 0 0))=Z at *;obtain⟨y0,y1,y2,y3,y4,y5,-⟩:=rowV Hx.out;exact jN (v:=.tuple #[.agg #[.slice none 0 0,.slice none 0 0,.slice none 0 0,.int .i64 0,.int .i64 0,.slice none 0 0],.iface 90 (.int .i64 4)]) (by simp[results,results127,go_sem,y0,y1,y2,y3,y4,y5]) rfl Hz.out
  obtain⟨rfl,v1,v2,l1,l2,d1,d2,tv3,mc,S13,S23,T3,I3⟩:=i1 h4;obtain⟨yq,yn,yc,hyv⟩:∃yq yn yc,tv3=.slice yq yn yc:=by obtain⟨x,y,z⟩:=OwnM.form T3;exact⟨x,_,y,z⟩
  subst hyv;obtain⟨LF,eN⟩:∃LF,left - K=LF:=⟨_,rfl⟩;rw[eN] at mc;have M0:=hidC eN;have Ma:=hidC (show (∀l∈TK.1,lchk l=0)∧Less (zAr bs ss ⟨a,b,c,d,p,q,s,t⟩) TK.1 from by
   rw[←Ua.out];exact⟨zIv HK.out.1 UJ.out.good,UJ.out.less.trans (zDR HK.out.1 UJ.out.good)⟩)
  have HCN:=hidC (show (allR TK.1).length≤(allR X).length from by rw[←Ua.out];exact(zDR HK.out.1 UJ.out.good).len)
  have HS13:=hidC S13;have HS23:=hidC S23;have GZ:=hidC T3;have HI3:=hidC I3;have H4:=hidC h4;have D7 : Hid ((LF=0∨A2=0)→Fin v TK.1 (ts++TK.2.1) ids LF 0):=by
   have h:=uY.out;rw[Ua.out,eN] at h;exact h
  have DJ : Hid (¬LF=0→¬A2=0→∃p' r rs t',TK.1=⟨p',r::rs⟩::t'∧r.id=A2∧Link m ⟨a,b,c,d,p,q,s,t⟩ v (zBI m p' r rs t') (ts++TK.2.1) (zDG m ids r.id) (zBO m LF) (zEl m 0 LF)):=by
   have h:=HON.out;rw[Ua.out,eN] at h;exact h
  have HLB:=hidC (show 0≤LF∧LF≤q from by have h1:=HK.out;have h2:=UJ.out.lfq;simp only[] at h2;omega)
  have pw:=hidC (show (allR X).length+1≤gk from Bl.out hp)
  have HIL:=hidC UJ.out.il;have df:=hidC (show ComS True ⟨a,b,c,d,p,q,s,t⟩ bs ss w W0 w3 (VB+1) VB (.slice v1 l1 d1) (.slice v2 l2 d2) (.slice yq yn yc) (.slice iq jn ic) TK.1 (ts++TK.2.1) ids LF from⟨PK.out,S13,S23,Ma.out.2,Ma.out.1,T3,I3,h4,by have h1:=HIL.out;have h2:=HCN.out;omega,HLB.out.1,HLB.out.2,trivial⟩)
  obtain⟨pd,mY,-⟩:=UY.out w3 PK.out;obtain⟨x0,x1,x2,x3,x4,x5,-⟩:=rowV mc;clear i1 i2 S13 S23 T3 I3 eN HS13 HS23 GZ HI3 uY HON UJ;by_cases Gb:LF=0∨A2=0
  ·obtain⟨gD,gK⟩:=gO.out _ _ _ _ _ _ _ _ _ _ _ _ _ _ df.out (D7.out Gb);have Hz:=hidC gD;have Hx:=hidC gK;obtain⟨z0,z1,z2,z3,z4,z5,zf⟩:=rowV mY;have f0:=zf 0;have f1:=zf 1;have f2:=zf 2;have f3:=zf 3;have f4:=zf 4;have f5:=zf 5;clear zf gD gK gO gj UY mY pd mc;have HDONE:Hid (∀Z:World,Z.heap[P]?=some (.cells #[.slice v1 l1 d1,.slice v2 l2 d2,.slice yq yn yc,.int .i64 LF,.int .i64 0,.slice iq jn ic] 203 (0,0))→ComeV m bs ss ⟨a,b,c,d,p,q,s,t⟩ w (.returned (.tuple #[.agg #[.slice v1 l1 d1,.slice v2 l2 d2,.slice yq yn yc,.int .i64 LF,.int .i64 0,.slice iq jn ic],.nilIface])) Z→True):=fun _ _ _=>trivial
   by_cases G2:A2=0
   ·subst G2;go_wp2_with fail;generalize ((((((w3.setCell ⟨P,0,none⟩ (.slice v1 l1 d1)).setCell ⟨P,1,none⟩ (.slice v2 l2 d2)).setCell ⟨P,2,none⟩ (.slice yq yn yc)).setCell ⟨P,3,none⟩ (.int .i64 LF)).setCell ⟨P,4,none⟩ (.int .i64 0)).setCell ⟨P,5,none⟩ (.slice iq jn ic))=Z at *;obtain⟨y0,y1,y2,y3,y4,y5,-⟩:=rowV Hx.out;exact jN (v:=.tuple #[.agg #[.slice v1 l1 d1,.slice v2 l2 d2,.slice yq yn yc,.int .i64 LF,.int .i64 0,.slice iq jn ic],.nilIface]) (by simp[results,results127,go_sem,y0,y1,y2,y3,y4,y5]) rfl Hz.out
   ·have et:(A2 == 0)=false:=(by simp[G2]);have pP:LF=0:=Gb.resolve_right G2;subst pP;go_wp2_with fail;generalize ((((((w3.setCell ⟨P,0,none⟩ (.slice v1 l1 d1)).setCell ⟨P,1,none⟩ (.slice v2 l2 d2)).setCell ⟨P,2,none⟩ (.slice yq yn yc)).setCell ⟨P,3,none⟩ (.int .i64 0)).setCell ⟨P,4,none⟩ (.int .i64 0)).setCell ⟨P,5,none⟩ (.slice iq jn ic))=Z at *;obtain⟨y0,y1,y2,y3,y4,y5,-⟩:=rowV Hx.out;exact jN (v:=.tuple #[.agg #[.slice v1 l1 d1,.slice v2 l2 d2,.slice yq yn yc,.int .i64 0,.int .i64 0,.slice iq jn ic],.nilIface]) (by simp[results,results127,go_sem,y0,y1,y2,y3,y4,y5]) rfl Hz.out
  ·have pP:¬LF=0:=fun h=>Gb (.inl h)
   have G2:¬A2=0:=fun h=>Gb (.inr h)
   have et:(A2 == 0)=false:=by simp[G2]
   have hL0b:(LF == 0)=false:=by simp[pP]
   obtain⟨p',r,rs,t',e1,e2,e3⟩:=DJ.out pP G2;have Bf:=hidC e1;have Dm:=hidC e3;have dz:=Ma.out;rw[e1] at dz;have mu:=df.out;rw[e1] at mu;have uB:zAc (repB ⟨a,b,c,d,p,q,s,t⟩ bs (⟨p',r::rs⟩::t')) (repS ⟨a,b,c,d,p,q,s,t⟩ ss (⟨p',r::rs⟩::t'))=0:=zCf (zAG HC.out).1 dz.2;have Gk:=Gt.out;have mi:=hidC (zLK w m HM.out VB (VB+1) ⟨a,b,c,d,p,q,s,t⟩ v1 v2 l1 l2 d1 d2 (.slice yq yn yc) (.slice iq jn ic) bs ss p' r rs t' (ts++TK.2.1) ids LF 0 w3 mc pd mu.s1 mu.s2 uB mu.own mu.nums (Nat.lt_succ_self _) HN3.out (by have:=mu.il;omega))
   rw[e2] at mi;have Dq:=hidC (show (∀l∈zBI m p' r rs t',lchk l=0)∧Less (zAr bs ss ⟨a,b,c,d,p,q,s,t⟩) (zBI m p' r rs t') from⟨zJC dz.1,dz.2.trans (zJB dz.1)⟩)
   have P9:=hidC (show (zDG m ids A2).length+(allR (zBI m p' r rs t')).length≤61∧(m=2→(allR (zBI m p' r rs t')).length+1≤(allR X).length)∧(¬m=2→zBO m LF=0)∧0≤zBO m LF∧zBO m LF≤q from by
    have h1:=mu.il;have h2:=HCN.out;rw[Bf.out] at h2;have h3:=HLB.out;have hc:m≠1→(allR (zBI m p' r rs t')).length+1=(allR (⟨p',r::rs⟩::t')).length:=fun h=>by
     unfold zBI;rw[if_neg h,zBX,zAp];simp only[jE,jG];omega
    refine⟨?_,?_,?_,?_,?_⟩
    ·by_cases h1m:m=1
     ·subst h1m;unfold zDG zBI;rw[if_pos rfl,if_pos rfl];exact h1
     ·have:=hc h1m;unfold zDG;rw[if_neg h1m,jE];simp only[List.length_singleton];omega
    ·intro er;have:=hc (by omega)
     omega
    ·intro er;exact if_neg er
    ·unfold zBO;split <;>omega
    ·unfold zBO;split <;>omega)
   clear dz mu uB e1 mY pd Gb D7 DJ mc;go_wp2_with fail;refine mi.out.mono ?_;rintro e w4⟨rfl,hf4,y1,y2,j1,j2,f1,f2,iv4,B9,S14,S24,T4,I4⟩;have M1:=hidC B9;have HS4:=hidC (show ComS (Link m ⟨a,b,c,d,p,q,s,t⟩ v (zBI m p' r rs t') (ts++TK.2.1) (zDG m ids A2) (zBO m LF) (zEl m 0 LF)) ⟨a,b,c,d,p,q,s,t⟩ bs ss w W0 w4 (VB+1) VB (.slice y1 j1 f1) (.slice y2 j2 f2) (.slice yq yn yc) iv4 (zBI m p' r rs t') (ts++TK.2.1) (zDG m ids A2) (zBO m LF) from
    ⟨PK.out.trans hf4,S14,S24,Dq.out.2,Dq.out.1,T4,I4,H4.out,P9.out.1,P9.out.2.2.2.1,P9.out.2.2.2.2,by rw[←e2];exact Dm.out⟩)
   clear B9 S14 S24 T4 I4 hf4 x0 x1 x2 x3 x4 x5 et hL0b;go_wp2_with fail;by_cases er:m=2
   ·go_roundg ((allR (zBI m p' r rs t')).length+1)
    case measure=>
     have h1:=P9.out.2.1 er;have h2:=pw.out;omega
    case rel=>exact⟨_,_,_,_,_,_,_,_,_,_,_,_,_,M1.out,fun _=>nzR _,HS4.out⟩
   ·go_roundg 0
    case measure=>
     have h2:=pw.out;omega
    case rel=>exact⟨_,_,_,_,_,_,_,_,_,_,_,_,_,M1.out,fun h=>by have:=P9.out.2.2.1 er;omega,HS4.out⟩
end slf
end Go.Proofs.YtnfilcpnneckkaaGreat
