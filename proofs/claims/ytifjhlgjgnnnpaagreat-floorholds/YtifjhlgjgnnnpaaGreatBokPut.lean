import Derived.Test.YtifjhlgjgnnnpaaGreatSidIns2
import Derived.Test.YtifjhlgjgnnnpaaGreatSelAhead
import Derived.Test.YtifjhlgjgnnnpaaGreatMeeDo
import Derived.Deep.QuietTactic
import Derived.BigQuiet
import Derived.Test.YtifjhlgjgnnnpaaGreatBokWith
import Derived.Test.YtifjhlgjgnnnpaaGreatSidDrop
import Derived.Deep.RegionHeld3
set_option maxHeartbeats 8000000
set_option maxRecDepth 100000
namespace Go.Proofs.YtifjhlgjgnnnpaaGreat
namespace slf
open Go.RowKit spn que sid bok mee
open ord (O oV mB mE chk)
theorem hidC{P:Prop}(h:P):Hid P:=h
def ComeV(m:Int)(bs ss:List L)(o:O)(w:World)(e:Ending)(w' : World):Prop:=
 (zAu bs ss o=0→∀v,Fine m o (zAr bs ss o) o.qty v→
  (v.ts.length≤400→∃q1 q2 n1 n2 c1 c2 tv iv lf gn,e=.returned (.tuple #[.agg #[.slice q1 n1 c1,.slice q2 n2 c2,tv,.int .i64 lf,.int .i64 gn,iv],.nilIface])∧lf=(if v.ends=true then 0 else v.left)∧gn=(if v.ends=true then v.left else 0)∧LS w' (.slice q1 n1 c1) (repB o bs v.ls)∧LS w' (.slice q2 n2 c2) (repS o ss v.ls)∧OwnT w' w.heap.size tv v.ts∧OwnI w' w.heap.size iv v.ids∧Less (zAr bs ss o) v.ls)∧
  (¬v.ts.length≤400→e=.returned (.tuple #[.agg #[.slice none 0 0,.slice none 0 0,.slice none 0 0,.int .i64 0,.int .i64 0,.slice none 0 0],.iface 91 (.int .i64 4)])))∧
 (¬zAu bs ss o=0→e=.returned (.tuple #[.agg #[.slice none 0 0,.slice none 0 0,.slice none 0 0,.int .i64 0,.int .i64 0,.slice none 0 0],errV (zAu bs ss o)]))∧Below w.heap.size w w'
structure ComS (K:Prop) (o:O) (bs ss:List L) (w W0 wr:World) (base VB:Nat) (b1 b2 tv iv:Value) (X:List L) (ts:List T) (ids:List Int) (left:Int):Prop where
 far:FarV W0 wr base VB
 s1:SafeS w wr base b1 (repB o bs X)
 s2:SafeS w wr base b2 (repS o ss X)
 less:Less (zAr bs ss o) X
 good:∀l∈X,lchk l=0
 own:OwnT wr base tv ts
 nums:OwnI wr base iv ids
 tl:ts.length≤400
 il:ids.length+(allR X).length≤61
 lf0:0≤left
 lfq:left≤o.qty
 link:K
theorem ComS.below{K:Prop}{o:O}{bs ss:List L}{w W0 wr wr' : World}{base VB:Nat}{b1 b2 tv iv:Value}{X:List L}{ts:List T}{ids:List Int}{left:Int}(h:ComS K o bs ss w W0 wr base VB b1 b2 tv iv X ts ids left)(hB:Below wr.heap.size wr wr')(hb:base≤wr.heap.size):ComS K o bs ss w W0 wr' base VB b1 b2 tv iv X ts ids left:=
 ⟨h.far.trans (FarV.below hB hb),h.s1.below hB,h.s2.below hB,h.less,h.good,OwnM.below h.own hB,OwnM.below h.nums hB,h.tl,h.il,h.lf0,h.lfq,h.link⟩
theorem ComS.free{K:Prop}{o:O}{bs ss:List L}{w W0 wr:World}{base VB:Nat}{b1 b2 tv iv:Value}{X:List L}{ts:List T}{ids:List Int}{left:Int}(h:ComS K o bs ss w W0 wr base VB b1 b2 tv iv X ts ids left):ComS True o bs ss w W0 wr base VB b1 b2 tv iv X ts ids left:=
 ⟨h.far,h.s1,h.s2,h.less,h.good,h.own,h.nums,h.tl,h.il,h.lf0,h.lfq,trivial⟩
theorem zPO{c:Int}{o:O}(ho:o.side=c){bs ss X:List L}{q1 q2:Option Addr}{n1 n2 c1 c2:Nat}{w:World}(h1:LS w (.slice q1 n1 c1) (repB o bs X))(h2:LS w (.slice q2 n2 c2) (repS o ss X)):∃xq xn xc,(if c=1 then Value.slice q2 n2 c2 else .slice q1 n1 c1)=.slice xq xn xc∧LS w (.slice xq xn xc) X:=by
 unfold repB at h1
 unfold repS at h2
 rw[ho] at h1 h2
 by_cases hc:c=1
 ·rw[if_pos hc] at h2 ⊢
  exact⟨_,_,_,rfl,h2⟩
 ·rw[if_neg hc] at h1 ⊢
  exact⟨_,_,_,rfl,h1⟩
theorem zNE(m:Int)(hm:m=1∨m=2∨m=3)(q1 q2:Option Addr)(n1 n2 c1 c2:Nat)(bs ss:List L)(a b c d p q s t:Int)(w:World)(h1:LS w (.slice q1 n1 c1) bs)(h2:LS w (.slice q2 n2 c2) ss) :
  Calls Tryz.prog 125 #[.agg #[.slice q1 n1 c1,.slice q2 n2 c2],.agg #[.int .i64 a,.int .i64 b,.int .i64 c,.int .i64 d,.int .i64 p,.int .i64 q,.int .i64 s,.int .i64 t],.int .i64 m] w fun e w'=>ComeV m bs ss ⟨a,b,c,d,p,q,s,t⟩ w e w':=by
 obtain⟨V1,hV1⟩:∃V1,V1=w.alloc (.cells #[.slice q1 n1 c1,.slice q2 n2 c2] 46):=⟨_,rfl⟩
 have hs1:V1.heap.size=w.heap.size+1:=by rw[hV1];simp
 have hb1:Below w.heap.size w V1:=by rw[hV1];exact(bzR _ _).alloc (nzR _) _
 have hr1:V1.heap[w.heap.size]?=some (.cells #[.slice q1 n1 c1,.slice q2 n2 c2] 46 (0,0)):=by rw[hV1];exact jA w _
 obtain⟨V2,hV2⟩:∃V2,V2=V1.alloc (.cells #[.int .i64 a,.int .i64 b,.int .i64 c,.int .i64 d,.int .i64 p,.int .i64 q,.int .i64 s,.int .i64 t] 32):=⟨_,rfl⟩
 have hs2:V2.heap.size=w.heap.size+2:=by rw[hV2];simp[hs1]
 have hb2:Below V1.heap.size V1 V2:=by rw[hV2];exact(bzR _ _).alloc (nzR _) _
 have hr2:V2.heap[w.heap.size+1]?=some (.cells #[.int .i64 a,.int .i64 b,.int .i64 c,.int .i64 d,.int .i64 p,.int .i64 q,.int .i64 s,.int .i64 t] 32 (0,0)):=by rw[←hs1,hV2];exact jA V1 _
 obtain⟨V,hV⟩:∃V,V=V2.alloc (.cells #[.slice none 0 0,.slice none 0 0,.slice none 0 0,.int .i64 0,.int .i64 0,.slice none 0 0] 191):=⟨_,rfl⟩
 have hb3:Below V2.heap.size V2 V:=by rw[hV];exact(bzR _ _).alloc (nzR _) _
 have hr3:V.heap[w.heap.size+2]?=some (.cells #[.slice none 0 0,.slice none 0 0,.slice none 0 0,.int .i64 0,.int .i64 0,.slice none 0 0] 191 (0,0)):=by rw[←hs2,hV];exact jA V2 _
 have hBV:Below w.heap.size w V:=by
  have h:=hb1.trans (hb2.mono hb1.size)
  exact h.trans (hb3.mono h.size)
 have hB0:V.heap[w.heap.size]?=some (.cells #[.slice q1 n1 c1,.slice q2 n2 c2] 46 (0,0)):=by rw[hb3.block _ (by omega),hb2.block _ (by omega)];exact hr1
 have hO0:V.heap[w.heap.size+1]?=some (.cells #[.int .i64 a,.int .i64 b,.int .i64 c,.int .i64 d,.int .i64 p,.int .i64 q,.int .i64 s,.int .i64 t] 32 (0,0)):=by rw[hb3.block _ (by omega)];exact hr2
 obtain⟨P,hP⟩:∃P,P=w.heap.size+2:=⟨_,rfl⟩
 obtain⟨G,hG⟩:∃G,G=w.heap.size:=⟨_,rfl⟩
 obtain⟨Q,hQ⟩:∃Q,Q=w.heap.size+1:=⟨_,rfl⟩
 rw[←hP] at hr3
 rw[←hG] at hB0
 rw[←hQ] at hO0
 have hPV:P<V.heap.size:=(gzE.1 hr3).1
 have HP:=hidC (show P=w.heap.size+2∧G=w.heap.size∧Q=w.heap.size+1∧P<V.heap.size from⟨hP,hG,hQ,hPV⟩)
 have HBV:=hidC hBV
 have HCK:=hidC (zEG q1 q2 n1 n2 c1 c2 bs ss a b c d p q s t V (h1.below hBV) (h2.below hBV))
 have HL1:=hidC h1
 have HL2:=hidC h2
 have HM:=hidC hm
 have HERR:Hid (∀W e,Below w.heap.size w W→W.heap[P]?=some (.cells #[.slice none 0 0,.slice none 0 0,.slice none 0 0,.int .i64 0,.int .i64 0,.slice none 0 0] 191 (0,0))→((¬zAu bs ss ⟨a,b,c,d,p,q,s,t⟩=0∧errV (zAu bs ss ⟨a,b,c,d,p,q,s,t⟩)=e)∨(zAu bs ss ⟨a,b,c,d,p,q,s,t⟩=0∧e=.iface 91 (.int .i64 4)∧∃v,Fine m ⟨a,b,c,d,p,q,s,t⟩ (zAr bs ss ⟨a,b,c,d,p,q,s,t⟩) q v∧¬v.ts.length≤400))→
   ComeV m bs ss ⟨a,b,c,d,p,q,s,t⟩ w (.returned (.tuple #[.agg #[.slice none 0 0,.slice none 0 0,.slice none 0 0,.int .i64 0,.int .i64 0,.slice none 0 0],e])) ((((((W.setCell ⟨P,0,none⟩ (.slice none 0 0)).setCell ⟨P,1,none⟩ (.slice none 0 0)).setCell ⟨P,2,none⟩ (.slice none 0 0)).setCell ⟨P,3,none⟩ (.int .i64 0)).setCell ⟨P,4,none⟩ (.int .i64 0)).setCell ⟨P,5,none⟩ (.slice none 0 0))∧
   ((((((W.setCell ⟨P,0,none⟩ (.slice none 0 0)).setCell ⟨P,1,none⟩ (.slice none 0 0)).setCell ⟨P,2,none⟩ (.slice none 0 0)).setCell ⟨P,3,none⟩ (.int .i64 0)).setCell ⟨P,4,none⟩ (.int .i64 0)).setCell ⟨P,5,none⟩ (.slice none 0 0)).heap[P]?=some (.cells #[.slice none 0 0,.slice none 0 0,.slice none 0 0,.int .i64 0,.int .i64 0,.slice none 0 0] 191 (0,0))):=fun W e hW hr he=>by
  have hgg:=zPc W P (.slice none 0 0) (.slice none 0 0) (.slice none 0 0) (.int .i64 0) (.int .i64 0) (.slice none 0 0)
  have hWW:=hW.grown hgg hW.size (fun k hk=>by cases hk;have:=HP.out.1;omega)
  refine⟨?_,zKF hr _ _ _ _ _ _⟩
  rcases he with ⟨e1,e2⟩|⟨e1,e2,v,e3,e4⟩
  ·exact⟨fun h=>absurd h e1,fun _=>by rw[e2],hWW⟩
  ·refine⟨fun _ v' hv'=>?_,fun h=>absurd e1 h,hWW⟩
   have:=zBn e3 v' hv'
   subst this
   exact⟨fun h=>absurd h e4,fun _=>by rw[e2]⟩
 obtain⟨g0,g1,-⟩:=zAb hB0
 obtain⟨o0,o1,o2,o3,o4,o5,o6,o7,-⟩:=rowO hO0
 clear hs1 hs2 hb1 hb2 hb3 hr1 hr2 hBV h1 h2 hPV hm
 go_enter Tryz.func125,Tryz.ntmps125
 go_wp2_with fail
 rw[←hV1,←hV2,←hV]
 simp only[←hP]
 simp only[←hQ]
 simp only[←hG]
 clear hV1 hV2 hV hP hG hQ
 refine HCK.out.mono ?_
 rintro e w1⟨rfl,b1⟩
 have HB1:=hidC b1
 have HW1:=hidC (HBV.out.trans (b1.mono HBV.out.size))
 have hP1:=(b1.block P HP.out.2.2.2).trans hr3
 have hG1:=(b1.block G (gzE.1 hB0).1).trans hB0
 have hQ1:=(b1.block Q (gzE.1 hO0).1).trans hO0
 clear b1 g0 g1 o0 o1 o2 o3 o4 o5 o6 o7 HCK hr3 hB0 hO0
 by_cases hC:zAu bs ss ⟨a,b,c,d,p,q,s,t⟩=0
 rotate_left
 ·obtain⟨hPO,hHX⟩:=HERR.out w1 _ HW1.out hP1 (.inl ⟨hC,rfl⟩)
  have HPO:=hidC hPO
  have HHX:=hidC hHX
  rw[errV_of hC] at HPO ⊢
  obtain⟨z0,z1,z2,z3,z4,z5,zf⟩:=rowV hP1
  have f0:=zf 0
  have f1:=zf 1
  have f2:=zf 2
  have f3:=zf 3
  have f4:=zf 4
  have f5:=zf 5
  generalize zAu bs ss ⟨a,b,c,d,p,q,s,t⟩=kk at *
  clear zf hPO hHX HERR hP1 hG1 hQ1
  go_wp2_with fail
  generalize ((((((w1.setCell ⟨P,0,none⟩ (.slice none 0 0)).setCell ⟨P,1,none⟩ (.slice none 0 0)).setCell ⟨P,2,none⟩ (.slice none 0 0)).setCell ⟨P,3,none⟩ (.int .i64 0)).setCell ⟨P,4,none⟩ (.int .i64 0)).setCell ⟨P,5,none⟩ (.slice none 0 0))=Z at *
  obtain⟨y0,y1,y2,y3,y4,y5,-⟩:=rowV HHX.out
  exact jN (v:=.tuple #[.agg #[.slice none 0 0,.slice none 0 0,.slice none 0 0,.int .i64 0,.int .i64 0,.slice none 0 0],.iface 91 (.int .i64 kk)]) (by simp[results,Tryz.results125,go_sem,y0,y1,y2,y3,y4,y5]) rfl HPO.out
 have HC:=hidC hC
 rw[hC,errV_zero]
 obtain⟨hbk,hck,-,-⟩:=zAG hC
 have HQ:=hidC (zKw hck)
 have HOG:=hidC (other_good (o:=⟨a,b,c,d,p,q,s,t⟩) hbk)
 have HCH:=hidC hck
 obtain⟨v,hv⟩:=zEg (o:=⟨a,b,c,d,p,q,s,t⟩) (k:=q) HM.out HOG.out
 have HV:=hidC hv
 have H60:Hid ((allR (zAr bs ss ⟨a,b,c,d,p,q,s,t⟩)).length≤60):=by
  obtain⟨e1,e2,-⟩:=zAf hbk
  show _≤_
  unfold zAr
  split
  ·exact zCG e2
  ·exact zCG e1
 clear hC hbk hck hv
 have hBa:Below w1.heap.size w1 (w1.alloc (.cells #[.slice q1 n1 c1,.slice q2 n2 c2,.slice none 0 0,.int .i64 q,.int .i64 0,.slice none 0 0] 191)):=(bzR _ _).alloc (nzR _) _
 have hRa:(w1.alloc (.cells #[.slice q1 n1 c1,.slice q2 n2 c2,.slice none 0 0,.int .i64 q,.int .i64 0,.slice none 0 0] 191)).heap[w1.heap.size]?=some (.cells #[.slice q1 n1 c1,.slice q2 n2 c2,.slice none 0 0,.int .i64 q,.int .i64 0,.slice none 0 0] 191 (0,0)):=jA w1 _
 obtain⟨g0,g1,-⟩:=zAb hG1
 obtain⟨o0,o1,o2,o3,o4,o5,o6,o7,-⟩:=rowO hQ1
 have HPa:=hidC ((hBa.block P (gzE.1 hP1).1).trans hP1)
 have HQa:=hidC ((hBa.block Q (gzE.1 hQ1).1).trans hQ1)
 have HWa:=hidC (HW1.out.trans (hBa.mono HW1.out.size))
 have HVB:=hidC (show V.heap.size≤w1.heap.size∧w.heap.size≤w1.heap.size from⟨HB1.out.size,HW1.out.size⟩)
 clear hBa hP1 hG1 hQ1
 go_upto_region 5 with fail
 clear g0 g1 o0 o1 o2 o3 o4 o5 o6 o7
 generalize w1.alloc (.cells #[.slice q1 n1 c1,.slice q2 n2 c2,.slice none 0 0,.int .i64 q,.int .i64 0,.slice none 0 0] 191)=W0 at *
 generalize w1.heap.size=VB at *
 have hW0s:VB<W0.heap.size:=(gzE.1 hRa).1
 have HS0:=hidC (show ComS (Link m ⟨a,b,c,d,p,q,s,t⟩ v (zAr bs ss ⟨a,b,c,d,p,q,s,t⟩) [] [] q 0) ⟨a,b,c,d,p,q,s,t⟩ bs ss w W0 W0 (VB+1) VB (.slice q1 n1 c1) (.slice q2 n2 c2) (.slice none 0 0) (.slice none 0 0) (zAr bs ss ⟨a,b,c,d,p,q,s,t⟩) [] [] q from by
  obtain⟨e1,e2⟩:=zNt ⟨a,b,c,d,p,q,s,t⟩ bs ss
  exact⟨FarV.refl _ _ _,by rw[e1];exact .inl HL1.out,by rw[e2];exact .inl HL2.out,Less.refl _,HOG.out,⟨rfl,.inl ⟨rfl,rfl⟩⟩,⟨rfl,.inl ⟨rfl,rfl⟩⟩,by simp,by have:=H60.out;simp;omega,by have:=HQ.out;omega,jY _,zIO HV.out (by have:=HQ.out;omega)⟩)
 have HNUM:=hidC (show VB+1≤W0.heap.size∧P<VB∧Q<VB∧w.heap.size≤VB from⟨hW0s,by have h1:=HP.out;have h2:=HVB.out;omega,by have h1:=HP.out;have h2:=HVB.out;omega,HVB.out.2⟩)
 have HFX:Hid (∀wr,FarV W0 wr (VB+1) VB→Below w.heap.size w wr∧wr.heap[P]?=some (.cells #[.slice none 0 0,.slice none 0 0,.slice none 0 0,.int .i64 0,.int .i64 0,.slice none 0 0] 191 (0,0))∧wr.heap[Q]?=some (.cells #[.int .i64 a,.int .i64 b,.int .i64 c,.int .i64 d,.int .i64 p,.int .i64 q,.int .i64 s,.int .i64 t] 32 (0,0))):=fun wr hf=>by
  have hn:=HNUM.out
  exact⟨FarV.ahead HWa.out hf (by omega) (by omega),(hf.block P (by omega) (by omega)).trans HPa.out,(hf.block Q (by omega) (by omega)).trans HQa.out⟩
 have HEND:Hid (∀wr u1 u2 m1 m2 k1 k2 tv iv X ts ids left gone,ComS True ⟨a,b,c,d,p,q,s,t⟩ bs ss w W0 wr (VB+1) VB (.slice u1 m1 k1) (.slice u2 m2 k2) tv iv X ts ids left→Fin v X ts ids left gone→
   ComeV m bs ss ⟨a,b,c,d,p,q,s,t⟩ w (.returned (.tuple #[.agg #[.slice u1 m1 k1,.slice u2 m2 k2,tv,.int .i64 left,.int .i64 gone,iv],.nilIface])) ((((((wr.setCell ⟨P,0,none⟩ (.slice u1 m1 k1)).setCell ⟨P,1,none⟩ (.slice u2 m2 k2)).setCell ⟨P,2,none⟩ tv).setCell ⟨P,3,none⟩ (.int .i64 left)).setCell ⟨P,4,none⟩ (.int .i64 gone)).setCell ⟨P,5,none⟩ iv)∧
   ((((((wr.setCell ⟨P,0,none⟩ (.slice u1 m1 k1)).setCell ⟨P,1,none⟩ (.slice u2 m2 k2)).setCell ⟨P,2,none⟩ tv).setCell ⟨P,3,none⟩ (.int .i64 left)).setCell ⟨P,4,none⟩ (.int .i64 gone)).setCell ⟨P,5,none⟩ iv).heap[P]?=some (.cells #[.slice u1 m1 k1,.slice u2 m2 k2,tv,.int .i64 left,.int .i64 gone,iv] 191 (0,0))):=fun wr u1 u2 m1 m2 k1 k2 tv iv X ts ids left gone hS hF=>by
  have hn:=HNUM.out
  obtain⟨hw,hrP,-⟩:=HFX.out wr hS.far
  have hgg:=zPc wr P (.slice u1 m1 k1) (.slice u2 m2 k2) tv (.int .i64 left) (.int .i64 gone) iv
  have hWW:=hw.grown hgg hw.size (fun k hk=>by cases hk;have:=HP.out.1;omega)
  refine⟨⟨fun _ v' hv'=>?_,fun h=>absurd HC.out h,hWW⟩,zKF hrP _ _ _ _ _ _⟩
  have:=zBn HV.out v' hv'
  subst this
  obtain⟨f1,f2,f3,f4,f5⟩:=hF
  refine⟨fun _=>⟨u1,u2,m1,m2,k1,k2,tv,iv,left,gone,rfl,f4,f5,?_,?_,?_,?_,?_⟩,fun h=>absurd (by rw[f2];exact hS.tl) h⟩
  ·rw[f1];exact(hS.s1.row hgg (by omega)).ls hWW
  ·rw[f1];exact(hS.s2.row hgg (by omega)).ls hWW
  ·rw[f2];exact OwnM.mono (zAj hS.own hgg (fun z hz e=>by cases e;have:=(OwnM.lt hS.own P hz).1;omega)) (by omega)
  ·rw[f3];exact OwnM.mono (zAj hS.nums hgg (fun z hz e=>by cases e;have:=(OwnM.lt hS.nums P hz).1;omega)) (by omega)
  ·rw[f1];exact hS.less
 have HRa:=hidC hRa
 clear hRa hW0s HPa HQa
 go_loopg [10,11,12,13,14] (63) (fun gg _ _ _ _ _ wr=>∃u1 u2 m1 m2 k1 k2 tv iv X ts ids left gone,wr.heap[VB]?=some (.cells #[.slice u1 m1 k1,.slice u2 m2 k2,tv,.int .i64 left,.int .i64 gone,iv] 191 (0,0))∧(0<left→(allR X).length+1≤gg)∧Aside (ComS (Link m ⟨a,b,c,d,p,q,s,t⟩ v X ts ids left gone) ⟨a,b,c,d,p,q,s,t⟩ bs ss w W0 wr (VB+1) VB (.slice u1 m1 k1) (.slice u2 m2 k2) tv iv X ts ids left))
 case atStart=>exact⟨_,_,_,_,_,_,_,_,_,_,_,_,_,HRa.out,fun _=>by have:=H60.out;omega,HS0.out⟩
 case round=>
  obtain⟨u1,u2,m1,m2,k1,k2,tv,iv,X,ts,ids,left,gone,hrow,hmes,HI⟩:=hrel
  have HS:=hidC HI.out
  have HMS:=hidC hmes
  clear HI hmes HS0 HRa
  obtain⟨tq,tn,tc,htv⟩:∃tq tn tc,tv=.slice tq tn tc:=by obtain⟨x,y,z⟩:=OwnM.form HS.out.own;exact⟨x,_,y,z⟩
  obtain⟨iq,jn,ic,hiv⟩:∃iq jn ic,iv=.slice iq jn ic:=by obtain⟨x,y,z⟩:=OwnM.form HS.out.nums;exact⟨x,_,y,z⟩
  subst htv
  subst hiv
  obtain⟨x0,x1,x2,x3,x4,x5,-⟩:=rowV hrow
  obtain⟨hw,hrP,hrQ⟩:=HFX.out wr HS.out.far
  by_cases hp:0<left
  rotate_left
  ·obtain⟨hPO,hHX⟩:=HEND.out _ _ _ _ _ _ _ _ _ _ _ _ _ _ HS.out.free (zNv HS.out.link hp)
   have HPO:=hidC hPO
   have HHX:=hidC hHX
   obtain⟨z0,z1,z2,z3,z4,z5,zf⟩:=rowV hrP
   have f0:=zf 0
   have f1:=zf 1
   have f2:=zf 2
   have f3:=zf 3
   have f4:=zf 4
   have f5:=zf 5
   clear zf hPO hHX HEND HERR HFX hrP hrQ hw hrow
   go_wp2_with fail
   generalize ((((((wr.setCell ⟨P,0,none⟩ (.slice u1 m1 k1)).setCell ⟨P,1,none⟩ (.slice u2 m2 k2)).setCell ⟨P,2,none⟩ (.slice tq tn tc)).setCell ⟨P,3,none⟩ (.int .i64 left)).setCell ⟨P,4,none⟩ (.int .i64 gone)).setCell ⟨P,5,none⟩ (.slice iq jn ic))=Z at *
   obtain⟨y0,y1,y2,y3,y4,y5,-⟩:=rowV HHX.out
   exact jN (v:=.tuple #[.agg #[.slice u1 m1 k1,.slice u2 m2 k2,.slice tq tn tc,.int .i64 left,.int .i64 gone,.slice iq jn ic],.nilIface]) (by simp[results,Tryz.results125,go_sem,y0,y1,y2,y3,y4,y5]) rfl HPO.out
  have hn:=HNUM.out
  have hLK:=zIP HM.out HS.out.link hp HS.out.good
  obtain⟨A1,hA1⟩:∃A1,(zAi ⟨a,b,c,d,p,q,s,t⟩ X).1=A1:=⟨_,rfl⟩
  obtain⟨A2,hA2⟩:∃A2,(zAi ⟨a,b,c,d,p,q,s,t⟩ X).2=A2:=⟨_,rfl⟩
  have HAH:Hid (Calls Tryz.prog 141 #[.agg #[.slice u1 m1 k1,.slice u2 m2 k2],.agg #[.int .i64 a,.int .i64 b,.int .i64 c,.int .i64 d,.int .i64 p,.int .i64 q,.int .i64 s,.int .i64 t]] wr fun e w'=>e=.returned (.tuple #[.int .i64 A1,.int .i64 A2,.nilIface])∧Below wr.heap.size wr w'):=by
   obtain⟨xq,xn,xc,hx,hX⟩:=zPO (c:=c) (o:=⟨a,b,c,d,p,q,s,t⟩) rfl (HS.out.s1.ls hw) (HS.out.s2.ls hw)
   have h:=zKV u1 u2 xq m1 m2 k1 k2 xn xc X a b c d p q s t wr hx hX HS.out.good (by have h1:=HS.out.less.len;have h2:=H60.out;rw[zAQ];omega) HCH.out
   rw[hA1,hA2] at h
   exact h
  obtain⟨K,hK⟩:∃K,min A1 left=K:=⟨_,rfl⟩
  rw[hA1,hA2,hK] at hLK
  obtain⟨rfl,k2z,k3,k4,k5,k6⟩:=hLK
  have hKb:0≤K∧K≤left:=by clear k4 k5 k6 k2z;omega
  have HK:=hidC hKb
  clear hKb
  have HLN:=hidC k4
  have HST:=hidC k5
  have HON:=hidC k6
  have HTZ:=hidC k2z
  have HKK:=hidC hK
  obtain⟨o0,o1,o2,o3,o4,o5,o6,o7,-⟩:=rowO hrQ
  clear k2z k3 k4 k5 k6 hA1 hA2 hrP hw
  go_wp2_with fail
  refine HAH.out.mono ?_
  rintro e w2⟨rfl,b2⟩
  have HS2:=hidC (HS.out.below b2 (by have:=HS.out.far.size;omega))
  have hrow2:=(b2.block VB (gzE.1 hrow).1).trans hrow
  have hrQ2:=(b2.block Q (gzE.1 hrQ).1).trans hrQ
  clear b2 HAH x0 x1 x2 x3 x4 x5 o0 o1 o2 o3 o4 o5 o6 o7 hrow hrQ HS
  obtain⟨x0,x1,x2,x3,x4,x5,-⟩:=rowV hrow2
  obtain⟨o0,o1,o2,o3,o4,o5,o6,o7,-⟩:=rowO hrQ2
  have HTA:=hidC (zKJ w VB (VB+1) u1 u2 m1 m2 k1 k2 (.slice tq tn tc) (.slice iq jn ic) bs ss X ts ids left 0 K a b c d p q s t w2 hrow2 (HFX.out w2 HS2.out.far).1 HS2.out.s1 HS2.out.s2 HS2.out.own HS2.out.nums (Nat.lt_succ_self _) (by have:=HS2.out.far.size;omega) HS2.out.tl HS2.out.good HK.out.1 HK.out.2 HS2.out.lfq HQ.out.2 HC.out HS2.out.less HTZ.out)
  obtain⟨TK,hTK⟩:∃TK,tkl ⟨a,b,c,d,p,q,s,t⟩ X K=TK:=⟨_,rfl⟩
  have HTK:=hidC hTK
  clear hTK hrow2 hrQ2 hn
  go_wp2_with fail
  refine HTA.out.mono ?_
  rintro e w3⟨i1,i2,hf3⟩
  rw[HTK.out] at i1 i2
  have HF3:=hidC (HS2.out.far.trans hf3)
  have HN3:=hidC (show VB+1≤w3.heap.size from by have h1:=HS2.out.far.size;have h2:=hf3.size;have h3:=HNUM.out;omega)
  clear hf3 HTA x0 x1 x2 x3 x4 x5 o0 o1 o2 o3 o4 o5 o6 o7
  by_cases h4:(ts++TK.2.1).length≤400
  rotate_left
  ·have e4:=i2 h4
   subst e4
   obtain⟨hw3,hrP3,-⟩:=HFX.out w3 HF3.out
   obtain⟨hPO,hHX⟩:=HERR.out w3 _ hw3 hrP3 (.inr ⟨HC.out,rfl,v,HV.out,HLN.out (by rw[HTK.out];exact h4)⟩)
   have HPO:=hidC hPO
   have HHX:=hidC hHX
   obtain⟨z0,z1,z2,z3,z4,z5,zf⟩:=rowV hrP3
   have f0:=zf 0
   have f1:=zf 1
   have f2:=zf 2
   have f3:=zf 3
   have f4:=zf 4
   have f5:=zf 5
   clear zf hPO hHX HEND HERR HFX hrP3 hw3 i1 i2 h4
   go_wp2_with fail
   generalize ((((((w3.setCell ⟨P,0,none⟩ (.slice none 0 0)).setCell ⟨P,1,none⟩ (.slice none 0 0)).setCell ⟨P,2,none⟩ (.slice none 0 0)).setCell ⟨P,3,none⟩ (.int .i64 0)).setCell ⟨P,4,none⟩ (.int .i64 0)).setCell ⟨P,5,none⟩ (.slice none 0 0))=Z at *
   obtain⟨y0,y1,y2,y3,y4,y5,-⟩:=rowV HHX.out
   exact jN (v:=.tuple #[.agg #[.slice none 0 0,.slice none 0 0,.slice none 0 0,.int .i64 0,.int .i64 0,.slice none 0 0],.iface 91 (.int .i64 4)]) (by simp[results,Tryz.results125,go_sem,y0,y1,y2,y3,y4,y5]) rfl HPO.out
  obtain⟨rfl,v1,v2,l1,l2,d1,d2,tv3,hrow3,S13,S23,T3,I3⟩:=i1 h4
  obtain⟨yq,yn,yc,hyv⟩:∃yq yn yc,tv3=.slice yq yn yc:=by obtain⟨x,y,z⟩:=OwnM.form T3;exact⟨x,_,y,z⟩
  subst hyv
  obtain⟨LF,hLF⟩:∃LF,left - K=LF:=⟨_,rfl⟩
  rw[hLF] at hrow3
  have HLF:=hidC hLF
  have HX3:=hidC (show (∀l∈TK.1,lchk l=0)∧Less (zAr bs ss ⟨a,b,c,d,p,q,s,t⟩) TK.1 from by
   rw[←HTK.out]
   exact⟨zHL HK.out.1 HS2.out.good,HS2.out.less.trans (zDP HK.out.1 HS2.out.good)⟩)
  have HCN:=hidC (show (allR TK.1).length≤(allR X).length from by rw[←HTK.out];exact(zDP HK.out.1 HS2.out.good).len)
  have HS13:=hidC S13
  have HS23:=hidC S23
  have HT3:=hidC T3
  have HI3:=hidC I3
  have H4:=hidC h4
  have HST' : Hid ((LF=0∨A2=0)→Fin v TK.1 (ts++TK.2.1) ids LF 0):=by
   have h:=HST.out
   rw[HTK.out,hLF] at h
   exact h
  have HON' : Hid (¬LF=0→¬A2=0→∃p' r rs t',TK.1=⟨p',r::rs⟩::t'∧r.id=A2∧Link m ⟨a,b,c,d,p,q,s,t⟩ v (zBK m p' r rs t') (ts++TK.2.1) (zDE m ids r.id) (zBQ m LF) (zEh m 0 LF)):=by
   have h:=HON.out
   rw[HTK.out,hLF] at h
   exact h
  have HLB:=hidC (show 0≤LF∧LF≤q from by have h1:=HK.out;have h2:=HS2.out.lfq;simp only[] at h2;omega)
  have HMM:=hidC (show (allR X).length+1≤gk from HMS.out hp)
  have HIL:=hidC HS2.out.il
  have HS3:=hidC (show ComS True ⟨a,b,c,d,p,q,s,t⟩ bs ss w W0 w3 (VB+1) VB (.slice v1 l1 d1) (.slice v2 l2 d2) (.slice yq yn yc) (.slice iq jn ic) TK.1 (ts++TK.2.1) ids LF from⟨HF3.out,S13,S23,HX3.out.2,HX3.out.1,T3,I3,h4,by have h1:=HIL.out;have h2:=HCN.out;omega,HLB.out.1,HLB.out.2,trivial⟩)
  obtain⟨hw3,hrP3,-⟩:=HFX.out w3 HF3.out
  obtain⟨x0,x1,x2,x3,x4,x5,-⟩:=rowV hrow3
  clear i1 i2 S13 S23 T3 I3 hLF HS13 HS23 HT3 HI3 HST HON HS2
  by_cases hst:LF=0∨A2=0
  ·obtain⟨hPO,hHX⟩:=HEND.out _ _ _ _ _ _ _ _ _ _ _ _ _ _ HS3.out (HST'.out hst)
   have HPO:=hidC hPO
   have HHX:=hidC hHX
   obtain⟨z0,z1,z2,z3,z4,z5,zf⟩:=rowV hrP3
   have f0:=zf 0
   have f1:=zf 1
   have f2:=zf 2
   have f3:=zf 3
   have f4:=zf 4
   have f5:=zf 5
   clear zf hPO hHX HEND HERR HFX hrP3 hw3 hrow3
   have HDONE:Hid (∀Z:World,Z.heap[P]?=some (.cells #[.slice v1 l1 d1,.slice v2 l2 d2,.slice yq yn yc,.int .i64 LF,.int .i64 0,.slice iq jn ic] 191 (0,0))→ComeV m bs ss ⟨a,b,c,d,p,q,s,t⟩ w (.returned (.tuple #[.agg #[.slice v1 l1 d1,.slice v2 l2 d2,.slice yq yn yc,.int .i64 LF,.int .i64 0,.slice iq jn ic],.nilIface])) Z→True):=fun _ _ _=>trivial
   by_cases hA0:A2=0
   ·subst hA0
    go_wp2_with fail
    generalize ((((((w3.setCell ⟨P,0,none⟩ (.slice v1 l1 d1)).setCell ⟨P,1,none⟩ (.slice v2 l2 d2)).setCell ⟨P,2,none⟩ (.slice yq yn yc)).setCell ⟨P,3,none⟩ (.int .i64 LF)).setCell ⟨P,4,none⟩ (.int .i64 0)).setCell ⟨P,5,none⟩ (.slice iq jn ic))=Z at *
    obtain⟨y0,y1,y2,y3,y4,y5,-⟩:=rowV HHX.out
    exact jN (v:=.tuple #[.agg #[.slice v1 l1 d1,.slice v2 l2 d2,.slice yq yn yc,.int .i64 LF,.int .i64 0,.slice iq jn ic],.nilIface]) (by simp[results,Tryz.results125,go_sem,y0,y1,y2,y3,y4,y5]) rfl HPO.out
   ·have hA0b:(A2 == 0)=false:=by simp[hA0]
    have hL0:LF=0:=hst.resolve_right hA0
    subst hL0
    go_wp2_with fail
    generalize ((((((w3.setCell ⟨P,0,none⟩ (.slice v1 l1 d1)).setCell ⟨P,1,none⟩ (.slice v2 l2 d2)).setCell ⟨P,2,none⟩ (.slice yq yn yc)).setCell ⟨P,3,none⟩ (.int .i64 0)).setCell ⟨P,4,none⟩ (.int .i64 0)).setCell ⟨P,5,none⟩ (.slice iq jn ic))=Z at *
    obtain⟨y0,y1,y2,y3,y4,y5,-⟩:=rowV HHX.out
    exact jN (v:=.tuple #[.agg #[.slice v1 l1 d1,.slice v2 l2 d2,.slice yq yn yc,.int .i64 0,.int .i64 0,.slice iq jn ic],.nilIface]) (by simp[results,Tryz.results125,go_sem,y0,y1,y2,y3,y4,y5]) rfl HPO.out
  ·have hL0:¬LF=0:=fun h=>hst (.inl h)
   have hA0:¬A2=0:=fun h=>hst (.inr h)
   have hA0b:(A2 == 0)=false:=by simp[hA0]
   have hL0b:(LF == 0)=false:=by simp[hL0]
   obtain⟨p',r,rs,t',e1,e2,e3⟩:=HON'.out hL0 hA0
   have HE1:=hidC e1
   have HE3:=hidC e3
   have hX3:=HX3.out
   rw[e1] at hX3
   have hS3:=HS3.out
   rw[e1] at hS3
   have hbk:zAd (repB ⟨a,b,c,d,p,q,s,t⟩ bs (⟨p',r::rs⟩::t')) (repS ⟨a,b,c,d,p,q,s,t⟩ ss (⟨p',r::rs⟩::t'))=0:=zCj (zAG HC.out).1 hX3.2
   have hnum:=HNUM.out
   have HDR:=hidC (zKS w m HM.out VB (VB+1) ⟨a,b,c,d,p,q,s,t⟩ v1 v2 l1 l2 d1 d2 (.slice yq yn yc) (.slice iq jn ic) bs ss p' r rs t' (ts++TK.2.1) ids LF 0 w3 hrow3 hw3 hS3.s1 hS3.s2 hbk hS3.own hS3.nums (Nat.lt_succ_self _) HN3.out (by have:=hS3.il;omega))
   rw[e2] at HDR
   have HGD:=hidC (show (∀l∈zBK m p' r rs t',lchk l=0)∧Less (zAr bs ss ⟨a,b,c,d,p,q,s,t⟩) (zBK m p' r rs t') from⟨zIR hX3.1,hX3.2.trans (zIQ hX3.1)⟩)
   have HCT:=hidC (show (zDE m ids A2).length+(allR (zBK m p' r rs t')).length≤61∧(m=2→(allR (zBK m p' r rs t')).length+1≤(allR X).length)∧(¬m=2→zBQ m LF=0)∧0≤zBQ m LF∧zBQ m LF≤q from by
    have h1:=hS3.il
    have h2:=HCN.out
    rw[HE1.out] at h2
    have h3:=HLB.out
    have hc:m≠1→(allR (zBK m p' r rs t')).length+1=(allR (⟨p',r::rs⟩::t')).length:=fun h=>by
     unfold zBK
     rw[if_neg h,zCb,zAp]
     simp only[jE,jG]
     omega
    refine⟨?_,?_,?_,?_,?_⟩
    ·by_cases h1m:m=1
     ·subst h1m
      unfold zDE zBK
      rw[if_pos rfl,if_pos rfl]
      exact h1
     ·have:=hc h1m
      unfold zDE
      rw[if_neg h1m,jE]
      simp only[List.length_singleton]
      omega
    ·intro h2m
     have:=hc (by omega)
     omega
    ·intro h2m;exact if_neg h2m
    ·unfold zBQ;split <;>omega
    ·unfold zBQ;split <;>omega)
   clear hX3 hS3 hbk e1 hrP3 hw3 hst HST' HON' hrow3
   go_wp2_with fail
   refine HDR.out.mono ?_
   rintro e w4⟨rfl,hf4,y1,y2,j1,j2,f1,f2,iv4,hrow4,S14,S24,T4,I4⟩
   have HR4:=hidC hrow4
   have HS4:=hidC (show ComS (Link m ⟨a,b,c,d,p,q,s,t⟩ v (zBK m p' r rs t') (ts++TK.2.1) (zDE m ids A2) (zBQ m LF) (zEh m 0 LF)) ⟨a,b,c,d,p,q,s,t⟩ bs ss w W0 w4 (VB+1) VB (.slice y1 j1 f1) (.slice y2 j2 f2) (.slice yq yn yc) iv4 (zBK m p' r rs t') (ts++TK.2.1) (zDE m ids A2) (zBQ m LF) from
    ⟨HF3.out.trans hf4,S14,S24,HGD.out.2,HGD.out.1,T4,I4,H4.out,HCT.out.1,HCT.out.2.2.2.1,HCT.out.2.2.2.2,by rw[←e2];exact HE3.out⟩)
   clear hrow4 S14 S24 T4 I4 hf4 x0 x1 x2 x3 x4 x5 hA0b hL0b
   go_wp2_with fail
   by_cases h2m:m=2
   ·go_roundg ((allR (zBK m p' r rs t')).length+1)
    case measure=>
     have h1:=HCT.out.2.1 h2m
     have h2:=HMM.out
     omega
    case rel=>exact⟨_,_,_,_,_,_,_,_,_,_,_,_,_,HR4.out,fun _=>nzR _,HS4.out⟩
   ·go_roundg 0
    case measure=>
     have h2:=HMM.out
     omega
    case rel=>exact⟨_,_,_,_,_,_,_,_,_,_,_,_,_,HR4.out,fun h=>by have:=HCT.out.2.2.1 h2m;omega,HS4.out⟩
end slf
namespace bok
open Go.RowKit spn que sid
def put1(bs:List L)(s p:Int)(r:R):List L:=if s=1 then putL s p r bs else bs
def put2(ss:List L)(s p:Int)(r:R):List L:=if s=1 then ss else putL s p r ss
def putE(bs ss:List L)(s p:Int)(r:R):Int:=
 if zAd bs ss=0 then (if addE s (if s=1 then bs else ss) p r=0 then zAd (put1 bs s p r) (put2 ss s p r) else addE s (if s=1 then bs else ss) p r) else zAd bs ss
def PutPostD(bs ss:List L)(s p:Int)(r:R)(w:World)(e:Ending)(w' : World):Prop:=
 ∃q1 q2 n1 n2 c1 c2,e=.returned (.tuple #[.agg #[.slice q1 n1 c1,.slice q2 n2 c2],errV (putE bs ss s p r)])∧DL w' w.heap.size (.slice q1 n1 c1) (if putE bs ss s p r=0 then put1 bs s p r else [])∧DL w' w.heap.size (.slice q2 n2 c2) (if putE bs ss s p r=0 then put2 ss s p r else [])∧Below w.heap.size w w'
theorem zEl{bs ss:List L}{s p:Int}{r:R}{w W:World}{k:Int}(h:putE bs ss s p r=k)(hk:¬k=0)(hW:Below w.heap.size w W):PutPostD bs ss s p r w (.returned (.tuple #[.agg #[.slice none 0 0,.slice none 0 0],.iface 91 (.int .i64 k)])) W:=
 ⟨none,none,0,0,0,0,by rw[h,errV_of hk],by rw[h,if_neg hk];exact zED _ _,by rw[h,if_neg hk];exact zED _ _,hW⟩
theorem zNF(s p:Int)(q1 q2:Option Addr)(n1 n2 c1 c2:Nat)(a b c d e:Int)(bs ss:List L)(w:World)(h1:LS w (.slice q1 n1 c1) bs)(h2:LS w (.slice q2 n2 c2) ss)(h0:¬zAd bs ss=0) :
  Calls Tryz.prog 94 #[.agg #[.slice q1 n1 c1,.slice q2 n2 c2],.int .i64 s,.int .i64 p,.agg #[.int .i64 a,.int .i64 b,.int .i64 c,.int .i64 d,.int .i64 e]] w fun x w'=>PutPostD bs ss s p ⟨a,b,c,d,e⟩ w x w':=by
 have HCH:=fun W(hW:Below w.heap.size w W)=>check_any q1 q2 n1 n2 c1 c2 bs ss W (h1.below hW) (h2.below hW)
 rw[errV_of h0] at HCH
 have HERR:Hid (∀W,Below w.heap.size w W→PutPostD bs ss s p ⟨a,b,c,d,e⟩ w (.returned (.tuple #[.agg #[.slice none 0 0,.slice none 0 0],.iface 91 (.int .i64 (zAd bs ss))])) W):=fun W hW=>zEl (by unfold putE;rw[if_neg h0]) h0 hW
 obtain⟨V,hV⟩:∃V,V=((w.alloc (.cells #[.slice q1 n1 c1,.slice q2 n2 c2] 46)).alloc (.cells #[.int .i64 a,.int .i64 b,.int .i64 c,.int .i64 d,.int .i64 e] 54)).alloc (.cells #[.slice none 0 0,.slice none 0 0] 46):=⟨_,rfl⟩
 have HB:Hid (Below w.heap.size w V):=by rw[hV];exact(((bzR _ _).alloc (nzR _) _).alloc (by simp) _).alloc (by simp;omega) _
 have v0:V.cell? ⟨w.heap.size,0,none⟩=some (.slice q1 n1 c1):=by rw[hV];simp[go_sem]
 have v1:V.cell? ⟨w.heap.size,1,none⟩=some (.slice q2 n2 c2):=by rw[hV];simp[go_sem]
 have r0:V.cell? ⟨w.heap.size+1,0,none⟩=some (.int .i64 a):=by rw[hV];simp[go_sem]
 have r1:V.cell? ⟨w.heap.size+1,1,none⟩=some (.int .i64 b):=by rw[hV];simp[go_sem]
 have r2:V.cell? ⟨w.heap.size+1,2,none⟩=some (.int .i64 c):=by rw[hV];simp[go_sem]
 have r3:V.cell? ⟨w.heap.size+1,3,none⟩=some (.int .i64 d):=by rw[hV];simp[go_sem]
 have r4:V.cell? ⟨w.heap.size+1,4,none⟩=some (.int .i64 e):=by rw[hV];simp[go_sem]
 have hR:V.heap[w.heap.size+2]?=some (.cells #[.slice none 0 0,.slice none 0 0] 46 (0,0)):=by
  rw[hV]
  have:=jA ((w.alloc (.cells #[.slice q1 n1 c1,.slice q2 n2 c2] 46)).alloc (.cells #[.int .i64 a,.int .i64 b,.int .i64 c,.int .i64 d,.int .i64 e] 54)) (.cells #[.slice none 0 0,.slice none 0 0] 46)
  simpa using this
 have hVs:w.heap.size+2<V.heap.size:=(gzE.1 hR).1
 generalize PutPostD bs ss s p ⟨a,b,c,d,e⟩ w=POST at *
 generalize zAd bs ss=k at *
 clear h0 h1 h2 r0 r1 r2 r3 r4
 go_enter Tryz.func94,Tryz.ntmps94
 go_wp2_with fail
 rw[←hV]
 refine(HCH V HB.out).mono ?_
 rintro x w1⟨rfl,b1⟩
 have HBW:Hid (Below w.heap.size w w1):=HB.out.trans (b1.mono HB.out.size)
 have hRW:w1.heap[w.heap.size+2]?=some (.cells #[.slice none 0 0,.slice none 0 0] 46 (0,0)):=by rw[b1.block _ hVs];exact hR
 clear b1 HCH v0 v1 hR
 obtain⟨g0,g1,hf⟩:=zAb hRW
 have f0:=hf 0
 have f1:=hf 1
 have hg:=zAN w1 (w.heap.size+2) (.slice none 0 0) (.slice none 0 0)
 have HPX:=HERR.out _ (HBW.out.grown hg HBW.out.size (fun k hk=>by cases hk;omega))
 have HHX:Hid (((w1.setCell ⟨w.heap.size+2,0,none⟩ (.slice none 0 0)).setCell ⟨w.heap.size+2,1,none⟩ (.slice none 0 0)).heap[w.heap.size+2]?=some (.cells #[.slice none 0 0,.slice none 0 0] 46 (0,0))):=zAw hRW (.slice none 0 0) (.slice none 0 0)
 clear hf hg HERR hRW
 go_wp2_with fail
 generalize ((w1.setCell ⟨w.heap.size+2,0,none⟩ (.slice none 0 0)).setCell ⟨w.heap.size+2,1,none⟩ (.slice none 0 0))=X at *
 obtain⟨y0,y1,-⟩:=zAb HHX.out
 exact jN (v:=.tuple #[.agg #[.slice none 0 0,.slice none 0 0],.iface 91 (.int .i64 k)]) (by simp[results,Tryz.results94,go_sem,y0,y1]) rfl HPX
theorem zNG(p:Int)(q1 q2:Option Addr)(n1 n2 c1 c2:Nat)(a b c d e:Int)(bs ss:List L)(w:World)(h1:LS w (.slice q1 n1 c1) bs)(h2:LS w (.slice q2 n2 c2) ss) (h0:zAd bs ss=0)(ha:¬addE 1 bs p ⟨a,b,c,d,e⟩=0) :
  Calls Tryz.prog 94 #[.agg #[.slice q1 n1 c1,.slice q2 n2 c2],.int .i64 1,.int .i64 p,.agg #[.int .i64 a,.int .i64 b,.int .i64 c,.int .i64 d,.int .i64 e]] w fun x w'=>PutPostD bs ss 1 p ⟨a,b,c,d,e⟩ w x w':=by
 have HCH:=fun W(hW:Below w.heap.size w W)=>check_any q1 q2 n1 n2 c1 c2 bs ss W (h1.below hW) (h2.below hW)
 rw[h0,errV_zero] at HCH
 have HERR:Hid (∀W,Below w.heap.size w W→PutPostD bs ss 1 p ⟨a,b,c,d,e⟩ w (.returned (.tuple #[.agg #[.slice none 0 0,.slice none 0 0],.iface 91 (.int .i64 (addE 1 bs p ⟨a,b,c,d,e⟩))])) W):=fun W hW=>zEl (by unfold putE;rw[if_pos h0,if_pos rfl,if_neg ha]) ha hW
 obtain⟨AL,hAL⟩:∃AL,AL=addL 1 bs p ⟨a,b,c,d,e⟩:=⟨_,rfl⟩
 have HAD:Hid (∀W,Below w.heap.size w W→Calls Tryz.prog 121 #[.int .i64 1,.slice q1 n1 c1,.int .i64 p,.agg #[.int .i64 a,.int .i64 b,.int .i64 c,.int .i64 d,.int .i64 e]] W fun x w'=>Below W.heap.size W w'∧∃q n cc,x=.returned (.tuple #[.slice q n cc,.iface 91 (.int .i64 (addE 1 bs p ⟨a,b,c,d,e⟩))])∧LS w' (.slice q n cc) AL):=fun W hW=>(zDr 1 _ bs p a b c d e W (h1.below hW)).mono fun x w' h=>by
  obtain⟨g1,v',g2,g3⟩:=h
  rw[errV_of ha] at g2
  obtain⟨q,n,cc,rfl⟩:=g3.form
  exact⟨g1,q,n,cc,g2,by rw[hAL];exact g3.ls⟩
 obtain⟨V,hV⟩:∃V,V=((w.alloc (.cells #[.slice q1 n1 c1,.slice q2 n2 c2] 46)).alloc (.cells #[.int .i64 a,.int .i64 b,.int .i64 c,.int .i64 d,.int .i64 e] 54)).alloc (.cells #[.slice none 0 0,.slice none 0 0] 46):=⟨_,rfl⟩
 have HB:Hid (Below w.heap.size w V):=by rw[hV];exact(((bzR _ _).alloc (nzR _) _).alloc (by simp) _).alloc (by simp;omega) _
 have v0:V.cell? ⟨w.heap.size,0,none⟩=some (.slice q1 n1 c1):=by rw[hV];simp[go_sem]
 have v1:V.cell? ⟨w.heap.size,1,none⟩=some (.slice q2 n2 c2):=by rw[hV];simp[go_sem]
 have r0:V.cell? ⟨w.heap.size+1,0,none⟩=some (.int .i64 a):=by rw[hV];simp[go_sem]
 have r1:V.cell? ⟨w.heap.size+1,1,none⟩=some (.int .i64 b):=by rw[hV];simp[go_sem]
 have r2:V.cell? ⟨w.heap.size+1,2,none⟩=some (.int .i64 c):=by rw[hV];simp[go_sem]
 have r3:V.cell? ⟨w.heap.size+1,3,none⟩=some (.int .i64 d):=by rw[hV];simp[go_sem]
 have r4:V.cell? ⟨w.heap.size+1,4,none⟩=some (.int .i64 e):=by rw[hV];simp[go_sem]
 have hR:V.heap[w.heap.size+2]?=some (.cells #[.slice none 0 0,.slice none 0 0] 46 (0,0)):=by
  rw[hV]
  have:=jA ((w.alloc (.cells #[.slice q1 n1 c1,.slice q2 n2 c2] 46)).alloc (.cells #[.int .i64 a,.int .i64 b,.int .i64 c,.int .i64 d,.int .i64 e] 54)) (.cells #[.slice none 0 0,.slice none 0 0] 46)
  simpa using this
 have hVs:w.heap.size+2<V.heap.size:=(gzE.1 hR).1
 generalize PutPostD bs ss 1 p ⟨a,b,c,d,e⟩ w=POST at *
 generalize addE 1 bs p ⟨a,b,c,d,e⟩=k at *
 clear h0 h1 h2 ha hAL
 go_enter Tryz.func94,Tryz.ntmps94
 go_wp2_with fail
 rw[←hV]
 refine(HCH V HB.out).mono ?_
 rintro x w1⟨rfl,b1⟩
 have HB1:Hid (Below w.heap.size w w1):=HB.out.trans (b1.mono HB.out.size)
 have hR1:w1.heap[w.heap.size+2]?=some (.cells #[.slice none 0 0,.slice none 0 0] 46 (0,0)):=by rw[b1.block _ hVs];exact hR
 have x0:=zAa b1 v0
 have x1:=zAa b1 v1
 have y0:=zAa b1 r0
 have y1:=zAa b1 r1
 have y2:=zAa b1 r2
 have y3:=zAa b1 r3
 have y4:=zAa b1 r4
 have hs1:w.heap.size+2<w1.heap.size:=jC hVs b1.size
 have HLV:Hid (∀W,Below w1.heap.size w1 W→Calls Tryz.prog 61 #[.agg #[.slice q1 n1 c1,.slice q2 n2 c2],.int .i64 1] W fun e w'=>e=.returned (.slice q1 n1 c1)∧Below w1.heap.size w1 w'):=fun W hW=>by
  have:=zAv 1 q1 q2 n1 n2 c1 c2 W
  rw[if_pos rfl] at this
  exact this.mono fun e w' h=>⟨h.1,hW.trans (h.2.mono hW.size)⟩
 have HAD2:Hid (∀W,Below w1.heap.size w1 W→Calls Tryz.prog 121 #[.int .i64 1,.slice q1 n1 c1,.int .i64 p,.agg #[.int .i64 a,.int .i64 b,.int .i64 c,.int .i64 d,.int .i64 e]] W fun x w'=>Below w1.heap.size w1 w'∧∃q n cc,x=.returned (.tuple #[.slice q n cc,.iface 91 (.int .i64 k)])∧LS w' (.slice q n cc) AL):=fun W hW=>(HAD.out W (HB1.out.trans (hW.mono HB1.out.size))).mono fun x w' h=>⟨hW.trans (h.1.mono hW.size),h.2⟩
 have SO:Hid (∀W,Below w1.heap.size w1 W→(Below w1.heap.size w1 W∧W.cell? ⟨w.heap.size,0,none⟩=some (.slice q1 n1 c1)∧W.cell? ⟨w.heap.size,1,none⟩=some (.slice q2 n2 c2)∧W.cell? ⟨w.heap.size+1,0,none⟩=some (.int .i64 a)∧W.cell? ⟨w.heap.size+1,1,none⟩=some (.int .i64 b)∧W.cell? ⟨w.heap.size+1,2,none⟩=some (.int .i64 c)∧W.cell? ⟨w.heap.size+1,3,none⟩=some (.int .i64 d)∧W.cell? ⟨w.heap.size+1,4,none⟩=some (.int .i64 e))):=fun W hW=>⟨hW,zAa hW x0,zAa hW x1,zAa hW y0,zAa hW y1,zAa hW y2,zAa hW y3,zAa hW y4⟩
 clear b1 HCH v0 v1 r0 r1 r2 r3 r4 hR HAD
 go_upto_region 4 with fail
 go_region_held3 (fun W=>Below w1.heap.size w1 W∧W.cell? ⟨w.heap.size,0,none⟩=some (.slice q1 n1 c1)∧W.cell? ⟨w.heap.size,1,none⟩=some (.slice q2 n2 c2)∧W.cell? ⟨w.heap.size+1,0,none⟩=some (.int .i64 a)∧W.cell? ⟨w.heap.size+1,1,none⟩=some (.int .i64 b)∧W.cell? ⟨w.heap.size+1,2,none⟩=some (.int .i64 c)∧W.cell? ⟨w.heap.size+1,3,none⟩=some (.int .i64 d)∧W.cell? ⟨w.heap.size+1,4,none⟩=some (.int .i64 e))
  ((refine SO.out _ ?_;(with_reducible repeat' (first|assumption|refine bal ?_ _|refine Below.setCell ?_ ?_ _|refine Below.drew ?_|exact bzR _ _|exact nzR _|exact Below.size (by assumption)|refine jD ?_))))
  (first|(go_at_call 61;with_reducible refine(HLV.out _ ?_).mono ?_;(with_reducible repeat' (first|assumption|refine bal ?_ _|refine Below.setCell ?_ ?_ _|refine Below.drew ?_|exact bzR _ _|exact nzR _|exact Below.size (by assumption)|refine jD ?_));rintro x W ⟨rfl,hbn⟩)|(go_at_call 121;with_reducible refine(HAD2.out _ ?_).mono ?_;(with_reducible repeat' (first|assumption|refine bal ?_ _|refine Below.setCell ?_ ?_ _|refine Below.drew ?_|exact bzR _ _|exact nzR _|exact Below.size (by assumption)|refine jD ?_));rintro x W ⟨hbn,q3,n3,c3,rfl,hL3⟩))
 have HBW:Hid (Below w.heap.size w W):=HB1.out.trans (hbn.mono HB1.out.size)
 have hRW:W.heap[w.heap.size+2]?=some (.cells #[.slice none 0 0,.slice none 0 0] 46 (0,0)):=by rw[hbn.block _ hs1];exact hR1
 clear hbn hL3 SO HLV HAD2 x0 x1 y0 y1 y2 y3 y4 hR1
 obtain⟨g0,g1,hf⟩:=zAb hRW
 have f0:=hf 0
 have f1:=hf 1
 have hg:=zAN W (w.heap.size+2) (.slice none 0 0) (.slice none 0 0)
 have HPX:=HERR.out _ (HBW.out.grown hg HBW.out.size (fun k hk=>by cases hk;omega))
 have HHX:Hid (((W.setCell ⟨w.heap.size+2,0,none⟩ (.slice none 0 0)).setCell ⟨w.heap.size+2,1,none⟩ (.slice none 0 0)).heap[w.heap.size+2]?=some (.cells #[.slice none 0 0,.slice none 0 0] 46 (0,0))):=zAw hRW (.slice none 0 0) (.slice none 0 0)
 clear hf hg HERR hRW
 go_wp2_with fail
 generalize ((W.setCell ⟨w.heap.size+2,0,none⟩ (.slice none 0 0)).setCell ⟨w.heap.size+2,1,none⟩ (.slice none 0 0))=X at *
 obtain⟨y0,y1,-⟩:=zAb HHX.out
 exact jN (v:=.tuple #[.agg #[.slice none 0 0,.slice none 0 0],.iface 91 (.int .i64 k)]) (by simp[results,Tryz.results94,go_sem,y0,y1]) rfl HPX
theorem zNH(s p:Int)(q1 q2:Option Addr)(n1 n2 c1 c2:Nat)(a b c d e:Int)(bs ss:List L)(w:World)(h1:LS w (.slice q1 n1 c1) bs)(h2:LS w (.slice q2 n2 c2) ss)(hs:¬s=1)(h0:zAd bs ss=0)(ha:¬addE s ss p ⟨a,b,c,d,e⟩=0) :
  Calls Tryz.prog 94 #[.agg #[.slice q1 n1 c1,.slice q2 n2 c2],.int .i64 s,.int .i64 p,.agg #[.int .i64 a,.int .i64 b,.int .i64 c,.int .i64 d,.int .i64 e]] w fun x w'=>PutPostD bs ss s p ⟨a,b,c,d,e⟩ w x w':=by
 have HCH:=fun W(hW:Below w.heap.size w W)=>check_any q1 q2 n1 n2 c1 c2 bs ss W (h1.below hW) (h2.below hW)
 rw[h0,errV_zero] at HCH
 have HERR:Hid (∀W,Below w.heap.size w W→PutPostD bs ss s p ⟨a,b,c,d,e⟩ w (.returned (.tuple #[.agg #[.slice none 0 0,.slice none 0 0],.iface 91 (.int .i64 (addE s ss p ⟨a,b,c,d,e⟩))])) W):=fun W hW=>zEl (by unfold putE;rw[if_pos h0,if_neg hs,if_neg ha]) ha hW
 obtain⟨AL,hAL⟩:∃AL,AL=addL s ss p ⟨a,b,c,d,e⟩:=⟨_,rfl⟩
 have HAD:Hid (∀W,Below w.heap.size w W→Calls Tryz.prog 121 #[.int .i64 s,.slice q2 n2 c2,.int .i64 p,.agg #[.int .i64 a,.int .i64 b,.int .i64 c,.int .i64 d,.int .i64 e]] W fun x w'=>Below W.heap.size W w'∧∃q n cc,x=.returned (.tuple #[.slice q n cc,.iface 91 (.int .i64 (addE s ss p ⟨a,b,c,d,e⟩))])∧LS w' (.slice q n cc) AL):=fun W hW=>(zDr s _ ss p a b c d e W (h2.below hW)).mono fun x w' h=>by
  obtain⟨g1,v',g2,g3⟩:=h
  rw[errV_of ha] at g2
  obtain⟨q,n,cc,rfl⟩:=g3.form
  exact⟨g1,q,n,cc,g2,by rw[hAL];exact g3.ls⟩
 obtain⟨V,hV⟩:∃V,V=((w.alloc (.cells #[.slice q1 n1 c1,.slice q2 n2 c2] 46)).alloc (.cells #[.int .i64 a,.int .i64 b,.int .i64 c,.int .i64 d,.int .i64 e] 54)).alloc (.cells #[.slice none 0 0,.slice none 0 0] 46):=⟨_,rfl⟩
 have HB:Hid (Below w.heap.size w V):=by rw[hV];exact(((bzR _ _).alloc (nzR _) _).alloc (by simp) _).alloc (by simp;omega) _
 have v0:V.cell? ⟨w.heap.size,0,none⟩=some (.slice q1 n1 c1):=by rw[hV];simp[go_sem]
 have v1:V.cell? ⟨w.heap.size,1,none⟩=some (.slice q2 n2 c2):=by rw[hV];simp[go_sem]
 have r0:V.cell? ⟨w.heap.size+1,0,none⟩=some (.int .i64 a):=by rw[hV];simp[go_sem]
 have r1:V.cell? ⟨w.heap.size+1,1,none⟩=some (.int .i64 b):=by rw[hV];simp[go_sem]
 have r2:V.cell? ⟨w.heap.size+1,2,none⟩=some (.int .i64 c):=by rw[hV];simp[go_sem]
 have r3:V.cell? ⟨w.heap.size+1,3,none⟩=some (.int .i64 d):=by rw[hV];simp[go_sem]
 have r4:V.cell? ⟨w.heap.size+1,4,none⟩=some (.int .i64 e):=by rw[hV];simp[go_sem]
 have hR:V.heap[w.heap.size+2]?=some (.cells #[.slice none 0 0,.slice none 0 0] 46 (0,0)):=by
  rw[hV]
  have:=jA ((w.alloc (.cells #[.slice q1 n1 c1,.slice q2 n2 c2] 46)).alloc (.cells #[.int .i64 a,.int .i64 b,.int .i64 c,.int .i64 d,.int .i64 e] 54)) (.cells #[.slice none 0 0,.slice none 0 0] 46)
  simpa using this
 have hVs:w.heap.size+2<V.heap.size:=(gzE.1 hR).1
 generalize PutPostD bs ss s p ⟨a,b,c,d,e⟩ w=POST at *
 generalize addE s ss p ⟨a,b,c,d,e⟩=k at *
 clear h0 h1 h2 ha hAL
 go_enter Tryz.func94,Tryz.ntmps94
 go_wp2_with fail
 rw[←hV]
 refine(HCH V HB.out).mono ?_
 rintro x w1⟨rfl,b1⟩
 have HB1:Hid (Below w.heap.size w w1):=HB.out.trans (b1.mono HB.out.size)
 have hR1:w1.heap[w.heap.size+2]?=some (.cells #[.slice none 0 0,.slice none 0 0] 46 (0,0)):=by rw[b1.block _ hVs];exact hR
 have x0:=zAa b1 v0
 have x1:=zAa b1 v1
 have y0:=zAa b1 r0
 have y1:=zAa b1 r1
 have y2:=zAa b1 r2
 have y3:=zAa b1 r3
 have y4:=zAa b1 r4
 have hs1:w.heap.size+2<w1.heap.size:=jC hVs b1.size
 have HLV:Hid (∀W,Below w1.heap.size w1 W→Calls Tryz.prog 61 #[.agg #[.slice q1 n1 c1,.slice q2 n2 c2],.int .i64 s] W fun e w'=>e=.returned (.slice q2 n2 c2)∧Below w1.heap.size w1 w'):=fun W hW=>by
  have:=zAv s q1 q2 n1 n2 c1 c2 W
  rw[if_neg hs] at this
  exact this.mono fun e w' h=>⟨h.1,hW.trans (h.2.mono hW.size)⟩
 have HAD2:Hid (∀W,Below w1.heap.size w1 W→Calls Tryz.prog 121 #[.int .i64 s,.slice q2 n2 c2,.int .i64 p,.agg #[.int .i64 a,.int .i64 b,.int .i64 c,.int .i64 d,.int .i64 e]] W fun x w'=>Below w1.heap.size w1 w'∧∃q n cc,x=.returned (.tuple #[.slice q n cc,.iface 91 (.int .i64 k)])∧LS w' (.slice q n cc) AL):=fun W hW=>(HAD.out W (HB1.out.trans (hW.mono HB1.out.size))).mono fun x w' h=>⟨hW.trans (h.1.mono hW.size),h.2⟩
 have SO:Hid (∀W,Below w1.heap.size w1 W→(Below w1.heap.size w1 W∧W.cell? ⟨w.heap.size,0,none⟩=some (.slice q1 n1 c1)∧W.cell? ⟨w.heap.size,1,none⟩=some (.slice q2 n2 c2)∧W.cell? ⟨w.heap.size+1,0,none⟩=some (.int .i64 a)∧W.cell? ⟨w.heap.size+1,1,none⟩=some (.int .i64 b)∧W.cell? ⟨w.heap.size+1,2,none⟩=some (.int .i64 c)∧W.cell? ⟨w.heap.size+1,3,none⟩=some (.int .i64 d)∧W.cell? ⟨w.heap.size+1,4,none⟩=some (.int .i64 e))):=fun W hW=>⟨hW,zAa hW x0,zAa hW x1,zAa hW y0,zAa hW y1,zAa hW y2,zAa hW y3,zAa hW y4⟩
 clear b1 HCH v0 v1 r0 r1 r2 r3 r4 hR HAD
 go_upto_region 4 with fail
 go_region_held3 (fun W=>Below w1.heap.size w1 W∧W.cell? ⟨w.heap.size,0,none⟩=some (.slice q1 n1 c1)∧W.cell? ⟨w.heap.size,1,none⟩=some (.slice q2 n2 c2)∧W.cell? ⟨w.heap.size+1,0,none⟩=some (.int .i64 a)∧W.cell? ⟨w.heap.size+1,1,none⟩=some (.int .i64 b)∧W.cell? ⟨w.heap.size+1,2,none⟩=some (.int .i64 c)∧W.cell? ⟨w.heap.size+1,3,none⟩=some (.int .i64 d)∧W.cell? ⟨w.heap.size+1,4,none⟩=some (.int .i64 e))
  ((refine SO.out _ ?_;(with_reducible repeat' (first|assumption|refine bal ?_ _|refine Below.setCell ?_ ?_ _|refine Below.drew ?_|exact bzR _ _|exact nzR _|exact Below.size (by assumption)|refine jD ?_))))
  (first|(go_at_call 61;with_reducible refine(HLV.out _ ?_).mono ?_;(with_reducible repeat' (first|assumption|refine bal ?_ _|refine Below.setCell ?_ ?_ _|refine Below.drew ?_|exact bzR _ _|exact nzR _|exact Below.size (by assumption)|refine jD ?_));rintro x W ⟨rfl,hbn⟩)|(go_at_call 121;with_reducible refine(HAD2.out _ ?_).mono ?_;(with_reducible repeat' (first|assumption|refine bal ?_ _|refine Below.setCell ?_ ?_ _|refine Below.drew ?_|exact bzR _ _|exact nzR _|exact Below.size (by assumption)|refine jD ?_));rintro x W ⟨hbn,q3,n3,c3,rfl,hL3⟩))
 have HBW:Hid (Below w.heap.size w W):=HB1.out.trans (hbn.mono HB1.out.size)
 have hRW:W.heap[w.heap.size+2]?=some (.cells #[.slice none 0 0,.slice none 0 0] 46 (0,0)):=by rw[hbn.block _ hs1];exact hR1
 clear hbn hL3 SO HLV HAD2 x0 x1 y0 y1 y2 y3 y4 hR1
 obtain⟨g0,g1,hf⟩:=zAb hRW
 have f0:=hf 0
 have f1:=hf 1
 have hg:=zAN W (w.heap.size+2) (.slice none 0 0) (.slice none 0 0)
 have HPX:=HERR.out _ (HBW.out.grown hg HBW.out.size (fun k hk=>by cases hk;omega))
 have HHX:Hid (((W.setCell ⟨w.heap.size+2,0,none⟩ (.slice none 0 0)).setCell ⟨w.heap.size+2,1,none⟩ (.slice none 0 0)).heap[w.heap.size+2]?=some (.cells #[.slice none 0 0,.slice none 0 0] 46 (0,0))):=zAw hRW (.slice none 0 0) (.slice none 0 0)
 clear hf hg HERR hRW
 go_wp2_with fail
 generalize ((W.setCell ⟨w.heap.size+2,0,none⟩ (.slice none 0 0)).setCell ⟨w.heap.size+2,1,none⟩ (.slice none 0 0))=X at *
 obtain⟨y0,y1,-⟩:=zAb HHX.out
 exact jN (v:=.tuple #[.agg #[.slice none 0 0,.slice none 0 0],.iface 91 (.int .i64 k)]) (by simp[results,Tryz.results94,go_sem,y0,y1]) rfl HPX
end bok
end Go.Proofs.YtifjhlgjgnnnpaaGreat
