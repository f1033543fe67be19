import Derived.Test.YtnfilcpnneckkaaGreatBokCancel
set_option maxHeartbeats 4000000
set_option maxRecDepth 100000
namespace Go.Proofs.YtnfilcpnneckkaaGreat
open Tryz
namespace slf
open Go.RowKit spn que sid bok mee
open ord (O oV mB mE chk)
theorem hidD{P:Prop}(h:P):Hid P:=h
theorem zGL(o:O)(q1 q2:Option Addr)(n1 n2 c1 c2:Nat)(bs ss:List L)(p:Int)(r:R)(rs:List R)(t:List L)(w:World)(h1:LS w (.slice q1 n1 c1) (repB o bs (⟨p,r::rs⟩::t)))(h2:LS w (.slice q2 n2 c2) (repS o ss (⟨p,r::rs⟩::t)))(h0:zAc (repB o bs (⟨p,r::rs⟩::t)) (repS o ss (⟨p,r::rs⟩::t))=0) :
  Calls prog 98 #[.agg #[.slice q1 n1 c1,.slice q2 n2 c2],.int .i64 r.id] w fun e w'=>∃u1 u2 m1 m2 d1 d2 x1 x2 x3 x4 x5,e=.returned (.tuple #[.agg #[.slice u1 m1 d1,.slice u2 m2 d2],.agg #[.int .i64 x1,.int .i64 x2,.int .i64 x3,.int .i64 x4,.int .i64 x5],.nilIface])∧DL w' w.heap.size (.slice u1 m1 d1) (repB o bs (zAw p rs t))∧DL w' w.heap.size (.slice u2 m2 d2) (repS o ss (zAw p rs t))∧Bw w w':=by
 have hX:∀s,schk s (⟨p,r::rs⟩::t)=0→(Lit.int .i64 r.id).wf=true:=fun s hs=>zHK hs r (by rw[zAp];simp)
 have Hv:0<(r::rs).length:=by simp
 unfold repB repS at *;by_cases hs:o.side=1
 ·simp only[if_pos hs] at *;obtain⟨e1,e2,-⟩:=zAh h0;obtain⟨f1,f2⟩:=zFg e2;refine(zEo q1 q2 n1 n2 c1 c2 bs (⟨p,r::rs⟩::t) r.id (hX 2 e2) 0 0 w h1 h2 h0 (zLw h0 rfl) (by simp) (by simp) f1 f2).mono ?_
  rintro e w'⟨u1,u2,m1,m2,d1,d2,rfl,g1,g2,g3⟩;rw[zFh] at g2;exact⟨u1,u2,m1,m2,d1,d2,_,_,_,_,_,rfl,g1,g2,g3⟩
 ·simp only[if_neg hs] at *;obtain⟨e1,e2,-⟩:=zAh h0;obtain⟨f1,f2⟩:=zFg e1;refine(zEn q1 q2 n1 n2 c1 c2 (⟨p,r::rs⟩::t) ss r.id (hX 1 e1) 0 0 w h1 h2 h0 (by simp) (by simp) f1 f2).mono ?_
  rintro e w'⟨u1,u2,m1,m2,d1,d2,rfl,g1,g2,g3⟩;rw[zFh] at g1;exact⟨u1,u2,m1,m2,d1,d2,_,_,_,_,_,rfl,g1,g2,g3⟩
theorem zJH(VB base:Nat)(q1 q2:Option Addr)(n1 n2 c1 c2:Nat)(tv iv:Value)(left gone id:Int)(w:World)
  (Hd:w.heap[VB]?=some (.cells #[.slice q1 n1 c1,.slice q2 n2 c2,tv,.int .i64 left,.int .i64 gone,iv] 203 (0,0))) (Hq:base≤w.heap.size) :
  Calls prog 152 #[.pointer (some ⟨VB,0,none⟩),.int .i64 id,.int .i64 1] w fun e w'=>e=.returned .nilIface∧w'.heap[VB]?=some (.cells #[.slice q1 n1 c1,.slice q2 n2 c2,tv,.int .i64 0,.int .i64 left,iv] 203 (0,0))∧w.grownBy w' (some VB)∧FarV w w' base VB:=by
 obtain⟨x0,x1,x2,x3,x4,x5,xf⟩:=rowV Hd;have xf3:=xf 3;have xf4:=xf 4;have hg:w.grownBy ((w.setCell ⟨VB,4,none⟩ (.int .i64 left)).setCell ⟨VB,3,none⟩ (.int .i64 0)) (some VB):=wAd (wAc _ _ _ _) (wAc _ _ _ _);have Hz:=hidD (show _∧_∧_ from⟨v_at3 (v_at4 Hd (.int .i64 left)) (.int .i64 0),hg,FarV.grown (VB:=VB) hg Hq (fun k hk=>.inl (by cases hk;rfl))⟩)
 clear hg xf Hd;go_enter func152,ntmps152;go_wp2_with fail;go_ret;exact⟨rfl,Hz.out⟩
theorem zJI(w0:World)(m:Int)(hm:m=2∨m=3)(VB base:Nat)(o:O)(q1 q2:Option Addr)(n1 n2 c1 c2:Nat)(tv iv:Value)(bs ss:List L)(p:Int)(r:R)(rs:List R)(t:List L)(ts:List T)(ids:List Int)(left gone:Int)(w:World)
  (Hd:w.heap[VB]?=some (.cells #[.slice q1 n1 c1,.slice q2 n2 c2,tv,.int .i64 left,.int .i64 gone,iv] 203 (0,0)))
  (h1:LS w (.slice q1 n1 c1) (repB o bs (⟨p,r::rs⟩::t))) (h2:LS w (.slice q2 n2 c2) (repS o ss (⟨p,r::rs⟩::t))) (h0:zAc (repB o bs (⟨p,r::rs⟩::t)) (repS o ss (⟨p,r::rs⟩::t))=0) (hT:OwnT w base tv ts) (hI:OwnI w base iv ids) (pX:VB<base) (Hq:base≤w.heap.size) (uJ:ids.length≤1000) :
  Calls prog 152 #[.pointer (some ⟨VB,0,none⟩),.int .i64 r.id,.int .i64 m] w fun e w'=>e=.returned .nilIface∧FarV w w' base VB∧∃u1 u2 m1 m2 d1 d2 iv',w'.heap[VB]?=some (.cells #[.slice u1 m1 d1,.slice u2 m2 d2,tv,.int .i64 (if m=2 then left else 0),.int .i64 (if m=2 then gone else left),iv'] 203 (0,0))∧SafeS w0 w' base (.slice u1 m1 d1) (repB o bs (zAw p rs t))∧SafeS w0 w' base (.slice u2 m2 d2) (repS o ss (zAw p rs t))∧OwnT w' base tv ts∧OwnI w' base iv' (ids++[r.id]):=by
 have cx:=hidD (zGL o q1 q2 n1 n2 c1 c2 bs ss p r rs t w h1 h2 h0);obtain⟨x0,x1,x2,x3,x4,x5,-⟩:=rowV Hd;have hmb:(m != 1)=true:=by rcases hm with rfl|rfl <;>rfl
 have Gt:=hidD (show VB<base∧base≤w.heap.size∧ids.length≤1000∧VB<w.heap.size from⟨pX,Hq,uJ,by omega⟩)
 have HTw:=hidD hT;have HIw:=hidD hI;have HM:=hidD hm;obtain⟨rid,E9⟩:∃rid,r.id=rid:=⟨_,rfl⟩;rw[E9] at cx ⊢;obtain⟨BX,Mc⟩:∃BX,repB o bs (zAw p rs t)=BX:=⟨_,rfl⟩;obtain⟨SX,dv⟩:∃SX,repS o ss (zAw p rs t)=SX:=⟨_,rfl⟩;rw[Mc,dv] at cx ⊢;clear h1 h2 h0 hT hI pX Hq uJ hm E9 Mc dv;go_enter func152,ntmps152;go_wp2_with fail;refine cx.out.mono ?_;rintro e w1⟨u1,u2,m1,m2,d1,d2,z1,z2,z3,z4,z5,rfl,D1,D2,b1⟩;have Ht:Below w1.heap.size w1 (w1.alloc (.cells #[.slice u1 m1 d1,.slice u2 m2 d2] 57)):=(bzR _ _).alloc (nzR _) _;have bx:(w1.alloc (.cells #[.slice u1 m1 d1,.slice u2 m2 d2] 57)).heap[w1.heap.size]?=some (.cells #[.slice u1 m1 d1,.slice u2 m2 d2] 57 (0,0)):=jA w1 _
 have hBb:Below (w1.alloc (.cells #[.slice u1 m1 d1,.slice u2 m2 d2] 57)).heap.size (w1.alloc (.cells #[.slice u1 m1 d1,.slice u2 m2 d2] 57)) ((w1.alloc (.cells #[.slice u1 m1 d1,.slice u2 m2 d2] 57)).alloc (.cells #[.int .i64 z1,.int .i64 z2,.int .i64 z3,.int .i64 z4,.int .i64 z5] 51)):=(bzR _ _).alloc (nzR _) _;have Bx:=(hBb.block w1.heap.size (gzE.1 bx).1).trans bx;have gG:=Ht.trans (hBb.mono Ht.size);have H6:=hidD (b1.trans (gG.mono b1.size));have uV:=hidD (D1.below gG);have ut:=hidD (D2.below gG);clear Ht bx hBb gG D1 D2 b1 cx x0 x1 x2 x3 x4 x5;go_upto_region 5 with fail
 generalize ((w1.alloc (.cells #[.slice u1 m1 d1,.slice u2 m2 d2] 57)).alloc (.cells #[.int .i64 z1,.int .i64 z2,.int .i64 z3,.int .i64 z4,.int .i64 z5] 51))=W2 at *;generalize w1.heap.size=LB at *;obtain⟨l0,l1,-⟩:=zAb Bx;have H5:=(H6.out.block VB Gt.out.2.2.2).trans Hd;obtain⟨x0,x1,x2,x3,x4,x5,xf⟩:=rowV H5;have xf0:=xf 0;have xf1:=xf 1;clear xf Hd;go_upto_region 6 with fail
 clear l0 l1 Bx x0 x1 x2 x3 x4 x5 xf0 xf1;have GD:=v_at1 (v_at0 H5 (.slice u1 m1 d1)) (.slice u2 m2 d2);have UN:W2.grownBy ((W2.setCell ⟨VB,0,none⟩ (.slice u1 m1 d1)).setCell ⟨VB,1,none⟩ (.slice u2 m2 d2)) (some VB):=zAT W2 VB _ _;have Gk:=Gt.out;have GZ:=hidD (zAm (OwnM.below HTw.out H6.out) UN (fun z hz e=>by cases e;have:=(OwnM.lt HTw.out VB hz).1;omega))
 have HI3:=hidD (zAm (OwnM.below HIw.out H6.out) UN (fun z hz e=>by cases e;have:=(OwnM.lt HIw.out VB hz).1;omega))
 have HD13:=hidD (uV.out.other UN Gk.2.2.2);have HD23:=hidD (ut.out.other UN Gk.2.2.2);have PK:=hidD (FarV.trans (FarV.below H6.out Gk.2.1) (FarV.grown (VB:=VB) UN (by have:=H6.out.size;omega) (fun k hk=>.inl (by cases hk;rfl))))
 clear UN Gk;generalize (W2.setCell ⟨VB,0,none⟩ (.slice u1 m1 d1)).setCell ⟨VB,1,none⟩ (.slice u2 m2 d2)=W3 at *;have Gk:=Gt.out;have eK:∀z,iv.ownBlock=some z→base≤z∧z<w.heap.size:=fun z hz=>OwnM.lt HIw.out z hz
 obtain⟨tq,tc,w8,A8,O8,G8⟩:=lay_id rid HI3.out (by have:=PK.out.size;omega) (by omega)
 have CU:=(G8.block VB (gzE.1 GD).1 (fun e=>by have:=(eK VB e.symm).1;omega)).trans GD
 have dW:=hidD A8;have cz:=hidD (zIw HD13.out G8 (fun z hz=>(eK z hz).2))
 have cC:=hidD (zIw HD23.out G8 (fun z hz=>(eK z hz).2))
 have HT8:=hidD (zAm GZ.out G8 (fun x hx=>zPX GZ.out HI3.out (by decide) x hx))
 have HO8:=hidD O8;have Do:=hidD (PK.out.trans (FarV.grown (VB:=VB) G8 (by have:=PK.out.size;omega) (fun k hk=>.inr (eK k hk).1)))
 have hBc:Below W3.heap.size W3 (W3.alloc (.cells #[.int .i64 rid] 3)):=(bzR _ _).alloc (nzR _) _;obtain⟨x0,x1,x2,x3,x4,x5,-⟩:=rowV GD;have k5:=zAa hBc x5;obtain⟨y0,y1,y2,y3,y4,y5,yf⟩:=rowV CU;have yf5:=yf 5;clear yf Gk eK A8 O8 G8 hBc;generalize dx:(ids++[rid]).length=TL at *;clear dx;go_upto_region 7 with (at_builtin;refine Lib.wpList_append_run _ rfl _ _ _ _ rfl _ _ rfl rfl _ _ dW.out ?_)
 have B6:=v_at5 CU (.slice tq TL tc);have ML:=wAc w8 VB 5 (.slice tq TL tc);have Gk:=Gt.out;have Hz:=hidD (show FarV w (w8.setCell ⟨VB,5,none⟩ (.slice tq TL tc)) base VB∧DL (w8.setCell ⟨VB,5,none⟩ (.slice tq TL tc)) w.heap.size (.slice u1 m1 d1) BX∧DL (w8.setCell ⟨VB,5,none⟩ (.slice tq TL tc)) w.heap.size (.slice u2 m2 d2) SX∧OwnT (w8.setCell ⟨VB,5,none⟩ (.slice tq TL tc)) base tv ts∧OwnI (w8.setCell ⟨VB,5,none⟩ (.slice tq TL tc)) base (.slice tq TL tc) (ids++[rid]) from
  ⟨Do.out.trans (FarV.grown ML (by have:=Do.out.size;omega) (fun k hk=>.inl (by cases hk;rfl))),cz.out.other ML Gk.2.2.2,cC.out.other ML Gk.2.2.2,zAm HT8.out ML (fun z hz e=>by cases e;have:=(OwnM.lt HT8.out VB hz).1;omega),zAm HO8.out ML (fun z hz e=>by cases e;have:=(OwnM.lt HO8.out VB hz).1;omega)⟩)
 clear x0 x1 x2 x3 x4 x5 y0 y1 y2 y3 y4 y5 yf5 k5 ML CU GD Gk dW;generalize w8.setCell ⟨VB,5,none⟩ (.slice tq TL tc)=W9 at *;obtain⟨x0,x1,x2,x3,x4,x5,xf⟩:=rowV B6;have xf3:=xf 3;have xf4:=xf 4;have DV:=hidD B6;clear xf;by_cases Mh:m=2
 ·subst Mh;clear B6;go_wp2_with fail;go_ret;exact⟨rfl,Hz.out.1,u1,u2,m1,m2,d1,d2,_,DV.out,.inr (Hz.out.2.1.mono Gt.out.2.1),.inr (Hz.out.2.2.1.mono Gt.out.2.1),Hz.out.2.2.2.1,Hz.out.2.2.2.2⟩
 ·have dK:(m != 2)=true:=by simp[Mh]
  have PY:W9.grownBy ((W9.setCell ⟨VB,4,none⟩ (.int .i64 left)).setCell ⟨VB,3,none⟩ (.int .i64 0)) (some VB):=wAd (wAc _ _ _ _) (wAc _ _ _ _);have E7:=v_at3 (v_at4 B6 (.int .i64 left)) (.int .i64 0);have Gk:=Gt.out;have Gw:=hidD (show FarV w ((W9.setCell ⟨VB,4,none⟩ (.int .i64 left)).setCell ⟨VB,3,none⟩ (.int .i64 0)) base VB∧DL ((W9.setCell ⟨VB,4,none⟩ (.int .i64 left)).setCell ⟨VB,3,none⟩ (.int .i64 0)) w.heap.size (.slice u1 m1 d1) BX∧DL ((W9.setCell ⟨VB,4,none⟩ (.int .i64 left)).setCell ⟨VB,3,none⟩ (.int .i64 0)) w.heap.size (.slice u2 m2 d2) SX∧OwnT ((W9.setCell ⟨VB,4,none⟩ (.int .i64 left)).setCell ⟨VB,3,none⟩ (.int .i64 0)) base tv ts∧OwnI ((W9.setCell ⟨VB,4,none⟩ (.int .i64 left)).setCell ⟨VB,3,none⟩ (.int .i64 0)) base (.slice tq TL tc) (ids++[rid]) from
   ⟨Hz.out.1.trans (FarV.grown PY (by have:=Hz.out.1.size;omega) (fun k hk=>.inl (by cases hk;rfl))),Hz.out.2.1.other PY Gk.2.2.2,Hz.out.2.2.1.other PY Gk.2.2.2,zAm Hz.out.2.2.2.1 PY (fun z hz e=>by cases e;have:=(OwnM.lt Hz.out.2.2.2.1 VB hz).1;omega),zAm Hz.out.2.2.2.2 PY (fun z hz e=>by cases e;have:=(OwnM.lt Hz.out.2.2.2.2 VB hz).1;omega)⟩)
  have DW:=hidD E7;clear PY E7 Gk B6;go_wp2_with fail;go_ret;exact⟨rfl,Gw.out.1,u1,u2,m1,m2,d1,d2,_,(by first|exact DW.out|(rw[if_neg Mh,if_neg Mh];exact DW.out)),.inr (Gw.out.2.1.mono Gt.out.2.1),.inr (Gw.out.2.2.1.mono Gt.out.2.1),Gw.out.2.2.2.1,Gw.out.2.2.2.2⟩
theorem zLK(w0:World)(m:Int)(hm:m=1∨m=2∨m=3)(VB base:Nat)(o:O)(q1 q2:Option Addr)(n1 n2 c1 c2:Nat)(tv iv:Value)(bs ss:List L)(p:Int)(r:R)(rs:List R)(t:List L)(ts:List T)(ids:List Int)(left gone:Int)(w:World)
  (Hd:w.heap[VB]?=some (.cells #[.slice q1 n1 c1,.slice q2 n2 c2,tv,.int .i64 left,.int .i64 gone,iv] 203 (0,0)))
  (mf:Bw w0 w) (h1:SafeS w0 w base (.slice q1 n1 c1) (repB o bs (⟨p,r::rs⟩::t))) (h2:SafeS w0 w base (.slice q2 n2 c2) (repS o ss (⟨p,r::rs⟩::t))) (h0:zAc (repB o bs (⟨p,r::rs⟩::t)) (repS o ss (⟨p,r::rs⟩::t))=0) (hT:OwnT w base tv ts) (hI:OwnI w base iv ids) (pX:VB<base) (Hq:base≤w.heap.size) (uJ:ids.length≤1000) :
  Calls prog 152 #[.pointer (some ⟨VB,0,none⟩),.int .i64 r.id,.int .i64 m] w fun e w'=>e=.returned .nilIface∧FarV w w' base VB∧∃u1 u2 m1 m2 d1 d2 iv',w'.heap[VB]?=some (.cells #[.slice u1 m1 d1,.slice u2 m2 d2,tv,.int .i64 (zBO m left),.int .i64 (zEl m gone left),iv'] 203 (0,0))∧SafeS w0 w' base (.slice u1 m1 d1) (repB o bs (zBI m p r rs t))∧SafeS w0 w' base (.slice u2 m2 d2) (repS o ss (zBI m p r rs t))∧OwnT w' base tv ts∧OwnI w' base iv' (zDG m ids r.id):=by
 by_cases Pn:m=1
 ·subst Pn;refine(zJH VB base q1 q2 n1 n2 c1 c2 tv iv left gone r.id w Hd Hq).mono ?_;rintro e w'⟨rfl,hr,hg,hf⟩;refine⟨rfl,hf,q1,q2,n1,n2,c1,c2,iv,hr,h1.row hg pX,h2.row hg pX,zAm hT hg (fun z hz e=>by cases e;have:=(OwnM.lt hT VB hz).1;omega),zAm hI hg (fun z hz e=>by cases e;have:=(OwnM.lt hI VB hz).1;omega)⟩
 ·refine(zJI w0 m (by omega) VB base o q1 q2 n1 n2 c1 c2 tv iv bs ss p r rs t ts ids left gone w Hd (h1.ls mf) (h2.ls mf) h0 hT hI pX Hq uJ).mono ?_
  rintro e w'⟨rfl,hf,u1,u2,m1,m2,d1,d2,iv',g1,g2,g3,g4,g5⟩;have eX:zBI m p r rs t=zAw p rs t:=if_neg Pn;have eI:zDG m ids r.id=ids++[r.id]:=if_neg Pn;rw[eX,eI];exact⟨rfl,hf,u1,u2,m1,m2,d1,d2,iv',g1,g2,g3,g4,g5⟩
end slf
namespace slf
open Go.RowKit spn que sid bok mee
open ord (O oV mB mE chk zAy)
theorem hidS{P:Prop}(h:P):Hid P:=h
theorem zJJ(s:Int)(q1 q2 xq:Option Addr)(n1 n2 c1 c2 xn xc:Nat)(w:World)(hx:(if s=1 then Value.slice q2 n2 c2 else .slice q1 n1 c1)=.slice xq xn xc) :
  Calls prog 166 #[.agg #[.slice q1 n1 c1,.slice q2 n2 c2],.int .i64 s] w fun e w'=>e=.returned (.slice xq xn xc)∧Bw w w':=by
 rw[←hx];clear hx;by_cases hs:s=1
 ·rw[if_pos hs];subst hs;go_enter func166,ntmps166
  go_wp2
  go_ret;exact⟨rfl,(bzR _ _).alloc (nzR _) _⟩
 ·rw[if_neg hs];have h1:(s == 1)=false:=by simpa using hs
  go_enter func166,ntmps166
  go_wp2
  go_ret;exact⟨rfl,(bzR _ _).alloc (nzR _) _⟩
theorem zOq(zs:List R)(k:Nat)(hk:k<zs.length):shq (zs.take (k+1))=shq (zs.take k)+zs[k]!.qty:=by
 rw[zDX hk,zJw];simp only[shq];omega
theorem zJK(b o n c:Nat)(zs:List R)(w:World)(hb:b<w.heap.size)(hl:Lies w b o zs)(hn:zs.length=n)(hG:∀r∈zs,rchk r=0)(GF:n≤60) :
  Calls prog 168 #[.slice (some ⟨b,o,none⟩) n c] w fun e w'=>e=.returned (.int .i64 (shq zs))∧Bw w w':=by
 have HG:Hid (∀r∈zs,rchk r=0):=hG;have HL:Hid (Lies w b o zs∧b<w.heap.size):=⟨hl,hb⟩;generalize hT:shq zs=T;have HT:Hid (shq zs=T):=hT;have HN:Hid (zs.length=n):=hn;clear hT hl hG hn hb;go_enter func168,ntmps168;go_wp2_with fail;go_loopg [3,5,8] n (fun gg s3 _ s8 wr=>∃kk:Nat,kk≤n∧n - kk≤gg∧s8=.int .i64 kk∧s3=.int .i64 (shq (zs.take kk))∧Aside (Below w.heap.size w wr))
 case atStart=>exact⟨0,jL _,by omega,rfl,rfl,bzR _ _⟩
 case round=>
  obtain⟨kk,gd,hg,rfl,rfl,BW⟩:=hrel;have hA:Hid (0≤shq (zs.take kk)∧shq (zs.take kk)≤10000*(kk:Int)):=by
   have:=zPV (zs.take kk) (fun r hr=>HG.out r (List.mem_of_mem_take hr))
   rw[jJ,HN.out,Nat.min_eq_left gd] at this;exact this
  by_cases Hi:kk<n
  ·have Hp:(kk:Int)<(n:Int):=by omega
   have Hs:kk<zs.length:=by rw[HN.out];exact Hi
   have LW:=HL.out.1.below HL.out.2 BW.out;obtain⟨r,hr⟩:∃r,zs[kk]! = r:=⟨_,rfl⟩;obtain⟨r1,r2,r3,r4,r5⟩:=r;obtain⟨c0,c1,c2,c3,c4⟩:=zCn LW Hs hr;have hq:=zAq (HG.out zs[kk]! (by rw[getE _ _ Hs];exact jT Hs))
   rw[hr] at hq;obtain⟨⟨q1,q2⟩,-⟩:=hq;simp only[] at q1 q2;have mQ:Hid (shq (zs.take (kk+1))=shq (zs.take kk)+r3):=by
    have:=zOq zs kk Hs;rw[hr] at this;exact this
   obtain⟨t1,t2⟩:=hA.out;clear hr LW hA;have gR:¬((kk:Int)<0):=by omega
   have e2:wrap64 (shq (zs.take kk)+r3)=shq (zs.take kk)+r3:=by unfold wrap64;omega
   go_wp2_with fail;go_roundg (n - (kk+1))
   case measure=>omega
   case rel=>exact⟨kk+1,by omega,by omega,by go_num,by rw[mQ.out],BW.out.alloc BW.out.size _⟩
  ·have Hp:¬(kk:Int)<(n:Int):=by omega
   have hk:kk=n:=by omega
   subst hk;have pW:shq (zs.take kk)=T:=by rw[←HT.out,List.take_of_length_le (by rw[HN.out];exact nzR _)]
   rw[pW];go_wp2_with fail;go_ret;exact⟨rfl,BW.out⟩
theorem zOr(u:Int)(x:R)(zs:List R):∀i,Lib.idxByFrom (fun _ y=>decide (y.who=u)) x zs i=if idxW u zs<0 then -1 else (i:Int)+idxW u zs:=by
 induction zs with
 | nil=>intro i;rfl
 | cons r t ih=>
  intro i;have:=zLs u t;show (if decide (r.who=u)=true then (i:Int) else Lib.idxByFrom (fun _ y=>decide (y.who=u)) x t (i+1))=_
  rw[ih,zCp];by_cases h:r.who=u
  ·rw[if_pos (decide_eq_true h),if_pos h,if_neg (by omega),Int.add_zero]
  ·rw[if_neg (by simpa using h),if_neg h]
   by_cases h2:idxW u t<0
   ·rw[if_pos h2,if_pos h2,if_pos (by omega)]
   ·rw[if_neg h2,if_neg h2,if_neg (by omega)];omega
theorem zLL(u:Int)(x:R)(zs:List R):Lib.idxBy (fun _ y=>decide (y.who=u)) zs x=idxW u zs:=by
 have:=zLs u zs;unfold Lib.idxBy;rw[zOr];split <;>omega
theorem zOs(u:Int)(B:Nat)(w:World)(hB:B<w.heap.size)(hc:w.cell? ⟨B,1,none⟩=some (.int .i64 u)) :
  PredBelow prog 167 #[.pointer (some ⟨B,0,none⟩)] (fun x=>.agg (rV x).toArray) (fun x=>decide (x.who=u)) w:=by
 intro W x hb;obtain⟨a,b,c,d,e⟩:=x;show Calls prog 167 #[.agg #[.int .i64 a,.int .i64 b,.int .i64 c,.int .i64 d,.int .i64 e],.pointer (some ⟨B,0,none⟩)] W _
 have mT:=zAa hb hc;have hz:B<W.heap.size:=jC hB hb.size;go_enter func167,ntmps167
 go_wp2
 go_ret;exact⟨rfl,hb.alloc hb.size _⟩
theorem zLM(u:Int)(B b o c:Nat)(zs:List R)(w:World)(hB:B<w.heap.size)(hc:w.cell? ⟨B,1,none⟩=some (.int .i64 u))(hb:b<w.heap.size)(hn:zs.length≤9223372036854775807)(hl:Lies w b o zs) :
  Calls prog 160 #[.slice (some ⟨b,o,none⟩) zs.length c,.func (.func 167) #[] #[.pointer (some ⟨B,0,none⟩)]] w fun e w'=>e=.returned (.int .i64 (idxW u zs))∧Bw w w':=by
 have eg:∀args w,(callFunc 167 args).run prog w=.ok (.enter 167 args) w:=enters_of func167 (by kernel_rfl) rfl
 have Hf:=AnyQ.slices_IndexFunc Tryz.lq6 5 isAgg51 sizeOf51 rV (fun x=>rfl) (fun x=>decide (x.who=u)) 167 #[.pointer (some ⟨B,0,none⟩)] eg b o zs.length c zs
  w (zOs u B _ hB hc) (nzR _) hn hb hl
 change Calls prog 160 _ _ _ at Hf
 rw[List.take_length,zLL] at Hf;exact Hf
theorem zOt{ls:List L}{k:Nat}(hk:k<ls.length):ls.drop k=ls[k]!::ls.drop (k+1):=by
 rw[List.drop_eq_getElem_cons hk,getE _ _ hk]
theorem ls_atC{w:World}{q:Option Addr}{n c:Nat}{ls:List L}(h:LS w (.slice q n c) ls)(H8:∀l∈ls,l.rests≠[]){kk:Nat}(hk:kk<ls.length):∃b o rb ro rc,q=some ⟨b,o,none⟩∧b<w.heap.size∧w.cell? ⟨b,o+kk*2,none⟩=some (.int .i64 ls[kk]!.price)∧w.cell? ⟨b,o+kk*2+1,none⟩=some (.slice (some ⟨rb,ro,none⟩) ls[kk]!.rests.length rc)∧rb<w.heap.size∧Lies w rb ro ls[kk]!.rests∧ls[kk]!.rests.length≤rc∧rc≤9223372036854775807:=by
 rcases h with ⟨-,e⟩|⟨b,o,c',e,-,-,hb,hl⟩
 ·rw[e] at hk;simp at hk
 ·cases e;obtain⟨h0,v,h1,hs⟩:=hl kk hk;have hm:ls[kk]!∈ls:=by rw[getE _ _ hk];exact jT hk
  have hz:=H8 _ hm;rcases hs.sl hz with ⟨-,e⟩|⟨rb,ro,rc,rfl,h2,h3,h4,h5⟩
  ·exact absurd e hz
  ·exact⟨b,o,rb,ro,rc,rfl,hb,h0,h1,h4,h5,h2,h3⟩
theorem zLN(q1 q2 xq:Option Addr)(n1 n2 c1 c2 xn xc:Nat)(X:List L)(a b c d p q s t:Int)(w:World)(hx:(if c=1 then Value.slice q2 n2 c2 else .slice q1 n1 c1)=.slice xq xn xc)(hX:LS w (.slice xq xn xc) X)(hl:∀l∈X,lchk l=0)(GF:cnt X≤60)(hk:chk ⟨a,b,c,d,p,q,s,t⟩=0) :
  Calls prog 150 #[.agg #[.slice q1 n1 c1,.slice q2 n2 c2],.agg #[.int .i64 a,.int .i64 b,.int .i64 c,.int .i64 d,.int .i64 p,.int .i64 q,.int .i64 s,.int .i64 t]] w fun e w'=>e=.returned (.tuple #[.int .i64 (zAj ⟨a,b,c,d,p,q,s,t⟩ X).1,.int .i64 (zAj ⟨a,b,c,d,p,q,s,t⟩ X).2,.nilIface])∧Below w.heap.size w w':=by
 obtain⟨V1,gx⟩:∃V1,V1=w.alloc (.cells #[.slice q1 n1 c1,.slice q2 n2 c2] 57):=⟨_,rfl⟩;have Hl:V1.heap.size=w.heap.size+1:=by rw[gx];simp
 have Hc:Below w.heap.size w V1:=by rw[gx];exact(bzR _ _).alloc (nzR _) _
 have gq:V1.heap[w.heap.size]?=some (.cells #[.slice q1 n1 c1,.slice q2 n2 c2] 57 (0,0)):=by rw[gx];exact jA w _
 obtain⟨V,hV⟩:∃V,V=V1.alloc (.cells #[.int .i64 a,.int .i64 b,.int .i64 c,.int .i64 d,.int .i64 p,.int .i64 q,.int .i64 s,.int .i64 t] 34):=⟨_,rfl⟩;have H9:V.heap.size=w.heap.size+2:=by rw[hV];simp[Hl]
 have Ha:Below V1.heap.size V1 V:=by rw[hV];exact(bzR _ _).alloc (nzR _) _
 have H5:V.heap[w.heap.size+1]?=some (.cells #[.int .i64 a,.int .i64 b,.int .i64 c,.int .i64 d,.int .i64 p,.int .i64 q,.int .i64 s,.int .i64 t] 34 (0,0)):=by rw[←Hl,hV];exact jA V1 _
 have bQ:V.heap[w.heap.size]?=some (.cells #[.slice q1 n1 c1,.slice q2 n2 c2] 57 (0,0)):=by rw[Ha.block _ (by omega)];exact gq
 have gc:Below w.heap.size w V:=Hc.trans (Ha.mono Hc.size);obtain⟨G,hG⟩:∃G,G=w.heap.size:=⟨_,rfl⟩;obtain⟨Q,hQ⟩:∃Q,Q=w.heap.size+1:=⟨_,rfl⟩;have HQ:Hid (Q<V.heap.size):=by show _<_;omega
 have Ho:Hid (∀W,Below V.heap.size V W→Below w.heap.size w W∧∀i,W.cell? ⟨Q,i,none⟩=(#[.int .i64 a,.int .i64 b,.int .i64 c,.int .i64 d,.int .i64 p,.int .i64 q,.int .i64 s,.int .i64 t]:Array Value)[i]?):=fun W hW=>
  ⟨gc.trans (hW.mono gc.size),fun i=>by have h:=(hW.block (w.heap.size+1) (by omega)).trans H5;rw[←hQ] at h;simp[World.cell?,h]⟩
 have HX:Hid (∀W,Below V.heap.size V W→LS W (.slice xq xn xc) X):=fun W hW=>hX.below (gc.trans (hW.mono gc.size))
 have Dq:Hid (∀l∈X,lchk l=0):=hl;have uh:Hid (∀l∈X,l.rests≠[]):=fun l hm=>(zAf (hl l hm)).2.1
 have Ux:Hid (0≤(zAj ⟨a,b,c,d,p,q,s,t⟩ X).1∧(zAj ⟨a,b,c,d,p,q,s,t⟩ X).1≤1200000):=by
  have h:=zDQ (o:=⟨a,b,c,d,p,q,s,t⟩) X hl;exact⟨h.1,by omega⟩
 have bo:Hid (xn=X.length∧xn≤60):=by
  have h1:=zEi hX;have h2:=zDq hl;exact⟨h1,by omega⟩
 have cG:Hid (∀W,Calls prog 166 #[.agg #[.slice q1 n1 c1,.slice q2 n2 c2],.int .i64 c] W fun e w'=>e=.returned (.slice xq xn xc)∧Below W.heap.size W w'):=fun W=>zJJ c q1 q2 xq n1 n2 c1 c2 xn xc W hx
 have db:Hid (∀x M W,ord.prB x=true→mB ⟨a,b,c,d,p,q,s,t⟩ x=M→Calls prog 108 #[.agg #[.int .i64 a,.int .i64 b,.int .i64 c,.int .i64 d,.int .i64 p,.int .i64 q,.int .i64 s,.int .i64 t],.int .i64 x] W fun e w'=>e=.returned (.tuple #[.bool M,.nilIface])∧Below W.heap.size W w'):=fun x M W hp hm=>by
  have h:=zAy ⟨a,b,c,d,p,q,s,t⟩ x W;have e:mE ⟨a,b,c,d,p,q,s,t⟩ x=0:=by unfold mE;rw[if_pos hk,hp];rfl
  rw[e,if_pos rfl,hm] at h;exact h
 obtain⟨QQ,hQQ⟩:∃QQ,(zAj ⟨a,b,c,d,p,q,s,t⟩ X).1=QQ:=⟨_,rfl⟩;obtain⟨WW,UC⟩:∃WW,(zAj ⟨a,b,c,d,p,q,s,t⟩ X).2=WW:=⟨_,rfl⟩;have Ut:Hid ((zAj ⟨a,b,c,d,p,q,s,t⟩ X).1=QQ∧(zAj ⟨a,b,c,d,p,q,s,t⟩ X).2=WW):=⟨hQQ,UC⟩;rw[hQQ] at Ux;rw[hQQ,UC];obtain⟨g0,g1,-⟩:=zAb bQ;rw[←hG] at g0 g1;obtain⟨-,cel⟩:=Ho.out V (bzR _ _);have u2:=cel 2;simp only[List.getElem?_toArray,List.getElem?_cons_zero,List.getElem?_cons_succ] at u2;clear cel Hl H9 Hc Ha gq H5 bQ gc hx hX hl GF hk hQQ UC;go_enter func150,ntmps150;go_wp2_with fail;rw[←gx,←hV];simp only[←hQ];simp only[←hG];clear gx hV hG hQ;refine(cG.out V).mono ?_;rintro e w1⟨rfl,b1⟩;have He:=hidS b1;clear b1 g0 g1 u2;go_wp2_with fail
 go_loopg [7,9,10,11,12,13,19] xn (fun gg s7 _ _ _ _ _ s19 wr=>∃ (kk:Nat) (acc:Int),kk≤xn∧xn - kk≤gg∧s19=.int .i64 kk∧s7=.int .i64 acc∧Aside (Below V.heap.size V wr∧0≤acc∧acc+(zAj ⟨a,b,c,d,p,q,s,t⟩ (X.drop kk)).1=QQ∧(zAj ⟨a,b,c,d,p,q,s,t⟩ (X.drop kk)).2=WW))
 case atStart=>exact⟨0,0,jL _,by omega,rfl,rfl,He.out,jY _,by rw[List.drop_zero,Int.zero_add];exact Ut.out.1,by rw[List.drop_zero];exact Ut.out.2⟩
 case round=>
  obtain⟨kk,acc,gd,hg,rfl,rfl,HI⟩:=hrel;have HW:=hidS HI.out.1;have HA:=hidS HI.out.2;clear HI;by_cases Hi:kk<xn
  rotate_left
  ·have Hp:¬(kk:Int)<(xn:Int):=by omega
   have he:acc=QQ∧WW=0:=by
    have h:=HA.out;rw[List.drop_eq_nil_of_le (by have:=bo.out.1;omega)] at h
    simp only[zAj] at h;omega
   obtain⟨rfl,rfl⟩:=he;have HD:=hidS (Ho.out _ HW.out).1;clear hg gd;go_wp2_with fail
   go_returns
   exact⟨rfl,HD.out⟩
  have Hp:(kk:Int)<(xn:Int):=by omega
  have Hs:kk<X.length:=by rw[←bo.out.1];exact Hi
  obtain⟨lb,lo,rb,ro,rc,hq,hlb,e0,e1,B7,eP,Pc,bB⟩:=ls_atC (HX.out _ HW.out) uh.out Hs;have Dj:Hid (X[kk]!.rests.length≤rc∧rc≤9223372036854775807):=⟨Pc,bB⟩;clear Pc bB;subst hq;have bN:X[kk]!∈X:=by rw[getE _ _ Hs];exact jT Hs
  have hLC:=Dq.out _ bN;have bC:=zOt Hs;have mh:Hid (0≤acc∧acc+(zAj ⟨a,b,c,d,p,q,s,t⟩ (X[kk]!::X.drop (kk+1))).1=QQ∧(zAj ⟨a,b,c,d,p,q,s,t⟩ (X[kk]!::X.drop (kk+1))).2=WW):=by rw[←bC];exact HA.out
  have Uh:Hid (0≤(zAj ⟨a,b,c,d,p,q,s,t⟩ (X.drop (kk+1))).1):=(zDQ _ (fun l hm=>Dq.out l (List.mem_of_mem_drop hm))).1
  have pD:Hid (X[kk]!.rests.length≤60):=((zAn _).1 (zAf hLC).2.2).1;obtain⟨p0,zs,hLx⟩:∃p0 zs,X[kk]! = (⟨p0,zs⟩:L):=⟨_,_,rfl⟩;rw[hLx] at e0 e1 eP hLC mh pD Dj;simp only[] at e0 e1 eP pD Dj;obtain⟨B5,hzne,CS⟩:=zAf hLC;have U6:ord.prB p0=true:=by simp only[] at B5;simp[ord.prB,B5]
  have HLZ:=hidS eP;have HQZ:Hid (qchk zs=0):=CS;have gR:¬((kk:Int)<0):=by omega
  have Ht:Below wr.heap.size wr (wr.alloc (.cells #[.int .i64 p0,.slice (some ⟨rb,ro,none⟩) zs.length rc] 54)):=(bzR _ _).alloc (nzR _) _;have Bv:(wr.alloc (.cells #[.int .i64 p0,.slice (some ⟨rb,ro,none⟩) zs.length rc] 54)).heap[wr.heap.size]?=some (.cells #[.int .i64 p0,.slice (some ⟨rb,ro,none⟩) zs.length rc] 54 (0,0)):=jA wr _;have HLW:=hidS (show Lies (wr.alloc (.cells #[.int .i64 p0,.slice (some ⟨rb,ro,none⟩) zs.length rc] 54)) rb ro zs∧rb<(wr.alloc (.cells #[.int .i64 p0,.slice (some ⟨rb,ro,none⟩) zs.length rc] 54)).heap.size from⟨eP.below B7 Ht,jC B7 Ht.size⟩)
  have Bp:=hidS (HW.out.trans (Ht.mono HW.out.size));have ug:Hid (xn - (kk+1)<gk∧kk+1≤xn∧xn - kk≤gk):=⟨by omega,by omega,by omega⟩
  clear bC bN hLC hLx HA Ht eP B7 hzne CS B5 gd hg hlb uh Ut;go_upto_region 5 with fail
  generalize wr.alloc (.cells #[.int .i64 p0,.slice (some ⟨rb,ro,none⟩) zs.length rc] 54)=W1 at *;generalize wr.heap.size=LB at *;obtain⟨l0,l1,-⟩:=zAb Bv;have hLB:LB<W1.heap.size:=(gzE.1 Bv).1;obtain⟨-,cel⟩:=Ho.out W1 Bp.out;have u0:=cel 0;have u1:=cel 1;have u2:=cel 2;have u3:=cel 3;have u4:=cel 4;have u5:=cel 5;have u6:=cel 6;have u7':=cel 7;simp only[List.getElem?_toArray,List.getElem?_cons_zero,List.getElem?_cons_succ] at u0 u1 u2 u3 u4 u5 u6 u7';clear cel e0 e1 Hp gR Hs Hi;obtain⟨M,hM⟩:∃M,mB ⟨a,b,c,d,p,q,s,t⟩ p0=M:=⟨_,rfl⟩;have HM:=hidS hM;have HMC:=hidS (db.out p0 M W1 U6 hM);clear hM U6;go_wp2_with fail;refine HMC.out.mono ?_;rintro e w2⟨rfl,b2⟩;have H6:=hidS (Bp.out.trans (b2.mono Bp.out.size));have l0':=zAa b2 l0;have l1':=zAa b2 l1;have v1:=zAa b2 u1;have Mu:=hidS (show Lies w2 rb ro zs∧rb<w2.heap.size from⟨HLW.out.1.below HLW.out.2 b2,jC HLW.out.2 b2.size⟩)
  clear u0 u1 u2 u3 u4 u5 u6 u7' l0 l1 b2 HMC HLW;cases M
  ·have he:acc=QQ∧WW=0:=by
    have h:=mh.out;rw[zDr (l:=⟨p0,zs⟩) HM.out] at h;simp only[] at h;omega
   obtain⟨rfl,rfl⟩:=he;have HD:=hidS (Ho.out _ H6.out).1;go_wp2_with fail
   go_returns
   exact⟨rfl,HD.out⟩
  have Ms:=hidS (zLM b Q rb ro rc zs w2 (by have:=H6.out.size;have:=HQ.out;omega) v1 Mu.out.2 (by have:=pD.out;omega) Mu.out.1)
  obtain⟨ix,Ud⟩:∃ix,idxW b zs=ix:=⟨_,rfl⟩;have Ds:=hidS Ud;rw[Ud] at Ms;clear Ud;go_wp2_with fail;refine Ms.out.mono ?_;rintro e w3⟨rfl,b3⟩;have gX:=hidS (H6.out.trans (b3.mono H6.out.size));have l1x:=zAa b3 l1';have UZ:=hidS (show Lies w3 rb ro zs∧rb<w3.heap.size from⟨Mu.out.1.below Mu.out.2 b3,jC Mu.out.2 b3.size⟩)
  clear l0' l1' v1 b3 Ms Mu;by_cases hi:0≤ix
  ·obtain⟨i,hii⟩:∃i:Nat,ix=(i:Int):=⟨ix.toNat,by omega⟩
   subst hii;have MM:i<zs.length:=by have h:=zLt b zs;rw[Ds.out] at h;omega
   obtain⟨r,hr⟩:∃r,zs[i]! = r:=⟨_,rfl⟩;obtain⟨r1,r2,r3,r4,r5⟩:=r;obtain⟨d0,d1,d2,d3,d4⟩:=zCn UZ.out.1 MM hr;obtain⟨SQ,hSQ⟩:∃SQ,shq (zs.take i)=SQ:=⟨_,rfl⟩;have he:acc+SQ=QQ∧r1=WW:=by
    have h:=mh.out;rw[zCq (l:=⟨p0,zs⟩) HM.out (by simp only[];rw[Ds.out];omega)] at h
    simp only[Ds.out,Int.toNat_natCast,hr,hSQ] at h;exact h.2
   have dg:Hid (∀W,Below w3.heap.size w3 W→Calls prog 168 #[.slice (some ⟨rb,ro,none⟩) i rc] W fun e w'=>e=.returned (.int .i64 SQ)∧Below w3.heap.size w3 w'):=fun W hW=>by
    rw[←hSQ];refine(zJK rb ro i rc (zs.take i) W (jC UZ.out.2 hW.size) ((UZ.out.1.below UZ.out.2 hW).take i) (by rw[jJ];omega) (fun x hx=>((zAn _).1 HQZ.out).2.1 x (List.mem_of_mem_take hx)) (by have:=pD.out;omega)).mono ?_
    rintro e w'⟨rfl,hb⟩;exact⟨rfl,hW.trans (hb.mono hW.size)⟩
   have E1:Hid (wrap64 (acc+SQ)=QQ):=by
    have h1:=Ux.out;show _=_
    rw[he.1];unfold wrap64;omega
   obtain⟨-,rfl⟩:=he;have SO:Hid (∀W,Below w3.heap.size w3 W→(Below w3.heap.size w3 W∧W.cell? ⟨LB,1,none⟩=some (.slice (some ⟨rb,ro,none⟩) zs.length rc)∧W.cell? ⟨rb,ro+i*5,none⟩=some (.int .i64 r1))):=fun W hW=>⟨hW,zAa hW l1x,zAa hW d0⟩
   have Uv:Hid (∀W,Below w3.heap.size w3 W→Below w.heap.size w W):=fun W hW=>(Ho.out W (gX.out.trans (hW.mono gX.out.size))).1
   have GF:=pD.out;have hi1:¬((i:Int)<0):=by omega
   have hi2:(i:Int)<(zs.length:Int):=by omega
   have hi3:¬(zs.length:Int)≤(i:Int):=by omega
   have hi4:(0:Int)≤(i:Int):=by omega
   have hi5:(i:Int)≤(rc:Int):=by have:=Dj.out.1;omega
   have hi6:¬((rc:Int)<(i:Int)):=by omega
   have x1:=E1.out;have x1b:IntKind.i64.wrap (acc+SQ)=QQ:=(IntWalk.i64_left _).trans x1;clear hr hSQ d1 d2 d3 d4 UZ mh Uh Ds;generalize zs.length=zl at *;go_upto_region 11 with fail
   go_region_held3 (fun W=>Below w3.heap.size w3 W∧W.cell? ⟨LB,1,none⟩=some (.slice (some ⟨rb,ro,none⟩) zl rc)∧W.cell? ⟨rb,ro+i*5,none⟩=some (.int .i64 r1))
    ((refine SO.out _ ?_;(with_reducible repeat' (first|assumption|refine balS ?_ _|refine Below.drew ?_|exact bzR _ _|exact nzR _|exact Below.size (by assumption)))))
    (first|(go_at_call 168;with_reducible refine(dg.out _ ?_).mono ?_;(with_reducible repeat' (first|assumption|refine Below.drew ?_|exact bzR _ _|exact nzR _|exact Below.size (by assumption)));rintro x w4 ⟨rfl,Gj⟩))
   all_goals go_wp2_with fail
   all_goals go_returns
   all_goals exact⟨rfl,Uv.out _ (by with_reducible repeat' (first|assumption|refine Below.drew ?_))⟩
  ·have HTO:Hid (Calls prog 169 #[.slice (some ⟨rb,ro,none⟩) zs.length rc] w3 fun e w'=>e=.returned (.tuple #[.int .i64 (tot zs),.nilIface])∧Below w3.heap.size w3 w'):=zJj rb ro rc zs w3 UZ.out.2 Dj.out.1 Dj.out.2 UZ.out.1 HQZ.out
   obtain⟨TT,mQ⟩:∃TT,tot zs=TT:=⟨_,rfl⟩;have he:acc+TT+(zAj ⟨a,b,c,d,p,q,s,t⟩ (X.drop (kk+1))).1=QQ∧(zAj ⟨a,b,c,d,p,q,s,t⟩ (X.drop (kk+1))).2=WW∧0≤acc∧0≤TT:=by
    have h:=mh.out;rw[zDP (l:=⟨p0,zs⟩) HM.out (by simp only[];rw[Ds.out];exact hi)] at h
    simp only[mQ] at h;have h0:=(zKC zs ((zAn _).1 HQZ.out).2.1).1;rw[mQ] at h0;exact⟨by omega,h.2.2,h.1,h0⟩
   rw[mQ] at HTO;have HE:=hidS he;have E1:Hid (wrap64 (acc+TT)=acc+TT):=by
    have h1:=Ux.out;have h2:=Uh.out;show _=_
    unfold wrap64;omega
   have E2:Hid (wrap64 ((kk:Int)+1)=((kk+1:Nat):Int)):=by
    have h1:=bo.out.2;have h2:=ug.out;show _=_
    unfold wrap64;omega
   have BK:¬(0≤ix):=hi;have HZL:Hid (True):=trivial;generalize zs.length=zl at *;clear mQ he mh UZ;go_wp2_with fail;refine HTO.out.mono ?_;rintro e w4⟨rfl,b4⟩;have GR:=hidS (gX.out.trans (b4.mono gX.out.size));clear b4 HTO l1x;have x1:=E1.out;have x2:=E2.out;go_wp2_with fail;go_roundg (xn - (kk+1))
   case measure=>exact ug.out.1
   case rel=>
    exact⟨kk+1,acc+TT,ug.out.2.1,nzR _,by go_num,by rw[E1.out],GR.out,by have:=HE.out;omega,HE.out.1,HE.out.2.1⟩
end slf
end Go.Proofs.YtnfilcpnneckkaaGreat
