import Derived.Test.YtmhcghgfpfainaaGreatDoorBokCancel
set_option maxHeartbeats 4000000
set_option maxRecDepth 100000
namespace Go.Proofs.YtmhcghgfpfainaaGreatDoor
open Tryz
namespace slf
open Go.RowKit spn que sid bok mee
open ord (O oV mB mE chk)
theorem hidD{P:Prop}(h:P):Hid P:=h
theorem zGS(o:O)(q1 q2:Option Addr)(n1 n2 c1 c2:Nat)(bs ss:List L)(p:Int)(r:R)(rs:List R)(t:List L)(w:World)(h1:LS w (.slice q1 n1 c1) (repB o bs (⟨p,r::rs⟩::t)))(h2:LS w (.slice q2 n2 c2) (repS o ss (⟨p,r::rs⟩::t)))(h0:zAc (repB o bs (⟨p,r::rs⟩::t)) (repS o ss (⟨p,r::rs⟩::t))=0) :
  Calls prog 118 #[.agg #[.slice q1 n1 c1,.slice q2 n2 c2],.int .i64 r.id] w fun e w'=>∃u1 u2 m1 m2 d1 d2 x1 x2 x3 x4 x5,e=.returned (.tuple #[.agg #[.slice u1 m1 d1,.slice u2 m2 d2],.agg #[.int .i64 x1,.int .i64 x2,.int .i64 x3,.int .i64 x4,.int .i64 x5],.nilIface])∧DL w' w.heap.size (.slice u1 m1 d1) (repB o bs (zAv p rs t))∧DL w' w.heap.size (.slice u2 m2 d2) (repS o ss (zAv p rs t))∧Bw w w':=by
 have hX:∀s,schk s (⟨p,r::rs⟩::t)=0→(Lit.int .i64 r.id).wf=true:=fun s hs=>zHS hs r (by rw[zAq];simp)
 have Ht:0<(r::rs).length:=by simp
 unfold repB repS at *;by_cases hs:o.side=1
 ·simp only[if_pos hs] at *;obtain⟨e1,e2,-⟩:=zAe h0;obtain⟨f1,f2⟩:=zFi e2;refine(zEr q1 q2 n1 n2 c1 c2 bs (⟨p,r::rs⟩::t) r.id (hX 2 e2) 0 0 w h1 h2 h0 (zLO h0 rfl) (by simp) (by simp) f1 f2).mono ?_
  rintro e w'⟨u1,u2,m1,m2,d1,d2,rfl,g1,g2,g3⟩;rw[zFj] at g2;exact⟨u1,u2,m1,m2,d1,d2,_,_,_,_,_,rfl,g1,g2,g3⟩
 ·simp only[if_neg hs] at *;obtain⟨e1,e2,-⟩:=zAe h0;obtain⟨f1,f2⟩:=zFi e1;refine(zEq q1 q2 n1 n2 c1 c2 (⟨p,r::rs⟩::t) ss r.id (hX 1 e1) 0 0 w h1 h2 h0 (by simp) (by simp) f1 f2).mono ?_
  rintro e w'⟨u1,u2,m1,m2,d1,d2,rfl,g1,g2,g3⟩;rw[zFj] at g1;exact⟨u1,u2,m1,m2,d1,d2,_,_,_,_,_,rfl,g1,g2,g3⟩
theorem zJZ(VB base:Nat)(q1 q2:Option Addr)(n1 n2 c1 c2:Nat)(tv iv:Value)(left gone id:Int)(w:World)
  (Hd:w.heap[VB]?=some (.cells #[.slice q1 n1 c1,.slice q2 n2 c2,tv,.int .i64 left,.int .i64 gone,iv] 242 (0,0))) (Ho:base≤w.heap.size) :
  Calls prog 166 #[.pointer (some ⟨VB,0,none⟩),.int .i64 id,.int .i64 1] w fun e w'=>e=.returned .nilIface∧w'.heap[VB]?=some (.cells #[.slice q1 n1 c1,.slice q2 n2 c2,tv,.int .i64 0,.int .i64 left,iv] 242 (0,0))∧w.grownBy w' (some VB)∧FarV w w' base VB:=by
 obtain⟨x0,x1,x2,x3,x4,x5,xf⟩:=rowV Hd;have xf3:=xf 3;have xf4:=xf 4;have hg:w.grownBy ((w.setCell ⟨VB,4,none⟩ (.int .i64 left)).setCell ⟨VB,3,none⟩ (.int .i64 0)) (some VB):=wAe (wAc _ _ _ _) (wAc _ _ _ _);have Hz:=hidD (show _∧_∧_ from⟨v_at3 (v_at4 Hd (.int .i64 left)) (.int .i64 0),hg,FarV.grown (VB:=VB) hg Ho (fun k hk=>.inl (by cases hk;rfl))⟩)
 clear hg xf Hd;go_enter func166,ntmps166;go_wp2_with fail;go_ret;exact⟨rfl,Hz.out⟩
theorem zKa(w0:World)(m:Int)(hm:m=2∨m=3)(VB base:Nat)(o:O)(q1 q2:Option Addr)(n1 n2 c1 c2:Nat)(tv iv:Value)(bs ss:List L)(p:Int)(r:R)(rs:List R)(t:List L)(ts:List T)(ids:List Int)(left gone:Int)(w:World)
  (Hd:w.heap[VB]?=some (.cells #[.slice q1 n1 c1,.slice q2 n2 c2,tv,.int .i64 left,.int .i64 gone,iv] 242 (0,0)))
  (h1:LS w (.slice q1 n1 c1) (repB o bs (⟨p,r::rs⟩::t))) (h2:LS w (.slice q2 n2 c2) (repS o ss (⟨p,r::rs⟩::t))) (h0:zAc (repB o bs (⟨p,r::rs⟩::t)) (repS o ss (⟨p,r::rs⟩::t))=0) (hT:OwnT w base tv ts) (hI:OwnI w base iv ids) (p8:VB<base) (Ho:base≤w.heap.size) (uH:ids.length≤1000) :
  Calls prog 166 #[.pointer (some ⟨VB,0,none⟩),.int .i64 r.id,.int .i64 m] w fun e w'=>e=.returned .nilIface∧FarV w w' base VB∧∃u1 u2 m1 m2 d1 d2 iv',w'.heap[VB]?=some (.cells #[.slice u1 m1 d1,.slice u2 m2 d2,tv,.int .i64 (if m=2 then left else 0),.int .i64 (if m=2 then gone else left),iv'] 242 (0,0))∧SafeS w0 w' base (.slice u1 m1 d1) (repB o bs (zAv p rs t))∧SafeS w0 w' base (.slice u2 m2 d2) (repS o ss (zAv p rs t))∧OwnT w' base tv ts∧OwnI w' base iv' (ids++[r.id]):=by
 have PM:=hidD (zGS o q1 q2 n1 n2 c1 c2 bs ss p r rs t w h1 h2 h0);obtain⟨x0,x1,x2,x3,x4,x5,-⟩:=rowV Hd;have hmb:(m != 1)=true:=by rcases hm with rfl|rfl <;>rfl
 have Gq:=hidD (show VB<base∧base≤w.heap.size∧ids.length≤1000∧VB<w.heap.size from⟨p8,Ho,uH,by omega⟩)
 have HTw:=hidD hT;have HIw:=hidD hI;have HM:=hidD hm;obtain⟨rid,E9⟩:∃rid,r.id=rid:=⟨_,rfl⟩;rw[E9] at PM ⊢;obtain⟨BX,Mm⟩:∃BX,repB o bs (zAv p rs t)=BX:=⟨_,rfl⟩;obtain⟨SX,dw⟩:∃SX,repS o ss (zAv p rs t)=SX:=⟨_,rfl⟩;rw[Mm,dw] at PM ⊢;clear h1 h2 h0 hT hI p8 Ho uH hm E9 Mm dw;go_enter func166,ntmps166;go_wp2_with fail;refine PM.out.mono ?_;rintro e w1⟨u1,u2,m1,m2,d1,d2,z1,z2,z3,z4,z5,rfl,D1,D2,b1⟩;have Hu:Below w1.heap.size w1 (w1.alloc (.cells #[.slice u1 m1 d1,.slice u2 m2 d2] 50)):=(bzR _ _).alloc (nzR _) _;have bH:(w1.alloc (.cells #[.slice u1 m1 d1,.slice u2 m2 d2] 50)).heap[w1.heap.size]?=some (.cells #[.slice u1 m1 d1,.slice u2 m2 d2] 50 (0,0)):=jA w1 _
 have hBb:Below (w1.alloc (.cells #[.slice u1 m1 d1,.slice u2 m2 d2] 50)).heap.size (w1.alloc (.cells #[.slice u1 m1 d1,.slice u2 m2 d2] 50)) ((w1.alloc (.cells #[.slice u1 m1 d1,.slice u2 m2 d2] 50)).alloc (.cells #[.int .i64 z1,.int .i64 z2,.int .i64 z3,.int .i64 z4,.int .i64 z5] 54)):=(bzR _ _).alloc (nzR _) _;have BN:=(hBb.block w1.heap.size (gzE.1 bH).1).trans bH;have gO:=Hu.trans (hBb.mono Hu.size);have H6:=hidD (b1.trans (gO.mono b1.size));have uU:=hidD (D1.below gO);have uu:=hidD (D2.below gO);clear Hu bH hBb gO D1 D2 b1 PM x0 x1 x2 x3 x4 x5;go_upto_region 5 with fail
 generalize ((w1.alloc (.cells #[.slice u1 m1 d1,.slice u2 m2 d2] 50)).alloc (.cells #[.int .i64 z1,.int .i64 z2,.int .i64 z3,.int .i64 z4,.int .i64 z5] 54))=W2 at *;generalize w1.heap.size=LB at *;obtain⟨l0,l1,-⟩:=zAb BN;have H5:=(H6.out.block VB Gq.out.2.2.2).trans Hd;obtain⟨x0,x1,x2,x3,x4,x5,xf⟩:=rowV H5;have xf0:=xf 0;have xf1:=xf 1;clear xf Hd;go_upto_region 6 with fail
 clear l0 l1 BN x0 x1 x2 x3 x4 x5 xf0 xf1;have Gm:=v_at1 (v_at0 H5 (.slice u1 m1 d1)) (.slice u2 m2 d2);have uL:W2.grownBy ((W2.setCell ⟨VB,0,none⟩ (.slice u1 m1 d1)).setCell ⟨VB,1,none⟩ (.slice u2 m2 d2)) (some VB):=zAN W2 VB _ _;have Gl:=Gq.out;have GY:=hidD (zAl (OwnM.below HTw.out H6.out) uL (fun z hz e=>by cases e;have:=(OwnM.lt HTw.out VB hz).1;omega))
 have HI3:=hidD (zAl (OwnM.below HIw.out H6.out) uL (fun z hz e=>by cases e;have:=(OwnM.lt HIw.out VB hz).1;omega))
 have HD13:=hidD (uU.out.other uL Gl.2.2.2);have HD23:=hidD (uu.out.other uL Gl.2.2.2);have PR:=hidD (FarV.trans (FarV.below H6.out Gl.2.1) (FarV.grown (VB:=VB) uL (by have:=H6.out.size;omega) (fun k hk=>.inl (by cases hk;rfl))))
 clear uL Gl;generalize (W2.setCell ⟨VB,0,none⟩ (.slice u1 m1 d1)).setCell ⟨VB,1,none⟩ (.slice u2 m2 d2)=W3 at *;have Gl:=Gq.out;have eL:∀z,iv.ownBlock=some z→base≤z∧z<w.heap.size:=fun z hz=>OwnM.lt HIw.out z hz
 obtain⟨tq,tc,w8,A8,O8,G8⟩:=lay_id rid HI3.out (by have:=PR.out.size;omega) (by omega)
 have C1:=(G8.block VB (gzE.1 Gm).1 (fun e=>by have:=(eL VB e.symm).1;omega)).trans Gm
 have dS:=hidD A8;have cL:=hidD (zIJ HD13.out G8 (fun z hz=>(eL z hz).2))
 have cM:=hidD (zIJ HD23.out G8 (fun z hz=>(eL z hz).2))
 have HT8:=hidD (zAl GY.out G8 (fun x hx=>zQr GY.out HI3.out (by decide) x hx))
 have HO8:=hidD O8;have Dl:=hidD (PR.out.trans (FarV.grown (VB:=VB) G8 (by have:=PR.out.size;omega) (fun k hk=>.inr (eL k hk).1)))
 have hBc:Below W3.heap.size W3 (W3.alloc (.cells #[.int .i64 rid] 3)):=(bzR _ _).alloc (nzR _) _;obtain⟨x0,x1,x2,x3,x4,x5,-⟩:=rowV Gm;have k5:=zAa hBc x5;obtain⟨y0,y1,y2,y3,y4,y5,yf⟩:=rowV C1;have yf5:=yf 5;clear yf Gl eL A8 O8 G8 hBc;generalize dy:(ids++[rid]).length=TL at *;clear dy;go_upto_region 7 with (at_builtin;refine Lib.wpList_append_run _ rfl _ _ _ _ rfl _ _ rfl rfl _ _ dS.out ?_)
 have cq:=v_at5 C1 (.slice tq TL tc);have MT:=wAc w8 VB 5 (.slice tq TL tc);have Gl:=Gq.out;have Hz:=hidD (show FarV w (w8.setCell ⟨VB,5,none⟩ (.slice tq TL tc)) base VB∧DL (w8.setCell ⟨VB,5,none⟩ (.slice tq TL tc)) w.heap.size (.slice u1 m1 d1) BX∧DL (w8.setCell ⟨VB,5,none⟩ (.slice tq TL tc)) w.heap.size (.slice u2 m2 d2) SX∧OwnT (w8.setCell ⟨VB,5,none⟩ (.slice tq TL tc)) base tv ts∧OwnI (w8.setCell ⟨VB,5,none⟩ (.slice tq TL tc)) base (.slice tq TL tc) (ids++[rid]) from
  ⟨Dl.out.trans (FarV.grown MT (by have:=Dl.out.size;omega) (fun k hk=>.inl (by cases hk;rfl))),cL.out.other MT Gl.2.2.2,cM.out.other MT Gl.2.2.2,zAl HT8.out MT (fun z hz e=>by cases e;have:=(OwnM.lt HT8.out VB hz).1;omega),zAl HO8.out MT (fun z hz e=>by cases e;have:=(OwnM.lt HO8.out VB hz).1;omega)⟩)
 clear x0 x1 x2 x3 x4 x5 y0 y1 y2 y3 y4 y5 yf5 k5 MT C1 Gm Gl dS;generalize w8.setCell ⟨VB,5,none⟩ (.slice tq TL tc)=W9 at *;obtain⟨x0,x1,x2,x3,x4,x5,xf⟩:=rowV cq;have xf3:=xf 3;have xf4:=xf 4;have DT:=hidD cq;clear xf;by_cases Ms:m=2
 ·subst Ms;clear cq;go_wp2_with fail;go_ret;exact⟨rfl,Hz.out.1,u1,u2,m1,m2,d1,d2,_,DT.out,.inr (Hz.out.2.1.mono Gq.out.2.1),.inr (Hz.out.2.2.1.mono Gq.out.2.1),Hz.out.2.2.2.1,Hz.out.2.2.2.2⟩
 ·have bW:(m != 2)=true:=by simp[Ms]
  have P9:W9.grownBy ((W9.setCell ⟨VB,4,none⟩ (.int .i64 left)).setCell ⟨VB,3,none⟩ (.int .i64 0)) (some VB):=wAe (wAc _ _ _ _) (wAc _ _ _ _);have Bb:=v_at3 (v_at4 cq (.int .i64 left)) (.int .i64 0);have Gl:=Gq.out;have Gs:=hidD (show FarV w ((W9.setCell ⟨VB,4,none⟩ (.int .i64 left)).setCell ⟨VB,3,none⟩ (.int .i64 0)) base VB∧DL ((W9.setCell ⟨VB,4,none⟩ (.int .i64 left)).setCell ⟨VB,3,none⟩ (.int .i64 0)) w.heap.size (.slice u1 m1 d1) BX∧DL ((W9.setCell ⟨VB,4,none⟩ (.int .i64 left)).setCell ⟨VB,3,none⟩ (.int .i64 0)) w.heap.size (.slice u2 m2 d2) SX∧OwnT ((W9.setCell ⟨VB,4,none⟩ (.int .i64 left)).setCell ⟨VB,3,none⟩ (.int .i64 0)) base tv ts∧OwnI ((W9.setCell ⟨VB,4,none⟩ (.int .i64 left)).setCell ⟨VB,3,none⟩ (.int .i64 0)) base (.slice tq TL tc) (ids++[rid]) from
   ⟨Hz.out.1.trans (FarV.grown P9 (by have:=Hz.out.1.size;omega) (fun k hk=>.inl (by cases hk;rfl))),Hz.out.2.1.other P9 Gl.2.2.2,Hz.out.2.2.1.other P9 Gl.2.2.2,zAl Hz.out.2.2.2.1 P9 (fun z hz e=>by cases e;have:=(OwnM.lt Hz.out.2.2.2.1 VB hz).1;omega),zAl Hz.out.2.2.2.2 P9 (fun z hz e=>by cases e;have:=(OwnM.lt Hz.out.2.2.2.2 VB hz).1;omega)⟩)
  have BA:=hidD Bb;clear P9 Bb Gl cq;go_wp2_with fail;go_ret;exact⟨rfl,Gs.out.1,u1,u2,m1,m2,d1,d2,_,(by first|exact BA.out|(rw[if_neg Ms,if_neg Ms];exact BA.out)),.inr (Gs.out.2.1.mono Gq.out.2.1),.inr (Gs.out.2.2.1.mono Gq.out.2.1),Gs.out.2.2.2.1,Gs.out.2.2.2.2⟩
theorem zMc(w0:World)(m:Int)(hm:m=1∨m=2∨m=3)(VB base:Nat)(o:O)(q1 q2:Option Addr)(n1 n2 c1 c2:Nat)(tv iv:Value)(bs ss:List L)(p:Int)(r:R)(rs:List R)(t:List L)(ts:List T)(ids:List Int)(left gone:Int)(w:World)
  (Hd:w.heap[VB]?=some (.cells #[.slice q1 n1 c1,.slice q2 n2 c2,tv,.int .i64 left,.int .i64 gone,iv] 242 (0,0)))
  (mo:Bw w0 w) (h1:SafeS w0 w base (.slice q1 n1 c1) (repB o bs (⟨p,r::rs⟩::t))) (h2:SafeS w0 w base (.slice q2 n2 c2) (repS o ss (⟨p,r::rs⟩::t))) (h0:zAc (repB o bs (⟨p,r::rs⟩::t)) (repS o ss (⟨p,r::rs⟩::t))=0) (hT:OwnT w base tv ts) (hI:OwnI w base iv ids) (p8:VB<base) (Ho:base≤w.heap.size) (uH:ids.length≤1000) :
  Calls prog 166 #[.pointer (some ⟨VB,0,none⟩),.int .i64 r.id,.int .i64 m] w fun e w'=>e=.returned .nilIface∧FarV w w' base VB∧∃u1 u2 m1 m2 d1 d2 iv',w'.heap[VB]?=some (.cells #[.slice u1 m1 d1,.slice u2 m2 d2,tv,.int .i64 (zBN m left),.int .i64 (zEo m gone left),iv'] 242 (0,0))∧SafeS w0 w' base (.slice u1 m1 d1) (repB o bs (zBI m p r rs t))∧SafeS w0 w' base (.slice u2 m2 d2) (repS o ss (zBI m p r rs t))∧OwnT w' base tv ts∧OwnI w' base iv' (zDH m ids r.id):=by
 by_cases Pq:m=1
 ·subst Pq;refine(zJZ VB base q1 q2 n1 n2 c1 c2 tv iv left gone r.id w Hd Ho).mono ?_;rintro e w'⟨rfl,hr,hg,hf⟩;refine⟨rfl,hf,q1,q2,n1,n2,c1,c2,iv,hr,h1.row hg p8,h2.row hg p8,zAl hT hg (fun z hz e=>by cases e;have:=(OwnM.lt hT VB hz).1;omega),zAl hI hg (fun z hz e=>by cases e;have:=(OwnM.lt hI VB hz).1;omega)⟩
 ·refine(zKa w0 m (by omega) VB base o q1 q2 n1 n2 c1 c2 tv iv bs ss p r rs t ts ids left gone w Hd (h1.ls mo) (h2.ls mo) h0 hT hI p8 Ho uH).mono ?_
  rintro e w'⟨rfl,hf,u1,u2,m1,m2,d1,d2,iv',g1,g2,g3,g4,g5⟩;have eX:zBI m p r rs t=zAv p rs t:=if_neg Pq;have eI:zDH m ids r.id=ids++[r.id]:=if_neg Pq;rw[eX,eI];exact⟨rfl,hf,u1,u2,m1,m2,d1,d2,iv',g1,g2,g3,g4,g5⟩
end slf
namespace slf
open Go.RowKit spn que sid bok mee
open ord (O oV mB mE chk zAz)
theorem hidS{P:Prop}(h:P):Hid P:=h
theorem zKb(s:Int)(q1 q2 xq:Option Addr)(n1 n2 c1 c2 xn xc:Nat)(w:World)(hx:(if s=1 then Value.slice q2 n2 c2 else .slice q1 n1 c1)=.slice xq xn xc) :
  Calls prog 182 #[.agg #[.slice q1 n1 c1,.slice q2 n2 c2],.int .i64 s] w fun e w'=>e=.returned (.slice xq xn xc)∧Bw w w':=by
 rw[←hx];clear hx;by_cases hs:s=1
 ·rw[if_pos hs];subst hs;go_enter func182,ntmps182
  go_wp2
  go_ret;exact⟨rfl,(bzR _ _).alloc (nzR _) _⟩
 ·rw[if_neg hs];have h1:(s == 1)=false:=by simpa using hs
  go_enter func182,ntmps182
  go_wp2
  go_ret;exact⟨rfl,(bzR _ _).alloc (nzR _) _⟩
theorem zOL(zs:List R)(k:Nat)(hk:k<zs.length):shq (zs.take (k+1))=shq (zs.take k)+zs[k]!.qty:=by
 rw[zEa hk,zJO];simp only[shq];omega
theorem zKc(b o n c:Nat)(zs:List R)(w:World)(hb:b<w.heap.size)(hl:Lies w b o zs)(hn:zs.length=n)(hG:∀r∈zs,rchk r=0)(GA:n≤60) :
  Calls prog 184 #[.slice (some ⟨b,o,none⟩) n c] w fun e w'=>e=.returned (.int .i64 (shq zs))∧Bw w w':=by
 have HG:Hid (∀r∈zs,rchk r=0):=hG;have HL:Hid (Lies w b o zs∧b<w.heap.size):=⟨hl,hb⟩;generalize hT:shq zs=T;have HT:Hid (shq zs=T):=hT;have HN:Hid (zs.length=n):=hn;clear hT hl hG hn hb;go_enter func184,ntmps184;go_wp2_with fail;go_loopg [3,5,8] n (fun gg s3 _ s8 wr=>∃kk:Nat,kk≤n∧n - kk≤gg∧s8=.int .i64 kk∧s3=.int .i64 (shq (zs.take kk))∧Aside (Below w.heap.size w wr))
 case atStart=>exact⟨0,jL _,by omega,rfl,rfl,bzR _ _⟩
 case round=>
  obtain⟨kk,gh,hg,rfl,rfl,BW⟩:=hrel;have hA:Hid (0≤shq (zs.take kk)∧shq (zs.take kk)≤10000*(kk:Int)):=by
   have:=zQp (zs.take kk) (fun r hr=>HG.out r (List.mem_of_mem_take hr))
   rw[jJ,HN.out,Nat.min_eq_left gh] at this;exact this
  by_cases Hj:kk<n
  ·have Hq:(kk:Int)<(n:Int):=by omega
   have Hv:kk<zs.length:=by rw[HN.out];exact Hj
   have LW:=HL.out.1.below HL.out.2 BW.out;obtain⟨r,hr⟩:∃r,zs[kk]! = r:=⟨_,rfl⟩;obtain⟨r1,r2,r3,r4,r5⟩:=r;obtain⟨c0,c1,c2,c3,c4⟩:=zCl LW Hv hr;have hq:=zAp (HG.out zs[kk]! (by rw[getE _ _ Hv];exact jT Hv))
   rw[hr] at hq;obtain⟨⟨q1,q2⟩,-⟩:=hq;simp only[] at q1 q2;have mX:Hid (shq (zs.take (kk+1))=shq (zs.take kk)+r3):=by
    have:=zOL zs kk Hv;rw[hr] at this;exact this
   obtain⟨t1,t2⟩:=hA.out;clear hr LW hA;have gU:¬((kk:Int)<0):=by omega
   have e2:wrap64 (shq (zs.take kk)+r3)=shq (zs.take kk)+r3:=by unfold wrap64;omega
   go_wp2_with fail;go_roundg (n - (kk+1))
   case measure=>omega
   case rel=>exact⟨kk+1,by omega,by omega,by go_num,by rw[mX.out],BW.out.alloc BW.out.size _⟩
  ·have Hq:¬(kk:Int)<(n:Int):=by omega
   have hk:kk=n:=by omega
   subst hk;have mW:shq (zs.take kk)=T:=by rw[←HT.out,List.take_of_length_le (by rw[HN.out];exact nzR _)]
   rw[mW];go_wp2_with fail;go_ret;exact⟨rfl,BW.out⟩
theorem zOM(u:Int)(x:R)(zs:List R):∀i,Lib.idxByFrom (fun _ y=>decide (y.who=u)) x zs i=if idxW u zs<0 then -1 else (i:Int)+idxW u zs:=by
 induction zs with
 | nil=>intro i;rfl
 | cons r t ih=>
  intro i;have:=zLK u t;show (if decide (r.who=u)=true then (i:Int) else Lib.idxByFrom (fun _ y=>decide (y.who=u)) x t (i+1))=_
  rw[ih,zCn];by_cases h:r.who=u
  ·rw[if_pos (decide_eq_true h),if_pos h,if_neg (by omega),Int.add_zero]
  ·rw[if_neg (by simpa using h),if_neg h]
   by_cases h2:idxW u t<0
   ·rw[if_pos h2,if_pos h2,if_pos (by omega)]
   ·rw[if_neg h2,if_neg h2,if_neg (by omega)];omega
theorem zMd(u:Int)(x:R)(zs:List R):Lib.idxBy (fun _ y=>decide (y.who=u)) zs x=idxW u zs:=by
 have:=zLK u zs;unfold Lib.idxBy;rw[zOM];split <;>omega
theorem zON(u:Int)(B:Nat)(w:World)(hB:B<w.heap.size)(hc:w.cell? ⟨B,1,none⟩=some (.int .i64 u)) :
  PredBelow prog 183 #[.pointer (some ⟨B,0,none⟩)] (fun x=>.agg (rV x).toArray) (fun x=>decide (x.who=u)) w:=by
 intro W x hb;obtain⟨a,b,c,d,e⟩:=x;show Calls prog 183 #[.agg #[.int .i64 a,.int .i64 b,.int .i64 c,.int .i64 d,.int .i64 e],.pointer (some ⟨B,0,none⟩)] W _
 have BR:=zAa hb hc;have hz:B<W.heap.size:=jC hB hb.size;go_enter func183,ntmps183
 go_wp2
 go_ret;exact⟨rfl,hb.alloc hb.size _⟩
theorem zMe(u:Int)(B b o c:Nat)(zs:List R)(w:World)(hB:B<w.heap.size)(hc:w.cell? ⟨B,1,none⟩=some (.int .i64 u))(hb:b<w.heap.size)(hn:zs.length≤9223372036854775807)(hl:Lies w b o zs) :
  Calls prog 177 #[.slice (some ⟨b,o,none⟩) zs.length c,.func (.func 183) #[] #[.pointer (some ⟨B,0,none⟩)]] w fun e w'=>e=.returned (.int .i64 (idxW u zs))∧Bw w w':=by
 have eg:∀args w,(callFunc 183 args).run prog w=.ok (.enter 183 args) w:=enters_of func183 (by kernel_rfl) rfl
 have Hf:=AnyQ.slices_IndexFunc Tryz.lq6 5 isAgg54 sizeOf54 rV (fun x=>rfl) (fun x=>decide (x.who=u)) 183 #[.pointer (some ⟨B,0,none⟩)] eg b o zs.length c zs
  w (zON u B _ hB hc) (nzR _) hn hb hl
 change Calls prog 177 _ _ _ at Hf
 rw[List.take_length,zMd] at Hf;exact Hf
theorem zOO{ls:List L}{k:Nat}(hk:k<ls.length):ls.drop k=ls[k]!::ls.drop (k+1):=by
 rw[List.drop_eq_getElem_cons hk,getE _ _ hk]
theorem ls_atC{w:World}{q:Option Addr}{n c:Nat}{ls:List L}(h:LS w (.slice q n c) ls)(H7:∀l∈ls,l.rests≠[]){kk:Nat}(hk:kk<ls.length):∃b o rb ro rc,q=some ⟨b,o,none⟩∧b<w.heap.size∧w.cell? ⟨b,o+kk*2,none⟩=some (.int .i64 ls[kk]!.price)∧w.cell? ⟨b,o+kk*2+1,none⟩=some (.slice (some ⟨rb,ro,none⟩) ls[kk]!.rests.length rc)∧rb<w.heap.size∧Lies w rb ro ls[kk]!.rests∧ls[kk]!.rests.length≤rc∧rc≤9223372036854775807:=by
 rcases h with ⟨-,e⟩|⟨b,o,c',e,-,-,hb,hl⟩
 ·rw[e] at hk;simp at hk
 ·cases e;obtain⟨h0,v,h1,hs⟩:=hl kk hk;have hm:ls[kk]!∈ls:=by rw[getE _ _ hk];exact jT hk
  have hz:=H7 _ hm;rcases hs.sl hz with ⟨-,e⟩|⟨rb,ro,rc,rfl,h2,h3,h4,h5⟩
  ·exact absurd e hz
  ·exact⟨b,o,rb,ro,rc,rfl,hb,h0,h1,h4,h5,h2,h3⟩
theorem zMf(q1 q2 xq:Option Addr)(n1 n2 c1 c2 xn xc:Nat)(X:List L)(a b c d p q s t:Int)(w:World)(hx:(if c=1 then Value.slice q2 n2 c2 else .slice q1 n1 c1)=.slice xq xn xc)(hX:LS w (.slice xq xn xc) X)(hl:∀l∈X,lchk l=0)(GA:cnt X≤60)(hk:chk ⟨a,b,c,d,p,q,s,t⟩=0) :
  Calls prog 164 #[.agg #[.slice q1 n1 c1,.slice q2 n2 c2],.agg #[.int .i64 a,.int .i64 b,.int .i64 c,.int .i64 d,.int .i64 p,.int .i64 q,.int .i64 s,.int .i64 t]] w fun e w'=>e=.returned (.tuple #[.int .i64 (zAj ⟨a,b,c,d,p,q,s,t⟩ X).1,.int .i64 (zAj ⟨a,b,c,d,p,q,s,t⟩ X).2,.nilIface])∧Below w.heap.size w w':=by
 obtain⟨V1,gy⟩:∃V1,V1=w.alloc (.cells #[.slice q1 n1 c1,.slice q2 n2 c2] 50):=⟨_,rfl⟩;have Hm:V1.heap.size=w.heap.size+1:=by rw[gy];simp
 have Ha:Below w.heap.size w V1:=by rw[gy];exact(bzR _ _).alloc (nzR _) _
 have go:V1.heap[w.heap.size]?=some (.cells #[.slice q1 n1 c1,.slice q2 n2 c2] 50 (0,0)):=by rw[gy];exact jA w _
 obtain⟨V,hV⟩:∃V,V=V1.alloc (.cells #[.int .i64 a,.int .i64 b,.int .i64 c,.int .i64 d,.int .i64 p,.int .i64 q,.int .i64 s,.int .i64 t] 40):=⟨_,rfl⟩;have gd:V.heap.size=w.heap.size+2:=by rw[hV];simp[Hm]
 have Hc:Below V1.heap.size V1 V:=by rw[hV];exact(bzR _ _).alloc (nzR _) _
 have H5:V.heap[w.heap.size+1]?=some (.cells #[.int .i64 a,.int .i64 b,.int .i64 c,.int .i64 d,.int .i64 p,.int .i64 q,.int .i64 s,.int .i64 t] 40 (0,0)):=by rw[←Hm,hV];exact jA V1 _
 have bZ:V.heap[w.heap.size]?=some (.cells #[.slice q1 n1 c1,.slice q2 n2 c2] 50 (0,0)):=by rw[Hc.block _ (by omega)];exact go
 have gj:Below w.heap.size w V:=Ha.trans (Hc.mono Ha.size);obtain⟨G,hG⟩:∃G,G=w.heap.size:=⟨_,rfl⟩;obtain⟨Q,hQ⟩:∃Q,Q=w.heap.size+1:=⟨_,rfl⟩;have HQ:Hid (Q<V.heap.size):=by show _<_;omega
 have Hn:Hid (∀W,Below V.heap.size V W→Below w.heap.size w W∧∀i,W.cell? ⟨Q,i,none⟩=(#[.int .i64 a,.int .i64 b,.int .i64 c,.int .i64 d,.int .i64 p,.int .i64 q,.int .i64 s,.int .i64 t]:Array Value)[i]?):=fun W hW=>
  ⟨gj.trans (hW.mono gj.size),fun i=>by have h:=(hW.block (w.heap.size+1) (by omega)).trans H5;rw[←hQ] at h;simp[World.cell?,h]⟩
 have HX:Hid (∀W,Below V.heap.size V W→LS W (.slice xq xn xc) X):=fun W hW=>hX.below (gj.trans (hW.mono gj.size))
 have Do:Hid (∀l∈X,lchk l=0):=hl;have uP:Hid (∀l∈X,l.rests≠[]):=fun l hm=>(zAh (hl l hm)).2.1
 have U0:Hid (0≤(zAj ⟨a,b,c,d,p,q,s,t⟩ X).1∧(zAj ⟨a,b,c,d,p,q,s,t⟩ X).1≤1200000):=by
  have h:=zDS (o:=⟨a,b,c,d,p,q,s,t⟩) X hl;exact⟨h.1,by omega⟩
 have HXN:Hid (xn=X.length∧xn≤60):=by
  have h1:=zEl hX;have h2:=zDp hl;exact⟨h1,by omega⟩
 have cQ:Hid (∀W,Calls prog 182 #[.agg #[.slice q1 n1 c1,.slice q2 n2 c2],.int .i64 c] W fun e w'=>e=.returned (.slice xq xn xc)∧Below W.heap.size W w'):=fun W=>zKb c q1 q2 xq n1 n2 c1 c2 xn xc W hx
 have dh:Hid (∀x M W,ord.prB x=true→mB ⟨a,b,c,d,p,q,s,t⟩ x=M→Calls prog 169 #[.agg #[.int .i64 a,.int .i64 b,.int .i64 c,.int .i64 d,.int .i64 p,.int .i64 q,.int .i64 s,.int .i64 t],.int .i64 x] W fun e w'=>e=.returned (.tuple #[.bool M,.nilIface])∧Below W.heap.size W w'):=fun x M W hp hm=>by
  have h:=zAz ⟨a,b,c,d,p,q,s,t⟩ x W;have e:mE ⟨a,b,c,d,p,q,s,t⟩ x=0:=by unfold mE;rw[if_pos hk,hp];rfl
  rw[e,if_pos rfl,hm] at h;exact h
 obtain⟨QQ,hQQ⟩:∃QQ,(zAj ⟨a,b,c,d,p,q,s,t⟩ X).1=QQ:=⟨_,rfl⟩;obtain⟨WW,UA⟩:∃WW,(zAj ⟨a,b,c,d,p,q,s,t⟩ X).2=WW:=⟨_,rfl⟩;have HAA:Hid ((zAj ⟨a,b,c,d,p,q,s,t⟩ X).1=QQ∧(zAj ⟨a,b,c,d,p,q,s,t⟩ X).2=WW):=⟨hQQ,UA⟩;rw[hQQ] at U0;rw[hQQ,UA];obtain⟨g0,g1,-⟩:=zAb bZ;rw[←hG] at g0 g1;obtain⟨-,cel⟩:=Hn.out V (bzR _ _);have u2:=cel 2;simp only[List.getElem?_toArray,List.getElem?_cons_zero,List.getElem?_cons_succ] at u2;clear cel Hm gd Ha Hc go H5 bZ gj hx hX hl GA hk hQQ UA;go_enter func164,ntmps164;go_wp2_with fail;rw[←gy,←hV];simp only[←hQ];simp only[←hG];clear gy hV hG hQ;refine(cQ.out V).mono ?_;rintro e w1⟨rfl,b1⟩;have He:=hidS b1;clear b1 g0 g1 u2;go_wp2_with fail
 go_loopg [7,9,10,11,12,13,19] xn (fun gg s7 _ _ _ _ _ s19 wr=>∃ (kk:Nat) (acc:Int),kk≤xn∧xn - kk≤gg∧s19=.int .i64 kk∧s7=.int .i64 acc∧Aside (Below V.heap.size V wr∧0≤acc∧acc+(zAj ⟨a,b,c,d,p,q,s,t⟩ (X.drop kk)).1=QQ∧(zAj ⟨a,b,c,d,p,q,s,t⟩ (X.drop kk)).2=WW))
 case atStart=>exact⟨0,0,jL _,by omega,rfl,rfl,He.out,jY _,by rw[List.drop_zero,Int.zero_add];exact HAA.out.1,by rw[List.drop_zero];exact HAA.out.2⟩
 case round=>
  obtain⟨kk,acc,gh,hg,rfl,rfl,HI⟩:=hrel;have HW:=hidS HI.out.1;have HA:=hidS HI.out.2;clear HI;by_cases Hj:kk<xn
  rotate_left
  ·have Hq:¬(kk:Int)<(xn:Int):=by omega
   have he:acc=QQ∧WW=0:=by
    have h:=HA.out;rw[List.drop_eq_nil_of_le (by have:=HXN.out.1;omega)] at h
    simp only[zAj] at h;omega
   obtain⟨rfl,rfl⟩:=he;have HD:=hidS (Hn.out _ HW.out).1;clear hg gh;go_wp2_with fail
   go_returns
   exact⟨rfl,HD.out⟩
  have Hq:(kk:Int)<(xn:Int):=by omega
  have Hv:kk<X.length:=by rw[←HXN.out.1];exact Hj
  obtain⟨lb,lo,rb,ro,rc,hq,hlb,e0,e1,cr,eO,Pg,bM⟩:=ls_atC (HX.out _ HW.out) uP.out Hv;have Dg:Hid (X[kk]!.rests.length≤rc∧rc≤9223372036854775807):=⟨Pg,bM⟩;clear Pg bM;subst hq;have m9:X[kk]!∈X:=by rw[getE _ _ Hv];exact jT Hv
  have hLC:=Do.out _ m9;have bN:=zOO Hv;have C9:Hid (0≤acc∧acc+(zAj ⟨a,b,c,d,p,q,s,t⟩ (X[kk]!::X.drop (kk+1))).1=QQ∧(zAj ⟨a,b,c,d,p,q,s,t⟩ (X[kk]!::X.drop (kk+1))).2=WW):=by rw[←bN];exact HA.out
  have U5:Hid (0≤(zAj ⟨a,b,c,d,p,q,s,t⟩ (X.drop (kk+1))).1):=(zDS _ (fun l hm=>Do.out l (List.mem_of_mem_drop hm))).1
  have pI:Hid (X[kk]!.rests.length≤60):=((zAm _).1 (zAh hLC).2.2).1;obtain⟨p0,zs,hLx⟩:∃p0 zs,X[kk]! = (⟨p0,zs⟩:L):=⟨_,_,rfl⟩;rw[hLx] at e0 e1 eO hLC C9 pI Dg;simp only[] at e0 e1 eO pI Dg;obtain⟨pi,hzne,C0⟩:=zAh hLC;have md:ord.prB p0=true:=by simp only[] at pi;simp[ord.prB,pi]
  have HLZ:=hidS eO;have HQZ:Hid (qchk zs=0):=C0;have gU:¬((kk:Int)<0):=by omega
  have Hu:Below wr.heap.size wr (wr.alloc (.cells #[.int .i64 p0,.slice (some ⟨rb,ro,none⟩) zs.length rc] 94)):=(bzR _ _).alloc (nzR _) _;have BL:(wr.alloc (.cells #[.int .i64 p0,.slice (some ⟨rb,ro,none⟩) zs.length rc] 94)).heap[wr.heap.size]?=some (.cells #[.int .i64 p0,.slice (some ⟨rb,ro,none⟩) zs.length rc] 94 (0,0)):=jA wr _;have HLW:=hidS (show Lies (wr.alloc (.cells #[.int .i64 p0,.slice (some ⟨rb,ro,none⟩) zs.length rc] 94)) rb ro zs∧rb<(wr.alloc (.cells #[.int .i64 p0,.slice (some ⟨rb,ro,none⟩) zs.length rc] 94)).heap.size from⟨eO.below cr Hu,jC cr Hu.size⟩)
  have BF:=hidS (HW.out.trans (Hu.mono HW.out.size));have uw:Hid (xn - (kk+1)<gk∧kk+1≤xn∧xn - kk≤gk):=⟨by omega,by omega,by omega⟩
  clear bN m9 hLC hLx HA Hu eO cr hzne C0 pi gh hg hlb uP HAA;go_upto_region 5 with fail
  generalize wr.alloc (.cells #[.int .i64 p0,.slice (some ⟨rb,ro,none⟩) zs.length rc] 94)=W1 at *;generalize wr.heap.size=LB at *;obtain⟨l0,l1,-⟩:=zAb BL;have hLB:LB<W1.heap.size:=(gzE.1 BL).1;obtain⟨-,cel⟩:=Hn.out W1 BF.out;have u0:=cel 0;have u1:=cel 1;have u2:=cel 2;have u3:=cel 3;have u4:=cel 4;have u5:=cel 5;have u6:=cel 6;have u7':=cel 7;simp only[List.getElem?_toArray,List.getElem?_cons_zero,List.getElem?_cons_succ] at u0 u1 u2 u3 u4 u5 u6 u7';clear cel e0 e1 Hq gU Hv Hj;obtain⟨M,hM⟩:∃M,mB ⟨a,b,c,d,p,q,s,t⟩ p0=M:=⟨_,rfl⟩;have HM:=hidS hM;have Dx:=hidS (dh.out p0 M W1 md hM);clear hM md;go_wp2_with fail;refine Dx.out.mono ?_;rintro e w2⟨rfl,b2⟩;have H6:=hidS (BF.out.trans (b2.mono BF.out.size));have l0':=zAa b2 l0;have l1':=zAa b2 l1;have v1:=zAa b2 u1;have ME:=hidS (show Lies w2 rb ro zs∧rb<w2.heap.size from⟨HLW.out.1.below HLW.out.2 b2,jC HLW.out.2 b2.size⟩)
  clear u0 u1 u2 u3 u4 u5 u6 u7' l0 l1 b2 Dx HLW;cases M
  ·have he:acc=QQ∧WW=0:=by
    have h:=C9.out;rw[zDr (l:=⟨p0,zs⟩) HM.out] at h;simp only[] at h;omega
   obtain⟨rfl,rfl⟩:=he;have HD:=hidS (Hn.out _ H6.out).1;go_wp2_with fail
   go_returns
   exact⟨rfl,HD.out⟩
  have MC:=hidS (zMe b Q rb ro rc zs w2 (by have:=H6.out.size;have:=HQ.out;omega) v1 ME.out.2 (by have:=pI.out;omega) ME.out.1)
  obtain⟨ix,Uf⟩:∃ix,idxW b zs=ix:=⟨_,rfl⟩;have Dq:=hidS Uf;rw[Uf] at MC;clear Uf;go_wp2_with fail;refine MC.out.mono ?_;rintro e w3⟨rfl,b3⟩;have gZ:=hidS (H6.out.trans (b3.mono H6.out.size));have l1x:=zAa b3 l1';have U4:=hidS (show Lies w3 rb ro zs∧rb<w3.heap.size from⟨ME.out.1.below ME.out.2 b3,jC ME.out.2 b3.size⟩)
  clear l0' l1' v1 b3 MC ME;by_cases hi:0≤ix
  ·obtain⟨i,hii⟩:∃i:Nat,ix=(i:Int):=⟨ix.toNat,by omega⟩
   subst hii;have MU:i<zs.length:=by have h:=zLL b zs;rw[Dq.out] at h;omega
   obtain⟨r,hr⟩:∃r,zs[i]! = r:=⟨_,rfl⟩;obtain⟨r1,r2,r3,r4,r5⟩:=r;obtain⟨d0,d1,d2,d3,d4⟩:=zCl U4.out.1 MU hr;obtain⟨SQ,hSQ⟩:∃SQ,shq (zs.take i)=SQ:=⟨_,rfl⟩;have he:acc+SQ=QQ∧r1=WW:=by
    have h:=C9.out;rw[zCo (l:=⟨p0,zs⟩) HM.out (by simp only[];rw[Dq.out];omega)] at h
    simp only[Dq.out,Int.toNat_natCast,hr,hSQ] at h;exact h.2
   have dk:Hid (∀W,Below w3.heap.size w3 W→Calls prog 184 #[.slice (some ⟨rb,ro,none⟩) i rc] W fun e w'=>e=.returned (.int .i64 SQ)∧Below w3.heap.size w3 w'):=fun W hW=>by
    rw[←hSQ];refine(zKc rb ro i rc (zs.take i) W (jC U4.out.2 hW.size) ((U4.out.1.below U4.out.2 hW).take i) (by rw[jJ];omega) (fun x hx=>((zAm _).1 HQZ.out).2.1 x (List.mem_of_mem_take hx)) (by have:=pI.out;omega)).mono ?_
    rintro e w'⟨rfl,hb⟩;exact⟨rfl,hW.trans (hb.mono hW.size)⟩
   have E1:Hid (wrap64 (acc+SQ)=QQ):=by
    have h1:=U0.out;show _=_
    rw[he.1];unfold wrap64;omega
   obtain⟨-,rfl⟩:=he;have SO:Hid (∀W,Below w3.heap.size w3 W→(Below w3.heap.size w3 W∧W.cell? ⟨LB,1,none⟩=some (.slice (some ⟨rb,ro,none⟩) zs.length rc)∧W.cell? ⟨rb,ro+i*5,none⟩=some (.int .i64 r1))):=fun W hW=>⟨hW,zAa hW l1x,zAa hW d0⟩
   have Ut:Hid (∀W,Below w3.heap.size w3 W→Below w.heap.size w W):=fun W hW=>(Hn.out W (gZ.out.trans (hW.mono gZ.out.size))).1
   have GA:=pI.out;have hi1:¬((i:Int)<0):=by omega
   have hi2:(i:Int)<(zs.length:Int):=by omega
   have hi3:¬(zs.length:Int)≤(i:Int):=by omega
   have hi4:(0:Int)≤(i:Int):=by omega
   have hi5:(i:Int)≤(rc:Int):=by have:=Dg.out.1;omega
   have hi6:¬((rc:Int)<(i:Int)):=by omega
   have x1:=E1.out;have x1b:IntKind.i64.wrap (acc+SQ)=QQ:=(IntWalk.i64_left _).trans x1;clear hr hSQ d1 d2 d3 d4 U4 C9 U5 Dq;generalize zs.length=zl at *;go_upto_region 11 with fail
   go_region_held3 (fun W=>Below w3.heap.size w3 W∧W.cell? ⟨LB,1,none⟩=some (.slice (some ⟨rb,ro,none⟩) zl rc)∧W.cell? ⟨rb,ro+i*5,none⟩=some (.int .i64 r1))
    ((refine SO.out _ ?_;(with_reducible repeat' (first|assumption|refine balS ?_ _|refine Below.drew ?_|exact bzR _ _|exact nzR _|exact Below.size (by assumption)))))
    (first|(go_at_call 184;with_reducible refine(dk.out _ ?_).mono ?_;(with_reducible repeat' (first|assumption|refine Below.drew ?_|exact bzR _ _|exact nzR _|exact Below.size (by assumption)));rintro x w4 ⟨rfl,Gj⟩))
   all_goals go_wp2_with fail
   all_goals go_returns
   all_goals exact⟨rfl,Ut.out _ (by with_reducible repeat' (first|assumption|refine Below.drew ?_))⟩
  ·have HTO:Hid (Calls prog 185 #[.slice (some ⟨rb,ro,none⟩) zs.length rc] w3 fun e w'=>e=.returned (.tuple #[.int .i64 (tot zs),.nilIface])∧Below w3.heap.size w3 w'):=zJB rb ro rc zs w3 U4.out.2 Dg.out.1 Dg.out.2 U4.out.1 HQZ.out
   obtain⟨TT,mX⟩:∃TT,tot zs=TT:=⟨_,rfl⟩;have he:acc+TT+(zAj ⟨a,b,c,d,p,q,s,t⟩ (X.drop (kk+1))).1=QQ∧(zAj ⟨a,b,c,d,p,q,s,t⟩ (X.drop (kk+1))).2=WW∧0≤acc∧0≤TT:=by
    have h:=C9.out;rw[zDR (l:=⟨p0,zs⟩) HM.out (by simp only[];rw[Dq.out];exact hi)] at h
    simp only[mX] at h;have h0:=(zKV zs ((zAm _).1 HQZ.out).2.1).1;rw[mX] at h0;exact⟨by omega,h.2.2,h.1,h0⟩
   rw[mX] at HTO;have HE:=hidS he;have E1:Hid (wrap64 (acc+TT)=acc+TT):=by
    have h1:=U0.out;have h2:=U5.out;show _=_
    unfold wrap64;omega
   have E2:Hid (wrap64 ((kk:Int)+1)=((kk+1:Nat):Int)):=by
    have h1:=HXN.out.2;have h2:=uw.out;show _=_
    unfold wrap64;omega
   have B0:¬(0≤ix):=hi;have HZL:Hid (True):=trivial;generalize zs.length=zl at *;clear mX he C9 U4;go_wp2_with fail;refine HTO.out.mono ?_;rintro e w4⟨rfl,b4⟩;have GP:=hidS (gZ.out.trans (b4.mono gZ.out.size));clear b4 HTO l1x;have x1:=E1.out;have x2:=E2.out;go_wp2_with fail;go_roundg (xn - (kk+1))
   case measure=>exact uw.out.1
   case rel=>
    exact⟨kk+1,acc+TT,uw.out.2.1,nzR _,by go_num,by rw[E1.out],GP.out,by have:=HE.out;omega,HE.out.1,HE.out.2.1⟩
end slf
end Go.Proofs.YtmhcghgfpfainaaGreatDoor
