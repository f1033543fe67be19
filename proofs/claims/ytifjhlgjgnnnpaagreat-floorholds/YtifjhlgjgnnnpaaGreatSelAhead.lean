import Derived.Test.YtifjhlgjgnnnpaaGreatSelMem
import Derived.Test.YtifjhlgjgnnnpaaGreatSidIns2
import Derived.Test.YtifjhlgjgnnnpaaGreatBokCancel
import Derived.Test.YtifjhlgjgnnnpaaGreatMeeDo
import Derived.Test.YtifjhlgjgnnnpaaGreatQueChk
import Derived.Test.YtifjhlgjgnnnpaaGreatBokRests
import Derived.Deep.RegionHeld3
set_option maxHeartbeats 4000000
set_option maxRecDepth 100000
namespace Go.Proofs.YtifjhlgjgnnnpaaGreat
namespace slf
open Go.RowKit spn que sid bok mee
open ord (O oV mB mE chk)
theorem hidD{P:Prop}(h:P):Hid P:=h
theorem zGf(o:O)(q1 q2:Option Addr)(n1 n2 c1 c2:Nat)(bs ss:List L)(p:Int)(r:R)(rs:List R)(t:List L)(w:World)(h1:LS w (.slice q1 n1 c1) (repB o bs (⟨p,r::rs⟩::t)))(h2:LS w (.slice q2 n2 c2) (repS o ss (⟨p,r::rs⟩::t)))(h0:zAd (repB o bs (⟨p,r::rs⟩::t)) (repS o ss (⟨p,r::rs⟩::t))=0) :
  Calls Tryz.prog 106 #[.agg #[.slice q1 n1 c1,.slice q2 n2 c2],.int .i64 r.id] w fun e w'=>∃u1 u2 m1 m2 d1 d2 x1 x2 x3 x4 x5,e=.returned (.tuple #[.agg #[.slice u1 m1 d1,.slice u2 m2 d2],.agg #[.int .i64 x1,.int .i64 x2,.int .i64 x3,.int .i64 x4,.int .i64 x5],.nilIface])∧DL w' w.heap.size (.slice u1 m1 d1) (repB o bs (zAC p rs t))∧DL w' w.heap.size (.slice u2 m2 d2) (repS o ss (zAC p rs t))∧Below w.heap.size w w':=by
 have hX:∀s,schk s (⟨p,r::rs⟩::t)=0→(Lit.int .i64 r.id).wf=true:=fun s hs=>zHg hs r (by rw[zAp];simp)
 have hin:0<(r::rs).length:=by simp
 unfold repB repS at *
 by_cases hs:o.side=1
 ·simp only[if_pos hs] at *
  obtain⟨e1,e2,-⟩:=zAf h0
  obtain⟨f1,f2⟩:=zEH e2
  refine(zEk q1 q2 n1 n2 c1 c2 bs (⟨p,r::rs⟩::t) r.id (hX 2 e2) 0 0 w h1 h2 h0 (zKD h0 rfl) (by simp) (by simp) f1 f2).mono ?_
  rintro e w'⟨u1,u2,m1,m2,d1,d2,rfl,g1,g2,g3⟩
  rw[zEI] at g2
  exact⟨u1,u2,m1,m2,d1,d2,_,_,_,_,_,rfl,g1,g2,g3⟩
 ·simp only[if_neg hs] at *
  obtain⟨e1,e2,-⟩:=zAf h0
  obtain⟨f1,f2⟩:=zEH e1
  refine(zEj q1 q2 n1 n2 c1 c2 (⟨p,r::rs⟩::t) ss r.id (hX 1 e1) 0 0 w h1 h2 h0 (by simp) (by simp) f1 f2).mono ?_
  rintro e w'⟨u1,u2,m1,m2,d1,d2,rfl,g1,g2,g3⟩
  rw[zEI] at g1
  exact⟨u1,u2,m1,m2,d1,d2,_,_,_,_,_,rfl,g1,g2,g3⟩
theorem zIW(VB base:Nat)(q1 q2:Option Addr)(n1 n2 c1 c2:Nat)(tv iv:Value)(left gone id:Int)(w:World)
  (hrow:w.heap[VB]?=some (.cells #[.slice q1 n1 c1,.slice q2 n2 c2,tv,.int .i64 left,.int .i64 gone,iv] 191 (0,0))) (hbase:base≤w.heap.size) :
  Calls Tryz.prog 143 #[.pointer (some ⟨VB,0,none⟩),.int .i64 id,.int .i64 1] w fun e w'=>e=.returned .nilIface∧w'.heap[VB]?=some (.cells #[.slice q1 n1 c1,.slice q2 n2 c2,tv,.int .i64 0,.int .i64 left,iv] 191 (0,0))∧w.grownBy w' (some VB)∧FarV w w' base VB:=by
 obtain⟨x0,x1,x2,x3,x4,x5,xf⟩:=rowV hrow
 have xf3:=xf 3
 have xf4:=xf 4
 have hg:w.grownBy ((w.setCell ⟨VB,4,none⟩ (.int .i64 left)).setCell ⟨VB,3,none⟩ (.int .i64 0)) (some VB):=gr_trans (gr_setCell _ _ _ _) (gr_setCell _ _ _ _)
 have HPO:=hidD (show _∧_∧_ from⟨v_at3 (v_at4 hrow (.int .i64 left)) (.int .i64 0),hg,FarV.grown (VB:=VB) hg hbase (fun k hk=>.inl (by cases hk;rfl))⟩)
 clear hg xf hrow
 go_enter Tryz.func143,Tryz.ntmps143
 go_wp2_with fail
 go_ret
 exact⟨rfl,HPO.out⟩
theorem zIX(w0:World)(m:Int)(hm:m=2∨m=3)(VB base:Nat)(o:O)(q1 q2:Option Addr)(n1 n2 c1 c2:Nat)(tv iv:Value)(bs ss:List L)(p:Int)(r:R)(rs:List R)(t:List L)(ts:List T)(ids:List Int)(left gone:Int)(w:World)
  (hrow:w.heap[VB]?=some (.cells #[.slice q1 n1 c1,.slice q2 n2 c2,tv,.int .i64 left,.int .i64 gone,iv] 191 (0,0)))
  (h1:LS w (.slice q1 n1 c1) (repB o bs (⟨p,r::rs⟩::t))) (h2:LS w (.slice q2 n2 c2) (repS o ss (⟨p,r::rs⟩::t))) (h0:zAd (repB o bs (⟨p,r::rs⟩::t)) (repS o ss (⟨p,r::rs⟩::t))=0) (hT:OwnT w base tv ts) (hI:OwnI w base iv ids) (hVb:VB<base) (hbase:base≤w.heap.size) (hids:ids.length≤1000) :
  Calls Tryz.prog 143 #[.pointer (some ⟨VB,0,none⟩),.int .i64 r.id,.int .i64 m] w fun e w'=>e=.returned .nilIface∧FarV w w' base VB∧∃u1 u2 m1 m2 d1 d2 iv',w'.heap[VB]?=some (.cells #[.slice u1 m1 d1,.slice u2 m2 d2,tv,.int .i64 (if m=2 then left else 0),.int .i64 (if m=2 then gone else left),iv'] 191 (0,0))∧SafeS w0 w' base (.slice u1 m1 d1) (repB o bs (zAC p rs t))∧SafeS w0 w' base (.slice u2 m2 d2) (repS o ss (zAC p rs t))∧OwnT w' base tv ts∧OwnI w' base iv' (ids++[r.id]):=by
 have HCA:=hidD (zGf o q1 q2 n1 n2 c1 c2 bs ss p r rs t w h1 h2 h0)
 obtain⟨x0,x1,x2,x3,x4,x5,-⟩:=rowV hrow
 have hmb:(m != 1)=true:=by rcases hm with rfl|rfl <;>rfl
 have HNUM:=hidD (show VB<base∧base≤w.heap.size∧ids.length≤1000∧VB<w.heap.size from⟨hVb,hbase,hids,by omega⟩)
 have HTw:=hidD hT
 have HIw:=hidD hI
 have HM:=hidD hm
 obtain⟨rid,hrid⟩:∃rid,r.id=rid:=⟨_,rfl⟩
 rw[hrid] at HCA ⊢
 obtain⟨BX,hBX⟩:∃BX,repB o bs (zAC p rs t)=BX:=⟨_,rfl⟩
 obtain⟨SX,hSX⟩:∃SX,repS o ss (zAC p rs t)=SX:=⟨_,rfl⟩
 rw[hBX,hSX] at HCA ⊢
 clear h1 h2 h0 hT hI hVb hbase hids hm hrid hBX hSX
 go_enter Tryz.func143,Tryz.ntmps143
 go_wp2_with fail
 refine HCA.out.mono ?_
 rintro e w1⟨u1,u2,m1,m2,d1,d2,z1,z2,z3,z4,z5,rfl,D1,D2,b1⟩
 have hBa:Below w1.heap.size w1 (w1.alloc (.cells #[.slice u1 m1 d1,.slice u2 m2 d2] 46)):=(bzR _ _).alloc (nzR _) _
 have hRa:(w1.alloc (.cells #[.slice u1 m1 d1,.slice u2 m2 d2] 46)).heap[w1.heap.size]?=some (.cells #[.slice u1 m1 d1,.slice u2 m2 d2] 46 (0,0)):=jA w1 _
 have hBb:Below (w1.alloc (.cells #[.slice u1 m1 d1,.slice u2 m2 d2] 46)).heap.size (w1.alloc (.cells #[.slice u1 m1 d1,.slice u2 m2 d2] 46)) ((w1.alloc (.cells #[.slice u1 m1 d1,.slice u2 m2 d2] 46)).alloc (.cells #[.int .i64 z1,.int .i64 z2,.int .i64 z3,.int .i64 z4,.int .i64 z5] 54)):=(bzR _ _).alloc (nzR _) _
 have hRb:=(hBb.block w1.heap.size (gzE.1 hRa).1).trans hRa
 have hB2:=hBa.trans (hBb.mono hBa.size)
 have HW2:=hidD (b1.trans (hB2.mono b1.size))
 have HD1:=hidD (D1.below hB2)
 have HD2:=hidD (D2.below hB2)
 clear hBa hRa hBb hB2 D1 D2 b1 HCA x0 x1 x2 x3 x4 x5
 go_upto_region 5 with fail
 generalize ((w1.alloc (.cells #[.slice u1 m1 d1,.slice u2 m2 d2] 46)).alloc (.cells #[.int .i64 z1,.int .i64 z2,.int .i64 z3,.int .i64 z4,.int .i64 z5] 54))=W2 at *
 generalize w1.heap.size=LB at *
 obtain⟨l0,l1,-⟩:=zAb hRb
 have hr2:=(HW2.out.block VB HNUM.out.2.2.2).trans hrow
 obtain⟨x0,x1,x2,x3,x4,x5,xf⟩:=rowV hr2
 have xf0:=xf 0
 have xf1:=xf 1
 clear xf hrow
 go_upto_region 6 with fail
 clear l0 l1 hRb x0 x1 x2 x3 x4 x5 xf0 xf1
 have hr3:=v_at1 (v_at0 hr2 (.slice u1 m1 d1)) (.slice u2 m2 d2)
 have hg3:W2.grownBy ((W2.setCell ⟨VB,0,none⟩ (.slice u1 m1 d1)).setCell ⟨VB,1,none⟩ (.slice u2 m2 d2)) (some VB):=zAN W2 VB _ _
 have hnum:=HNUM.out
 have HT3:=hidD (zAj (OwnM.below HTw.out HW2.out) hg3 (fun z hz e=>by cases e;have:=(OwnM.lt HTw.out VB hz).1;omega))
 have HI3:=hidD (zAj (OwnM.below HIw.out HW2.out) hg3 (fun z hz e=>by cases e;have:=(OwnM.lt HIw.out VB hz).1;omega))
 have HD13:=hidD (HD1.out.other hg3 hnum.2.2.2)
 have HD23:=hidD (HD2.out.other hg3 hnum.2.2.2)
 have HF3:=hidD (FarV.trans (FarV.below HW2.out hnum.2.1) (FarV.grown (VB:=VB) hg3 (by have:=HW2.out.size;omega) (fun k hk=>.inl (by cases hk;rfl))))
 clear hg3 hnum
 generalize (W2.setCell ⟨VB,0,none⟩ (.slice u1 m1 d1)).setCell ⟨VB,1,none⟩ (.slice u2 m2 d2)=W3 at *
 have hnum:=HNUM.out
 have hIl:∀z,iv.ownBlock=some z→base≤z∧z<w.heap.size:=fun z hz=>OwnM.lt HIw.out z hz
 obtain⟨tq,tc,w8,A8,O8,G8⟩:=lay_id rid HI3.out (by have:=HF3.out.size;omega) (by omega)
 have hr8:=(G8.block VB (gzE.1 hr3).1 (fun e=>by have:=(hIl VB e.symm).1;omega)).trans hr3
 have HA8:=hidD A8
 have HD18:=hidD (zHM HD13.out G8 (fun z hz=>(hIl z hz).2))
 have HD28:=hidD (zHM HD23.out G8 (fun z hz=>(hIl z hz).2))
 have HT8:=hidD (zAj HT3.out G8 (fun x hx=>zPd HT3.out HI3.out (by decide) x hx))
 have HO8:=hidD O8
 have HF8:=hidD (HF3.out.trans (FarV.grown (VB:=VB) G8 (by have:=HF3.out.size;omega) (fun k hk=>.inr (hIl k hk).1)))
 have hBc:Below W3.heap.size W3 (W3.alloc (.cells #[.int .i64 rid] 3)):=(bzR _ _).alloc (nzR _) _
 obtain⟨x0,x1,x2,x3,x4,x5,-⟩:=rowV hr3
 have k5:=zAa hBc x5
 obtain⟨y0,y1,y2,y3,y4,y5,yf⟩:=rowV hr8
 have yf5:=yf 5
 clear yf hnum hIl A8 O8 G8 hBc
 generalize hTL:(ids++[rid]).length=TL at *
 clear hTL
 go_upto_region 7 with (at_builtin;refine Lib.wpList_append_run _ rfl _ _ _ _ rfl _ _ rfl rfl _ _ HA8.out ?_)
 have hr9:=v_at5 hr8 (.slice tq TL tc)
 have hg9:=gr_setCell w8 VB 5 (.slice tq TL tc)
 have hnum:=HNUM.out
 have HPO:=hidD (show FarV w (w8.setCell ⟨VB,5,none⟩ (.slice tq TL tc)) base VB∧DL (w8.setCell ⟨VB,5,none⟩ (.slice tq TL tc)) w.heap.size (.slice u1 m1 d1) BX∧DL (w8.setCell ⟨VB,5,none⟩ (.slice tq TL tc)) w.heap.size (.slice u2 m2 d2) SX∧OwnT (w8.setCell ⟨VB,5,none⟩ (.slice tq TL tc)) base tv ts∧OwnI (w8.setCell ⟨VB,5,none⟩ (.slice tq TL tc)) base (.slice tq TL tc) (ids++[rid]) from
  ⟨HF8.out.trans (FarV.grown hg9 (by have:=HF8.out.size;omega) (fun k hk=>.inl (by cases hk;rfl))),HD18.out.other hg9 hnum.2.2.2,HD28.out.other hg9 hnum.2.2.2,zAj HT8.out hg9 (fun z hz e=>by cases e;have:=(OwnM.lt HT8.out VB hz).1;omega),zAj HO8.out hg9 (fun z hz e=>by cases e;have:=(OwnM.lt HO8.out VB hz).1;omega)⟩)
 clear x0 x1 x2 x3 x4 x5 y0 y1 y2 y3 y4 y5 yf5 k5 hg9 hr8 hr3 hnum HA8
 generalize w8.setCell ⟨VB,5,none⟩ (.slice tq TL tc)=W9 at *
 obtain⟨x0,x1,x2,x3,x4,x5,xf⟩:=rowV hr9
 have xf3:=xf 3
 have xf4:=xf 4
 have HR9:=hidD hr9
 clear xf
 by_cases hm2:m=2
 ·subst hm2
  clear hr9
  go_wp2_with fail
  go_ret
  exact⟨rfl,HPO.out.1,u1,u2,m1,m2,d1,d2,_,HR9.out,.inr (HPO.out.2.1.mono HNUM.out.2.1),.inr (HPO.out.2.2.1.mono HNUM.out.2.1),HPO.out.2.2.2.1,HPO.out.2.2.2.2⟩
 ·have hmc:(m != 2)=true:=by simp[hm2]
  have hga:W9.grownBy ((W9.setCell ⟨VB,4,none⟩ (.int .i64 left)).setCell ⟨VB,3,none⟩ (.int .i64 0)) (some VB):=gr_trans (gr_setCell _ _ _ _) (gr_setCell _ _ _ _)
  have hra:=v_at3 (v_at4 hr9 (.int .i64 left)) (.int .i64 0)
  have hnum:=HNUM.out
  have HPX:=hidD (show FarV w ((W9.setCell ⟨VB,4,none⟩ (.int .i64 left)).setCell ⟨VB,3,none⟩ (.int .i64 0)) base VB∧DL ((W9.setCell ⟨VB,4,none⟩ (.int .i64 left)).setCell ⟨VB,3,none⟩ (.int .i64 0)) w.heap.size (.slice u1 m1 d1) BX∧DL ((W9.setCell ⟨VB,4,none⟩ (.int .i64 left)).setCell ⟨VB,3,none⟩ (.int .i64 0)) w.heap.size (.slice u2 m2 d2) SX∧OwnT ((W9.setCell ⟨VB,4,none⟩ (.int .i64 left)).setCell ⟨VB,3,none⟩ (.int .i64 0)) base tv ts∧OwnI ((W9.setCell ⟨VB,4,none⟩ (.int .i64 left)).setCell ⟨VB,3,none⟩ (.int .i64 0)) base (.slice tq TL tc) (ids++[rid]) from
   ⟨HPO.out.1.trans (FarV.grown hga (by have:=HPO.out.1.size;omega) (fun k hk=>.inl (by cases hk;rfl))),HPO.out.2.1.other hga hnum.2.2.2,HPO.out.2.2.1.other hga hnum.2.2.2,zAj HPO.out.2.2.2.1 hga (fun z hz e=>by cases e;have:=(OwnM.lt HPO.out.2.2.2.1 VB hz).1;omega),zAj HPO.out.2.2.2.2 hga (fun z hz e=>by cases e;have:=(OwnM.lt HPO.out.2.2.2.2 VB hz).1;omega)⟩)
  have HRA:=hidD hra
  clear hga hra hnum hr9
  go_wp2_with fail
  go_ret
  exact⟨rfl,HPX.out.1,u1,u2,m1,m2,d1,d2,_,(by first|exact HRA.out|(rw[if_neg hm2,if_neg hm2];exact HRA.out)),.inr (HPX.out.2.1.mono HNUM.out.2.1),.inr (HPX.out.2.2.1.mono HNUM.out.2.1),HPX.out.2.2.2.1,HPX.out.2.2.2.2⟩
theorem zKS(w0:World)(m:Int)(hm:m=1∨m=2∨m=3)(VB base:Nat)(o:O)(q1 q2:Option Addr)(n1 n2 c1 c2:Nat)(tv iv:Value)(bs ss:List L)(p:Int)(r:R)(rs:List R)(t:List L)(ts:List T)(ids:List Int)(left gone:Int)(w:World)
  (hrow:w.heap[VB]?=some (.cells #[.slice q1 n1 c1,.slice q2 n2 c2,tv,.int .i64 left,.int .i64 gone,iv] 191 (0,0)))
  (hw0:Below w0.heap.size w0 w) (h1:SafeS w0 w base (.slice q1 n1 c1) (repB o bs (⟨p,r::rs⟩::t))) (h2:SafeS w0 w base (.slice q2 n2 c2) (repS o ss (⟨p,r::rs⟩::t))) (h0:zAd (repB o bs (⟨p,r::rs⟩::t)) (repS o ss (⟨p,r::rs⟩::t))=0) (hT:OwnT w base tv ts) (hI:OwnI w base iv ids) (hVb:VB<base) (hbase:base≤w.heap.size) (hids:ids.length≤1000) :
  Calls Tryz.prog 143 #[.pointer (some ⟨VB,0,none⟩),.int .i64 r.id,.int .i64 m] w fun e w'=>e=.returned .nilIface∧FarV w w' base VB∧∃u1 u2 m1 m2 d1 d2 iv',w'.heap[VB]?=some (.cells #[.slice u1 m1 d1,.slice u2 m2 d2,tv,.int .i64 (zBQ m left),.int .i64 (zEh m gone left),iv'] 191 (0,0))∧SafeS w0 w' base (.slice u1 m1 d1) (repB o bs (zBK m p r rs t))∧SafeS w0 w' base (.slice u2 m2 d2) (repS o ss (zBK m p r rs t))∧OwnT w' base tv ts∧OwnI w' base iv' (zDE m ids r.id):=by
 by_cases hm1:m=1
 ·subst hm1
  refine(zIW VB base q1 q2 n1 n2 c1 c2 tv iv left gone r.id w hrow hbase).mono ?_
  rintro e w'⟨rfl,hr,hg,hf⟩
  refine⟨rfl,hf,q1,q2,n1,n2,c1,c2,iv,hr,h1.row hg hVb,h2.row hg hVb,zAj hT hg (fun z hz e=>by cases e;have:=(OwnM.lt hT VB hz).1;omega),zAj hI hg (fun z hz e=>by cases e;have:=(OwnM.lt hI VB hz).1;omega)⟩
 ·refine(zIX w0 m (by omega) VB base o q1 q2 n1 n2 c1 c2 tv iv bs ss p r rs t ts ids left gone w hrow (h1.ls hw0) (h2.ls hw0) h0 hT hI hVb hbase hids).mono ?_
  rintro e w'⟨rfl,hf,u1,u2,m1,m2,d1,d2,iv',g1,g2,g3,g4,g5⟩
  have eX:zBK m p r rs t=zAC p rs t:=if_neg hm1
  have eI:zDE m ids r.id=ids++[r.id]:=if_neg hm1
  rw[eX,eI]
  exact⟨rfl,hf,u1,u2,m1,m2,d1,d2,iv',g1,g2,g3,g4,g5⟩
end slf
namespace slf
open Go.RowKit spn que sid bok mee
open ord (O oV mB mE chk zAx)
theorem hidS{P:Prop}(h:P):Hid P:=h
theorem zIY(s:Int)(q1 q2 xq:Option Addr)(n1 n2 c1 c2 xn xc:Nat)(w:World)(hx:(if s=1 then Value.slice q2 n2 c2 else .slice q1 n1 c1)=.slice xq xn xc) :
  Calls Tryz.prog 158 #[.agg #[.slice q1 n1 c1,.slice q2 n2 c2],.int .i64 s] w fun e w'=>e=.returned (.slice xq xn xc)∧Below w.heap.size w w':=by
 rw[←hx]
 clear hx
 by_cases hs:s=1
 ·rw[if_pos hs]
  subst hs
  go_enter Tryz.func158,Tryz.ntmps158
  go_wp2
  go_ret
  exact⟨rfl,(bzR _ _).alloc (nzR _) _⟩
 ·rw[if_neg hs]
  have h1:(s == 1)=false:=by simpa using hs
  go_enter Tryz.func158,Tryz.ntmps158
  go_wp2
  go_ret
  exact⟨rfl,(bzR _ _).alloc (nzR _) _⟩
theorem zNA(zs:List R)(k:Nat)(hk:k<zs.length):shq (zs.take (k+1))=shq (zs.take k)+zs[k]!.qty:=by
 rw[zDV hk,zIL];simp only[shq];omega
theorem zIZ(b o n c:Nat)(zs:List R)(w:World)(hb:b<w.heap.size)(hl:Lies w b o zs)(hn:zs.length=n)(hG:∀r∈zs,rchk r=0)(h60:n≤60) :
  Calls Tryz.prog 160 #[.slice (some ⟨b,o,none⟩) n c] w fun e w'=>e=.returned (.int .i64 (shq zs))∧Below w.heap.size w w':=by
 have HG:Hid (∀r∈zs,rchk r=0):=hG
 have HL:Hid (Lies w b o zs∧b<w.heap.size):=⟨hl,hb⟩
 generalize hT:shq zs=T
 have HT:Hid (shq zs=T):=hT
 have HN:Hid (zs.length=n):=hn
 clear hT hl hG hn hb
 go_enter Tryz.func160,Tryz.ntmps160
 go_wp2_with fail
 go_loopg [3,5,8] n (fun gg s3 _ s8 wr=>∃kk:Nat,kk≤n∧n - kk≤gg∧s8=.int .i64 kk∧s3=.int .i64 (shq (zs.take kk))∧Aside (Below w.heap.size w wr))
 case atStart=>exact⟨0,jL _,by omega,rfl,rfl,bzR _ _⟩
 case round=>
  obtain⟨kk,hkk,hg,rfl,rfl,BW⟩:=hrel
  have hA:Hid (0≤shq (zs.take kk)∧shq (zs.take kk)≤10000*(kk:Int)):=by
   have:=zPb (zs.take kk) (fun r hr=>HG.out r (List.mem_of_mem_take hr))
   rw[jJ,HN.out,Nat.min_eq_left hkk] at this
   exact this
  by_cases hlt:kk<n
  ·have hltz:(kk:Int)<(n:Int):=by omega
   have hlz:kk<zs.length:=by rw[HN.out];exact hlt
   have LW:=HL.out.1.below HL.out.2 BW.out
   obtain⟨r,hr⟩:∃r,zs[kk]! = r:=⟨_,rfl⟩
   obtain⟨r1,r2,r3,r4,r5⟩:=r
   obtain⟨c0,c1,c2,c3,c4⟩:=zCt LW hlz hr
   have hq:=zAt (HG.out zs[kk]! (by rw[getE _ _ hlz];exact jT hlz))
   rw[hr] at hq
   obtain⟨⟨q1,q2⟩,-⟩:=hq
   simp only[] at q1 q2
   have hTT:Hid (shq (zs.take (kk+1))=shq (zs.take kk)+r3):=by
    have:=zNA zs kk hlz
    rw[hr] at this
    exact this
   obtain⟨t1,t2⟩:=hA.out
   clear hr LW hA
   have hin1:¬((kk:Int)<0):=by omega
   have e2:wrap64 (shq (zs.take kk)+r3)=shq (zs.take kk)+r3:=by unfold wrap64;omega
   go_wp2_with fail
   go_roundg (n - (kk+1))
   case measure=>omega
   case rel=>exact⟨kk+1,by omega,by omega,by go_num,by rw[hTT.out],BW.out.alloc BW.out.size _⟩
  ·have hltz:¬(kk:Int)<(n:Int):=by omega
   have hk:kk=n:=by omega
   subst hk
   have hT2:shq (zs.take kk)=T:=by rw[←HT.out,List.take_of_length_le (by rw[HN.out];exact nzR _)]
   rw[hT2]
   go_wp2_with fail
   go_ret
   exact⟨rfl,BW.out⟩
theorem zNB(u:Int)(x:R)(zs:List R):∀i,Lib.idxByFrom (fun _ y=>decide (y.who=u)) x zs i=if idxW u zs<0 then -1 else (i:Int)+idxW u zs:=by
 induction zs with
 | nil=>intro i;rfl
 | cons r t ih=>
  intro i
  have:=zKz u t
  show (if decide (r.who=u)=true then (i:Int) else Lib.idxByFrom (fun _ y=>decide (y.who=u)) x t (i+1))=_
  rw[ih,zCv]
  by_cases h:r.who=u
  ·rw[if_pos (decide_eq_true h),if_pos h,if_neg (by omega),Int.add_zero]
  ·rw[if_neg (by simpa using h),if_neg h]
   by_cases h2:idxW u t<0
   ·rw[if_pos h2,if_pos h2,if_pos (by omega)]
   ·rw[if_neg h2,if_neg h2,if_neg (by omega)];omega
theorem zKT(u:Int)(x:R)(zs:List R):Lib.idxBy (fun _ y=>decide (y.who=u)) zs x=idxW u zs:=by
 have:=zKz u zs
 unfold Lib.idxBy
 rw[zNB]
 split <;>omega
theorem zNC(u:Int)(B:Nat)(w:World)(hB:B<w.heap.size)(hc:w.cell? ⟨B,1,none⟩=some (.int .i64 u)) :
  PredBelow Tryz.prog 159 #[.pointer (some ⟨B,0,none⟩)] (fun x=>.agg (rV x).toArray) (fun x=>decide (x.who=u)) w:=by
 intro W x hb
 obtain⟨a,b,c,d,e⟩:=x
 show Calls Tryz.prog 159 #[.agg #[.int .i64 a,.int .i64 b,.int .i64 c,.int .i64 d,.int .i64 e],.pointer (some ⟨B,0,none⟩)] W _
 have hc2:=zAa hb hc
 have hz:B<W.heap.size:=jC hB hb.size
 go_enter Tryz.func159,Tryz.ntmps159
 go_wp2
 go_ret
 exact⟨rfl,hb.alloc hb.size _⟩
theorem zKU(u:Int)(B b o c:Nat)(zs:List R)(w:World)(hB:B<w.heap.size)(hc:w.cell? ⟨B,1,none⟩=some (.int .i64 u))(hb:b<w.heap.size)(hn:zs.length≤9223372036854775807)(hl:Lies w b o zs) :
  Calls Tryz.prog 151 #[.slice (some ⟨b,o,none⟩) zs.length c,.func (.func 159) #[] #[.pointer (some ⟨B,0,none⟩)]] w fun e w'=>e=.returned (.int .i64 (idxW u zs))∧Below w.heap.size w w':=by
 have eg:∀args w,(callFunc 159 args).run Tryz.prog w=.ok (.enter 159 args) w:=enters_of Tryz.func159 (by kernel_rfl) rfl
 have hcon:=AnyQ.slices_IndexFunc Tryz.lq6 5 Tryz.isAgg54 Tryz.sizeOf54 rV (fun x=>rfl) (fun x=>decide (x.who=u)) 159 #[.pointer (some ⟨B,0,none⟩)] eg b o zs.length c zs
  w (zNC u B _ hB hc) (nzR _) hn hb hl
 change Calls Tryz.prog 151 _ _ _ at hcon
 rw[List.take_length,zKT] at hcon
 exact hcon
theorem zND{ls:List L}{k:Nat}(hk:k<ls.length):ls.drop k=ls[k]!::ls.drop (k+1):=by
 rw[List.drop_eq_getElem_cons hk,getE _ _ hk]
theorem ls_atC{w:World}{q:Option Addr}{n c:Nat}{ls:List L}(h:LS w (.slice q n c) ls)(hne:∀l∈ls,l.rests≠[]){kk:Nat}(hk:kk<ls.length):∃b o rb ro rc,q=some ⟨b,o,none⟩∧b<w.heap.size∧w.cell? ⟨b,o+kk*2,none⟩=some (.int .i64 ls[kk]!.price)∧w.cell? ⟨b,o+kk*2+1,none⟩=some (.slice (some ⟨rb,ro,none⟩) ls[kk]!.rests.length rc)∧rb<w.heap.size∧Lies w rb ro ls[kk]!.rests∧ls[kk]!.rests.length≤rc∧rc≤9223372036854775807:=by
 rcases h with ⟨-,e⟩|⟨b,o,c',e,-,-,hb,hl⟩
 ·rw[e] at hk;simp at hk
 ·cases e
  obtain⟨h0,v,h1,hs⟩:=hl kk hk
  have hm:ls[kk]!∈ls:=by rw[getE _ _ hk];exact jT hk
  have hz:=hne _ hm
  rcases hs.sl hz with ⟨-,e⟩|⟨rb,ro,rc,rfl,h2,h3,h4,h5⟩
  ·exact absurd e hz
  ·exact⟨b,o,rb,ro,rc,rfl,hb,h0,h1,h4,h5,h2,h3⟩
theorem zKV(q1 q2 xq:Option Addr)(n1 n2 c1 c2 xn xc:Nat)(X:List L)(a b c d p q s t:Int)(w:World)(hx:(if c=1 then Value.slice q2 n2 c2 else .slice q1 n1 c1)=.slice xq xn xc)(hX:LS w (.slice xq xn xc) X)(hl:∀l∈X,lchk l=0)(h60:cnt X≤60)(hk:chk ⟨a,b,c,d,p,q,s,t⟩=0) :
  Calls Tryz.prog 141 #[.agg #[.slice q1 n1 c1,.slice q2 n2 c2],.agg #[.int .i64 a,.int .i64 b,.int .i64 c,.int .i64 d,.int .i64 p,.int .i64 q,.int .i64 s,.int .i64 t]] w fun e w'=>e=.returned (.tuple #[.int .i64 (zAi ⟨a,b,c,d,p,q,s,t⟩ X).1,.int .i64 (zAi ⟨a,b,c,d,p,q,s,t⟩ X).2,.nilIface])∧Below w.heap.size w w':=by
 obtain⟨V1,hV1⟩:∃V1,V1=w.alloc (.cells #[.slice q1 n1 c1,.slice q2 n2 c2] 46):=⟨_,rfl⟩
 have hs1:V1.heap.size=w.heap.size+1:=by rw[hV1];simp
 have hb1:Below w.heap.size w V1:=by rw[hV1];exact(bzR _ _).alloc (nzR _) _
 have hr1:V1.heap[w.heap.size]?=some (.cells #[.slice q1 n1 c1,.slice q2 n2 c2] 46 (0,0)):=by rw[hV1];exact jA w _
 obtain⟨V,hV⟩:∃V,V=V1.alloc (.cells #[.int .i64 a,.int .i64 b,.int .i64 c,.int .i64 d,.int .i64 p,.int .i64 q,.int .i64 s,.int .i64 t] 32):=⟨_,rfl⟩
 have hs2:V.heap.size=w.heap.size+2:=by rw[hV];simp[hs1]
 have hb2:Below V1.heap.size V1 V:=by rw[hV];exact(bzR _ _).alloc (nzR _) _
 have hr2:V.heap[w.heap.size+1]?=some (.cells #[.int .i64 a,.int .i64 b,.int .i64 c,.int .i64 d,.int .i64 p,.int .i64 q,.int .i64 s,.int .i64 t] 32 (0,0)):=by rw[←hs1,hV];exact jA V1 _
 have hrB:V.heap[w.heap.size]?=some (.cells #[.slice q1 n1 c1,.slice q2 n2 c2] 46 (0,0)):=by rw[hb2.block _ (by omega)];exact hr1
 have hBV:Below w.heap.size w V:=hb1.trans (hb2.mono hb1.size)
 obtain⟨G,hG⟩:∃G,G=w.heap.size:=⟨_,rfl⟩
 obtain⟨Q,hQ⟩:∃Q,Q=w.heap.size+1:=⟨_,rfl⟩
 have HQ:Hid (Q<V.heap.size):=by show _<_;omega
 have HSO:Hid (∀W,Below V.heap.size V W→Below w.heap.size w W∧∀i,W.cell? ⟨Q,i,none⟩=(#[.int .i64 a,.int .i64 b,.int .i64 c,.int .i64 d,.int .i64 p,.int .i64 q,.int .i64 s,.int .i64 t]:Array Value)[i]?):=fun W hW=>
  ⟨hBV.trans (hW.mono hBV.size),fun i=>by have h:=(hW.block (w.heap.size+1) (by omega)).trans hr2;rw[←hQ] at h;simp[World.cell?,h]⟩
 have HX:Hid (∀W,Below V.heap.size V W→LS W (.slice xq xn xc) X):=fun W hW=>hX.below (hBV.trans (hW.mono hBV.size))
 have HGD:Hid (∀l∈X,lchk l=0):=hl
 have HNE:Hid (∀l∈X,l.rests≠[]):=fun l hm=>(zAg (hl l hm)).2.1
 have HLE:Hid (0≤(zAi ⟨a,b,c,d,p,q,s,t⟩ X).1∧(zAi ⟨a,b,c,d,p,q,s,t⟩ X).1≤1200000):=by
  have h:=zDO (o:=⟨a,b,c,d,p,q,s,t⟩) X hl
  exact⟨h.1,by omega⟩
 have HXN:Hid (xn=X.length∧xn≤60):=by
  have h1:=zDB hX
  have h2:=zCQ hl
  exact⟨h1,by omega⟩
 have HFA:Hid (∀W,Calls Tryz.prog 158 #[.agg #[.slice q1 n1 c1,.slice q2 n2 c2],.int .i64 c] W fun e w'=>e=.returned (.slice xq xn xc)∧Below W.heap.size W w'):=fun W=>zIY c q1 q2 xq n1 n2 c1 c2 xn xc W hx
 have HMT:Hid (∀x M W,ord.prB x=true→mB ⟨a,b,c,d,p,q,s,t⟩ x=M→Calls Tryz.prog 136 #[.agg #[.int .i64 a,.int .i64 b,.int .i64 c,.int .i64 d,.int .i64 p,.int .i64 q,.int .i64 s,.int .i64 t],.int .i64 x] W fun e w'=>e=.returned (.tuple #[.bool M,.nilIface])∧Below W.heap.size W w'):=fun x M W hp hm=>by
  have h:=zAx ⟨a,b,c,d,p,q,s,t⟩ x W
  have e:mE ⟨a,b,c,d,p,q,s,t⟩ x=0:=by unfold mE;rw[if_pos hk,hp];rfl
  rw[e,if_pos rfl,hm] at h
  exact h
 obtain⟨QQ,hQQ⟩:∃QQ,(zAi ⟨a,b,c,d,p,q,s,t⟩ X).1=QQ:=⟨_,rfl⟩
 obtain⟨WW,hWW⟩:∃WW,(zAi ⟨a,b,c,d,p,q,s,t⟩ X).2=WW:=⟨_,rfl⟩
 have HAA:Hid ((zAi ⟨a,b,c,d,p,q,s,t⟩ X).1=QQ∧(zAi ⟨a,b,c,d,p,q,s,t⟩ X).2=WW):=⟨hQQ,hWW⟩
 rw[hQQ] at HLE
 rw[hQQ,hWW]
 obtain⟨g0,g1,-⟩:=zAb hrB
 rw[←hG] at g0 g1
 obtain⟨-,cel⟩:=HSO.out V (bzR _ _)
 have u2:=cel 2
 simp only[List.getElem?_toArray,List.getElem?_cons_zero,List.getElem?_cons_succ] at u2
 clear cel hs1 hs2 hb1 hb2 hr1 hr2 hrB hBV hx hX hl h60 hk hQQ hWW
 go_enter Tryz.func141,Tryz.ntmps141
 go_wp2_with fail
 rw[←hV1,←hV]
 simp only[←hQ]
 simp only[←hG]
 clear hV1 hV hG hQ
 refine(HFA.out V).mono ?_
 rintro e w1⟨rfl,b1⟩
 have HB1:=hidS b1
 clear b1 g0 g1 u2
 go_wp2_with fail
 go_loopg [7,9,10,11,12,13,19] xn (fun gg s7 _ _ _ _ _ s19 wr=>∃ (kk:Nat) (acc:Int),kk≤xn∧xn - kk≤gg∧s19=.int .i64 kk∧s7=.int .i64 acc∧Aside (Below V.heap.size V wr∧0≤acc∧acc+(zAi ⟨a,b,c,d,p,q,s,t⟩ (X.drop kk)).1=QQ∧(zAi ⟨a,b,c,d,p,q,s,t⟩ (X.drop kk)).2=WW))
 case atStart=>exact⟨0,0,jL _,by omega,rfl,rfl,HB1.out,jY _,by rw[List.drop_zero,Int.zero_add];exact HAA.out.1,by rw[List.drop_zero];exact HAA.out.2⟩
 case round=>
  obtain⟨kk,acc,hkk,hg,rfl,rfl,HI⟩:=hrel
  have HW:=hidS HI.out.1
  have HA:=hidS HI.out.2
  clear HI
  by_cases hlt:kk<xn
  rotate_left
  ·have hltz:¬(kk:Int)<(xn:Int):=by omega
   have he:acc=QQ∧WW=0:=by
    have h:=HA.out
    rw[List.drop_eq_nil_of_le (by have:=HXN.out.1;omega)] at h
    simp only[zAi] at h
    omega
   obtain⟨rfl,rfl⟩:=he
   have HD:=hidS (HSO.out _ HW.out).1
   clear hg hkk
   go_wp2_with fail
   go_returns
   exact⟨rfl,HD.out⟩
  have hltz:(kk:Int)<(xn:Int):=by omega
  have hlz:kk<X.length:=by rw[←HXN.out.1];exact hlt
  obtain⟨lb,lo,rb,ro,rc,hq,hlb,e0,e1,hrb,hLz,hcp1,hcp2⟩:=ls_atC (HX.out _ HW.out) HNE.out hlz
  have HCP:Hid (X[kk]!.rests.length≤rc∧rc≤9223372036854775807):=⟨hcp1,hcp2⟩
  clear hcp1 hcp2
  subst hq
  have hmem:X[kk]!∈X:=by rw[getE _ _ hlz];exact jT hlz
  have hLC:=HGD.out _ hmem
  have hdr:=zND hlz
  have HA2:Hid (0≤acc∧acc+(zAi ⟨a,b,c,d,p,q,s,t⟩ (X[kk]!::X.drop (kk+1))).1=QQ∧(zAi ⟨a,b,c,d,p,q,s,t⟩ (X[kk]!::X.drop (kk+1))).2=WW):=by rw[←hdr];exact HA.out
  have HNX:Hid (0≤(zAi ⟨a,b,c,d,p,q,s,t⟩ (X.drop (kk+1))).1):=(zDO _ (fun l hm=>HGD.out l (List.mem_of_mem_drop hm))).1
  have HR60:Hid (X[kk]!.rests.length≤60):=((zAl _).1 (zAg hLC).2.2).1
  obtain⟨p0,zs,hLx⟩:∃p0 zs,X[kk]! = (⟨p0,zs⟩:L):=⟨_,_,rfl⟩
  rw[hLx] at e0 e1 hLz hLC HA2 HR60 HCP
  simp only[] at e0 e1 hLz HR60 HCP
  obtain⟨hpp,hzne,hqz⟩:=zAg hLC
  have hPX:ord.prB p0=true:=by simp only[] at hpp;simp[ord.prB,hpp]
  have HLZ:=hidS hLz
  have HQZ:Hid (qchk zs=0):=hqz
  have hin1:¬((kk:Int)<0):=by omega
  have hBa:Below wr.heap.size wr (wr.alloc (.cells #[.int .i64 p0,.slice (some ⟨rb,ro,none⟩) zs.length rc] 52)):=(bzR _ _).alloc (nzR _) _
  have hRL:(wr.alloc (.cells #[.int .i64 p0,.slice (some ⟨rb,ro,none⟩) zs.length rc] 52)).heap[wr.heap.size]?=some (.cells #[.int .i64 p0,.slice (some ⟨rb,ro,none⟩) zs.length rc] 52 (0,0)):=jA wr _
  have HLW:=hidS (show Lies (wr.alloc (.cells #[.int .i64 p0,.slice (some ⟨rb,ro,none⟩) zs.length rc] 52)) rb ro zs∧rb<(wr.alloc (.cells #[.int .i64 p0,.slice (some ⟨rb,ro,none⟩) zs.length rc] 52)).heap.size from⟨hLz.below hrb hBa,jC hrb hBa.size⟩)
  have HWA:=hidS (HW.out.trans (hBa.mono HW.out.size))
  have HKK:Hid (xn - (kk+1)<gk∧kk+1≤xn∧xn - kk≤gk):=⟨by omega,by omega,by omega⟩
  clear hdr hmem hLC hLx HA hBa hLz hrb hzne hqz hpp hkk hg hlb HNE HAA
  go_upto_region 5 with fail
  generalize wr.alloc (.cells #[.int .i64 p0,.slice (some ⟨rb,ro,none⟩) zs.length rc] 52)=W1 at *
  generalize wr.heap.size=LB at *
  obtain⟨l0,l1,-⟩:=zAb hRL
  have hLB:LB<W1.heap.size:=(gzE.1 hRL).1
  obtain⟨-,cel⟩:=HSO.out W1 HWA.out
  have u0:=cel 0
  have u1:=cel 1
  have u2:=cel 2
  have u3:=cel 3
  have u4:=cel 4
  have u5:=cel 5
  have u6:=cel 6
  have u7':=cel 7
  simp only[List.getElem?_toArray,List.getElem?_cons_zero,List.getElem?_cons_succ] at u0 u1 u2 u3 u4 u5 u6 u7'
  clear cel e0 e1 hltz hin1 hlz hlt
  obtain⟨M,hM⟩:∃M,mB ⟨a,b,c,d,p,q,s,t⟩ p0=M:=⟨_,rfl⟩
  have HM:=hidS hM
  have HMC:=hidS (HMT.out p0 M W1 hPX hM)
  clear hM hPX
  go_wp2_with fail
  refine HMC.out.mono ?_
  rintro e w2⟨rfl,b2⟩
  have HW2:=hidS (HWA.out.trans (b2.mono HWA.out.size))
  have l0':=zAa b2 l0
  have l1':=zAa b2 l1
  have v1:=zAa b2 u1
  have HLZ2:=hidS (show Lies w2 rb ro zs∧rb<w2.heap.size from⟨HLW.out.1.below HLW.out.2 b2,jC HLW.out.2 b2.size⟩)
  clear u0 u1 u2 u3 u4 u5 u6 u7' l0 l1 b2 HMC HLW
  cases M
  ·have he:acc=QQ∧WW=0:=by
    have h:=HA2.out
    rw[zDq (l:=⟨p0,zs⟩) HM.out] at h
    simp only[] at h
    omega
   obtain⟨rfl,rfl⟩:=he
   have HD:=hidS (HSO.out _ HW2.out).1
   go_wp2_with fail
   go_returns
   exact⟨rfl,HD.out⟩
  have HIX:=hidS (zKU b Q rb ro rc zs w2 (by have:=HW2.out.size;have:=HQ.out;omega) v1 HLZ2.out.2 (by have:=HR60.out;omega) HLZ2.out.1)
  obtain⟨ix,hix⟩:∃ix,idxW b zs=ix:=⟨_,rfl⟩
  have HII:=hidS hix
  rw[hix] at HIX
  clear hix
  go_wp2_with fail
  refine HIX.out.mono ?_
  rintro e w3⟨rfl,b3⟩
  have HW3:=hidS (HW2.out.trans (b3.mono HW2.out.size))
  have l1x:=zAa b3 l1'
  have HLZ3:=hidS (show Lies w3 rb ro zs∧rb<w3.heap.size from⟨HLZ2.out.1.below HLZ2.out.2 b3,jC HLZ2.out.2 b3.size⟩)
  clear l0' l1' v1 b3 HIX HLZ2
  by_cases hi:0≤ix
  ·obtain⟨i,hii⟩:∃i:Nat,ix=(i:Int):=⟨ix.toNat,by omega⟩
   subst hii
   have hil:i<zs.length:=by have h:=zKA b zs;rw[HII.out] at h;omega
   obtain⟨r,hr⟩:∃r,zs[i]! = r:=⟨_,rfl⟩
   obtain⟨r1,r2,r3,r4,r5⟩:=r
   obtain⟨d0,d1,d2,d3,d4⟩:=zCt HLZ3.out.1 hil hr
   obtain⟨SQ,hSQ⟩:∃SQ,shq (zs.take i)=SQ:=⟨_,rfl⟩
   have he:acc+SQ=QQ∧r1=WW:=by
    have h:=HA2.out
    rw[zCw (l:=⟨p0,zs⟩) HM.out (by simp only[];rw[HII.out];omega)] at h
    simp only[HII.out,Int.toNat_natCast,hr,hSQ] at h
    exact h.2
   have HSH:Hid (∀W,Below w3.heap.size w3 W→Calls Tryz.prog 160 #[.slice (some ⟨rb,ro,none⟩) i rc] W fun e w'=>e=.returned (.int .i64 SQ)∧Below w3.heap.size w3 w'):=fun W hW=>by
    rw[←hSQ]
    refine(zIZ rb ro i rc (zs.take i) W (jC HLZ3.out.2 hW.size) ((HLZ3.out.1.below HLZ3.out.2 hW).take i) (by rw[jJ];omega) (fun x hx=>((zAl _).1 HQZ.out).2.1 x (List.mem_of_mem_take hx)) (by have:=HR60.out;omega)).mono ?_
    rintro e w'⟨rfl,hb⟩
    exact⟨rfl,hW.trans (hb.mono hW.size)⟩
   have E1:Hid (wrap64 (acc+SQ)=QQ):=by
    have h1:=HLE.out
    show _=_
    rw[he.1];unfold wrap64;omega
   obtain⟨-,rfl⟩:=he
   have SO:Hid (∀W,Below w3.heap.size w3 W→(Below w3.heap.size w3 W∧W.cell? ⟨LB,1,none⟩=some (.slice (some ⟨rb,ro,none⟩) zs.length rc)∧W.cell? ⟨rb,ro+i*5,none⟩=some (.int .i64 r1))):=fun W hW=>⟨hW,zAa hW l1x,zAa hW d0⟩
   have HFI:Hid (∀W,Below w3.heap.size w3 W→Below w.heap.size w W):=fun W hW=>(HSO.out W (HW3.out.trans (hW.mono HW3.out.size))).1
   have h60:=HR60.out
   have hi1:¬((i:Int)<0):=by omega
   have hi2:(i:Int)<(zs.length:Int):=by omega
   have hi3:¬(zs.length:Int)≤(i:Int):=by omega
   have hi4:(0:Int)≤(i:Int):=by omega
   have hi5:(i:Int)≤(rc:Int):=by have:=HCP.out.1;omega
   have hi6:¬((rc:Int)<(i:Int)):=by omega
   have x1:=E1.out
   have x1b:IntKind.i64.wrap (acc+SQ)=QQ:=(IntWalk.i64_left _).trans x1
   clear hr hSQ d1 d2 d3 d4 HLZ3 HA2 HNX HII
   generalize zs.length=zl at *
   go_upto_region 11 with fail
   go_region_held3 (fun W=>Below w3.heap.size w3 W∧W.cell? ⟨LB,1,none⟩=some (.slice (some ⟨rb,ro,none⟩) zl rc)∧W.cell? ⟨rb,ro+i*5,none⟩=some (.int .i64 r1))
    ((refine SO.out _ ?_;(with_reducible repeat' (first|assumption|refine balS ?_ _|refine Below.drew ?_|exact bzR _ _|exact nzR _|exact Below.size (by assumption)))))
    (first|(go_at_call 160;with_reducible refine(HSH.out _ ?_).mono ?_;(with_reducible repeat' (first|assumption|refine Below.drew ?_|exact bzR _ _|exact nzR _|exact Below.size (by assumption)));rintro x w4 ⟨rfl,hb4⟩))
   all_goals go_wp2_with fail
   all_goals go_returns
   all_goals exact⟨rfl,HFI.out _ (by with_reducible repeat' (first|assumption|refine Below.drew ?_))⟩
  ·have HTO:Hid (Calls Tryz.prog 161 #[.slice (some ⟨rb,ro,none⟩) zs.length rc] w3 fun e w'=>e=.returned (.tuple #[.int .i64 (tot zs),.nilIface])∧Below w3.heap.size w3 w'):=zIy rb ro rc zs w3 HLZ3.out.2 HCP.out.1 HCP.out.2 HLZ3.out.1 HQZ.out
   obtain⟨TT,hTT⟩:∃TT,tot zs=TT:=⟨_,rfl⟩
   have he:acc+TT+(zAi ⟨a,b,c,d,p,q,s,t⟩ (X.drop (kk+1))).1=QQ∧(zAi ⟨a,b,c,d,p,q,s,t⟩ (X.drop (kk+1))).2=WW∧0≤acc∧0≤TT:=by
    have h:=HA2.out
    rw[zDN (l:=⟨p0,zs⟩) HM.out (by simp only[];rw[HII.out];exact hi)] at h
    simp only[hTT] at h
    have h0:=(zJJ zs ((zAl _).1 HQZ.out).2.1).1
    rw[hTT] at h0
    exact⟨by omega,h.2.2,h.1,h0⟩
   rw[hTT] at HTO
   have HE:=hidS he
   have E1:Hid (wrap64 (acc+TT)=acc+TT):=by
    have h1:=HLE.out
    have h2:=HNX.out
    show _=_
    unfold wrap64;omega
   have E2:Hid (wrap64 ((kk:Int)+1)=((kk+1:Nat):Int)):=by
    have h1:=HXN.out.2
    have h2:=HKK.out
    show _=_
    unfold wrap64;omega
   have hib:¬(0≤ix):=hi
   have HZL:Hid (True):=trivial
   generalize zs.length=zl at *
   clear hTT he HA2 HLZ3
   go_wp2_with fail
   refine HTO.out.mono ?_
   rintro e w4⟨rfl,b4⟩
   have HW4:=hidS (HW3.out.trans (b4.mono HW3.out.size))
   clear b4 HTO l1x
   have x1:=E1.out
   have x2:=E2.out
   go_wp2_with fail
   go_roundg (xn - (kk+1))
   case measure=>exact HKK.out.1
   case rel=>
    exact⟨kk+1,acc+TT,HKK.out.2.1,nzR _,by go_num,by rw[E1.out],HW4.out,by have:=HE.out;omega,HE.out.1,HE.out.2.1⟩
end slf
end Go.Proofs.YtifjhlgjgnnnpaaGreat
