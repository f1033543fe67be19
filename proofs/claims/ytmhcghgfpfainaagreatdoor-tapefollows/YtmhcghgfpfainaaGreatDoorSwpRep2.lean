import Derived.Test.YtmhcghgfpfainaaGreatDoorBokAny
import Derived.Test.YtmhcghgfpfainaaGreatDoorBokCancel
set_option maxHeartbeats 4000000
set_option maxRecDepth 100000
namespace Go.Proofs.YtmhcghgfpfainaaGreatDoor
open Tryz
namespace swp
open Go.RowKit spn que sid bok
open tickP (errB zAn zAU)
theorem zFS{w:World}{B:Nat}{y0 y1 y2 y3 y4 y5 y6:Value}{t:TypeId}(h:w.heap[B]?=some (.cells #[y0,y1,y2,y3,y4,y5,y6] t (0,0)))(x0 x1 x2 x3 x4 x5 x6:Value) :
  (((((((w.setCell ⟨B,0,none⟩ x0).setCell ⟨B,1,none⟩ x1).setCell ⟨B,2,none⟩ x2).setCell ⟨B,3,none⟩ x3).setCell ⟨B,4,none⟩ x4).setCell ⟨B,5,none⟩ x5).setCell ⟨B,6,none⟩ x6).heap[B]?=some (.cells #[x0,x1,x2,x3,x4,x5,x6] t (0,0)):=by
 have h0:=jB _ B 0 _ _ x0 h;simp only[List.setIfInBounds_toArray,List.set_cons_zero] at h0;have h1:=jB _ B 1 _ _ x1 h0;simp only[List.setIfInBounds_toArray,List.set_cons_zero,List.set_cons_succ] at h1;have h2:=jB _ B 2 _ _ x2 h1;simp only[List.setIfInBounds_toArray,List.set_cons_zero,List.set_cons_succ] at h2;have h3:=jB _ B 3 _ _ x3 h2;simp only[List.setIfInBounds_toArray,List.set_cons_zero,List.set_cons_succ] at h3;have h4:=jB _ B 4 _ _ x4 h3;simp only[List.setIfInBounds_toArray,List.set_cons_zero,List.set_cons_succ] at h4;have h5:=jB _ B 5 _ _ x5 h4;simp only[List.setIfInBounds_toArray,List.set_cons_zero,List.set_cons_succ] at h5;have h6:=jB _ B 6 _ _ x6 h5;simp only[List.setIfInBounds_toArray,List.set_cons_zero,List.set_cons_succ] at h6;exact h6
theorem zBO{w:World}{B:Nat}{x0 x1 x2 x3 x4 x5 x6:Value}{t:TypeId}(h:w.heap[B]?=some (.cells #[x0,x1,x2,x3,x4,x5,x6] t (0,0))) :
  w.cell? ⟨B,0,none⟩=some x0∧w.cell? ⟨B,1,none⟩=some x1∧w.cell? ⟨B,2,none⟩=some x2∧w.cell? ⟨B,3,none⟩=some x3∧w.cell? ⟨B,4,none⟩=some x4∧w.cell? ⟨B,5,none⟩=some x5∧w.cell? ⟨B,6,none⟩=some x6∧∀j,w.frozen? ⟨B,j,none⟩=false:=
 ⟨by simp[World.cell?,h],by simp[World.cell?,h],by simp[World.cell?,h],by simp[World.cell?,h],by simp[World.cell?,h],by simp[World.cell?,h],by simp[World.cell?,h],fun j=>frozen_of_row w _ j _ _ h⟩
theorem zHY(w:World)(B:Nat)(x0 x1 x2 x3 x4 x5 x6:Value):w.grownBy (((((((w.setCell ⟨B,0,none⟩ x0).setCell ⟨B,1,none⟩ x1).setCell ⟨B,2,none⟩ x2).setCell ⟨B,3,none⟩ x3).setCell ⟨B,4,none⟩ x4).setCell ⟨B,5,none⟩ x5).setCell ⟨B,6,none⟩ x6) (some B):=
 wAe (wAe (wAe (wAe (wAe (wAe (wAc _ _ _ _) (wAc _ _ _ _)) (wAc _ _ _ _)) (wAc _ _ _ _)) (wAc _ _ _ _)) (wAc _ _ _ _)) (wAc _ _ _ _)
def At(bs ss:List L)(id s p:Int)(r:R)(i k:Nat):Prop:=∃ls,∃h:Spot bs ss id s ls i k,(ls[i]'h.hi).price=p∧(ls[i]'h.hi).rests[k]'h.hk=r
theorem at_of{bs ss:List L}{id:Int}(h0:zAc bs ss=0)(Ht:zAf bs ss id=true):∃s p r i k,At bs ss id s p r i k:=by
 obtain⟨s,ls,i,k,h⟩:=zRj h0 Ht;exact⟨s,_,_,i,k,ls,h,rfl,rfl⟩
theorem At.book{bs ss:List L}{id s p:Int}{r:R}{i k:Nat}(h:At bs ss id s p r i k):zAc bs ss=0:=by obtain⟨ls,h,-⟩:=h;exact h.h0
theorem At.id{bs ss:List L}{id s p:Int}{r:R}{i k:Nat}(h:At bs ss id s p r i k):r.id=id:=by obtain⟨ls,h,-,rfl⟩:=h;exact h.hr
theorem At.rest{bs ss:List L}{id s p:Int}{r:R}{i k:Nat}(h:At bs ss id s p r i k):rchk r=0:=by obtain⟨ls,h,-,rfl⟩:=h;exact h.rest
theorem At.side{bs ss:List L}{id s p:Int}{r:R}{i k:Nat}(h:At bs ss id s p r i k):s=1∨s=2:=by
 obtain⟨ls,h,-⟩:=h;rcases h.side with h|h
 ·exact .inl h.1
 ·exact .inr h.1
theorem At.keep{bs ss:List L}{id s p:Int}{r r' : R}{i k:Nat}(h:At bs ss id s p r i k)(hid:r'.id=id)(hr:rchk r'=0):At (kB s bs i k r') (kS s ss i k r') id s p r' i k:=by
 obtain⟨ls,h,rfl,-⟩:=h;refine⟨_,h.keep hid hr,?_,?_⟩
 ·rw[zHX h.hi]
 ·simp only[zHX h.hi,List.getElem_set_self]
theorem zBD(q1 q2:Option Addr)(n1 n2 c1 c2:Nat)(bs ss:List L)(id s p r1 r2 r3 r4 r5:Int)(i k:Nat)(w:World)(h1:LS w (.slice q1 n1 c1) bs)(h2:LS w (.slice q2 n2 c2) ss)(hA:At bs ss id s p ⟨r1,r2,r3,r4,r5⟩ i k) :
  Calls prog 13 #[.agg #[.slice q1 n1 c1,.slice q2 n2 c2],.int .i64 id] w fun e w'=>e=.returned (.tuple #[.int .i64 s,.int .i64 p,.agg #[.int .i64 r1,.int .i64 r2,.int .i64 r3,.int .i64 r4,.int .i64 r5],.nilIface])∧Bw w w':=by
 obtain⟨ls,h,hp,hr⟩:=hA;have hi:=h.hi;have hk:=h.hk;have hw:=h.wf;rcases h.side with ⟨rfl,rfl,f1,f2⟩|⟨rfl,rfl,f0,f1,f2⟩
 ·have:=zFG q1 q2 n1 n2 c1 c2 ls ss id hw i k w h1 h2 h.h0 hi hk (by unfold zBi;rw[f2,f1,wAa])
  rw[hp,hr] at this;exact this
 ·have:=zFH q1 q2 n1 n2 c1 c2 bs ls id hw i k w h1 h2 h.h0 f0 hi hk (by unfold zBi;rw[f2,f1,wAa])
  rw[hp,hr] at this;exact this
theorem zKg(q1 q2:Option Addr)(n1 n2 c1 c2:Nat)(bs ss:List L)(id s p r1 r2 r3 r4 r5:Int)(i k:Nat)(w:World)(h1:LS w (.slice q1 n1 c1) bs)(h2:LS w (.slice q2 n2 c2) ss)(hA:At bs ss id s p ⟨r1,r2,r3,r4,r5⟩ i k) :
  Calls prog 118 #[.agg #[.slice q1 n1 c1,.slice q2 n2 c2],.int .i64 id] w fun e w'=>∃u1 u2 m1 m2 d1 d2,e=.returned (.tuple #[.agg #[.slice u1 m1 d1,.slice u2 m2 d2],.agg #[.int .i64 r1,.int .i64 r2,.int .i64 r3,.int .i64 r4,.int .i64 r5],.nilIface])∧DL w' w.heap.size (.slice u1 m1 d1) (cB s bs i k)∧DL w' w.heap.size (.slice u2 m2 d2) (cS s ss i k)∧Bw w w':=by
 obtain⟨ls,h,hp,hr⟩:=hA;have hi:=h.hi;have hk:=h.hk;have hw:=h.wf;unfold cB cS;rcases h.side with ⟨rfl,rfl,f1,f2⟩|⟨rfl,rfl,f0,f1,f2⟩
 ·have:=zEq q1 q2 n1 n2 c1 c2 ls ss id hw i k w h1 h2 h.h0 hi hk f1 f2;rw[hr] at this;rw[if_pos rfl,if_pos rfl];exact this
 ·have:=zEr q1 q2 n1 n2 c1 c2 bs ls id hw i k w h1 h2 h.h0 f0 hi hk f1 f2;rw[hr] at this;rw[if_neg (by decide),if_neg (by decide)]
  exact this
theorem zGX(q1 q2:Option Addr)(n1 n2 c1 c2:Nat)(id price K:Int)(w:World)(Ut:∀W,Below w.heap.size w W→Calls prog 13 #[.agg #[.slice q1 n1 c1,.slice q2 n2 c2],.int .i64 id] W fun e w'=>e=.returned (.tuple #[.int .i64 0,.int .i64 0,.agg #[.int .i64 0,.int .i64 0,.int .i64 0,.int .i64 0,.int .i64 0],.iface 80 (.int .i64 K)])∧Below W.heap.size W w') :
  Calls prog 121 #[.agg #[.slice q1 n1 c1,.slice q2 n2 c2],.int .i64 id,.int .i64 price] w fun e w'=>e=.returned (.tuple #[.agg #[.int .i64 0,.int .i64 0,.int .i64 0,.int .i64 0,.int .i64 0,.int .i64 0,.int .i64 0],.iface 80 (.int .i64 K)])∧Below w.heap.size w w':=by
 obtain⟨V,hV⟩:∃V,V=(w.alloc (.cells #[.slice q1 n1 c1,.slice q2 n2 c2] 50)).alloc (.cells #[.int .i64 0,.int .i64 0,.int .i64 0,.int .i64 0,.int .i64 0,.int .i64 0,.int .i64 0] 205):=⟨_,rfl⟩;have HB:Hid (Below w.heap.size w V):=by rw[hV];exact((bzR _ _).alloc (nzR _) _).alloc (by simp) _
 have hR:V.heap[w.heap.size+1]?=some (.cells #[.int .i64 0,.int .i64 0,.int .i64 0,.int .i64 0,.int .i64 0,.int .i64 0,.int .i64 0] 205 (0,0)):=by
  rw[hV];have:=jA (w.alloc (.cells #[.slice q1 n1 c1,.slice q2 n2 c2] 50)) (.cells #[.int .i64 0,.int .i64 0,.int .i64 0,.int .i64 0,.int .i64 0,.int .i64 0,.int .i64 0] 205);simpa using this
 obtain⟨P,hP⟩:∃P,P=w.heap.size+1:=⟨_,rfl⟩;rw[←hP] at hR;have HP:Hid (w.heap.size≤P):=by show _≤_;omega
 have gp:P<V.heap.size:=(gzE.1 hR).1;have Bp:=hidW (Ut V HB.out);clear Ut;go_enter func121,ntmps121;go_wp2_with fail;rw[←hV];simp only[←hP];clear hV hP;refine Bp.out.mono ?_;rintro x w1⟨rfl,b1⟩;have Hu:Below w1.heap.size w1 (w1.alloc (.cells #[.int .i64 0,.int .i64 0,.int .i64 0,.int .i64 0,.int .i64 0] 54)):=(bzR _ _).alloc (nzR _) _;have Hc:=b1.trans (Hu.mono b1.size);have Hg:=hidW (HB.out.trans (Hc.mono HB.out.size));have gv:=(Hc.block P gp).trans hR;clear Bp hR b1 Hu Hc;go_upto_if 22 with fail
 generalize w1.alloc (.cells #[.int .i64 0,.int .i64 0,.int .i64 0,.int .i64 0,.int .i64 0] 54)=W2 at *;generalize w1.heap.size=R0 at *;obtain⟨z0,z1,z2,z3,z4,z5,z6,zf⟩:=zBO gv;have f0:=zf 0;have f1:=zf 1;have f2:=zf 2;have f3:=zf 3;have f4:=zf 4;have f5:=zf 5;have f6:=zf 6;have Hy:=hidW (zFS gv (.int .i64 0) (.int .i64 0) (.int .i64 0) (.int .i64 0) (.int .i64 0) (.int .i64 0) (.int .i64 0));have Hw:=zHY W2 P (.int .i64 0) (.int .i64 0) (.int .i64 0) (.int .i64 0) (.int .i64 0) (.int .i64 0) (.int .i64 0);have Gh:=hidW (Hg.out.grown Hw Hg.out.size (fun k hk=>by cases hk;exact HP.out))
 clear zf Hw gv;go_wp2_with fail;generalize (((((((W2.setCell ⟨P,0,none⟩ (.int .i64 0)).setCell ⟨P,1,none⟩ (.int .i64 0)).setCell ⟨P,2,none⟩ (.int .i64 0)).setCell ⟨P,3,none⟩ (.int .i64 0)).setCell ⟨P,4,none⟩ (.int .i64 0)).setCell ⟨P,5,none⟩ (.int .i64 0)).setCell ⟨P,6,none⟩ (.int .i64 0))=X at *;obtain⟨y0,y1,y2,y3,y4,y5,y6,-⟩:=zBO Hy.out;exact jN (v:=.tuple #[.agg #[.int .i64 0,.int .i64 0,.int .i64 0,.int .i64 0,.int .i64 0,.int .i64 0,.int .i64 0],.iface 80 (.int .i64 K)]) (by simp[results,results121,go_sem,y0,y1,y2,y3,y4,y5,y6]) rfl ⟨rfl,Gh.out⟩
theorem zFT(q1 q2:Option Addr)(n1 n2 c1 c2:Nat)(bs ss:List L)(id s p r1 r2 r3 r4 r5 price:Int)(i k:Nat)(w:World)(h1:LS w (.slice q1 n1 c1) bs)(h2:LS w (.slice q2 n2 c2) ss)(hA:At bs ss id s p ⟨r1,r2,r3,r4,r5⟩ i k)(ur:zAn price=true) :
  Calls prog 121 #[.agg #[.slice q1 n1 c1,.slice q2 n2 c2],.int .i64 id,.int .i64 price] w fun e w'=>e=.returned (.tuple #[.agg #[.int .i64 s,.int .i64 p,.int .i64 r1,.int .i64 r2,.int .i64 r3,.int .i64 r4,.int .i64 r5],.nilIface])∧Below w.heap.size w w':=by
 obtain⟨V,hV⟩:∃V,V=(w.alloc (.cells #[.slice q1 n1 c1,.slice q2 n2 c2] 50)).alloc (.cells #[.int .i64 0,.int .i64 0,.int .i64 0,.int .i64 0,.int .i64 0,.int .i64 0,.int .i64 0] 205):=⟨_,rfl⟩;have HB:Hid (Below w.heap.size w V):=by rw[hV];exact((bzR _ _).alloc (nzR _) _).alloc (by simp) _
 have hR:V.heap[w.heap.size+1]?=some (.cells #[.int .i64 0,.int .i64 0,.int .i64 0,.int .i64 0,.int .i64 0,.int .i64 0,.int .i64 0] 205 (0,0)):=by
  rw[hV];have:=jA (w.alloc (.cells #[.slice q1 n1 c1,.slice q2 n2 c2] 50)) (.cells #[.int .i64 0,.int .i64 0,.int .i64 0,.int .i64 0,.int .i64 0,.int .i64 0,.int .i64 0] 205);simpa using this
 obtain⟨P,hP⟩:∃P,P=w.heap.size+1:=⟨_,rfl⟩;rw[←hP] at hR;have HP:Hid (w.heap.size≤P):=by show _≤_;omega
 have gp:P<V.heap.size:=(gzE.1 hR).1;have Bp:=hidW (zBD q1 q2 n1 n2 c1 c2 bs ss id s p r1 r2 r3 r4 r5 i k V (h1.below HB.out) (h2.below HB.out) hA);clear hA h1 h2;go_enter func121,ntmps121;go_wp2_with fail;rw[←hV];simp only[←hP];clear hV hP;refine Bp.out.mono ?_;rintro x w1⟨rfl,b1⟩;have Hu:Below w1.heap.size w1 (w1.alloc (.cells #[.int .i64 r1,.int .i64 r2,.int .i64 r3,.int .i64 r4,.int .i64 r5] 54)):=(bzR _ _).alloc (nzR _) _;have dv:(w1.alloc (.cells #[.int .i64 r1,.int .i64 r2,.int .i64 r3,.int .i64 r4,.int .i64 r5] 54)).heap[w1.heap.size]?=some (.cells #[.int .i64 r1,.int .i64 r2,.int .i64 r3,.int .i64 r4,.int .i64 r5] 54 (0,0)):=jA w1 _;have Hc:=b1.trans (Hu.mono b1.size);have Hg:=hidW (HB.out.trans (Hc.mono HB.out.size));have gv:=(Hc.block P gp).trans hR;clear Bp hR b1 Hu Hc;go_upto_if 22 with fail
 generalize w1.alloc (.cells #[.int .i64 r1,.int .i64 r2,.int .i64 r3,.int .i64 r4,.int .i64 r5] 54)=W2 at *;generalize w1.heap.size=R0 at *;have Cl:=hidW (zAU W2 price W2 (bzR _ _));rw[ur,show errB true=Value.nilIface from rfl] at Cl
 clear ur;go_wp2_with fail;refine Cl.out.mono ?_;rintro x w3⟨rfl,b3⟩;have HU:=hidW (Hg.out.trans (b3.mono Hg.out.size));have Ga:=(b3.block P (gzE.1 gv).1).trans gv;have Ea:=(b3.block R0 (gzE.1 dv).1).trans dv;obtain⟨r0',r1',r2',r3',r4',-⟩:=zAi Ea;clear b3 Cl Hg gv dv Ea;obtain⟨z0,z1,z2,z3,z4,z5,z6,zf⟩:=zBO Ga;have f0:=zf 0;have f1:=zf 1;have f2:=zf 2;have f3:=zf 3;have f4:=zf 4;have f5:=zf 5;have f6:=zf 6;have Hy:=hidW (zFS Ga (.int .i64 s) (.int .i64 p) (.int .i64 r1) (.int .i64 r2) (.int .i64 r3) (.int .i64 r4) (.int .i64 r5));have Hw:=zHY w3 P (.int .i64 s) (.int .i64 p) (.int .i64 r1) (.int .i64 r2) (.int .i64 r3) (.int .i64 r4) (.int .i64 r5);have Gh:=hidW (HU.out.grown Hw HU.out.size (fun k hk=>by cases hk;exact HP.out))
 clear zf Hw Ga;go_wp2_with fail;generalize (((((((w3.setCell ⟨P,0,none⟩ (.int .i64 s)).setCell ⟨P,1,none⟩ (.int .i64 p)).setCell ⟨P,2,none⟩ (.int .i64 r1)).setCell ⟨P,3,none⟩ (.int .i64 r2)).setCell ⟨P,4,none⟩ (.int .i64 r3)).setCell ⟨P,5,none⟩ (.int .i64 r4)).setCell ⟨P,6,none⟩ (.int .i64 r5))=X at *;obtain⟨y0,y1,y2,y3,y4,y5,y6,-⟩:=zBO Hy.out;exact jN (v:=.tuple #[.agg #[.int .i64 s,.int .i64 p,.int .i64 r1,.int .i64 r2,.int .i64 r3,.int .i64 r4,.int .i64 r5],.nilIface]) (by simp[results,results121,go_sem,y0,y1,y2,y3,y4,y5,y6]) rfl ⟨rfl,Gh.out⟩
theorem zPb(q1 q2:Option Addr)(n1 n2 c1 c2:Nat)(bs ss:List L)(id s p r1 r2 r3 r4 r5 price:Int)(i k:Nat)(w:World)(h1:LS w (.slice q1 n1 c1) bs)(h2:LS w (.slice q2 n2 c2) ss)(hA:At bs ss id s p ⟨r1,r2,r3,r4,r5⟩ i k)(ur:zAn price=false) :
  Calls prog 121 #[.agg #[.slice q1 n1 c1,.slice q2 n2 c2],.int .i64 id,.int .i64 price] w fun e w'=>e=.returned (.tuple #[.agg #[.int .i64 0,.int .i64 0,.int .i64 0,.int .i64 0,.int .i64 0,.int .i64 0,.int .i64 0],.iface 80 (.int .i64 1)])∧Below w.heap.size w w':=by
 obtain⟨V,hV⟩:∃V,V=(w.alloc (.cells #[.slice q1 n1 c1,.slice q2 n2 c2] 50)).alloc (.cells #[.int .i64 0,.int .i64 0,.int .i64 0,.int .i64 0,.int .i64 0,.int .i64 0,.int .i64 0] 205):=⟨_,rfl⟩;have HB:Hid (Below w.heap.size w V):=by rw[hV];exact((bzR _ _).alloc (nzR _) _).alloc (by simp) _
 have hR:V.heap[w.heap.size+1]?=some (.cells #[.int .i64 0,.int .i64 0,.int .i64 0,.int .i64 0,.int .i64 0,.int .i64 0,.int .i64 0] 205 (0,0)):=by
  rw[hV];have:=jA (w.alloc (.cells #[.slice q1 n1 c1,.slice q2 n2 c2] 50)) (.cells #[.int .i64 0,.int .i64 0,.int .i64 0,.int .i64 0,.int .i64 0,.int .i64 0,.int .i64 0] 205);simpa using this
 obtain⟨P,hP⟩:∃P,P=w.heap.size+1:=⟨_,rfl⟩;rw[←hP] at hR;have HP:Hid (w.heap.size≤P):=by show _≤_;omega
 have gp:P<V.heap.size:=(gzE.1 hR).1;have Bp:=hidW (zBD q1 q2 n1 n2 c1 c2 bs ss id s p r1 r2 r3 r4 r5 i k V (h1.below HB.out) (h2.below HB.out) hA);clear hA h1 h2;go_enter func121,ntmps121;go_wp2_with fail;rw[←hV];simp only[←hP];clear hV hP;refine Bp.out.mono ?_;rintro x w1⟨rfl,b1⟩;have Hu:Below w1.heap.size w1 (w1.alloc (.cells #[.int .i64 r1,.int .i64 r2,.int .i64 r3,.int .i64 r4,.int .i64 r5] 54)):=(bzR _ _).alloc (nzR _) _;have Hc:=b1.trans (Hu.mono b1.size);have Hg:=hidW (HB.out.trans (Hc.mono HB.out.size));have gv:=(Hc.block P gp).trans hR;clear Bp hR b1 Hu Hc;go_upto_if 22 with fail
 generalize w1.alloc (.cells #[.int .i64 r1,.int .i64 r2,.int .i64 r3,.int .i64 r4,.int .i64 r5] 54)=W2 at *;generalize w1.heap.size=R0 at *;have Cl:=hidW (zAU W2 price W2 (bzR _ _));rw[ur,show errB false=Value.iface 80 (.int .i64 1) from rfl] at Cl
 clear ur;go_wp2_with fail;refine Cl.out.mono ?_;rintro x w3⟨rfl,b3⟩;have HU:=hidW (Hg.out.trans (b3.mono Hg.out.size));have Ga:=(b3.block P (gzE.1 gv).1).trans gv;clear b3 Cl Hg gv;obtain⟨z0,z1,z2,z3,z4,z5,z6,zf⟩:=zBO Ga;have f0:=zf 0;have f1:=zf 1;have f2:=zf 2;have f3:=zf 3;have f4:=zf 4;have f5:=zf 5;have f6:=zf 6;have Hy:=hidW (zFS Ga (.int .i64 0) (.int .i64 0) (.int .i64 0) (.int .i64 0) (.int .i64 0) (.int .i64 0) (.int .i64 0));have Hw:=zHY w3 P (.int .i64 0) (.int .i64 0) (.int .i64 0) (.int .i64 0) (.int .i64 0) (.int .i64 0) (.int .i64 0);have Gh:=hidW (HU.out.grown Hw HU.out.size (fun k hk=>by cases hk;exact HP.out))
 clear zf Hw Ga;go_wp2_with fail;generalize (((((((w3.setCell ⟨P,0,none⟩ (.int .i64 0)).setCell ⟨P,1,none⟩ (.int .i64 0)).setCell ⟨P,2,none⟩ (.int .i64 0)).setCell ⟨P,3,none⟩ (.int .i64 0)).setCell ⟨P,4,none⟩ (.int .i64 0)).setCell ⟨P,5,none⟩ (.int .i64 0)).setCell ⟨P,6,none⟩ (.int .i64 0))=X at *;obtain⟨y0,y1,y2,y3,y4,y5,y6,-⟩:=zBO Hy.out;exact jN (v:=.tuple #[.agg #[.int .i64 0,.int .i64 0,.int .i64 0,.int .i64 0,.int .i64 0,.int .i64 0,.int .i64 0],.iface 80 (.int .i64 1)]) (by simp[results,results121,go_sem,y0,y1,y2,y3,y4,y5,y6]) rfl ⟨rfl,Gh.out⟩
def fE(bs ss:List L)(id price:Int):Int:=if zAc bs ss=0 then (if zAf bs ss id=true then (if zAn price=true then 0 else 1) else 5) else zAc bs ss
theorem zFU{bs ss:List L}{id price:Int}(h:fE bs ss id price=0):zAc bs ss=0∧zAf bs ss id=true∧zAn price=true:=by
 unfold fE at h;by_cases h0:zAc bs ss=0
 ·rw[if_pos h0] at h;by_cases h1:zAf bs ss id=true
  ·rw[if_pos h1] at h;by_cases h2:zAn price=true
   ·exact⟨h0,h1,h2⟩
   ·rw[if_neg h2] at h;omega
  ·rw[if_neg h1] at h;omega
 ·rw[if_neg h0] at h;exact absurd h h0
theorem zGY(q1 q2:Option Addr)(n1 n2 c1 c2:Nat)(bs ss:List L)(id price:Int)(hid:(Lit.int .i64 id).wf=true)(w:World)(h1:LS w (.slice q1 n1 c1) bs)(h2:LS w (.slice q2 n2 c2) ss)(hE:¬fE bs ss id price=0) :
  Calls prog 121 #[.agg #[.slice q1 n1 c1,.slice q2 n2 c2],.int .i64 id,.int .i64 price] w fun e w'=>e=.returned (.tuple #[.agg #[.int .i64 0,.int .i64 0,.int .i64 0,.int .i64 0,.int .i64 0,.int .i64 0,.int .i64 0],.iface 80 (.int .i64 (fE bs ss id price))])∧Bw w w':=by
 unfold fE at hE ⊢;by_cases h0:zAc bs ss=0
 ·rw[if_pos h0] at hE ⊢;by_cases Ht:zAf bs ss id=true
  ·rw[if_pos Ht] at hE ⊢;by_cases hp:zAn price=true
   ·rw[if_pos hp] at hE;exact absurd rfl hE
   ·rw[if_neg hp];obtain⟨s,p,⟨r1,r2,r3,r4,r5⟩,i,k,hA⟩:=at_of h0 Ht;exact zPb q1 q2 n1 n2 c1 c2 bs ss id s p r1 r2 r3 r4 r5 price i k w h1 h2 hA (by simpa using hp)
  ·rw[if_neg Ht];obtain⟨e1,e2,-⟩:=zAe h0;have hn:¬id∈ids bs∧¬id∈ids ss:=by unfold zAf at Ht;simpa using Ht
   exact zGX q1 q2 n1 n2 c1 c2 id price 5 w (fun W hW=>zHT q1 q2 n1 n2 c1 c2 bs ss id hid W (h1.below hW) (h2.below hW) h0 (zBf e1 hn.1) (zBf e2 hn.2))
 ·rw[if_neg h0];exact zGX q1 q2 n1 n2 c1 c2 id price _ w (fun W hW=>bok.wBa q1 q2 n1 n2 c1 c2 bs ss id W (h1.below hW) (h2.below hW) h0)
def zDt(p:Int)(r:R)(price qty:Int):Bool:=decide (price=p) && decide (qty≤r.qty+r.hid)
theorem zFk(s p r1 r2 r3 r4 r5 price qty:Int)(w:World)(hr:rchk ⟨r1,r2,r3,r4,r5⟩=0) :
  Calls prog 122 #[.agg #[.int .i64 s,.int .i64 p,.int .i64 r1,.int .i64 r2,.int .i64 r3,.int .i64 r4,.int .i64 r5],.int .i64 price,.int .i64 qty] w fun e w'=>e=.returned (.bool (zDt p ⟨r1,r2,r3,r4,r5⟩ price qty))∧Bw w w':=by
 have hs:wrap64 (r3+r4)=r3+r4:=by
  obtain⟨a,b,-⟩:=zAp hr;simp only[] at a b;unfold wrap64;omega
 unfold zDt;clear hr;show Calls _ _ _ _ fun e w'=>e=.returned (.bool (decide (price=p) && decide (qty≤r3+r4)))∧Bw w w'
 have hB:Bw w (w.alloc (.cells #[.int .i64 s,.int .i64 p,.int .i64 r1,.int .i64 r2,.int .i64 r3,.int .i64 r4,.int .i64 r5] 205)):=(bzR _ _).alloc (nzR _) _;by_cases hp:price=p
 ·subst hp;have he:(price == price)=true:=by simp
  go_enter func122,ntmps122
  go_wp2
  go_ret;exact⟨by simp,hB⟩
 ·have he:(price == p)=false:=by simp[hp]
  go_enter func122,ntmps122
  go_wp2
  go_ret;exact⟨by simp[hp],hB⟩
theorem zPc(r1 r2 r3 r4 r5 qty:Int)(w:World)(hr:1≤r3∧r3≤10000)(hq:1≤qty∧qty≤10000) :
  Calls prog 157 #[.agg #[.int .i64 r1,.int .i64 r2,.int .i64 r3,.int .i64 r4,.int .i64 r5],.int .i64 qty] w fun e w'=>e=.returned (.agg #[.int .i64 r1,.int .i64 r2,.int .i64 (min r3 qty),.int .i64 (qty - min r3 qty),.int .i64 r5])∧Bw w w':=by
 have hs:wrap64 (qty - min r3 qty)=qty - min r3 qty:=by unfold wrap64;omega
 have hB:Bw w ((w.alloc (.cells #[.int .i64 r1,.int .i64 r2,.int .i64 (min r3 qty),.int .i64 (qty - min r3 qty),.int .i64 r5] 54)).alloc (.cells #[.int .i64 r1,.int .i64 r2,.int .i64 (min r3 qty),.int .i64 (qty - min r3 qty),.int .i64 r5] 54)):=((bzR _ _).alloc (nzR _) _).alloc (by simp) _
 clear hr hq;go_enter func157,ntmps157
 go_wp2
 go_returns
 exact⟨rfl,hB⟩
theorem zPd(s r1 r2 r3 r4 r5 price qty:Int)(w:World) :
  Calls prog 75 #[.agg #[.int .i64 r1,.int .i64 r2,.int .i64 r3,.int .i64 r4,.int .i64 r5],.int .i64 s,.int .i64 price,.int .i64 qty] w fun e w'=>e=.returned (.agg #[.int .i64 r1,.int .i64 r2,.int .i64 s,.int .i64 1,.int .i64 price,.int .i64 qty,.int .i64 (min r5 qty),.int .i64 0])∧Bw w w':=by
 have hB:Bw w ((w.alloc (.cells #[.int .i64 r1,.int .i64 r2,.int .i64 r3,.int .i64 r4,.int .i64 r5] 54)).alloc (.cells #[.int .i64 r1,.int .i64 r2,.int .i64 s,.int .i64 1,.int .i64 price,.int .i64 qty,.int .i64 (min r5 qty),.int .i64 0] 40)):=((bzR _ _).alloc (nzR _) _).alloc (by simp) _
 go_enter func75,ntmps75
 go_wp2
 go_returns
 exact⟨rfl,hB⟩
theorem zMn(q1 q2:Option Addr)(n1 n2 c1 c2:Nat)(bs ss:List L)(id price qty:Int)(hid:(Lit.int .i64 id).wf=true)(w:World)(h1:LS w (.slice q1 n1 c1) bs)(h2:LS w (.slice q2 n2 c2) ss)(hE:¬fE bs ss id price=0) :
  Calls prog 73 #[.agg #[.slice q1 n1 c1,.slice q2 n2 c2],.int .i64 id,.int .i64 price,.int .i64 qty] w fun e w'=>e=.returned (.tuple #[.bool false,.iface 80 (.int .i64 (fE bs ss id price))])∧Bw w w':=by
 obtain⟨V,hV⟩:∃V,V=w.alloc (.cells #[.slice q1 n1 c1,.slice q2 n2 c2] 50):=⟨_,rfl⟩;have HB:Hid (Bw w V):=by rw[hV];exact(bzR _ _).alloc (nzR _) _
 have HF:=hidW (zGY q1 q2 n1 n2 c1 c2 bs ss id price hid V (h1.below HB.out) (h2.below HB.out) hE);clear h1 h2 hid hE;generalize fE bs ss id price=K at *;go_enter func73,ntmps73;go_wp2_with fail;rw[←hV];clear hV;refine HF.out.mono ?_;rintro x w1⟨rfl,b1⟩;have Ha:=HB.out.trans (b1.mono HB.out.size);have HD:=hidW (Ha.alloc Ha.size (.cells #[.int .i64 0,.int .i64 0,.int .i64 0,.int .i64 0,.int .i64 0,.int .i64 0,.int .i64 0] 205));clear HF b1 Ha;go_wp2_with fail
 go_ret2
 exact⟨rfl,HD.out⟩
theorem zIT(q1 q2:Option Addr)(n1 n2 c1 c2:Nat)(bs ss:List L)(id s p r1 r2 r3 r4 r5 price qty:Int)(i k:Nat)(w:World)(h1:LS w (.slice q1 n1 c1) bs)(h2:LS w (.slice q2 n2 c2) ss)(hA:At bs ss id s p ⟨r1,r2,r3,r4,r5⟩ i k)(ur:zAn price=true) :
  Calls prog 73 #[.agg #[.slice q1 n1 c1,.slice q2 n2 c2],.int .i64 id,.int .i64 price,.int .i64 qty] w fun e w'=>e=.returned (.tuple #[.bool (zDt p ⟨r1,r2,r3,r4,r5⟩ price qty),.nilIface])∧Bw w w':=by
 obtain⟨V,hV⟩:∃V,V=w.alloc (.cells #[.slice q1 n1 c1,.slice q2 n2 c2] 50):=⟨_,rfl⟩;have HB:Hid (Bw w V):=by rw[hV];exact(bzR _ _).alloc (nzR _) _
 have HF:=hidW (zFT q1 q2 n1 n2 c1 c2 bs ss id s p r1 r2 r3 r4 r5 price i k V (h1.below HB.out) (h2.below HB.out) hA ur);have HK:=hidW (fun W=>zFk s p r1 r2 r3 r4 r5 price qty W hA.rest)
 clear h1 h2 hA ur;generalize zDt p ⟨r1,r2,r3,r4,r5⟩ price qty=K at *;go_enter func73,ntmps73;go_wp2_with fail;rw[←hV];clear hV;refine HF.out.mono ?_;rintro x w1⟨rfl,b1⟩;have Ha:=HB.out.trans (b1.mono HB.out.size);have HD:=hidW (Ha.alloc Ha.size (.cells #[.int .i64 s,.int .i64 p,.int .i64 r1,.int .i64 r2,.int .i64 r3,.int .i64 r4,.int .i64 r5] 205));clear HF b1 Ha;go_wp2_with fail;refine(HK.out _).mono ?_;rintro x w2⟨rfl,b2⟩;have uu:=hidW (HD.out.trans (b2.mono HD.out.size));clear b2 HK HD;go_wp2_with fail
 go_ret2
 exact⟨rfl,uu.out⟩
end swp
namespace swp
open Go.RowKit spn que sid bok
def upL(r' : R)(l:L):L:=⟨l.price,upR r' l.rests⟩
theorem zRk{id:Int}{c d:List R}{r:R}(h:id ∉ c.map (·.id))(hr:r.id=id):idx id (c++r::d)=c.length:=by
 induction c with
 | nil=>rw[jU,wAL,if_pos hr];rfl
 | cons x t ih=>
  simp only[jK,List.mem_cons,not_or] at h;rw[List.cons_append,wAL,if_neg (fun e=>h.1 e.symm),ih h.2,if_neg (by omega)]
  simp
theorem zRl{id:Int}{zs:List R}(h:id ∉ zs.map (·.id)):idx id zs<0:=by
 have h1:=(zDY id zs).2 h;rw[zKR] at h1;have:=of_decide_eq_false h1;omega
theorem zIU{r' : R}{ls:List L}(h:r'.id ∉ (allR ls).map (·.id)):ls.map (upL r')=ls:=by
 induction ls with
 | nil=>rfl
 | cons l t ih=>
  rw[zAq,jF,List.mem_append,not_or] at h;rw[jK,ih h.2];unfold upL upR;rw[if_pos (zRl h.1)]
theorem up_at{r' : R}{ls:List L}{i k:Nat}(hn:((allR ls).map (·.id)).Nodup)(hi:i<ls.length)(hk:k<ls[i].rests.length)(hid:r'.id=ls[i].rests[k].id):ls.map (upL r')=setL ls i k r':=by
 obtain⟨a,b,c,d,e1,e2,e3,e4⟩:=zCq hi hk;generalize ls[i].rests[k]=r at *;generalize ls[i].price=p at *;subst e1;subst e2;subst e4;rw[zFR,jF,jK];rw[zDc] at hn;simp only[jF,jK] at hn;obtain⟨n1,n2,n3⟩:=List.nodup_append.1 hn;obtain⟨n4,n5,n6⟩:=List.nodup_append.1 n2;obtain⟨n7,n8,n9⟩:=List.nodup_append.1 n4;have ha:r'.id ∉ (allR a).map (·.id):=fun h=>n3 _ h r.id (by simp) hid
 have hb:r'.id ∉ (allR b).map (·.id):=fun h=>n6 r.id (by simp) _ h hid.symm
 have hc:r'.id ∉ c.map (·.id):=fun h=>n9 _ h r.id (by simp) hid
 rw[zIU ha,zIU hb];unfold upL upR;simp only[];rw[zRk hc hid.symm,if_neg (by omega),Int.toNat_natCast,zDo]
theorem zKh{bs ss:List L}(h:zAc bs ss=0):((allR bs++allR ss).map (·.id)).Nodup:=by
 obtain⟨-,-,-,z4,-⟩:=zAe h;unfold zAK at z4;have:=of_decide_eq_false z4;exact Classical.byContradiction this
theorem At.up{bs ss:List L}{id s p:Int}{r r' : R}{i k:Nat}(h:At bs ss id s p r i k)(hid:r'.id=id):bs.map (upL r')=kB s bs i k r'∧ss.map (upL r')=kS s ss i k r':=by
 obtain⟨ls,h,-⟩:=h;have hn:=zKh h.h0;rw[jF] at hn;obtain⟨n1,n2,n3⟩:=List.nodup_append.1 hn;have hm:id∈(allR ls).map (·.id):=by
  rw[←h.hr];exact List.mem_map.2 ⟨_,List.mem_flatMap.2 ⟨_,jT h.hi,jT h.hk⟩,rfl⟩
 have hi:=h.hi;have hk:=h.hk;have hr:=h.hr;unfold kB kS;rcases h.side with ⟨rfl,rfl,-⟩|⟨rfl,rfl,-⟩
 ·rw[if_pos rfl,if_pos rfl];exact⟨up_at n1 hi hk (by rw[hid,hr]),zIU (fun hx=>n3 _ hm _ hx hid.symm)⟩
 ·rw[if_neg (by decide),if_neg (by decide)]
  exact⟨zIU (fun hx=>n3 _ hx _ hm hid),up_at n2 hi hk (by rw[hid,hr])⟩
theorem zPe(id:Int)(B:Nat)(w:World)(hB:B<w.heap.size)(hc:w.cell? ⟨B,0,none⟩=some (.int .i64 id)) :
  PredBelow prog 178 #[.pointer (some ⟨B,0,none⟩)] (fun x=>.agg (rV x).toArray) (fun x=>decide (x.id=id)) w:=by
 intro W x hb;obtain⟨a,b,c,d,e⟩:=x;show Calls prog 178 #[.agg #[.int .i64 a,.int .i64 b,.int .i64 c,.int .i64 d,.int .i64 e],.pointer (some ⟨B,0,none⟩)] W _
 have BR:=zAa hb hc;have hz:B<W.heap.size:=jC hB hb.size;go_enter func178,ntmps178
 go_wp2
 go_ret;exact⟨rfl,hb.alloc hb.size _⟩
theorem zRm(id:Int)(b o c n B:Nat)(zs:List R)(w:World)(hb:b<w.heap.size)(hn:zs.length=n)(hm:n≤9223372036854775807)(hl:Lies w b o zs)(hB:B<w.heap.size)(hc:w.cell? ⟨B,0,none⟩=some (.int .i64 id)) :
  Calls prog 177 #[.slice (some ⟨b,o,none⟩) n c,.func (.func 178) #[] #[.pointer (some ⟨B,0,none⟩)]] w fun e w'=>e=.returned (.int .i64 (idx id zs))∧Bw w w':=by
 have eg:∀args w,(callFunc 178 args).run prog w=.ok (.enter 178 args) w:=enters_of func178 (by kernel_rfl) rfl
 subst hn;have Hf:=AnyQ.slices_IndexFunc Tryz.lq6 5 isAgg54 sizeOf54 rV (fun x=>rfl) (fun x=>decide (x.id=id)) 178 #[.pointer (some ⟨B,0,none⟩)] eg b o zs.length c zs
  w (zPe id B w hB hc) (nzR _) hm hb hl
 change Calls prog 177 _ _ _ at Hf
 rw[List.take_length,wAK] at Hf;exact Hf
theorem zHZ(q1 q2:Option Addr)(n1 n2 c1 c2:Nat)(bs ss:List L)(a b c d e:Int)(w:World)(h1:LS w (.slice q1 n1 c1) bs)(h2:LS w (.slice q2 n2 c2) ss)(h0:zAc bs ss=0) :
  Calls prog 156 #[.agg #[.slice q1 n1 c1,.slice q2 n2 c2],.agg #[.int .i64 a,.int .i64 b,.int .i64 c,.int .i64 d,.int .i64 e]] w fun x w'=>∃u1 u2 m1 m2 d1 d2,x=.returned (.agg #[.slice u1 m1 d1,.slice u2 m2 d2])∧DL w' w.heap.size (.slice u1 m1 d1) (bs.map (upL ⟨a,b,c,d,e⟩))∧DL w' w.heap.size (.slice u2 m2 d2) (ss.map (upL ⟨a,b,c,d,e⟩))∧Below w.heap.size w w':=by
 obtain⟨ee1,ee2,-,-,ee5⟩:=zAe h0;obtain⟨V1,gy⟩:∃V1,V1=w.alloc (.cells #[.slice q1 n1 c1,.slice q2 n2 c2] 50):=⟨_,rfl⟩;obtain⟨V2,gl⟩:∃V2,V2=V1.alloc (.cells #[.int .i64 a,.int .i64 b,.int .i64 c,.int .i64 d,.int .i64 e] 54):=⟨_,rfl⟩;obtain⟨V,hV⟩:∃V,V=V2.alloc (.cells #[.slice none 0 0,.slice none 0 0] 50):=⟨_,rfl⟩;have Hm:V1.heap.size=w.heap.size+1:=by rw[gy];simp
 have gd:V2.heap.size=w.heap.size+2:=by rw[gl];simp[Hm]
 have Ha:Below w.heap.size w V1:=by rw[gy];exact(bzR _ _).alloc (nzR _) _
 have Hc:Below V1.heap.size V1 V2:=by rw[gl];exact(bzR _ _).alloc (nzR _) _
 have Hr:Below V2.heap.size V2 V:=by rw[hV];exact(bzR _ _).alloc (nzR _) _
 have gj:Below w.heap.size w V:=by
  have h:=Ha.trans (Hc.mono Ha.size);exact h.trans (Hr.mono h.size)
 have H5:V.heap[w.heap.size+1]?=some (.cells #[.int .i64 a,.int .i64 b,.int .i64 c,.int .i64 d,.int .i64 e] 54 (0,0)):=by
  rw[Hr.block _ (by omega),←Hm,gl];exact jA V1 _
 have Gm:V.heap[w.heap.size+2]?=some (.cells #[.slice none 0 0,.slice none 0 0] 50 (0,0)):=by rw[←gd,hV];exact jA V2 _
 obtain⟨P,hP⟩:∃P,P=w.heap.size+2:=⟨_,rfl⟩;obtain⟨Q,hQ⟩:∃Q,Q=w.heap.size+1:=⟨_,rfl⟩;rw[←hP] at Gm;rw[←hQ] at H5;have gY:P<V.heap.size:=(gzE.1 Gm).1;have du:Q<V.heap.size:=(gzE.1 H5).1;have HP:Hid (w.heap.size≤P∧w.heap.size≤V.heap.size∧P<V.heap.size∧Q<V.heap.size):=⟨by omega,gj.size,gY,du⟩
 have HRQ:Hid (∀W,Below V.heap.size V W→W.cell? ⟨Q,0,none⟩=some (.int .i64 a)∧W.cell? ⟨Q,1,none⟩=some (.int .i64 b)∧W.cell? ⟨Q,2,none⟩=some (.int .i64 c)∧W.cell? ⟨Q,3,none⟩=some (.int .i64 d)∧W.cell? ⟨Q,4,none⟩=some (.int .i64 e)∧W.heap[P]?=some (.cells #[.slice none 0 0,.slice none 0 0] 50 (0,0))∧Below w.heap.size w W):=fun W hW=>by
  obtain⟨y0,y1,y2,y3,y4,-⟩:=zAi ((hW.block Q du).trans H5);exact⟨y0,y1,y2,y3,y4,(hW.block P gY).trans Gm,gj.trans (hW.mono gj.size)⟩
 have uC:=hidW (zKf q1 q2 n1 n2 c1 c2 bs ss V (h1.below gj) (h2.below gj) ee1 ee2);have Bv:Hid (∀pa pb:List RP,pa.map toL=bs→pb.map toL=ss→pa.length+pb.length≤60∧∀p∈pa++pb,p.2≠[]∧p.2.length≤60):=fun pa pb ea eb=>by
  have k1:=zFg (zAY ee1);have k2:=zFg (zAY ee2);have k3:pa.length=bs.length:=by rw[←ea,jP]
  have k4:pb.length=ss.length:=by rw[←eb,jP]
  have k5:(allR bs).length+(allR ss).length≤60:=by rw[←jE];exact ee5
  rw[zAP] at k1 k2;refine⟨by omega,fun p hp=>?_⟩
  rcases List.mem_append.1 hp with hp|hp
  ·have hm:toL p∈bs:=by rw[←ea];exact List.mem_map.2 ⟨p,hp,rfl⟩
   have:=zAV hm;rw[zAP] at this;exact⟨zAY ee1 _ hm,by have h9:((toL p).rests.length:Int)≤_:=this;rw[zGE] at h9;omega⟩
  ·have hm:toL p∈ss:=by rw[←eb];exact List.mem_map.2 ⟨p,hp,rfl⟩
   have:=zAV hm;rw[zAP] at this;exact⟨zAY ee2 _ hm,by have h9:((toL p).rests.length:Int)≤_:=this;rw[zGE] at h9;omega⟩
 clear h1 h2 Hm gd Ha Hc Hr gj H5 Gm gY du ee1 ee2 ee5 h0;go_enter func156,ntmps156;go_wp2_with fail;rw[←gy,←gl,←hV];simp only[←hP];simp only[←hQ];clear gy gl hV hP hQ;refine uC.out.mono ?_;rintro x w1⟨qa,qb,ma,mb,ca,cb,pa,pb,rfl,bF,ea,eb,T⟩;obtain⟨EH,H7⟩:=Bv.out pa pb ea eb;obtain⟨PS,dt⟩:∃PS,PS=pa++pb:=⟨_,rfl⟩;have H9:Below w1.heap.size w1 (w1.alloc (.cells #[.slice qa ma ca,.slice qb mb cb] 50)):=(bzR _ _).alloc (nzR _) _;have hRF:(w1.alloc (.cells #[.slice qa ma ca,.slice qb mb cb] 50)).heap[w1.heap.size]?=some (.cells #[.slice qa ma ca,.slice qb mb cb] 50 (0,0)):=jA w1 _;obtain⟨W3,gS⟩:∃W3,W3=(w1.alloc (.cells #[.slice qa ma ca,.slice qb mb cb] 50)).alloc (.cells #[.slice qa ma ca,.slice qb mb cb] 48):=⟨_,rfl⟩;have Hr:Below w1.heap.size w1 W3:=by rw[gS];exact H9.alloc H9.size _
 have uT:W3.heap.size=w1.heap.size+2:=by rw[gS];simp
 have eY:W3.heap[w1.heap.size]?=some (.cells #[.slice qa ma ca,.slice qb mb cb] 50 (0,0)):=by
  rw[gS,((bzR _ _).alloc (nzR _) _).block _ (by simp)];exact hRF
 have hc0:W3.cell? ⟨w1.heap.size+1,0,none⟩=some (.slice qa ma ca):=by rw[gS];simp[go_sem]
 have Gv:W3.cell? ⟨w1.heap.size+1,1,none⟩=some (.slice qb mb cb):=by rw[gS];simp[go_sem]
 have T3:=T.below Hr;have uz:=rlv.wAG (w1.heap.size+1) 2 2 (fun j=>if j=0 then .slice qa ma ca else .slice qb mb cb) (fun j=>if j=0 then pa.map (·.1) else pb.map (·.1)) W3 (by omega)
  (fun j hj=>by
   rcases(show j=0∨j=1 by omega) with rfl|rfl
   ·exact hc0
   ·exact Gv)
  (fun j hj=>by
   rcases(show j=0∨j=1 by omega) with rfl|rfl
   ·exact rlv.OwnQ.sl T3.own1
   ·exact rlv.OwnQ.sl T3.own2)
  (by simp[rlv.upto];omega)
 rw[show rlv.upto (fun j=>if j=0 then pa.map (·.1) else pb.map (·.1)) 2=PS.map (·.1) by rw[dt,jF];simp[rlv.upto]] at uz
 have HI:Hid (∀v4 w4,rlv.OwnQ w4 W3.heap.size v4 (PS.map (·.1))→Below W3.heap.size W3 w4→RepI V w1.heap.size (.slice qa ma ca) (.slice qb mb cb) v4 PS pa.length ⟨a,b,c,d,e⟩ 0 w4):=fun v4 w4 hO Uc=>
  ⟨(bF.trans (Hr.mono bF.size)).trans (Uc.mono (bF.trans (Hr.mono bF.size)).size),(Uc.block _ (by omega)).trans eY,OwnM.mono hO (by omega),pa,pb,T3.below Uc,by rw[dt];rfl,rfl⟩
 have gQ:Hid (∀W,RepI V w1.heap.size (.slice qa ma ca) (.slice qb mb cb) (.slice none 0 0) PS pa.length ⟨a,b,c,d,e⟩ PS.length W∨(∃v4,RepI V w1.heap.size (.slice qa ma ca) (.slice qb mb cb) v4 PS pa.length ⟨a,b,c,d,e⟩ PS.length W)→DL W V.heap.size (.slice qa ma ca) (bs.map (upL ⟨a,b,c,d,e⟩))∧DL W V.heap.size (.slice qb mb cb) (ss.map (upL ⟨a,b,c,d,e⟩))):=fun W hh=>by
  have:∃v4,RepI V w1.heap.size (.slice qa ma ca) (.slice qb mb cb) v4 PS pa.length ⟨a,b,c,d,e⟩ PS.length W:=by
   rcases hh with h|h
   ·exact⟨_,h⟩
   ·exact h
  obtain⟨v4,h⟩:=this;obtain⟨xa,xb,t1,t2,t3⟩:=h.two;rw[List.take_length,List.drop_length,jH,dt,jF] at t2;obtain⟨t4,t5⟩:=List.append_inj t2 (by rw[t3,jP])
  have hu:∀ps:List RP,(ps.map (upP ⟨a,b,c,d,e⟩)).map toL=(ps.map toL).map (upL ⟨a,b,c,d,e⟩):=fun ps=>by rw[List.map_map,List.map_map];rfl
  exact⟨⟨xa,by rw[t4,hu,ea],t1.deep1⟩,⟨xb,by rw[t5,hu,eb],t1.deep2⟩⟩
 have uP:Hid (∀p∈PS,p.2≠[]∧p.2.length≤60):=by rw[dt];exact H7
 have Ps:PS.length≤60:=by rw[dt,jE];exact EH
 have DB:=hidW Ps;clear Ps H7 EH T T3 dt ea eb H9 hRF eY hc0 Gv Hr uC Bv bF;generalize pa.length=m at *;have hs3':=hidW uT;clear uT;go_wp2_with fail;rw[←gS];clear gS;refine uz.mono ?_;rintro x w4⟨v4,rfl,Cv,Uc⟩;have HI4:=hidW (HI.out v4 w4 Cv Uc);obtain⟨q4,k4,hf⟩:=OwnM.form Cv;rw[jP] at hf;subst hf;clear HI uz Cv Uc hs3';generalize hF:w1.heap.size=F at *;generalize hn:PS.length=n at *;have HN:=hidW hn;clear hF hn;go_wp2_with fail;go_loopg [7,8,18] n (fun gg _ _ s18 wr=>∃jj:Nat,jj≤n∧n - jj≤gg∧s18=.int .i64 jj∧Aside (RepI V F (.slice qa ma ca) (.slice qb mb cb) (.slice q4 n k4) PS m ⟨a,b,c,d,e⟩ jj wr))
 case atStart=>exact⟨0,jL _,by omega,rfl,HI4.out⟩
 case round=>
  obtain⟨jj,Ex,hg,rfl,AD⟩:=hrel;by_cases Hj:jj<n
  ·have Hq:(jj:Int)<(n:Int):=by omega
   have gU:¬((jj:Int)<0):=by omega
   have B7:jj<PS.length:=by rw[HN.out];exact Hj
   obtain⟨p,hp⟩:∃p,PS[jj]=p:=⟨_,rfl⟩;have CZ:p∈PS:=by rw[←hp];exact jT B7
   obtain⟨gw,gD⟩:=uP.out p CZ;have uz:=AD.out.cat;have CT:=AD.out.level B7;rw[hp] at CT;have cx:PS.map (·.1)=(PS.take jj).map (·.1)++p.1::(PS.drop (jj+1)).map (·.1):=by
    rw[←hp,←jK,←List.drop_eq_getElem_cons B7,←jF,jR]
   have hq4:∃g off,q4=some ⟨g,off,none⟩:=by
    rcases uz.2 with ⟨hv,-⟩|⟨g,off,cap,cur,hv,-⟩
    ·simp only[Value.slice.injEq] at hv;omega
    ·simp only[Value.slice.injEq] at hv;exact⟨g,off,hv.1⟩
   obtain⟨g4,o4,rfl⟩:=hq4;have BT:rlv.OwnQ wr F (.slice (some ⟨g4,o4,none⟩) n k4) ((PS.take jj).map (·.1)++p.1::(PS.drop (jj+1)).map (·.1)):=by rw[←cx];exact uz
   obtain⟨-,l0,l1,-⟩:=zDn BT;rw[jP,jJ,show min jj PS.length=jj by omega] at l0 l1
   obtain⟨⟨pp,pq,pn,pc⟩,zs⟩:=p;obtain⟨hO5,EK⟩:(∃g5 o5,pq=some ⟨g5,o5,none⟩)∧pn=zs.length:=by
    rcases CT.2 with ⟨hv,gH⟩|⟨g,off,cap,cur,hv,-⟩
    ·exact absurd (List.length_eq_zero_iff.1 gH) gw
    ·have gX : Value.slice pq pn pc=.slice (some ⟨g,off,none⟩) zs.length cap:=hv;simp only[Value.slice.injEq] at gX;exact⟨⟨g,off,gX.1⟩,gX.2.1⟩
   obtain⟨g5,o5,rfl⟩:=hO5;subst EK;simp only[] at l0 l1 gw gD;have mD:Below wr.heap.size wr (wr.alloc (.cells #[.int .i64 pp,.slice (some ⟨g5,o5,none⟩) zs.length pc] 94)):=(bzR _ _).alloc (nzR _) _;have bD:(wr.alloc (.cells #[.int .i64 pp,.slice (some ⟨g5,o5,none⟩) zs.length pc] 94)).heap[wr.heap.size]?=some (.cells #[.int .i64 pp,.slice (some ⟨g5,o5,none⟩) zs.length pc] 94 (0,0)):=jA wr _;have dp:=AD.out.on mD;obtain⟨mh,gB,-,m8⟩:=OwnM.cells (show OwnM _ _ _ _ (.slice (some ⟨g5,o5,none⟩) zs.length pc) _ _ from dp.level B7 |>fun h=>by rw[hp] at h;exact h)
   have cg:Lies (wr.alloc (.cells #[.int .i64 pp,.slice (some ⟨g5,o5,none⟩) zs.length pc] 94)) g5 o5 zs:=by
    have h9:=OwnQ.sl (show OwnQ _ _ (.slice (some ⟨g5,o5,none⟩) zs.length pc) zs from dp.level B7 |>fun h=>by rw[hp] at h;exact h)
    rcases h9 with ⟨h9,-⟩|⟨b9,o9,c9,h9,-,-,-,M8⟩
    ·cases h9
    ·simp only[Value.slice.injEq,Option.some.injEq,Addr.mk.injEq] at h9;obtain⟨⟨rfl,rfl,-⟩,-⟩:=h9;exact M8
   obtain⟨y0,y1,y2,y3,y4,-,-⟩:=HRQ.out _ dp.below;have hQs:Q<(wr.alloc (.cells #[.int .i64 pp,.slice (some ⟨g5,o5,none⟩) zs.length pc] 94)).heap.size:=jC HP.out.2.2.2 dp.below.size;have MC:=hidW (zRm a g5 o5 pc zs.length Q zs _ m8 rfl (by omega) cg hQs y0)
   have HI5:=hidW dp;clear mh gB m8 cg y0 y1 y2 y3 y4 hQs dp uz BT CT cx AD gw;have HZ2:=hidW gD;clear gD;go_wp2_with fail;refine MC.out.mono ?_;rintro x w6⟨rfl,b6⟩;have dq:=HI5.out.on b6;have hR6:=(b6.block _ (gzE.1 bD).1).trans bD;obtain⟨z0,z1,-⟩:=zAb hR6;clear MC HI5 b6 bD hR6 mD l0 l1;by_cases Uf:idx a zs<0
   ·have CO:¬(idx a zs≥0):=(by omega);have hge2:¬(0≤idx a zs):=(by omega);have HI7:=hidW (dq.pass B7 (by rw[hp];exact Uf))
    generalize idx a zs=ix at *;clear dq hp CZ;go_wp2_with fail;go_roundg (n - (jj+1))
    case measure=>omega
    case rel=>exact⟨jj+1,by omega,by omega,by rw[show wrap64 ((jj:Int)+1)=((jj+1:Nat):Int) by have hq:=DB.out;unfold wrap64;omega],HI7.out⟩
   ·obtain⟨k,hk⟩:∃k:Nat,idx a zs=(k:Int):=⟨(idx a zs).toNat,by omega⟩
    have hkl:k<zs.length:=(by have:=wBe a zs;omega);have HI7:=hidW (dq.put B7 hp hk);obtain⟨mh,gB,-,m8⟩:=OwnM.cells (show OwnM _ _ _ _ (.slice (some ⟨g5,o5,none⟩) zs.length pc) _ _ from dq.level B7 |>fun h=>by rw[hp] at h;exact h)
    have gu:∀j(hj:j<5),∃u,w6.cell? ⟨g5,o5+(k*5+j),none⟩=some u:=fun j hj=>by
     have Hi:k*5+j<(flat zs).length:=(by rw[wAl];omega);exact⟨_,mh (k*5+j) _ (List.getElem?_eq_getElem Hi)⟩
    obtain⟨u0,t0⟩:=gu 0 (by omega)
    obtain⟨u1,t1⟩:=gu 1 (by omega)
    obtain⟨u2,t2⟩:=gu 2 (by omega)
    obtain⟨u3,t3⟩:=gu 3 (by omega)
    obtain⟨u4,t4⟩:=gu 4 (by omega)
    simp only[←Nat.add_assoc,Nat.add_zero] at t0 t1 t2 t3 t4;have f0:=gB (o5+k*5);have f1:=gB (o5+k*5+1);have f2:=gB (o5+k*5+2);have f3:=gB (o5+k*5+3);have f4:=gB (o5+k*5+4);obtain⟨y0,y1,y2,y3,y4,-,-⟩:=HRQ.out _ dq.below;have k0:¬((k:Int)<0):=(by omega);have k1:(k:Int)<(zs.length:Int):=(by omega);have k4' : (0:Int)≤(k:Int):=(by omega);rw[hk];clear gu mh gB dq hp CZ hk Uf HZ2;generalize zs.length=zn at *;go_wp2_with fail;go_roundg (n - (jj+1))
    case measure=>omega
    case rel=>exact⟨jj+1,by omega,by omega,by rw[show wrap64 ((jj:Int)+1)=((jj+1:Nat):Int) by have hq:=DB.out;unfold wrap64;omega],HI7.out⟩
  ·have Hq:¬(jj:Int)<(n:Int):=by omega
   have Ey:jj=n:=by omega
   subst Ey;have hE:=gQ.out wr (.inr ⟨_,AD.out⟩);obtain⟨x0,x1,-⟩:=zAb AD.out.row;obtain⟨-,-,-,-,-,gm,hBw⟩:=HRQ.out _ AD.out.below;obtain⟨z0,z1,zf⟩:=zAb gm;have zf0:=zf 0;have zf1:=zf 1;have Hs:=zAN wr P (.slice qa ma ca) (.slice qb mb cb);have Hy:=hidW (zAx gm (.slice qa ma ca) (.slice qb mb cb));have Hz:=hidW (show DL ((wr.setCell ⟨P,0,none⟩ (.slice qa ma ca)).setCell ⟨P,1,none⟩ (.slice qb mb cb)) w.heap.size (.slice qa ma ca) (bs.map (upL ⟨a,b,c,d,e⟩))∧DL ((wr.setCell ⟨P,0,none⟩ (.slice qa ma ca)).setCell ⟨P,1,none⟩ (.slice qb mb cb)) w.heap.size (.slice qb mb cb) (ss.map (upL ⟨a,b,c,d,e⟩))∧Below w.heap.size w ((wr.setCell ⟨P,0,none⟩ (.slice qa ma ca)).setCell ⟨P,1,none⟩ (.slice qb mb cb)) from
    ⟨(hE.1.other Hs HP.out.2.2.1).mono HP.out.2.1,(hE.2.other Hs HP.out.2.2.1).mono HP.out.2.1,hBw.grown Hs hBw.size (fun k hk=>by cases hk;exact HP.out.1)⟩)
   clear zf hE AD gm hBw Hs gQ uP HRQ HI4;go_wp2_with fail;generalize ((wr.setCell ⟨P,0,none⟩ (.slice qa ma ca)).setCell ⟨P,1,none⟩ (.slice qb mb cb))=Z at *;obtain⟨y0,y1,-⟩:=zAb Hy.out;exact jN (v:=.agg #[.slice qa ma ca,.slice qb mb cb]) (by simp[results,results156,go_sem,y0,y1]) rfl ⟨_,_,_,_,_,_,rfl,Hz.out⟩
end swp
end Go.Proofs.YtmhcghgfpfainaaGreatDoor
