import Derived.Test.YtnfilcpnneckkaaGreatBokAny
import Derived.Test.YtnfilcpnneckkaaGreatBokCancel
set_option maxHeartbeats 4000000
set_option maxRecDepth 100000
namespace Go.Proofs.YtnfilcpnneckkaaGreat
open Tryz
namespace swp
open Go.RowKit spn que sid bok
open tickP (errB zAo zAU)
theorem zFO{w:World}{B:Nat}{y0 y1 y2 y3 y4 y5 y6:Value}{t:TypeId}(h:w.heap[B]?=some (.cells #[y0,y1,y2,y3,y4,y5,y6] t (0,0)))(x0 x1 x2 x3 x4 x5 x6:Value) :
  (((((((w.setCell ⟨B,0,none⟩ x0).setCell ⟨B,1,none⟩ x1).setCell ⟨B,2,none⟩ x2).setCell ⟨B,3,none⟩ x3).setCell ⟨B,4,none⟩ x4).setCell ⟨B,5,none⟩ x5).setCell ⟨B,6,none⟩ x6).heap[B]?=some (.cells #[x0,x1,x2,x3,x4,x5,x6] t (0,0)):=by
 have h0:=jB _ B 0 _ _ x0 h;simp only[List.setIfInBounds_toArray,List.set_cons_zero] at h0;have h1:=jB _ B 1 _ _ x1 h0;simp only[List.setIfInBounds_toArray,List.set_cons_zero,List.set_cons_succ] at h1;have h2:=jB _ B 2 _ _ x2 h1;simp only[List.setIfInBounds_toArray,List.set_cons_zero,List.set_cons_succ] at h2;have h3:=jB _ B 3 _ _ x3 h2;simp only[List.setIfInBounds_toArray,List.set_cons_zero,List.set_cons_succ] at h3;have h4:=jB _ B 4 _ _ x4 h3;simp only[List.setIfInBounds_toArray,List.set_cons_zero,List.set_cons_succ] at h4;have h5:=jB _ B 5 _ _ x5 h4;simp only[List.setIfInBounds_toArray,List.set_cons_zero,List.set_cons_succ] at h5;have h6:=jB _ B 6 _ _ x6 h5;simp only[List.setIfInBounds_toArray,List.set_cons_zero,List.set_cons_succ] at h6;exact h6
theorem zBP{w:World}{B:Nat}{x0 x1 x2 x3 x4 x5 x6:Value}{t:TypeId}(h:w.heap[B]?=some (.cells #[x0,x1,x2,x3,x4,x5,x6] t (0,0))) :
  w.cell? ⟨B,0,none⟩=some x0∧w.cell? ⟨B,1,none⟩=some x1∧w.cell? ⟨B,2,none⟩=some x2∧w.cell? ⟨B,3,none⟩=some x3∧w.cell? ⟨B,4,none⟩=some x4∧w.cell? ⟨B,5,none⟩=some x5∧w.cell? ⟨B,6,none⟩=some x6∧∀j,w.frozen? ⟨B,j,none⟩=false:=
 ⟨by simp[World.cell?,h],by simp[World.cell?,h],by simp[World.cell?,h],by simp[World.cell?,h],by simp[World.cell?,h],by simp[World.cell?,h],by simp[World.cell?,h],fun j=>frozen_of_row w _ j _ _ h⟩
theorem zHQ(w:World)(B:Nat)(x0 x1 x2 x3 x4 x5 x6:Value):w.grownBy (((((((w.setCell ⟨B,0,none⟩ x0).setCell ⟨B,1,none⟩ x1).setCell ⟨B,2,none⟩ x2).setCell ⟨B,3,none⟩ x3).setCell ⟨B,4,none⟩ x4).setCell ⟨B,5,none⟩ x5).setCell ⟨B,6,none⟩ x6) (some B):=
 wAd (wAd (wAd (wAd (wAd (wAd (wAc _ _ _ _) (wAc _ _ _ _)) (wAc _ _ _ _)) (wAc _ _ _ _)) (wAc _ _ _ _)) (wAc _ _ _ _)) (wAc _ _ _ _)
def At(bs ss:List L)(id s p:Int)(r:R)(i k:Nat):Prop:=∃ls,∃h:Spot bs ss id s ls i k,(ls[i]'h.hi).price=p∧(ls[i]'h.hi).rests[k]'h.hk=r
theorem at_of{bs ss:List L}{id:Int}(h0:zAc bs ss=0)(Hv:zAg bs ss id=true):∃s p r i k,At bs ss id s p r i k:=by
 obtain⟨s,ls,i,k,h⟩:=zQP h0 Hv;exact⟨s,_,_,i,k,ls,h,rfl,rfl⟩
theorem At.book{bs ss:List L}{id s p:Int}{r:R}{i k:Nat}(h:At bs ss id s p r i k):zAc bs ss=0:=by obtain⟨ls,h,-⟩:=h;exact h.h0
theorem At.id{bs ss:List L}{id s p:Int}{r:R}{i k:Nat}(h:At bs ss id s p r i k):r.id=id:=by obtain⟨ls,h,-,rfl⟩:=h;exact h.hr
theorem At.rest{bs ss:List L}{id s p:Int}{r:R}{i k:Nat}(h:At bs ss id s p r i k):rchk r=0:=by obtain⟨ls,h,-,rfl⟩:=h;exact h.rest
theorem At.side{bs ss:List L}{id s p:Int}{r:R}{i k:Nat}(h:At bs ss id s p r i k):s=1∨s=2:=by
 obtain⟨ls,h,-⟩:=h;rcases h.side with h|h
 ·exact .inl h.1
 ·exact .inr h.1
theorem At.keep{bs ss:List L}{id s p:Int}{r r' : R}{i k:Nat}(h:At bs ss id s p r i k)(hid:r'.id=id)(hr:rchk r'=0):At (kB s bs i k r') (kS s ss i k r') id s p r' i k:=by
 obtain⟨ls,h,rfl,-⟩:=h;refine⟨_,h.keep hid hr,?_,?_⟩
 ·rw[zHP h.hi]
 ·simp only[zHP h.hi,List.getElem_set_self]
theorem zBQ(q1 q2:Option Addr)(n1 n2 c1 c2:Nat)(bs ss:List L)(id s p r1 r2 r3 r4 r5:Int)(i k:Nat)(w:World)(h1:LS w (.slice q1 n1 c1) bs)(h2:LS w (.slice q2 n2 c2) ss)(hA:At bs ss id s p ⟨r1,r2,r3,r4,r5⟩ i k) :
  Calls prog 60 #[.agg #[.slice q1 n1 c1,.slice q2 n2 c2],.int .i64 id] w fun e w'=>e=.returned (.tuple #[.int .i64 s,.int .i64 p,.agg #[.int .i64 r1,.int .i64 r2,.int .i64 r3,.int .i64 r4,.int .i64 r5],.nilIface])∧Bw w w':=by
 obtain⟨ls,h,hp,hr⟩:=hA;have hi:=h.hi;have hk:=h.hk;have hw:=h.wf;rcases h.side with ⟨rfl,rfl,f1,f2⟩|⟨rfl,rfl,f0,f1,f2⟩
 ·have:=zFC q1 q2 n1 n2 c1 c2 ls ss id hw i k w h1 h2 h.h0 hi hk (by unfold zBl;rw[f2,f1,wAa])
  rw[hp,hr] at this;exact this
 ·have:=zFD q1 q2 n1 n2 c1 c2 bs ls id hw i k w h1 h2 h.h0 f0 hi hk (by unfold zBl;rw[f2,f1,wAa])
  rw[hp,hr] at this;exact this
theorem zJO(q1 q2:Option Addr)(n1 n2 c1 c2:Nat)(bs ss:List L)(id s p r1 r2 r3 r4 r5:Int)(i k:Nat)(w:World)(h1:LS w (.slice q1 n1 c1) bs)(h2:LS w (.slice q2 n2 c2) ss)(hA:At bs ss id s p ⟨r1,r2,r3,r4,r5⟩ i k) :
  Calls prog 98 #[.agg #[.slice q1 n1 c1,.slice q2 n2 c2],.int .i64 id] w fun e w'=>∃u1 u2 m1 m2 d1 d2,e=.returned (.tuple #[.agg #[.slice u1 m1 d1,.slice u2 m2 d2],.agg #[.int .i64 r1,.int .i64 r2,.int .i64 r3,.int .i64 r4,.int .i64 r5],.nilIface])∧DL w' w.heap.size (.slice u1 m1 d1) (cB s bs i k)∧DL w' w.heap.size (.slice u2 m2 d2) (cS s ss i k)∧Bw w w':=by
 obtain⟨ls,h,hp,hr⟩:=hA;have hi:=h.hi;have hk:=h.hk;have hw:=h.wf;unfold cB cS;rcases h.side with ⟨rfl,rfl,f1,f2⟩|⟨rfl,rfl,f0,f1,f2⟩
 ·have:=zEn q1 q2 n1 n2 c1 c2 ls ss id hw i k w h1 h2 h.h0 hi hk f1 f2;rw[hr] at this;rw[if_pos rfl,if_pos rfl];exact this
 ·have:=zEo q1 q2 n1 n2 c1 c2 bs ls id hw i k w h1 h2 h.h0 f0 hi hk f1 f2;rw[hr] at this;rw[if_neg (by decide),if_neg (by decide)]
  exact this
theorem zGQ(q1 q2:Option Addr)(n1 n2 c1 c2:Nat)(id price K:Int)(w:World)(Uv:∀W,Below w.heap.size w W→Calls prog 60 #[.agg #[.slice q1 n1 c1,.slice q2 n2 c2],.int .i64 id] W fun e w'=>e=.returned (.tuple #[.int .i64 0,.int .i64 0,.agg #[.int .i64 0,.int .i64 0,.int .i64 0,.int .i64 0,.int .i64 0],.iface 90 (.int .i64 K)])∧Below W.heap.size W w') :
  Calls prog 101 #[.agg #[.slice q1 n1 c1,.slice q2 n2 c2],.int .i64 id,.int .i64 price] w fun e w'=>e=.returned (.tuple #[.agg #[.int .i64 0,.int .i64 0,.int .i64 0,.int .i64 0,.int .i64 0,.int .i64 0,.int .i64 0],.iface 90 (.int .i64 K)])∧Below w.heap.size w w':=by
 obtain⟨V,hV⟩:∃V,V=(w.alloc (.cells #[.slice q1 n1 c1,.slice q2 n2 c2] 57)).alloc (.cells #[.int .i64 0,.int .i64 0,.int .i64 0,.int .i64 0,.int .i64 0,.int .i64 0,.int .i64 0] 169):=⟨_,rfl⟩;have HB:Hid (Below w.heap.size w V):=by rw[hV];exact((bzR _ _).alloc (nzR _) _).alloc (by simp) _
 have hR:V.heap[w.heap.size+1]?=some (.cells #[.int .i64 0,.int .i64 0,.int .i64 0,.int .i64 0,.int .i64 0,.int .i64 0,.int .i64 0] 169 (0,0)):=by
  rw[hV];have:=jA (w.alloc (.cells #[.slice q1 n1 c1,.slice q2 n2 c2] 57)) (.cells #[.int .i64 0,.int .i64 0,.int .i64 0,.int .i64 0,.int .i64 0,.int .i64 0,.int .i64 0] 169);simpa using this
 obtain⟨P,hP⟩:∃P,P=w.heap.size+1:=⟨_,rfl⟩;rw[←hP] at hR;have HP:Hid (w.heap.size≤P):=by show _≤_;omega
 have gp:P<V.heap.size:=(gzE.1 hR).1;have Bg:=hidW (Uv V HB.out);clear Uv;go_enter func101,ntmps101;go_wp2_with fail;rw[←hV];simp only[←hP];clear hV hP;refine Bg.out.mono ?_;rintro x w1⟨rfl,b1⟩;have Ht:Below w1.heap.size w1 (w1.alloc (.cells #[.int .i64 0,.int .i64 0,.int .i64 0,.int .i64 0,.int .i64 0] 51)):=(bzR _ _).alloc (nzR _) _;have Ha:=b1.trans (Ht.mono b1.size);have Hg:=hidW (HB.out.trans (Ha.mono HB.out.size));have gw:=(Ha.block P gp).trans hR;clear Bg hR b1 Ht Ha;go_upto_if 22 with fail
 generalize w1.alloc (.cells #[.int .i64 0,.int .i64 0,.int .i64 0,.int .i64 0,.int .i64 0] 51)=W2 at *;generalize w1.heap.size=R0 at *;obtain⟨z0,z1,z2,z3,z4,z5,z6,zf⟩:=zBP gw;have f0:=zf 0;have f1:=zf 1;have f2:=zf 2;have f3:=zf 3;have f4:=zf 4;have f5:=zf 5;have f6:=zf 6;have Hx:=hidW (zFO gw (.int .i64 0) (.int .i64 0) (.int .i64 0) (.int .i64 0) (.int .i64 0) (.int .i64 0) (.int .i64 0));have Hy:=zHQ W2 P (.int .i64 0) (.int .i64 0) (.int .i64 0) (.int .i64 0) (.int .i64 0) (.int .i64 0) (.int .i64 0);have GA:=hidW (Hg.out.grown Hy Hg.out.size (fun k hk=>by cases hk;exact HP.out))
 clear zf Hy gw;go_wp2_with fail;generalize (((((((W2.setCell ⟨P,0,none⟩ (.int .i64 0)).setCell ⟨P,1,none⟩ (.int .i64 0)).setCell ⟨P,2,none⟩ (.int .i64 0)).setCell ⟨P,3,none⟩ (.int .i64 0)).setCell ⟨P,4,none⟩ (.int .i64 0)).setCell ⟨P,5,none⟩ (.int .i64 0)).setCell ⟨P,6,none⟩ (.int .i64 0))=X at *;obtain⟨y0,y1,y2,y3,y4,y5,y6,-⟩:=zBP Hx.out;exact jN (v:=.tuple #[.agg #[.int .i64 0,.int .i64 0,.int .i64 0,.int .i64 0,.int .i64 0,.int .i64 0,.int .i64 0],.iface 90 (.int .i64 K)]) (by simp[results,results101,go_sem,y0,y1,y2,y3,y4,y5,y6]) rfl ⟨rfl,GA.out⟩
theorem zFP(q1 q2:Option Addr)(n1 n2 c1 c2:Nat)(bs ss:List L)(id s p r1 r2 r3 r4 r5 price:Int)(i k:Nat)(w:World)(h1:LS w (.slice q1 n1 c1) bs)(h2:LS w (.slice q2 n2 c2) ss)(hA:At bs ss id s p ⟨r1,r2,r3,r4,r5⟩ i k)(uo:zAo price=true) :
  Calls prog 101 #[.agg #[.slice q1 n1 c1,.slice q2 n2 c2],.int .i64 id,.int .i64 price] w fun e w'=>e=.returned (.tuple #[.agg #[.int .i64 s,.int .i64 p,.int .i64 r1,.int .i64 r2,.int .i64 r3,.int .i64 r4,.int .i64 r5],.nilIface])∧Below w.heap.size w w':=by
 obtain⟨V,hV⟩:∃V,V=(w.alloc (.cells #[.slice q1 n1 c1,.slice q2 n2 c2] 57)).alloc (.cells #[.int .i64 0,.int .i64 0,.int .i64 0,.int .i64 0,.int .i64 0,.int .i64 0,.int .i64 0] 169):=⟨_,rfl⟩;have HB:Hid (Below w.heap.size w V):=by rw[hV];exact((bzR _ _).alloc (nzR _) _).alloc (by simp) _
 have hR:V.heap[w.heap.size+1]?=some (.cells #[.int .i64 0,.int .i64 0,.int .i64 0,.int .i64 0,.int .i64 0,.int .i64 0,.int .i64 0] 169 (0,0)):=by
  rw[hV];have:=jA (w.alloc (.cells #[.slice q1 n1 c1,.slice q2 n2 c2] 57)) (.cells #[.int .i64 0,.int .i64 0,.int .i64 0,.int .i64 0,.int .i64 0,.int .i64 0,.int .i64 0] 169);simpa using this
 obtain⟨P,hP⟩:∃P,P=w.heap.size+1:=⟨_,rfl⟩;rw[←hP] at hR;have HP:Hid (w.heap.size≤P):=by show _≤_;omega
 have gp:P<V.heap.size:=(gzE.1 hR).1;have Bg:=hidW (zBQ q1 q2 n1 n2 c1 c2 bs ss id s p r1 r2 r3 r4 r5 i k V (h1.below HB.out) (h2.below HB.out) hA);clear hA h1 h2;go_enter func101,ntmps101;go_wp2_with fail;rw[←hV];simp only[←hP];clear hV hP;refine Bg.out.mono ?_;rintro x w1⟨rfl,b1⟩;have Ht:Below w1.heap.size w1 (w1.alloc (.cells #[.int .i64 r1,.int .i64 r2,.int .i64 r3,.int .i64 r4,.int .i64 r5] 51)):=(bzR _ _).alloc (nzR _) _;have dt:(w1.alloc (.cells #[.int .i64 r1,.int .i64 r2,.int .i64 r3,.int .i64 r4,.int .i64 r5] 51)).heap[w1.heap.size]?=some (.cells #[.int .i64 r1,.int .i64 r2,.int .i64 r3,.int .i64 r4,.int .i64 r5] 51 (0,0)):=jA w1 _;have Ha:=b1.trans (Ht.mono b1.size);have Hg:=hidW (HB.out.trans (Ha.mono HB.out.size));have gw:=(Ha.block P gp).trans hR;clear Bg hR b1 Ht Ha;go_upto_if 22 with fail
 generalize w1.alloc (.cells #[.int .i64 r1,.int .i64 r2,.int .i64 r3,.int .i64 r4,.int .i64 r5] 51)=W2 at *;generalize w1.heap.size=R0 at *;have Ce:=hidW (zAU W2 price W2 (bzR _ _));rw[uo,show errB true=Value.nilIface from rfl] at Ce
 clear uo;go_wp2_with fail;refine Ce.out.mono ?_;rintro x w3⟨rfl,b3⟩;have HU:=hidW (Hg.out.trans (b3.mono Hg.out.size));have gZ:=(b3.block P (gzE.1 gw).1).trans gw;have Eb:=(b3.block R0 (gzE.1 dt).1).trans dt;obtain⟨r0',r1',r2',r3',r4',-⟩:=zAi Eb;clear b3 Ce Hg gw dt Eb;obtain⟨z0,z1,z2,z3,z4,z5,z6,zf⟩:=zBP gZ;have f0:=zf 0;have f1:=zf 1;have f2:=zf 2;have f3:=zf 3;have f4:=zf 4;have f5:=zf 5;have f6:=zf 6;have Hx:=hidW (zFO gZ (.int .i64 s) (.int .i64 p) (.int .i64 r1) (.int .i64 r2) (.int .i64 r3) (.int .i64 r4) (.int .i64 r5));have Hy:=zHQ w3 P (.int .i64 s) (.int .i64 p) (.int .i64 r1) (.int .i64 r2) (.int .i64 r3) (.int .i64 r4) (.int .i64 r5);have GA:=hidW (HU.out.grown Hy HU.out.size (fun k hk=>by cases hk;exact HP.out))
 clear zf Hy gZ;go_wp2_with fail;generalize (((((((w3.setCell ⟨P,0,none⟩ (.int .i64 s)).setCell ⟨P,1,none⟩ (.int .i64 p)).setCell ⟨P,2,none⟩ (.int .i64 r1)).setCell ⟨P,3,none⟩ (.int .i64 r2)).setCell ⟨P,4,none⟩ (.int .i64 r3)).setCell ⟨P,5,none⟩ (.int .i64 r4)).setCell ⟨P,6,none⟩ (.int .i64 r5))=X at *;obtain⟨y0,y1,y2,y3,y4,y5,y6,-⟩:=zBP Hx.out;exact jN (v:=.tuple #[.agg #[.int .i64 s,.int .i64 p,.int .i64 r1,.int .i64 r2,.int .i64 r3,.int .i64 r4,.int .i64 r5],.nilIface]) (by simp[results,results101,go_sem,y0,y1,y2,y3,y4,y5,y6]) rfl ⟨rfl,GA.out⟩
theorem zOG(q1 q2:Option Addr)(n1 n2 c1 c2:Nat)(bs ss:List L)(id s p r1 r2 r3 r4 r5 price:Int)(i k:Nat)(w:World)(h1:LS w (.slice q1 n1 c1) bs)(h2:LS w (.slice q2 n2 c2) ss)(hA:At bs ss id s p ⟨r1,r2,r3,r4,r5⟩ i k)(uo:zAo price=false) :
  Calls prog 101 #[.agg #[.slice q1 n1 c1,.slice q2 n2 c2],.int .i64 id,.int .i64 price] w fun e w'=>e=.returned (.tuple #[.agg #[.int .i64 0,.int .i64 0,.int .i64 0,.int .i64 0,.int .i64 0,.int .i64 0,.int .i64 0],.iface 90 (.int .i64 1)])∧Below w.heap.size w w':=by
 obtain⟨V,hV⟩:∃V,V=(w.alloc (.cells #[.slice q1 n1 c1,.slice q2 n2 c2] 57)).alloc (.cells #[.int .i64 0,.int .i64 0,.int .i64 0,.int .i64 0,.int .i64 0,.int .i64 0,.int .i64 0] 169):=⟨_,rfl⟩;have HB:Hid (Below w.heap.size w V):=by rw[hV];exact((bzR _ _).alloc (nzR _) _).alloc (by simp) _
 have hR:V.heap[w.heap.size+1]?=some (.cells #[.int .i64 0,.int .i64 0,.int .i64 0,.int .i64 0,.int .i64 0,.int .i64 0,.int .i64 0] 169 (0,0)):=by
  rw[hV];have:=jA (w.alloc (.cells #[.slice q1 n1 c1,.slice q2 n2 c2] 57)) (.cells #[.int .i64 0,.int .i64 0,.int .i64 0,.int .i64 0,.int .i64 0,.int .i64 0,.int .i64 0] 169);simpa using this
 obtain⟨P,hP⟩:∃P,P=w.heap.size+1:=⟨_,rfl⟩;rw[←hP] at hR;have HP:Hid (w.heap.size≤P):=by show _≤_;omega
 have gp:P<V.heap.size:=(gzE.1 hR).1;have Bg:=hidW (zBQ q1 q2 n1 n2 c1 c2 bs ss id s p r1 r2 r3 r4 r5 i k V (h1.below HB.out) (h2.below HB.out) hA);clear hA h1 h2;go_enter func101,ntmps101;go_wp2_with fail;rw[←hV];simp only[←hP];clear hV hP;refine Bg.out.mono ?_;rintro x w1⟨rfl,b1⟩;have Ht:Below w1.heap.size w1 (w1.alloc (.cells #[.int .i64 r1,.int .i64 r2,.int .i64 r3,.int .i64 r4,.int .i64 r5] 51)):=(bzR _ _).alloc (nzR _) _;have Ha:=b1.trans (Ht.mono b1.size);have Hg:=hidW (HB.out.trans (Ha.mono HB.out.size));have gw:=(Ha.block P gp).trans hR;clear Bg hR b1 Ht Ha;go_upto_if 22 with fail
 generalize w1.alloc (.cells #[.int .i64 r1,.int .i64 r2,.int .i64 r3,.int .i64 r4,.int .i64 r5] 51)=W2 at *;generalize w1.heap.size=R0 at *;have Ce:=hidW (zAU W2 price W2 (bzR _ _));rw[uo,show errB false=Value.iface 90 (.int .i64 1) from rfl] at Ce
 clear uo;go_wp2_with fail;refine Ce.out.mono ?_;rintro x w3⟨rfl,b3⟩;have HU:=hidW (Hg.out.trans (b3.mono Hg.out.size));have gZ:=(b3.block P (gzE.1 gw).1).trans gw;clear b3 Ce Hg gw;obtain⟨z0,z1,z2,z3,z4,z5,z6,zf⟩:=zBP gZ;have f0:=zf 0;have f1:=zf 1;have f2:=zf 2;have f3:=zf 3;have f4:=zf 4;have f5:=zf 5;have f6:=zf 6;have Hx:=hidW (zFO gZ (.int .i64 0) (.int .i64 0) (.int .i64 0) (.int .i64 0) (.int .i64 0) (.int .i64 0) (.int .i64 0));have Hy:=zHQ w3 P (.int .i64 0) (.int .i64 0) (.int .i64 0) (.int .i64 0) (.int .i64 0) (.int .i64 0) (.int .i64 0);have GA:=hidW (HU.out.grown Hy HU.out.size (fun k hk=>by cases hk;exact HP.out))
 clear zf Hy gZ;go_wp2_with fail;generalize (((((((w3.setCell ⟨P,0,none⟩ (.int .i64 0)).setCell ⟨P,1,none⟩ (.int .i64 0)).setCell ⟨P,2,none⟩ (.int .i64 0)).setCell ⟨P,3,none⟩ (.int .i64 0)).setCell ⟨P,4,none⟩ (.int .i64 0)).setCell ⟨P,5,none⟩ (.int .i64 0)).setCell ⟨P,6,none⟩ (.int .i64 0))=X at *;obtain⟨y0,y1,y2,y3,y4,y5,y6,-⟩:=zBP Hx.out;exact jN (v:=.tuple #[.agg #[.int .i64 0,.int .i64 0,.int .i64 0,.int .i64 0,.int .i64 0,.int .i64 0,.int .i64 0],.iface 90 (.int .i64 1)]) (by simp[results,results101,go_sem,y0,y1,y2,y3,y4,y5,y6]) rfl ⟨rfl,GA.out⟩
def fE(bs ss:List L)(id price:Int):Int:=if zAc bs ss=0 then (if zAg bs ss id=true then (if zAo price=true then 0 else 1) else 5) else zAc bs ss
theorem zFQ{bs ss:List L}{id price:Int}(h:fE bs ss id price=0):zAc bs ss=0∧zAg bs ss id=true∧zAo price=true:=by
 unfold fE at h;by_cases h0:zAc bs ss=0
 ·rw[if_pos h0] at h;by_cases h1:zAg bs ss id=true
  ·rw[if_pos h1] at h;by_cases h2:zAo price=true
   ·exact⟨h0,h1,h2⟩
   ·rw[if_neg h2] at h;omega
  ·rw[if_neg h1] at h;omega
 ·rw[if_neg h0] at h;exact absurd h h0
theorem zGR(q1 q2:Option Addr)(n1 n2 c1 c2:Nat)(bs ss:List L)(id price:Int)(hid:(Lit.int .i64 id).wf=true)(w:World)(h1:LS w (.slice q1 n1 c1) bs)(h2:LS w (.slice q2 n2 c2) ss)(hE:¬fE bs ss id price=0) :
  Calls prog 101 #[.agg #[.slice q1 n1 c1,.slice q2 n2 c2],.int .i64 id,.int .i64 price] w fun e w'=>e=.returned (.tuple #[.agg #[.int .i64 0,.int .i64 0,.int .i64 0,.int .i64 0,.int .i64 0,.int .i64 0,.int .i64 0],.iface 90 (.int .i64 (fE bs ss id price))])∧Bw w w':=by
 unfold fE at hE ⊢;by_cases h0:zAc bs ss=0
 ·rw[if_pos h0] at hE ⊢;by_cases Hv:zAg bs ss id=true
  ·rw[if_pos Hv] at hE ⊢;by_cases hp:zAo price=true
   ·rw[if_pos hp] at hE;exact absurd rfl hE
   ·rw[if_neg hp];obtain⟨s,p,⟨r1,r2,r3,r4,r5⟩,i,k,hA⟩:=at_of h0 Hv;exact zOG q1 q2 n1 n2 c1 c2 bs ss id s p r1 r2 r3 r4 r5 price i k w h1 h2 hA (by simpa using hp)
  ·rw[if_neg Hv];obtain⟨e1,e2,-⟩:=zAh h0;have hn:¬id∈ids bs∧¬id∈ids ss:=by unfold zAg at Hv;simpa using Hv
   exact zGQ q1 q2 n1 n2 c1 c2 id price 5 w (fun W hW=>zHL q1 q2 n1 n2 c1 c2 bs ss id hid W (h1.below hW) (h2.below hW) h0 (zBh e1 hn.1) (zBh e2 hn.2))
 ·rw[if_neg h0];exact zGQ q1 q2 n1 n2 c1 c2 id price _ w (fun W hW=>bok.wBg q1 q2 n1 n2 c1 c2 bs ss id W (h1.below hW) (h2.below hW) h0)
def zDt(p:Int)(r:R)(price qty:Int):Bool:=decide (price=p) && decide (qty≤r.qty+r.hid)
theorem zFi(s p r1 r2 r3 r4 r5 price qty:Int)(w:World)(hr:rchk ⟨r1,r2,r3,r4,r5⟩=0) :
  Calls prog 102 #[.agg #[.int .i64 s,.int .i64 p,.int .i64 r1,.int .i64 r2,.int .i64 r3,.int .i64 r4,.int .i64 r5],.int .i64 price,.int .i64 qty] w fun e w'=>e=.returned (.bool (zDt p ⟨r1,r2,r3,r4,r5⟩ price qty))∧Bw w w':=by
 have hs:wrap64 (r3+r4)=r3+r4:=by
  obtain⟨a,b,-⟩:=zAq hr;simp only[] at a b;unfold wrap64;omega
 unfold zDt;clear hr;show Calls _ _ _ _ fun e w'=>e=.returned (.bool (decide (price=p) && decide (qty≤r3+r4)))∧Bw w w'
 have hB:Bw w (w.alloc (.cells #[.int .i64 s,.int .i64 p,.int .i64 r1,.int .i64 r2,.int .i64 r3,.int .i64 r4,.int .i64 r5] 169)):=(bzR _ _).alloc (nzR _) _;by_cases hp:price=p
 ·subst hp;have he:(price == price)=true:=by simp
  go_enter func102,ntmps102
  go_wp2
  go_ret;exact⟨by simp,hB⟩
 ·have he:(price == p)=false:=by simp[hp]
  go_enter func102,ntmps102
  go_wp2
  go_ret;exact⟨by simp[hp],hB⟩
theorem zOH(r1 r2 r3 r4 r5 qty:Int)(w:World)(hr:1≤r3∧r3≤10000)(hq:1≤qty∧qty≤10000) :
  Calls prog 136 #[.agg #[.int .i64 r1,.int .i64 r2,.int .i64 r3,.int .i64 r4,.int .i64 r5],.int .i64 qty] w fun e w'=>e=.returned (.agg #[.int .i64 r1,.int .i64 r2,.int .i64 (min r3 qty),.int .i64 (qty - min r3 qty),.int .i64 r5])∧Bw w w':=by
 have hs:wrap64 (qty - min r3 qty)=qty - min r3 qty:=by unfold wrap64;omega
 have hB:Bw w ((w.alloc (.cells #[.int .i64 r1,.int .i64 r2,.int .i64 (min r3 qty),.int .i64 (qty - min r3 qty),.int .i64 r5] 51)).alloc (.cells #[.int .i64 r1,.int .i64 r2,.int .i64 (min r3 qty),.int .i64 (qty - min r3 qty),.int .i64 r5] 51)):=((bzR _ _).alloc (nzR _) _).alloc (by simp) _
 clear hr hq;go_enter func136,ntmps136
 go_wp2
 go_returns
 exact⟨rfl,hB⟩
theorem zOI(s r1 r2 r3 r4 r5 price qty:Int)(w:World) :
  Calls prog 66 #[.agg #[.int .i64 r1,.int .i64 r2,.int .i64 r3,.int .i64 r4,.int .i64 r5],.int .i64 s,.int .i64 price,.int .i64 qty] w fun e w'=>e=.returned (.agg #[.int .i64 r1,.int .i64 r2,.int .i64 s,.int .i64 1,.int .i64 price,.int .i64 qty,.int .i64 (min r5 qty),.int .i64 0])∧Bw w w':=by
 have hB:Bw w ((w.alloc (.cells #[.int .i64 r1,.int .i64 r2,.int .i64 r3,.int .i64 r4,.int .i64 r5] 51)).alloc (.cells #[.int .i64 r1,.int .i64 r2,.int .i64 s,.int .i64 1,.int .i64 price,.int .i64 qty,.int .i64 (min r5 qty),.int .i64 0] 34)):=((bzR _ _).alloc (nzR _) _).alloc (by simp) _
 go_enter func66,ntmps66
 go_wp2
 go_returns
 exact⟨rfl,hB⟩
theorem zLW(q1 q2:Option Addr)(n1 n2 c1 c2:Nat)(bs ss:List L)(id price qty:Int)(hid:(Lit.int .i64 id).wf=true)(w:World)(h1:LS w (.slice q1 n1 c1) bs)(h2:LS w (.slice q2 n2 c2) ss)(hE:¬fE bs ss id price=0) :
  Calls prog 64 #[.agg #[.slice q1 n1 c1,.slice q2 n2 c2],.int .i64 id,.int .i64 price,.int .i64 qty] w fun e w'=>e=.returned (.tuple #[.bool false,.iface 90 (.int .i64 (fE bs ss id price))])∧Bw w w':=by
 obtain⟨V,hV⟩:∃V,V=w.alloc (.cells #[.slice q1 n1 c1,.slice q2 n2 c2] 57):=⟨_,rfl⟩;have HB:Hid (Bw w V):=by rw[hV];exact(bzR _ _).alloc (nzR _) _
 have HF:=hidW (zGR q1 q2 n1 n2 c1 c2 bs ss id price hid V (h1.below HB.out) (h2.below HB.out) hE);clear h1 h2 hid hE;generalize fE bs ss id price=K at *;go_enter func64,ntmps64;go_wp2_with fail;rw[←hV];clear hV;refine HF.out.mono ?_;rintro x w1⟨rfl,b1⟩;have Hc:=HB.out.trans (b1.mono HB.out.size);have HD:=hidW (Hc.alloc Hc.size (.cells #[.int .i64 0,.int .i64 0,.int .i64 0,.int .i64 0,.int .i64 0,.int .i64 0,.int .i64 0] 169));clear HF b1 Hc;go_wp2_with fail
 go_ret2
 exact⟨rfl,HD.out⟩
theorem zIF(q1 q2:Option Addr)(n1 n2 c1 c2:Nat)(bs ss:List L)(id s p r1 r2 r3 r4 r5 price qty:Int)(i k:Nat)(w:World)(h1:LS w (.slice q1 n1 c1) bs)(h2:LS w (.slice q2 n2 c2) ss)(hA:At bs ss id s p ⟨r1,r2,r3,r4,r5⟩ i k)(uo:zAo price=true) :
  Calls prog 64 #[.agg #[.slice q1 n1 c1,.slice q2 n2 c2],.int .i64 id,.int .i64 price,.int .i64 qty] w fun e w'=>e=.returned (.tuple #[.bool (zDt p ⟨r1,r2,r3,r4,r5⟩ price qty),.nilIface])∧Bw w w':=by
 obtain⟨V,hV⟩:∃V,V=w.alloc (.cells #[.slice q1 n1 c1,.slice q2 n2 c2] 57):=⟨_,rfl⟩;have HB:Hid (Bw w V):=by rw[hV];exact(bzR _ _).alloc (nzR _) _
 have HF:=hidW (zFP q1 q2 n1 n2 c1 c2 bs ss id s p r1 r2 r3 r4 r5 price i k V (h1.below HB.out) (h2.below HB.out) hA uo);have HK:=hidW (fun W=>zFi s p r1 r2 r3 r4 r5 price qty W hA.rest)
 clear h1 h2 hA uo;generalize zDt p ⟨r1,r2,r3,r4,r5⟩ price qty=K at *;go_enter func64,ntmps64;go_wp2_with fail;rw[←hV];clear hV;refine HF.out.mono ?_;rintro x w1⟨rfl,b1⟩;have Hc:=HB.out.trans (b1.mono HB.out.size);have HD:=hidW (Hc.alloc Hc.size (.cells #[.int .i64 s,.int .i64 p,.int .i64 r1,.int .i64 r2,.int .i64 r3,.int .i64 r4,.int .i64 r5] 169));clear HF b1 Hc;go_wp2_with fail;refine(HK.out _).mono ?_;rintro x w2⟨rfl,b2⟩;have ut:=hidW (HD.out.trans (b2.mono HD.out.size));clear b2 HK HD;go_wp2_with fail
 go_ret2
 exact⟨rfl,ut.out⟩
end swp
namespace swp
open Go.RowKit spn que sid bok
def upL(r' : R)(l:L):L:=⟨l.price,upR r' l.rests⟩
theorem zQQ{id:Int}{c d:List R}{r:R}(h:id ∉ c.map (·.id))(hr:r.id=id):idx id (c++r::d)=c.length:=by
 induction c with
 | nil=>rw[jU,wAL,if_pos hr];rfl
 | cons x t ih=>
  simp only[jK,List.mem_cons,not_or] at h;rw[List.cons_append,wAL,if_neg (fun e=>h.1 e.symm),ih h.2,if_neg (by omega)]
  simp
theorem zQR{id:Int}{zs:List R}(h:id ∉ zs.map (·.id)):idx id zs<0:=by
 have h1:=(zDV id zs).2 h;rw[zKy] at h1;have:=of_decide_eq_false h1;omega
theorem zIG{r' : R}{ls:List L}(h:r'.id ∉ (allR ls).map (·.id)):ls.map (upL r')=ls:=by
 induction ls with
 | nil=>rfl
 | cons l t ih=>
  rw[zAp,jF,List.mem_append,not_or] at h;rw[jK,ih h.2];unfold upL upR;rw[if_pos (zQR h.1)]
theorem up_at{r' : R}{ls:List L}{i k:Nat}(hn:((allR ls).map (·.id)).Nodup)(hi:i<ls.length)(hk:k<ls[i].rests.length)(hid:r'.id=ls[i].rests[k].id):ls.map (upL r')=setL ls i k r':=by
 obtain⟨a,b,c,d,e1,e2,e3,e4⟩:=zCs hi hk;generalize ls[i].rests[k]=r at *;generalize ls[i].price=p at *;subst e1;subst e2;subst e4;rw[zFN,jF,jK];rw[zDe] at hn;simp only[jF,jK] at hn;obtain⟨n1,n2,n3⟩:=List.nodup_append.1 hn;obtain⟨n4,n5,n6⟩:=List.nodup_append.1 n2;obtain⟨n7,n8,n9⟩:=List.nodup_append.1 n4;have ha:r'.id ∉ (allR a).map (·.id):=fun h=>n3 _ h r.id (by simp) hid
 have hb:r'.id ∉ (allR b).map (·.id):=fun h=>n6 r.id (by simp) _ h hid.symm
 have hc:r'.id ∉ c.map (·.id):=fun h=>n9 _ h r.id (by simp) hid
 rw[zIG ha,zIG hb];unfold upL upR;simp only[];rw[zQQ hc hid.symm,if_neg (by omega),Int.toNat_natCast,zDp]
theorem zJP{bs ss:List L}(h:zAc bs ss=0):((allR bs++allR ss).map (·.id)).Nodup:=by
 obtain⟨-,-,-,z4,-⟩:=zAh h;unfold zAM at z4;have:=of_decide_eq_false z4;exact Classical.byContradiction this
theorem At.up{bs ss:List L}{id s p:Int}{r r' : R}{i k:Nat}(h:At bs ss id s p r i k)(hid:r'.id=id):bs.map (upL r')=kB s bs i k r'∧ss.map (upL r')=kS s ss i k r':=by
 obtain⟨ls,h,-⟩:=h;have hn:=zJP h.h0;rw[jF] at hn;obtain⟨n1,n2,n3⟩:=List.nodup_append.1 hn;have hm:id∈(allR ls).map (·.id):=by
  rw[←h.hr];exact List.mem_map.2 ⟨_,List.mem_flatMap.2 ⟨_,jT h.hi,jT h.hk⟩,rfl⟩
 have hi:=h.hi;have hk:=h.hk;have hr:=h.hr;unfold kB kS;rcases h.side with ⟨rfl,rfl,-⟩|⟨rfl,rfl,-⟩
 ·rw[if_pos rfl,if_pos rfl];exact⟨up_at n1 hi hk (by rw[hid,hr]),zIG (fun hx=>n3 _ hm _ hx hid.symm)⟩
 ·rw[if_neg (by decide),if_neg (by decide)]
  exact⟨zIG (fun hx=>n3 _ hx _ hm hid),up_at n2 hi hk (by rw[hid,hr])⟩
theorem zOJ(id:Int)(B:Nat)(w:World)(hB:B<w.heap.size)(hc:w.cell? ⟨B,0,none⟩=some (.int .i64 id)) :
  PredBelow prog 161 #[.pointer (some ⟨B,0,none⟩)] (fun x=>.agg (rV x).toArray) (fun x=>decide (x.id=id)) w:=by
 intro W x hb;obtain⟨a,b,c,d,e⟩:=x;show Calls prog 161 #[.agg #[.int .i64 a,.int .i64 b,.int .i64 c,.int .i64 d,.int .i64 e],.pointer (some ⟨B,0,none⟩)] W _
 have mT:=zAa hb hc;have hz:B<W.heap.size:=jC hB hb.size;go_enter func161,ntmps161
 go_wp2
 go_ret;exact⟨rfl,hb.alloc hb.size _⟩
theorem zQS(id:Int)(b o c n B:Nat)(zs:List R)(w:World)(hb:b<w.heap.size)(hn:zs.length=n)(hm:n≤9223372036854775807)(hl:Lies w b o zs)(hB:B<w.heap.size)(hc:w.cell? ⟨B,0,none⟩=some (.int .i64 id)) :
  Calls prog 160 #[.slice (some ⟨b,o,none⟩) n c,.func (.func 161) #[] #[.pointer (some ⟨B,0,none⟩)]] w fun e w'=>e=.returned (.int .i64 (idx id zs))∧Bw w w':=by
 have eg:∀args w,(callFunc 161 args).run prog w=.ok (.enter 161 args) w:=enters_of func161 (by kernel_rfl) rfl
 subst hn;have Hf:=AnyQ.slices_IndexFunc Tryz.lq6 5 isAgg51 sizeOf51 rV (fun x=>rfl) (fun x=>decide (x.id=id)) 161 #[.pointer (some ⟨B,0,none⟩)] eg b o zs.length c zs
  w (zOJ id B w hB hc) (nzR _) hm hb hl
 change Calls prog 160 _ _ _ at Hf
 rw[List.take_length,wAK] at Hf;exact Hf
theorem zHR(q1 q2:Option Addr)(n1 n2 c1 c2:Nat)(bs ss:List L)(a b c d e:Int)(w:World)(h1:LS w (.slice q1 n1 c1) bs)(h2:LS w (.slice q2 n2 c2) ss)(h0:zAc bs ss=0) :
  Calls prog 135 #[.agg #[.slice q1 n1 c1,.slice q2 n2 c2],.agg #[.int .i64 a,.int .i64 b,.int .i64 c,.int .i64 d,.int .i64 e]] w fun x w'=>∃u1 u2 m1 m2 d1 d2,x=.returned (.agg #[.slice u1 m1 d1,.slice u2 m2 d2])∧DL w' w.heap.size (.slice u1 m1 d1) (bs.map (upL ⟨a,b,c,d,e⟩))∧DL w' w.heap.size (.slice u2 m2 d2) (ss.map (upL ⟨a,b,c,d,e⟩))∧Below w.heap.size w w':=by
 obtain⟨ee1,ee2,-,-,ee5⟩:=zAh h0;obtain⟨V1,gx⟩:∃V1,V1=w.alloc (.cells #[.slice q1 n1 c1,.slice q2 n2 c2] 57):=⟨_,rfl⟩;obtain⟨V2,gl⟩:∃V2,V2=V1.alloc (.cells #[.int .i64 a,.int .i64 b,.int .i64 c,.int .i64 d,.int .i64 e] 51):=⟨_,rfl⟩;obtain⟨V,hV⟩:∃V,V=V2.alloc (.cells #[.slice none 0 0,.slice none 0 0] 57):=⟨_,rfl⟩;have Hl:V1.heap.size=w.heap.size+1:=by rw[gx];simp
 have H9:V2.heap.size=w.heap.size+2:=by rw[gl];simp[Hl]
 have Hc:Below w.heap.size w V1:=by rw[gx];exact(bzR _ _).alloc (nzR _) _
 have Ha:Below V1.heap.size V1 V2:=by rw[gl];exact(bzR _ _).alloc (nzR _) _
 have Hr:Below V2.heap.size V2 V:=by rw[hV];exact(bzR _ _).alloc (nzR _) _
 have gc:Below w.heap.size w V:=by
  have h:=Hc.trans (Ha.mono Hc.size);exact h.trans (Hr.mono h.size)
 have H5:V.heap[w.heap.size+1]?=some (.cells #[.int .i64 a,.int .i64 b,.int .i64 c,.int .i64 d,.int .i64 e] 51 (0,0)):=by
  rw[Hr.block _ (by omega),←Hl,gl];exact jA V1 _
 have GD:V.heap[w.heap.size+2]?=some (.cells #[.slice none 0 0,.slice none 0 0] 57 (0,0)):=by rw[←H9,hV];exact jA V2 _
 obtain⟨P,hP⟩:∃P,P=w.heap.size+2:=⟨_,rfl⟩;obtain⟨Q,hQ⟩:∃Q,Q=w.heap.size+1:=⟨_,rfl⟩;rw[←hP] at GD;rw[←hQ] at H5;have gV:P<V.heap.size:=(gzE.1 GD).1;have dr:Q<V.heap.size:=(gzE.1 H5).1;have HP:Hid (w.heap.size≤P∧w.heap.size≤V.heap.size∧P<V.heap.size∧Q<V.heap.size):=⟨by omega,gc.size,gV,dr⟩
 have HRQ:Hid (∀W,Below V.heap.size V W→W.cell? ⟨Q,0,none⟩=some (.int .i64 a)∧W.cell? ⟨Q,1,none⟩=some (.int .i64 b)∧W.cell? ⟨Q,2,none⟩=some (.int .i64 c)∧W.cell? ⟨Q,3,none⟩=some (.int .i64 d)∧W.cell? ⟨Q,4,none⟩=some (.int .i64 e)∧W.heap[P]?=some (.cells #[.slice none 0 0,.slice none 0 0] 57 (0,0))∧Below w.heap.size w W):=fun W hW=>by
  obtain⟨y0,y1,y2,y3,y4,-⟩:=zAi ((hW.block Q dr).trans H5);exact⟨y0,y1,y2,y3,y4,(hW.block P gV).trans GD,gc.trans (hW.mono gc.size)⟩
 have uA:=hidW (zJN q1 q2 n1 n2 c1 c2 bs ss V (h1.below gc) (h2.below gc) ee1 ee2);have C9:Hid (∀pa pb:List RP,pa.map toL=bs→pb.map toL=ss→pa.length+pb.length≤60∧∀p∈pa++pb,p.2≠[]∧p.2.length≤60):=fun pa pb ea eb=>by
  have k1:=zFd (zBg ee1);have k2:=zFd (zBg ee2);have k3:pa.length=bs.length:=by rw[←ea,jP]
  have k4:pb.length=ss.length:=by rw[←eb,jP]
  have k5:(allR bs).length+(allR ss).length≤60:=by rw[←jE];exact ee5
  rw[zAQ] at k1 k2;refine⟨by omega,fun p hp=>?_⟩
  rcases List.mem_append.1 hp with hp|hp
  ·have hm:toL p∈bs:=by rw[←ea];exact List.mem_map.2 ⟨p,hp,rfl⟩
   have:=zAV hm;rw[zAQ] at this;exact⟨zBg ee1 _ hm,by have h9:((toL p).rests.length:Int)≤_:=this;rw[zGy] at h9;omega⟩
  ·have hm:toL p∈ss:=by rw[←eb];exact List.mem_map.2 ⟨p,hp,rfl⟩
   have:=zAV hm;rw[zAQ] at this;exact⟨zBg ee2 _ hm,by have h9:((toL p).rests.length:Int)≤_:=this;rw[zGy] at h9;omega⟩
 clear h1 h2 Hl H9 Hc Ha Hr gc H5 GD gV dr ee1 ee2 ee5 h0;go_enter func135,ntmps135;go_wp2_with fail;rw[←gx,←gl,←hV];simp only[←hP];simp only[←hQ];clear gx gl hV hP hQ;refine uA.out.mono ?_;rintro x w1⟨qa,qb,ma,mb,ca,cb,pa,pb,rfl,bF,ea,eb,T⟩;obtain⟨EE,H8⟩:=C9.out pa pb ea eb;obtain⟨PS,dq⟩:∃PS,PS=pa++pb:=⟨_,rfl⟩;have gb:Below w1.heap.size w1 (w1.alloc (.cells #[.slice qa ma ca,.slice qb mb cb] 57)):=(bzR _ _).alloc (nzR _) _;have hRF:(w1.alloc (.cells #[.slice qa ma ca,.slice qb mb cb] 57)).heap[w1.heap.size]?=some (.cells #[.slice qa ma ca,.slice qb mb cb] 57 (0,0)):=jA w1 _;obtain⟨W3,gQ⟩:∃W3,W3=(w1.alloc (.cells #[.slice qa ma ca,.slice qb mb cb] 57)).alloc (.cells #[.slice qa ma ca,.slice qb mb cb] 55):=⟨_,rfl⟩;have Hr:Below w1.heap.size w1 W3:=by rw[gQ];exact gb.alloc gb.size _
 have UU:W3.heap.size=w1.heap.size+2:=by rw[gQ];simp
 have eZ:W3.heap[w1.heap.size]?=some (.cells #[.slice qa ma ca,.slice qb mb cb] 57 (0,0)):=by
  rw[gQ,((bzR _ _).alloc (nzR _) _).block _ (by simp)];exact hRF
 have hc0:W3.cell? ⟨w1.heap.size+1,0,none⟩=some (.slice qa ma ca):=by rw[gQ];simp[go_sem]
 have Gn:W3.cell? ⟨w1.heap.size+1,1,none⟩=some (.slice qb mb cb):=by rw[gQ];simp[go_sem]
 have T3:=T.below Hr;have uy:=rlv.wAG (w1.heap.size+1) 2 2 (fun j=>if j=0 then .slice qa ma ca else .slice qb mb cb) (fun j=>if j=0 then pa.map (·.1) else pb.map (·.1)) W3 (by omega)
  (fun j hj=>by
   rcases(show j=0∨j=1 by omega) with rfl|rfl
   ·exact hc0
   ·exact Gn)
  (fun j hj=>by
   rcases(show j=0∨j=1 by omega) with rfl|rfl
   ·exact rlv.OwnQ.sl T3.own1
   ·exact rlv.OwnQ.sl T3.own2)
  (by simp[rlv.upto];omega)
 rw[show rlv.upto (fun j=>if j=0 then pa.map (·.1) else pb.map (·.1)) 2=PS.map (·.1) by rw[dq,jF];simp[rlv.upto]] at uy
 have HI:Hid (∀v4 w4,rlv.OwnQ w4 W3.heap.size v4 (PS.map (·.1))→Below W3.heap.size W3 w4→RepI V w1.heap.size (.slice qa ma ca) (.slice qb mb cb) v4 PS pa.length ⟨a,b,c,d,e⟩ 0 w4):=fun v4 w4 hO Ub=>
  ⟨(bF.trans (Hr.mono bF.size)).trans (Ub.mono (bF.trans (Hr.mono bF.size)).size),(Ub.block _ (by omega)).trans eZ,OwnM.mono hO (by omega),pa,pb,T3.below Ub,by rw[dq];rfl,rfl⟩
 have gO:Hid (∀W,RepI V w1.heap.size (.slice qa ma ca) (.slice qb mb cb) (.slice none 0 0) PS pa.length ⟨a,b,c,d,e⟩ PS.length W∨(∃v4,RepI V w1.heap.size (.slice qa ma ca) (.slice qb mb cb) v4 PS pa.length ⟨a,b,c,d,e⟩ PS.length W)→DL W V.heap.size (.slice qa ma ca) (bs.map (upL ⟨a,b,c,d,e⟩))∧DL W V.heap.size (.slice qb mb cb) (ss.map (upL ⟨a,b,c,d,e⟩))):=fun W hh=>by
  have:∃v4,RepI V w1.heap.size (.slice qa ma ca) (.slice qb mb cb) v4 PS pa.length ⟨a,b,c,d,e⟩ PS.length W:=by
   rcases hh with h|h
   ·exact⟨_,h⟩
   ·exact h
  obtain⟨v4,h⟩:=this;obtain⟨xa,xb,t1,t2,t3⟩:=h.two;rw[List.take_length,List.drop_length,jH,dq,jF] at t2;obtain⟨t4,t5⟩:=List.append_inj t2 (by rw[t3,jP])
  have hu:∀ps:List RP,(ps.map (upP ⟨a,b,c,d,e⟩)).map toL=(ps.map toL).map (upL ⟨a,b,c,d,e⟩):=fun ps=>by rw[List.map_map,List.map_map];rfl
  exact⟨⟨xa,by rw[t4,hu,ea],t1.deep1⟩,⟨xb,by rw[t5,hu,eb],t1.deep2⟩⟩
 have uh:Hid (∀p∈PS,p.2≠[]∧p.2.length≤60):=by rw[dq];exact H8
 have Pr:PS.length≤60:=by rw[dq,jE];exact EE
 have DF:=hidW Pr;clear Pr H8 EE T T3 dq ea eb gb hRF eZ hc0 Gn Hr uA C9 bF;generalize pa.length=m at *;have hs3':=hidW UU;clear UU;go_wp2_with fail;rw[←gQ];clear gQ;refine uy.mono ?_;rintro x w4⟨v4,rfl,Cn,Ub⟩;have HI4:=hidW (HI.out v4 w4 Cn Ub);obtain⟨q4,k4,hf⟩:=OwnM.form Cn;rw[jP] at hf;subst hf;clear HI uy Cn Ub hs3';generalize hF:w1.heap.size=F at *;generalize hn:PS.length=n at *;have HN:=hidW hn;clear hF hn;go_wp2_with fail;go_loopg [7,8,18] n (fun gg _ _ s18 wr=>∃jj:Nat,jj≤n∧n - jj≤gg∧s18=.int .i64 jj∧Aside (RepI V F (.slice qa ma ca) (.slice qb mb cb) (.slice q4 n k4) PS m ⟨a,b,c,d,e⟩ jj wr))
 case atStart=>exact⟨0,jL _,by omega,rfl,HI4.out⟩
 case round=>
  obtain⟨jj,bL,hg,rfl,AD⟩:=hrel;by_cases Hi:jj<n
  ·have Hp:(jj:Int)<(n:Int):=by omega
   have gR:¬((jj:Int)<0):=by omega
   have BN:jj<PS.length:=by rw[HN.out];exact Hi
   obtain⟨p,hp⟩:∃p,PS[jj]=p:=⟨_,rfl⟩;have CP:p∈PS:=by rw[←hp];exact jT BN
   obtain⟨gu,gA⟩:=uh.out p CP;have uy:=AD.out.cat;have CJ:=AD.out.level BN;rw[hp] at CJ;have cd:PS.map (·.1)=(PS.take jj).map (·.1)++p.1::(PS.drop (jj+1)).map (·.1):=by
    rw[←hp,←jK,←List.drop_eq_getElem_cons BN,←jF,jR]
   have hq4:∃g off,q4=some ⟨g,off,none⟩:=by
    rcases uy.2 with ⟨hv,-⟩|⟨g,off,cap,cur,hv,-⟩
    ·simp only[Value.slice.injEq] at hv;omega
    ·simp only[Value.slice.injEq] at hv;exact⟨g,off,hv.1⟩
   obtain⟨g4,o4,rfl⟩:=hq4;have BG:rlv.OwnQ wr F (.slice (some ⟨g4,o4,none⟩) n k4) ((PS.take jj).map (·.1)++p.1::(PS.drop (jj+1)).map (·.1)):=by rw[←cd];exact uy
   obtain⟨-,l0,l1,-⟩:=zDo BG;rw[jP,jJ,show min jj PS.length=jj by omega] at l0 l1
   obtain⟨⟨pp,pq,pn,pc⟩,zs⟩:=p;obtain⟨hO5,EG⟩:(∃g5 o5,pq=some ⟨g5,o5,none⟩)∧pn=zs.length:=by
    rcases CJ.2 with ⟨hv,gE⟩|⟨g,off,cap,cur,hv,-⟩
    ·exact absurd (List.length_eq_zero_iff.1 gE) gu
    ·have gU : Value.slice pq pn pc=.slice (some ⟨g,off,none⟩) zs.length cap:=hv;simp only[Value.slice.injEq] at gU;exact⟨⟨g,off,gU.1⟩,gU.2.1⟩
   obtain⟨g5,o5,rfl⟩:=hO5;subst EG;simp only[] at l0 l1 gu gA;have mv:Below wr.heap.size wr (wr.alloc (.cells #[.int .i64 pp,.slice (some ⟨g5,o5,none⟩) zs.length pc] 54)):=(bzR _ _).alloc (nzR _) _;have bu:(wr.alloc (.cells #[.int .i64 pp,.slice (some ⟨g5,o5,none⟩) zs.length pc] 54)).heap[wr.heap.size]?=some (.cells #[.int .i64 pp,.slice (some ⟨g5,o5,none⟩) zs.length pc] 54 (0,0)):=jA wr _;have dm:=AD.out.on mv;obtain⟨U8,gB,-,M6⟩:=OwnM.cells (show OwnM _ _ _ _ (.slice (some ⟨g5,o5,none⟩) zs.length pc) _ _ from dm.level BN |>fun h=>by rw[hp] at h;exact h)
   have BR:Lies (wr.alloc (.cells #[.int .i64 pp,.slice (some ⟨g5,o5,none⟩) zs.length pc] 54)) g5 o5 zs:=by
    have h9:=OwnQ.sl (show OwnQ _ _ (.slice (some ⟨g5,o5,none⟩) zs.length pc) zs from dm.level BN |>fun h=>by rw[hp] at h;exact h)
    rcases h9 with ⟨h9,-⟩|⟨b9,o9,c9,h9,-,-,-,pN⟩
    ·cases h9
    ·simp only[Value.slice.injEq,Option.some.injEq,Addr.mk.injEq] at h9;obtain⟨⟨rfl,rfl,-⟩,-⟩:=h9;exact pN
   obtain⟨y0,y1,y2,y3,y4,-,-⟩:=HRQ.out _ dm.below;have hQs:Q<(wr.alloc (.cells #[.int .i64 pp,.slice (some ⟨g5,o5,none⟩) zs.length pc] 54)).heap.size:=jC HP.out.2.2.2 dm.below.size;have Ms:=hidW (zQS a g5 o5 pc zs.length Q zs _ M6 rfl (by omega) BR hQs y0)
   have HI5:=hidW dm;clear U8 gB M6 BR y0 y1 y2 y3 y4 hQs dm uy BG CJ cd AD gu;have HZ2:=hidW gA;clear gA;go_wp2_with fail;refine Ms.out.mono ?_;rintro x w6⟨rfl,b6⟩;have dn:=HI5.out.on b6;have hR6:=(b6.block _ (gzE.1 bu).1).trans bu;obtain⟨z0,z1,-⟩:=zAb hR6;clear Ms HI5 b6 bu hR6 mv l0 l1;by_cases Ud:idx a zs<0
   ·have bH:¬(idx a zs≥0):=(by omega);have hge2:¬(0≤idx a zs):=(by omega);have HI7:=hidW (dn.pass BN (by rw[hp];exact Ud))
    generalize idx a zs=ix at *;clear dn hp CP;go_wp2_with fail;go_roundg (n - (jj+1))
    case measure=>omega
    case rel=>exact⟨jj+1,by omega,by omega,by rw[show wrap64 ((jj:Int)+1)=((jj+1:Nat):Int) by have hq:=DF.out;unfold wrap64;omega],HI7.out⟩
   ·obtain⟨k,hk⟩:∃k:Nat,idx a zs=(k:Int):=⟨(idx a zs).toNat,by omega⟩
    have hkl:k<zs.length:=(by have:=wBj a zs;omega);have HI7:=hidW (dn.put BN hp hk);obtain⟨U8,gB,-,M6⟩:=OwnM.cells (show OwnM _ _ _ _ (.slice (some ⟨g5,o5,none⟩) zs.length pc) _ _ from dn.level BN |>fun h=>by rw[hp] at h;exact h)
    have gv:∀j(hj:j<5),∃u,w6.cell? ⟨g5,o5+(k*5+j),none⟩=some u:=fun j hj=>by
     have Hh:k*5+j<(flat zs).length:=(by rw[wAl];omega);exact⟨_,U8 (k*5+j) _ (List.getElem?_eq_getElem Hh)⟩
    obtain⟨u0,t0⟩:=gv 0 (by omega)
    obtain⟨u1,t1⟩:=gv 1 (by omega)
    obtain⟨u2,t2⟩:=gv 2 (by omega)
    obtain⟨u3,t3⟩:=gv 3 (by omega)
    obtain⟨u4,t4⟩:=gv 4 (by omega)
    simp only[←Nat.add_assoc,Nat.add_zero] at t0 t1 t2 t3 t4;have f0:=gB (o5+k*5);have f1:=gB (o5+k*5+1);have f2:=gB (o5+k*5+2);have f3:=gB (o5+k*5+3);have f4:=gB (o5+k*5+4);obtain⟨y0,y1,y2,y3,y4,-,-⟩:=HRQ.out _ dn.below;have k0:¬((k:Int)<0):=(by omega);have k1:(k:Int)<(zs.length:Int):=(by omega);have k4' : (0:Int)≤(k:Int):=(by omega);rw[hk];clear gv U8 gB dn hp CP hk Ud HZ2;generalize zs.length=zn at *;go_wp2_with fail;go_roundg (n - (jj+1))
    case measure=>omega
    case rel=>exact⟨jj+1,by omega,by omega,by rw[show wrap64 ((jj:Int)+1)=((jj+1:Nat):Int) by have hq:=DF.out;unfold wrap64;omega],HI7.out⟩
  ·have Hp:¬(jj:Int)<(n:Int):=by omega
   have EC:jj=n:=by omega
   subst EC;have hE:=gO.out wr (.inr ⟨_,AD.out⟩);obtain⟨x0,x1,-⟩:=zAb AD.out.row;obtain⟨-,-,-,-,-,gm,hBw⟩:=HRQ.out _ AD.out.below;obtain⟨z0,z1,zf⟩:=zAb gm;have zf0:=zf 0;have zf1:=zf 1;have Hu:=zAT wr P (.slice qa ma ca) (.slice qb mb cb);have Hx:=hidW (zAz gm (.slice qa ma ca) (.slice qb mb cb));have Hz:=hidW (show DL ((wr.setCell ⟨P,0,none⟩ (.slice qa ma ca)).setCell ⟨P,1,none⟩ (.slice qb mb cb)) w.heap.size (.slice qa ma ca) (bs.map (upL ⟨a,b,c,d,e⟩))∧DL ((wr.setCell ⟨P,0,none⟩ (.slice qa ma ca)).setCell ⟨P,1,none⟩ (.slice qb mb cb)) w.heap.size (.slice qb mb cb) (ss.map (upL ⟨a,b,c,d,e⟩))∧Below w.heap.size w ((wr.setCell ⟨P,0,none⟩ (.slice qa ma ca)).setCell ⟨P,1,none⟩ (.slice qb mb cb)) from
    ⟨(hE.1.other Hu HP.out.2.2.1).mono HP.out.2.1,(hE.2.other Hu HP.out.2.2.1).mono HP.out.2.1,hBw.grown Hu hBw.size (fun k hk=>by cases hk;exact HP.out.1)⟩)
   clear zf hE AD gm hBw Hu gO uh HRQ HI4;go_wp2_with fail;generalize ((wr.setCell ⟨P,0,none⟩ (.slice qa ma ca)).setCell ⟨P,1,none⟩ (.slice qb mb cb))=Z at *;obtain⟨y0,y1,-⟩:=zAb Hx.out;exact jN (v:=.agg #[.slice qa ma ca,.slice qb mb cb]) (by simp[results,results135,go_sem,y0,y1]) rfl ⟨_,_,_,_,_,_,rfl,Hz.out⟩
end swp
end Go.Proofs.YtnfilcpnneckkaaGreat
