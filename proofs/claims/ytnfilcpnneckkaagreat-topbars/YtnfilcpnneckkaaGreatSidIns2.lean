import Derived.Test.YtnfilcpnneckkaaGreatSelMem
import Derived.BigRegion
import Derived.Deep.RegionWith
import Derived.Shelf.Spec.SlicesInsertGrow
set_option maxHeartbeats 4000000
set_option maxRecDepth 100000
namespace Go.Proofs.YtnfilcpnneckkaaGreat
open Tryz
namespace slf
open Go.RowKit spn que sid bok mee
open ord (O oV mB mE chk)
theorem hidT{P:Prop}(h:P):Hid P:=h
theorem zGH(VB:Nat)(a b c d p q s t:Int)(w:World) :
  Calls prog 151 #[.pointer (some ⟨VB,0,none⟩),.agg #[.int .i64 a,.int .i64 b,.int .i64 c,.int .i64 d,.int .i64 p,.int .i64 q,.int .i64 s,.int .i64 t],.int .i64 0] w fun e w'=>e=.returned .nilIface∧Bw w w':=by
 go_enter func151,ntmps151;go_wp2_with fail;go_ret;exact⟨rfl,(bzR _ _).alloc (nzR _) _⟩
theorem zQI{U w' : World}(h:Below (U.alloc (.cells #[.slice none 0 0,.slice none 0 0] 57)).drew.heap.size (U.alloc (.cells #[.slice none 0 0,.slice none 0 0] 57)).drew w'):w'.heap[U.heap.size]?=some (.cells #[.slice none 0 0,.slice none 0 0] 57 (0,0)):=by
 have e:(U.alloc (.cells #[.slice none 0 0,.slice none 0 0] 57)).drew.heap=(U.alloc (.cells #[.slice none 0 0,.slice none 0 0] 57)).heap:=rfl;have h1:=h.block U.heap.size (by rw[e];simp)
 rw[e] at h1;exact h1.trans (jA U _)
def TakeV(w0:World)(o:O)(bs ss X:List L)(ts:List T)(ids:List Int)(left gone k:Int)(iv:Value)(base VB:Nat)(w:World)(e:Ending)(w' : World):Prop:=
 ((ts++(tkl o X k).2.1).length≤400→e=.returned .nilIface∧∃q1 q2 n1 n2 c1 c2 tv,w'.heap[VB]?=some (.cells #[.slice q1 n1 c1,.slice q2 n2 c2,tv,.int .i64 (left - k),.int .i64 gone,iv] 203 (0,0))∧SafeS w0 w' base (.slice q1 n1 c1) (repB o bs (tkl o X k).1)∧SafeS w0 w' base (.slice q2 n2 c2) (repS o ss (tkl o X k).1)∧OwnT w' base tv (ts++(tkl o X k).2.1)∧OwnI w' base iv ids)∧
 (¬(ts++(tkl o X k).2.1).length≤400→e=.returned (.iface 90 (.int .i64 4)))∧FarV w w' base VB
theorem zLA(w0:World)(VB base:Nat)(q1 q2:Option Addr)(n1 n2 c1 c2:Nat)(tv iv:Value)(bs ss X:List L)(ts:List T)(ids:List Int)(left gone k:Int)(a b c d p q s t:Int)(w:World)
  (Hd:w.heap[VB]?=some (.cells #[.slice q1 n1 c1,.slice q2 n2 c2,tv,.int .i64 left,.int .i64 gone,iv] 203 (0,0)))
  (h1:LS w (.slice q1 n1 c1) (repB ⟨a,b,c,d,p,q,s,t⟩ bs X)) (h2:LS w (.slice q2 n2 c2) (repS ⟨a,b,c,d,p,q,s,t⟩ ss X)) (hT:OwnT w base tv ts) (hI:OwnI w base iv ids) (pX:VB<base) (Hq:base≤w.heap.size) (dR:ts.length≤400)
  (hX:∀l∈X,lchk l=0) (my:1≤k) (Gg:k≤left) (hl:left≤10000) (hC:zAu (repB ⟨a,b,c,d,p,q,s,t⟩ bs X) (repS ⟨a,b,c,d,p,q,s,t⟩ ss X) (part ⟨a,b,c,d,p,q,s,t⟩ k)=0) (hz:(tkl ⟨a,b,c,d,p,q,s,t⟩ X k).2.2=0) :
  Calls prog 151 #[.pointer (some ⟨VB,0,none⟩),.agg #[.int .i64 a,.int .i64 b,.int .i64 c,.int .i64 d,.int .i64 p,.int .i64 q,.int .i64 s,.int .i64 t],.int .i64 k] w fun e w'=>TakeV w0 ⟨a,b,c,d,p,q,s,t⟩ bs ss X ts ids left gone k iv base VB w e w':=by
 obtain⟨U,hU⟩:∃U,U=w.alloc (.cells #[.int .i64 a,.int .i64 b,.int .i64 c,.int .i64 d,.int .i64 p,.int .i64 k,.int .i64 0,.int .i64 t] 34):=⟨_,rfl⟩;have Ch:Below w.heap.size w U:=by rw[hU];exact(bzR _ _).alloc (nzR _) _
 have hrU:U.heap[w.heap.size]?=some (.cells #[.int .i64 a,.int .i64 b,.int .i64 c,.int .i64 d,.int .i64 p,.int .i64 k,.int .i64 0,.int .i64 t] 34 (0,0)):=by rw[hU];exact jA w _
 obtain⟨Q,hQ⟩:∃Q,Q=w.heap.size:=⟨_,rfl⟩;rw[←hQ] at hrU;have dr:Q<U.heap.size:=(gzE.1 hrU).1;have hVQ:VB<Q:=by omega
 have HBU:=hidT Ch;have Ml:=(Ch.block VB (by omega)).trans Hd
 have HTU:=hidT (OwnM.below hT Ch);have HIU:=hidT (OwnM.below hI Ch);have C5:Hid (zAu (repB ⟨a,b,c,d,p,q,s,t⟩ bs X) (repS ⟨a,b,c,d,p,q,s,t⟩ ss X) ⟨a,b,c,d,p,k,0,t⟩=0):=hC;have PN:Hid (metR (repB ⟨a,b,c,d,p,q,s,t⟩ bs X) (repS ⟨a,b,c,d,p,q,s,t⟩ ss X) ⟨a,b,c,d,p,k,0,t⟩=tkl ⟨a,b,c,d,p,q,s,t⟩ X k∧metB (repB ⟨a,b,c,d,p,q,s,t⟩ bs X) (repS ⟨a,b,c,d,p,q,s,t⟩ ss X) ⟨a,b,c,d,p,k,0,t⟩=repB ⟨a,b,c,d,p,q,s,t⟩ bs (tkl ⟨a,b,c,d,p,q,s,t⟩ X k).1∧metS (repB ⟨a,b,c,d,p,q,s,t⟩ bs X) (repS ⟨a,b,c,d,p,q,s,t⟩ ss X) ⟨a,b,c,d,p,k,0,t⟩=repS ⟨a,b,c,d,p,q,s,t⟩ ss (tkl ⟨a,b,c,d,p,q,s,t⟩ X k).1):=
  ⟨zFI ⟨a,b,c,d,p,q,s,t⟩ bs ss X k,zOh ⟨a,b,c,d,p,q,s,t⟩ bs ss X k,zOi ⟨a,b,c,d,p,q,s,t⟩ bs ss X k⟩
 have uh:Hid (¬(tkl ⟨a,b,c,d,p,q,s,t⟩ X k).2.1=[]∧(tkl ⟨a,b,c,d,p,q,s,t⟩ X k).2.1.length≤10000):=by
  have h:=zQG (o:=⟨a,b,c,d,p,q,s,t⟩) X k (by omega) hX
  refine⟨fun e=>?_,by omega⟩
  rw[e] at h;simp only[sumT] at h;omega
 obtain⟨TK,BB⟩:∃TK,tkl ⟨a,b,c,d,p,q,s,t⟩ X k=TK:=⟨_,rfl⟩;have Ua:=hidT BB;have Gt:=hidT (show VB<base∧base≤w.heap.size∧ts.length≤400∧VB<Q∧Q=w.heap.size∧Q<U.heap.size from⟨pX,Hq,dR,hVQ,hQ,dr⟩)
 have Ue:(k == 0)=false:=by simp;omega
 have E1:Hid (wrap64 (left - k)=left - k):=by show _=_;unfold wrap64;omega
 obtain⟨BX,Mc⟩:∃BX,repB ⟨a,b,c,d,p,q,s,t⟩ bs TK.1=BX:=⟨_,rfl⟩;obtain⟨SX,dv⟩:∃SX,repS ⟨a,b,c,d,p,q,s,t⟩ ss TK.1=SX:=⟨_,rfl⟩;obtain⟨US,Eg⟩:∃US,TK.2.1=US:=⟨_,rfl⟩;unfold TakeV;rw[BB];rw[BB] at PN uh;rw[Mc,dv] at PN;rw[Mc,dv,Eg];rw[Eg] at uh;obtain⟨DE,hDE⟩:∃DE:Int,(if 400<US.length then 4 else 0)=DE:=⟨_,rfl⟩
 have HDE:Hid (doE (repB ⟨a,b,c,d,p,q,s,t⟩ bs X) (repS ⟨a,b,c,d,p,q,s,t⟩ ss X) ⟨a,b,c,d,p,k,0,t⟩=DE):=by
  show _=_
  unfold doE;rw[if_pos C5.out,PN.out.1,Eg];exact hDE
 have Mq:Hid (∀W,Below U.heap.size U W→Calls prog 24 #[.agg #[.slice q1 n1 c1,.slice q2 n2 c2],.agg #[.int .i64 a,.int .i64 b,.int .i64 c,.int .i64 d,.int .i64 p,.int .i64 k,.int .i64 0,.int .i64 t]] W fun e w'=>∃u1 u2 m1 m2 k1 k2 uq un uc z,e=.returned (.tuple #[.agg #[.slice u1 m1 k1,.slice u2 m2 k2],.slice uq un uc,.int .i64 z,errV DE])∧(DE=0→DL w' W.heap.size (.slice u1 m1 k1) BX∧DL w' W.heap.size (.slice u2 m2 k2) SX∧OwnT w' W.heap.size (.slice uq un uc) US)∧Below U.heap.size U w'∧Below W.heap.size W w'):=fun W hW=>by
  refine(zLq q1 q2 n1 n2 c1 c2 (repB ⟨a,b,c,d,p,q,s,t⟩ bs X) (repS ⟨a,b,c,d,p,q,s,t⟩ ss X) a b c d p k 0 t W ((h1.below Ch).below hW) ((h2.below Ch).below hW)).mono ?_;rintro e w'⟨i1,i2,hb⟩;have hd:=HDE.out;obtain⟨m1,m2,m3⟩:=PN.out;by_cases h0:doE (repB ⟨a,b,c,d,p,q,s,t⟩ bs X) (repS ⟨a,b,c,d,p,q,s,t⟩ ss X) ⟨a,b,c,d,p,k,0,t⟩=0
  ·obtain⟨u1,u2,mm1,mm2,k1,k2,uv,rfl,D1,D2,OT⟩:=i1 h0;rw[m1,Eg] at OT;rw[m2] at D1;rw[m3] at D2;obtain⟨uq,uc,hf⟩:=OwnM.form OT;subst hf;exact⟨u1,u2,mm1,mm2,k1,k2,uq,_,uc,_,by rw[←hd,h0];rfl,fun _=>⟨D1,D2,OT⟩,hW.trans (hb.mono hW.size),hb⟩
  ·have e:=i2 h0;subst e;exact⟨none,none,0,0,0,0,none,0,0,0,by rw[hd],fun h=>absurd (hd.trans h) h0,hW.trans (hb.mono hW.size),hb⟩
 have HDX:=hidT hDE;clear Mc dv Eg hDE;clear Hd h1 h2 hT hI pX Hq dR hX my Gg hl hC hz Ch hVQ dr BB;go_enter func151,ntmps151;go_upto_region 4 with fail
 rw[←hU];simp only[←hQ];clear hU hQ;obtain⟨j0,j1,j2,j3,j4,j5,j6,j7,-⟩:=rowO hrU;obtain⟨x0,x1,x2,x3,x4,x5,xf⟩:=rowV Ml;have HNQ:Hid (VB<U.heap.size):=(gzE.1 Ml).1;have DY:Hid (∀W3 u1 u2 m1 m2 k1 k2 uq un uc X0 B,Below U.heap.size U W3→(DE=0→DL W3 B (.slice u1 m1 k1) BX∧DL W3 B (.slice u2 m2 k2) SX∧OwnT W3 B (.slice uq un uc) US)→U.heap.size≤X0→X0<B→W3.heap[X0]?=some (.cells #[.slice none 0 0,.slice none 0 0] 57 (0,0))→
   ((W3.setCell ⟨X0,0,none⟩ (.slice u1 m1 k1)).setCell ⟨X0,1,none⟩ (.slice u2 m2 k2)).heap[X0]?=some (.cells #[.slice u1 m1 k1,.slice u2 m2 k2] 57 (0,0))∧Aside (U.heap.size≤X0∧Below U.heap.size U ((W3.setCell ⟨X0,0,none⟩ (.slice u1 m1 k1)).setCell ⟨X0,1,none⟩ (.slice u2 m2 k2))∧(DE=0→DL ((W3.setCell ⟨X0,0,none⟩ (.slice u1 m1 k1)).setCell ⟨X0,1,none⟩ (.slice u2 m2 k2)) U.heap.size (.slice u1 m1 k1) BX∧DL ((W3.setCell ⟨X0,0,none⟩ (.slice u1 m1 k1)).setCell ⟨X0,1,none⟩ (.slice u2 m2 k2)) U.heap.size (.slice u2 m2 k2) SX∧OwnT ((W3.setCell ⟨X0,0,none⟩ (.slice u1 m1 k1)).setCell ⟨X0,1,none⟩ (.slice u2 m2 k2)) U.heap.size (.slice uq un uc) US))):=fun W3 u1 u2 m1 m2 k1 k2 uq un uc X0 B hB hD hX0 hXB hr=>by
  have hg:=zAT W3 X0 (.slice u1 m1 k1) (.slice u2 m2 k2);refine⟨zAz hr _ _,hX0,hB.grown hg hB.size (fun k hk=>by cases hk;omega),fun h=>?_⟩
  obtain⟨d1,d2,d3⟩:=hD h;exact⟨(d1.other hg hXB).mono (by omega),(d2.other hg hXB).mono (by omega),OwnM.mono (zAm d3 hg (fun z hz e=>by cases e;have:=(OwnM.lt d3 X0 hz).1;omega)) (by omega)⟩
 have Bo:Hid (∀W3 u1 u2 m1 m2 k1 k2 uq un uc B,Below U.heap.size U W3→U.heap.size≤B→(DE=0→DL W3 B (.slice u1 m1 k1) BX∧DL W3 B (.slice u2 m2 k2) SX∧OwnT W3 B (.slice uq un uc) US)→
   (W3.alloc (.cells #[.slice u1 m1 k1,.slice u2 m2 k2] 57)).heap[W3.heap.size]?=some (.cells #[.slice u1 m1 k1,.slice u2 m2 k2] 57 (0,0))∧Aside (U.heap.size≤W3.heap.size∧Below U.heap.size U (W3.alloc (.cells #[.slice u1 m1 k1,.slice u2 m2 k2] 57))∧(DE=0→DL (W3.alloc (.cells #[.slice u1 m1 k1,.slice u2 m2 k2] 57)) U.heap.size (.slice u1 m1 k1) BX∧DL (W3.alloc (.cells #[.slice u1 m1 k1,.slice u2 m2 k2] 57)) U.heap.size (.slice u2 m2 k2) SX∧OwnT (W3.alloc (.cells #[.slice u1 m1 k1,.slice u2 m2 k2] 57)) U.heap.size (.slice uq un uc) US))):=fun W3 u1 u2 m1 m2 k1 k2 uq un uc B hB hUB hD=>by
  have Ht:Below W3.heap.size W3 (W3.alloc (.cells #[.slice u1 m1 k1,.slice u2 m2 k2] 57)):=(bzR _ _).alloc (nzR _) _;refine⟨jA W3 _,hB.size,hB.trans (Ht.mono hB.size),fun h=>?_⟩
  obtain⟨d1,d2,d3⟩:=hD h;exact⟨(d1.below Ht).mono hUB,(d2.below Ht).mono hUB,OwnM.mono (OwnM.below d3 Ht) hUB⟩
 have SO:Hid (∀W,Below U.heap.size U W→(Below U.heap.size U W∧W.cell? ⟨VB,0,none⟩=some (.slice q1 n1 c1)∧W.cell? ⟨VB,1,none⟩=some (.slice q2 n2 c2)∧W.cell? ⟨Q,0,none⟩=some (.int .i64 a)∧W.cell? ⟨Q,1,none⟩=some (.int .i64 b)∧W.cell? ⟨Q,2,none⟩=some (.int .i64 c)∧W.cell? ⟨Q,3,none⟩=some (.int .i64 d)∧W.cell? ⟨Q,4,none⟩=some (.int .i64 p)∧W.cell? ⟨Q,5,none⟩=some (.int .i64 k)∧W.cell? ⟨Q,6,none⟩=some (.int .i64 0)∧W.cell? ⟨Q,7,none⟩=some (.int .i64 t))):=fun W hW=>⟨hW,zAa hW x0,zAa hW x1,zAa hW j0,zAa hW j1,zAa hW j2,zAa hW j3,zAa hW j4,zAa hW j5,zAa hW j6,zAa hW j7⟩
 clear x2 x3 x4 x5 xf;go_cut [7,8,9,10] from 16 to 26 (fun s7 s8 s9 s10 wx=>∃u1 u2 m1 m2 k1 k2 uq un uc z X0,s7=.pointer (some ⟨X0,0,none⟩)∧s8=.slice uq un uc∧s9=.int .i64 z∧s10=errV DE∧wx.heap[X0]?=some (.cells #[.slice u1 m1 k1,.slice u2 m2 k2] 57 (0,0))∧Aside (U.heap.size≤X0∧Below U.heap.size U wx∧(DE=0→DL wx U.heap.size (.slice u1 m1 k1) BX∧DL wx U.heap.size (.slice u2 m2 k2) SX∧OwnT wx U.heap.size (.slice uq un uc) US)))
 case first=>
  generalize errV DE=EV at *;go_region_held3 (fun W=>Below U.heap.size U W∧W.cell? ⟨VB,0,none⟩=some (.slice q1 n1 c1)∧W.cell? ⟨VB,1,none⟩=some (.slice q2 n2 c2)∧W.cell? ⟨Q,0,none⟩=some (.int .i64 a)∧W.cell? ⟨Q,1,none⟩=some (.int .i64 b)∧W.cell? ⟨Q,2,none⟩=some (.int .i64 c)∧W.cell? ⟨Q,3,none⟩=some (.int .i64 d)∧W.cell? ⟨Q,4,none⟩=some (.int .i64 p)∧W.cell? ⟨Q,5,none⟩=some (.int .i64 k)∧W.cell? ⟨Q,6,none⟩=some (.int .i64 0)∧W.cell? ⟨Q,7,none⟩=some (.int .i64 t))
   ((refine SO.out _ ?_;(with_reducible repeat' (first|assumption|refine bal ?_ _|refine Below.setCell ?_ ?_ _|refine Below.drew ?_|exact bzR _ _|exact nzR _|exact Below.size (by assumption)|refine jD ?_))))
   (first|(go_at_call 24;with_reducible refine(Mq.out _ ?_).mono ?_;(with_reducible repeat' (first|assumption|refine bal ?_ _|refine Below.drew ?_|exact bzR _ _|exact nzR _|exact Below.size (by assumption)));rintro x W3 ⟨u1,u2,m1,m2,k1,k2,uq,un,uc,z,rfl,Md,Hr,UT⟩;have yj:=True.intro;(try (have yj:=newBkS UT));(try (have yj:=zQI UT));(try (have yh:=zAb yj;obtain⟨ya,yb,yc⟩:=yh;have yc0:=yc 0;have yc1:=yc 1));obtain⟨za,zb,zc⟩:=zAb (jA W3 (.cells #[.slice none 0 0,.slice none 0 0] 57));have zc0:=zc 0;have zc1:=zc 1))
  all_goals go_wp2_with fail
  all_goals go_meet
  all_goals first
   | exact⟨u1,u2,m1,m2,k1,k2,uq,un,uc,z,_,rfl,rfl,rfl,rfl,Bo.out W3 u1 u2 m1 m2 k1 k2 uq un uc _ Hr (by simp) Md⟩
   | exact⟨u1,u2,m1,m2,k1,k2,uq,un,uc,z,_,rfl,rfl,rfl,rfl,DY.out W3 u1 u2 m1 m2 k1 k2 uq un uc _ _ Hr Md (by simp) (by simp) yj⟩
 case rest=>
 obtain⟨u1,u2,m1,m2,k1,k2,uq,un,uc,z,X0,rfl,rfl,rfl,rfl,hrx,HA⟩:=hcut;have en:=hidT HA.out.1;have Be:=hidT HA.out.2.1;have UQ:=hidT HA.out.2.2;clear HA x0 x1 j0 j1 j2 j3 j4 j5 j6 j7 DY Bo SO Mq;generalize wc=W4 at *;have HWC:=hidT (HBU.out.trans (Be.out.mono HBU.out.size));by_cases h0:DE=0
 rotate_left
 ·have hd4:DE=4∧¬(ts++US).length≤400:=by
   have h:=HDX.out;by_cases h4:400<US.length
   ·rw[if_pos h4] at h;rw[jE];omega
   ·rw[if_neg h4] at h;omega
  obtain⟨rfl,h4⟩:=hd4;have Hz:=hidT (show _∧_∧FarV w W4 base VB from⟨h4,trivial,FarV.below HWC.out Gt.out.2.1⟩)
  rw[show errV 4=.iface 90 (.int .i64 4) from rfl]
  clear h4;go_wp2_with fail;go_ret;exact⟨fun h=>absurd h Hz.out.1,fun _=>rfl,Hz.out.2.2⟩
 subst h0;rw[wAa];obtain⟨eD,pO,hOU⟩:=UQ.out rfl;have uV:=hidT eD;have ut:=hidT pO;have HOU:=hidT hOU;have Mk:=(Be.out.block VB HNQ.out).trans Ml;have HTC:=hidT (OwnM.below HTU.out Be.out);have HIC:=hidT (OwnM.below HIU.out Be.out);obtain⟨b0,b1,-⟩:=zAb hrx;obtain⟨x0,x1,x2,x3,x4,x5,xf⟩:=rowV Mk;have xf0:=xf 0;have xf1:=xf 1;have xf3:=xf 3;have y1:=E1.out;have y1b:IntKind.i64.wrap (left - k)=left - k:=(IntWalk.i64_left _).trans y1
 have D4:Hid (∀W,Below W4.heap.size W4 W→(((W.setCell ⟨VB,0,none⟩ (.slice u1 m1 k1)).setCell ⟨VB,1,none⟩ (.slice u2 m2 k2)).setCell ⟨VB,3,none⟩ (.int .i64 (left - k))).heap[VB]?=some (.cells #[.slice u1 m1 k1,.slice u2 m2 k2,tv,.int .i64 (left - k),.int .i64 gone,iv] 203 (0,0))∧Aside (W4.grownBy (((W.setCell ⟨VB,0,none⟩ (.slice u1 m1 k1)).setCell ⟨VB,1,none⟩ (.slice u2 m2 k2)).setCell ⟨VB,3,none⟩ (.int .i64 (left - k))) (some VB))):=fun W hW=>by
  have hr:=(hW.block VB (gzE.1 Mk).1).trans Mk;exact⟨v_at3 (v_at1 (v_at0 hr _) _) _,wAd (wAw hW _) (wAd (wAd (wAc _ _ _ _) (wAc _ _ _ _)) (wAc _ _ _ _))⟩
 clear eD pO hOU UQ xf Ml hrU;go_upto_region 7 with fail
 go_cut [30] from 30 to 42 (fun _ wx=>wx.heap[VB]?=some (.cells #[.slice u1 m1 k1,.slice u2 m2 k2,tv,.int .i64 (left - k),.int .i64 gone,iv] 203 (0,0))∧Aside (W4.grownBy wx (some VB)))
 case first=>
  go_region
  all_goals go_wp2_with fail
  all_goals go_meet
  all_goals first|exact D4.out _ (bzR _ _)|exact D4.out _ (bzR _ _).drew|exact⟨(D4.out _ (bzR _ _)).1,wAd (D4.out _ (bzR _ _)).2.out (wAw (bzR _ _).drew _)⟩
 case rest=>
 obtain⟨hr7,hA7⟩:=hcut;have cH:=hidT hA7.out;clear hA7 b0 b1 x0 x1 x2 x3 x4 x5 xf0 xf1 xf3 D4 hrx Mk y1 y1b;generalize wc=W7 at *;have Cw:=HNQ.out;have Gk:=Gt.out;have dy:∀z,tv.ownBlock=some z→base≤z∧z<U.heap.size:=fun z hz=>OwnM.lt HTU.out z hz
 have dw:=zAm HTC.out cH.out (fun z hz e=>by cases e;have:=(dy VB hz).1;omega)
 have hI7:=zAm HIC.out cH.out (fun z hz e=>by cases e;have:=(OwnM.lt HIC.out VB hz).1;omega)
 have hU7:=zAm HOU.out cH.out (fun z hz e=>by cases e;have:=(OwnM.lt HOU.out VB hz).1;omega)
 have eE:=uV.out.other cH.out Cw;have eF:=ut.out.other cH.out Cw;have hb7:base≤W7.heap.size:=by have h1:=cH.out.size;have h2:=HWC.out.size;omega
 obtain⟨tq,tc,w8,A8,O8,G8⟩:=zJy dw hU7 hb7 uh.out.1 (by have:=uh.out.2;omega)
 have CU:=(G8.block VB (by omega) (fun e=>by have:=(dy VB e.symm).1;omega)).trans hr7
 have dW:=hidT A8;have cz:=hidT (zIw eE G8 (fun z hz=>(dy z hz).2))
 have cC:=hidT (zIw eF G8 (fun z hz=>(dy z hz).2))
 have HI8:=hidT (zAm hI7 G8 (fun x hx=>zPX hI7 dw (by decide) x hx))
 have HO8:=hidT O8;have Do:=hidT (FarV.trans (FarV.below HWC.out Gk.2.1) (FarV.trans (FarV.grown (base:=base) cH.out (by have:=HWC.out.size;omega) (fun k hk=>.inl (by cases hk;rfl))) (FarV.grown (VB:=VB) G8 hb7 (fun k hk=>.inr (dy k hk).1))))
 clear dw hI7 hU7 eE eF dy A8 O8 G8;obtain⟨x0,x1,x2,x3,x4,x5,xf⟩:=rowV hr7;obtain⟨y0,y1,y2,y3,y4,y5,yf⟩:=rowV CU;have yf2:=yf 2;clear xf yf Cw Gk hb7;generalize dx:(ts++US).length=TL at *;have G0:=hidT dx;clear dx;go_upto_region 9 with (at_builtin;refine Lib.wpList_append_run _ rfl _ _ _ _ rfl _ _ rfl rfl _ _ dW.out ?_)
 have B6:=v_at2 CU (.slice tq TL tc);have ML:=wAc w8 VB 2 (.slice tq TL tc);have Cw:=HNQ.out;have Gk:=Gt.out;have Hz:Hid (FarV w (w8.setCell ⟨VB,2,none⟩ (.slice tq TL tc)) base VB∧SafeS w0 (w8.setCell ⟨VB,2,none⟩ (.slice tq TL tc)) base (.slice u1 m1 k1) BX∧SafeS w0 (w8.setCell ⟨VB,2,none⟩ (.slice tq TL tc)) base (.slice u2 m2 k2) SX∧OwnT (w8.setCell ⟨VB,2,none⟩ (.slice tq TL tc)) base (.slice tq TL tc) (ts++US)∧OwnI (w8.setCell ⟨VB,2,none⟩ (.slice tq TL tc)) base iv ids):=
  ⟨Do.out.trans (FarV.grown ML (by have:=Do.out.size;omega) (fun k hk=>.inl (by cases hk;rfl))),.inr ((cz.out.other ML Cw).mono (by omega)),.inr ((cC.out.other ML Cw).mono (by omega)),
   by
    have h:=HO8.out;exact zAm h ML (fun z hz e=>by cases e;have:=(OwnM.lt h VB hz).1;omega),
   zAm HI8.out ML (fun z hz e=>by cases e;have:=(OwnM.lt HI8.out VB hz).1;omega)⟩
 clear x0 x1 x2 x3 x4 x5 y0 y1 y2 y3 y4 y5 yf2 ML CU hr7 Cw Gk dW;generalize w8.setCell ⟨VB,2,none⟩ (.slice tq TL tc)=W9 at *;obtain⟨x0,x1,x2,x3,x4,x5,-⟩:=rowV B6;by_cases h4:TL≤400
 ·have bq:¬(400:Int)<(TL:Int):=by omega
  have DV:=hidT B6;go_wp2_with fail;go_ret;exact⟨fun _=>⟨rfl,u1,u2,m1,m2,k1,k2,.slice tq TL tc,DV.out,Hz.out.2.1,Hz.out.2.2.1,Hz.out.2.2.2.1,Hz.out.2.2.2.2⟩,fun h=>(by have hh:=G0.out;rw[jE] at hh;exfalso;first|omega|(rw[jE] at h;omega)),Hz.out.1⟩
 ·have bq:(400:Int)<(TL:Int):=by omega
  go_wp2_with fail;go_ret;exact⟨fun h=>(by have hh:=G0.out;rw[jE] at hh;exfalso;first|omega|(rw[jE] at h;omega)),fun _=>rfl,Hz.out.1⟩
theorem zLB(w0:World)(VB base:Nat)(q1 q2:Option Addr)(n1 n2 c1 c2:Nat)(tv iv:Value)(bs ss X:List L)(ts:List T)(ids:List Int)(left gone k:Int)(a b c d p q s t:Int)(w:World)
  (Hd:w.heap[VB]?=some (.cells #[.slice q1 n1 c1,.slice q2 n2 c2,tv,.int .i64 left,.int .i64 gone,iv] 203 (0,0)))
  (mf:Bw w0 w) (h1:SafeS w0 w base (.slice q1 n1 c1) (repB ⟨a,b,c,d,p,q,s,t⟩ bs X)) (h2:SafeS w0 w base (.slice q2 n2 c2) (repS ⟨a,b,c,d,p,q,s,t⟩ ss X)) (hT:OwnT w base tv ts) (hI:OwnI w base iv ids) (pX:VB<base) (Hq:base≤w.heap.size) (dR:ts.length≤400)
  (hX:∀l∈X,lchk l=0) (my:0≤k) (Gg:k≤left) (hl:left≤q) (hq:q≤10000) (hC:zAu bs ss ⟨a,b,c,d,p,q,s,t⟩=0) (hL:Less (zAr bs ss ⟨a,b,c,d,p,q,s,t⟩) X) (hz:(tkl ⟨a,b,c,d,p,q,s,t⟩ X k).2.2=0) :
  Calls prog 151 #[.pointer (some ⟨VB,0,none⟩),.agg #[.int .i64 a,.int .i64 b,.int .i64 c,.int .i64 d,.int .i64 p,.int .i64 q,.int .i64 s,.int .i64 t],.int .i64 k] w fun e w'=>TakeV w0 ⟨a,b,c,d,p,q,s,t⟩ bs ss X ts ids left gone k iv base VB w e w':=by
 by_cases h0:k=0
 ·subst h0;refine(zGH VB a b c d p q s t w).mono ?_;rintro e w'⟨rfl,hb⟩;unfold TakeV;rw[zBa (jY 0)];simp only[jH,Int.sub_zero];exact⟨fun _=>⟨trivial,q1,q2,n1,n2,c1,c2,tv,(hb.block VB (by omega)).trans Hd,h1.below hb,h2.below hb,OwnM.below hT hb,OwnM.below hI hb⟩,fun h=>absurd dR h,FarV.below hb Hq⟩
 ·exact zLA w0 VB base q1 q2 n1 n2 c1 c2 tv iv bs ss X ts ids left gone k a b c d p q s t w Hd (h1.ls mf) (h2.ls mf) hT hI pX Hq dR hX (by omega) Gg (by omega) (zOg hC hL (by omega) (by simp only[];omega)) hz
end slf
namespace slf
open Go.RowKit spn que sid bok mee
open ord (O mB chk)
def Fin(v:V)(X:List L)(ts:List T)(ids:List Int)(left gone:Int):Prop:=
 v.ls=X∧v.ts=ts∧v.ids=ids∧left=(if v.ends=true then 0 else v.left)∧gone=(if v.ends=true then v.left else 0)
def Link(m:Int)(o:O)(v:V)(X:List L)(ts:List T)(ids:List Int)(left gone:Int):Prop:=
 (0<left∧gone=0∧∃u,Fine m o X left u∧v=⟨u.ls,ts++u.ts,u.left,u.ends,ids++u.ids⟩)∨(left=0∧Fin v X ts ids left gone)
def zBI(m p:Int)(r:R)(rs:List R)(t:List L):List L:=if m=1 then ⟨p,r::rs⟩::t else zAw p rs t
def zDG(m:Int)(ids:List Int)(id:Int):List Int:=if m=1 then ids else ids++[id]
def zBO(m left:Int):Int:=if m=2 then left else 0
def zEl(m gone left:Int):Int:=if m=2 then gone else left
theorem zJz{m:Int}{o:O}{v:V}{X:List L}{k:Int}(h:Fine m o X k v)(hk:0<k):Link m o v X [] [] k 0:=.inl ⟨hk,rfl,v,h,by simp⟩
theorem zJA{m:Int}{o:O}{v:V}{X:List L}{ts:List T}{ids:List Int}{left gone:Int}(hm:m=1∨m=2∨m=3)(h:Link m o v X ts ids left gone)(hp:0<left)(hl:∀l∈X,lchk l=0) :
  gone=0∧(tkl o X (min (zAj o X).1 left)).2.2=0∧0≤(zAj o X).1∧
  (¬(ts++(tkl o X (min (zAj o X).1 left)).2.1).length≤400→¬v.ts.length≤400)∧
  ((left - min (zAj o X).1 left=0∨(zAj o X).2=0)→Fin v (tkl o X (min (zAj o X).1 left)).1 (ts++(tkl o X (min (zAj o X).1 left)).2.1) ids (left - min (zAj o X).1 left) 0)∧
  (¬left - min (zAj o X).1 left=0→¬(zAj o X).2=0→∃p r rs t,(tkl o X (min (zAj o X).1 left)).1=⟨p,r::rs⟩::t∧r.id=(zAj o X).2∧
   Link m o v (zBI m p r rs t) (ts++(tkl o X (min (zAj o X).1 left)).2.1) (zDG m ids r.id) (zBO m (left - min (zAj o X).1 left)) (zEl m 0 (left - min (zAj o X).1 left))):=by
 rcases h with ⟨-,hg,u,hu,hv⟩|⟨h0,-⟩
 rotate_left
 ·omega
 have hA:=(zDQ (o:=o) X hl).1;obtain⟨c1,c2,c3⟩:=coarse (m:=m) (o:=o) left.toNat X left (by omega) hp hl
 have hql:min (zAj o X).1 left≤left∧0≤min (zAj o X).1 left:=by omega
 generalize hQ:min (zAj o X).1 left=q at *;have dx:∀l∈(tkl o X q).1,lchk l=0:=zIv hql.2 hl;generalize BB:tkl o X q=TK at *;obtain⟨R,hR⟩:=zEk (o:=o) (k:=left - q) hm dx;have hu2:=zBr hu _ (c2 R hR);subst hu2;refine⟨hg,c1,hA,fun h=>?_,fun h=>?_,fun h1 h2=>?_⟩
 ·rw[hv];simp only[jE] at h ⊢;omega
 ·have gw:R=⟨TK.1,[],left - q,false,[]⟩:=by
   by_cases h0:left - q≤0
   ·exact zBr (Fine.done h0) _ hR
   ·have h2:(zAj o X).2=0:=(by rcases h with h|h;omega;exact h);exact zBr (Fine.stop ((c3 (by omega)).1 h2)) _ hR
  rw[hv,gw];simp[Fin]
 ·obtain⟨p,r,rs,t,e1,e2,e3,e4⟩:=(c3 (by omega)).2 h2
  refine⟨p,r,rs,t,e1,e4,?_⟩;have hk:0<left - q:=by omega
  rw[e1] at hR;rcases hm with rfl|rfl|rfl
  ·have gw:=zBr (Fine.taker hk e2 e3 rfl) _ hR;refine .inr ⟨rfl,?_⟩;rw[hv,gw];simp[Fin,zBI,zDG,zBO,zEl]
  ·cases hR with
   | done h=>omega
   | stop h=>have:=h _ _ rfl;simp only[] at this;rw[e2] at this;cases this
   | taker _ _ _ h=>omega
   | both _ _ _ h=>omega
   | fill _ _ h=>exact absurd e3 h
   | maker _ _ _ _ h=>
    refine .inl ⟨by simp[zBO];omega,by simp[zEl],_,by simpa [zBI,zBO] using h,?_⟩
    rw[hv];simp[zDG]
  ·have gw:=zBr (Fine.both hk e2 e3 rfl) _ hR;refine .inr ⟨rfl,?_⟩;rw[hv,gw];simp[Fin,zBI,zDG,zBO,zEl]
theorem zOl{m:Int}{o:O}{v:V}{X:List L}{ts:List T}{ids:List Int}{left gone:Int}(h:Link m o v X ts ids left gone)(hp:¬0<left):Fin v X ts ids left gone:=by
 rcases h with ⟨h0,-⟩|⟨-,h⟩
 ·omega
 ·exact h
theorem zJB{m p:Int}{r:R}{rs:List R}{t:List L}(hl:∀l∈(⟨p,r::rs⟩::t:List L),lchk l=0):Less (⟨p,r::rs⟩::t) (zBI m p r rs t):=by
 unfold zBI;split
 ·exact Less.refl _
 ·exact zDc hl
theorem zJC{m p:Int}{r:R}{rs:List R}{t:List L}(hl:∀l∈(⟨p,r::rs⟩::t:List L),lchk l=0):∀l∈zBI m p r rs t,lchk l=0:=by
 unfold zBI;split
 ·exact hl
 ·exact zAR hl
end slf
namespace sid
open Go.RowKit spn que
theorem zBD{P:Program}(w:World)(dT sT ty elem:TypeId)(size:Nat)(b o dLen dCap:Nat)(a:Addr)(sLen sCap:Nat)(cs:List Value)
  (hu:P.underlying dT=some (.slice elem)) (hs:(P.info? elem).map (·.size)=some size) (hn:cs.length=Nat.min sLen dLen*size)
  (m6:∀j v,cs[j]?=some v→w.cell? (a.add j)=some v) (ht:w.there b o cs.length) (h1:∀v∈cs,v.oneCell'=true) :
  (Builtin.copy_ #[dT,sT] ty #[.slice (some ⟨b,o,none⟩) dLen dCap,.slice (some a) sLen sCap]).run P w=.ok (goInt (Nat.min sLen dLen)) (w.setCells b o cs):=by
 have hl:=run_firstCells_some (P:=P) w size (Nat.min sLen dLen) a sLen sCap cs hn m6;have Gb:=run_storeCells_cells (P:=P) b o cs 0 w (by simpa using fun j hj=>(ht j hj).1) (by simpa using fun j hj=>(ht j hj).2) h1
 cases hq:P.info? elem with
 | none=>simp[hq] at hs
 | some i=>
  have hi:i.size=size:=by simpa [hq] using hs
  simp[Builtin.copy_,run_underlying hu,Builtin.lenOf,sizeOf,typeInfo,hq,hi];rw[show Nat.min sLen dLen=min sLen dLen from rfl] at hl
  simp[hl,Gb]
theorem wAi(g:Nat)(e:TypeId)(fr:Nat × Nat):∀ (vs:List Value) (o:Nat) (w:World) (cur:Array Value),w.heap[g]?=some (.cells cur e fr)→∃cur',(w.setCells g o vs).heap[g]?=some (.cells cur' e fr)∧cur'.size=cur.size
 | [],_,w,cur,h=>⟨cur,h,rfl⟩
 | v::r,o,w,cur,h=>by
  have Hi:g<w.heap.size:=(gzE.1 h).1;have h1:(w.setCell ⟨g,o,none⟩ v).heap[g]?=some (.cells (cur.setIfInBounds o v) e fr):=by
   rw[setCell_eq_setRow w g o cur e fr v h];exact setRow_heap w g cur _ e fr h
  obtain⟨c,h2,h3⟩:=wAi g e fr r (o+1) _ _ h1;exact⟨c,h2,by rw[h3];simp⟩
theorem wAh(g:Nat):∀ (vs:List Value) (o:Nat) (w:World),w.grownBy (w.setCells g o vs) (some g)
 | [],_,_=>⟨rfl,rfl,rfl,nzR _,fun _ _ _=>rfl⟩
 | v::r,o,w=>wAd (wAc w g o v) (wAh g r (o+1) _)
theorem wAH(w:World)(row:Option Nat):w.grownBy w.drew row:=⟨rfl,rfl,rfl,nzR _,fun _ _ _=>rfl⟩
theorem wAO{w:World}{base:Nat}{e:TypeId}{sz:Nat}{g off n cap:Nat}{xs:List Value}(hl:xs.length=n*sz)(hb:base≤g){cur:Array Value}(hg:w.heap[g]?=some (.cells cur e (0,0)))
  (hs:off+cap*sz≤cur.size) (hn:n≤cap) (hm:cap≤maxLen) (hr:w.rangeAt g off xs):OwnM w base e sz (.slice (some ⟨g,off,none⟩) n cap) n xs:=by
 refine⟨hl,.inr ⟨g,off,cap,cur,rfl,hb,hg,hn,hm,hs,?_⟩⟩;apply List.ext_getElem?;intro j;rw[List.getElem?_take];have Gh:n*sz≤cap*sz:=Nat.mul_le_mul_right _ hn;by_cases hj:j<n*sz
 ·rw[if_pos hj,List.getElem?_drop];have hx:xs[j]?=some xs[j]:=List.getElem?_eq_getElem (by omega)
  rw[hx,Array.getElem?_toList,←jZ w g (off+j) cur e (0,0) hg];exact hr j _ hx
 ·rw[if_neg hj,List.getElem?_eq_none (by omega)]
theorem wAk{w:World}{base:Nat}{e:TypeId}{sz:Nat}{g off n cap:Nat}{xs:List Value}(h:OwnM w base e sz (.slice (some ⟨g,off,none⟩) n cap) n xs) :
  xs.length=n*sz∧base≤g∧(∃cur,w.heap[g]?=some (.cells cur e (0,0))∧off+cap*sz≤cur.size)∧n≤cap∧cap≤maxLen∧w.rangeAt g off xs∧w.there g off (cap*sz):=by
 obtain⟨hc,hf,hb,-⟩:=OwnM.cells h;rcases h.2 with ⟨h1,_⟩|⟨g',off',cap',cur,h1,h2,h3,h4,h5,h6,h7⟩
 ·cases h1
 ·cases h1;refine⟨h.1,hb,⟨cur,h3,h6⟩,h4,h5,hc,fun j hj=>⟨?_,hf _⟩⟩
  rw[jZ w g (off+j) cur e (0,0) h3,Array.getElem?_eq_getElem (by omega)];rfl
theorem wAq{w:World}{b o:Nat}{xs ys:List Value}(h1:w.rangeAt b o xs)(h2:w.rangeAt b (o+xs.length) ys):w.rangeAt b o (xs++ys):=by
 intro j v hv;by_cases hj:j<xs.length
 ·rw[List.getElem?_append_left hj] at hv;exact h1 j v hv
 ·rw[jV (by omega)] at hv
  have:=h2 (j - xs.length) v hv
  rwa [show o+xs.length+(j - xs.length)=o+j by omega] at this
theorem wAC{w:World}{b o:Nat}{xs ys:List Value}(h:w.rangeAt b o (xs++ys)):w.rangeAt b o xs:=fun j v hv=>h j v (by rw[List.getElem?_append_left (List.getElem?_eq_some_iff.1 hv).1];exact hv)
theorem wAx{w:World}{b o:Nat}{xs ys:List Value}(h:w.rangeAt b o (xs++ys)):w.rangeAt b (o+xs.length) ys:=fun j v hv=>by
 have:=h (xs.length+j) v (by rw[jV (by omega)];simpa using hv)
 rwa [←Nat.add_assoc] at this
theorem zFJ(q:Option Addr)(n c d:Nat):(Value.slice q n c).ownBlock=(Value.slice q n d).ownBlock:=by cases q <;>rfl
def InsPost(w:World)(base:Nat)(v:Value)(n:Nat)(xs:List Value)(e:Ending)(w' : World):Prop:=
 ∃v',e=.returned v'∧OwnM w' base 54 2 v' n xs∧w.grownBy w' v.ownBlock∧(v'.ownBlock=v.ownBlock∨∃k,v'.ownBlock=some k∧w.heap.size≤k)
theorem zJD(w:World)(base:Nat)(v:Value)(n:Nat)(xs:List Value)(vb m vc:Nat)(vs:List Value)(ho:OwnM w base 54 2 v n xs)(Hq:base≤w.heap.size)(hm:0<m)(EJ:m≤1000)(P2:n≤10000)
  (mC:vs.length=m*2) (M9:w.rangeAt vb 0 vs) (h1:∀u∈vs,u.oneCell'=true) :
  Calls prog 149 #[v,.int .i64 n,.slice (some ⟨vb,0,none⟩) m vc] w fun e w'=>InsPost w base v (n+m) (xs++vs) e w':=by
 obtain⟨i0,hi,gE,gu,gA⟩:=rlv.infoR';have HI:Hid (prog.info? 54=some i0):=hi;have HO:Hid (OwnM w base 54 2 v n xs):=ho;obtain⟨q,c,hv⟩:=OwnM.form ho;have HC:Hid (n≤c∧c≤9223372036854775807):=by
  rcases ho.2 with ⟨e,Pq⟩|⟨g,off,cap,cur,e,-,-,UM,gi,-,-⟩
  ·rw[e] at hv;cases hv;exact⟨by omega,by omega⟩
  ·rw[e] at hv;cases hv;exact⟨UM,by simpa [maxLen] using gi⟩
 have HVS:Hid (∀j u,vs[j]?=some u→w.cell? ((⟨vb,0,none⟩:Addr).add j)=some u):=fun j u hu=>by rw[Addr.add_lit];exact M9 j u hu
 have Hw:Hid (∀v' w',OwnM w' base 54 2 v' (n+m) (xs++vs)→w.grownBy w' v.ownBlock→(v'.ownBlock=v.ownBlock∨v'.ownBlock=some w.heap.size)→InsPost w base v (n+m) (xs++vs) (.returned v') w'):=fun v' w' h1 h2 h3=>⟨v',rfl,h1,h2,h3.imp id (fun e=>⟨_,e,nzR _⟩)⟩
 generalize InsPost w base v (n+m) (xs++vs)=POST at *;clear hi ho M9;obtain⟨Gn,mT⟩:=HC.out;have hz3:¬((m:Int)=0):=by omega
 have P6:¬(m=0):=by omega
 have Pq:¬((n:Int)<0):=by omega
 subst hv;go_enter func149,ntmps149;go_wp2_with (at_builtin;(refine wAe _ rfl _ _ 55 rfl base 54 i0 rlv.zeroR 2 32 underlying55 HI.out gE gu gA rfl (.slice q n c) n xs rfl HO.out ⟨vb,0,none⟩ m vc vs rfl mC HVS.out h1 (by unfold maxLen;omega) (by omega) Hq ?_))
 all_goals
  intro v' w' gy Hy Gm;have HX:=Hw.out v' w' gy (by rw[zFJ q n c 0];rw[zFJ q n _ 0] at Hy;exact Hy) (by rw[zFJ q n c 0];rw[zFJ q n _ 0] at Gm;exact Gm)
  clear gy Hy Gm Hw;go_wp2_with fail;exact HX
theorem wAy{P:Program}(w:World)(t e ty:TypeId)(z:Value)(size:Nat)(ht:P.underlying t=some (.slice e))(hv:∀w,(zeroValue e).run P w=.ok z w)(hz:z.cells.size=size)(h1:z.cells.all (·.oneCell')=true)(b o n c:Nat)(hn:0<n)(uO:w.there b o (n*size)) :
  (Builtin.clear_ #[t] ty #[.slice (some ⟨b,o,none⟩) n c]).run P w=.ok (.tuple #[]) (w.setCells b o (Builtin.zeroCells z.cells n).toList):=by
 have hl:(Builtin.zeroCells z.cells n).toList.length=n*size:=by rw[Array.length_toList,size_zeroCells,hz]
 have ep:∀v∈(Builtin.zeroCells z.cells n).toList,v.oneCell'=true:=by
  intro v gU;rw[Array.mem_toList_iff] at gU;simp only[Builtin.zeroCells] at gU;rw[Array.all_eq_true] at h1;rw[Array.mem_map] at gU;obtain⟨k,hk,rfl⟩:=gU;rw[Array.mem_range] at hk;have uz:0<z.cells.size:=Nat.pos_of_ne_zero fun e=>by rw[e] at hk;simp at hk
  have hp:k % z.cells.size<z.cells.size:=Nat.mod_lt _ uz;rw[getElem!_pos z.cells _ hp];exact h1 _ hp
 have Gb:=run_storeCells_cells (P:=P) b o (Builtin.zeroCells z.cells n).toList 0 w (by rw[hl];simpa using fun j hj=>(uO j hj).1) (by rw[hl];simpa using fun j hj=>(uO j hj).2) ep
 simp only[Nat.add_zero] at Gb;obtain⟨m,rfl⟩:∃m,n=m+1:=⟨n - 1,by omega⟩
 simp[Builtin.clear_,run_underlying ht,hv,Gb]
theorem zOm:(prog.info? 54).map (·.size)=some 2:=by kernel_rfl
theorem zQJ(w:World):(Go.sizeOf 54).run prog w=.ok 2 w:=by kernel_rfl
theorem zGI(w:World)(base g off n c i vb m vc:Nat)(xs vs:List Value)(vcur:Array Value)(tA:TypeId)(ho:OwnM w base 54 2 (.slice (some ⟨g,off,none⟩) n c) n xs)(hi:i<n)(hm:0<m)(EJ:m≤1000)(gT:n+m≤c)
  (hvb:vb≠g) (mC:vs.length=m*2) (M9:w.rangeAt vb 0 vs) (PD:w.heap[vb]?=some (.cells vcur tA (0,0))) (Mb:∀u∈xs,u.oneCell'=true) (h1:∀u∈vs,u.oneCell'=true) :
  Calls prog 149 #[.slice (some ⟨g,off,none⟩) n c,.int .i64 i,.slice (some ⟨vb,0,none⟩) m vc] w fun e w'=>InsPost w base (.slice (some ⟨g,off,none⟩) n c) (n+m) (xs.take (i*2)++vs++xs.drop (i*2)) e w':=by
 obtain⟨G7,ud,⟨cur,G5,Gy⟩,GH,gi,uk,uO⟩:=wAk ho;have CC:c≤9223372036854775807:=by simpa [maxLen] using gi
 have hcs2:0<cur.size:=by omega
 have EY:∀lb cb,(callFunc 164 #[.slice (some ⟨vb,0,none⟩) m vc,.slice (some ⟨g,off+(i+m)*2,none⟩) lb cb]).run prog w=.ok (.value (.bool false)) w:=fun lb cb=>by
  rw[run_callFunc_extern func164 (by kernel_rfl) (by kernel_rfl) (by kernel_rfl) (e:=Extern.SlicesOverlaps.overlaps #[55,55] #[4]) (by kernel_rfl),
   Lib.run_overlaps_apart w 55 4 54 underlying55 2 zQJ ⟨vb,0,none⟩ ⟨g,off+(i+m)*2,none⟩ m vc lb cb hvb tA 54 vcur.size cur.size (by simp[World.shape?,PD]) (by simp[World.shape?,G5]) (by omega) (by simp[World.frozen?,PD]) (by simp[World.frozen?,PD])]
  rfl
 have GS:(xs.drop (i*2)).length=(n - i)*2:=by rw[jQ,G7];omega
 have gW:(xs.take (i*2)).length=i*2:=by rw[jJ,G7];omega
 have hx:xs=xs.take (i*2)++xs.drop (i*2):=(jR _ _).symm;have gq:w.rangeAt g off (xs.take (i*2)):=by rw[hx] at uk;exact wAC uk
 have H5:w.rangeAt g (off+i*2) (xs.drop (i*2)):=by rw[hx] at uk;have:=wAx uk;rwa [gW] at this
 have Gz:∀o k,o+k≤c*2→w.there g (off+o) k:=fun o k hk j hj=>by rw[Nat.add_assoc];exact uO (o+j) (by omega)
 have Pc:∀ty dc sc,(Builtin.copy_ #[55,55] ty #[.slice (some ⟨g,off+(i+m)*2,none⟩) (n+m - (i+m)) dc,.slice (some ⟨g,off+i*2,none⟩) (n+m - i) sc]).run prog w.drew=.ok (goInt ((n - i:Nat):Int)) (w.drew.setCells g (off+(i+m)*2) (xs.drop (i*2))):=fun ty dc sc=>by
  have:=zBD (P:=prog) w.drew 55 55 ty 54 2 g (off+(i+m)*2) (n+m - (i+m)) dc ⟨g,off+i*2,none⟩ (n+m - i) sc (xs.drop (i*2)) underlying55 zOm (by rw[GS];congr 1;simp only[Nat.min_def];split <;>omega)
   (fun j v hj=>by rw[Addr.add_lit];exact H5 j v hj) ((World.there_drew _ _ _ _).2 (Gz _ _ (by rw[GS];omega))) (fun v hv=>Mb v (List.mem_of_mem_drop hv))
  rw[show Nat.min (n+m - i) (n+m - (i+m))=n - i by simp only[Nat.min_def];split <;>omega] at this
  exact this
 obtain⟨W1,H7⟩:∃W1,W1=w.drew.setCells g (off+(i+m)*2) (xs.drop (i*2)):=⟨_,rfl⟩;have PE:W1.rangeAt vb 0 vs:=by rw[H7];exact World.rangeAt_setCells_apart ((World.rangeAt_drew _ _ _ _).2 M9) _ _ _ (.inl hvb)
 have GI:W1.there g (off+i*2) (m*2):=by rw[H7];exact World.there_setCells ((World.there_drew _ _ _ _).2 (Gz _ _ (by omega))) _ _ _
 have bB:∀ (W:World),(∀x,W.cell? x=W1.cell? x)→(∀x,W.frozen? x=W1.frozen? x)→∀ty dc,(Builtin.copy_ #[55,55] ty #[.slice (some ⟨g,off+i*2,none⟩) (n+m - i) dc,.slice (some ⟨vb,0,none⟩) m vc]).run prog W=.ok (goInt m) (W.setCells g (off+i*2) vs):=fun W BD Ei ty dc=>by
  have:=zBD (P:=prog) W 55 55 ty 54 2 g (off+i*2) (n+m - i) dc ⟨vb,0,none⟩ m vc vs underlying55 zOm (by rw[mC];congr 1;simp only[Nat.min_def];split <;>omega)
   (fun j v hj=>by rw[Addr.add_lit,BD];exact PE j v hj) (fun j hj=>by rw[mC] at hj;rw[BD,Ei];exact GI j hj) h1
  rw[show Nat.min m (n+m - i)=m by simp only[Nat.min_def];split <;>omega] at this
  exact this
 have Hw:Hid (InsPost w base (.slice (some ⟨g,off,none⟩) n c) (n+m) (xs.take (i*2)++vs++xs.drop (i*2)) (.returned (.slice (some ⟨g,off,none⟩) (n+m) c)) (W1.setCells g (off+i*2) vs)):=by
  obtain⟨cur1,Hc,Hl⟩:=wAi g 54 (0,0) (xs.drop (i*2)) (off+(i+m)*2) w.drew cur G5;rw[←H7] at Hc;obtain⟨cur2,Ha,H9⟩:=wAi g 54 (0,0) vs (off+i*2) W1 cur1 Hc;refine⟨_,rfl,wAO ?_ ud Ha (by rw[H9,Hl];exact Gy) gT gi ?_,?_,.inl rfl⟩
  ·rw[jE,jE,gW,mC,GS];omega
  ·refine wAq (wAq ?_ ?_) ?_
   ·refine World.rangeAt_setCells_apart ?_ _ _ _ (.inr (.inl (by rw[gW];omega)))
    rw[H7];exact World.rangeAt_setCells_apart ((World.rangeAt_drew _ _ _ _).2 gq) _ _ _ (.inr (.inl (by rw[gW];omega)))
   ·rw[gW];exact World.rangeAt_setCells_same _ _ _ _ (by rw[mC];exact GI)
   ·rw[jE,gW,mC];refine World.rangeAt_setCells_apart ?_ _ _ _ (.inr (.inr (by rw[mC];omega)))
    rw[H7,show off+(i*2+m*2)=off+(i+m)*2 by omega]
    exact World.rangeAt_setCells_same _ _ _ _ ((World.there_drew _ _ _ _).2 (Gz _ _ (by rw[GS];omega)))
  ·rw[H7];exact wAd (wAd (wAH _ _) (wAh g _ _ _)) (wAh g _ _ _)
 generalize InsPost w base (.slice (some ⟨g,off,none⟩) n c) (n+m) (xs.take (i*2)++vs++xs.drop (i*2))=POST at *;rw[←H7] at Pc;have gu:¬((m:Int)=0):=by omega
 have P6:¬(m=0):=by omega
 have gA:¬((i:Int)=(n:Int)):=by omega
 have MV:IntKind.i64.wrap ((i:Int)+(m:Int))=(i:Int)+(m:Int):=by rw[IntKind.wrap_i64];omega
 have Hc:(0:Int)≤(i:Int)+(m:Int):=by omega
 have Hv:i≤n:=by omega
 have bU:((i:Int)+(m:Int)).toNat=i+m:=by omega
 have Ha:¬(c=i+m):=by omega
 have Hr:(i:Int)≤(n:Int)+(m:Int):=by omega
 have Gj:¬(c=i):=by omega
 have hn63:(n:Int)+(m:Int)≤9223372036854775807:=by omega
 clear ho G7 G5 Gy uk uO GS gW hx gq H5 Gz PE GI mC M9 PD h1 Mb gi ud hcs2;have mixed:prog.follows Departure.mixedOrders=true:=by kernel_rfl
 go_enter func149,ntmps149;go_wp2_with (simp only[EY])
 go_region_law_o (refine step_copy_runI rfl _ _ 55 55 rfl _ _ (by simp[Act.eval,Act.put]) (by simp[Act.eval,Act.put]) (Pc _ _ _) ?_)
 go_wp2_with (at_builtin;refine wpList_copy_runI _ rfl _ _ 55 55 rfl _ _ rfl rfl (bB _ (fun _=>rfl) (fun _=>rfl) _ _) ?_)
 have HX:=Hw.out;first|exact HX|(rw[H7] at HX;exact HX)
end sid
end Go.Proofs.YtnfilcpnneckkaaGreat
