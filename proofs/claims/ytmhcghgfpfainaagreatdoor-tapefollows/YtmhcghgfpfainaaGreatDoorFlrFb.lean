import Derived.Test.YtmhcghgfpfainaaGreatDoorFlrVis
import Derived.Great.BuildSlice
set_option maxHeartbeats 4000000
set_option maxRecDepth 100000
namespace Go.Proofs.YtmhcghgfpfainaaGreatDoor
open Tryz
namespace flr
open Go.RowKit
open que (R rchk)
open sid (L DL LS)
open mee (T tV OwnT)
open ord (O oV chk errV wAa wAb)
open que (bal)
open wak (OwnM St SL Lies oL idx Trn wAk)
theorem zEP{w:World}{B:Nat}{x0 x1 x2 x3 x4 x5:Value}{t:TypeId}(h:w.heap[B]?=some (.cells #[x0,x1,x2,x3,x4,x5] t (0,0))) :
  w.cell? ⟨B,0,none⟩=some x0∧w.cell? ⟨B,1,none⟩=some x1∧w.cell? ⟨B,2,none⟩=some x2∧w.cell? ⟨B,3,none⟩=some x3∧w.cell? ⟨B,4,none⟩=some x4∧w.cell? ⟨B,5,none⟩=some x5∧∀j,w.frozen? ⟨B,j,none⟩=false:=
 ⟨by simp[World.cell?,h],by simp[World.cell?,h],by simp[World.cell?,h],by simp[World.cell?,h],by simp[World.cell?,h],by simp[World.cell?,h],fun j=>frozen_of_row w _ j _ _ h⟩
theorem zPW(k:Nat)(h:k≤1000000):wrap64 ((k:Int)+1)=((k+1:Nat):Int):=by unfold wrap64;omega
theorem zJt{α:Type}[Inhabited α](l:List α)(k:Nat)(h:k<l.length):l.drop k=l[k]!::l.drop (k+1):=by
 rw[List.drop_eq_getElem_cons h];simp[h]
structure TI (b t:Nat) (s:TS) (q:Option Addr) (n c:Nat) (ts:List T) (w:World) (X:Rs) (k:Nat) (wr:World):Prop where
 mem:∃s1 v1,TM wr b t s1 v1∧Wf s1∧s1.evs.length=s.evs.length+k∧X=trades s1 (ts.drop k)
 tn:Tn tA b w wr
 own:OwnT wr 0 (.slice q n c) ts
theorem zFs{b t:Nat}{s1:TS}{v1:TV}{w w2:World}{x:T}{ps:List pur.Pz}(hM:TM w2 b t { s1 with ps:=ps } v1)(hT:Tn tA b w w2){w' U:World}(hU:Bw w2 U){q:Option Addr}{n c:Nat}
  (ho:OwnM w' b 31 10 (.slice q n c) (s1.evs.length+1) (zAH s1.evs++([.int .i64 2,.int .i64 0,.int .i64 0,.int .i64 0]++tV x))) (hg:U.grownBy w' (Value.slice v1.qe v1.ne v1.ce).ownBlock) :
  (w'.cell? ⟨t,6,none⟩=some (.slice v1.qe v1.ne v1.ce)∧w'.frozen? ⟨t,6,none⟩=false)∧(∃v',TM (w'.setCell ⟨t,6,none⟩ (.slice q n c)) b t { s1 with ps:=ps,evs:=s1.evs++[⟨2,0,0,0,x⟩] } v')∧Tn tA b w (w'.setCell ⟨t,6,none⟩ (.slice q n c)):=by
 have Um:=hM.below hU;have hr:=Um.evrow hg;obtain⟨-,-,-,-,-,-,y6,-,yf⟩:=wak.row8 hr;have e1:s1.evs.length+1=(s1.evs++[(⟨2,0,0,0,x⟩:Ev)]).length:=by rw[jE];rfl
 have e2:zAH s1.evs++([.int .i64 2,.int .i64 0,.int .i64 0,.int .i64 0]++tV x)=zAH (s1.evs++[(⟨2,0,0,0,x⟩:Ev)]):=by rw[zCk,zGu];rfl
 rw[e1,e2] at ho;obtain⟨a1,a2⟩:=Um.told ho hg;exact⟨⟨y6,yf 6⟩,⟨_,a1⟩,(hT.trans (Tn.below hU hM.base)).trans a2⟩
theorem wAX(b t:Nat)(s:TS)(v:TV)(q:Option Addr)(n c:Nat)(ts:List T)(w:World)(h:TM w b t s v)(hw:Wf s)(hT:OwnT w 0 (.slice q n c) ts)(hl:s.evs.length+ts.length≤1000000) :
  Calls prog 112 #[.pointer (some ⟨t,0,none⟩),.slice q n c] w (Res tA b t w (trades s ts)):=by
 have hn:n=ts.length:=by obtain⟨q',c',e⟩:=wak.OwnM.form hT;cases e;rfl
 obtain⟨X,hX⟩:∃X,X=trades s ts:=⟨_,rfl⟩;rw[←hX];have H0:Hid (TI b t s q n c ts w X 0 w):=⟨⟨s,v,h,hw,rfl,hX⟩,Tn.refl _ _ _,hT⟩;have HN:=hidF hn;have HL:=hidF hl;have DA:Hid (n≤1000000):=by show n≤1000000;omega
 obtain⟨i0,Gg,gH,gw,gD⟩:=infoE';have HI:=hidF Gg;clear h hw hT hl hX hn Gg;go_enter func112,ntmps112;go_wp2_with fail;go_loopg [6,7,10] n (fun gg _ _ s10 wr=>∃ (kk:Nat),kk≤n∧n - kk≤gg∧s10=.int .i64 kk∧Aside (TI b t s q n c ts w X kk wr))
 case atStart=>exact⟨0,jL _,by omega,rfl,H0.out⟩
 case round=>
  obtain⟨kk,gh,hg,rfl,HA⟩:=hrel;clear H0;by_cases Hj:kk<n
  rotate_left
  ·have Hq:¬(kk:Int)<(n:Int):=by omega
   obtain⟨⟨s1,v1,hM,-,-,Ud⟩,Uz,-⟩:=HA.out;have HR:Hid (Res tA b t w X (.returned .nilIface) wr):=by
    refine zQu (s:=s1) ?_ Uz hM;rw[Ud,List.drop_eq_nil_of_le (by rw[←HN.out];omega)];rfl
   clear HA hM Ud Uz;go_wp2_with fail;go_ret;exact HR.out
  ·have Hq:(kk:Int)<(n:Int):=by omega
   have Hv:kk<ts.length:=by rw[←HN.out];exact Hj
   obtain⟨⟨s1,v1,hM,GS,Ue,Ud⟩,Uz,hO⟩:=HA.out;obtain⟨g,off,rfl,hG,x0,x1,x2,x3,x4,x5⟩:=mee.OwnT.at hO Hv;rw[zJt ts kk Hv] at Ud;rcases mq:ts[kk]! with ⟨t1,t2,t3,t4,t5,t6⟩
   rw[mq] at x0 x1 x2 x3 x4 x5 Ud;simp only[] at x0 x1 x2 x3 x4 x5;obtain⟨W1,gb⟩:∃W1,W1=wr.alloc (.cells #[.int .i64 t1,.int .i64 t2,.int .i64 t3,.int .i64 t4,.int .i64 t5,.int .i64 t6] 29):=⟨_,rfl⟩;have Ha:Below wr.heap.size wr W1:=by rw[gb];exact(bzR _ _).alloc (nzR _) _
   have go:W1.heap[wr.heap.size]?=some (.cells #[.int .i64 t1,.int .i64 t2,.int .i64 t3,.int .i64 t4,.int .i64 t5,.int .i64 t6] 29 (0,0)):=by rw[gb];exact jA wr _
   have HM:Hid (kk<n∧n - kk≤gk):=⟨Hj,hg⟩;have PP:=hidF (zPW kk (by have:=DA.out;omega))
   have UP:Hid (s1.evs.length≤999999):=by show s1.evs.length≤999999;have:=HL.out;omega
   obtain⟨Z,hZ⟩:∃Z,Z=wr.heap.size:=⟨_,rfl⟩;rw[←hZ] at go;have U5:Hid (∀ (wz:World) (ps:List pur.Pz),(∃v',TM wz b t { s1 with ps:=ps,evs:=s1.evs++[(⟨2,0,0,0,⟨t1,t2,t3,t4,t5,t6⟩⟩:Ev)] } v')→Tn tA b w wz→ps=pur.zBj s1.ps t3 t4 t5 t6→pur.zAR s1.ps t3 t4 t5 t6=0→OwnT wz 0 (.slice (some ⟨g,off,none⟩) n c) ts→TI b t s (some ⟨g,off,none⟩) n c ts w X (kk+1) wz):=fun wz ps gX ht' Gz hE dN=>by
    obtain⟨v',gX⟩:=gX;refine⟨⟨_,v',gX,⟨GS.m0,GS.m3,GS.book,?_,GS.ws⟩,?_,?_⟩,ht',dN⟩
    ·rw[Gz];exact pur.zJa GS.ok _ _ _ _
    ·simp only[jE,jG,List.length_nil,Ue];omega
    ·rw[Ud];show (trade1 s1 ⟨t1,t2,t3,t4,t5,t6⟩).bind _=_
     unfold trade1;simp only[];rw[if_pos hE,Gz];rfl
   have Mi:Hid (∀U,Below W1.heap.size W1 U→Calls prog 149 #[.pointer (some ⟨v1.pp,0,none⟩),.agg #[.int .i64 t1,.int .i64 t2,.int .i64 t3,.int .i64 t4,.int .i64 t5,.int .i64 t6]] U fun e w'=>∃E,e=.returned E∧Hid ((E=.nilIface∧Hid (TM w' b t { s1 with ps:=pur.zBj s1.ps t3 t4 t5 t6 } v1)∧Hid (Tn tA b w w')∧Hid (OwnT w' 0 (.slice (some ⟨g,off,none⟩) n c) ts)∧Hid (pur.zAR s1.ps t3 t4 t5 t6=0)∧w'.heap[Z]?=some (.cells #[.int .i64 t1,.int .i64 t2,.int .i64 t3,.int .i64 t4,.int .i64 t5,.int .i64 t6] 29 (0,0)))∨∃k,E=.iface 80 (.int .i64 k)∧Hid (Res tA b t w X (.returned (.iface 80 (.int .i64 k))) w'))):=fun U hU=>by
    have GV:=Ha.trans (hU.mono Ha.size);have Um:=hM.below GV;refine(pur.wAX v1.pp s1.ps t1 t2 t3 t4 t5 t6 U Um.purs GS.ok).mono ?_;rintro e w'⟨rfl,k1,k2⟩;obtain⟨k3,k4⟩:=Um.pay k1 k2;have k5:=(Uz.trans (Tn.below GV hM.base)).trans k4;refine⟨_,rfl,?_⟩;show _∨_
    by_cases hE:pur.zAR s1.ps t3 t4 t5 t6=0
    ·left;exact⟨by rw[hE];rfl,k3,k5,k4.kp.ownQ (Kp.ownQ (S:=[]) (Kp.below GV) hO (by simp)) (by decide),hE,k4.kp.typ _ _ _ (zBH go hU) (by decide)⟩
    ·right;refine⟨_,wAb hE,?_⟩;show Res _ _ _ _ _ _ _
     refine zAD ?_ hE k5;rw[Ud];show (trade1 s1 ⟨t1,t2,t3,t4,t5,t6⟩).bind _=_
     unfold trade1;simp only[];rw[if_neg hE];rfl
   have HX4:Hid (W1.cell? ⟨t,4,none⟩=some (.pointer (some ⟨v1.pp,0,none⟩))):=(hM.below Ha).cells.2.2.2.2.1;have HR1:=hidF go;have Gf:=hidF (bzR W1.heap.size W1);clear hM GS Ue Ud Uz hO Ha go HA Hj hg gh Hv mq;go_upto_region 4 with fail
   rw[←gb];simp only[←hZ];clear x0 x1 x2 x3 x4 x5 gb hZ hG;have x4:=HX4.out;obtain⟨z0,z1,z2,z3,z4,z5,-⟩:=zEP HR1.out
   go_region_with (go_at_call 149;with_reducible refine(Mi.out _ ?_).mono ?_;(with_reducible repeat' (first|exact Gf.out|assumption|refine Below.drew ?_));rintro x w2 ⟨E,rfl,uQ⟩)
   all_goals
    clear x4 z0 z1 z2 z3 z4 z5;rcases uQ.out with ⟨rfl,Gx,GW,Ge,Gp,h6⟩|⟨k,rfl,HR⟩
    rotate_left
    ·clear uQ;go_wp2_with fail;go_ret;exact HR.out
    ·clear uQ;have mR:Hid (Z<w2.heap.size∧t<w2.heap.size∧b≤w2.heap.size):=⟨(gzE.1 h6).1,Gx.out.lt,Gx.out.base⟩;have HOE:Hid (OwnM w2 b 31 10 (.slice v1.qe v1.ne v1.ce) s1.evs.length (zAH s1.evs)):=Gx.out.evs;have Gs:Hid (∀U w' v',Below w2.heap.size w2 U→OwnM w' b 31 10 v' (s1.evs.length+1) (zAH s1.evs++[.int .i64 2,.int .i64 0,.int .i64 0,.int .i64 0,.int .i64 t1,.int .i64 t2,.int .i64 t3,.int .i64 t4,.int .i64 t5,.int .i64 t6])→U.grownBy w' (Value.slice v1.qe v1.ne v1.ce).ownBlock→∃q' n' c',v'=.slice q' n' c'∧(w'.cell? ⟨t,6,none⟩=some (.slice v1.qe v1.ne v1.ce)∧w'.frozen? ⟨t,6,none⟩=false)∧Hid (TI b t s (some ⟨g,off,none⟩) n c ts w X (kk+1) (w'.setCell ⟨t,6,none⟩ (.slice q' n' c')))):=fun U w' v' hU ho Hw=>by
      obtain⟨q',c',rfl⟩:=wak.OwnM.form ho;obtain⟨y,a1,a2⟩:=zFs (x:=⟨t1,t2,t3,t4,t5,t6⟩) Gx.out GW.out hU ho Hw;refine⟨q',_,c',rfl,y,?_⟩;show TI _ _ _ _ _ _ _ _ _ _ _
      refine U5.out _ _ a1 a2 rfl Gp.out ?_;have hk:Kp tA w2 (w'.setCell ⟨t,6,none⟩ (.slice q' (s1.evs.length+1) c')):=by
       obtain⟨-,-,kk⟩:=zFs (w:=w2) (x:=⟨t1,t2,t3,t4,t5,t6⟩) Gx.out (Tn.refl _ _ _) hU ho Hw;exact kk.kp
      exact hk.ownQ Ge.out (by decide)
     obtain⟨-,-,-,-,-,-,y6,-,-⟩:=Gx.out.cells;obtain⟨z0,z1,z2,z3,z4,z5,-⟩:=zEP h6;obtain⟨r1,r2,r3,r4,r5,r6,r7,r8,r9,qe,ne,ce,qk,nk,ck⟩:=v1;simp only[] at y6;have hZ2:=mR.out.1;have PD:=mR.out.2.1;have GL:=mR.out.2.2;have Ue:=UP.out;have ei:=PP.out;clear h6 Gx GW Ge Gp U5 Mi HX4 HR1 Gf mR;generalize s1.evs.length=N1 at *;generalize zAH s1.evs=FE at *;go_upto_region 7 with fail
     go_region_law (refine wAk _ rfl _ _ 32 rfl b 31 i0 zeroE 10 80 underlying32 HI.out gH gw gD rfl (.slice qe ne ce) N1 FE rfl (wak.OwnM.below HOE.out (by(with_reducible repeat' (first|assumption|refine bal ?_ _|refine Below.drew ?_|exact bzR _ _)))) _ 1 1 [.int .i64 2,.int .i64 0,.int .i64 0,.int .i64 0,.int .i64 t1,.int .i64 t2,.int .i64 t3,.int .i64 t4,.int .i64 t5,.int .i64 t6] rfl rfl (World.news_of_block (cs:=#[.int .i64 2,.int .i64 0,.int .i64 0,.int .i64 0,.int .i64 t1,.int .i64 t2,.int .i64 t3,.int .i64 t4,.int .i64 t5,.int .i64 t6]) (jA _ _)) (by simp[Value.oneCell']) (by unfold maxLen;omega) (by omega) (jM GL (Below.size (w:=w2) (B:=w2.heap.size) (by(with_reducible repeat' (first|assumption|refine bal ?_ _|refine Below.drew ?_|exact bzR _ _))))) ?_;intro v' w' gA Hw Gk;obtain⟨q',n',c',rfl,⟨CD,Uy⟩,md⟩:=Gs.out _ _ _ (by(with_reducible repeat' (first|assumption|refine bal ?_ _|refine Below.drew ?_|exact bzR _ _))) gA Hw)
     all_goals
      clear Gs HOE z0 z1 z2 z3 z4 z5 y6 gA Hw;go_wp2_with fail;go_roundg (n - (kk+1))
      case measure=>have:=HM.out;omega
      case rel=>exact⟨kk+1,HM.out.1,nzR _,by go_num,md.out⟩
end flr
namespace flr
open Go.RowKit
open que (R rchk)
open sid (L DL LS)
open mee (T tV OwnT sumT)
open ord (O oV chk errV wAa wAb prB)
open que (bal)
open pur (Pz Pu Ok flatP pL)
open wak (OwnM OwnQ St SL Lies oL idx Trn)
theorem set6{w:World}{B:Nat}{y0 y1 y2 y3 y4 y5:Value}{t:TypeId}(h:w.heap[B]?=some (.cells #[y0,y1,y2,y3,y4,y5] t (0,0)))(x0 x1 x2 x3 x4 x5:Value) :
  ((((((w.setCell ⟨B,0,none⟩ x0).setCell ⟨B,1,none⟩ x1).setCell ⟨B,2,none⟩ x2).setCell ⟨B,3,none⟩ x3).setCell ⟨B,4,none⟩ x4).setCell ⟨B,5,none⟩ x5).heap[B]?=some (.cells #[x0,x1,x2,x3,x4,x5] t (0,0)):=by
 have h0:=jB w B 0 _ _ x0 h;have h1:=jB _ B 1 _ _ x1 h0;have h2:=jB _ B 2 _ _ x2 h1;have h3:=jB _ B 3 _ _ x3 h2;have h4:=jB _ B 4 _ _ x4 h3;exact jB _ B 5 _ _ x5 h4
theorem gr6(w:World)(B:Nat)(x0 x1 x2 x3 x4 x5:Value):w.grownBy ((((((w.setCell ⟨B,0,none⟩ x0).setCell ⟨B,1,none⟩ x1).setCell ⟨B,2,none⟩ x2).setCell ⟨B,3,none⟩ x3).setCell ⟨B,4,none⟩ x4).setCell ⟨B,5,none⟩ x5) (some B):=
 wak.wAe (wak.wAe (wak.wAe (wak.wAe (wak.wAe (wak.wAc _ _ _ _) (wak.wAc _ _ _ _)) (wak.wAc _ _ _ _)) (wak.wAc _ _ _ _)) (wak.wAc _ _ _ _)) (wak.wAc _ _ _ _)
structure FV where
 q1:Option Addr
 n1:Nat
 c1:Nat
 q2:Option Addr
 n2:Nat
 c2:Nat
 sp:Nat
 vw:Value
 pp:Nat
def rowF(f:FS)(v:FV):Array Value:=#[.int .i64 f.mode,.slice v.q1 v.n1 v.c1,.slice v.q2 v.n2 v.c2,.pointer (some ⟨v.sp,0,none⟩),.pointer (some ⟨v.pp,0,none⟩),.int .i64 f.last]
structure FM (w:World) (F:Nat) (f:FS) (v:FV):Prop where
 blk:w.heap[F]?=some (.cells (rowF f v) 73 (0,0))
 buys:DL w 0 (.slice v.q1 v.n1 v.c1) f.bs
 sells:DL w 0 (.slice v.q2 v.n2 v.c2) f.ss
 stops:St w 0 v.sp v.vw f.ws
 purs:Pu 112 9 w v.pp f.ps
theorem FM.lt{w:World}{F:Nat}{f:FS}{v:FV}(h:FM w F f v):F<w.heap.size:=(gzE.1 h.blk).1
theorem FM.below{w w' : World}{F:Nat}{f:FS}{v:FV}(h:FM w F f v)(hB:Bw w w'):FM w' F f v:=
 have hk:Kp [] w w':=Kp.below hB
 ⟨hk.typ _ _ _ h.blk (by simp),hk.dl h.buys (by simp) (by simp),hk.dl h.sells (by simp) (by simp),hk.st h.stops (by simp) (by simp),hk.pu h.purs (by simp)⟩
theorem FM.cells{w:World}{F:Nat}{f:FS}{v:FV}(h:FM w F f v):w.cell? ⟨F,0,none⟩=some (.int .i64 f.mode)∧w.cell? ⟨F,1,none⟩=some (.slice v.q1 v.n1 v.c1)∧w.cell? ⟨F,2,none⟩=some (.slice v.q2 v.n2 v.c2)∧w.cell? ⟨F,3,none⟩=some (.pointer (some ⟨v.sp,0,none⟩))∧w.cell? ⟨F,4,none⟩=some (.pointer (some ⟨v.pp,0,none⟩))∧w.cell? ⟨F,5,none⟩=some (.int .i64 f.last)∧∀j,w.frozen? ⟨F,j,none⟩=false:=zEP h.blk
theorem zGq{w:World}{b b' p:Nat}{v:Value}{os:List O}(h:St w b p v os)(hb:b'≤b):St w b' p v os:=⟨h.blk,jM hb h.le,wak.OwnM.mono h.own hb⟩
theorem zKy(b p:Nat)(v:Value)(os:List O)(w:World)(h:St w b p v os)(hl:os.length≤1000) :
  Calls prog 41 #[.pointer (some ⟨p,0,none⟩)] w fun e w'=>∃p' v',e=.returned (.pointer (some ⟨p',0,none⟩))∧St w' w.heap.size p' v' os∧Bw w w':=by
 have HA:=hidF (wak.wAY b p v os w h hl);clear h hl;go_enter func41,ntmps41;go_wp2_with fail;refine HA.out.mono ?_;rintro e w1⟨q,c,rfl,k1,k2⟩;have Bq:=hidF k1;have Uv:=hidF k2;clear k1 k2;go_wp2_with fail;go_ret;have hb:Bw w1 (w1.alloc (.cells #[.slice q os.length c] 107)):=(bzR _ _).alloc (nzR _) _;exact⟨_,_,rfl,⟨jA w1 _,Uv.out.size,wak.OwnM.below Bq.out hb⟩,Uv.out.trans (hb.mono Uv.out.size)⟩
theorem zIo(P:Nat)(a1 b1 c1 d1 e1 a2 b2 c2 d2 e2 a3 b3 c3 d3 e3 a4 b4 c4 d4 e4 a5 b5 c5 d5 e5 a6 b6 c6 d6 e6 a7 b7 c7 d7 e7 a8 b8 c8 d8 e8 a9 b9 c9 d9 e9:Int)(w:World)(h:w.heap[P]?=some (.cells #[.int .i64 a1,.int .i64 b1,.int .i64 c1,.int .i64 d1,.int .i64 e1,.int .i64 a2,.int .i64 b2,.int .i64 c2,.int .i64 d2,.int .i64 e2,.int .i64 a3,.int .i64 b3,.int .i64 c3,.int .i64 d3,.int .i64 e3,.int .i64 a4,.int .i64 b4,.int .i64 c4,.int .i64 d4,.int .i64 e4,.int .i64 a5,.int .i64 b5,.int .i64 c5,.int .i64 d5,.int .i64 e5,.int .i64 a6,.int .i64 b6,.int .i64 c6,.int .i64 d6,.int .i64 e6,.int .i64 a7,.int .i64 b7,.int .i64 c7,.int .i64 d7,.int .i64 e7,.int .i64 a8,.int .i64 b8,.int .i64 c8,.int .i64 d8,.int .i64 e8,.int .i64 a9,.int .i64 b9,.int .i64 c9,.int .i64 d9,.int .i64 e9] 112 (0,0))) :
  Calls prog 42 #[.pointer (some ⟨P,0,none⟩)] w fun e w'=>e=.returned (.pointer (some ⟨w.heap.size,0,none⟩))∧w'=w.alloc (.cells #[.int .i64 a1,.int .i64 b1,.int .i64 c1,.int .i64 d1,.int .i64 e1,.int .i64 a2,.int .i64 b2,.int .i64 c2,.int .i64 d2,.int .i64 e2,.int .i64 a3,.int .i64 b3,.int .i64 c3,.int .i64 d3,.int .i64 e3,.int .i64 a4,.int .i64 b4,.int .i64 c4,.int .i64 d4,.int .i64 e4,.int .i64 a5,.int .i64 b5,.int .i64 c5,.int .i64 d5,.int .i64 e5,.int .i64 a6,.int .i64 b6,.int .i64 c6,.int .i64 d6,.int .i64 e6,.int .i64 a7,.int .i64 b7,.int .i64 c7,.int .i64 d7,.int .i64 e7,.int .i64 a8,.int .i64 b8,.int .i64 c8,.int .i64 d8,.int .i64 e8,.int .i64 a9,.int .i64 b9,.int .i64 c9,.int .i64 d9,.int .i64 e9] 112):=by
 have mw:Hid (w.rangeAt P 0 (#[.int .i64 a1,.int .i64 b1,.int .i64 c1,.int .i64 d1,.int .i64 e1,.int .i64 a2,.int .i64 b2,.int .i64 c2,.int .i64 d2,.int .i64 e2,.int .i64 a3,.int .i64 b3,.int .i64 c3,.int .i64 d3,.int .i64 e3,.int .i64 a4,.int .i64 b4,.int .i64 c4,.int .i64 d4,.int .i64 e4,.int .i64 a5,.int .i64 b5,.int .i64 c5,.int .i64 d5,.int .i64 e5,.int .i64 a6,.int .i64 b6,.int .i64 c6,.int .i64 d6,.int .i64 e6,.int .i64 a7,.int .i64 b7,.int .i64 c7,.int .i64 d7,.int .i64 e7,.int .i64 a8,.int .i64 b8,.int .i64 c8,.int .i64 d8,.int .i64 e8,.int .i64 a9,.int .i64 b9,.int .i64 c9,.int .i64 d9,.int .i64 e9]).toList):=fun j u hu=>by
  have:=jZ w P (0+j) _ _ _ h;rw[this,Nat.zero_add];simpa using hu
 clear h;go_enter func42,ntmps42;go_upto_region 1 with fail
 refine wp_region_lit ?_
 iterate 3 (refine wpList_step fun K hK=>?_;go_simp;refine hK _ _ ?_;clear hK K;try simp only[Act.put,List.setIfInBounds_toArray,List.set_cons_zero,List.set_cons_succ])
 refine wpList_load_mid rfl 110 (.tmp 5) rfl P 0 rfl (#[.int .i64 a1,.int .i64 b1,.int .i64 c1,.int .i64 d1,.int .i64 e1,.int .i64 a2,.int .i64 b2,.int .i64 c2,.int .i64 d2,.int .i64 e2,.int .i64 a3,.int .i64 b3,.int .i64 c3,.int .i64 d3,.int .i64 e3,.int .i64 a4,.int .i64 b4,.int .i64 c4,.int .i64 d4,.int .i64 e4,.int .i64 a5,.int .i64 b5,.int .i64 c5,.int .i64 d5,.int .i64 e5,.int .i64 a6,.int .i64 b6,.int .i64 c6,.int .i64 d6,.int .i64 e6,.int .i64 a7,.int .i64 b7,.int .i64 c7,.int .i64 d7,.int .i64 e7,.int .i64 a8,.int .i64 b8,.int .i64 c8,.int .i64 d8,.int .i64 e8,.int .i64 a9,.int .i64 b9,.int .i64 c9,.int .i64 d9,.int .i64 e9]).toList _ mw.out underlying110 rfl (by kernel_rfl) ?_
 refine wpList_buildTo rfl 112 _ rfl (some 7) rfl #[.int .i64 a1,.int .i64 b1,.int .i64 c1,.int .i64 d1,.int .i64 e1,.int .i64 a2,.int .i64 b2,.int .i64 c2,.int .i64 d2,.int .i64 e2,.int .i64 a3,.int .i64 b3,.int .i64 c3,.int .i64 d3,.int .i64 e3,.int .i64 a4,.int .i64 b4,.int .i64 c4,.int .i64 d4,.int .i64 e4,.int .i64 a5,.int .i64 b5,.int .i64 c5,.int .i64 d5,.int .i64 e5,.int .i64 a6,.int .i64 b6,.int .i64 c6,.int .i64 d6,.int .i64 e6,.int .i64 a7,.int .i64 b7,.int .i64 c7,.int .i64 d7,.int .i64 e7,.int .i64 a8,.int .i64 b8,.int .i64 c8,.int .i64 d8,.int .i64 e8,.int .i64 a9,.int .i64 b9,.int .i64 c9,.int .i64 d9,.int .i64 e9] (by as_aux_lemma=>kernel_rfl) ?_
 obtain⟨cs,Gy⟩:∃cs:Array Value,cs=#[.int .i64 a1,.int .i64 b1,.int .i64 c1,.int .i64 d1,.int .i64 e1,.int .i64 a2,.int .i64 b2,.int .i64 c2,.int .i64 d2,.int .i64 e2,.int .i64 a3,.int .i64 b3,.int .i64 c3,.int .i64 d3,.int .i64 e3,.int .i64 a4,.int .i64 b4,.int .i64 c4,.int .i64 d4,.int .i64 e4,.int .i64 a5,.int .i64 b5,.int .i64 c5,.int .i64 d5,.int .i64 e5,.int .i64 a6,.int .i64 b6,.int .i64 c6,.int .i64 d6,.int .i64 e6,.int .i64 a7,.int .i64 b7,.int .i64 c7,.int .i64 d7,.int .i64 e7,.int .i64 a8,.int .i64 b8,.int .i64 c8,.int .i64 d8,.int .i64 e8,.int .i64 a9,.int .i64 b9,.int .i64 c9,.int .i64 d9,.int .i64 e9]:=⟨_,rfl⟩;rw[←Gy];have HCS:=hidF Gy;clear Gy mw;go_wp2_with fail;go_ret;exact⟨rfl,by rw[HCS.out]⟩
theorem zKz(P:Nat)(ps:List Pz)(w:World)(h:Pu 112 9 w P ps) :
  Calls prog 42 #[.pointer (some ⟨P,0,none⟩)] w fun e w'=>e=.returned (.pointer (some ⟨w.heap.size,0,none⟩))∧Pu 112 9 w' w.heap.size ps∧Bw w w':=by
 obtain⟨hl,hb⟩:=h
 match ps,hl,hb with
 | [⟨a1,b1,c1,d1,e1⟩,⟨a2,b2,c2,d2,e2⟩,⟨a3,b3,c3,d3,e3⟩,⟨a4,b4,c4,d4,e4⟩,⟨a5,b5,c5,d5,e5⟩,⟨a6,b6,c6,d6,e6⟩,⟨a7,b7,c7,d7,e7⟩,⟨a8,b8,c8,d8,e8⟩,⟨a9,b9,c9,d9,e9⟩],_,hb=>
  refine(zIo P a1 b1 c1 d1 e1 a2 b2 c2 d2 e2 a3 b3 c3 d3 e3 a4 b4 c4 d4 e4 a5 b5 c5 d5 e5 a6 b6 c6 d6 e6 a7 b7 c7 d7 e7 a8 b8 c8 d8 e8 a9 b9 c9 d9 e9 w (by exact hb)).mono ?_
  rintro e w'⟨rfl,rfl⟩;exact⟨rfl,⟨rfl,jA w _⟩,(bzR _ _).alloc (nzR _) _⟩
end flr
end Go.Proofs.YtmhcghgfpfainaaGreatDoor
