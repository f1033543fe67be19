import Derived.Test.YtifjhlgjgnnnpaaGreatFlrVis
import Derived.Deep.MidRow
import Derived.Great.BuildSlice
set_option maxHeartbeats 4000000
set_option maxRecDepth 100000
namespace Go.Proofs.YtifjhlgjgnnnpaaGreat
namespace flr
open Go.RowKit
open que (R rchk)
open sid (L DL LS)
open mee (T tV OwnT)
open ord (O oV chk errV errV_zero errV_of)
open que (bal)
open wak (OwnM St SL Lies oL idx Trn step_append_mid)
theorem zEt{w:World}{B:Nat}{x0 x1 x2 x3 x4 x5:Value}{t:TypeId}(h:w.heap[B]?=some (.cells #[x0,x1,x2,x3,x4,x5] t (0,0))) :
  w.cell? ⟨B,0,none⟩=some x0∧w.cell? ⟨B,1,none⟩=some x1∧w.cell? ⟨B,2,none⟩=some x2∧w.cell? ⟨B,3,none⟩=some x3∧w.cell? ⟨B,4,none⟩=some x4∧w.cell? ⟨B,5,none⟩=some x5∧∀j,w.frozen? ⟨B,j,none⟩=false:=
 ⟨by simp[World.cell?,h],by simp[World.cell?,h],by simp[World.cell?,h],by simp[World.cell?,h],by simp[World.cell?,h],by simp[World.cell?,h],fun j=>frozen_of_row w _ j _ _ h⟩
theorem zOL(k:Nat)(h:k≤1000000):wrap64 ((k:Int)+1)=((k+1:Nat):Int):=by unfold wrap64;omega
theorem zIr{α:Type}[Inhabited α](l:List α)(k:Nat)(h:k<l.length):l.drop k=l[k]!::l.drop (k+1):=by
 rw[List.drop_eq_getElem_cons h];simp[h]
structure TI (b t:Nat) (s:TS) (q:Option Addr) (n c:Nat) (ts:List T) (w:World) (X:Rs) (k:Nat) (wr:World):Prop where
 mem:∃s1 v1,TM wr b t s1 v1∧Wf s1∧s1.evs.length=s.evs.length+k∧X=trades s1 (ts.drop k)
 tn:Tn tA b w wr
 own:OwnT wr 0 (.slice q n c) ts
theorem zES{b t:Nat}{s1:TS}{v1:TV}{w w2:World}{x:T}{ps:List pur.Pz}(hM:TM w2 b t { s1 with ps:=ps } v1)(hT:Tn tA b w w2){w' U:World}(hU:Below w2.heap.size w2 U){q:Option Addr}{n c:Nat}
  (ho:OwnM w' b 42 10 (.slice q n c) (s1.evs.length+1) (zAY s1.evs++([.int .i64 2,.int .i64 0,.int .i64 0,.int .i64 0]++tV x))) (hg:U.grownBy w' (Value.slice v1.qe v1.ne v1.ce).ownBlock) :
  (w'.cell? ⟨t,6,none⟩=some (.slice v1.qe v1.ne v1.ce)∧w'.frozen? ⟨t,6,none⟩=false)∧(∃v',TM (w'.setCell ⟨t,6,none⟩ (.slice q n c)) b t { s1 with ps:=ps,evs:=s1.evs++[⟨2,0,0,0,x⟩] } v')∧Tn tA b w (w'.setCell ⟨t,6,none⟩ (.slice q n c)):=by
 have hMU:=hM.below hU
 have hr:=hMU.evrow hg
 obtain⟨-,-,-,-,-,-,y6,-,yf⟩:=wak.row8 hr
 have e1:s1.evs.length+1=(s1.evs++[(⟨2,0,0,0,x⟩:Ev)]).length:=by rw[jE];rfl
 have e2:zAY s1.evs++([.int .i64 2,.int .i64 0,.int .i64 0,.int .i64 0]++tV x)=zAY (s1.evs++[(⟨2,0,0,0,x⟩:Ev)]):=by rw[zDD,zGv];rfl
 rw[e1,e2] at ho
 obtain⟨a1,a2⟩:=hMU.told ho hg
 exact⟨⟨y6,yf 6⟩,⟨_,a1⟩,(hT.trans (Tn.below hU hM.base)).trans a2⟩
theorem trade_any(b t:Nat)(s:TS)(v:TV)(q:Option Addr)(n c:Nat)(ts:List T)(w:World)(h:TM w b t s v)(hw:Wf s)(hT:OwnT w 0 (.slice q n c) ts)(hl:s.evs.length+ts.length≤1000000) :
  Calls Tryz.prog 99 #[.pointer (some ⟨t,0,none⟩),.slice q n c] w (Res tA b t w (trades s ts)):=by
 have hn:n=ts.length:=by obtain⟨q',c',e⟩:=wak.OwnM.form hT;cases e;rfl
 obtain⟨X,hX⟩:∃X,X=trades s ts:=⟨_,rfl⟩
 rw[←hX]
 have H0:Hid (TI b t s q n c ts w X 0 w):=⟨⟨s,v,h,hw,rfl,hX⟩,Tn.refl _ _ _,hT⟩
 have HN:=hidF hn
 have HL:=hidF hl
 have HN1:Hid (n≤1000000):=by show n≤1000000;omega
 obtain⟨i0,hi0,hz0,hz1,hz2⟩:=infoE'
 have HI:=hidF hi0
 clear h hw hT hl hX hn hi0
 go_enter Tryz.func99,Tryz.ntmps99
 go_wp2_with fail
 go_loopg [6,7,10] n (fun gg _ _ s10 wr=>∃ (kk:Nat),kk≤n∧n - kk≤gg∧s10=.int .i64 kk∧Aside (TI b t s q n c ts w X kk wr))
 case atStart=>exact⟨0,jL _,by omega,rfl,H0.out⟩
 case round=>
  obtain⟨kk,hkk,hg,rfl,HA⟩:=hrel
  clear H0
  by_cases hlt:kk<n
  rotate_left
  ·have hltz:¬(kk:Int)<(n:Int):=by omega
   obtain⟨⟨s1,v1,hM,-,-,hXX⟩,hTn,-⟩:=HA.out
   have HR:Hid (Res tA b t w X (.returned .nilIface) wr):=by
    refine zPg (s:=s1) ?_ hTn hM
    rw[hXX,List.drop_eq_nil_of_le (by rw[←HN.out];omega)];rfl
   clear HA hM hXX hTn
   go_wp2_with fail
   go_ret
   exact HR.out
  ·have hltz:(kk:Int)<(n:Int):=by omega
   have hlz:kk<ts.length:=by rw[←HN.out];exact hlt
   obtain⟨⟨s1,v1,hM,hwf,hev,hXX⟩,hTn,hO⟩:=HA.out
   obtain⟨g,off,rfl,hG,x0,x1,x2,x3,x4,x5⟩:=mee.OwnT.at hO hlz
   rw[zIr ts kk hlz] at hXX
   rcases hxx:ts[kk]! with ⟨t1,t2,t3,t4,t5,t6⟩
   rw[hxx] at x0 x1 x2 x3 x4 x5 hXX
   simp only[] at x0 x1 x2 x3 x4 x5
   obtain⟨W1,hW1⟩:∃W1,W1=wr.alloc (.cells #[.int .i64 t1,.int .i64 t2,.int .i64 t3,.int .i64 t4,.int .i64 t5,.int .i64 t6] 40):=⟨_,rfl⟩
   have hb1:Below wr.heap.size wr W1:=by rw[hW1];exact(bzR _ _).alloc (nzR _) _
   have hr1:W1.heap[wr.heap.size]?=some (.cells #[.int .i64 t1,.int .i64 t2,.int .i64 t3,.int .i64 t4,.int .i64 t5,.int .i64 t6] 40 (0,0)):=by rw[hW1];exact jA wr _
   have HM:Hid (kk<n∧n - kk≤gk):=⟨hlt,hg⟩
   have HEI:=hidF (zOL kk (by have:=HN1.out;omega))
   have HEV:Hid (s1.evs.length≤999999):=by show s1.evs.length≤999999;have:=HL.out;omega
   obtain⟨Z,hZ⟩:∃Z,Z=wr.heap.size:=⟨_,rfl⟩
   rw[←hZ] at hr1
   have HNX:Hid (∀ (wz:World) (ps:List pur.Pz),(∃v',TM wz b t { s1 with ps:=ps,evs:=s1.evs++[(⟨2,0,0,0,⟨t1,t2,t3,t4,t5,t6⟩⟩:Ev)] } v')→Tn tA b w wz→ps=pur.zAH s1.ps t3 t4 t5 t6→pur.zAI s1.ps t3 t4 t5 t6=0→OwnT wz 0 (.slice (some ⟨g,off,none⟩) n c) ts→TI b t s (some ⟨g,off,none⟩) n c ts w X (kk+1) wz):=fun wz ps hv' ht' hps hE ho'=>by
    obtain⟨v',hv'⟩:=hv'
    refine⟨⟨_,v',hv',⟨hwf.m0,hwf.m3,hwf.book,?_,hwf.ws⟩,?_,?_⟩,ht',ho'⟩
    ·rw[hps];exact pur.zId hwf.ok _ _ _ _
    ·simp only[jE,jG,List.length_nil,hev];omega
    ·rw[hXX]
     show (trade1 s1 ⟨t1,t2,t3,t4,t5,t6⟩).bind _=_
     unfold trade1
     simp only[]
     rw[if_pos hE,hps]
     rfl
   have HTR:Hid (∀U,Below W1.heap.size W1 U→Calls Tryz.prog 127 #[.pointer (some ⟨v1.pp,0,none⟩),.agg #[.int .i64 t1,.int .i64 t2,.int .i64 t3,.int .i64 t4,.int .i64 t5,.int .i64 t6]] U fun e w'=>∃E,e=.returned E∧Hid ((E=.nilIface∧Hid (TM w' b t { s1 with ps:=pur.zAH s1.ps t3 t4 t5 t6 } v1)∧Hid (Tn tA b w w')∧Hid (OwnT w' 0 (.slice (some ⟨g,off,none⟩) n c) ts)∧Hid (pur.zAI s1.ps t3 t4 t5 t6=0)∧w'.heap[Z]?=some (.cells #[.int .i64 t1,.int .i64 t2,.int .i64 t3,.int .i64 t4,.int .i64 t5,.int .i64 t6] 40 (0,0)))∨∃k,E=.iface 91 (.int .i64 k)∧Hid (Res tA b t w X (.returned (.iface 91 (.int .i64 k))) w'))):=fun U hU=>by
    have hwU:=hb1.trans (hU.mono hb1.size)
    have hMU:=hM.below hwU
    refine(pur.trade_any v1.pp s1.ps t1 t2 t3 t4 t5 t6 U hMU.purs hwf.ok).mono ?_
    rintro e w'⟨rfl,k1,k2⟩
    obtain⟨k3,k4⟩:=hMU.pay k1 k2
    have k5:=(hTn.trans (Tn.below hwU hM.base)).trans k4
    refine⟨_,rfl,?_⟩
    show _∨_
    by_cases hE:pur.zAI s1.ps t3 t4 t5 t6=0
    ·left
     exact⟨by rw[hE];rfl,k3,k5,k4.kp.ownQ (Kp.ownQ (S:=[]) (Kp.below hwU) hO (by simp)) (by decide),hE,k4.kp.typ _ _ _ (zBl hr1 hU) (by decide)⟩
    ·right
     refine⟨_,errV_of hE,?_⟩
     show Res _ _ _ _ _ _ _
     refine zAD ?_ hE k5
     rw[hXX]
     show (trade1 s1 ⟨t1,t2,t3,t4,t5,t6⟩).bind _=_
     unfold trade1
     simp only[]
     rw[if_neg hE]
     rfl
   have HX4:Hid (W1.cell? ⟨t,4,none⟩=some (.pointer (some ⟨v1.pp,0,none⟩))):=(hM.below hb1).cells.2.2.2.2.1
   have HR1:=hidF hr1
   have HRF:=hidF (bzR W1.heap.size W1)
   clear hM hwf hev hXX hTn hO hb1 hr1 HA hlt hg hkk hlz hxx
   go_upto_region 4 with fail
   rw[←hW1]
   simp only[←hZ]
   clear x0 x1 x2 x3 x4 x5 hW1 hZ hG
   have x4:=HX4.out
   obtain⟨z0,z1,z2,z3,z4,z5,-⟩:=zEt HR1.out
   go_region_with (go_at_call 127;with_reducible refine(HTR.out _ ?_).mono ?_;(with_reducible repeat' (first|exact HRF.out|assumption|refine Below.drew ?_));rintro x w2 ⟨E,rfl,HOR⟩)
   all_goals
    clear x4 z0 z1 z2 z3 z4 z5
    rcases HOR.out with ⟨rfl,HM2,HT2,HO2,HE2,h6⟩|⟨k,rfl,HR⟩
    rotate_left
    ·clear HOR
     go_wp2_with fail
     go_ret
     exact HR.out
    ·clear HOR
     have HSZ:Hid (Z<w2.heap.size∧t<w2.heap.size∧b≤w2.heap.size):=⟨(gzE.1 h6).1,HM2.out.lt,HM2.out.base⟩
     have HOE:Hid (OwnM w2 b 42 10 (.slice v1.qe v1.ne v1.ce) s1.evs.length (zAY s1.evs)):=HM2.out.evs
     have HPX:Hid (∀U w' v',Below w2.heap.size w2 U→OwnM w' b 42 10 v' (s1.evs.length+1) (zAY s1.evs++[.int .i64 2,.int .i64 0,.int .i64 0,.int .i64 0,.int .i64 t1,.int .i64 t2,.int .i64 t3,.int .i64 t4,.int .i64 t5,.int .i64 t6])→U.grownBy w' (Value.slice v1.qe v1.ne v1.ce).ownBlock→∃q' n' c',v'=.slice q' n' c'∧(w'.cell? ⟨t,6,none⟩=some (.slice v1.qe v1.ne v1.ce)∧w'.frozen? ⟨t,6,none⟩=false)∧Hid (TI b t s (some ⟨g,off,none⟩) n c ts w X (kk+1) (w'.setCell ⟨t,6,none⟩ (.slice q' n' c')))):=fun U w' v' hU ho hgr=>by
      obtain⟨q',c',rfl⟩:=wak.OwnM.form ho
      obtain⟨y,a1,a2⟩:=zES (x:=⟨t1,t2,t3,t4,t5,t6⟩) HM2.out HT2.out hU ho hgr
      refine⟨q',_,c',rfl,y,?_⟩
      show TI _ _ _ _ _ _ _ _ _ _ _
      refine HNX.out _ _ a1 a2 rfl HE2.out ?_
      have hk:Kp tA w2 (w'.setCell ⟨t,6,none⟩ (.slice q' (s1.evs.length+1) c')):=by
       obtain⟨-,-,kk⟩:=zES (w:=w2) (x:=⟨t1,t2,t3,t4,t5,t6⟩) HM2.out (Tn.refl _ _ _) hU ho hgr
       exact kk.kp
      exact hk.ownQ HO2.out (by decide)
     obtain⟨-,-,-,-,-,-,y6,-,-⟩:=HM2.out.cells
     obtain⟨z0,z1,z2,z3,z4,z5,-⟩:=zEt h6
     obtain⟨r1,r2,r3,r4,r5,r6,r7,r8,r9,qe,ne,ce,qk,nk,ck⟩:=v1
     simp only[] at y6
     have hZ2:=HSZ.out.1
     have ht2:=HSZ.out.2.1
     have hbs:=HSZ.out.2.2
     have hev:=HEV.out
     have ei:=HEI.out
     clear h6 HM2 HT2 HO2 HE2 HNX HTR HX4 HR1 HRF HSZ
     generalize s1.evs.length=N1 at *
     generalize zAY s1.evs=FE at *
     go_upto_region 7 with fail
     go_region_law (refine step_append_mid _ rfl _ _ 28 rfl b 42 i0 zOp 10 80 Tryz.underlying28 HI.out hz0 hz1 hz2 rfl (.slice qe ne ce) N1 FE rfl (wak.OwnM.below HOE.out (by(with_reducible repeat' (first|assumption|refine bal ?_ _|refine Below.drew ?_|exact bzR _ _)))) _ 1 1 [.int .i64 2,.int .i64 0,.int .i64 0,.int .i64 0,.int .i64 t1,.int .i64 t2,.int .i64 t3,.int .i64 t4,.int .i64 t5,.int .i64 t6] rfl rfl (World.news_of_block (cs:=#[.int .i64 2,.int .i64 0,.int .i64 0,.int .i64 0,.int .i64 t1,.int .i64 t2,.int .i64 t3,.int .i64 t4,.int .i64 t5,.int .i64 t6]) (jA _ _)) (by simp[Value.oneCell']) (by unfold maxLen;omega) (by omega) (jM hbs (Below.size (w:=w2) (B:=w2.heap.size) (by(with_reducible repeat' (first|assumption|refine bal ?_ _|refine Below.drew ?_|exact bzR _ _))))) ?_;intro v' w' hO' hgr hat;obtain⟨q',n',c',rfl,⟨hS2,hS3⟩,hPX⟩:=HPX.out _ _ _ (by(with_reducible repeat' (first|assumption|refine bal ?_ _|refine Below.drew ?_|exact bzR _ _))) hO' hgr)
     all_goals
      clear HPX HOE z0 z1 z2 z3 z4 z5 y6 hO' hgr
      go_wp2_with fail
      go_roundg (n - (kk+1))
      case measure=>have:=HM.out;omega
      case rel=>exact⟨kk+1,HM.out.1,nzR _,by go_num,hPX.out⟩
end flr
namespace flr
open Go.RowKit
open que (R rchk)
open sid (L DL LS)
open mee (T tV OwnT sumT)
open ord (O oV chk errV errV_zero errV_of prB)
open que (bal)
open pur (Pz Pu Ok flatP pL)
open wak (OwnM OwnQ St SL Lies oL idx Trn)
theorem set6{w:World}{B:Nat}{y0 y1 y2 y3 y4 y5:Value}{t:TypeId}(h:w.heap[B]?=some (.cells #[y0,y1,y2,y3,y4,y5] t (0,0)))(x0 x1 x2 x3 x4 x5:Value) :
  ((((((w.setCell ⟨B,0,none⟩ x0).setCell ⟨B,1,none⟩ x1).setCell ⟨B,2,none⟩ x2).setCell ⟨B,3,none⟩ x3).setCell ⟨B,4,none⟩ x4).setCell ⟨B,5,none⟩ x5).heap[B]?=some (.cells #[x0,x1,x2,x3,x4,x5] t (0,0)):=by
 have h0:=jB w B 0 _ _ x0 h
 have h1:=jB _ B 1 _ _ x1 h0
 have h2:=jB _ B 2 _ _ x2 h1
 have h3:=jB _ B 3 _ _ x3 h2
 have h4:=jB _ B 4 _ _ x4 h3
 exact jB _ B 5 _ _ x5 h4
theorem gr6(w:World)(B:Nat)(x0 x1 x2 x3 x4 x5:Value):w.grownBy ((((((w.setCell ⟨B,0,none⟩ x0).setCell ⟨B,1,none⟩ x1).setCell ⟨B,2,none⟩ x2).setCell ⟨B,3,none⟩ x3).setCell ⟨B,4,none⟩ x4).setCell ⟨B,5,none⟩ x5) (some B):=
 wak.gr_trans (wak.gr_trans (wak.gr_trans (wak.gr_trans (wak.gr_trans (wak.gr_setCell _ _ _ _) (wak.gr_setCell _ _ _ _)) (wak.gr_setCell _ _ _ _)) (wak.gr_setCell _ _ _ _)) (wak.gr_setCell _ _ _ _)) (wak.gr_setCell _ _ _ _)
structure FV where
 q1:Option Addr
 n1:Nat
 c1:Nat
 q2:Option Addr
 n2:Nat
 c2:Nat
 sp:Nat
 vw:Value
 pp:Nat
def rowF(f:FS)(v:FV):Array Value:=#[.int .i64 f.mode,.slice v.q1 v.n1 v.c1,.slice v.q2 v.n2 v.c2,.pointer (some ⟨v.sp,0,none⟩),.pointer (some ⟨v.pp,0,none⟩),.int .i64 f.last]
structure FM (w:World) (F:Nat) (f:FS) (v:FV):Prop where
 blk:w.heap[F]?=some (.cells (rowF f v) 81 (0,0))
 buys:DL w 0 (.slice v.q1 v.n1 v.c1) f.bs
 sells:DL w 0 (.slice v.q2 v.n2 v.c2) f.ss
 stops:St w 0 v.sp v.vw f.ws
 purs:Pu 110 9 w v.pp f.ps
theorem FM.lt{w:World}{F:Nat}{f:FS}{v:FV}(h:FM w F f v):F<w.heap.size:=(gzE.1 h.blk).1
theorem FM.below{w w' : World}{F:Nat}{f:FS}{v:FV}(h:FM w F f v)(hB:Below w.heap.size w w'):FM w' F f v:=
 have hk:Kp [] w w':=Kp.below hB
 ⟨hk.typ _ _ _ h.blk (by simp),hk.dl h.buys (by simp) (by simp),hk.dl h.sells (by simp) (by simp),hk.st h.stops (by simp) (by simp),hk.pu h.purs (by simp)⟩
theorem FM.cells{w:World}{F:Nat}{f:FS}{v:FV}(h:FM w F f v):w.cell? ⟨F,0,none⟩=some (.int .i64 f.mode)∧w.cell? ⟨F,1,none⟩=some (.slice v.q1 v.n1 v.c1)∧w.cell? ⟨F,2,none⟩=some (.slice v.q2 v.n2 v.c2)∧w.cell? ⟨F,3,none⟩=some (.pointer (some ⟨v.sp,0,none⟩))∧w.cell? ⟨F,4,none⟩=some (.pointer (some ⟨v.pp,0,none⟩))∧w.cell? ⟨F,5,none⟩=some (.int .i64 f.last)∧∀j,w.frozen? ⟨F,j,none⟩=false:=zEt h.blk
theorem zFG{w:World}{b b' p:Nat}{v:Value}{os:List O}(h:St w b p v os)(hb:b'≤b):St w b' p v os:=⟨h.blk,jM hb h.le,wak.OwnM.mono h.own hb⟩
theorem zJq(b p:Nat)(v:Value)(os:List O)(w:World)(h:St w b p v os)(hl:os.length≤1000) :
  Calls Tryz.prog 47 #[.pointer (some ⟨p,0,none⟩)] w fun e w'=>∃p' v',e=.returned (.pointer (some ⟨p',0,none⟩))∧St w' w.heap.size p' v' os∧Below w.heap.size w w':=by
 have HA:=hidF (wak.all_any b p v os w h hl)
 clear h hl
 go_enter Tryz.func47,Tryz.ntmps47
 go_wp2_with fail
 refine HA.out.mono ?_
 rintro e w1⟨q,c,rfl,k1,k2⟩
 have HK1:=hidF k1
 have HK2:=hidF k2
 clear k1 k2
 go_wp2_with fail
 go_ret
 have hb:Below w1.heap.size w1 (w1.alloc (.cells #[.slice q os.length c] 107)):=(bzR _ _).alloc (nzR _) _
 exact⟨_,_,rfl,⟨jA w1 _,HK2.out.size,wak.OwnM.below HK1.out hb⟩,HK2.out.trans (hb.mono HK2.out.size)⟩
theorem zHv(P:Nat)(a1 b1 c1 d1 e1 a2 b2 c2 d2 e2 a3 b3 c3 d3 e3 a4 b4 c4 d4 e4 a5 b5 c5 d5 e5 a6 b6 c6 d6 e6 a7 b7 c7 d7 e7 a8 b8 c8 d8 e8 a9 b9 c9 d9 e9:Int)(w:World)(h:w.heap[P]?=some (.cells #[.int .i64 a1,.int .i64 b1,.int .i64 c1,.int .i64 d1,.int .i64 e1,.int .i64 a2,.int .i64 b2,.int .i64 c2,.int .i64 d2,.int .i64 e2,.int .i64 a3,.int .i64 b3,.int .i64 c3,.int .i64 d3,.int .i64 e3,.int .i64 a4,.int .i64 b4,.int .i64 c4,.int .i64 d4,.int .i64 e4,.int .i64 a5,.int .i64 b5,.int .i64 c5,.int .i64 d5,.int .i64 e5,.int .i64 a6,.int .i64 b6,.int .i64 c6,.int .i64 d6,.int .i64 e6,.int .i64 a7,.int .i64 b7,.int .i64 c7,.int .i64 d7,.int .i64 e7,.int .i64 a8,.int .i64 b8,.int .i64 c8,.int .i64 d8,.int .i64 e8,.int .i64 a9,.int .i64 b9,.int .i64 c9,.int .i64 d9,.int .i64 e9] 110 (0,0))) :
  Calls Tryz.prog 48 #[.pointer (some ⟨P,0,none⟩)] w fun e w'=>e=.returned (.pointer (some ⟨w.heap.size,0,none⟩))∧w'=w.alloc (.cells #[.int .i64 a1,.int .i64 b1,.int .i64 c1,.int .i64 d1,.int .i64 e1,.int .i64 a2,.int .i64 b2,.int .i64 c2,.int .i64 d2,.int .i64 e2,.int .i64 a3,.int .i64 b3,.int .i64 c3,.int .i64 d3,.int .i64 e3,.int .i64 a4,.int .i64 b4,.int .i64 c4,.int .i64 d4,.int .i64 e4,.int .i64 a5,.int .i64 b5,.int .i64 c5,.int .i64 d5,.int .i64 e5,.int .i64 a6,.int .i64 b6,.int .i64 c6,.int .i64 d6,.int .i64 e6,.int .i64 a7,.int .i64 b7,.int .i64 c7,.int .i64 d7,.int .i64 e7,.int .i64 a8,.int .i64 b8,.int .i64 c8,.int .i64 d8,.int .i64 e8,.int .i64 a9,.int .i64 b9,.int .i64 c9,.int .i64 d9,.int .i64 e9] 110):=by
 have HRG:Hid (w.rangeAt P 0 (#[.int .i64 a1,.int .i64 b1,.int .i64 c1,.int .i64 d1,.int .i64 e1,.int .i64 a2,.int .i64 b2,.int .i64 c2,.int .i64 d2,.int .i64 e2,.int .i64 a3,.int .i64 b3,.int .i64 c3,.int .i64 d3,.int .i64 e3,.int .i64 a4,.int .i64 b4,.int .i64 c4,.int .i64 d4,.int .i64 e4,.int .i64 a5,.int .i64 b5,.int .i64 c5,.int .i64 d5,.int .i64 e5,.int .i64 a6,.int .i64 b6,.int .i64 c6,.int .i64 d6,.int .i64 e6,.int .i64 a7,.int .i64 b7,.int .i64 c7,.int .i64 d7,.int .i64 e7,.int .i64 a8,.int .i64 b8,.int .i64 c8,.int .i64 d8,.int .i64 e8,.int .i64 a9,.int .i64 b9,.int .i64 c9,.int .i64 d9,.int .i64 e9]).toList):=fun j u hu=>by
  have:=jZ w P (0+j) _ _ _ h
  rw[this,Nat.zero_add]
  simpa using hu
 clear h
 go_enter Tryz.func48,Tryz.ntmps48
 go_upto_region 1 with fail
 refine wp_region_lit ?_
 iterate 3 (refine wpList_step fun K hK=>?_;go_simp;refine hK _ _ ?_;clear hK K;try simp only[Act.put,List.setIfInBounds_toArray,List.set_cons_zero,List.set_cons_succ])
 refine wpList_load_mid rfl 108 (.tmp 5) rfl P 0 rfl (#[.int .i64 a1,.int .i64 b1,.int .i64 c1,.int .i64 d1,.int .i64 e1,.int .i64 a2,.int .i64 b2,.int .i64 c2,.int .i64 d2,.int .i64 e2,.int .i64 a3,.int .i64 b3,.int .i64 c3,.int .i64 d3,.int .i64 e3,.int .i64 a4,.int .i64 b4,.int .i64 c4,.int .i64 d4,.int .i64 e4,.int .i64 a5,.int .i64 b5,.int .i64 c5,.int .i64 d5,.int .i64 e5,.int .i64 a6,.int .i64 b6,.int .i64 c6,.int .i64 d6,.int .i64 e6,.int .i64 a7,.int .i64 b7,.int .i64 c7,.int .i64 d7,.int .i64 e7,.int .i64 a8,.int .i64 b8,.int .i64 c8,.int .i64 d8,.int .i64 e8,.int .i64 a9,.int .i64 b9,.int .i64 c9,.int .i64 d9,.int .i64 e9]).toList _ HRG.out Tryz.underlying108 rfl (by kernel_rfl) ?_
 refine wpList_buildTo rfl 110 _ rfl (some 7) rfl #[.int .i64 a1,.int .i64 b1,.int .i64 c1,.int .i64 d1,.int .i64 e1,.int .i64 a2,.int .i64 b2,.int .i64 c2,.int .i64 d2,.int .i64 e2,.int .i64 a3,.int .i64 b3,.int .i64 c3,.int .i64 d3,.int .i64 e3,.int .i64 a4,.int .i64 b4,.int .i64 c4,.int .i64 d4,.int .i64 e4,.int .i64 a5,.int .i64 b5,.int .i64 c5,.int .i64 d5,.int .i64 e5,.int .i64 a6,.int .i64 b6,.int .i64 c6,.int .i64 d6,.int .i64 e6,.int .i64 a7,.int .i64 b7,.int .i64 c7,.int .i64 d7,.int .i64 e7,.int .i64 a8,.int .i64 b8,.int .i64 c8,.int .i64 d8,.int .i64 e8,.int .i64 a9,.int .i64 b9,.int .i64 c9,.int .i64 d9,.int .i64 e9] (by as_aux_lemma=>kernel_rfl) ?_
 obtain⟨cs,hcs⟩:∃cs:Array Value,cs=#[.int .i64 a1,.int .i64 b1,.int .i64 c1,.int .i64 d1,.int .i64 e1,.int .i64 a2,.int .i64 b2,.int .i64 c2,.int .i64 d2,.int .i64 e2,.int .i64 a3,.int .i64 b3,.int .i64 c3,.int .i64 d3,.int .i64 e3,.int .i64 a4,.int .i64 b4,.int .i64 c4,.int .i64 d4,.int .i64 e4,.int .i64 a5,.int .i64 b5,.int .i64 c5,.int .i64 d5,.int .i64 e5,.int .i64 a6,.int .i64 b6,.int .i64 c6,.int .i64 d6,.int .i64 e6,.int .i64 a7,.int .i64 b7,.int .i64 c7,.int .i64 d7,.int .i64 e7,.int .i64 a8,.int .i64 b8,.int .i64 c8,.int .i64 d8,.int .i64 e8,.int .i64 a9,.int .i64 b9,.int .i64 c9,.int .i64 d9,.int .i64 e9]:=⟨_,rfl⟩
 rw[←hcs]
 have HCS:=hidF hcs
 clear hcs HRG
 go_wp2_with fail
 go_ret
 exact⟨rfl,by rw[HCS.out]⟩
theorem zJr(P:Nat)(ps:List Pz)(w:World)(h:Pu 110 9 w P ps) :
  Calls Tryz.prog 48 #[.pointer (some ⟨P,0,none⟩)] w fun e w'=>e=.returned (.pointer (some ⟨w.heap.size,0,none⟩))∧Pu 110 9 w' w.heap.size ps∧Below w.heap.size w w':=by
 obtain⟨hl,hb⟩:=h
 match ps,hl,hb with
 | [⟨a1,b1,c1,d1,e1⟩,⟨a2,b2,c2,d2,e2⟩,⟨a3,b3,c3,d3,e3⟩,⟨a4,b4,c4,d4,e4⟩,⟨a5,b5,c5,d5,e5⟩,⟨a6,b6,c6,d6,e6⟩,⟨a7,b7,c7,d7,e7⟩,⟨a8,b8,c8,d8,e8⟩,⟨a9,b9,c9,d9,e9⟩],_,hb=>
  refine(zHv P a1 b1 c1 d1 e1 a2 b2 c2 d2 e2 a3 b3 c3 d3 e3 a4 b4 c4 d4 e4 a5 b5 c5 d5 e5 a6 b6 c6 d6 e6 a7 b7 c7 d7 e7 a8 b8 c8 d8 e8 a9 b9 c9 d9 e9 w (by exact hb)).mono ?_
  rintro e w'⟨rfl,rfl⟩
  exact⟨rfl,⟨rfl,jA w _⟩,(bzR _ _).alloc (nzR _) _⟩
end flr
end Go.Proofs.YtifjhlgjgnnnpaaGreat
