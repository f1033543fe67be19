import Derived.Test.YtnfilcpnneckkaaGreatFlrWf
import Derived.Great.BuildSlice
set_option maxHeartbeats 4000000
set_option maxRecDepth 100000
namespace Go.Proofs.YtnfilcpnneckkaaGreat
open Go.Proofs.Tryz
namespace flr
open Go.RowKit
open que (R rchk)
open sid (L DL LS)
open mee (T tV OwnT zAr zAu metR)
open ord (O oV chk errV wAa wAb)
open bok (zAc zAg)
open kin (kdoE)
open slf (OwnI sE Fine)
open que (bal)
open wak (St SL Lies oL idx Trn)
structure VI (m:Int) (bs ss:List L) (o:O) (w' : World) (q1:Option Addr) (n1 c1:Nat) (q2:Option Addr) (n2 c2:Nat) (qt:Option Addr) (nt ct:Nat) (g:Int) (qi:Option Addr) (ni ci:Nat) (E:Value):Prop where
 ok:vE m bs ss o=0→E=.nilIface∧g=(vR m bs ss o).gone∧DL w' 0 (.slice q1 n1 c1) (vR m bs ss o).bs∧DL w' 0 (.slice q2 n2 c2) (vR m bs ss o).ss∧OwnT w' 0 (.slice qt nt ct) (vR m bs ss o).ts∧OwnI w' 0 (.slice qi ni ci) (vR m bs ss o).ids
 bad:¬vE m bs ss o=0→E=.iface 90 (.int .i64 (vE m bs ss o))
theorem VI.kp{S:List TypeId}{m:Int}{bs ss:List L}{o:O}{w w' : World}{q1:Option Addr}{n1 c1:Nat}{q2:Option Addr}{n2 c2:Nat}{qt:Option Addr}{nt ct:Nat}{g:Int}{qi:Option Addr}{ni ci:Nat}{E:Value}(h:VI m bs ss o w q1 n1 c1 q2 n2 c2 qt nt ct g qi ni ci E)(hk:Kp S w w')(h1:54 ∉ S)(h2:51 ∉ S)(h3:38 ∉ S)(h4:3 ∉ S):VI m bs ss o w' q1 n1 c1 q2 n2 c2 qt nt ct g qi ni ci E:=
 ⟨fun e=>by
  obtain⟨a,b,c,d,e,f⟩:=h.ok e;exact⟨a,b,hk.dl c h1 h2,hk.dl d h1 h2,hk.ownQ e h3,hk.ownQ f h4⟩,h.bad⟩
theorem zPw(m:Int)(h0:0≤m)(h3:m≤3)(q1 q2:Option Addr)(n1 n2 c1 c2:Nat)(bs ss:List L)(a b c d p q s t:Int)(w:World)(h1:LS w (.slice q1 n1 c1) bs)(h2:LS w (.slice q2 n2 c2) ss) :
  Calls prog 90 #[.agg #[.slice q1 n1 c1,.slice q2 n2 c2],.agg #[.int .i64 a,.int .i64 b,.int .i64 c,.int .i64 d,.int .i64 p,.int .i64 q,.int .i64 s,.int .i64 t],.int .i64 m] w fun e w'=>∃u1 m1 d1 u2 m2 d2 qt nt ct g qi ni ci E,e=.returned (.tuple #[.agg #[.slice u1 m1 d1,.slice u2 m2 d2],.slice qt nt ct,.int .i64 g,.slice qi ni ci,E])∧VI m bs ss ⟨a,b,c,d,p,q,s,t⟩ w' u1 m1 d1 u2 m2 d2 qt nt ct g qi ni ci E∧Bw w w':=by
 by_cases hm:m=0
 ·subst hm;refine(slf.zOD q1 q2 n1 n2 c1 c2 bs ss a b c d p q s t w h1 h2).mono ?_;rintro e w'⟨k1,k2,k3⟩;have hE:vE 0 bs ss ⟨a,b,c,d,p,q,s,t⟩=kdoE bs ss ⟨a,b,c,d,p,q,s,t⟩:=by unfold vE;rw[if_pos rfl]
  by_cases hk:kdoE bs ss ⟨a,b,c,d,p,q,s,t⟩=0
  ·obtain⟨y1,y2,l1,l2,f1,f2,tv,rfl,D1,D2,OT⟩:=k1 hk;obtain⟨tq,tc,rfl⟩:=wak.OwnM.form OT;refine⟨y1,l1,f1,y2,l2,f2,tq,_,tc,_,none,0,0,_,rfl,⟨fun _=>⟨rfl,?_,?_,?_,?_,?_⟩,fun h=>absurd (hE.trans hk) h⟩,k3⟩
   ·unfold vR;rw[if_pos rfl]
   ·unfold vR;rw[if_pos rfl];exact D1.mono (jL _)
   ·unfold vR;rw[if_pos rfl];exact D2.mono (jL _)
   ·unfold vR;rw[if_pos rfl];exact wak.OwnM.mono OT (jL _)
   ·unfold vR;rw[if_pos rfl];exact⟨rfl,.inl ⟨rfl,rfl⟩⟩
  ·have:=k2 hk;subst this;exact⟨none,0,0,none,0,0,none,0,0,0,none,0,0,_,rfl,⟨fun h=>absurd (hE.symm.trans h) hk,fun _=>by rw[hE];exact spn.wAb hk⟩,k3⟩
 ·refine(slf.zOC m (by omega) q1 q2 n1 n2 c1 c2 bs ss a b c d p q s t w h1 h2).mono ?_
  rintro e w'⟨k1,k2,k3⟩;by_cases hc:zAu bs ss ⟨a,b,c,d,p,q,s,t⟩=0
  ·obtain⟨v,hv⟩:=slf.zEk (m:=m) (o:=⟨a,b,c,d,p,q,s,t⟩) (k:=q) (by omega) (wAp hc)
   have CZ:=zMt hv;have hE:vE m bs ss ⟨a,b,c,d,p,q,s,t⟩=sE bs ss ⟨a,b,c,d,p,q,s,t⟩ v:=by unfold vE;rw[if_neg hm,if_pos hc];simp only[CZ]
   have hV:vR m bs ss ⟨a,b,c,d,p,q,s,t⟩=⟨kin.setB (slf.repB ⟨a,b,c,d,p,q,s,t⟩ bs v.ls) ⟨a,b,c,d,p,q,s,t⟩ (slf.lfV v),kin.setS (slf.repS ⟨a,b,c,d,p,q,s,t⟩ ss v.ls) ⟨a,b,c,d,p,q,s,t⟩ (slf.lfV v),v.ts,slf.gnV v+kin.setG ⟨a,b,c,d,p,q,s,t⟩ (slf.lfV v),v.ids⟩:=by unfold vR;rw[if_neg hm];simp only[CZ]
   obtain⟨k4,k5⟩:=k2 hc v hv;by_cases hs:sE bs ss ⟨a,b,c,d,p,q,s,t⟩ v=0
   ·obtain⟨y1,y2,l1,l2,f1,f2,tv,iv,rfl,D1,D2,OT,OI⟩:=k4 hs;obtain⟨tq,tc,rfl⟩:=wak.OwnM.form OT;obtain⟨iq,ic,rfl⟩:=wak.OwnM.form OI;refine⟨y1,l1,f1,y2,l2,f2,tq,_,tc,_,iq,_,ic,_,rfl,⟨fun _=>⟨rfl,?_,?_,?_,?_,?_⟩,fun h=>absurd (hE.trans hs) h⟩,k3⟩
    ·rw[hV]
    ·rw[hV];exact D1.mono (jL _)
    ·rw[hV];exact D2.mono (jL _)
    ·rw[hV];exact wak.OwnM.mono OT (jL _)
    ·rw[hV];exact wak.OwnM.mono OI (jL _)
   ·have:=k5 hs;subst this;exact⟨none,0,0,none,0,0,none,0,0,0,none,0,0,_,rfl,⟨fun h=>absurd (hE.symm.trans h) hs,fun _=>by rw[hE];exact spn.wAb hs⟩,k3⟩
  ·have:=k1 hc;subst this;have hE:vE m bs ss ⟨a,b,c,d,p,q,s,t⟩=zAu bs ss ⟨a,b,c,d,p,q,s,t⟩:=by unfold vE;rw[if_neg hm,if_neg hc]
   exact⟨none,0,0,none,0,0,none,0,0,0,none,0,0,_,rfl,⟨fun h=>absurd (hE.symm.trans h) hc,fun _=>by rw[hE];exact spn.wAb hc⟩,k3⟩
theorem zJZ{W w2:World}{cur:Array Value}{t:TypeId}(h:Below (W.alloc (.cells cur t)).drew.heap.size (W.alloc (.cells cur t)).drew w2):w2.heap[W.heap.size]?=some (.cells cur t (0,0)):=zBL (show (W.alloc (.cells cur t)).drew.heap[W.heap.size]?=some (.cells cur t (0,0)) from jA W _) h
theorem zHs(b t:Nat)(s:TS)(v:TV)(a1 a2 a3 a4 a5 a6 a7 a8:Int)(w:World)(h:TM w b t s v)(hw:Wf s) :
  Calls prog 58 #[.pointer (some ⟨t,0,none⟩),.agg #[.int .i64 a1,.int .i64 a2,.int .i64 a3,.int .i64 a4,.int .i64 a5,.int .i64 a6,.int .i64 a7,.int .i64 a8]] w fun e w'=>∃q1 n1 c1 q2 n2 c2 qt nt ct g qi ni ci E,e=.returned (.tuple #[.agg #[.slice q1 n1 c1,.slice q2 n2 c2,.slice qt nt ct,.int .i64 g,.slice qi ni ci],E])∧VI s.mode s.bs s.ss ⟨a1,a2,a3,a4,a5,a6,a7,a8⟩ w' q1 n1 c1 q2 n2 c2 qt nt ct g qi ni ci E∧Below w.heap.size w w':=by
 obtain⟨W1,H7⟩:∃W,W=w.alloc (.cells #[.int .i64 a1,.int .i64 a2,.int .i64 a3,.int .i64 a4,.int .i64 a5,.int .i64 a6,.int .i64 a7,.int .i64 a8] 34):=⟨_,rfl⟩;have Hc:Below w.heap.size w W1:=by rw[H7];exact(bzR _ _).alloc (nzR _) _
 have Hl:W1.heap.size=w.heap.size+1:=by rw[H7];simp
 have gq:W1.heap[w.heap.size]?=some (.cells #[.int .i64 a1,.int .i64 a2,.int .i64 a3,.int .i64 a4,.int .i64 a5,.int .i64 a6,.int .i64 a7,.int .i64 a8] 34 (0,0)):=by rw[H7];exact jA w _
 obtain⟨W,hW⟩:∃W,W=W1.alloc (.cells #[.slice none 0 0,.slice none 0 0,.slice none 0 0,.int .i64 0,.slice none 0 0] 127):=⟨_,rfl⟩;have Ha:Below W1.heap.size W1 W:=by rw[hW];exact(bzR _ _).alloc (nzR _) _
 have H9:W.heap.size=w.heap.size+2:=by rw[hW];simp[Hl]
 have H5:W.heap[w.heap.size+1]?=some (.cells #[.slice none 0 0,.slice none 0 0,.slice none 0 0,.int .i64 0,.slice none 0 0] 127 (0,0)):=by rw[←Hl,hW];exact jA W1 _
 have Hj:=Hc.trans (Ha.mono Hc.size);obtain⟨G,hG⟩:∃G,G=w.heap.size:=⟨_,rfl⟩;have bR:W.heap[G]?=some (.cells #[.int .i64 a1,.int .i64 a2,.int .i64 a3,.int .i64 a4,.int .i64 a5,.int .i64 a6,.int .i64 a7,.int .i64 a8] 34 (0,0)):=by rw[hG];exact zBL gq Ha
 rw[←hG] at H5;have PQ:Hid (∀U,Below W.heap.size W U→Calls prog 90 #[.agg #[.slice v.q1 v.n1 v.c1,.slice v.q2 v.n2 v.c2],.agg #[.int .i64 a1,.int .i64 a2,.int .i64 a3,.int .i64 a4,.int .i64 a5,.int .i64 a6,.int .i64 a7,.int .i64 a8],.int .i64 s.mode] U fun e w'=>∃u1 m1 d1 u2 m2 d2 qt nt ct g qi ni ci E,e=.returned (.tuple #[.agg #[.slice u1 m1 d1,.slice u2 m2 d2],.slice qt nt ct,.int .i64 g,.slice qi ni ci,E])∧Hid (VI s.mode s.bs s.ss ⟨a1,a2,a3,a4,a5,a6,a7,a8⟩ w' u1 m1 d1 u2 m2 d2 qt nt ct g qi ni ci E)∧Hid (Below U.heap.size U w')∧Below W.heap.size W w'):=fun U hU=>by
  have hM:=h.below (Hj.trans (hU.mono Hj.size));refine(zPw s.mode hw.m0 hw.m3 v.q1 v.q2 v.n1 v.n2 v.c1 v.c2 s.bs s.ss a1 a2 a3 a4 a5 a6 a7 a8 U hM.buys.ls hM.sells.ls).mono ?_;rintro e w'⟨u1,m1,d1,u2,m2,d2,qt,nt,ct,g,qi,ni,ci,E,rfl,k1,k2⟩;exact⟨u1,m1,d1,u2,m2,d2,qt,nt,ct,g,qi,ni,ci,E,rfl,k1,k2,hU.trans (k2.mono hU.size)⟩
 obtain⟨x0,x1,x2,x3,x4,x5,x6,x7,-⟩:=(h.below Hj).cells;obtain⟨c0,c1,c2,c3,c4,c5,c6,c7,-⟩:=wak.row8 bR;have Gc:=hidF (bzR W.heap.size W);have HRP:=hidF H5;have gF:=hidF Hj;have mL:=hidF (show W.heap.size=w.heap.size+2∧G=w.heap.size from⟨H9,hG⟩)
 obtain⟨q1,n1,c1',q2,n2,c2',sp,vw,pp,qe,ne,ce,qk,nk,ck⟩:=v;simp only[] at x0 x1 x2 x3 x4 x5 x6 x7;generalize s.mode=M at *;generalize s.bs=BS at *;generalize s.ss=SS at *;clear h hw Hj bR gq H5 Hc Ha Hl H9;go_enter func58,ntmps58;go_upto_region 1 with fail
 rw[←H7,←hW];simp only[←hG];clear hW H7 hG;have SO:Hid (∀U,Below W.heap.size W U→(U.cell? ⟨t,0,none⟩=some (.int .i64 M)∧U.cell? ⟨t,1,none⟩=some (.slice q1 n1 c1')∧U.cell? ⟨t,2,none⟩=some (.slice q2 n2 c2')∧U.cell? ⟨G,0,none⟩=some (.int .i64 a1)∧U.cell? ⟨G,1,none⟩=some (.int .i64 a2)∧U.cell? ⟨G,2,none⟩=some (.int .i64 a3)∧U.cell? ⟨G,3,none⟩=some (.int .i64 a4)∧U.cell? ⟨G,4,none⟩=some (.int .i64 a5)∧U.cell? ⟨G,5,none⟩=some (.int .i64 a6)∧U.cell? ⟨G,6,none⟩=some (.int .i64 a7)∧U.cell? ⟨G,7,none⟩=some (.int .i64 a8))):=fun U hU=>⟨spn.zAa hU x0,spn.zAa hU x1,spn.zAa hU x2,spn.zAa hU c0,spn.zAa hU c1,spn.zAa hU c2,spn.zAa hU c3,spn.zAa hU c4,spn.zAa hU c5,spn.zAa hU c6,spn.zAa hU c7⟩
 clear x0 x1 x2 x3 x4 x5 x6 x7 c0 c1 c2 c3 c4 c5 c6 c7;go_region_held3 (fun W=>W.cell? ⟨t,0,none⟩=some (.int .i64 M)∧W.cell? ⟨t,1,none⟩=some (.slice q1 n1 c1')∧W.cell? ⟨t,2,none⟩=some (.slice q2 n2 c2')∧W.cell? ⟨G,0,none⟩=some (.int .i64 a1)∧W.cell? ⟨G,1,none⟩=some (.int .i64 a2)∧W.cell? ⟨G,2,none⟩=some (.int .i64 a3)∧W.cell? ⟨G,3,none⟩=some (.int .i64 a4)∧W.cell? ⟨G,4,none⟩=some (.int .i64 a5)∧W.cell? ⟨G,5,none⟩=some (.int .i64 a6)∧W.cell? ⟨G,6,none⟩=some (.int .i64 a7)∧W.cell? ⟨G,7,none⟩=some (.int .i64 a8))
  (first|with_reducible assumption|(refine SO.out _ ?_;(with_reducible repeat' (first|exact Gc.out|assumption|refine bal ?_ _|refine Below.setCell ?_ ?_ _|refine Below.drew ?_|exact nzR _|exact Below.size (by assumption)));done))
  (first|(go_at_call 90;with_reducible refine(PQ.out _ ?_).mono ?_;(with_reducible repeat' (first|exact Gc.out|assumption|refine bal ?_ _|refine Below.setCell ?_ ?_ _|refine Below.drew ?_|exact nzR _|exact Below.size (by assumption)));rintro x w2 ⟨u1,m1,d1,u2,m2,d2,qt,nt,ct,g,qi,ni,ci,E,rfl,HV,Hg,Ha⟩;have pV:=SO.out w2 Ha;(first|(have hq:=zJZ Hg.out;obtain⟨z0,z1,zf⟩:=sid.zAb hq;have zf0:=zf 0;have zf1:=zf 1)|skip)))
 ·obtain⟨Z,hZ⟩:∃Z,Z=w2.alloc (.cells #[.slice u1 m1 d1,.slice u2 m2 d2] 57):=⟨_,rfl⟩;have dC:Below w2.heap.size w2 Z:=by rw[hZ];exact(bzR _ _).alloc (nzR _) _
  have bQ:Z.heap[w2.heap.size]?=some (.cells #[.slice u1 m1 d1,.slice u2 m2 d2] 57 (0,0)):=by rw[hZ];exact jA w2 _
  have hV:=HV.out.kp (S:=[]) (Kp.below dC) (by simp) (by simp) (by simp) (by simp)
  have UT:=Ha.trans (dC.mono Ha.size);rw[←hZ];clear hZ dC Ha Hg HV pV SO PQ;generalize w2.heap.size=B at *;obtain⟨b0,b1,-⟩:=sid.zAb bQ;have mX:=zBL HRP.out UT;obtain⟨p0,p1,p2,p3,p4,pf⟩:=sid.zAi mX;have pf0:=pf 0;have pf1:=pf 1;have pf2:=pf 2;have pf3:=pf 3;have pf4:=pf 4;have Hu:=sid.zBW Z (G+1) (.slice u1 m1 d1) (.slice u2 m2 d2) (.slice qt nt ct) (.int .i64 g) (.slice qi ni ci);have GW:=hidF (sid.zBd mX (.slice u1 m1 d1) (.slice u2 m2 d2) (.slice qt nt ct) (.int .i64 g) (.slice qi ni ci));have MW:=gF.out.trans (UT.mono gF.out.size);have UP:=hidF (MW.grown Hu MW.size (fun k hk=>by cases hk;have:=mL.out;omega))
  have HVF:=hidF (hV.kp (S:=[127]) (Kp.grown Hu mX (by simp)) (by decide) (by decide) (by decide) (by decide))
  clear bQ mX pf Hu MW hV UT;go_wp2_with fail;generalize ((((Z.setCell ⟨G+1,0,none⟩ (.slice u1 m1 d1)).setCell ⟨G+1,1,none⟩ (.slice u2 m2 d2)).setCell ⟨G+1,2,none⟩ (.slice qt nt ct)).setCell ⟨G+1,3,none⟩ (.int .i64 g)).setCell ⟨G+1,4,none⟩ (.slice qi ni ci)=X at *;obtain⟨y0,y1,y2,y3,y4,-⟩:=sid.zAi GW.out;exact jN (v:=.tuple #[.agg #[.slice u1 m1 d1,.slice u2 m2 d2,.slice qt nt ct,.int .i64 g,.slice qi ni ci],E]) (by simp[results,results58,go_sem,y0,y1,y2,y3,y4]) rfl ⟨u1,m1,d1,u2,m2,d2,qt,nt,ct,g,qi,ni,ci,E,rfl,HVF.out,UP.out⟩
 ·obtain⟨Z,hZ⟩:∃Z,Z=(w2.setCell ⟨W.heap.size,0,none⟩ (.slice u1 m1 d1)).setCell ⟨W.heap.size,1,none⟩ (.slice u2 m2 d2):=⟨_,rfl⟩;have hgZ:w2.grownBy Z (some W.heap.size):=by rw[hZ];exact sid.zAT w2 W.heap.size _ _
  have bQ:Z.heap[W.heap.size]?=some (.cells #[.slice u1 m1 d1,.slice u2 m2 d2] 57 (0,0)):=by rw[hZ];exact sid.zAz hq _ _
  have hV:=HV.out.kp (S:=[57]) (Kp.grown hgZ hq (by simp)) (by decide) (by decide) (by decide) (by decide)
  have UT:=Ha.grown hgZ Ha.size (fun k hk=>by cases hk;exact nzR _)
  rw[←hZ];clear hZ hgZ Ha Hg HV pV SO PQ z0 z1 zf zf0 zf1 hq;generalize hBB:W.heap.size=B at bQ;clear hBB;obtain⟨b0,b1,-⟩:=sid.zAb bQ;have mX:=zBL HRP.out UT;obtain⟨p0,p1,p2,p3,p4,pf⟩:=sid.zAi mX;have pf0:=pf 0;have pf1:=pf 1;have pf2:=pf 2;have pf3:=pf 3;have pf4:=pf 4;have Hu:=sid.zBW Z (G+1) (.slice u1 m1 d1) (.slice u2 m2 d2) (.slice qt nt ct) (.int .i64 g) (.slice qi ni ci);have GW:=hidF (sid.zBd mX (.slice u1 m1 d1) (.slice u2 m2 d2) (.slice qt nt ct) (.int .i64 g) (.slice qi ni ci));have MW:=gF.out.trans (UT.mono gF.out.size);have UP:=hidF (MW.grown Hu MW.size (fun k hk=>by cases hk;have:=mL.out;omega))
  have HVF:=hidF (hV.kp (S:=[127]) (Kp.grown Hu mX (by simp)) (by decide) (by decide) (by decide) (by decide))
  clear bQ mX pf Hu MW hV UT;go_wp2_with fail;generalize ((((Z.setCell ⟨G+1,0,none⟩ (.slice u1 m1 d1)).setCell ⟨G+1,1,none⟩ (.slice u2 m2 d2)).setCell ⟨G+1,2,none⟩ (.slice qt nt ct)).setCell ⟨G+1,3,none⟩ (.int .i64 g)).setCell ⟨G+1,4,none⟩ (.slice qi ni ci)=X at *;obtain⟨y0,y1,y2,y3,y4,-⟩:=sid.zAi GW.out;exact jN (v:=.tuple #[.agg #[.slice u1 m1 d1,.slice u2 m2 d2,.slice qt nt ct,.int .i64 g,.slice qi ni ci],E]) (by simp[results,results58,go_sem,y0,y1,y2,y3,y4]) rfl ⟨u1,m1,d1,u2,m2,d2,qt,nt,ct,g,qi,ni,ci,E,rfl,HVF.out,UP.out⟩
end flr
namespace flr
open Go.RowKit
open que (R rchk)
open sid (L DL LS)
open mee (T tV OwnT)
open ord (O oV chk errV wAa wAb)
open que (bal)
open wak (OwnM St SL Lies oL idx Trn wAj)
theorem zEH{w:World}{B:Nat}{x0 x1 x2 x3 x4 x5:Value}{t:TypeId}(h:w.heap[B]?=some (.cells #[x0,x1,x2,x3,x4,x5] t (0,0))) :
  w.cell? ⟨B,0,none⟩=some x0∧w.cell? ⟨B,1,none⟩=some x1∧w.cell? ⟨B,2,none⟩=some x2∧w.cell? ⟨B,3,none⟩=some x3∧w.cell? ⟨B,4,none⟩=some x4∧w.cell? ⟨B,5,none⟩=some x5∧∀j,w.frozen? ⟨B,j,none⟩=false:=
 ⟨by simp[World.cell?,h],by simp[World.cell?,h],by simp[World.cell?,h],by simp[World.cell?,h],by simp[World.cell?,h],by simp[World.cell?,h],fun j=>frozen_of_row w _ j _ _ h⟩
theorem zPx(k:Nat)(h:k≤1000000):wrap64 ((k:Int)+1)=((k+1:Nat):Int):=by unfold wrap64;omega
theorem zJb{α:Type}[Inhabited α](l:List α)(k:Nat)(h:k<l.length):l.drop k=l[k]!::l.drop (k+1):=by
 rw[List.drop_eq_getElem_cons h];simp[h]
structure TI (b t:Nat) (s:TS) (q:Option Addr) (n c:Nat) (ts:List T) (w:World) (X:Rs) (k:Nat) (wr:World):Prop where
 mem:∃s1 v1,TM wr b t s1 v1∧Wf s1∧s1.evs.length=s.evs.length+k∧X=trades s1 (ts.drop k)
 tn:Tn tA b w wr
 own:OwnT wr 0 (.slice q n c) ts
theorem zFo{b t:Nat}{s1:TS}{v1:TV}{w w2:World}{x:T}{ps:List pur.Pz}(hM:TM w2 b t { s1 with ps:=ps } v1)(hT:Tn tA b w w2){w' U:World}(hU:Bw w2 U){q:Option Addr}{n c:Nat}
  (ho:OwnM w' b 40 10 (.slice q n c) (s1.evs.length+1) (zAD s1.evs++([.int .i64 2,.int .i64 0,.int .i64 0,.int .i64 0]++tV x))) (hg:U.grownBy w' (Value.slice v1.qe v1.ne v1.ce).ownBlock) :
  (w'.cell? ⟨t,6,none⟩=some (.slice v1.qe v1.ne v1.ce)∧w'.frozen? ⟨t,6,none⟩=false)∧(∃v',TM (w'.setCell ⟨t,6,none⟩ (.slice q n c)) b t { s1 with ps:=ps,evs:=s1.evs++[⟨2,0,0,0,x⟩] } v')∧Tn tA b w (w'.setCell ⟨t,6,none⟩ (.slice q n c)):=by
 have Um:=hM.below hU;have hr:=Um.evrow hg;obtain⟨-,-,-,-,-,-,y6,-,yf⟩:=wak.row8 hr;have e1:s1.evs.length+1=(s1.evs++[(⟨2,0,0,0,x⟩:Ev)]).length:=by rw[jE];rfl
 have e2:zAD s1.evs++([.int .i64 2,.int .i64 0,.int .i64 0,.int .i64 0]++tV x)=zAD (s1.evs++[(⟨2,0,0,0,x⟩:Ev)]):=by rw[zCm,zGo];rfl
 rw[e1,e2] at ho;obtain⟨a1,a2⟩:=Um.told ho hg;exact⟨⟨y6,yf 6⟩,⟨_,a1⟩,(hT.trans (Tn.below hU hM.base)).trans a2⟩
theorem wBd(b t:Nat)(s:TS)(v:TV)(q:Option Addr)(n c:Nat)(ts:List T)(w:World)(h:TM w b t s v)(hw:Wf s)(hT:OwnT w 0 (.slice q n c) ts)(hl:s.evs.length+ts.length≤1000000) :
  Calls prog 91 #[.pointer (some ⟨t,0,none⟩),.slice q n c] w (Res tA b t w (trades s ts)):=by
 have hn:n=ts.length:=by obtain⟨q',c',e⟩:=wak.OwnM.form hT;cases e;rfl
 obtain⟨X,hX⟩:∃X,X=trades s ts:=⟨_,rfl⟩;rw[←hX];have H0:Hid (TI b t s q n c ts w X 0 w):=⟨⟨s,v,h,hw,rfl,hX⟩,Tn.refl _ _ _,hT⟩;have HN:=hidF hn;have HL:=hidF hl;have DB:Hid (n≤1000000):=by show n≤1000000;omega
 obtain⟨i0,gY,gE,gu,gA⟩:=infoE';have HI:=hidF gY;clear h hw hT hl hX hn gY;go_enter func91,ntmps91;go_wp2_with fail;go_loopg [6,7,10] n (fun gg _ _ s10 wr=>∃ (kk:Nat),kk≤n∧n - kk≤gg∧s10=.int .i64 kk∧Aside (TI b t s q n c ts w X kk wr))
 case atStart=>exact⟨0,jL _,by omega,rfl,H0.out⟩
 case round=>
  obtain⟨kk,gd,hg,rfl,HA⟩:=hrel;clear H0;by_cases Hi:kk<n
  rotate_left
  ·have Hp:¬(kk:Int)<(n:Int):=by omega
   obtain⟨⟨s1,v1,hM,-,-,Uc⟩,UB,-⟩:=HA.out;have HR:Hid (Res tA b t w X (.returned .nilIface) wr):=by
    refine zQa (s:=s1) ?_ UB hM;rw[Uc,List.drop_eq_nil_of_le (by rw[←HN.out];omega)];rfl
   clear HA hM Uc UB;go_wp2_with fail;go_ret;exact HR.out
  ·have Hp:(kk:Int)<(n:Int):=by omega
   have Hs:kk<ts.length:=by rw[←HN.out];exact Hi
   obtain⟨⟨s1,v1,hM,GT,mw,Uc⟩,UB,hO⟩:=HA.out;obtain⟨g,off,rfl,hG,x0,x1,x2,x3,x4,x5⟩:=mee.OwnT.at hO Hs;rw[zJb ts kk Hs] at Uc;rcases mg:ts[kk]! with ⟨t1,t2,t3,t4,t5,t6⟩
   rw[mg] at x0 x1 x2 x3 x4 x5 Uc;simp only[] at x0 x1 x2 x3 x4 x5;obtain⟨W1,H7⟩:∃W1,W1=wr.alloc (.cells #[.int .i64 t1,.int .i64 t2,.int .i64 t3,.int .i64 t4,.int .i64 t5,.int .i64 t6] 38):=⟨_,rfl⟩;have Hc:Below wr.heap.size wr W1:=by rw[H7];exact(bzR _ _).alloc (nzR _) _
   have gq:W1.heap[wr.heap.size]?=some (.cells #[.int .i64 t1,.int .i64 t2,.int .i64 t3,.int .i64 t4,.int .i64 t5,.int .i64 t6] 38 (0,0)):=by rw[H7];exact jA wr _
   have HM:Hid (kk<n∧n - kk≤gk):=⟨Hi,hg⟩;have MZ:=hidF (zPx kk (by have:=DB.out;omega))
   have mj:Hid (s1.evs.length≤999999):=by show s1.evs.length≤999999;have:=HL.out;omega
   obtain⟨Z,hZ⟩:∃Z,Z=wr.heap.size:=⟨_,rfl⟩;rw[←hZ] at gq;have Uh:Hid (∀ (wz:World) (ps:List pur.Pz),(∃v',TM wz b t { s1 with ps:=ps,evs:=s1.evs++[(⟨2,0,0,0,⟨t1,t2,t3,t4,t5,t6⟩⟩:Ev)] } v')→Tn tA b w wz→ps=pur.zBm s1.ps t3 t4 t5 t6→pur.zAS s1.ps t3 t4 t5 t6=0→OwnT wz 0 (.slice (some ⟨g,off,none⟩) n c) ts→TI b t s (some ⟨g,off,none⟩) n c ts w X (kk+1) wz):=fun wz ps gU ht' GC hE dN=>by
    obtain⟨v',gU⟩:=gU;refine⟨⟨_,v',gU,⟨GT.m0,GT.m3,GT.book,?_,GT.ws⟩,?_,?_⟩,ht',dN⟩
    ·rw[GC];exact pur.zIM GT.ok _ _ _ _
    ·simp only[jE,jG,List.length_nil,mw];omega
    ·rw[Uc];show (trade1 s1 ⟨t1,t2,t3,t4,t5,t6⟩).bind _=_
     unfold trade1;simp only[];rw[if_pos hE,GC];rfl
   have pH:Hid (∀U,Below W1.heap.size W1 U→Calls prog 129 #[.pointer (some ⟨v1.pp,0,none⟩),.agg #[.int .i64 t1,.int .i64 t2,.int .i64 t3,.int .i64 t4,.int .i64 t5,.int .i64 t6]] U fun e w'=>∃E,e=.returned E∧Hid ((E=.nilIface∧Hid (TM w' b t { s1 with ps:=pur.zBm s1.ps t3 t4 t5 t6 } v1)∧Hid (Tn tA b w w')∧Hid (OwnT w' 0 (.slice (some ⟨g,off,none⟩) n c) ts)∧Hid (pur.zAS s1.ps t3 t4 t5 t6=0)∧w'.heap[Z]?=some (.cells #[.int .i64 t1,.int .i64 t2,.int .i64 t3,.int .i64 t4,.int .i64 t5,.int .i64 t6] 38 (0,0)))∨∃k,E=.iface 90 (.int .i64 k)∧Hid (Res tA b t w X (.returned (.iface 90 (.int .i64 k))) w'))):=fun U hU=>by
    have GU:=Hc.trans (hU.mono Hc.size);have Um:=hM.below GU;refine(pur.wBd v1.pp s1.ps t1 t2 t3 t4 t5 t6 U Um.purs GT.ok).mono ?_;rintro e w'⟨rfl,k1,k2⟩;obtain⟨k3,k4⟩:=Um.pay k1 k2;have k5:=(UB.trans (Tn.below GU hM.base)).trans k4;refine⟨_,rfl,?_⟩;show _∨_
    by_cases hE:pur.zAS s1.ps t3 t4 t5 t6=0
    ·left;exact⟨by rw[hE];rfl,k3,k5,k4.kp.ownQ (Kp.ownQ (S:=[]) (Kp.below GU) hO (by simp)) (by decide),hE,k4.kp.typ _ _ _ (zBL gq hU) (by decide)⟩
    ·right;refine⟨_,wAb hE,?_⟩;show Res _ _ _ _ _ _ _
     refine zAE ?_ hE k5;rw[Uc];show (trade1 s1 ⟨t1,t2,t3,t4,t5,t6⟩).bind _=_
     unfold trade1;simp only[];rw[if_neg hE];rfl
   have HX4:Hid (W1.cell? ⟨t,4,none⟩=some (.pointer (some ⟨v1.pp,0,none⟩))):=(hM.below Hc).cells.2.2.2.2.1;have HR1:=hidF gq;have Gc:=hidF (bzR W1.heap.size W1);clear hM GT mw Uc UB hO Hc gq HA Hi hg gd Hs mg;go_upto_region 4 with fail
   rw[←H7];simp only[←hZ];clear x0 x1 x2 x3 x4 x5 H7 hZ hG;have x4:=HX4.out;obtain⟨z0,z1,z2,z3,z4,z5,-⟩:=zEH HR1.out
   go_region_with (go_at_call 129;with_reducible refine(pH.out _ ?_).mono ?_;(with_reducible repeat' (first|exact Gc.out|assumption|refine Below.drew ?_));rintro x w2 ⟨E,rfl,uP⟩)
   all_goals
    clear x4 z0 z1 z2 z3 z4 z5;rcases uP.out with ⟨rfl,GN,GV,Gv,Gs,h6⟩|⟨k,rfl,HR⟩
    rotate_left
    ·clear uP;go_wp2_with fail;go_ret;exact HR.out
    ·clear uP;have mL:Hid (Z<w2.heap.size∧t<w2.heap.size∧b≤w2.heap.size):=⟨(gzE.1 h6).1,GN.out.lt,GN.out.base⟩;have HOE:Hid (OwnM w2 b 40 10 (.slice v1.qe v1.ne v1.ce) s1.evs.length (zAD s1.evs)):=GN.out.evs;have Gw:Hid (∀U w' v',Below w2.heap.size w2 U→OwnM w' b 40 10 v' (s1.evs.length+1) (zAD s1.evs++[.int .i64 2,.int .i64 0,.int .i64 0,.int .i64 0,.int .i64 t1,.int .i64 t2,.int .i64 t3,.int .i64 t4,.int .i64 t5,.int .i64 t6])→U.grownBy w' (Value.slice v1.qe v1.ne v1.ce).ownBlock→∃q' n' c',v'=.slice q' n' c'∧(w'.cell? ⟨t,6,none⟩=some (.slice v1.qe v1.ne v1.ce)∧w'.frozen? ⟨t,6,none⟩=false)∧Hid (TI b t s (some ⟨g,off,none⟩) n c ts w X (kk+1) (w'.setCell ⟨t,6,none⟩ (.slice q' n' c')))):=fun U w' v' hU ho Hy=>by
      obtain⟨q',c',rfl⟩:=wak.OwnM.form ho;obtain⟨y,a1,a2⟩:=zFo (x:=⟨t1,t2,t3,t4,t5,t6⟩) GN.out GV.out hU ho Hy;refine⟨q',_,c',rfl,y,?_⟩;show TI _ _ _ _ _ _ _ _ _ _ _
      refine Uh.out _ _ a1 a2 rfl Gs.out ?_;have hk:Kp tA w2 (w'.setCell ⟨t,6,none⟩ (.slice q' (s1.evs.length+1) c')):=by
       obtain⟨-,-,kk⟩:=zFo (w:=w2) (x:=⟨t1,t2,t3,t4,t5,t6⟩) GN.out (Tn.refl _ _ _) hU ho Hy;exact kk.kp
      exact hk.ownQ Gv.out (by decide)
     obtain⟨-,-,-,-,-,-,y6,-,-⟩:=GN.out.cells;obtain⟨z0,z1,z2,z3,z4,z5,-⟩:=zEH h6;obtain⟨r1,r2,r3,r4,r5,r6,r7,r8,r9,qe,ne,ce,qk,nk,ck⟩:=v1;simp only[] at y6;have hZ2:=mL.out.1;have PB:=mL.out.2.1;have GB:=mL.out.2.2;have mw:=mj.out;have ei:=MZ.out;clear h6 GN GV Gv Gs Uh pH HX4 HR1 Gc mL;generalize s1.evs.length=N1 at *;generalize zAD s1.evs=FE at *;go_upto_region 7 with fail
     go_region_law (refine wAj _ rfl _ _ 29 rfl b 40 i0 zMs 10 80 underlying29 HI.out gE gu gA rfl (.slice qe ne ce) N1 FE rfl (wak.OwnM.below HOE.out (by(with_reducible repeat' (first|assumption|refine bal ?_ _|refine Below.drew ?_|exact bzR _ _)))) _ 1 1 [.int .i64 2,.int .i64 0,.int .i64 0,.int .i64 0,.int .i64 t1,.int .i64 t2,.int .i64 t3,.int .i64 t4,.int .i64 t5,.int .i64 t6] rfl rfl (World.news_of_block (cs:=#[.int .i64 2,.int .i64 0,.int .i64 0,.int .i64 0,.int .i64 t1,.int .i64 t2,.int .i64 t3,.int .i64 t4,.int .i64 t5,.int .i64 t6]) (jA _ _)) (by simp[Value.oneCell']) (by unfold maxLen;omega) (by omega) (jM GB (Below.size (w:=w2) (B:=w2.heap.size) (by(with_reducible repeat' (first|assumption|refine bal ?_ _|refine Below.drew ?_|exact bzR _ _))))) ?_;intro v' w' gy Hy Gm;obtain⟨q',n',c',rfl,⟨hS2,mu⟩,U6⟩:=Gw.out _ _ _ (by(with_reducible repeat' (first|assumption|refine bal ?_ _|refine Below.drew ?_|exact bzR _ _))) gy Hy)
     all_goals
      clear Gw HOE z0 z1 z2 z3 z4 z5 y6 gy Hy;go_wp2_with fail;go_roundg (n - (kk+1))
      case measure=>have:=HM.out;omega
      case rel=>exact⟨kk+1,HM.out.1,nzR _,by go_num,U6.out⟩
end flr
namespace flr
open Go.RowKit
open que (R rchk)
open sid (L DL LS)
open mee (T tV OwnT sumT)
open ord (O oV chk errV wAa wAb prB)
open que (bal)
open pur (Pz Pu Ok flatP pL)
open wak (OwnM OwnQ St SL Lies oL idx Trn)
theorem set6{w:World}{B:Nat}{y0 y1 y2 y3 y4 y5:Value}{t:TypeId}(h:w.heap[B]?=some (.cells #[y0,y1,y2,y3,y4,y5] t (0,0)))(x0 x1 x2 x3 x4 x5:Value) :
  ((((((w.setCell ⟨B,0,none⟩ x0).setCell ⟨B,1,none⟩ x1).setCell ⟨B,2,none⟩ x2).setCell ⟨B,3,none⟩ x3).setCell ⟨B,4,none⟩ x4).setCell ⟨B,5,none⟩ x5).heap[B]?=some (.cells #[x0,x1,x2,x3,x4,x5] t (0,0)):=by
 have h0:=jB w B 0 _ _ x0 h;have h1:=jB _ B 1 _ _ x1 h0;have h2:=jB _ B 2 _ _ x2 h1;have h3:=jB _ B 3 _ _ x3 h2;have h4:=jB _ B 4 _ _ x4 h3;exact jB _ B 5 _ _ x5 h4
theorem gr6(w:World)(B:Nat)(x0 x1 x2 x3 x4 x5:Value):w.grownBy ((((((w.setCell ⟨B,0,none⟩ x0).setCell ⟨B,1,none⟩ x1).setCell ⟨B,2,none⟩ x2).setCell ⟨B,3,none⟩ x3).setCell ⟨B,4,none⟩ x4).setCell ⟨B,5,none⟩ x5) (some B):=
 wak.wAd (wak.wAd (wak.wAd (wak.wAd (wak.wAd (wak.wAc _ _ _ _) (wak.wAc _ _ _ _)) (wak.wAc _ _ _ _)) (wak.wAc _ _ _ _)) (wak.wAc _ _ _ _)) (wak.wAc _ _ _ _)
structure FV where
 q1:Option Addr
 n1:Nat
 c1:Nat
 q2:Option Addr
 n2:Nat
 c2:Nat
 sp:Nat
 vw:Value
 pp:Nat
def rowF(f:FS)(v:FV):Array Value:=#[.int .i64 f.mode,.slice v.q1 v.n1 v.c1,.slice v.q2 v.n2 v.c2,.pointer (some ⟨v.sp,0,none⟩),.pointer (some ⟨v.pp,0,none⟩),.int .i64 f.last]
structure FM (w:World) (F:Nat) (f:FS) (v:FV):Prop where
 blk:w.heap[F]?=some (.cells (rowF f v) 69 (0,0))
 buys:DL w 0 (.slice v.q1 v.n1 v.c1) f.bs
 sells:DL w 0 (.slice v.q2 v.n2 v.c2) f.ss
 stops:St w 0 v.sp v.vw f.ws
 purs:Pu 98 9 w v.pp f.ps
theorem FM.lt{w:World}{F:Nat}{f:FS}{v:FV}(h:FM w F f v):F<w.heap.size:=(gzE.1 h.blk).1
theorem FM.below{w w' : World}{F:Nat}{f:FS}{v:FV}(h:FM w F f v)(hB:Bw w w'):FM w' F f v:=
 have hk:Kp [] w w':=Kp.below hB
 ⟨hk.typ _ _ _ h.blk (by simp),hk.dl h.buys (by simp) (by simp),hk.dl h.sells (by simp) (by simp),hk.st h.stops (by simp) (by simp),hk.pu h.purs (by simp)⟩
theorem FM.cells{w:World}{F:Nat}{f:FS}{v:FV}(h:FM w F f v):w.cell? ⟨F,0,none⟩=some (.int .i64 f.mode)∧w.cell? ⟨F,1,none⟩=some (.slice v.q1 v.n1 v.c1)∧w.cell? ⟨F,2,none⟩=some (.slice v.q2 v.n2 v.c2)∧w.cell? ⟨F,3,none⟩=some (.pointer (some ⟨v.sp,0,none⟩))∧w.cell? ⟨F,4,none⟩=some (.pointer (some ⟨v.pp,0,none⟩))∧w.cell? ⟨F,5,none⟩=some (.int .i64 f.last)∧∀j,w.frozen? ⟨F,j,none⟩=false:=zEH h.blk
theorem zGl{w:World}{b b' p:Nat}{v:Value}{os:List O}(h:St w b p v os)(hb:b'≤b):St w b' p v os:=⟨h.blk,jM hb h.le,wak.OwnM.mono h.own hb⟩
theorem zKa(b p:Nat)(v:Value)(os:List O)(w:World)(h:St w b p v os)(hl:os.length≤1000) :
  Calls prog 29 #[.pointer (some ⟨p,0,none⟩)] w fun e w'=>∃p' v',e=.returned (.pointer (some ⟨p',0,none⟩))∧St w' w.heap.size p' v' os∧Bw w w':=by
 have HA:=hidF (wak.wBe b p v os w h hl);clear h hl;go_enter func29,ntmps29;go_wp2_with fail;refine HA.out.mono ?_;rintro e w1⟨q,c,rfl,k1,k2⟩;have Bh:=hidF k1;have Uw:=hidF k2;clear k1 k2;go_wp2_with fail;go_ret;have hb:Bw w1 (w1.alloc (.cells #[.slice q os.length c] 93)):=(bzR _ _).alloc (nzR _) _;exact⟨_,_,rfl,⟨jA w1 _,Uw.out.size,wak.OwnM.below Bh.out hb⟩,Uw.out.trans (hb.mono Uw.out.size)⟩
theorem zId(P:Nat)(a1 b1 c1 d1 e1 a2 b2 c2 d2 e2 a3 b3 c3 d3 e3 a4 b4 c4 d4 e4 a5 b5 c5 d5 e5 a6 b6 c6 d6 e6 a7 b7 c7 d7 e7 a8 b8 c8 d8 e8 a9 b9 c9 d9 e9:Int)(w:World)(h:w.heap[P]?=some (.cells #[.int .i64 a1,.int .i64 b1,.int .i64 c1,.int .i64 d1,.int .i64 e1,.int .i64 a2,.int .i64 b2,.int .i64 c2,.int .i64 d2,.int .i64 e2,.int .i64 a3,.int .i64 b3,.int .i64 c3,.int .i64 d3,.int .i64 e3,.int .i64 a4,.int .i64 b4,.int .i64 c4,.int .i64 d4,.int .i64 e4,.int .i64 a5,.int .i64 b5,.int .i64 c5,.int .i64 d5,.int .i64 e5,.int .i64 a6,.int .i64 b6,.int .i64 c6,.int .i64 d6,.int .i64 e6,.int .i64 a7,.int .i64 b7,.int .i64 c7,.int .i64 d7,.int .i64 e7,.int .i64 a8,.int .i64 b8,.int .i64 c8,.int .i64 d8,.int .i64 e8,.int .i64 a9,.int .i64 b9,.int .i64 c9,.int .i64 d9,.int .i64 e9] 98 (0,0))) :
  Calls prog 30 #[.pointer (some ⟨P,0,none⟩)] w fun e w'=>e=.returned (.pointer (some ⟨w.heap.size,0,none⟩))∧w'=w.alloc (.cells #[.int .i64 a1,.int .i64 b1,.int .i64 c1,.int .i64 d1,.int .i64 e1,.int .i64 a2,.int .i64 b2,.int .i64 c2,.int .i64 d2,.int .i64 e2,.int .i64 a3,.int .i64 b3,.int .i64 c3,.int .i64 d3,.int .i64 e3,.int .i64 a4,.int .i64 b4,.int .i64 c4,.int .i64 d4,.int .i64 e4,.int .i64 a5,.int .i64 b5,.int .i64 c5,.int .i64 d5,.int .i64 e5,.int .i64 a6,.int .i64 b6,.int .i64 c6,.int .i64 d6,.int .i64 e6,.int .i64 a7,.int .i64 b7,.int .i64 c7,.int .i64 d7,.int .i64 e7,.int .i64 a8,.int .i64 b8,.int .i64 c8,.int .i64 d8,.int .i64 e8,.int .i64 a9,.int .i64 b9,.int .i64 c9,.int .i64 d9,.int .i64 e9] 98):=by
 have My:Hid (w.rangeAt P 0 (#[.int .i64 a1,.int .i64 b1,.int .i64 c1,.int .i64 d1,.int .i64 e1,.int .i64 a2,.int .i64 b2,.int .i64 c2,.int .i64 d2,.int .i64 e2,.int .i64 a3,.int .i64 b3,.int .i64 c3,.int .i64 d3,.int .i64 e3,.int .i64 a4,.int .i64 b4,.int .i64 c4,.int .i64 d4,.int .i64 e4,.int .i64 a5,.int .i64 b5,.int .i64 c5,.int .i64 d5,.int .i64 e5,.int .i64 a6,.int .i64 b6,.int .i64 c6,.int .i64 d6,.int .i64 e6,.int .i64 a7,.int .i64 b7,.int .i64 c7,.int .i64 d7,.int .i64 e7,.int .i64 a8,.int .i64 b8,.int .i64 c8,.int .i64 d8,.int .i64 e8,.int .i64 a9,.int .i64 b9,.int .i64 c9,.int .i64 d9,.int .i64 e9]).toList):=fun j u hu=>by
  have:=jZ w P (0+j) _ _ _ h;rw[this,Nat.zero_add];simpa using hu
 clear h;go_enter func30,ntmps30;go_upto_region 1 with fail
 refine wp_region_lit ?_
 iterate 3 (refine wpList_step fun K hK=>?_;go_simp;refine hK _ _ ?_;clear hK K;try simp only[Act.put,List.setIfInBounds_toArray,List.set_cons_zero,List.set_cons_succ])
 refine wpList_load_mid rfl 96 (.tmp 5) rfl P 0 rfl (#[.int .i64 a1,.int .i64 b1,.int .i64 c1,.int .i64 d1,.int .i64 e1,.int .i64 a2,.int .i64 b2,.int .i64 c2,.int .i64 d2,.int .i64 e2,.int .i64 a3,.int .i64 b3,.int .i64 c3,.int .i64 d3,.int .i64 e3,.int .i64 a4,.int .i64 b4,.int .i64 c4,.int .i64 d4,.int .i64 e4,.int .i64 a5,.int .i64 b5,.int .i64 c5,.int .i64 d5,.int .i64 e5,.int .i64 a6,.int .i64 b6,.int .i64 c6,.int .i64 d6,.int .i64 e6,.int .i64 a7,.int .i64 b7,.int .i64 c7,.int .i64 d7,.int .i64 e7,.int .i64 a8,.int .i64 b8,.int .i64 c8,.int .i64 d8,.int .i64 e8,.int .i64 a9,.int .i64 b9,.int .i64 c9,.int .i64 d9,.int .i64 e9]).toList _ My.out underlying96 rfl (by kernel_rfl) ?_
 refine wpList_buildTo rfl 98 _ rfl (some 7) rfl #[.int .i64 a1,.int .i64 b1,.int .i64 c1,.int .i64 d1,.int .i64 e1,.int .i64 a2,.int .i64 b2,.int .i64 c2,.int .i64 d2,.int .i64 e2,.int .i64 a3,.int .i64 b3,.int .i64 c3,.int .i64 d3,.int .i64 e3,.int .i64 a4,.int .i64 b4,.int .i64 c4,.int .i64 d4,.int .i64 e4,.int .i64 a5,.int .i64 b5,.int .i64 c5,.int .i64 d5,.int .i64 e5,.int .i64 a6,.int .i64 b6,.int .i64 c6,.int .i64 d6,.int .i64 e6,.int .i64 a7,.int .i64 b7,.int .i64 c7,.int .i64 d7,.int .i64 e7,.int .i64 a8,.int .i64 b8,.int .i64 c8,.int .i64 d8,.int .i64 e8,.int .i64 a9,.int .i64 b9,.int .i64 c9,.int .i64 d9,.int .i64 e9] (by as_aux_lemma=>kernel_rfl) ?_
 obtain⟨cs,Gy⟩:∃cs:Array Value,cs=#[.int .i64 a1,.int .i64 b1,.int .i64 c1,.int .i64 d1,.int .i64 e1,.int .i64 a2,.int .i64 b2,.int .i64 c2,.int .i64 d2,.int .i64 e2,.int .i64 a3,.int .i64 b3,.int .i64 c3,.int .i64 d3,.int .i64 e3,.int .i64 a4,.int .i64 b4,.int .i64 c4,.int .i64 d4,.int .i64 e4,.int .i64 a5,.int .i64 b5,.int .i64 c5,.int .i64 d5,.int .i64 e5,.int .i64 a6,.int .i64 b6,.int .i64 c6,.int .i64 d6,.int .i64 e6,.int .i64 a7,.int .i64 b7,.int .i64 c7,.int .i64 d7,.int .i64 e7,.int .i64 a8,.int .i64 b8,.int .i64 c8,.int .i64 d8,.int .i64 e8,.int .i64 a9,.int .i64 b9,.int .i64 c9,.int .i64 d9,.int .i64 e9]:=⟨_,rfl⟩;rw[←Gy];have HCS:=hidF Gy;clear Gy My;go_wp2_with fail;go_ret;exact⟨rfl,by rw[HCS.out]⟩
theorem zKb(P:Nat)(ps:List Pz)(w:World)(h:Pu 98 9 w P ps) :
  Calls prog 30 #[.pointer (some ⟨P,0,none⟩)] w fun e w'=>e=.returned (.pointer (some ⟨w.heap.size,0,none⟩))∧Pu 98 9 w' w.heap.size ps∧Bw w w':=by
 obtain⟨hl,hb⟩:=h
 match ps,hl,hb with
 | [⟨a1,b1,c1,d1,e1⟩,⟨a2,b2,c2,d2,e2⟩,⟨a3,b3,c3,d3,e3⟩,⟨a4,b4,c4,d4,e4⟩,⟨a5,b5,c5,d5,e5⟩,⟨a6,b6,c6,d6,e6⟩,⟨a7,b7,c7,d7,e7⟩,⟨a8,b8,c8,d8,e8⟩,⟨a9,b9,c9,d9,e9⟩],_,hb=>
  refine(zId P a1 b1 c1 d1 e1 a2 b2 c2 d2 e2 a3 b3 c3 d3 e3 a4 b4 c4 d4 e4 a5 b5 c5 d5 e5 a6 b6 c6 d6 e6 a7 b7 c7 d7 e7 a8 b8 c8 d8 e8 a9 b9 c9 d9 e9 w (by exact hb)).mono ?_
  rintro e w'⟨rfl,rfl⟩;exact⟨rfl,⟨rfl,jA w _⟩,(bzR _ _).alloc (nzR _) _⟩
end flr
end Go.Proofs.YtnfilcpnneckkaaGreat
