import Derived.Test.YtmhcghgfpfainaaGreatDoorFlrPla
set_option maxHeartbeats 4000000
set_option maxRecDepth 100000
namespace Go.Proofs.YtmhcghgfpfainaaGreatDoor
open Tryz
namespace flr
open Go.RowKit
open que (R rchk)
open sid (L DL LS)
open mee (T tV OwnT sumT)
open ord (O oV chk errV wAa wAb prB)
open que (bal)
open bok (zAc zAf)
open tickP (zAn)
open wak (OwnM OwnQ St SL Lies oL idx Trn)
theorem zNz{r:R}{q:Int}(h:rchk r=0)(h1:1≤q)(h2:q≤10000):wrap64 (r.qty+r.hid - q)=r.qty+r.hid - q:=by
 obtain⟨a,b,-⟩:=que.zAp h;unfold wrap64;omega
theorem zKC(b t:Nat)(s:TS)(v:TV)(id price qty:Int)(w:World)(h:TM w b t s v)(hw:Wf s)(Ht:zAf s.bs s.ss id=true)(ur:zAn price=true)(hq:¬(1≤qty∧qty≤10000)) :
  Calls prog 74 #[.pointer (some ⟨t,0,none⟩),.int .i64 id,.int .i64 price,.int .i64 qty] w (Res tB b t w (shrink s id price qty)):=by
 obtain⟨x0,x1,x2,x3,x4,x5,x6,x7,-⟩:=h.cells;have hA:=wAq hw.book Ht;have HX:Hid (shrink s id price qty=.error 1):=by show _=_;unfold shrink;simp only[];rw[if_neg hq]
 rw[HX.out];generalize spot s.bs s.ss id=x at hA;obtain⟨xs,xp,⟨r1,r2,r3,r4,r5⟩,xi,xk⟩:=x;have E0:(decide (1≤qty) && decide (qty≤10000))=false:=by
  cases hh:(decide (1≤qty) && decide (qty≤10000)) with
  | false=>rfl
  | true=>simp only[Bool.and_eq_true,decide_eq_true_eq] at hh;exact absurd hh hq
 have P2:=hidF (swp.zRn v.q1 v.q2 v.n1 v.n2 v.c1 v.c2 s.bs s.ss id xs xp r1 r2 r3 r4 r5 price qty xi xk w h.buys.ls h.sells.ls hA ur E0);have HB:=hidF h.base;obtain⟨q1,n1,c1,q2,n2,c2,sp,vw,pp,qe,ne,ce,qk,nk,ck⟩:=v;simp only[] at x0 x1 x2 x3 x4 x5 x6 x7 P2;clear h hw hA Ht ur hq E0;go_enter func74,ntmps74;go_wp2_with fail;refine P2.out.mono ?_;rintro e w1⟨rfl,b1⟩;have HT:=hidF (Tn.below (S:=tB) (b1.alloc b1.size (.cells #[.slice none 0 0,.slice none 0 0] 50)) HB.out);clear b1 x0 x1 x2 x3 x4 x5 x6 x7;go_wp2_with fail;go_ret;exact zAD rfl (by decide) HT.out
theorem zIq(b t:Nat)(s:TS)(v:TV)(id price qty:Int)(w:World)(h:TM w b t s v)(hw:Wf s)(hl:s.evs.length≤990000)(Ht:zAf s.bs s.ss id=true)(ur:zAn price=true)(Uh:swp.zDt (spot s.bs s.ss id).p (spot s.bs s.ss id).r price qty=true)(hq:1≤qty∧qty≤10000) :
  Calls prog 74 #[.pointer (some ⟨t,0,none⟩),.int .i64 id,.int .i64 price,.int .i64 qty] w (Res tB b t w (shrink s id price qty)):=by
 obtain⟨x0,x1,x2,x3,x4,x5,x6,x7,-⟩:=h.cells;have hA:=wAq hw.book Ht;obtain⟨X,hX⟩:∃X,X=shrink s id price qty:=⟨_,rfl⟩;rw[←hX];unfold shrink at hX;simp only[] at hX;rw[if_pos hq] at hX;generalize spot s.bs s.ss id=x at hA hX Uh;obtain⟨xs,xp,⟨r1,r2,r3,r4,r5⟩,xi,xk⟩:=x;simp only[] at hX Uh;have E0:(decide (1≤qty) && decide (qty≤10000))=true:=by simp[hq.1,hq.2]
 have P2:Hid (Calls prog 123 #[.agg #[.slice v.q1 v.n1 v.c1,.slice v.q2 v.n2 v.c2],.int .i64 id,.int .i64 price,.int .i64 qty] w fun e w'=>∃u1 u2 m1 m2 d1 d2,e=.returned (.tuple #[.agg #[.slice u1 m1 d1,.slice u2 m2 d2],.slice none 0 0,.int .i64 0,.nilIface])∧Hid (DL w' 0 (.slice u1 m1 d1) (swp.kB xs s.bs xi xk (swp.zAG ⟨r1,r2,r3,r4,r5⟩ qty)))∧Hid (DL w' 0 (.slice u2 m2 d2) (swp.kS xs s.ss xi xk (swp.zAG ⟨r1,r2,r3,r4,r5⟩ qty)))∧Below w.heap.size w w'):=by
  refine(swp.zPf v.q1 v.q2 v.n1 v.n2 v.c1 v.c2 s.bs s.ss id xs xp r1 r2 r3 r4 r5 price qty xi xk w h.buys.ls h.sells.ls hA ur E0 Uh).mono ?_;rintro e w'⟨u1,u2,m1,m2,d1,d2,rfl,k2,k3,k4⟩;exact⟨u1,u2,m1,m2,d1,d2,rfl,k2.mono (jL _),k3.mono (jL _),k4⟩
 have Hn:Hid (∀U,Below w.heap.size w U→TM U b t s v∧Tn tA b w U):=fun U hU=>⟨h.below hU,Tn.below hU h.base⟩
 have HF:Hid (∀U,Below w.heap.size w U→Calls prog 13 #[.agg #[.slice v.q1 v.n1 v.c1,.slice v.q2 v.n2 v.c2],.int .i64 id] U fun e w'=>e=.returned (.tuple #[.int .i64 xs,.int .i64 xp,.agg #[.int .i64 r1,.int .i64 r2,.int .i64 r3,.int .i64 r4,.int .i64 r5],.nilIface])∧Below U.heap.size U w'):=fun U hU=>swp.zBD v.q1 v.q2 v.n1 v.n2 v.c1 v.c2 s.bs s.ss id xs xp r1 r2 r3 r4 r5 xi xk U (h.below hU).buys.ls (h.below hU).sells.ls hA
 have cF:=hidF (fun U=>wAY r1 r2 r3 r4 r5 U hA.rest)
 have DN:=hidF (zNz hA.rest hq.1 hq.2);simp only[] at DN;obtain⟨OV,hOV⟩:∃OV,OV=r3+r4 - qty:=⟨_,rfl⟩;rw[←hOV] at hX DN;have DO:Hid (wrap64 (r3+r4 - qty)=OV):=by show _=_;rw[hOV];rw[hOV] at DN;exact DN.out
 obtain⟨AL,uK⟩:∃AL,AL=r3+r4:=⟨_,rfl⟩;rw[←uK] at cF DO;have HX:=hidF hX;have HW:=hidF hw;have HL:=hidF hl;have uC:=hidF (fun U hU=>wAU b t s v id r2 OV 0 0 xs price U hU hw)
 obtain⟨q1,n1,c1,q2,n2,c2,sp,vw,pp,qe,ne,ce,qk,nk,ck⟩:=v;simp only[] at x0 x1 x2 x3 x4 x5 x6 x7 P2 HF;clear h hw hA hX Ht hl ur Uh hq E0 hOV uK DN;go_enter func74,ntmps74;go_wp2_with fail;refine P2.out.mono ?_;rintro e w1⟨u1,u2,m1,m2,d1,d2,rfl,uU,uu,b1⟩;obtain⟨W2,H9⟩:∃W2,W2=w1.alloc (.cells #[.slice u1 m1 d1,.slice u2 m2 d2] 50):=⟨_,rfl⟩;have Hc:Below w1.heap.size w1 W2:=by rw[H9];exact(bzR _ _).alloc (nzR _) _
 have H5:W2.heap[w1.heap.size]?=some (.cells #[.slice u1 m1 d1,.slice u2 m2 d2] 50 (0,0)):=by rw[H9];exact jA w1 _
 have Hg:=hidF (b1.trans (Hc.mono b1.size));have UO:=hidF (And.intro (uU.out.below Hc) (uu.out.below Hc));have Uk:=hidF H5;obtain⟨-,y1,y2,-⟩:=(Hn.out W2 Hg.out).1.cells;simp only[] at y1 y2;clear b1 Hc H5 uU uu P2 x0 x1 x2 x3 x4 x5 x6 x7;go_upto_if 33 with fail
 rw[←H9];clear H9;generalize w1.heap.size=LB at *;go_wp2_with fail;refine(HF.out _ Hg.out).mono ?_;rintro e w3⟨rfl,b3⟩;obtain⟨W4,GZ⟩:∃W4,W4=w3.alloc (.cells #[.int .i64 r1,.int .i64 r2,.int .i64 r3,.int .i64 r4,.int .i64 r5] 54):=⟨_,rfl⟩;have Gj:Below w3.heap.size w3 W4:=by rw[GZ];exact(bzR _ _).alloc (nzR _) _
 have co:W4.heap[w3.heap.size]?=some (.cells #[.int .i64 r1,.int .i64 r2,.int .i64 r3,.int .i64 r4,.int .i64 r5] 54 (0,0)):=by rw[GZ];exact jA w3 _
 have Pc:=b3.trans (Gj.mono b3.size);have Gd:=hidF (Hg.out.trans (Pc.mono Hg.out.size));have cN:=hidF (And.intro (UO.out.1.below Pc) (UO.out.2.below Pc));have DQ:=hidF (zBH Uk.out Pc);have M4:=hidF co;clear b3 Gj co Pc UO Uk Hg HF y1 y2;go_upto_if 48 with fail
 rw[←GZ];clear GZ;generalize w3.heap.size=RB at *;obtain⟨z0,z1,z2,z3,z4,-⟩:=sid.zAi M4.out;go_wp2_with fail;refine(cF.out _).mono ?_;rintro e w5⟨rfl,b5⟩;have ut:=hidF (Gd.out.trans (b5.mono Gd.out.size));have bo:=hidF (And.intro (cN.out.1.below b5) (cN.out.2.below b5));have Cd:=hidF (zBH DQ.out b5);have di:=hidF (zBH M4.out b5);have pN:=hidF (Hn.out w5 ut.out);clear b5 Gd cN DQ M4 z0 z1 z2 z3 z4 Hn;obtain⟨z0,z1,z2,z3,z4,-⟩:=sid.zAi di.out;have EZ:=DO.out;by_cases ho:0<OV
 case' pos=>
  have GE:Hid (X=(zCi s ⟨id,r2,OV,0,0⟩ xs price).bind fun s1=>.ok (tell { s1 with bs:=swp.kB xs s.bs xi xk (swp.zAG ⟨r1,r2,r3,r4,r5⟩ qty),ss:=swp.kS xs s.ss xi xk (swp.zAG ⟨r1,r2,r3,r4,r5⟩ qty) } 1 id qty price)):=by show _=_;rw[HX.out,if_pos ho]
  have HFR5:=hidF (uC.out w5 pN.out.1);go_wp2_with fail;refine HFR5.out.mono ?_;intro e w6 hR;have Mh:=hidF (pN.out.2.trans hR.1);have bq:=hidF (And.intro (hR.1.kp.dl bo.out.1 (by decide) (by decide)) (hR.1.kp.dl bo.out.2 (by decide) (by decide)))
  have DR:=hidF (hR.1.kp.typ _ _ _ Cd.out (by decide))
  rcases zCR hR with ⟨s1,v1,gM,rfl,dg⟩|⟨k,rfl,HE⟩
  rotate_left
  ·have gK:Hid (Res tB b t w X (.returned (.iface 80 (.int .i64 k))) w6):=zAD (by rw[GE.out,HE.out.1];rfl) HE.out.2 (Mh.out.mono tA_tB)
   clear hR z0 z1 z2 z3 z4 EZ;go_wp2_with fail;go_ret;exact gK.out
  have Cp:Hid (X=.ok (tell { s1 with bs:=swp.kB xs s.bs xi xk (swp.zAG ⟨r1,r2,r3,r4,r5⟩ qty),ss:=swp.kS xs s.ss xi xk (swp.zAG ⟨r1,r2,r3,r4,r5⟩ qty) } 1 id qty price)):=by show _=_;rw[GE.out,gM];rfl
  have HE6:Hid (s1.evs.length≤1000000):=by show _≤_;have:=(zGc HW.out gM).2.evs;have:=HL.out;omega
  clear hR gM EZ
 case' neg=>
  have Cp:Hid (X=.ok (tell { s with bs:=swp.kB xs s.bs xi xk (swp.zAG ⟨r1,r2,r3,r4,r5⟩ qty),ss:=swp.kS xs s.ss xi xk (swp.zAG ⟨r1,r2,r3,r4,r5⟩ qty) } 1 id qty price)):=by show _=_;rw[HX.out,if_neg ho];rfl
  have Mh:=hidF pN.out.2;have bq:=bo;have DR:=Cd;have dg:=hidF pN.out.1;have HE6:Hid (s.evs.length≤1000000):=by show _≤_;have:=HL.out;omega
  obtain⟨v1,C6⟩:∃v1,v1=(⟨q1,n1,c1,q2,n2,c2,sp,vw,pp,qe,ne,ce,qk,nk,ck⟩:TV):=⟨_,rfl⟩;rw[←C6] at dg;clear C6;obtain⟨s1,Hm⟩:∃s1,s1=s:=⟨_,rfl⟩;rw[←Hm] at dg HE6;have Cp:Hid (X=.ok (tell { s1 with bs:=swp.kB xs s.bs xi xk (swp.zAG ⟨r1,r2,r3,r4,r5⟩ qty),ss:=swp.kS xs s.ss xi xk (swp.zAG ⟨r1,r2,r3,r4,r5⟩ qty) } 1 id qty price)):=by show _=_;rw[Hm];exact Cp.out
  clear Hm;obtain⟨w6,hw6⟩:∃w6,w6=w5:=⟨_,rfl⟩;go_upto_region 12 with fail
  rw[←hw6] at Mh bq DR dg ⊢;clear hw6 EZ
 all_goals
  clear z0 z1 z2 z3 z4 uC pN bo Cd di HX;obtain⟨l0,l1,-⟩:=sid.zAb DR.out;obtain⟨-,y1,y2,-,-,-,-,-,yf⟩:=dg.out.cells;have yf1:=yf 1;have yf2:=yf 2;obtain⟨hM7,dx⟩:=dg.out.book bq.out.1 bq.out.2;have HM7:=hidF hM7;have HT7:=hidF (Mh.out.trans dx);obtain⟨g1,g2,g3,g4,g5,g6,g7,g8,g9,g10,g11,g12,g13,g14,g15⟩:=v1;simp only[] at y1 y2;clear hM7 dx yf;go_upto_region 13 with fail
  generalize (w6.setCell ⟨t,1,none⟩ (.slice u1 m1 d1)).setCell ⟨t,2,none⟩ (.slice u2 m2 d2)=W7 at *;clear l0 l1 y1 y2 yf1 yf2;have ua:=hidF (zDe (w0:=w) (x:=X) (S:=tB) 1 id qty price HM7.out (HT7.out.mono tA_tB) tA_tB HE6.out Cp.out);go_wp2_with fail;refine ua.out.mono ?_;rintro e w8⟨rfl,HR⟩;go_wp2_with fail;go_ret;exact HR.out
theorem zPZ(b t:Nat)(s:TS)(v:TV)(id price qty:Int)(w:World)(h:TM w b t s v)(hw:Wf s)(hl:s.evs.length≤900000)(hr:s.row.length≤800000)(hid:(Lit.int .i64 id).wf=true) :
  Calls prog 45 #[.pointer (some ⟨t,0,none⟩),.int .i64 id,.int .i64 price,.int .i64 qty] w (Res tB b t w (swap s id price qty)):=by
 obtain⟨x0,x1,x2,x3,x4,x5,x6,x7,-⟩:=h.cells;obtain⟨X,hX⟩:∃X,X=swap s id price qty:=⟨_,rfl⟩;rw[←hX];unfold swap at hX;have Hn:Hid (∀U,Below w.heap.size w U→TM U b t s v∧Tn tB b w U):=fun U hU=>⟨h.below hU,Tn.below hU h.base⟩
 have HW:=hidF hw;have HL:=hidF hl;have HRO:=hidF hr;have Dp:=hidF hid;by_cases hE:swp.fE s.bs s.ss id price=0
 rotate_left
 ·rw[if_neg hE] at hX;have HX:=hidF hX;have HKB:=hidF (swp.zMn v.q1 v.q2 v.n1 v.n2 v.c1 v.c2 s.bs s.ss id price qty hid w h.buys.ls h.sells.ls hE);generalize swp.fE s.bs s.ss id price=K at *;obtain⟨q1,n1,c1,q2,n2,c2,sp,vw,pp,qe,ne,ce,qk,nk,ck⟩:=v;simp only[] at x0 x1 x2 x3 x4 x5 x6 x7 HKB;clear h hw hl hr hid hX;go_enter func45,ntmps45;go_wp2_with fail;refine HKB.out.mono ?_;rintro e w1⟨rfl,b1⟩;have HT:=hidF (Hn.out w1 b1).2;clear b1 x0 x1 x2 x3 x4 x5 x6 x7;go_wp2_with fail;go_ret;exact zAD HX.out hE HT.out
 rw[if_pos hE] at hX;obtain⟨-,Ht,ur⟩:=swp.zFU hE;have hA:=wAq hw.book Ht;have bt:=hidF Ht;have uW:=hidF ur;cases Uh:swp.zDt (spot s.bs s.ss id).p (spot s.bs s.ss id).r price qty with
 | true=>
  rw[Uh,if_pos rfl] at hX;have dk:Hid (∀U,Below w.heap.size w U→Calls prog 74 #[.pointer (some ⟨t,0,none⟩),.int .i64 id,.int .i64 price,.int .i64 qty] U fun e w'=>∃E,e=.returned E∧Hid (Res tB b t w X (.returned E) w')):=fun U hU=>by
   obtain⟨k1,k2⟩:=Hn.out U hU;by_cases hq:1≤qty∧qty≤10000
   ·refine(zIq b t s v id price qty U k1 hw (by omega) Ht ur Uh hq).mono ?_
    intro e w' hR;exact(zCK (hR.step k2 (fun _ h=>h)) hX.symm).hidE
   ·refine(zKC b t s v id price qty U k1 hw Ht ur hq).mono ?_;intro e w' hR;exact(zCK (hR.step k2 (fun _ h=>h)) hX.symm).hidE
  generalize spot s.bs s.ss id=x at hA Uh;obtain⟨xs,xp,⟨r1,r2,r3,r4,r5⟩,xi,xk⟩:=x;simp only[] at Uh;have Br:=hidF (swp.zIT v.q1 v.q2 v.n1 v.n2 v.c1 v.c2 s.bs s.ss id xs xp r1 r2 r3 r4 r5 price qty xi xk w h.buys.ls h.sells.ls hA ur);rw[Uh] at Br;obtain⟨q1,n1,c1,q2,n2,c2,sp,vw,pp,qe,ne,ce,qk,nk,ck⟩:=v;simp only[] at x0 x1 x2 x3 x4 x5 x6 x7 Br;clear h hw hl hr hid hX hA hE Ht ur Uh;go_enter func45,ntmps45;go_wp2_with fail;refine Br.out.mono ?_;rintro e w1⟨rfl,b1⟩;have HB:=hidF b1;clear b1 x0 x1 x2 x3 x4 x5 x6 x7;go_wp2_with fail;refine(dk.out _ HB.out).mono ?_;rintro e w2⟨E,rfl,gK⟩;go_wp2_with fail;go_ret;exact gK.out
 | false=>
  rw[Uh] at hX;simp only[Bool.false_eq_true,if_false] at hX;have GD:Hid (∀U,TM U b t s v→Calls prog 70 #[.pointer (some ⟨t,0,none⟩),.int .i64 id] U (Res tA b t U (leave s id))):=fun U hU=>zHl b t s v id U hU hw (by omega) hid
  generalize spot s.bs s.ss id=x at hA Uh hX;obtain⟨xs,xp,⟨r1,r2,r3,r4,r5⟩,xi,xk⟩:=x;simp only[] at Uh hX;have HX:=hidF hX;have Br:=hidF (swp.zIT v.q1 v.q2 v.n1 v.n2 v.c1 v.c2 s.bs s.ss id xs xp r1 r2 r3 r4 r5 price qty xi xk w h.buys.ls h.sells.ls hA ur);rw[Uh] at Br;have HF:Hid (∀U,TM U b t s v→Calls prog 13 #[.agg #[.slice v.q1 v.n1 v.c1,.slice v.q2 v.n2 v.c2],.int .i64 id] U fun e w'=>e=.returned (.tuple #[.int .i64 xs,.int .i64 xp,.agg #[.int .i64 r1,.int .i64 r2,.int .i64 r3,.int .i64 r4,.int .i64 r5],.nilIface])∧Below U.heap.size U w'):=fun U hU=>swp.zBD v.q1 v.q2 v.n1 v.n2 v.c1 v.c2 s.bs s.ss id xs xp r1 r2 r3 r4 r5 xi xk U hU.buys.ls hU.sells.ls hA
  have HAN:=hidF (fun U=>swp.zPd xs r1 r2 r3 r4 r5 price qty U)
  obtain⟨MN,hMN⟩:∃MN,MN=min r5 qty:=⟨_,rfl⟩;rw[←hMN] at HAN HX;obtain⟨q1,n1,c1,q2,n2,c2,sp,vw,pp,qe,ne,ce,qk,nk,ck⟩:=v;simp only[] at x0 x1 x2 x3 x4 x5 x6 x7 Br HF;clear h hw hl hr hid hX hA hE Ht ur Uh hMN;go_enter func45,ntmps45;go_wp2_with fail;refine Br.out.mono ?_;rintro e w1⟨rfl,b1⟩;have HB:=hidF b1;obtain⟨-,y1,y2,-⟩:=(Hn.out w1 b1).1.cells;simp only[] at y1 y2;have G5:=hidF (HF.out w1 (Hn.out w1 b1).1);clear b1 x0 x1 x2 x3 x4 x5 x6 x7 Br HF;go_wp2_with fail;refine G5.out.mono ?_;rintro e w3⟨rfl,b3⟩;obtain⟨W4,GZ⟩:∃W4,W4=w3.alloc (.cells #[.int .i64 r1,.int .i64 r2,.int .i64 r3,.int .i64 r4,.int .i64 r5] 54):=⟨_,rfl⟩;have Gj:Below w3.heap.size w3 W4:=by rw[GZ];exact(bzR _ _).alloc (nzR _) _
  have co:W4.heap[w3.heap.size]?=some (.cells #[.int .i64 r1,.int .i64 r2,.int .i64 r3,.int .i64 r4,.int .i64 r5] 54 (0,0)):=by rw[GZ];exact jA w3 _
  have Ek:=b3.trans (Gj.mono b3.size);have Gd:=hidF (HB.out.trans (Ek.mono HB.out.size));have Ci:=hidF (Hn.out W4 Gd.out);have M4:=hidF co;have Dw:=hidF (GD.out W4 Ci.out.1);clear b3 Gj co Ek HB Gd G5 GD Hn y1 y2;go_upto_if 49 with fail
  rw[←GZ];clear GZ;generalize w3.heap.size=RB at *;go_wp2_with fail;refine Dw.out.mono ?_;intro e w5 hR;have Ux:=hidF (Ci.out.2.trans (hR.1.mono tA_tB));have di:=hidF (hR.1.kp.typ _ _ _ M4.out (by decide))
  rcases zCR hR with ⟨s1,v1,gM,rfl,PU⟩|⟨k,rfl,HE⟩
  rotate_left
  ·have gK:Hid (Res tB b t w X (.returned (.iface 80 (.int .i64 k))) w5):=zAD (by rw[HX.out,HE.out.1];rfl) HE.out.2 Ux.out
   clear hR;go_wp2_with fail;go_ret;exact gK.out
  have GE:Hid (X=place s1 ⟨r1,r2,xs,1,price,qty,MN,0⟩):=by show _=_;rw[HX.out,gM];rfl
  have HG:=hidF (zDf HW.out gM);have BD:Hid (s1.row=s.row):=by
   show _=_
   unfold leave at gM;rw[if_pos bt.out] at gM;have mo:Wf { s with bs:=swp.cB (spot s.bs s.ss id).s s.bs (spot s.bs s.ss id).i (spot s.bs s.ss id).k,ss:=swp.cS (spot s.bs s.ss id).s s.ss (spot s.bs s.ss id).i (spot s.bs s.ss id).k }:=⟨HW.out.m0,HW.out.m3,zCg (wAq HW.out.book bt.out),HW.out.ok,HW.out.ws⟩
   exact(zGd mo gM).2.row
  have UT:Hid (∀U,Below w5.heap.size w5 U→Calls prog 43 #[.pointer (some ⟨t,0,none⟩),.agg #[.int .i64 r1,.int .i64 r2,.int .i64 xs,.int .i64 1,.int .i64 price,.int .i64 qty,.int .i64 MN,.int .i64 0]] U fun e w'=>∃E,e=.returned E∧Hid (Res tB b t w X (.returned E) w')):=fun U hU=>by
   refine(zHH b t s1 v1 r1 r2 xs 1 price qty MN 0 U (PU.out.below hU) HG.out.wf (by have:=HG.out.evs;have:=HL.out;omega) (by rw[BD.out];have:=HRO.out;omega)).mono ?_
   intro e w' hR;exact(zCK (hR.step (Ux.out.trans (Tn.below hU PU.out.base)) (fun _ h=>h)) GE.out.symm).hidE
  clear hR gM Dw Ci M4;obtain⟨z0,z1,z2,z3,z4,-⟩:=sid.zAi di.out;go_wp2_with fail;refine(HAN.out _).mono ?_;rintro e w6⟨rfl,b6⟩;have HB6:=hidF b6;clear b6 z0 z1 z2 z3 z4;go_wp2_with fail;refine(UT.out _ HB6.out).mono ?_;rintro e w7⟨E,rfl,gK⟩;go_wp2_with fail;go_ret;exact gK.out
end flr
namespace flr
open Go.RowKit
open que (R rchk)
open sid (L DL LS)
open mee (T tV OwnT sumT)
open ord (O oV chk errV wAa wAb prB)
open que (bal)
open bok (zAc zAf)
open wak (OwnM OwnQ St SL Lies oL idx Trn)
theorem row11{w:World}{B:Nat}{x0 x1 x2 x3 x4 x5 x6 x7 x8 x9 x10:Value}{t:TypeId}(h:w.heap[B]?=some (.cells #[x0,x1,x2,x3,x4,x5,x6,x7,x8,x9,x10] t (0,0))) :
  w.cell? ⟨B,0,none⟩=some x0∧w.cell? ⟨B,1,none⟩=some x1∧w.cell? ⟨B,2,none⟩=some x2∧w.cell? ⟨B,3,none⟩=some x3∧w.cell? ⟨B,4,none⟩=some x4∧w.cell? ⟨B,5,none⟩=some x5∧w.cell? ⟨B,6,none⟩=some x6∧w.cell? ⟨B,7,none⟩=some x7∧w.cell? ⟨B,8,none⟩=some x8∧w.cell? ⟨B,9,none⟩=some x9∧w.cell? ⟨B,10,none⟩=some x10:=
 ⟨by simp[World.cell?,h],by simp[World.cell?,h],by simp[World.cell?,h],by simp[World.cell?,h],by simp[World.cell?,h],by simp[World.cell?,h],by simp[World.cell?,h],by simp[World.cell?,h],by simp[World.cell?,h],by simp[World.cell?,h],by simp[World.cell?,h]⟩
theorem zQa{w0 w w' : World}{b t:Nat}{s:TS}{v:TV}{who n:Int}(h:TM w b t s v)(h0:Tn tA b w0 w)(hp:pur.Pu 112 9 w' v.pp (pur.payP s.ps who n))(hg:w.grownBy w' (some v.pp)):Res tA b t w0 (payS s who n) (.returned (errV (pur.payE s.ps who n))) w':=by
 unfold payS;by_cases e:pur.payE s.ps who n=0
 ·rw[if_pos e,e];obtain⟨a1,a2⟩:=h.pay hp hg;exact⟨h0.trans a2,rfl,v,a1⟩
 ·rw[if_neg e,wAb e];exact⟨h0.trans (h.pay hp hg).2,e,rfl⟩
theorem zNA{w0 w w' : World}{b t:Nat}{s:TS}{v:TV}{who n:Int}(h:TM w b t s v)(h0:Tn tA b w0 w)(hp:pur.Pu 112 9 w' v.pp (pur.zDv s.ps who n))(hg:w.grownBy w' (some v.pp)):Res tA b t w0 (zEV s who n) (.returned (errV (pur.zDd s.ps who n))) w':=by
 unfold zEV;by_cases e:pur.zDd s.ps who n=0
 ·rw[if_pos e,e];obtain⟨a1,a2⟩:=h.pay hp hg;exact⟨h0.trans a2,rfl,v,a1⟩
 ·rw[if_neg e,wAb e];exact⟨h0.trans (h.pay hp hg).2,e,rfl⟩
section
variable (b t:Nat)(s:TS)(v:TV)(a1 a2 a3 a4 a5 a6 a7 a8 who n:Int)(w:World)
theorem zQb(h:TM w b t s v)(hw:Wf s)(hl:s.evs.length≤900000)(hr:s.row.length≤800000)  :
  Calls prog 22 #[.pointer (some ⟨t,0,none⟩),.agg #[.int .i64 1,.int .i64 a1,.int .i64 a2,.int .i64 a3,.int .i64 a4,.int .i64 a5,.int .i64 a6,.int .i64 a7,.int .i64 a8,.int .i64 who,.int .i64 n]] w (Res tB b t w (place s ⟨a1,a2,a3,a4,a5,a6,a7,a8⟩)):=by
 obtain⟨W,hW⟩:∃W,W=w.alloc (.cells #[.int .i64 1,.int .i64 a1,.int .i64 a2,.int .i64 a3,.int .i64 a4,.int .i64 a5,.int .i64 a6,.int .i64 a7,.int .i64 a8,.int .i64 who,.int .i64 n] 42):=⟨_,rfl⟩;have Hk:Below w.heap.size w W:=by rw[hW];exact(bzR _ _).alloc (nzR _) _
 have Hd:W.heap[w.heap.size]?=some (.cells #[.int .i64 1,.int .i64 a1,.int .i64 a2,.int .i64 a3,.int .i64 a4,.int .i64 a5,.int .i64 a6,.int .i64 a7,.int .i64 a8,.int .i64 who,.int .i64 n] 42 (0,0)):=by rw[hW];exact jA w _
 obtain⟨G,hG⟩:∃G,G=w.heap.size:=⟨_,rfl⟩;rw[←hG] at Hd;have mz:=h.below Hk;have mY:Tn tB b w W:=Tn.below Hk h.base;obtain⟨c0,c1,c2,c3,c4,c5,c6,c7,c8,c9,c10⟩:=row11 Hd;have HC:=hidF (zHH b t s v a1 a2 a3 a4 a5 a6 a7 a8 W mz hw (by omega) (by omega))
 have HT:=hidF mY;clear h hw hl hr Hk Hd mz mY;go_enter func22,ntmps22;go_wp2_with fail;rw[←hW];simp only[←hG];clear hW hG;refine HC.out.mono ?_;intro e w1 hR;obtain⟨E,rfl,gK⟩:=(hR.step HT.out (fun _ h=>h)).hidE
 clear hR c0 c1 c2 c3 c4 c5 c6 c7 c8 c9 c10;go_wp2_with fail;go_ret;exact gK.out
theorem zNB(h:TM w b t s v)(hw:Wf s)(hl:s.evs.length≤900000)(hid:(Lit.int .i64 a1).wf=true) :
  Calls prog 22 #[.pointer (some ⟨t,0,none⟩),.agg #[.int .i64 2,.int .i64 a1,.int .i64 a2,.int .i64 a3,.int .i64 a4,.int .i64 a5,.int .i64 a6,.int .i64 a7,.int .i64 a8,.int .i64 who,.int .i64 n]] w (Res tB b t w (cancel s a1)):=by
 obtain⟨W,hW⟩:∃W,W=w.alloc (.cells #[.int .i64 2,.int .i64 a1,.int .i64 a2,.int .i64 a3,.int .i64 a4,.int .i64 a5,.int .i64 a6,.int .i64 a7,.int .i64 a8,.int .i64 who,.int .i64 n] 42):=⟨_,rfl⟩;have Hk:Below w.heap.size w W:=by rw[hW];exact(bzR _ _).alloc (nzR _) _
 have Hd:W.heap[w.heap.size]?=some (.cells #[.int .i64 2,.int .i64 a1,.int .i64 a2,.int .i64 a3,.int .i64 a4,.int .i64 a5,.int .i64 a6,.int .i64 a7,.int .i64 a8,.int .i64 who,.int .i64 n] 42 (0,0)):=by rw[hW];exact jA w _
 obtain⟨G,hG⟩:∃G,G=w.heap.size:=⟨_,rfl⟩;rw[←hG] at Hd;have mz:=h.below Hk;have mY:Tn tB b w W:=Tn.below Hk h.base;obtain⟨c0,c1,c2,c3,c4,c5,c6,c7,c8,c9,c10⟩:=row11 Hd;have HC:=hidF (zKq b t s v a1 W mz hw (by omega) hid)
 have HT:=hidF mY;clear h hw hl  Hk Hd mz mY hid;go_enter func22,ntmps22;go_wp2_with fail;rw[←hW];simp only[←hG];clear hW hG;refine HC.out.mono ?_;intro e w1 hR;obtain⟨E,rfl,gK⟩:=(hR.step HT.out (fun _ h=>h)).hidE
 clear hR c0 c1 c2 c3 c4 c5 c6 c7 c8 c9 c10;go_wp2_with fail;go_ret;exact gK.out
theorem zRZ(h:TM w b t s v)(hw:Wf s)(hl:s.evs.length≤900000)(hr:s.row.length≤800000)(hid:(Lit.int .i64 a1).wf=true) :
  Calls prog 22 #[.pointer (some ⟨t,0,none⟩),.agg #[.int .i64 3,.int .i64 a1,.int .i64 a2,.int .i64 a3,.int .i64 a4,.int .i64 a5,.int .i64 a6,.int .i64 a7,.int .i64 a8,.int .i64 who,.int .i64 n]] w (Res tB b t w (swap s a1 a5 a6)):=by
 obtain⟨W,hW⟩:∃W,W=w.alloc (.cells #[.int .i64 3,.int .i64 a1,.int .i64 a2,.int .i64 a3,.int .i64 a4,.int .i64 a5,.int .i64 a6,.int .i64 a7,.int .i64 a8,.int .i64 who,.int .i64 n] 42):=⟨_,rfl⟩;have Hk:Below w.heap.size w W:=by rw[hW];exact(bzR _ _).alloc (nzR _) _
 have Hd:W.heap[w.heap.size]?=some (.cells #[.int .i64 3,.int .i64 a1,.int .i64 a2,.int .i64 a3,.int .i64 a4,.int .i64 a5,.int .i64 a6,.int .i64 a7,.int .i64 a8,.int .i64 who,.int .i64 n] 42 (0,0)):=by rw[hW];exact jA w _
 obtain⟨G,hG⟩:∃G,G=w.heap.size:=⟨_,rfl⟩;rw[←hG] at Hd;have mz:=h.below Hk;have mY:Tn tB b w W:=Tn.below Hk h.base;obtain⟨c0,c1,c2,c3,c4,c5,c6,c7,c8,c9,c10⟩:=row11 Hd;have HC:=hidF (zPZ b t s v a1 a5 a6 W mz hw (by omega) (by omega) hid)
 have HT:=hidF mY;clear h hw hl hr Hk Hd mz mY hid;go_enter func22,ntmps22;go_wp2_with fail;rw[←hW];simp only[←hG];clear hW hG;refine HC.out.mono ?_;intro e w1 hR;obtain⟨E,rfl,gK⟩:=(hR.step HT.out (fun _ h=>h)).hidE
 clear hR c0 c1 c2 c3 c4 c5 c6 c7 c8 c9 c10;go_wp2_with fail;go_ret;exact gK.out
theorem do_pay(h:TM w b t s v)(hw:Wf s) :
  Calls prog 22 #[.pointer (some ⟨t,0,none⟩),.agg #[.int .i64 4,.int .i64 a1,.int .i64 a2,.int .i64 a3,.int .i64 a4,.int .i64 a5,.int .i64 a6,.int .i64 a7,.int .i64 a8,.int .i64 who,.int .i64 n]] w (Res tB b t w (payS s who n)):=by
 obtain⟨W,hW⟩:∃W,W=w.alloc (.cells #[.int .i64 4,.int .i64 a1,.int .i64 a2,.int .i64 a3,.int .i64 a4,.int .i64 a5,.int .i64 a6,.int .i64 a7,.int .i64 a8,.int .i64 who,.int .i64 n] 42):=⟨_,rfl⟩;have Hk:Below w.heap.size w W:=by rw[hW];exact(bzR _ _).alloc (nzR _) _
 have Hd:W.heap[w.heap.size]?=some (.cells #[.int .i64 4,.int .i64 a1,.int .i64 a2,.int .i64 a3,.int .i64 a4,.int .i64 a5,.int .i64 a6,.int .i64 a7,.int .i64 a8,.int .i64 who,.int .i64 n] 42 (0,0)):=by rw[hW];exact jA w _
 obtain⟨G,hG⟩:∃G,G=w.heap.size:=⟨_,rfl⟩;rw[←hG] at Hd;have mz:=h.below Hk;have mY:Tn tB b w W:=Tn.below Hk h.base;obtain⟨c0,c1,c2,c3,c4,c5,c6,c7,c8,c9,c10⟩:=row11 Hd;have HC:Hid (∀U,Below W.heap.size W U→Calls prog 46 #[.pointer (some ⟨v.pp,0,none⟩),.int .i64 who,.int .i64 n] U fun e w'=>∃E,e=.returned E∧Hid (Res tB b t w (payS s who n) (.returned E) w')):=fun U hU=>by
  have GV:=Hk.trans (hU.mono Hk.size);have Um:=h.below GV;refine(pur.zRv v.pp s.ps who n U Um.purs hw.ok).mono ?_;rintro e w'⟨rfl,k3,k4⟩;exact((zQa Um (Tn.below (S:=tA) GV h.base) k3 k4).step (Tn.refl tB b w) tA_tB).hidE
 obtain⟨-,-,-,-,y4,-⟩:=mz.cells;have Gf:=hidF (bzR W.heap.size W);obtain⟨r1,r2,r3,r4,r5,r6,r7,r8,upp,qe,ne,ce,qk,nk,ck⟩:=v;simp only[] at y4;generalize payS s who n=X at *;clear h hw Hk Hd mz mY;go_enter func22,ntmps22;go_upto_region 9 with fail
 rw[←hW];simp only[←hG];clear hW hG
 go_region_with (go_at_call 46;with_reducible refine(HC.out _ ?_).mono ?_;(with_reducible repeat' (first|exact Gf.out|assumption|refine Below.drew ?_));rintro x w2 ⟨E,rfl,gK⟩)
 all_goals
  clear y4 c0 c1 c2 c3 c4 c5 c6 c7 c8 c9 c10;go_wp2_with fail;go_ret;exact gK.out
theorem zSa(h:TM w b t s v)(hw:Wf s) :
  Calls prog 22 #[.pointer (some ⟨t,0,none⟩),.agg #[.int .i64 5,.int .i64 a1,.int .i64 a2,.int .i64 a3,.int .i64 a4,.int .i64 a5,.int .i64 a6,.int .i64 a7,.int .i64 a8,.int .i64 who,.int .i64 n]] w (Res tB b t w (zEV s who n)):=by
 obtain⟨W,hW⟩:∃W,W=w.alloc (.cells #[.int .i64 5,.int .i64 a1,.int .i64 a2,.int .i64 a3,.int .i64 a4,.int .i64 a5,.int .i64 a6,.int .i64 a7,.int .i64 a8,.int .i64 who,.int .i64 n] 42):=⟨_,rfl⟩;have Hk:Below w.heap.size w W:=by rw[hW];exact(bzR _ _).alloc (nzR _) _
 have Hd:W.heap[w.heap.size]?=some (.cells #[.int .i64 5,.int .i64 a1,.int .i64 a2,.int .i64 a3,.int .i64 a4,.int .i64 a5,.int .i64 a6,.int .i64 a7,.int .i64 a8,.int .i64 who,.int .i64 n] 42 (0,0)):=by rw[hW];exact jA w _
 obtain⟨G,hG⟩:∃G,G=w.heap.size:=⟨_,rfl⟩;rw[←hG] at Hd;have mz:=h.below Hk;have mY:Tn tB b w W:=Tn.below Hk h.base;obtain⟨c0,c1,c2,c3,c4,c5,c6,c7,c8,c9,c10⟩:=row11 Hd;have HC:Hid (∀U,Below W.heap.size W U→Calls prog 47 #[.pointer (some ⟨v.pp,0,none⟩),.int .i64 who,.int .i64 n] U fun e w'=>∃E,e=.returned E∧Hid (Res tB b t w (zEV s who n) (.returned E) w')):=fun U hU=>by
  have GV:=Hk.trans (hU.mono Hk.size);have Um:=h.below GV;refine(pur.zPt v.pp s.ps who n U Um.purs hw.ok).mono ?_;rintro e w'⟨rfl,k3,k4⟩;exact((zNA Um (Tn.below (S:=tA) GV h.base) k3 k4).step (Tn.refl tB b w) tA_tB).hidE
 obtain⟨-,-,-,-,y4,-⟩:=mz.cells;have Gf:=hidF (bzR W.heap.size W);obtain⟨r1,r2,r3,r4,r5,r6,r7,r8,upp,qe,ne,ce,qk,nk,ck⟩:=v;simp only[] at y4;generalize zEV s who n=X at *;clear h hw Hk Hd mz mY;go_enter func22,ntmps22;go_upto_region 11 with fail
 rw[←hW];simp only[←hG];clear hW hG
 go_region_with (go_at_call 47;with_reducible refine(HC.out _ ?_).mono ?_;(with_reducible repeat' (first|exact Gf.out|assumption|refine Below.drew ?_));rintro x w2 ⟨E,rfl,gK⟩)
 all_goals
  clear y4 c0 c1 c2 c3 c4 c5 c6 c7 c8 c9 c10;go_wp2_with fail;go_ret;exact gK.out
theorem zSb(what:Int)(h:TM w b t s v)(h1:¬what=1)(h2:¬what=2)(h3:¬what=3)(h4:¬what=4)(h5:¬what=5) :
  Calls prog 22 #[.pointer (some ⟨t,0,none⟩),.agg #[.int .i64 what,.int .i64 a1,.int .i64 a2,.int .i64 a3,.int .i64 a4,.int .i64 a5,.int .i64 a6,.int .i64 a7,.int .i64 a8,.int .i64 who,.int .i64 n]] w (Res tB b t w (.error 1)):=by
 obtain⟨W,hW⟩:∃W,W=w.alloc (.cells #[.int .i64 what,.int .i64 a1,.int .i64 a2,.int .i64 a3,.int .i64 a4,.int .i64 a5,.int .i64 a6,.int .i64 a7,.int .i64 a8,.int .i64 who,.int .i64 n] 42):=⟨_,rfl⟩;have Hk:Below w.heap.size w W:=by rw[hW];exact(bzR _ _).alloc (nzR _) _
 have Hd:W.heap[w.heap.size]?=some (.cells #[.int .i64 what,.int .i64 a1,.int .i64 a2,.int .i64 a3,.int .i64 a4,.int .i64 a5,.int .i64 a6,.int .i64 a7,.int .i64 a8,.int .i64 who,.int .i64 n] 42 (0,0)):=by rw[hW];exact jA w _
 obtain⟨G,hG⟩:∃G,G=w.heap.size:=⟨_,rfl⟩;rw[←hG] at Hd;have mz:=h.below Hk;have mY:Tn tB b w W:=Tn.below Hk h.base;obtain⟨c0,c1,c2,c3,c4,c5,c6,c7,c8,c9,c10⟩:=row11 Hd;have gK:Hid (Res tB b t w (.error 1) (.returned (.iface 80 (.int .i64 1))) W):=zAD rfl (by decide) mY
 have e1:(what == 1)=false:=by simp[h1]
 have e2:(what == 2)=false:=by simp[h2]
 have e3:(what == 3)=false:=by simp[h3]
 have e4:(what == 4)=false:=by simp[h4]
 have e5:(what == 5)=false:=by simp[h5]
 clear h Hk Hd mz mY;go_enter func22,ntmps22;go_wp2_with fail;rw[←hW];go_ret;exact gK.out
theorem do_any(what:Int)(h:TM w b t s v)(hw:Wf s)(hl:s.evs.length≤900000)(hr:s.row.length≤800000)(hid:(Lit.int .i64 a1).wf=true) :
  Calls prog 22 #[.pointer (some ⟨t,0,none⟩),.agg #[.int .i64 what,.int .i64 a1,.int .i64 a2,.int .i64 a3,.int .i64 a4,.int .i64 a5,.int .i64 a6,.int .i64 a7,.int .i64 a8,.int .i64 who,.int .i64 n]] w (Res tB b t w (doC s ⟨what,⟨a1,a2,a3,a4,a5,a6,a7,a8⟩,who,n⟩)):=by
 unfold doC;simp only[];by_cases h1:what=1
 ·subst h1;rw[if_pos rfl];exact zQb b t s v a1 a2 a3 a4 a5 a6 a7 a8 who n w h hw hl hr
 rw[if_neg h1];by_cases h2:what=2
 ·subst h2;rw[if_pos rfl];exact zNB b t s v a1 a2 a3 a4 a5 a6 a7 a8 who n w h hw hl hid
 rw[if_neg h2];by_cases h3:what=3
 ·subst h3;rw[if_pos rfl];exact zRZ b t s v a1 a2 a3 a4 a5 a6 a7 a8 who n w h hw hl hr hid
 rw[if_neg h3];by_cases h4:what=4
 ·subst h4;rw[if_pos rfl];exact do_pay b t s v a1 a2 a3 a4 a5 a6 a7 a8 who n w h hw
 rw[if_neg h4];by_cases h5:what=5
 ·subst h5;rw[if_pos rfl];exact zSa b t s v a1 a2 a3 a4 a5 a6 a7 a8 who n w h hw
 rw[if_neg h5];exact zSb b t s v a1 a2 a3 a4 a5 a6 a7 a8 who n w what h h1 h2 h3 h4 h5
end
end flr
end Go.Proofs.YtmhcghgfpfainaaGreatDoor
