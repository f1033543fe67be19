import Derived.Test.YtnfilcpnneckkaaGreatFlrWak
namespace Go.Proofs.YtnfilcpnneckkaaGreat
open Go.Proofs.Tryz
namespace flr
open Go.RowKit
open que (R rchk)
open sid (L DL LS)
open mee (T tV OwnT sumT)
open ord (O oV chk errV wAa wAb prB)
open que (bal)
open bok (zAc zAg)
open slf (OwnI zHM)
open mrg (zBx zCw zCx)
open wak (OwnM OwnQ St SL Lies oL idx Trn)
structure MS (a1 a2 a3 a4 a5 a6 a7 a8:Int) (G:Nat) (q1:Option Addr) (n1 c1:Nat) (q2:Option Addr) (n2 c2:Nat) (qt:Option Addr) (nt ct:Nat) (g:Int) (qi:Option Addr) (ni ci:Nat) (vs:Vs) (w:World):Prop where
 ord:w.heap[G]?=some (.cells #[.int .i64 a1,.int .i64 a2,.int .i64 a3,.int .i64 a4,.int .i64 a5,.int .i64 a6,.int .i64 a7,.int .i64 a8] 34 (0,0))
 vis:w.heap[G+1]?=some (.cells #[.slice q1 n1 c1,.slice q2 n2 c2,.slice qt nt ct,.int .i64 g,.slice qi ni ci] 127 (0,0))
 d1:DL w 0 (.slice q1 n1 c1) vs.bs
 d2:DL w 0 (.slice q2 n2 c2) vs.ss
 tr:OwnT w 0 (.slice qt nt ct) vs.ts
 ids:OwnI w 0 (.slice qi ni ci) vs.ids
section
variable {a1 a2 a3 a4 a5 a6 a7 a8:Int}{G:Nat}{q1:Option Addr}{n1 c1:Nat}{q2:Option Addr}{n2 c2:Nat}{qt:Option Addr}{nt ct:Nat}{g:Int}{qi:Option Addr}{ni ci:Nat}{vs:Vs}{w w' : World}
theorem MS.kp(h:MS a1 a2 a3 a4 a5 a6 a7 a8 G q1 n1 c1 q2 n2 c2 qt nt ct g qi ni ci vs w)(hk:Kp tA w w'):MS a1 a2 a3 a4 a5 a6 a7 a8 G q1 n1 c1 q2 n2 c2 qt nt ct g qi ni ci vs w':=
 ⟨hk.typ _ _ _ h.ord (by decide),hk.typ _ _ _ h.vis (by decide),hk.dl h.d1 (by decide) (by decide),hk.dl h.d2 (by decide) (by decide),hk.ownQ h.tr (by decide),hk.ownQ h.ids (by decide)⟩
end
theorem id_at{w:World}{base:Nat}{q:Option Addr}{n c:Nat}{l:List Int}(h:OwnI w base (.slice q n c) l){k:Nat}(hk:k<l.length):∃g off,q=some ⟨g,off,none⟩∧g<w.heap.size∧w.cell? ⟨g,off+k,none⟩=some (.int .i64 l[k]!):=by
 have hn:n=l.length:=by obtain⟨q',c',e⟩:=wak.OwnM.form h;cases e;rfl
 subst hn;rcases h.2 with ⟨e,hn⟩|⟨g,off,cap,cur,e,_⟩
 ·rw[hn] at hk;exact absurd hk (Nat.not_lt_zero _)
 ·cases e;obtain⟨hc,-,-,Hi⟩:=wak.OwnM.cells h;refine⟨g,off,rfl,Hi,hc k _ ?_⟩;unfold slf.zHM;simp[hk]
structure SI (b t:Nat) (s:TS) (ids:List Int) (K:TS→Rs) (w:World) (X:Rs) (ms:World→Prop) (k:Nat) (wr:World):Prop where
 mem:∃s1 v1,TM wr b t s1 v1∧Wf s1∧Sm s s1 k∧X=(parts s1 (ids.drop k)).bind K
 tn:Tn tA b w wr
 ms:ms wr
theorem zEI{s:TS}{o:O}{v:Vs}(h:Wf s):Wf (zAv s o v)∧(zAv s o v).row=s.row:=by
 have h1:Wf (zAA s o v)∧(zAA s o v).row=s.row:=by
  unfold zAA;split
  ·exact⟨zEx h _ _ _ _,rfl⟩
  ·exact⟨h,rfl⟩
 unfold zAv;split
 ·exact⟨zEx h1.1 _ _ _ _,h1.2⟩
 ·exact h1
theorem zCS{S:List TypeId}{b t:Nat}{w w' : World}{x:Rs}{e:Ending}(h:Res S b t w x e w'):(∃s v,x=.ok s∧e=.returned .nilIface∧Hid (TM w' b t s v))∨∃k,e=.returned (.iface 90 (.int .i64 k))∧Hid (x=.error k∧¬k=0):=by
 rcases h.two with ⟨s,v,a,b,c⟩|⟨k,a,b,c⟩
 ·exact .inl ⟨s,v,a,b,c⟩
 ·exact .inr ⟨k,c,a,b⟩
set_option maxRecDepth 100000 in
set_option maxHeartbeats 8000000 in
theorem wAM(b t:Nat)(s:TS)(v:TV)(a1 a2 a3 a4 a5 a6 a7 a8:Int)(q1 q2 qt qi:Option Addr)(n1 c1 n2 c2 nt ct ni ci:Nat)(g:Int)(vs:Vs)(w:World)(h:TM w b t s v)(hw:Wf s)(eD:DL w 0 (.slice q1 n1 c1) vs.bs)(pO:DL w 0 (.slice q2 n2 c2) vs.ss)(hO:OwnT w 0 (.slice qt nt ct) vs.ts)(hI:OwnI w 0 (.slice qi ni ci) vs.ids)(hg:g=vs.gone)(hv:VO ⟨a1,a2,a3,a4,a5,a6,a7,a8⟩ vs)(Hv:∀i∈vs.ids,zAg s.bs s.ss i=true)(hl:s.evs.length≤990000)(hr:s.row.length≤900000) :
  Calls prog 59 #[.pointer (some ⟨t,0,none⟩),.agg #[.int .i64 a1,.int .i64 a2,.int .i64 a3,.int .i64 a4,.int .i64 a5,.int .i64 a6,.int .i64 a7,.int .i64 a8],.agg #[.slice q1 n1 c1,.slice q2 n2 c2,.slice qt nt ct,.int .i64 g,.slice qi ni ci]] w (Res tB b t w (settle s ⟨a1,a2,a3,a4,a5,a6,a7,a8⟩ vs)):=by
 obtain⟨W1,H7⟩:∃W,W=w.alloc (.cells #[.int .i64 a1,.int .i64 a2,.int .i64 a3,.int .i64 a4,.int .i64 a5,.int .i64 a6,.int .i64 a7,.int .i64 a8] 34):=⟨_,rfl⟩;have Hc:Below w.heap.size w W1:=by rw[H7];exact(bzR _ _).alloc (nzR _) _
 have Hl:W1.heap.size=w.heap.size+1:=by rw[H7];simp
 have gq:W1.heap[w.heap.size]?=some (.cells #[.int .i64 a1,.int .i64 a2,.int .i64 a3,.int .i64 a4,.int .i64 a5,.int .i64 a6,.int .i64 a7,.int .i64 a8] 34 (0,0)):=by rw[H7];exact jA w _
 obtain⟨W,hW⟩:∃W,W=W1.alloc (.cells #[.slice q1 n1 c1,.slice q2 n2 c2,.slice qt nt ct,.int .i64 g,.slice qi ni ci] 127):=⟨_,rfl⟩;have Ha:Below W1.heap.size W1 W:=by rw[hW];exact(bzR _ _).alloc (nzR _) _
 have H5:W.heap[w.heap.size+1]?=some (.cells #[.slice q1 n1 c1,.slice q2 n2 c2,.slice qt nt ct,.int .i64 g,.slice qi ni ci] 127 (0,0)):=by rw[←Hl,hW];exact jA W1 _
 have Hj:=Hc.trans (Ha.mono Hc.size);obtain⟨G,hG⟩:∃G,G=w.heap.size:=⟨_,rfl⟩;have bR:W.heap[G]?=some (.cells #[.int .i64 a1,.int .i64 a2,.int .i64 a3,.int .i64 a4,.int .i64 a5,.int .i64 a6,.int .i64 a7,.int .i64 a8] 34 (0,0)):=by rw[hG];exact zBL gq Ha
 rw[←hG] at H5;have mx:Kp [] w W:=Kp.below Hj;obtain⟨ms,BU⟩:∃ms:World→Prop,ms=MS a1 a2 a3 a4 a5 a6 a7 a8 G q1 n1 c1 q2 n2 c2 qt nt ct g qi ni ci vs:=⟨_,rfl⟩;have cL:Hid (ms W):=by
  rw[BU];exact⟨bR,H5,mx.dl eD (by simp) (by simp),mx.dl pO (by simp) (by simp),mx.ownQ hO (by simp),mx.ownQ hI (by simp)⟩
 have Bj:Hid (∀x y,ms x→Kp tA x y→ms y):=by rw[BU];exact fun x y hx hk=>MS.kp hx hk
 have mH:Hid (∀x,ms x→MS a1 a2 a3 a4 a5 a6 a7 a8 G q1 n1 c1 q2 n2 c2 qt nt ct g qi ni ci vs x):=by rw[BU];exact fun x hx=>hx
 have ua:=hidF (Tn.below (S:=tA) Hj h.base);obtain⟨K,hK⟩:∃K:TS→Rs,K=fun s3=>zCQ (zAv { s3 with bs:=vs.bs,ss:=vs.ss } ⟨a1,a2,a3,a4,a5,a6,a7,a8⟩ vs) vs.ts:=⟨_,rfl⟩
 obtain⟨X,hX⟩:∃X,X=settle s ⟨a1,a2,a3,a4,a5,a6,a7,a8⟩ vs:=⟨_,rfl⟩;rw[←hX];unfold settle at hX;rw[←hK,←hg] at hX;have HK:=hidF hK;have HX:=hidF hX;have HV:=hidF hv;have Bq:=hidF hw;have HL:=hidF hl;have DZ:=hidF hr;have bh:=hidF Hv;have DG:Hid (ni=vs.ids.length∧ni≤60):=by
  have h1:ni=vs.ids.length:=by obtain⟨q',c',e⟩:=wak.OwnM.form hI;cases e;rfl
  have h2:=hv.ids;exact⟨h1,by omega⟩
 have pH:=hidF (wBd b t s v qt nt ct vs.ts W (h.below Hj) hw (mH.out W cL.out).tr (by have:=hv.len;omega))
 have HGV:=hidF hg;obtain⟨v0,v1,v2,v3,v4,-⟩:=sid.zAi H5;clear h hw eD pO hO hI hv Hv hl hr bR gq H5 Hc Ha Hl Hj mx BU hX hK hg;go_enter func59,ntmps59;go_upto_region 1 with fail
 rw[←H7,←hW];simp only[←hG];clear hW H7 hG;go_wp2_with fail;refine pH.out.mono ?_;intro e w1 hR;have ub:=hidF (ua.out.trans hR.1);have px:=hidF (Bj.out _ _ cL.out hR.1.kp);rcases zCS hR with ⟨s1,u1,gM,rfl,U0⟩|⟨k,rfl,HE⟩
 rotate_left
 ·have gJ:Hid (Res tB b t w X (.returned (.iface 90 (.int .i64 k))) w1):=zAE (by rw[HX.out,HE.out.1];rfl) HE.out.2 (ub.out.mono tA_tB)
  clear hR v0 v1 v2 v3 v4 pH HE;go_wp2_with fail;go_ret;exact gJ.out
 have GW:Hid (X=if zBx ⟨a1,a2,a3,a4,a5,a6,a7,a8⟩ vs.ts g=0 then (zBY s1 a2 (zCw ⟨a1,a2,a3,a4,a5,a6,a7,a8⟩ vs.ts g) (zCx ⟨a1,a2,a3,a4,a5,a6,a7,a8⟩ vs.ts g)).bind fun s2=>(parts s2 vs.ids).bind K else .error (zBx ⟨a1,a2,a3,a4,a5,a6,a7,a8⟩ vs.ts g)):=by show _=_;rw[HX.out,gM];rfl
 have cZ:=hidF (zEw vs.ts Bq.out gM);have m7:=hidF (mrg.zPe ⟨a1,a2,a3,a4,a5,a6,a7,a8⟩ (.slice qt nt ct) vs.ts g w1 (mrg.own_tl (mH.out w1 px.out).tr));rw[show oV ⟨a1,a2,a3,a4,a5,a6,a7,a8⟩=.agg #[.int .i64 a1,.int .i64 a2,.int .i64 a3,.int .i64 a4,.int .i64 a5,.int .i64 a6,.int .i64 a7,.int .i64 a8] from rfl] at m7
 clear hR v0 v1 v2 v3 v4 pH gM HX cL ua;obtain⟨v0,v1,v2,v3,v4,-⟩:=sid.zAi (mH.out w1 px.out).vis;obtain⟨o0,o1,o2,o3,o4,o5,o6,o7,-⟩:=wak.row8 (mH.out w1 px.out).ord;obtain⟨C,hC⟩:∃C,C=zCw ⟨a1,a2,a3,a4,a5,a6,a7,a8⟩ vs.ts g:=⟨_,rfl⟩;obtain⟨D,hD⟩:∃D,D=zCx ⟨a1,a2,a3,a4,a5,a6,a7,a8⟩ vs.ts g:=⟨_,rfl⟩;rw[←hC,←hD] at m7 GW;clear hC hD;by_cases hE:zBx ⟨a1,a2,a3,a4,a5,a6,a7,a8⟩ vs.ts g=0
 rotate_left
 ·rw[wAb hE] at m7;have Gl:Hid (X=.error (zBx ⟨a1,a2,a3,a4,a5,a6,a7,a8⟩ vs.ts g)):=by show _=_;rw[GW.out,if_neg hE]
  generalize zBx ⟨a1,a2,a3,a4,a5,a6,a7,a8⟩ vs.ts g=KE at *;go_wp2_with fail;refine m7.out.mono ?_;rintro e w2⟨rfl,b2⟩;have gJ:Hid (Res tB b t w X (.returned (.iface 90 (.int .i64 KE))) w2):=zAE Gl.out hE ((ub.out.trans (Tn.below b2 U0.out.base)).mono tA_tB);clear b2 v0 v1 v2 v3 v4 o0 o1 o2 o3 o4 o5 o6 o7 m7;go_wp2_with fail;go_ret;exact gJ.out
 rw[hE,wAa] at m7;have mq:Hid (X=(zBY s1 a2 C D).bind fun s2=>(parts s2 vs.ids).bind K):=by show _=_;rw[GW.out,if_pos hE]
 clear hE GW;go_wp2_with fail;refine m7.out.mono ?_;rintro e w2⟨rfl,b2⟩;have GN:=hidF (U0.out.below b2);have GV:=hidF (ub.out.trans (Tn.below b2 U0.out.base));have cM:=hidF (Bj.out _ _ px.out (Kp.below b2));have uA:Hid (∀U,Below w2.heap.size w2 U→Calls prog 93 #[.pointer (some ⟨u1.pp,0,none⟩),.int .i64 a2,.int .i64 C,.int .i64 D] U fun e w'=>∃E,e=.returned E∧Hid ((∃s2,E=.nilIface∧Hid (SI b t s2 vs.ids K w X ms 0 w'∧Wf s2∧Sm s s2 vs.ts.length))∨∃k,E=.iface 90 (.int .i64 k)∧Hid (Res tB b t w X (.returned (.iface 90 (.int .i64 k))) w'))):=fun U hU=>by
  have Um:=GN.out.below hU;have hTU:=GV.out.trans (Tn.below (S:=tA) hU GN.out.base);refine(pur.wAZ u1.pp s1.ps a2 C D U Um.purs cZ.out.1.ok).mono ?_;rintro e w'⟨rfl,k4,k5⟩;have hR:=zEv Um hTU k4 k5;have hms' : ms w':=Bj.out _ _ (Bj.out _ _ cM.out (Kp.below hU)) (Um.pay k4 k5).2.kp;refine⟨_,rfl,?_⟩;show _∨_
  rcases hR.two with ⟨s2,v2,mF,he,hM⟩|⟨k,mF,hk,he⟩
  ·obtain⟨f1,f2⟩:=zHV cZ.out.1 mF;refine .inl ⟨s2,by injection he,?_⟩
   show _∧_∧_
   refine⟨⟨⟨s2,v2,hM,f1,Sm.refl _,?_⟩,hR.1,hms'⟩,f1,cZ.out.2.trans f2⟩;rw[mq.out,mF];rfl
  ·refine .inr ⟨k,by injection he,?_⟩
   show Res _ _ _ _ _ _ _
   exact zAE (by rw[mq.out,mF];rfl) hk (hR.1.mono tA_tB)
 clear b2 v0 v1 v2 v3 v4 o0 o1 o2 o3 o4 o5 o6 o7 m7 U0 px ub;obtain⟨-,-,-,-,y4,-⟩:=GN.out.cells;obtain⟨o0,o1,o2,o3,o4,o5,o6,o7,-⟩:=wak.row8 (mH.out w2 cM.out).ord;have Gc:=hidF (bzR w2.heap.size w2);obtain⟨r1,r2,r3,r4,r5,r6,r7,r8,upp,qe,ne,ce,qk,nk,ck⟩:=u1;simp only[] at y4;go_upto_region 7 with fail
 go_region_with (go_at_call 93;with_reducible refine(uA.out _ ?_).mono ?_;(with_reducible repeat' (first|exact Gc.out|assumption|refine Below.drew ?_));rintro x w3 ⟨E,rfl,uP⟩)
 all_goals
  clear y4 o0 o1 o2 o3 o4 o5 o6 o7 uA Gc;rcases uP.out with ⟨s2,rfl,Ca⟩|⟨k,rfl,gJ⟩
  rotate_left
  ·clear uP;go_wp2_with fail;go_ret;exact gJ.out
  clear uP GN cM GV mq cZ Bq;obtain⟨v0,v1,v2,v3,v4,-⟩:=sid.zAi (mH.out w3 Ca.out.1.ms).vis;go_wp2_with fail;clear v0 v1 v2 v3 v4;go_loopg [13,14,15,16,17,18,55] ni (fun gg _ _ _ _ _ _ s55 wr=>∃ (kk:Nat),kk≤ni∧ni - kk≤gg∧s55=.int .i64 kk∧Aside (SI b t s2 vs.ids K w X ms kk wr))
  case atStart=>exact⟨0,jL _,by omega,rfl,Ca.out.1⟩
  case round=>
   obtain⟨kk,gd,Hu,rfl,HA⟩:=hrel;have dh:=hidF Ca.out.2;clear Ca;by_cases Hi:kk<ni
   rotate_left
   ·have Hp:¬(kk:Int)<(ni:Int):=(by omega);have BO:kk=ni:=(by omega);obtain⟨⟨s3,u3,U5,PH,kc,Uc⟩,Ef,Pp⟩:=HA.out;have Cx:X=K s3:=(by rw[Uc,List.drop_eq_nil_of_le (by have:=DG.out.1;omega)];rfl);rw[HK.out] at Cx;have Gl:=hidF Cx;have mu:=dh.out.2.trans kc;have mj:Hid (s3.evs.length≤999000):=(by show _≤_;rw[mu.evs];have:=HL.out;have:=HV.out.len;have:=DG.out.2;omega);have HRO:Hid (s3.row.length≤900000):=(by show _≤_;rw[mu.row];exact DZ.out);have HWX:Hid (Wf { s3 with bs:=vs.bs,ss:=vs.ss }):=⟨PH.m0,PH.m3,HV.out.book,PH.ok,PH.ws⟩
    obtain⟨v0,v1,v2,v3,v4,-⟩:=sid.zAi (mH.out wr Pp).vis;obtain⟨-,y1,y2,-,-,-,-,-,yf⟩:=U5.cells;have yf1:=yf 1;have yf2:=yf 2;obtain⟨eQ,Cv⟩:=U5.book (mH.out wr Pp).d1 (mH.out wr Pp).d2;have PM:=hidF eQ;have Uz:=hidF (Ef.trans Cv);have bj:=hidF (Bj.out _ _ Pp Cv.kp);obtain⟨r1,r2,r3,r4,r5,r6,r7,r8,upp,qe,ne,ce,qk,nk,ck⟩:=u3;simp only[] at y1 y2;clear U5 PH kc Uc Ef Pp Cx mu yf eQ Cv HA BO gd Hu dh bh;go_upto_region 21 with fail
    generalize (wr.setCell ⟨t,1,none⟩ (.slice q1 n1 c1)).setCell ⟨t,2,none⟩ (.slice q2 n2 c2)=W5 at *;clear v0 v1 v2 v3 v4 y1 y2 yf1 yf2;obtain⟨v0,v1,v2,v3,v4,-⟩:=sid.zAi (mH.out W5 bj.out).vis;obtain⟨o0,o1,o2,o3,o4,o5,o6,o7,-⟩:=wak.row8 (mH.out W5 bj.out).ord;have G0:=hidF (zHu b t _ _ a1 a2 a3 a4 a5 a6 a7 a8 q1 q2 qt qi n1 c1 n2 c2 nt ct ni ci g vs W5 PM.out (mH.out W5 bj.out).tr HGV.out HV.out mj.out);go_wp2_with fail;refine G0.out.mono ?_;rintro e w6⟨rfl,⟨u6,hM6⟩,hT6⟩;have UA:=hidF (Uz.out.trans hT6);have DA:=hidF (Bj.out _ _ bj.out hT6.kp);have bm:=hidF (wBi b t _ u6 qt nt ct vs.ts w6 hM6 (zEI HWX.out).1 (mH.out w6 DA.out).tr (by have:=HV.out.len;omega) (fun x hx=>by have:=HV.out.each x hx;unfold ord.prB;simp;omega) (by rw[(zEI HWX.out).2];exact HRO.out))
    clear v0 v1 v2 v3 v4 o0 o1 o2 o3 o4 o5 o6 o7 hM6 hT6 G0 PM;obtain⟨v0,v1,v2,v3,v4,-⟩:=sid.zAi (mH.out w6 DA.out).vis;go_wp2_with fail;refine bm.out.mono ?_;intro e w7 hR7;have gJ:Hid (Res tB b t w X e w7):=zCL (hR7.step (UA.out.mono tA_tB) (fun _ h=>h)) Gl.out.symm
    clear v0 v1 v2 v3 v4 bm;rcases zCS hR7 with ⟨s8,u8,-,rfl,-⟩|⟨k,rfl,-⟩
    all_goals
     clear hR7;go_wp2_with fail;go_ret;exact gJ.out
   ·have Hp:(kk:Int)<(ni:Int):=(by omega);have Hs:kk<vs.ids.length:=(by rw[←DG.out.1];exact Hi);obtain⟨⟨s1,u1,hM,GT,dP,Uc⟩,UB,BU⟩:=HA.out;obtain⟨gz,oz,rfl,hGz,e0⟩:=id_at (mH.out wr BU).ids Hs;rw[zJb vs.ids kk Hs] at Uc;have BK:zAg s1.bs s1.ss vs.ids[kk]! = true:=by
     rw[dP.bs,dP.ss,dh.out.2.bs,dh.out.2.ss];refine bh.out _ ?_;rw[mrg.getE vs.ids kk Hs];exact jT _
    have mw:s1.evs.length≤1000000:=(by rw[dP.evs,dh.out.2.evs];have:=HL.out;have:=HV.out.len;have:=DG.out.2;omega);generalize vs.ids[kk]! = id at *;have hA:=wAs GT.book BK;have GP:X=((part s1 (spot s1.bs s1.ss id).r (spot s1.bs s1.ss id).s (spot s1.bs s1.ss id).p).bind fun s1=>parts s1 (vs.ids.drop (kk+1))).bind K:=by
     rw[Uc];show ((zDE s1 id).bind _).bind K=_
     unfold zDE;rw[if_pos BK]
    generalize spot s1.bs s1.ss id=x at hA GP;obtain⟨xs,xp,⟨r1,r2,r3,r4,r5⟩,xi,xk⟩:=x;simp only[] at GP;have HF:=hidF (swp.zBQ u1.q1 u1.q2 u1.n1 u1.n2 u1.c1 u1.c2 s1.bs s1.ss id xs xp r1 r2 r3 r4 r5 xi xk wr hM.buys.ls hM.sells.ls hA);obtain⟨-,y1,y2,-⟩:=hM.cells;have ml:Hid (∀U,Below wr.heap.size wr U→Calls prog 94 #[.pointer (some ⟨t,0,none⟩),.agg #[.int .i64 r1,.int .i64 r2,.int .i64 r3,.int .i64 r4,.int .i64 r5],.int .i64 xs,.int .i64 xp] U fun e w'=>∃E,e=.returned E∧Hid ((E=.nilIface∧Hid (SI b t s2 vs.ids K w X ms (kk+1) w'))∨∃k,E=.iface 90 (.int .i64 k)∧Hid (Res tB b t w X (.returned (.iface 90 (.int .i64 k))) w'))):=fun U hU=>by
     refine(wAT b t s1 u1 r1 r2 r3 r4 r5 xs xp U (hM.below hU) GT hA.rest mw).mono ?_;intro e w' hR;have hT':=(UB.trans (Tn.below (S:=tA) hU hM.base)).trans hR.1;rcases hR.two with ⟨s4,u4,hx4,rfl,hM4⟩|⟨k,hx4,hk,rfl⟩
     ·refine⟨_,rfl,?_⟩;show _∨_
      obtain⟨f1,f2⟩:=zGa GT hx4;refine .inl ⟨rfl,?_⟩;show SI _ _ _ _ _ _ _ _ _ _
      refine⟨⟨s4,u4,hM4,f1,dP.trans f2,?_⟩,hT',Bj.out _ _ (Bj.out _ _ BU (Kp.below hU)) hR.1.kp⟩;rw[GP,hx4];rfl
     ·refine⟨_,rfl,?_⟩;show _∨_
      refine .inr ⟨k,rfl,?_⟩;show Res _ _ _ _ _ _ _
      exact zAE (by rw[GP,hx4];rfl) hk (hT'.mono tA_tB)
    have MZ:=hidF (zPx kk (by have:=DG.out.2;omega))
    have HM:Hid (kk<ni∧ni - kk≤gk):=⟨Hi,Hu⟩;obtain⟨uq1,un1,uc1,uq2,un2,uc2,r9,r10,upp,qe,ne,ce,qk,nk,ck⟩:=u1;simp only[] at y1 y2 HF;clear hM GT dP Uc UB BU BK mw hA GP HA Hi Hu gd Hs dh;go_wp2_with fail;refine HF.out.mono ?_;rintro e w4⟨rfl,b4⟩;obtain⟨W5,mv⟩:∃W5,W5=w4.alloc (.cells #[.int .i64 r1,.int .i64 r2,.int .i64 r3,.int .i64 r4,.int .i64 r5] 51):=⟨_,rfl⟩;have GX:Hid (Below wr.heap.size wr W5):=(by rw[mv];exact b4.alloc b4.size _);have bu:W5.heap[w4.heap.size]?=some (.cells #[.int .i64 r1,.int .i64 r2,.int .i64 r3,.int .i64 r4,.int .i64 r5] 51 (0,0)):=(by rw[mv];exact jA w4 _);clear b4 HF e0 y1 y2 hGz;go_upto_if 72 with fail
    rw[←mv];clear mv;generalize w4.heap.size=FF at *;obtain⟨z0,z1,z2,z3,z4,-⟩:=sid.zAi bu;clear bu;go_wp2_with fail;refine(ml.out _ GX.out).mono ?_;rintro e w6⟨E,rfl,uP⟩;clear z0 z1 z2 z3 z4 ml GX;rcases uP.out with ⟨rfl,HSN⟩|⟨k,rfl,gJ⟩
    rotate_left
    ·clear uP;go_wp2_with fail;go_ret;exact gJ.out
    clear uP;have ei:=MZ.out;go_wp2_with fail;go_roundg (ni - (kk+1))
    case measure=>have:=HM.out;omega
    case rel=>exact⟨kk+1,HM.out.1,nzR _,by go_num,HSN.out⟩
end flr
end Go.Proofs.YtnfilcpnneckkaaGreat
