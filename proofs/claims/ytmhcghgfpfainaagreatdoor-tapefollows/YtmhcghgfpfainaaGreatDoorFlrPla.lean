import Derived.Test.YtmhcghgfpfainaaGreatDoorFlrWak
set_option maxHeartbeats 8000000
set_option maxRecDepth 100000
namespace Go.Proofs.YtmhcghgfpfainaaGreatDoor
open Tryz
namespace flr
open Go.RowKit
open que (R rchk)
open sid (L DL LS)
open mee (T tV OwnT sumT)
open ord (O oV chk errV wAa wAb prB)
open que (bal)
open bok (zAc zAf)
open slf (OwnI zHU)
open mrg (zBu zCu zCv)
open wak (OwnM OwnQ St SL Lies oL idx Trn)
structure MS (a1 a2 a3 a4 a5 a6 a7 a8:Int) (G:Nat) (q1:Option Addr) (n1 c1:Nat) (q2:Option Addr) (n2 c2:Nat) (qt:Option Addr) (nt ct:Nat) (g:Int) (qi:Option Addr) (ni ci:Nat) (vs:Vs) (w:World):Prop where
 ord:w.heap[G]?=some (.cells #[.int .i64 a1,.int .i64 a2,.int .i64 a3,.int .i64 a4,.int .i64 a5,.int .i64 a6,.int .i64 a7,.int .i64 a8] 40 (0,0))
 vis:w.heap[G+1]?=some (.cells #[.slice q1 n1 c1,.slice q2 n2 c2,.slice qt nt ct,.int .i64 g,.slice qi ni ci] 144 (0,0))
 d1:DL w 0 (.slice q1 n1 c1) vs.bs
 d2:DL w 0 (.slice q2 n2 c2) vs.ss
 tr:OwnT w 0 (.slice qt nt ct) vs.ts
 ids:OwnI w 0 (.slice qi ni ci) vs.ids
section
variable {a1 a2 a3 a4 a5 a6 a7 a8:Int}{G:Nat}{q1:Option Addr}{n1 c1:Nat}{q2:Option Addr}{n2 c2:Nat}{qt:Option Addr}{nt ct:Nat}{g:Int}{qi:Option Addr}{ni ci:Nat}{vs:Vs}{w w' : World}
theorem MS.kp(h:MS a1 a2 a3 a4 a5 a6 a7 a8 G q1 n1 c1 q2 n2 c2 qt nt ct g qi ni ci vs w)(hk:Kp tA w w'):MS a1 a2 a3 a4 a5 a6 a7 a8 G q1 n1 c1 q2 n2 c2 qt nt ct g qi ni ci vs w':=
 ⟨hk.typ _ _ _ h.ord (by decide),hk.typ _ _ _ h.vis (by decide),hk.dl h.d1 (by decide) (by decide),hk.dl h.d2 (by decide) (by decide),hk.ownQ h.tr (by decide),hk.ownQ h.ids (by decide)⟩
end
theorem id_at{w:World}{base:Nat}{q:Option Addr}{n c:Nat}{l:List Int}(h:OwnI w base (.slice q n c) l){k:Nat}(hk:k<l.length):∃g off,q=some ⟨g,off,none⟩∧g<w.heap.size∧w.cell? ⟨g,off+k,none⟩=some (.int .i64 l[k]!):=by
 have hn:n=l.length:=by obtain⟨q',c',e⟩:=wak.OwnM.form h;cases e;rfl
 subst hn;rcases h.2 with ⟨e,hn⟩|⟨g,off,cap,cur,e,_⟩
 ·rw[hn] at hk;exact absurd hk (Nat.not_lt_zero _)
 ·cases e;obtain⟨hc,-,-,Hj⟩:=wak.OwnM.cells h;refine⟨g,off,rfl,Hj,hc k _ ?_⟩;unfold slf.zHU;simp[hk]
structure SI (b t:Nat) (s:TS) (ids:List Int) (K:TS→Rs) (w:World) (X:Rs) (ms:World→Prop) (k:Nat) (wr:World):Prop where
 mem:∃s1 v1,TM wr b t s1 v1∧Wf s1∧Sm s s1 k∧X=(parts s1 (ids.drop k)).bind K
 tn:Tn tA b w wr
 ms:ms wr
theorem zEQ{s:TS}{o:O}{v:Vs}(h:Wf s):Wf (zAu s o v)∧(zAu s o v).row=s.row:=by
 have h1:Wf (zAA s o v)∧(zAA s o v).row=s.row:=by
  unfold zAA;split
  ·exact⟨zEA h _ _ _ _,rfl⟩
  ·exact⟨h,rfl⟩
 unfold zAu;split
 ·exact⟨zEA h1.1 _ _ _ _,h1.2⟩
 ·exact h1
theorem zCR{S:List TypeId}{b t:Nat}{w w' : World}{x:Rs}{e:Ending}(h:Res S b t w x e w'):(∃s v,x=.ok s∧e=.returned .nilIface∧Hid (TM w' b t s v))∨∃k,e=.returned (.iface 80 (.int .i64 k))∧Hid (x=.error k∧¬k=0):=by
 rcases h.two with ⟨s,v,a,b,c⟩|⟨k,a,b,c⟩
 ·exact .inl ⟨s,v,a,b,c⟩
 ·exact .inr ⟨k,c,a,b⟩
theorem wAM(b t:Nat)(s:TS)(v:TV)(a1 a2 a3 a4 a5 a6 a7 a8:Int)(q1 q2 qt qi:Option Addr)(n1 c1 n2 c2 nt ct ni ci:Nat)(g:Int)(vs:Vs)(w:World)(h:TM w b t s v)(hw:Wf s)(eD:DL w 0 (.slice q1 n1 c1) vs.bs)(pT:DL w 0 (.slice q2 n2 c2) vs.ss)(hO:OwnT w 0 (.slice qt nt ct) vs.ts)(hI:OwnI w 0 (.slice qi ni ci) vs.ids)(hg:g=vs.gone)(hv:VO ⟨a1,a2,a3,a4,a5,a6,a7,a8⟩ vs)(Ht:∀i∈vs.ids,zAf s.bs s.ss i=true)(hl:s.evs.length≤990000)(hr:s.row.length≤900000) :
  Calls prog 69 #[.pointer (some ⟨t,0,none⟩),.agg #[.int .i64 a1,.int .i64 a2,.int .i64 a3,.int .i64 a4,.int .i64 a5,.int .i64 a6,.int .i64 a7,.int .i64 a8],.agg #[.slice q1 n1 c1,.slice q2 n2 c2,.slice qt nt ct,.int .i64 g,.slice qi ni ci]] w (Res tB b t w (settle s ⟨a1,a2,a3,a4,a5,a6,a7,a8⟩ vs)):=by
 obtain⟨W1,gb⟩:∃W,W=w.alloc (.cells #[.int .i64 a1,.int .i64 a2,.int .i64 a3,.int .i64 a4,.int .i64 a5,.int .i64 a6,.int .i64 a7,.int .i64 a8] 40):=⟨_,rfl⟩;have Ha:Below w.heap.size w W1:=by rw[gb];exact(bzR _ _).alloc (nzR _) _
 have Hm:W1.heap.size=w.heap.size+1:=by rw[gb];simp
 have go:W1.heap[w.heap.size]?=some (.cells #[.int .i64 a1,.int .i64 a2,.int .i64 a3,.int .i64 a4,.int .i64 a5,.int .i64 a6,.int .i64 a7,.int .i64 a8] 40 (0,0)):=by rw[gb];exact jA w _
 obtain⟨W,hW⟩:∃W,W=W1.alloc (.cells #[.slice q1 n1 c1,.slice q2 n2 c2,.slice qt nt ct,.int .i64 g,.slice qi ni ci] 144):=⟨_,rfl⟩;have Hc:Below W1.heap.size W1 W:=by rw[hW];exact(bzR _ _).alloc (nzR _) _
 have H5:W.heap[w.heap.size+1]?=some (.cells #[.slice q1 n1 c1,.slice q2 n2 c2,.slice qt nt ct,.int .i64 g,.slice qi ni ci] 144 (0,0)):=by rw[←Hm,hW];exact jA W1 _
 have Hk:=Ha.trans (Hc.mono Ha.size);obtain⟨G,hG⟩:∃G,G=w.heap.size:=⟨_,rfl⟩;have Ba:W.heap[G]?=some (.cells #[.int .i64 a1,.int .i64 a2,.int .i64 a3,.int .i64 a4,.int .i64 a5,.int .i64 a6,.int .i64 a7,.int .i64 a8] 40 (0,0)):=by rw[hG];exact zBH go Hc
 rw[←hG] at H5;have Ug:Kp [] w W:=Kp.below Hk;obtain⟨ms,ch⟩:∃ms:World→Prop,ms=MS a1 a2 a3 a4 a5 a6 a7 a8 G q1 n1 c1 q2 n2 c2 qt nt ct g qi ni ci vs:=⟨_,rfl⟩;have cW:Hid (ms W):=by
  rw[ch];exact⟨Ba,H5,Ug.dl eD (by simp) (by simp),Ug.dl pT (by simp) (by simp),Ug.ownQ hO (by simp),Ug.ownQ hI (by simp)⟩
 have Bs:Hid (∀x y,ms x→Kp tA x y→ms y):=by rw[ch];exact fun x y hx hk=>MS.kp hx hk
 have mO:Hid (∀x,ms x→MS a1 a2 a3 a4 a5 a6 a7 a8 G q1 n1 c1 q2 n2 c2 qt nt ct g qi ni ci vs x):=by rw[ch];exact fun x hx=>hx
 have G6:=hidF (Tn.below (S:=tA) Hk h.base);obtain⟨K,hK⟩:∃K:TS→Rs,K=fun s3=>zCP (zAu { s3 with bs:=vs.bs,ss:=vs.ss } ⟨a1,a2,a3,a4,a5,a6,a7,a8⟩ vs) vs.ts:=⟨_,rfl⟩
 obtain⟨X,hX⟩:∃X,X=settle s ⟨a1,a2,a3,a4,a5,a6,a7,a8⟩ vs:=⟨_,rfl⟩;rw[←hX];unfold settle at hX;rw[←hK,←hg] at hX;have HK:=hidF hK;have HX:=hidF hX;have HV:=hidF hv;have BG:=hidF hw;have HL:=hidF hl;have BD:=hidF hr;have bt:=hidF Ht;have DC:Hid (ni=vs.ids.length∧ni≤60):=by
  have h1:ni=vs.ids.length:=by obtain⟨q',c',e⟩:=wak.OwnM.form hI;cases e;rfl
  have h2:=hv.ids;exact⟨h1,by omega⟩
 have Mi:=hidF (wAX b t s v qt nt ct vs.ts W (h.below Hk) hw (mO.out W cW.out).tr (by have:=hv.len;omega))
 have HGV:=hidF hg;obtain⟨v0,v1,v2,v3,v4,-⟩:=sid.zAi H5;clear h hw eD pT hO hI hv Ht hl hr Ba go H5 Ha Hc Hm Hk Ug ch hX hK hg;go_enter func69,ntmps69;go_upto_region 1 with fail
 rw[←gb,←hW];simp only[←hG];clear hW gb hG;go_wp2_with fail;refine Mi.out.mono ?_;intro e w1 hR;have GT:=hidF (G6.out.trans hR.1);have pC:=hidF (Bs.out _ _ cW.out hR.1.kp);rcases zCR hR with ⟨s1,u1,gM,rfl,uJ⟩|⟨k,rfl,HE⟩
 rotate_left
 ·have gK:Hid (Res tB b t w X (.returned (.iface 80 (.int .i64 k))) w1):=zAD (by rw[HX.out,HE.out.1];rfl) HE.out.2 (GT.out.mono tA_tB)
  clear hR v0 v1 v2 v3 v4 Mi HE;go_wp2_with fail;go_ret;exact gK.out
 have ux:Hid (X=if zBu ⟨a1,a2,a3,a4,a5,a6,a7,a8⟩ vs.ts g=0 then (zBY s1 a2 (zCu ⟨a1,a2,a3,a4,a5,a6,a7,a8⟩ vs.ts g) (zCv ⟨a1,a2,a3,a4,a5,a6,a7,a8⟩ vs.ts g)).bind fun s2=>(parts s2 vs.ids).bind K else .error (zBu ⟨a1,a2,a3,a4,a5,a6,a7,a8⟩ vs.ts g)):=by show _=_;rw[HX.out,gM];rfl
 have PZ:=hidF (zEz vs.ts BG.out gM);have UF:=hidF (mrg.zPz ⟨a1,a2,a3,a4,a5,a6,a7,a8⟩ (.slice qt nt ct) vs.ts g w1 (mrg.own_tl (mO.out w1 pC.out).tr));rw[show oV ⟨a1,a2,a3,a4,a5,a6,a7,a8⟩=.agg #[.int .i64 a1,.int .i64 a2,.int .i64 a3,.int .i64 a4,.int .i64 a5,.int .i64 a6,.int .i64 a7,.int .i64 a8] from rfl] at UF
 clear hR v0 v1 v2 v3 v4 Mi gM HX cW G6;obtain⟨v0,v1,v2,v3,v4,-⟩:=sid.zAi (mO.out w1 pC.out).vis;obtain⟨o0,o1,o2,o3,o4,o5,o6,o7,-⟩:=wak.row8 (mO.out w1 pC.out).ord;obtain⟨C,hC⟩:∃C,C=zCu ⟨a1,a2,a3,a4,a5,a6,a7,a8⟩ vs.ts g:=⟨_,rfl⟩;obtain⟨D,hD⟩:∃D,D=zCv ⟨a1,a2,a3,a4,a5,a6,a7,a8⟩ vs.ts g:=⟨_,rfl⟩;rw[←hC,←hD] at UF ux;clear hC hD;by_cases hE:zBu ⟨a1,a2,a3,a4,a5,a6,a7,a8⟩ vs.ts g=0
 rotate_left
 ·rw[wAb hE] at UF;have GE:Hid (X=.error (zBu ⟨a1,a2,a3,a4,a5,a6,a7,a8⟩ vs.ts g)):=by show _=_;rw[ux.out,if_neg hE]
  generalize zBu ⟨a1,a2,a3,a4,a5,a6,a7,a8⟩ vs.ts g=KE at *;go_wp2_with fail;refine UF.out.mono ?_;rintro e w2⟨rfl,b2⟩;have gK:Hid (Res tB b t w X (.returned (.iface 80 (.int .i64 KE))) w2):=zAD GE.out hE ((GT.out.trans (Tn.below b2 uJ.out.base)).mono tA_tB);clear b2 v0 v1 v2 v3 v4 o0 o1 o2 o3 o4 o5 o6 o7 UF;go_wp2_with fail;go_ret;exact gK.out
 rw[hE,wAa] at UF;have Mj:Hid (X=(zBY s1 a2 C D).bind fun s2=>(parts s2 vs.ids).bind K):=by show _=_;rw[ux.out,if_pos hE]
 clear hE ux;go_wp2_with fail;refine UF.out.mono ?_;rintro e w2⟨rfl,b2⟩;have Gx:=hidF (uJ.out.below b2);have GW:=hidF (GT.out.trans (Tn.below b2 uJ.out.base));have cX:=hidF (Bs.out _ _ pC.out (Kp.below b2));have uC:Hid (∀U,Below w2.heap.size w2 U→Calls prog 114 #[.pointer (some ⟨u1.pp,0,none⟩),.int .i64 a2,.int .i64 C,.int .i64 D] U fun e w'=>∃E,e=.returned E∧Hid ((∃s2,E=.nilIface∧Hid (SI b t s2 vs.ids K w X ms 0 w'∧Wf s2∧Sm s s2 vs.ts.length))∨∃k,E=.iface 80 (.int .i64 k)∧Hid (Res tB b t w X (.returned (.iface 80 (.int .i64 k))) w'))):=fun U hU=>by
  have Um:=Gx.out.below hU;have hTU:=GW.out.trans (Tn.below (S:=tA) hU Gx.out.base);refine(pur.wAU u1.pp s1.ps a2 C D U Um.purs PZ.out.1.ok).mono ?_;rintro e w'⟨rfl,k4,k5⟩;have hR:=zEy Um hTU k4 k5;have hms' : ms w':=Bs.out _ _ (Bs.out _ _ cX.out (Kp.below hU)) (Um.pay k4 k5).2.kp;refine⟨_,rfl,?_⟩;show _∨_
  rcases hR.two with ⟨s2,v2,UX,he,hM⟩|⟨k,UX,hk,he⟩
  ·obtain⟨f1,f2⟩:=zId PZ.out.1 UX;refine .inl ⟨s2,by injection he,?_⟩
   show _∧_∧_
   refine⟨⟨⟨s2,v2,hM,f1,Sm.refl _,?_⟩,hR.1,hms'⟩,f1,PZ.out.2.trans f2⟩;rw[Mj.out,UX];rfl
  ·refine .inr ⟨k,by injection he,?_⟩
   show Res _ _ _ _ _ _ _
   exact zAD (by rw[Mj.out,UX];rfl) hk (hR.1.mono tA_tB)
 clear b2 v0 v1 v2 v3 v4 o0 o1 o2 o3 o4 o5 o6 o7 UF uJ pC GT;obtain⟨-,-,-,-,y4,-⟩:=Gx.out.cells;obtain⟨o0,o1,o2,o3,o4,o5,o6,o7,-⟩:=wak.row8 (mO.out w2 cX.out).ord;have Gf:=hidF (bzR w2.heap.size w2);obtain⟨r1,r2,r3,r4,r5,r6,r7,r8,upp,qe,ne,ce,qk,nk,ck⟩:=u1;simp only[] at y4;go_upto_region 7 with fail
 go_region_with (go_at_call 114;with_reducible refine(uC.out _ ?_).mono ?_;(with_reducible repeat' (first|exact Gf.out|assumption|refine Below.drew ?_));rintro x w3 ⟨E,rfl,uQ⟩)
 all_goals
  clear y4 o0 o1 o2 o3 o4 o5 o6 o7 uC Gf;rcases uQ.out with ⟨s2,rfl,HSI⟩|⟨k,rfl,gK⟩
  rotate_left
  ·clear uQ;go_wp2_with fail;go_ret;exact gK.out
  clear uQ Gx cX GW Mj PZ BG;obtain⟨v0,v1,v2,v3,v4,-⟩:=sid.zAi (mO.out w3 HSI.out.1.ms).vis;go_wp2_with fail;clear v0 v1 v2 v3 v4;go_loopg [13,14,15,16,17,18,55] ni (fun gg _ _ _ _ _ _ s55 wr=>∃ (kk:Nat),kk≤ni∧ni - kk≤gg∧s55=.int .i64 kk∧Aside (SI b t s2 vs.ids K w X ms kk wr))
  case atStart=>exact⟨0,jL _,by omega,rfl,HSI.out.1⟩
  case round=>
   obtain⟨kk,gh,Hs,rfl,HA⟩:=hrel;have dm:=hidF HSI.out.2;clear HSI;by_cases Hj:kk<ni
   rotate_left
   ·have Hq:¬(kk:Int)<(ni:Int):=(by omega);have B8:kk=ni:=(by omega);obtain⟨⟨s3,u3,mc,PJ,kc,Ud⟩,Ed,Pr⟩:=HA.out;have CH:X=K s3:=(by rw[Ud,List.drop_eq_nil_of_le (by have:=DC.out.1;omega)];rfl);rw[HK.out] at CH;have GE:=hidF CH;have Uy:=dm.out.2.trans kc;have UP:Hid (s3.evs.length≤999000):=(by show _≤_;rw[Uy.evs];have:=HL.out;have:=HV.out.len;have:=DC.out.2;omega);have HRO:Hid (s3.row.length≤900000):=(by show _≤_;rw[Uy.row];exact BD.out);have HWX:Hid (Wf { s3 with bs:=vs.bs,ss:=vs.ss }):=⟨PJ.m0,PJ.m3,HV.out.book,PJ.ok,PJ.ws⟩
    obtain⟨v0,v1,v2,v3,v4,-⟩:=sid.zAi (mO.out wr Pr).vis;obtain⟨-,y1,y2,-,-,-,-,-,yf⟩:=mc.cells;have yf1:=yf 1;have yf2:=yf 2;obtain⟨eQ,CF⟩:=mc.book (mO.out wr Pr).d1 (mO.out wr Pr).d2;have PU:=hidF eQ;have Ux:=hidF (Ed.trans CF);have bu:=hidF (Bs.out _ _ Pr CF.kp);obtain⟨r1,r2,r3,r4,r5,r6,r7,r8,upp,qe,ne,ce,qk,nk,ck⟩:=u3;simp only[] at y1 y2;clear mc PJ kc Ud Ed Pr CH Uy yf eQ CF HA B8 gh Hs dm bt;go_upto_region 21 with fail
    generalize (wr.setCell ⟨t,1,none⟩ (.slice q1 n1 c1)).setCell ⟨t,2,none⟩ (.slice q2 n2 c2)=W5 at *;clear v0 v1 v2 v3 v4 y1 y2 yf1 yf2;obtain⟨v0,v1,v2,v3,v4,-⟩:=sid.zAi (mO.out W5 bu.out).vis;obtain⟨o0,o1,o2,o3,o4,o5,o6,o7,-⟩:=wak.row8 (mO.out W5 bu.out).ord;have ua:=hidF (zHF b t _ _ a1 a2 a3 a4 a5 a6 a7 a8 q1 q2 qt qi n1 c1 n2 c2 nt ct ni ci g vs W5 PU.out (mO.out W5 bu.out).tr HGV.out HV.out UP.out);go_wp2_with fail;refine ua.out.mono ?_;rintro e w6⟨rfl,⟨u6,hM6⟩,hT6⟩;have Mh:=hidF (Ux.out.trans hT6);have Dz:=hidF (Bs.out _ _ bu.out hT6.kp);have pQ:=hidF (wBd b t _ u6 qt nt ct vs.ts w6 hM6 (zEQ HWX.out).1 (mO.out w6 Dz.out).tr (by have:=HV.out.len;omega) (fun x hx=>by have:=HV.out.each x hx;unfold ord.prB;simp;omega) (by rw[(zEQ HWX.out).2];exact HRO.out))
    clear v0 v1 v2 v3 v4 o0 o1 o2 o3 o4 o5 o6 o7 hM6 hT6 ua PU;obtain⟨v0,v1,v2,v3,v4,-⟩:=sid.zAi (mO.out w6 Dz.out).vis;go_wp2_with fail;refine pQ.out.mono ?_;intro e w7 hR7;have gK:Hid (Res tB b t w X e w7):=zCK (hR7.step (Mh.out.mono tA_tB) (fun _ h=>h)) GE.out.symm
    clear v0 v1 v2 v3 v4 pQ;rcases zCR hR7 with ⟨s8,u8,-,rfl,-⟩|⟨k,rfl,-⟩
    all_goals
     clear hR7;go_wp2_with fail;go_ret;exact gK.out
   ·have Hq:(kk:Int)<(ni:Int):=(by omega);have Hv:kk<vs.ids.length:=(by rw[←DC.out.1];exact Hj);obtain⟨⟨s1,u1,hM,GS,cw,Ud⟩,Uz,ch⟩:=HA.out;obtain⟨gz,oz,rfl,hGz,e0⟩:=id_at (mO.out wr ch).ids Hv;rw[zJt vs.ids kk Hv] at Ud;have B0:zAf s1.bs s1.ss vs.ids[kk]! = true:=by
     rw[cw.bs,cw.ss,dm.out.2.bs,dm.out.2.ss];refine bt.out _ ?_;rw[mrg.getE vs.ids kk Hv];exact jT _
    have Ue:s1.evs.length≤1000000:=(by rw[cw.evs,dm.out.2.evs];have:=HL.out;have:=HV.out.len;have:=DC.out.2;omega);generalize vs.ids[kk]! = id at *;have hA:=wAq GS.book B0;have GJ:X=((part s1 (spot s1.bs s1.ss id).r (spot s1.bs s1.ss id).s (spot s1.bs s1.ss id).p).bind fun s1=>parts s1 (vs.ids.drop (kk+1))).bind K:=by
     rw[Ud];show ((zDG s1 id).bind _).bind K=_
     unfold zDG;rw[if_pos B0]
    generalize spot s1.bs s1.ss id=x at hA GJ;obtain⟨xs,xp,⟨r1,r2,r3,r4,r5⟩,xi,xk⟩:=x;simp only[] at GJ;have HF:=hidF (swp.zBD u1.q1 u1.q2 u1.n1 u1.n2 u1.c1 u1.c2 s1.bs s1.ss id xs xp r1 r2 r3 r4 r5 xi xk wr hM.buys.ls hM.sells.ls hA);obtain⟨-,y1,y2,-⟩:=hM.cells;have Uw:Hid (∀U,Below wr.heap.size wr U→Calls prog 115 #[.pointer (some ⟨t,0,none⟩),.agg #[.int .i64 r1,.int .i64 r2,.int .i64 r3,.int .i64 r4,.int .i64 r5],.int .i64 xs,.int .i64 xp] U fun e w'=>∃E,e=.returned E∧Hid ((E=.nilIface∧Hid (SI b t s2 vs.ids K w X ms (kk+1) w'))∨∃k,E=.iface 80 (.int .i64 k)∧Hid (Res tB b t w X (.returned (.iface 80 (.int .i64 k))) w'))):=fun U hU=>by
     refine(zJd b t s1 u1 r1 r2 r3 r4 r5 xs xp U (hM.below hU) GS hA.rest Ue).mono ?_;intro e w' hR;have hT':=(Uz.trans (Tn.below (S:=tA) hU hM.base)).trans hR.1;rcases hR.two with ⟨s4,u4,hx4,rfl,hM4⟩|⟨k,hx4,hk,rfl⟩
     ·refine⟨_,rfl,?_⟩;show _∨_
      obtain⟨f1,f2⟩:=zGd GS hx4;refine .inl ⟨rfl,?_⟩;show SI _ _ _ _ _ _ _ _ _ _
      refine⟨⟨s4,u4,hM4,f1,cw.trans f2,?_⟩,hT',Bs.out _ _ (Bs.out _ _ ch (Kp.below hU)) hR.1.kp⟩;rw[GJ,hx4];rfl
     ·refine⟨_,rfl,?_⟩;show _∨_
      refine .inr ⟨k,rfl,?_⟩;show Res _ _ _ _ _ _ _
      exact zAD (by rw[GJ,hx4];rfl) hk (hT'.mono tA_tB)
    have PP:=hidF (zPW kk (by have:=DC.out.2;omega))
    have HM:Hid (kk<ni∧ni - kk≤gk):=⟨Hj,Hs⟩;obtain⟨uq1,un1,uc1,uq2,un2,uc2,r9,r10,upp,qe,ne,ce,qk,nk,ck⟩:=u1;simp only[] at y1 y2 HF;clear hM GS cw Ud Uz ch B0 Ue hA GJ HA Hj Hs gh Hv dm;go_wp2_with fail;refine HF.out.mono ?_;rintro e w4⟨rfl,b4⟩;obtain⟨W5,mD⟩:∃W5,W5=w4.alloc (.cells #[.int .i64 r1,.int .i64 r2,.int .i64 r3,.int .i64 r4,.int .i64 r5] 54):=⟨_,rfl⟩;have ut:Hid (Below wr.heap.size wr W5):=(by rw[mD];exact b4.alloc b4.size _);have bD:W5.heap[w4.heap.size]?=some (.cells #[.int .i64 r1,.int .i64 r2,.int .i64 r3,.int .i64 r4,.int .i64 r5] 54 (0,0)):=(by rw[mD];exact jA w4 _);clear b4 HF e0 y1 y2 hGz;go_upto_if 72 with fail
    rw[←mD];clear mD;generalize w4.heap.size=FF at *;obtain⟨z0,z1,z2,z3,z4,-⟩:=sid.zAi bD;clear bD;go_wp2_with fail;refine(Uw.out _ ut.out).mono ?_;rintro e w6⟨E,rfl,uQ⟩;clear z0 z1 z2 z3 z4 Uw ut;rcases uQ.out with ⟨rfl,HSN⟩|⟨k,rfl,gK⟩
    rotate_left
    ·clear uQ;go_wp2_with fail;go_ret;exact gK.out
    clear uQ;have ei:=PP.out;go_wp2_with fail;go_roundg (ni - (kk+1))
    case measure=>have:=HM.out;omega
    case rel=>exact⟨kk+1,HM.out.1,nzR _,by go_num,HSN.out⟩
end flr
namespace flr
open Go.RowKit
open que (R rchk)
open sid (L DL LS)
open mee (T tV OwnT sumT)
open ord (O oV chk errV wAa wAb prB)
open que (bal)
open bok (zAc zAf)
open slf (OwnI zHU)
open wak (OwnM OwnQ St SL Lies oL idx Trn)
theorem Res.hidE{S:List TypeId}{b t:Nat}{w w' : World}{x:Rs}{e:Ending}(h:Res S b t w x e w'):∃E,e=.returned E∧Hid (Res S b t w x (.returned E) w'):=by
 rcases h.two with ⟨_,_,_,rfl,_⟩|⟨_,_,_,rfl⟩
 ·exact⟨_,rfl,h⟩
 ·exact⟨_,rfl,h⟩
theorem zHG{b t:Nat}{s:TS}{v:TV}{a1 a2 a3 a4 a5 a6 a7 a8:Int}{q1 q2 qt qi:Option Addr}{n1 c1 n2 c2 nt ct ni ci:Nat}{g:Int}{E:Value}{w0 w:World}{X:Rs}(h:TM w b t s v)(hw:Wf s)(hV:VI s.mode s.bs s.ss ⟨a1,a2,a3,a4,a5,a6,a7,a8⟩ w q1 n1 c1 q2 n2 c2 qt nt ct g qi ni ci E)(h0:vE s.mode s.bs s.ss ⟨a1,a2,a3,a4,a5,a6,a7,a8⟩=0)(hT:Tn tB b w0 w)(hl:s.evs.length≤990000)(hr:s.row.length≤900000)(hX:X=settle s ⟨a1,a2,a3,a4,a5,a6,a7,a8⟩ (vR s.mode s.bs s.ss ⟨a1,a2,a3,a4,a5,a6,a7,a8⟩)) :
  Calls prog 69 #[.pointer (some ⟨t,0,none⟩),.agg #[.int .i64 a1,.int .i64 a2,.int .i64 a3,.int .i64 a4,.int .i64 a5,.int .i64 a6,.int .i64 a7,.int .i64 a8],.agg #[.slice q1 n1 c1,.slice q2 n2 c2,.slice qt nt ct,.int .i64 g,.slice qi ni ci]] w fun e w'=>∃E,e=.returned E∧Hid (Res tB b t w0 X (.returned E) w'):=by
 obtain⟨-,k2,k3,k4,k5,k6⟩:=hV.ok h0;refine(wAM b t s v a1 a2 a3 a4 a5 a6 a7 a8 q1 q2 qt qi n1 c1 n2 c2 nt ct ni ci g _ w h hw k3 k4 k5 k6 k2 (zJc hw.m0 hw.m3 h0) (zRI hw.m0 hw.m3 h0) hl hr).mono ?_;intro e w' hR;exact(zCK (hR.step hT (fun _ h=>h)) hX.symm).hidE
theorem zPY(b t:Nat)(s:TS)(v:TV)(a1 a2 a3 a4 a5 a6 a7 a8:Int)(w:World)(h:TM w b t s v)(hw:Wf s)(hl:s.evs.length≤990000)(hr:s.row.length≤900000) :
  Calls prog 49 #[.pointer (some ⟨t,0,none⟩),.agg #[.int .i64 a1,.int .i64 a2,.int .i64 a3,.int .i64 a4,.int .i64 a5,.int .i64 a6,.int .i64 a7,.int .i64 a8]] w (Res tB b t w (rise s ⟨a1,a2,a3,a4,a5,a6,a7,a8⟩)):=by
 obtain⟨W,hW⟩:∃W,W=w.alloc (.cells #[.int .i64 a1,.int .i64 a2,.int .i64 a3,.int .i64 a4,.int .i64 a5,.int .i64 a6,.int .i64 a7,.int .i64 a8] 40):=⟨_,rfl⟩;have Hk:Below w.heap.size w W:=by rw[hW];exact(bzR _ _).alloc (nzR _) _
 have Hd:W.heap[w.heap.size]?=some (.cells #[.int .i64 a1,.int .i64 a2,.int .i64 a3,.int .i64 a4,.int .i64 a5,.int .i64 a6,.int .i64 a7,.int .i64 a8] 40 (0,0)):=by rw[hW];exact jA w _
 obtain⟨G,hG⟩:∃G,G=w.heap.size:=⟨_,rfl⟩;rw[←hG] at Hd;obtain⟨X,hX⟩:∃X,X=rise s ⟨a1,a2,a3,a4,a5,a6,a7,a8⟩:=⟨_,rfl⟩;rw[←hX];unfold rise at hX;have HX:=hidF hX;have D7:=hidF (zHD b t s v a1 a2 a3 a4 a5 a6 a7 a8 W (h.below Hk) hw);have Hn:Hid (∀U,Below W.heap.size W U→TM U b t s v∧Tn tB b w U∧U.heap[G]?=some (.cells #[.int .i64 a1,.int .i64 a2,.int .i64 a3,.int .i64 a4,.int .i64 a5,.int .i64 a6,.int .i64 a7,.int .i64 a8] 40 (0,0))):=fun U hU=>by
  have GV:=Hk.trans (hU.mono Hk.size);exact⟨h.below GV,Tn.below GV h.base,zBH Hd hU⟩
 have HW:=hidF hw;have HL:=hidF hl;have HR:=hidF hr;obtain⟨c0,c1,c2,c3,c4,c5,c6,c7,-⟩:=wak.row8 Hd;clear h hw hl hr hX Hk Hd;go_enter func49,ntmps49;go_wp2_with fail;rw[←hW];simp only[←hG];clear hW hG;refine D7.out.mono ?_;rintro e w1⟨q1,n1,c1',q2,n2,c2',qt,nt,ct,g,qi,ni,ci,E,rfl,hV,b1⟩;obtain⟨W2,H9⟩:∃W2,W2=w1.alloc (.cells #[.slice q1 n1 c1',.slice q2 n2 c2',.slice qt nt ct,.int .i64 g,.slice qi ni ci] 144):=⟨_,rfl⟩;have Hc:Below w1.heap.size w1 W2:=by rw[H9];exact(bzR _ _).alloc (nzR _) _
 have H5:W2.heap[w1.heap.size]?=some (.cells #[.slice q1 n1 c1',.slice q2 n2 c2',.slice qt nt ct,.int .i64 g,.slice qi ni ci] 144 (0,0)):=by rw[H9];exact jA w1 _
 obtain⟨k1,k2,k3⟩:=Hn.out W2 (b1.trans (Hc.mono b1.size));have gl:=hV.kp (S:=[]) (Kp.below Hc) (by simp) (by simp) (by simp) (by simp)
 have Bq:=hidF k1;have Uv:=hidF k2;have HK3:=hidF k3;have Uk:=hidF H5;have GO:=hidF gl;clear c0 c1 c2 c3 c4 c5 c6 c7 hV b1 Hc H5 k1 k2 k3 gl Hn D7;by_cases hE:vE s.mode s.bs s.ss ⟨a1,a2,a3,a4,a5,a6,a7,a8⟩=0
 ·have uY:=hidF (zHG (X:=X) Bq.out HW.out GO.out hE Uv.out HL.out HR.out (by rw[HX.out,if_pos hE]))
  obtain⟨rfl,-⟩:=GO.out.ok hE;go_upto_if 14 with fail
  rw[←H9];clear H9;generalize w1.heap.size=VB at *;obtain⟨c0,c1,c2,c3,c4,c5,c6,c7,-⟩:=wak.row8 HK3.out;obtain⟨v0,v1,v2,v3,v4,-⟩:=sid.zAi Uk.out;clear hE;go_wp2_with fail;refine uY.out.mono ?_;rintro e w3⟨E,rfl,gK⟩;clear c0 c1 c2 c3 c4 c5 c6 c7 v0 v1 v2 v3 v4;go_wp2_with fail;go_ret;exact gK.out
 ·have hb:=GO.out.bad hE;have GE:Hid (X=vanish s ⟨a1,a2,a3,a4,a5,a6,a7,a8⟩):=by show _=_;rw[HX.out,if_neg hE]
  have D8:Hid (Calls prog 72 #[.pointer (some ⟨t,0,none⟩),.agg #[.int .i64 a1,.int .i64 a2,.int .i64 a3,.int .i64 a4,.int .i64 a5,.int .i64 a6,.int .i64 a7,.int .i64 a8]] W2 fun e w'=>∃E,e=.returned E∧Hid (Res tB b t w X (.returned E) w')):=by
   refine(zFp b t s v a1 a2 a3 a4 a5 a6 a7 a8 W2 Bq.out HW.out (by have:=HL.out;omega)).mono ?_
   intro e w' hR;exact(zCK (hR.step Uv.out tA_tB) GE.out.symm).hidE
  generalize vE s.mode s.bs s.ss ⟨a1,a2,a3,a4,a5,a6,a7,a8⟩=KE at *;subst hb;go_upto_if 14 with fail
  rw[←H9];clear H9;generalize w1.heap.size=VB at *;obtain⟨c0,c1,c2,c3,c4,c5,c6,c7,-⟩:=wak.row8 HK3.out;clear hE;go_wp2_with fail;refine D8.out.mono ?_;rintro e w3⟨E,rfl,gK⟩;clear c0 c1 c2 c3 c4 c5 c6 c7;go_wp2_with fail;go_ret;exact gK.out
end flr
namespace flr
open Go.RowKit
open que (R rchk)
open sid (L DL LS)
open mee (T tV OwnT sumT)
open ord (O oV chk errV wAa wAb prB)
open que (bal)
open bok (zAc zAf)
open slf (OwnI zHU)
open mrg (forC forS zFY)
open wak (OwnM OwnQ St SL Lies oL idx Trn)
theorem chk_id{o:O}(h:chk o=0):(Lit.int .i64 o.id).wf=true:=by
 have:=(ord.zBB h).1;unfold ord.zCI at this;simp only[Bool.and_eq_true,decide_eq_true_eq] at this;have h1:(-9223372036854775808:Int)≤o.id:=by omega
 have h2:o.id≤9223372036854775807:=by omega
 show (decide (_≤o.id) && decide (o.id≤_))=true
 rw[Bool.and_eq_true,decide_eq_true_eq,decide_eq_true_eq];exact⟨h1,h2⟩
theorem zNy{w0 w w' : World}{b t:Nat}{s:TS}{v:TV}{who c d:Int}(h:TM w b t s v)(h0:Tn tA b w0 w)(hp:pur.Pu 112 9 w' v.pp (pur.zCO s.ps who c d))(hg:w.grownBy w' (some v.pp)):Res tA b t w0 (zDz s who c d) (.returned (errV (pur.zCs s.ps who c d))) w':=by
 unfold zDz;by_cases e:pur.zCs s.ps who c d=0
 ·rw[if_pos e,e];obtain⟨a1,a2⟩:=h.pay hp hg;exact⟨h0.trans a2,rfl,v,a1⟩
 ·rw[if_neg e,wAb e];exact⟨h0.trans (h.pay hp hg).2,e,rfl⟩
theorem zHH(b t:Nat)(s:TS)(v:TV)(a1 a2 a3 a4 a5 a6 a7 a8:Int)(w:World)(h:TM w b t s v)(hw:Wf s)(hl:s.evs.length≤980000)(hr:s.row.length≤900000) :
  Calls prog 43 #[.pointer (some ⟨t,0,none⟩),.agg #[.int .i64 a1,.int .i64 a2,.int .i64 a3,.int .i64 a4,.int .i64 a5,.int .i64 a6,.int .i64 a7,.int .i64 a8]] w (Res tB b t w (place s ⟨a1,a2,a3,a4,a5,a6,a7,a8⟩)):=by
 obtain⟨W,hW⟩:∃W,W=w.alloc (.cells #[.int .i64 a1,.int .i64 a2,.int .i64 a3,.int .i64 a4,.int .i64 a5,.int .i64 a6,.int .i64 a7,.int .i64 a8] 40):=⟨_,rfl⟩;have Hk:Below w.heap.size w W:=by rw[hW];exact(bzR _ _).alloc (nzR _) _
 have Hd:W.heap[w.heap.size]?=some (.cells #[.int .i64 a1,.int .i64 a2,.int .i64 a3,.int .i64 a4,.int .i64 a5,.int .i64 a6,.int .i64 a7,.int .i64 a8] 40 (0,0)):=by rw[hW];exact jA w _
 obtain⟨G,hG⟩:∃G,G=w.heap.size:=⟨_,rfl⟩;rw[←hG] at Hd;obtain⟨X,hX⟩:∃X,X=place s ⟨a1,a2,a3,a4,a5,a6,a7,a8⟩:=⟨_,rfl⟩;rw[←hX];unfold place at hX;simp only[] at hX;have HX:=hidF hX;have Uu:=hidF (zFY ⟨a1,a2,a3,a4,a5,a6,a7,a8⟩ W);rw[show oV ⟨a1,a2,a3,a4,a5,a6,a7,a8⟩=.agg #[.int .i64 a1,.int .i64 a2,.int .i64 a3,.int .i64 a4,.int .i64 a5,.int .i64 a6,.int .i64 a7,.int .i64 a8] from rfl] at Uu
 have Hn:Hid (∀U,Below W.heap.size W U→TM U b t s v∧Tn tA b w U∧U.heap[G]?=some (.cells #[.int .i64 a1,.int .i64 a2,.int .i64 a3,.int .i64 a4,.int .i64 a5,.int .i64 a6,.int .i64 a7,.int .i64 a8] 40 (0,0))):=fun U hU=>by
  have GV:=Hk.trans (hU.mono Hk.size);exact⟨h.below GV,Tn.below GV h.base,zBH Hd hU⟩
 have HW:=hidF hw;have HL:=hidF hl;have HR:=hidF hr;obtain⟨c0,c1,c2,c3,c4,c5,c6,c7,-⟩:=wak.row8 Hd;obtain⟨C,hC⟩:∃C,C=forC ⟨a1,a2,a3,a4,a5,a6,a7,a8⟩:=⟨_,rfl⟩;obtain⟨D,hD⟩:∃D,D=forS ⟨a1,a2,a3,a4,a5,a6,a7,a8⟩:=⟨_,rfl⟩;rw[←hC,←hD] at Uu HX;clear hC hD h hw hl hr hX Hk Hd;by_cases hE:chk ⟨a1,a2,a3,a4,a5,a6,a7,a8⟩=0
 rotate_left
 ·rw[wAb hE] at Uu;have GE:Hid (X=.error (chk ⟨a1,a2,a3,a4,a5,a6,a7,a8⟩)):=by show _=_;rw[HX.out,if_neg hE]
  generalize chk ⟨a1,a2,a3,a4,a5,a6,a7,a8⟩=K at *;clear c0 c1 c2 c3 c4 c5 c6 c7;go_enter func43,ntmps43;go_wp2_with fail;rw[←hW];clear hW hG;refine Uu.out.mono ?_;rintro e w1⟨rfl,b1⟩;have He:=hidF (Hn.out w1 b1).2.1;clear b1 Uu;go_wp2_with fail;go_ret;exact zAD GE.out hE (He.out.mono tA_tB)
 rw[hE,wAa] at Uu;have ux:Hid (X=if has s a1=true then .error 7 else (zDz s a2 C D).bind fun s1=>if a8=0 then come s1 ⟨a1,a2,a3,a4,a5,a6,a7,a8⟩ else sleep s1 ⟨a1,a2,a3,a4,a5,a6,a7,a8⟩):=by show _=_;rw[HX.out,if_pos hE]
 have Dp:=hidF (chk_id hE);simp only[] at Dp;clear hE HX;go_enter func43,ntmps43;go_wp2_with fail;rw[←hW];simp only[←hG];clear hW hG;refine Uu.out.mono ?_;rintro e w1⟨rfl,b1⟩;have He:=hidF b1;obtain⟨k1,k2,k3⟩:=Hn.out w1 b1;have HHA:=hidF (zRG b t s v a1 w1 k1 HW.out Dp.out);clear c0 c1 c2 c3 c4 c5 c6 c7 b1 Uu k1 k2;obtain⟨c0,c1,c2,c3,c4,c5,c6,c7,-⟩:=wak.row8 k3;clear k3;generalize hhs:has s a1=HS at *;go_wp2_with fail;refine HHA.out.mono ?_;rintro e w2⟨rfl,b2⟩;have Hg:=hidF (He.out.trans (b2.mono He.out.size));clear b2 c0 c1 c2 c3 c4 c5 c6 c7 HHA He;cases HS with
 | true=>
  have HT:=hidF (Hn.out w2 Hg.out).2.1;have GE:Hid (X=.error 7):=by show _=_;rw[ux.out];rfl
  go_wp2_with fail;go_ret;exact zAD GE.out (by decide) (HT.out.mono tA_tB)
 | false=>
 have Mj:Hid (X=(zDz s a2 C D).bind fun s1=>if a8=0 then come s1 ⟨a1,a2,a3,a4,a5,a6,a7,a8⟩ else sleep s1 ⟨a1,a2,a3,a4,a5,a6,a7,a8⟩):=by show _=_;rw[ux.out];rfl
 have HHO:Hid (∀U,Below w2.heap.size w2 U→Calls prog 66 #[.pointer (some ⟨v.pp,0,none⟩),.int .i64 a2,.int .i64 C,.int .i64 D] U fun e w'=>∃E,e=.returned E∧Hid ((∃s1 v1,E=.nilIface∧Hid (TM w' b t s1 v1∧Wf s1∧Sm s s1 0∧Tn tB b w w'∧X=if a8=0 then come s1 ⟨a1,a2,a3,a4,a5,a6,a7,a8⟩ else sleep s1 ⟨a1,a2,a3,a4,a5,a6,a7,a8⟩)∧w'.heap[G]?=some (.cells #[.int .i64 a1,.int .i64 a2,.int .i64 a3,.int .i64 a4,.int .i64 a5,.int .i64 a6,.int .i64 a7,.int .i64 a8] 40 (0,0)))∨∃k,E=.iface 80 (.int .i64 k)∧Hid (Res tB b t w X (.returned (.iface 80 (.int .i64 k))) w'))):=fun U hU=>by
  obtain⟨k1,k2,k3⟩:=Hn.out U (Hg.out.trans (hU.mono Hg.out.size));refine(pur.zPs v.pp s.ps a2 C D U k1.purs HW.out.ok).mono ?_;rintro e w'⟨rfl,k4,k5⟩;have hR:=zNy k1 k2 k4 k5;have h6:=(Kp.grown (S:=tA) k5 k1.purs.2 (by decide)).typ _ _ _ k3 (by decide)
  refine⟨_,rfl,?_⟩;show _∨_
  rcases hR.two with ⟨s1,v1,gM,he,hM⟩|⟨k,gM,hk,he⟩
  ·obtain⟨f1,f2⟩:=zMR HW.out gM;refine .inl ⟨s1,v1,by injection he,?_,h6⟩
   show _∧_∧_∧_∧_
   exact⟨hM,f1,f2,hR.1.mono tA_tB,by rw[Mj.out,gM];rfl⟩
  ·refine .inr ⟨k,by injection he,?_⟩
   show Res _ _ _ _ _ _ _
   exact zAD (by rw[Mj.out,gM];rfl) hk (hR.1.mono tA_tB)
 have Gf:=hidF (bzR w2.heap.size w2);obtain⟨k1,-,k3⟩:=Hn.out w2 Hg.out;obtain⟨-,-,-,-,y4,-⟩:=k1.cells;obtain⟨c0,c1,c2,c3,c4,c5,c6,c7,-⟩:=wak.row8 k3;obtain⟨r1,r2,r3,r4,r5,r6,r7,r8,upp,qe,ne,ce,qk,nk,ck⟩:=v;simp only[] at y4;clear k1 k3 ux Mj Hn hhs;go_upto_region 6 with fail
 go_region_with (go_at_call 66;with_reducible refine(HHO.out _ ?_).mono ?_;(with_reducible repeat' (first|exact Gf.out|assumption|refine Below.drew ?_));rintro x w3 ⟨E,rfl,uQ⟩)
 all_goals
  clear y4 c0 c1 c2 c3 c4 c5 c6 c7 HHO Gf Hg;rcases uQ.out with ⟨s1,v1,rfl,mN,h6⟩|⟨k,rfl,gK⟩
  rotate_left
  ·clear uQ;go_wp2_with fail;go_ret;exact gK.out
  clear uQ;have DR:=hidF h6;have Bt:Hid (s1.evs.length≤980000∧s1.row.length≤900000):=by
   refine⟨?_,?_⟩
   ·rw[mN.out.2.2.1.evs];exact HL.out
   ·rw[mN.out.2.2.1.row];exact HR.out
  obtain⟨c0,c1,c2,c3,c4,c5,c6,c7,-⟩:=wak.row8 h6;clear h6;by_cases h8:a8=0
  rotate_left
  ·have mx:Hid (Calls prog 67 #[.pointer (some ⟨t,0,none⟩),.agg #[.int .i64 a1,.int .i64 a2,.int .i64 a3,.int .i64 a4,.int .i64 a5,.int .i64 a6,.int .i64 a7,.int .i64 a8]] w3 fun e w'=>∃E,e=.returned E∧Hid (Res tB b t w X (.returned E) w')):=by
    obtain⟨m1,m2,m3,m4,m5⟩:=mN.out;refine(zMP b t s1 v1 a1 a2 a3 a4 a5 a6 a7 a8 w3 m1 m2 (by have:=Bt.out.1;omega)).mono ?_
    intro e w' hR;refine(zCK (hR.step m4 (fun _ h=>h)) ?_).hidE
    rw[m5,if_neg h8]
   have h8b:(a8 == 0)=false:=by simp[h8]
   go_wp2_with fail;refine mx.out.mono ?_;rintro e w4⟨E,rfl,gK⟩;clear c0 c1 c2 c3 c4 c5 c6 c7;go_wp2_with fail;go_ret;exact gK.out
  subst h8;have D7:=hidF (zHD b t s1 v1 a1 a2 a3 a4 a5 a6 a7 0 w3 mN.out.1 mN.out.2.1);have Mk:Hid (X=come s1 ⟨a1,a2,a3,a4,a5,a6,a7,0⟩):=by show _=_;rw[mN.out.2.2.2.2,if_pos rfl]
  go_wp2_with fail;refine D7.out.mono ?_;rintro e w4⟨q1,n1,c1',q2,n2,c2',qt,nt,ct,g,qi,ni,ci,E,rfl,hV,b1⟩;obtain⟨W2,H9⟩:∃W2,W2=w4.alloc (.cells #[.slice q1 n1 c1',.slice q2 n2 c2',.slice qt nt ct,.int .i64 g,.slice qi ni ci] 144):=⟨_,rfl⟩;have Hc:Below w4.heap.size w4 W2:=by rw[H9];exact(bzR _ _).alloc (nzR _) _
  have H5:W2.heap[w4.heap.size]?=some (.cells #[.slice q1 n1 c1',.slice q2 n2 c2',.slice qt nt ct,.int .i64 g,.slice qi ni ci] 144 (0,0)):=by rw[H9];exact jA w4 _
  have bK:=b1.trans (Hc.mono b1.size);have Bq:=hidF (mN.out.1.below bK);have Uv:=hidF (mN.out.2.2.2.1.trans (Tn.below bK mN.out.1.base));have HK3:=hidF (zBH DR.out bK);have Uk:=hidF H5;have GO:=hidF (hV.kp (S:=[]) (Kp.below Hc) (by simp) (by simp) (by simp) (by simp))
  clear c0 c1 c2 c3 c4 c5 c6 c7 hV b1 Hc H5 bK D7;by_cases hE:vE s1.mode s1.bs s1.ss ⟨a1,a2,a3,a4,a5,a6,a7,0⟩=0
  ·have uY:=hidF (zHG (X:=X) Bq.out mN.out.2.1 GO.out hE Uv.out (by have:=Bt.out.1;omega) Bt.out.2 (by rw[Mk.out];unfold come;rw[if_pos hE]))
   obtain⟨rfl,-⟩:=GO.out.ok hE;go_upto_if 50 with fail
   rw[←H9];clear H9;generalize w4.heap.size=VB at *;obtain⟨c0,c1,c2,c3,c4,c5,c6,c7,-⟩:=wak.row8 HK3.out;obtain⟨v0,v1,v2,v3,v4,-⟩:=sid.zAi Uk.out;clear hE;go_wp2_with fail;refine uY.out.mono ?_;rintro e w5⟨E,rfl,gK⟩;clear c0 c1 c2 c3 c4 c5 c6 c7 v0 v1 v2 v3 v4;go_wp2_with fail;go_ret;exact gK.out
  ·have hb:=GO.out.bad hE;have GE:Hid (X=.error (vE s1.mode s1.bs s1.ss ⟨a1,a2,a3,a4,a5,a6,a7,0⟩)):=by show _=_;rw[Mk.out];unfold come;rw[if_neg hE]
   generalize vE s1.mode s1.bs s1.ss ⟨a1,a2,a3,a4,a5,a6,a7,0⟩=KE at *;subst hb;have gK:Hid (Res tB b t w X (.returned (.iface 80 (.int .i64 KE))) W2):=zAD GE.out hE Uv.out;go_upto_if 50 with fail
   rw[←H9];clear H9;go_wp2_with fail;go_ret;exact gK.out
end flr
end Go.Proofs.YtmhcghgfpfainaaGreatDoor
