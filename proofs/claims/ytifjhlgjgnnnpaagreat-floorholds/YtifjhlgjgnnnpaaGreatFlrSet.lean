import Derived.Test.YtifjhlgjgnnnpaaGreatFlrWak
import Derived.Test.YtifjhlgjgnnnpaaGreatFlrWf
namespace Go.Proofs.YtifjhlgjgnnnpaaGreat
namespace flr
open Go.RowKit
open que (R rchk)
open sid (L DL LS)
open mee (T tV OwnT sumT)
open ord (O oV chk errV errV_zero errV_of prB)
open que (bal)
open bok (zAd zAh)
open slf (OwnI zHi)
open mrg (zBh zBW zBX)
open wak (OwnM OwnQ St SL Lies oL idx Trn)
structure MS (a1 a2 a3 a4 a5 a6 a7 a8:Int) (G:Nat) (q1:Option Addr) (n1 c1:Nat) (q2:Option Addr) (n2 c2:Nat) (qt:Option Addr) (nt ct:Nat) (g:Int) (qi:Option Addr) (ni ci:Nat) (vs:Vs) (w:World):Prop where
 ord:w.heap[G]?=some (.cells #[.int .i64 a1,.int .i64 a2,.int .i64 a3,.int .i64 a4,.int .i64 a5,.int .i64 a6,.int .i64 a7,.int .i64 a8] 32 (0,0))
 vis:w.heap[G+1]?=some (.cells #[.slice q1 n1 c1,.slice q2 n2 c2,.slice qt nt ct,.int .i64 g,.slice qi ni ci] 132 (0,0))
 d1:DL w 0 (.slice q1 n1 c1) vs.bs
 d2:DL w 0 (.slice q2 n2 c2) vs.ss
 tr:OwnT w 0 (.slice qt nt ct) vs.ts
 ids:OwnI w 0 (.slice qi ni ci) vs.ids
section
variable {a1 a2 a3 a4 a5 a6 a7 a8:Int}{G:Nat}{q1:Option Addr}{n1 c1:Nat}{q2:Option Addr}{n2 c2:Nat}{qt:Option Addr}{nt ct:Nat}{g:Int}{qi:Option Addr}{ni ci:Nat}{vs:Vs}{w w' : World}
theorem MS.kp(h:MS a1 a2 a3 a4 a5 a6 a7 a8 G q1 n1 c1 q2 n2 c2 qt nt ct g qi ni ci vs w)(hk:Kp tA w w'):MS a1 a2 a3 a4 a5 a6 a7 a8 G q1 n1 c1 q2 n2 c2 qt nt ct g qi ni ci vs w':=
 ⟨hk.typ _ _ _ h.ord (by decide),hk.typ _ _ _ h.vis (by decide),hk.dl h.d1 (by decide) (by decide),hk.dl h.d2 (by decide) (by decide),hk.ownQ h.tr (by decide),hk.ownQ h.ids (by decide)⟩
end
theorem id_at{w:World}{base:Nat}{q:Option Addr}{n c:Nat}{l:List Int}(h:OwnI w base (.slice q n c) l){k:Nat}(hk:k<l.length):∃g off,q=some ⟨g,off,none⟩∧g<w.heap.size∧w.cell? ⟨g,off+k,none⟩=some (.int .i64 l[k]!):=by
 have hn:n=l.length:=by obtain⟨q',c',e⟩:=wak.OwnM.form h;cases e;rfl
 subst hn
 rcases h.2 with ⟨e,hn⟩|⟨g,off,cap,cur,e,_⟩
 ·rw[hn] at hk;exact absurd hk (Nat.not_lt_zero _)
 ·cases e
  obtain⟨hc,-,-,hlt⟩:=wak.OwnM.cells h
  refine⟨g,off,rfl,hlt,hc k _ ?_⟩
  unfold slf.zHi
  simp[hk]
structure SI (b t:Nat) (s:TS) (ids:List Int) (K:TS→Rs) (w:World) (X:Rs) (ms:World→Prop) (k:Nat) (wr:World):Prop where
 mem:∃s1 v1,TM wr b t s1 v1∧Wf s1∧Sm s s1 k∧X=(parts s1 (ids.drop k)).bind K
 tn:Tn tA b w wr
 ms:ms wr
theorem zEu{s:TS}{o:O}{v:Vs}(h:Wf s):Wf (tellLeft s o v)∧(tellLeft s o v).row=s.row:=by
 have h1:Wf (zAJ s o v)∧(zAJ s o v).row=s.row:=by
  unfold zAJ;split
  ·exact⟨zDy h _ _ _ _,rfl⟩
  ·exact⟨h,rfl⟩
 unfold tellLeft;split
 ·exact⟨zDy h1.1 _ _ _ _,h1.2⟩
 ·exact h1
theorem zCV{S:List TypeId}{b t:Nat}{w w' : World}{x:Rs}{e:Ending}(h:Res S b t w x e w'):(∃s v,x=.ok s∧e=.returned .nilIface∧Hid (TM w' b t s v))∨∃k,e=.returned (.iface 91 (.int .i64 k))∧Hid (x=.error k∧¬k=0):=by
 rcases h.two with ⟨s,v,a,b,c⟩|⟨k,a,b,c⟩
 ·exact .inl ⟨s,v,a,b,c⟩
 ·exact .inr ⟨k,c,a,b⟩
set_option maxRecDepth 100000 in
set_option maxHeartbeats 8000000 in
theorem settle_any(b t:Nat)(s:TS)(v:TV)(a1 a2 a3 a4 a5 a6 a7 a8:Int)(q1 q2 qt qi:Option Addr)(n1 c1 n2 c2 nt ct ni ci:Nat)(g:Int)(vs:Vs)(w:World)(h:TM w b t s v)(hw:Wf s)(hD1:DL w 0 (.slice q1 n1 c1) vs.bs)(hD2:DL w 0 (.slice q2 n2 c2) vs.ss)(hO:OwnT w 0 (.slice qt nt ct) vs.ts)(hI:OwnI w 0 (.slice qi ni ci) vs.ids)(hg:g=vs.gone)(hv:VO ⟨a1,a2,a3,a4,a5,a6,a7,a8⟩ vs)(hin:∀i∈vs.ids,zAh s.bs s.ss i=true)(hl:s.evs.length≤990000)(hr:s.row.length≤900000) :
  Calls Tryz.prog 75 #[.pointer (some ⟨t,0,none⟩),.agg #[.int .i64 a1,.int .i64 a2,.int .i64 a3,.int .i64 a4,.int .i64 a5,.int .i64 a6,.int .i64 a7,.int .i64 a8],.agg #[.slice q1 n1 c1,.slice q2 n2 c2,.slice qt nt ct,.int .i64 g,.slice qi ni ci]] w (Res tB b t w (settle s ⟨a1,a2,a3,a4,a5,a6,a7,a8⟩ vs)):=by
 obtain⟨W1,hW1⟩:∃W,W=w.alloc (.cells #[.int .i64 a1,.int .i64 a2,.int .i64 a3,.int .i64 a4,.int .i64 a5,.int .i64 a6,.int .i64 a7,.int .i64 a8] 32):=⟨_,rfl⟩
 have hb1:Below w.heap.size w W1:=by rw[hW1];exact(bzR _ _).alloc (nzR _) _
 have hs1:W1.heap.size=w.heap.size+1:=by rw[hW1];simp
 have hr1:W1.heap[w.heap.size]?=some (.cells #[.int .i64 a1,.int .i64 a2,.int .i64 a3,.int .i64 a4,.int .i64 a5,.int .i64 a6,.int .i64 a7,.int .i64 a8] 32 (0,0)):=by rw[hW1];exact jA w _
 obtain⟨W,hW⟩:∃W,W=W1.alloc (.cells #[.slice q1 n1 c1,.slice q2 n2 c2,.slice qt nt ct,.int .i64 g,.slice qi ni ci] 132):=⟨_,rfl⟩
 have hb2:Below W1.heap.size W1 W:=by rw[hW];exact(bzR _ _).alloc (nzR _) _
 have hr2:W.heap[w.heap.size+1]?=some (.cells #[.slice q1 n1 c1,.slice q2 n2 c2,.slice qt nt ct,.int .i64 g,.slice qi ni ci] 132 (0,0)):=by rw[←hs1,hW];exact jA W1 _
 have hBW:=hb1.trans (hb2.mono hb1.size)
 obtain⟨G,hG⟩:∃G,G=w.heap.size:=⟨_,rfl⟩
 have hrG:W.heap[G]?=some (.cells #[.int .i64 a1,.int .i64 a2,.int .i64 a3,.int .i64 a4,.int .i64 a5,.int .i64 a6,.int .i64 a7,.int .i64 a8] 32 (0,0)):=by rw[hG];exact zBl hr1 hb2
 rw[←hG] at hr2
 have hk0:Kp [] w W:=Kp.below hBW
 obtain⟨ms,hms⟩:∃ms:World→Prop,ms=MS a1 a2 a3 a4 a5 a6 a7 a8 G q1 n1 c1 q2 n2 c2 qt nt ct g qi ni ci vs:=⟨_,rfl⟩
 have HMS0:Hid (ms W):=by
  rw[hms]
  exact⟨hrG,hr2,hk0.dl hD1 (by simp) (by simp),hk0.dl hD2 (by simp) (by simp),hk0.ownQ hO (by simp),hk0.ownQ hI (by simp)⟩
 have HKP:Hid (∀x y,ms x→Kp tA x y→ms y):=by rw[hms];exact fun x y hx hk=>MS.kp hx hk
 have HMI:Hid (∀x,ms x→MS a1 a2 a3 a4 a5 a6 a7 a8 G q1 n1 c1 q2 n2 c2 qt nt ct g qi ni ci vs x):=by rw[hms];exact fun x hx=>hx
 have HT0:=hidF (Tn.below (S:=tA) hBW h.base)
 obtain⟨K,hK⟩:∃K:TS→Rs,K=fun s3=>zGx (tellLeft { s3 with bs:=vs.bs,ss:=vs.ss } ⟨a1,a2,a3,a4,a5,a6,a7,a8⟩ vs) vs.ts:=⟨_,rfl⟩
 obtain⟨X,hX⟩:∃X,X=settle s ⟨a1,a2,a3,a4,a5,a6,a7,a8⟩ vs:=⟨_,rfl⟩
 rw[←hX]
 unfold settle at hX
 rw[←hK,←hg] at hX
 have HK:=hidF hK
 have HX:=hidF hX
 have HV:=hidF hv
 have HWF:=hidF hw
 have HL:=hidF hl
 have HRW:=hidF hr
 have HIN:=hidF hin
 have HNI:Hid (ni=vs.ids.length∧ni≤60):=by
  have h1:ni=vs.ids.length:=by obtain⟨q',c',e⟩:=wak.OwnM.form hI;cases e;rfl
  have h2:=hv.ids
  exact⟨h1,by omega⟩
 have HTR:=hidF (trade_any b t s v qt nt ct vs.ts W (h.below hBW) hw (HMI.out W HMS0.out).tr (by have:=hv.len;omega))
 have HGV:=hidF hg
 obtain⟨v0,v1,v2,v3,v4,-⟩:=sid.zAe hr2
 clear h hw hD1 hD2 hO hI hv hin hl hr hrG hr1 hr2 hb1 hb2 hs1 hBW hk0 hms hX hK hg
 go_enter Tryz.func75,Tryz.ntmps75
 go_upto_region 1 with fail
 rw[←hW1,←hW]
 simp only[←hG]
 clear hW hW1 hG
 go_wp2_with fail
 refine HTR.out.mono ?_
 intro e w1 hR
 have HT1:=hidF (HT0.out.trans hR.1)
 have HMS1:=hidF (HKP.out _ _ HMS0.out hR.1.kp)
 rcases zCV hR with ⟨s1,u1,hx1,rfl,HM1⟩|⟨k,rfl,HE⟩
 rotate_left
 ·have HRR:Hid (Res tB b t w X (.returned (.iface 91 (.int .i64 k))) w1):=zAD (by rw[HX.out,HE.out.1];rfl) HE.out.2 (HT1.out.mono tA_tB)
  clear hR v0 v1 v2 v3 v4 HTR HE
  go_wp2_with fail
  go_ret
  exact HRR.out
 have HX1:Hid (X=if zBh ⟨a1,a2,a3,a4,a5,a6,a7,a8⟩ vs.ts g=0 then (zCq s1 a2 (zBW ⟨a1,a2,a3,a4,a5,a6,a7,a8⟩ vs.ts g) (zBX ⟨a1,a2,a3,a4,a5,a6,a7,a8⟩ vs.ts g)).bind fun s2=>(parts s2 vs.ids).bind K else .error (zBh ⟨a1,a2,a3,a4,a5,a6,a7,a8⟩ vs.ts g)):=by show _=_;rw[HX.out,hx1];rfl
 have HS1:=hidF (zDj vs.ts HWF.out hx1)
 have HBK:=hidF (mrg.zOo ⟨a1,a2,a3,a4,a5,a6,a7,a8⟩ (.slice qt nt ct) vs.ts g w1 (mrg.own_tl (HMI.out w1 HMS1.out).tr))
 rw[show oV ⟨a1,a2,a3,a4,a5,a6,a7,a8⟩=.agg #[.int .i64 a1,.int .i64 a2,.int .i64 a3,.int .i64 a4,.int .i64 a5,.int .i64 a6,.int .i64 a7,.int .i64 a8] from rfl] at HBK
 clear hR v0 v1 v2 v3 v4 HTR hx1 HX HMS0 HT0
 obtain⟨v0,v1,v2,v3,v4,-⟩:=sid.zAe (HMI.out w1 HMS1.out).vis
 obtain⟨o0,o1,o2,o3,o4,o5,o6,o7,-⟩:=wak.row8 (HMI.out w1 HMS1.out).ord
 obtain⟨C,hC⟩:∃C,C=zBW ⟨a1,a2,a3,a4,a5,a6,a7,a8⟩ vs.ts g:=⟨_,rfl⟩
 obtain⟨D,hD⟩:∃D,D=zBX ⟨a1,a2,a3,a4,a5,a6,a7,a8⟩ vs.ts g:=⟨_,rfl⟩
 rw[←hC,←hD] at HBK HX1
 clear hC hD
 by_cases hE:zBh ⟨a1,a2,a3,a4,a5,a6,a7,a8⟩ vs.ts g=0
 rotate_left
 ·rw[errV_of hE] at HBK
  have HXX:Hid (X=.error (zBh ⟨a1,a2,a3,a4,a5,a6,a7,a8⟩ vs.ts g)):=by show _=_;rw[HX1.out,if_neg hE]
  generalize zBh ⟨a1,a2,a3,a4,a5,a6,a7,a8⟩ vs.ts g=KE at *
  go_wp2_with fail
  refine HBK.out.mono ?_
  rintro e w2⟨rfl,b2⟩
  have HRR:Hid (Res tB b t w X (.returned (.iface 91 (.int .i64 KE))) w2):=zAD HXX.out hE ((HT1.out.trans (Tn.below b2 HM1.out.base)).mono tA_tB)
  clear b2 v0 v1 v2 v3 v4 o0 o1 o2 o3 o4 o5 o6 o7 HBK
  go_wp2_with fail
  go_ret
  exact HRR.out
 rw[hE,errV_zero] at HBK
 have HX2:Hid (X=(zCq s1 a2 C D).bind fun s2=>(parts s2 vs.ids).bind K):=by show _=_;rw[HX1.out,if_pos hE]
 clear hE HX1
 go_wp2_with fail
 refine HBK.out.mono ?_
 rintro e w2⟨rfl,b2⟩
 have HM2:=hidF (HM1.out.below b2)
 have HT2:=hidF (HT1.out.trans (Tn.below b2 HM1.out.base))
 have HMS2:=hidF (HKP.out _ _ HMS1.out (Kp.below b2))
 have HFR:Hid (∀U,Below w2.heap.size w2 U→Calls Tryz.prog 101 #[.pointer (some ⟨u1.pp,0,none⟩),.int .i64 a2,.int .i64 C,.int .i64 D] U fun e w'=>∃E,e=.returned E∧Hid ((∃s2,E=.nilIface∧Hid (SI b t s2 vs.ids K w X ms 0 w'∧Wf s2∧Sm s s2 vs.ts.length))∨∃k,E=.iface 91 (.int .i64 k)∧Hid (Res tB b t w X (.returned (.iface 91 (.int .i64 k))) w'))):=fun U hU=>by
  have hMU:=HM2.out.below hU
  have hTU:=HT2.out.trans (Tn.below (S:=tA) hU HM2.out.base)
  refine(pur.free_any u1.pp s1.ps a2 C D U hMU.purs HS1.out.1.ok).mono ?_
  rintro e w'⟨rfl,k4,k5⟩
  have hR:=zEp hMU hTU k4 k5
  have hms' : ms w':=HKP.out _ _ (HKP.out _ _ HMS2.out (Kp.below hU)) (hMU.pay k4 k5).2.kp
  refine⟨_,rfl,?_⟩
  show _∨_
  rcases hR.two with ⟨s2,v2,hx2,he,hM⟩|⟨k,hx2,hk,he⟩
  ·obtain⟨f1,f2⟩:=zFz HS1.out.1 hx2
   refine .inl ⟨s2,by injection he,?_⟩
   show _∧_∧_
   refine⟨⟨⟨s2,v2,hM,f1,Sm.refl _,?_⟩,hR.1,hms'⟩,f1,HS1.out.2.trans f2⟩
   rw[HX2.out,hx2];rfl
  ·refine .inr ⟨k,by injection he,?_⟩
   show Res _ _ _ _ _ _ _
   exact zAD (by rw[HX2.out,hx2];rfl) hk (hR.1.mono tA_tB)
 clear b2 v0 v1 v2 v3 v4 o0 o1 o2 o3 o4 o5 o6 o7 HBK HM1 HMS1 HT1
 obtain⟨-,-,-,-,y4,-⟩:=HM2.out.cells
 obtain⟨o0,o1,o2,o3,o4,o5,o6,o7,-⟩:=wak.row8 (HMI.out w2 HMS2.out).ord
 have HRF:=hidF (bzR w2.heap.size w2)
 obtain⟨r1,r2,r3,r4,r5,r6,r7,r8,upp,qe,ne,ce,qk,nk,ck⟩:=u1
 simp only[] at y4
 go_upto_region 7 with fail
 go_region_with (go_at_call 101;with_reducible refine(HFR.out _ ?_).mono ?_;(with_reducible repeat' (first|exact HRF.out|assumption|refine Below.drew ?_));rintro x w3 ⟨E,rfl,HOR⟩)
 all_goals
  clear y4 o0 o1 o2 o3 o4 o5 o6 o7 HFR HRF
  rcases HOR.out with ⟨s2,rfl,HSI⟩|⟨k,rfl,HRR⟩
  rotate_left
  ·clear HOR
   go_wp2_with fail
   go_ret
   exact HRR.out
  clear HOR HM2 HMS2 HT2 HX2 HS1 HWF
  obtain⟨v0,v1,v2,v3,v4,-⟩:=sid.zAe (HMI.out w3 HSI.out.1.ms).vis
  go_wp2_with fail
  clear v0 v1 v2 v3 v4
  go_loopg [13,14,15,16,17,18,55] ni (fun gg _ _ _ _ _ _ s55 wr=>∃ (kk:Nat),kk≤ni∧ni - kk≤gg∧s55=.int .i64 kk∧Aside (SI b t s2 vs.ids K w X ms kk wr))
  case atStart=>exact⟨0,jL _,by omega,rfl,HSI.out.1⟩
  case round=>
   obtain⟨kk,hkk,hgg,rfl,HA⟩:=hrel
   have HSS:=hidF HSI.out.2
   clear HSI
   by_cases hlt:kk<ni
   rotate_left
   ·have hltz:¬(kk:Int)<(ni:Int):=by omega
    have hkn:kk=ni:=by omega
    obtain⟨⟨s3,u3,hM3,hwf3,hsm3,hXX⟩,hTn3,hms3⟩:=HA.out
    have hXX2:X=K s3:=by rw[hXX,List.drop_eq_nil_of_le (by have:=HNI.out.1;omega)];rfl
    rw[HK.out] at hXX2
    have HXX:=hidF hXX2
    have hS3:=HSS.out.2.trans hsm3
    have HEV:Hid (s3.evs.length≤999000):=by show _≤_;rw[hS3.evs];have:=HL.out;have:=HV.out.len;have:=HNI.out.2;omega
    have HRO:Hid (s3.row.length≤900000):=by show _≤_;rw[hS3.row];exact HRW.out
    have HWX:Hid (Wf { s3 with bs:=vs.bs,ss:=vs.ss }):=⟨hwf3.m0,hwf3.m3,HV.out.book,hwf3.ok,hwf3.ws⟩
    obtain⟨v0,v1,v2,v3,v4,-⟩:=sid.zAe (HMI.out wr hms3).vis
    obtain⟨-,y1,y2,-,-,-,-,-,yf⟩:=hM3.cells
    have yf1:=yf 1
    have yf2:=yf 2
    obtain⟨hM5,hT5⟩:=hM3.book (HMI.out wr hms3).d1 (HMI.out wr hms3).d2
    have HM5:=hidF hM5
    have HT5:=hidF (hTn3.trans hT5)
    have HMS5:=hidF (HKP.out _ _ hms3 hT5.kp)
    obtain⟨r1,r2,r3,r4,r5,r6,r7,r8,upp,qe,ne,ce,qk,nk,ck⟩:=u3
    simp only[] at y1 y2
    clear hM3 hwf3 hsm3 hXX hTn3 hms3 hXX2 hS3 yf hM5 hT5 HA hkn hkk hgg HSS HIN
    go_upto_region 21 with fail
    generalize (wr.setCell ⟨t,1,none⟩ (.slice q1 n1 c1)).setCell ⟨t,2,none⟩ (.slice q2 n2 c2)=W5 at *
    clear v0 v1 v2 v3 v4 y1 y2 yf1 yf2
    obtain⟨v0,v1,v2,v3,v4,-⟩:=sid.zAe (HMI.out W5 HMS5.out).vis
    obtain⟨o0,o1,o2,o3,o4,o5,o6,o7,-⟩:=wak.row8 (HMI.out W5 HMS5.out).ord
    have HTL:=hidF (zGQ b t _ _ a1 a2 a3 a4 a5 a6 a7 a8 q1 q2 qt qi n1 c1 n2 c2 nt ct ni ci g vs W5 HM5.out (HMI.out W5 HMS5.out).tr HGV.out HV.out HEV.out)
    go_wp2_with fail
    refine HTL.out.mono ?_
    rintro e w6⟨rfl,⟨u6,hM6⟩,hT6⟩
    have HT6:=hidF (HT5.out.trans hT6)
    have HMS6:=hidF (HKP.out _ _ HMS5.out hT6.kp)
    have HWK:=hidF (wake_any b t _ u6 qt nt ct vs.ts w6 hM6 (zEu HWX.out).1 (HMI.out w6 HMS6.out).tr (by have:=HV.out.len;omega) (fun x hx=>by have:=HV.out.each x hx;unfold ord.prB;simp;omega) (by rw[(zEu HWX.out).2];exact HRO.out))
    clear v0 v1 v2 v3 v4 o0 o1 o2 o3 o4 o5 o6 o7 hM6 hT6 HTL HM5
    obtain⟨v0,v1,v2,v3,v4,-⟩:=sid.zAe (HMI.out w6 HMS6.out).vis
    go_wp2_with fail
    refine HWK.out.mono ?_
    intro e w7 hR7
    have HRR:Hid (Res tB b t w X e w7):=zCO (hR7.step (HT6.out.mono tA_tB) (fun _ h=>h)) HXX.out.symm
    clear v0 v1 v2 v3 v4 HWK
    rcases zCV hR7 with ⟨s8,u8,-,rfl,-⟩|⟨k,rfl,-⟩
    all_goals
     clear hR7
     go_wp2_with fail
     go_ret
     exact HRR.out
   ·have hltz:(kk:Int)<(ni:Int):=by omega
    have hlz:kk<vs.ids.length:=by rw[←HNI.out.1];exact hlt
    obtain⟨⟨s1,u1,hM,hwf,hsm,hXX⟩,hTn,hms⟩:=HA.out
    obtain⟨gz,oz,rfl,hGz,e0⟩:=id_at (HMI.out wr hms).ids hlz
    rw[zIr vs.ids kk hlz] at hXX
    have hib:zAh s1.bs s1.ss vs.ids[kk]! = true:=by
     rw[hsm.bs,hsm.ss,HSS.out.2.bs,HSS.out.2.ss]
     refine HIN.out _ ?_
     rw[mrg.getE vs.ids kk hlz]
     exact jT _
    have hev:s1.evs.length≤1000000:=by rw[hsm.evs,HSS.out.2.evs];have:=HL.out;have:=HV.out.len;have:=HNI.out.2;omega
    generalize vs.ids[kk]! = id at *
    have hA:=spot_at hwf.book hib
    have hX2:X=((part s1 (spot s1.bs s1.ss id).r (spot s1.bs s1.ss id).s (spot s1.bs s1.ss id).p).bind fun s1=>parts s1 (vs.ids.drop (kk+1))).bind K:=by
     rw[hXX]
     show ((zEP s1 id).bind _).bind K=_
     unfold zEP
     rw[if_pos hib]
    generalize spot s1.bs s1.ss id=x at hA hX2
    obtain⟨xs,xp,⟨r1,r2,r3,r4,r5⟩,xi,xk⟩:=x
    simp only[] at hX2
    have HF:=hidF (swp.zBS u1.q1 u1.q2 u1.n1 u1.n2 u1.c1 u1.c2 s1.bs s1.ss id xs xp r1 r2 r3 r4 r5 xi xk wr hM.buys.ls hM.sells.ls hA)
    obtain⟨-,y1,y2,-⟩:=hM.cells
    have HPT:Hid (∀U,Below wr.heap.size wr U→Calls Tryz.prog 102 #[.pointer (some ⟨t,0,none⟩),.agg #[.int .i64 r1,.int .i64 r2,.int .i64 r3,.int .i64 r4,.int .i64 r5],.int .i64 xs,.int .i64 xp] U fun e w'=>∃E,e=.returned E∧Hid ((E=.nilIface∧Hid (SI b t s2 vs.ids K w X ms (kk+1) w'))∨∃k,E=.iface 91 (.int .i64 k)∧Hid (Res tB b t w X (.returned (.iface 91 (.int .i64 k))) w'))):=fun U hU=>by
     refine(zIh b t s1 u1 r1 r2 r3 r4 r5 xs xp U (hM.below hU) hwf hA.rest hev).mono ?_
     intro e w' hR
     have hT':=(hTn.trans (Tn.below (S:=tA) hU hM.base)).trans hR.1
     rcases hR.two with ⟨s4,u4,hx4,rfl,hM4⟩|⟨k,hx4,hk,rfl⟩
     ·refine⟨_,rfl,?_⟩
      show _∨_
      obtain⟨f1,f2⟩:=zFA hwf hx4
      refine .inl ⟨rfl,?_⟩
      show SI _ _ _ _ _ _ _ _ _ _
      refine⟨⟨s4,u4,hM4,f1,hsm.trans f2,?_⟩,hT',HKP.out _ _ (HKP.out _ _ hms (Kp.below hU)) hR.1.kp⟩
      rw[hX2,hx4];rfl
     ·refine⟨_,rfl,?_⟩
      show _∨_
      refine .inr ⟨k,rfl,?_⟩
      show Res _ _ _ _ _ _ _
      exact zAD (by rw[hX2,hx4];rfl) hk (hT'.mono tA_tB)
    have HEI:=hidF (zOL kk (by have:=HNI.out.2;omega))
    have HM:Hid (kk<ni∧ni - kk≤gk):=⟨hlt,hgg⟩
    obtain⟨uq1,un1,uc1,uq2,un2,uc2,r9,r10,upp,qe,ne,ce,qk,nk,ck⟩:=u1
    simp only[] at y1 y2 HF
    clear hM hwf hsm hXX hTn hms hib hev hA hX2 HA hlt hgg hkk hlz HSS
    go_wp2_with fail
    refine HF.out.mono ?_
    rintro e w4⟨rfl,b4⟩
    obtain⟨W5,hW5⟩:∃W5,W5=w4.alloc (.cells #[.int .i64 r1,.int .i64 r2,.int .i64 r3,.int .i64 r4,.int .i64 r5] 54):=⟨_,rfl⟩
    have HB5:Hid (Below wr.heap.size wr W5):=by rw[hW5];exact b4.alloc b4.size _
    have hR5:W5.heap[w4.heap.size]?=some (.cells #[.int .i64 r1,.int .i64 r2,.int .i64 r3,.int .i64 r4,.int .i64 r5] 54 (0,0)):=by rw[hW5];exact jA w4 _
    clear b4 HF e0 y1 y2 hGz
    go_upto_if 72 with fail
    rw[←hW5]
    clear hW5
    generalize w4.heap.size=FF at *
    obtain⟨z0,z1,z2,z3,z4,-⟩:=sid.zAe hR5
    clear hR5
    go_wp2_with fail
    refine(HPT.out _ HB5.out).mono ?_
    rintro e w6⟨E,rfl,HOR⟩
    clear z0 z1 z2 z3 z4 HPT HB5
    rcases HOR.out with ⟨rfl,HSN⟩|⟨k,rfl,HRR⟩
    rotate_left
    ·clear HOR
     go_wp2_with fail
     go_ret
     exact HRR.out
    clear HOR
    have ei:=HEI.out
    go_wp2_with fail
    go_roundg (ni - (kk+1))
    case measure=>have:=HM.out;omega
    case rel=>exact⟨kk+1,HM.out.1,nzR _,by go_num,HSN.out⟩
end flr
end Go.Proofs.YtifjhlgjgnnnpaaGreat
