import Derived.Test.YtnfilcpnneckkaaGreatFlrSet
set_option maxHeartbeats 4000000
set_option maxRecDepth 100000
namespace Go.Proofs.YtnfilcpnneckkaaGreat
open Go.Proofs.Tryz
namespace flr
open Go.RowKit
open que (R rchk)
open sid (L DL LS)
open mee (T tV OwnT sumT)
open ord (O oV chk errV wAa wAb prB)
open que (bal)
open bok (zAc zAg)
open slf (OwnI zHM)
open wak (OwnM OwnQ St SL Lies oL idx Trn)
theorem Res.hidE{S:List TypeId}{b t:Nat}{w w' : World}{x:Rs}{e:Ending}(h:Res S b t w x e w'):∃E,e=.returned E∧Hid (Res S b t w x (.returned E) w'):=by
 rcases h.two with ⟨_,_,_,rfl,_⟩|⟨_,_,_,rfl⟩
 ·exact⟨_,rfl,h⟩
 ·exact⟨_,rfl,h⟩
theorem zHv{b t:Nat}{s:TS}{v:TV}{a1 a2 a3 a4 a5 a6 a7 a8:Int}{q1 q2 qt qi:Option Addr}{n1 c1 n2 c2 nt ct ni ci:Nat}{g:Int}{E:Value}{w0 w:World}{X:Rs}(h:TM w b t s v)(hw:Wf s)(hV:VI s.mode s.bs s.ss ⟨a1,a2,a3,a4,a5,a6,a7,a8⟩ w q1 n1 c1 q2 n2 c2 qt nt ct g qi ni ci E)(h0:vE s.mode s.bs s.ss ⟨a1,a2,a3,a4,a5,a6,a7,a8⟩=0)(hT:Tn tB b w0 w)(hl:s.evs.length≤990000)(hr:s.row.length≤900000)(hX:X=settle s ⟨a1,a2,a3,a4,a5,a6,a7,a8⟩ (vR s.mode s.bs s.ss ⟨a1,a2,a3,a4,a5,a6,a7,a8⟩)) :
  Calls prog 59 #[.pointer (some ⟨t,0,none⟩),.agg #[.int .i64 a1,.int .i64 a2,.int .i64 a3,.int .i64 a4,.int .i64 a5,.int .i64 a6,.int .i64 a7,.int .i64 a8],.agg #[.slice q1 n1 c1,.slice q2 n2 c2,.slice qt nt ct,.int .i64 g,.slice qi ni ci]] w fun e w'=>∃E,e=.returned E∧Hid (Res tB b t w0 X (.returned E) w'):=by
 obtain⟨-,k2,k3,k4,k5,k6⟩:=hV.ok h0;refine(wAM b t s v a1 a2 a3 a4 a5 a6 a7 a8 q1 q2 qt qi n1 c1 n2 c2 nt ct ni ci g _ w h hw k3 k4 k5 k6 k2 (zIO hw.m0 hw.m3 h0) (zRn hw.m0 hw.m3 h0) hl hr).mono ?_;intro e w' hR;exact(zCL (hR.step hT (fun _ h=>h)) hX.symm).hidE
theorem zPz(b t:Nat)(s:TS)(v:TV)(a1 a2 a3 a4 a5 a6 a7 a8:Int)(w:World)(h:TM w b t s v)(hw:Wf s)(hl:s.evs.length≤990000)(hr:s.row.length≤900000) :
  Calls prog 37 #[.pointer (some ⟨t,0,none⟩),.agg #[.int .i64 a1,.int .i64 a2,.int .i64 a3,.int .i64 a4,.int .i64 a5,.int .i64 a6,.int .i64 a7,.int .i64 a8]] w (Res tB b t w (rise s ⟨a1,a2,a3,a4,a5,a6,a7,a8⟩)):=by
 obtain⟨W,hW⟩:∃W,W=w.alloc (.cells #[.int .i64 a1,.int .i64 a2,.int .i64 a3,.int .i64 a4,.int .i64 a5,.int .i64 a6,.int .i64 a7,.int .i64 a8] 34):=⟨_,rfl⟩;have Hj:Below w.heap.size w W:=by rw[hW];exact(bzR _ _).alloc (nzR _) _
 have Hd:W.heap[w.heap.size]?=some (.cells #[.int .i64 a1,.int .i64 a2,.int .i64 a3,.int .i64 a4,.int .i64 a5,.int .i64 a6,.int .i64 a7,.int .i64 a8] 34 (0,0)):=by rw[hW];exact jA w _
 obtain⟨G,hG⟩:∃G,G=w.heap.size:=⟨_,rfl⟩;rw[←hG] at Hd;obtain⟨X,hX⟩:∃X,X=rise s ⟨a1,a2,a3,a4,a5,a6,a7,a8⟩:=⟨_,rfl⟩;rw[←hX];unfold rise at hX;have HX:=hidF hX;have ed:=hidF (zHs b t s v a1 a2 a3 a4 a5 a6 a7 a8 W (h.below Hj) hw);have Ho:Hid (∀U,Below W.heap.size W U→TM U b t s v∧Tn tB b w U∧U.heap[G]?=some (.cells #[.int .i64 a1,.int .i64 a2,.int .i64 a3,.int .i64 a4,.int .i64 a5,.int .i64 a6,.int .i64 a7,.int .i64 a8] 34 (0,0))):=fun U hU=>by
  have GU:=Hj.trans (hU.mono Hj.size);exact⟨h.below GU,Tn.below GU h.base,zBL Hd hU⟩
 have HW:=hidF hw;have HL:=hidF hl;have HR:=hidF hr;obtain⟨c0,c1,c2,c3,c4,c5,c6,c7,-⟩:=wak.row8 Hd;clear h hw hl hr hX Hj Hd;go_enter func37,ntmps37;go_wp2_with fail;rw[←hW];simp only[←hG];clear hW hG;refine ed.out.mono ?_;rintro e w1⟨q1,n1,c1',q2,n2,c2',qt,nt,ct,g,qi,ni,ci,E,rfl,hV,b1⟩;obtain⟨W2,gb⟩:∃W2,W2=w1.alloc (.cells #[.slice q1 n1 c1',.slice q2 n2 c2',.slice qt nt ct,.int .i64 g,.slice qi ni ci] 127):=⟨_,rfl⟩;have Ha:Below w1.heap.size w1 W2:=by rw[gb];exact(bzR _ _).alloc (nzR _) _
 have H5:W2.heap[w1.heap.size]?=some (.cells #[.slice q1 n1 c1',.slice q2 n2 c2',.slice qt nt ct,.int .i64 g,.slice qi ni ci] 127 (0,0)):=by rw[gb];exact jA w1 _
 obtain⟨k1,k2,k3⟩:=Ho.out W2 (b1.trans (Ha.mono b1.size));have gl:=hV.kp (S:=[]) (Kp.below Ha) (by simp) (by simp) (by simp) (by simp)
 have Bh:=hidF k1;have Uw:=hidF k2;have C7:=hidF k3;have Uk:=hidF H5;have ul:=hidF gl;clear c0 c1 c2 c3 c4 c5 c6 c7 hV b1 Ha H5 k1 k2 k3 gl Ho ed;by_cases hE:vE s.mode s.bs s.ss ⟨a1,a2,a3,a4,a5,a6,a7,a8⟩=0
 ·have uY:=hidF (zHv (X:=X) Bh.out HW.out ul.out hE Uw.out HL.out HR.out (by rw[HX.out,if_pos hE]))
  obtain⟨rfl,-⟩:=ul.out.ok hE;go_upto_if 14 with fail
  rw[←gb];clear gb;generalize w1.heap.size=VB at *;obtain⟨c0,c1,c2,c3,c4,c5,c6,c7,-⟩:=wak.row8 C7.out;obtain⟨v0,v1,v2,v3,v4,-⟩:=sid.zAi Uk.out;clear hE;go_wp2_with fail;refine uY.out.mono ?_;rintro e w3⟨E,rfl,gJ⟩;clear c0 c1 c2 c3 c4 c5 c6 c7 v0 v1 v2 v3 v4;go_wp2_with fail;go_ret;exact gJ.out
 ·have hb:=ul.out.bad hE;have Gl:Hid (X=vanish s ⟨a1,a2,a3,a4,a5,a6,a7,a8⟩):=by show _=_;rw[HX.out,if_neg hE]
  have eh:Hid (Calls prog 63 #[.pointer (some ⟨t,0,none⟩),.agg #[.int .i64 a1,.int .i64 a2,.int .i64 a3,.int .i64 a4,.int .i64 a5,.int .i64 a6,.int .i64 a7,.int .i64 a8]] W2 fun e w'=>∃E,e=.returned E∧Hid (Res tB b t w X (.returned E) w')):=by
   refine(zFn b t s v a1 a2 a3 a4 a5 a6 a7 a8 W2 Bh.out HW.out (by have:=HL.out;omega)).mono ?_
   intro e w' hR;exact(zCL (hR.step Uw.out tA_tB) Gl.out.symm).hidE
  generalize vE s.mode s.bs s.ss ⟨a1,a2,a3,a4,a5,a6,a7,a8⟩=KE at *;subst hb;go_upto_if 14 with fail
  rw[←gb];clear gb;generalize w1.heap.size=VB at *;obtain⟨c0,c1,c2,c3,c4,c5,c6,c7,-⟩:=wak.row8 C7.out;clear hE;go_wp2_with fail;refine eh.out.mono ?_;rintro e w3⟨E,rfl,gJ⟩;clear c0 c1 c2 c3 c4 c5 c6 c7;go_wp2_with fail;go_ret;exact gJ.out
end flr
namespace flr
open Go.RowKit
open que (R rchk)
open sid (L DL LS)
open mee (T tV OwnT sumT)
open ord (O oV chk errV wAa wAb prB)
open que (bal)
open bok (zAc zAg)
open slf (OwnI zHM)
open mrg (forC forS zFU)
open wak (OwnM OwnQ St SL Lies oL idx Trn)
theorem chk_id{o:O}(h:chk o=0):(Lit.int .i64 o.id).wf=true:=by
 have:=(ord.zBC h).1;unfold ord.zCJ at this;simp only[Bool.and_eq_true,decide_eq_true_eq] at this;have h1:(-9223372036854775808:Int)≤o.id:=by omega
 have h2:o.id≤9223372036854775807:=by omega
 show (decide (_≤o.id) && decide (o.id≤_))=true
 rw[Bool.and_eq_true,decide_eq_true_eq,decide_eq_true_eq];exact⟨h1,h2⟩
theorem zMW{w0 w w' : World}{b t:Nat}{s:TS}{v:TV}{who c d:Int}(h:TM w b t s v)(h0:Tn tA b w0 w)(hp:pur.Pu 98 9 w' v.pp (pur.zCP s.ps who c d))(hg:w.grownBy w' (some v.pp)):Res tA b t w0 (zDz s who c d) (.returned (errV (pur.zCu s.ps who c d))) w':=by
 unfold zDz;by_cases e:pur.zCu s.ps who c d=0
 ·rw[if_pos e,e];obtain⟨a1,a2⟩:=h.pay hp hg;exact⟨h0.trans a2,rfl,v,a1⟩
 ·rw[if_neg e,wAb e];exact⟨h0.trans (h.pay hp hg).2,e,rfl⟩
theorem zHw(b t:Nat)(s:TS)(v:TV)(a1 a2 a3 a4 a5 a6 a7 a8:Int)(w:World)(h:TM w b t s v)(hw:Wf s)(hl:s.evs.length≤980000)(hr:s.row.length≤900000) :
  Calls prog 31 #[.pointer (some ⟨t,0,none⟩),.agg #[.int .i64 a1,.int .i64 a2,.int .i64 a3,.int .i64 a4,.int .i64 a5,.int .i64 a6,.int .i64 a7,.int .i64 a8]] w (Res tB b t w (place s ⟨a1,a2,a3,a4,a5,a6,a7,a8⟩)):=by
 obtain⟨W,hW⟩:∃W,W=w.alloc (.cells #[.int .i64 a1,.int .i64 a2,.int .i64 a3,.int .i64 a4,.int .i64 a5,.int .i64 a6,.int .i64 a7,.int .i64 a8] 34):=⟨_,rfl⟩;have Hj:Below w.heap.size w W:=by rw[hW];exact(bzR _ _).alloc (nzR _) _
 have Hd:W.heap[w.heap.size]?=some (.cells #[.int .i64 a1,.int .i64 a2,.int .i64 a3,.int .i64 a4,.int .i64 a5,.int .i64 a6,.int .i64 a7,.int .i64 a8] 34 (0,0)):=by rw[hW];exact jA w _
 obtain⟨G,hG⟩:∃G,G=w.heap.size:=⟨_,rfl⟩;rw[←hG] at Hd;obtain⟨X,hX⟩:∃X,X=place s ⟨a1,a2,a3,a4,a5,a6,a7,a8⟩:=⟨_,rfl⟩;rw[←hX];unfold place at hX;simp only[] at hX;have HX:=hidF hX;have UX:=hidF (zFU ⟨a1,a2,a3,a4,a5,a6,a7,a8⟩ W);rw[show oV ⟨a1,a2,a3,a4,a5,a6,a7,a8⟩=.agg #[.int .i64 a1,.int .i64 a2,.int .i64 a3,.int .i64 a4,.int .i64 a5,.int .i64 a6,.int .i64 a7,.int .i64 a8] from rfl] at UX
 have Ho:Hid (∀U,Below W.heap.size W U→TM U b t s v∧Tn tA b w U∧U.heap[G]?=some (.cells #[.int .i64 a1,.int .i64 a2,.int .i64 a3,.int .i64 a4,.int .i64 a5,.int .i64 a6,.int .i64 a7,.int .i64 a8] 34 (0,0))):=fun U hU=>by
  have GU:=Hj.trans (hU.mono Hj.size);exact⟨h.below GU,Tn.below GU h.base,zBL Hd hU⟩
 have HW:=hidF hw;have HL:=hidF hl;have HR:=hidF hr;obtain⟨c0,c1,c2,c3,c4,c5,c6,c7,-⟩:=wak.row8 Hd;obtain⟨C,hC⟩:∃C,C=forC ⟨a1,a2,a3,a4,a5,a6,a7,a8⟩:=⟨_,rfl⟩;obtain⟨D,hD⟩:∃D,D=forS ⟨a1,a2,a3,a4,a5,a6,a7,a8⟩:=⟨_,rfl⟩;rw[←hC,←hD] at UX HX;clear hC hD h hw hl hr hX Hj Hd;by_cases hE:chk ⟨a1,a2,a3,a4,a5,a6,a7,a8⟩=0
 rotate_left
 ·rw[wAb hE] at UX;have Gl:Hid (X=.error (chk ⟨a1,a2,a3,a4,a5,a6,a7,a8⟩)):=by show _=_;rw[HX.out,if_neg hE]
  generalize chk ⟨a1,a2,a3,a4,a5,a6,a7,a8⟩=K at *;clear c0 c1 c2 c3 c4 c5 c6 c7;go_enter func31,ntmps31;go_wp2_with fail;rw[←hW];clear hW hG;refine UX.out.mono ?_;rintro e w1⟨rfl,b1⟩;have He:=hidF (Ho.out w1 b1).2.1;clear b1 UX;go_wp2_with fail;go_ret;exact zAE Gl.out hE (He.out.mono tA_tB)
 rw[hE,wAa] at UX;have GW:Hid (X=if has s a1=true then .error 7 else (zDz s a2 C D).bind fun s1=>if a8=0 then come s1 ⟨a1,a2,a3,a4,a5,a6,a7,a8⟩ else sleep s1 ⟨a1,a2,a3,a4,a5,a6,a7,a8⟩):=by show _=_;rw[HX.out,if_pos hE]
 have Dr:=hidF (chk_id hE);simp only[] at Dr;clear hE HX;go_enter func31,ntmps31;go_wp2_with fail;rw[←hW];simp only[←hG];clear hW hG;refine UX.out.mono ?_;rintro e w1⟨rfl,b1⟩;have He:=hidF b1;obtain⟨k1,k2,k3⟩:=Ho.out w1 b1;have HHA:=hidF (zRl b t s v a1 w1 k1 HW.out Dr.out);clear c0 c1 c2 c3 c4 c5 c6 c7 b1 UX k1 k2;obtain⟨c0,c1,c2,c3,c4,c5,c6,c7,-⟩:=wak.row8 k3;clear k3;generalize hhs:has s a1=HS at *;go_wp2_with fail;refine HHA.out.mono ?_;rintro e w2⟨rfl,b2⟩;have Hg:=hidF (He.out.trans (b2.mono He.out.size));clear b2 c0 c1 c2 c3 c4 c5 c6 c7 HHA He;cases HS with
 | true=>
  have HT:=hidF (Ho.out w2 Hg.out).2.1;have Gl:Hid (X=.error 7):=by show _=_;rw[GW.out];rfl
  go_wp2_with fail;go_ret;exact zAE Gl.out (by decide) (HT.out.mono tA_tB)
 | false=>
 have mq:Hid (X=(zDz s a2 C D).bind fun s1=>if a8=0 then come s1 ⟨a1,a2,a3,a4,a5,a6,a7,a8⟩ else sleep s1 ⟨a1,a2,a3,a4,a5,a6,a7,a8⟩):=by show _=_;rw[GW.out];rfl
 have HHO:Hid (∀U,Below w2.heap.size w2 U→Calls prog 56 #[.pointer (some ⟨v.pp,0,none⟩),.int .i64 a2,.int .i64 C,.int .i64 D] U fun e w'=>∃E,e=.returned E∧Hid ((∃s1 v1,E=.nilIface∧Hid (TM w' b t s1 v1∧Wf s1∧Sm s s1 0∧Tn tB b w w'∧X=if a8=0 then come s1 ⟨a1,a2,a3,a4,a5,a6,a7,a8⟩ else sleep s1 ⟨a1,a2,a3,a4,a5,a6,a7,a8⟩)∧w'.heap[G]?=some (.cells #[.int .i64 a1,.int .i64 a2,.int .i64 a3,.int .i64 a4,.int .i64 a5,.int .i64 a6,.int .i64 a7,.int .i64 a8] 34 (0,0)))∨∃k,E=.iface 90 (.int .i64 k)∧Hid (Res tB b t w X (.returned (.iface 90 (.int .i64 k))) w'))):=fun U hU=>by
  obtain⟨k1,k2,k3⟩:=Ho.out U (Hg.out.trans (hU.mono Hg.out.size));refine(pur.zOX v.pp s.ps a2 C D U k1.purs HW.out.ok).mono ?_;rintro e w'⟨rfl,k4,k5⟩;have hR:=zMW k1 k2 k4 k5;have h6:=(Kp.grown (S:=tA) k5 k1.purs.2 (by decide)).typ _ _ _ k3 (by decide)
  refine⟨_,rfl,?_⟩;show _∨_
  rcases hR.two with ⟨s1,v1,gM,he,hM⟩|⟨k,gM,hk,he⟩
  ·obtain⟨f1,f2⟩:=zMB HW.out gM;refine .inl ⟨s1,v1,by injection he,?_,h6⟩
   show _∧_∧_∧_∧_
   exact⟨hM,f1,f2,hR.1.mono tA_tB,by rw[mq.out,gM];rfl⟩
  ·refine .inr ⟨k,by injection he,?_⟩
   show Res _ _ _ _ _ _ _
   exact zAE (by rw[mq.out,gM];rfl) hk (hR.1.mono tA_tB)
 have Gc:=hidF (bzR w2.heap.size w2);obtain⟨k1,-,k3⟩:=Ho.out w2 Hg.out;obtain⟨-,-,-,-,y4,-⟩:=k1.cells;obtain⟨c0,c1,c2,c3,c4,c5,c6,c7,-⟩:=wak.row8 k3;obtain⟨r1,r2,r3,r4,r5,r6,r7,r8,upp,qe,ne,ce,qk,nk,ck⟩:=v;simp only[] at y4;clear k1 k3 GW mq Ho hhs;go_upto_region 6 with fail
 go_region_with (go_at_call 56;with_reducible refine(HHO.out _ ?_).mono ?_;(with_reducible repeat' (first|exact Gc.out|assumption|refine Below.drew ?_));rintro x w3 ⟨E,rfl,uP⟩)
 all_goals
  clear y4 c0 c1 c2 c3 c4 c5 c6 c7 HHO Gc Hg;rcases uP.out with ⟨s1,v1,rfl,Mv,h6⟩|⟨k,rfl,gJ⟩
  rotate_left
  ·clear uP;go_wp2_with fail;go_ret;exact gJ.out
  clear uP;have DU:=hidF h6;have Mt:Hid (s1.evs.length≤980000∧s1.row.length≤900000):=by
   refine⟨?_,?_⟩
   ·rw[Mv.out.2.2.1.evs];exact HL.out
   ·rw[Mv.out.2.2.1.row];exact HR.out
  obtain⟨c0,c1,c2,c3,c4,c5,c6,c7,-⟩:=wak.row8 h6;clear h6;by_cases h8:a8=0
  rotate_left
  ·have mn:Hid (Calls prog 57 #[.pointer (some ⟨t,0,none⟩),.agg #[.int .i64 a1,.int .i64 a2,.int .i64 a3,.int .i64 a4,.int .i64 a5,.int .i64 a6,.int .i64 a7,.int .i64 a8]] w3 fun e w'=>∃E,e=.returned E∧Hid (Res tB b t w X (.returned E) w')):=by
    obtain⟨m1,m2,m3,m4,m5⟩:=Mv.out;refine(zMz b t s1 v1 a1 a2 a3 a4 a5 a6 a7 a8 w3 m1 m2 (by have:=Mt.out.1;omega)).mono ?_
    intro e w' hR;refine(zCL (hR.step m4 (fun _ h=>h)) ?_).hidE
    rw[m5,if_neg h8]
   have h8b:(a8 == 0)=false:=by simp[h8]
   go_wp2_with fail;refine mn.out.mono ?_;rintro e w4⟨E,rfl,gJ⟩;clear c0 c1 c2 c3 c4 c5 c6 c7;go_wp2_with fail;go_ret;exact gJ.out
  subst h8;have ed:=hidF (zHs b t s1 v1 a1 a2 a3 a4 a5 a6 a7 0 w3 Mv.out.1 Mv.out.2.1);have Ma:Hid (X=come s1 ⟨a1,a2,a3,a4,a5,a6,a7,0⟩):=by show _=_;rw[Mv.out.2.2.2.2,if_pos rfl]
  go_wp2_with fail;refine ed.out.mono ?_;rintro e w4⟨q1,n1,c1',q2,n2,c2',qt,nt,ct,g,qi,ni,ci,E,rfl,hV,b1⟩;obtain⟨W2,gb⟩:∃W2,W2=w4.alloc (.cells #[.slice q1 n1 c1',.slice q2 n2 c2',.slice qt nt ct,.int .i64 g,.slice qi ni ci] 127):=⟨_,rfl⟩;have Ha:Below w4.heap.size w4 W2:=by rw[gb];exact(bzR _ _).alloc (nzR _) _
  have H5:W2.heap[w4.heap.size]?=some (.cells #[.slice q1 n1 c1',.slice q2 n2 c2',.slice qt nt ct,.int .i64 g,.slice qi ni ci] 127 (0,0)):=by rw[gb];exact jA w4 _
  have BF:=b1.trans (Ha.mono b1.size);have Bh:=hidF (Mv.out.1.below BF);have Uw:=hidF (Mv.out.2.2.2.1.trans (Tn.below BF Mv.out.1.base));have C7:=hidF (zBL DU.out BF);have Uk:=hidF H5;have ul:=hidF (hV.kp (S:=[]) (Kp.below Ha) (by simp) (by simp) (by simp) (by simp))
  clear c0 c1 c2 c3 c4 c5 c6 c7 hV b1 Ha H5 BF ed;by_cases hE:vE s1.mode s1.bs s1.ss ⟨a1,a2,a3,a4,a5,a6,a7,0⟩=0
  ·have uY:=hidF (zHv (X:=X) Bh.out Mv.out.2.1 ul.out hE Uw.out (by have:=Mt.out.1;omega) Mt.out.2 (by rw[Ma.out];unfold come;rw[if_pos hE]))
   obtain⟨rfl,-⟩:=ul.out.ok hE;go_upto_if 50 with fail
   rw[←gb];clear gb;generalize w4.heap.size=VB at *;obtain⟨c0,c1,c2,c3,c4,c5,c6,c7,-⟩:=wak.row8 C7.out;obtain⟨v0,v1,v2,v3,v4,-⟩:=sid.zAi Uk.out;clear hE;go_wp2_with fail;refine uY.out.mono ?_;rintro e w5⟨E,rfl,gJ⟩;clear c0 c1 c2 c3 c4 c5 c6 c7 v0 v1 v2 v3 v4;go_wp2_with fail;go_ret;exact gJ.out
  ·have hb:=ul.out.bad hE;have Gl:Hid (X=.error (vE s1.mode s1.bs s1.ss ⟨a1,a2,a3,a4,a5,a6,a7,0⟩)):=by show _=_;rw[Ma.out];unfold come;rw[if_neg hE]
   generalize vE s1.mode s1.bs s1.ss ⟨a1,a2,a3,a4,a5,a6,a7,0⟩=KE at *;subst hb;have gJ:Hid (Res tB b t w X (.returned (.iface 90 (.int .i64 KE))) W2):=zAE Gl.out hE Uw.out;go_upto_if 50 with fail
   rw[←gb];clear gb;go_wp2_with fail;go_ret;exact gJ.out
end flr
namespace flr
open Go.RowKit
open que (R rchk)
open sid (L DL LS)
open mee (T tV OwnT sumT)
open ord (O oV chk errV wAa wAb prB)
open que (bal)
open bok (zAc zAg)
open tickP (zAo)
open wak (OwnM OwnQ St SL Lies oL idx Trn)
theorem zMX{r:R}{q:Int}(h:rchk r=0)(h1:1≤q)(h2:q≤10000):wrap64 (r.qty+r.hid - q)=r.qty+r.hid - q:=by
 obtain⟨a,b,-⟩:=que.zAq h;unfold wrap64;omega
theorem zKe(b t:Nat)(s:TS)(v:TV)(id price qty:Int)(w:World)(h:TM w b t s v)(hw:Wf s)(Hv:zAg s.bs s.ss id=true)(uo:zAo price=true)(hq:¬(1≤qty∧qty≤10000)) :
  Calls prog 65 #[.pointer (some ⟨t,0,none⟩),.int .i64 id,.int .i64 price,.int .i64 qty] w (Res tB b t w (shrink s id price qty)):=by
 obtain⟨x0,x1,x2,x3,x4,x5,x6,x7,-⟩:=h.cells;have hA:=wAs hw.book Hv;have HX:Hid (shrink s id price qty=.error 1):=by show _=_;unfold shrink;simp only[];rw[if_neg hq]
 rw[HX.out];generalize spot s.bs s.ss id=x at hA;obtain⟨xs,xp,⟨r1,r2,r3,r4,r5⟩,xi,xk⟩:=x;have E0:(decide (1≤qty) && decide (qty≤10000))=false:=by
  cases hh:(decide (1≤qty) && decide (qty≤10000)) with
  | false=>rfl
  | true=>simp only[Bool.and_eq_true,decide_eq_true_eq] at hh;exact absurd hh hq
 have PQ:=hidF (swp.zQT v.q1 v.q2 v.n1 v.n2 v.c1 v.c2 s.bs s.ss id xs xp r1 r2 r3 r4 r5 price qty xi xk w h.buys.ls h.sells.ls hA uo E0);have HB:=hidF h.base;obtain⟨q1,n1,c1,q2,n2,c2,sp,vw,pp,qe,ne,ce,qk,nk,ck⟩:=v;simp only[] at x0 x1 x2 x3 x4 x5 x6 x7 PQ;clear h hw hA Hv uo hq E0;go_enter func65,ntmps65;go_wp2_with fail;refine PQ.out.mono ?_;rintro e w1⟨rfl,b1⟩;have HT:=hidF (Tn.below (S:=tB) (b1.alloc b1.size (.cells #[.slice none 0 0,.slice none 0 0] 57)) HB.out);clear b1 x0 x1 x2 x3 x4 x5 x6 x7;go_wp2_with fail;go_ret;exact zAE rfl (by decide) HT.out
theorem zIf(b t:Nat)(s:TS)(v:TV)(id price qty:Int)(w:World)(h:TM w b t s v)(hw:Wf s)(hl:s.evs.length≤990000)(Hv:zAg s.bs s.ss id=true)(uo:zAo price=true)(Ue:swp.zDt (spot s.bs s.ss id).p (spot s.bs s.ss id).r price qty=true)(hq:1≤qty∧qty≤10000) :
  Calls prog 65 #[.pointer (some ⟨t,0,none⟩),.int .i64 id,.int .i64 price,.int .i64 qty] w (Res tB b t w (shrink s id price qty)):=by
 obtain⟨x0,x1,x2,x3,x4,x5,x6,x7,-⟩:=h.cells;have hA:=wAs hw.book Hv;obtain⟨X,hX⟩:∃X,X=shrink s id price qty:=⟨_,rfl⟩;rw[←hX];unfold shrink at hX;simp only[] at hX;rw[if_pos hq] at hX;generalize spot s.bs s.ss id=x at hA hX Ue;obtain⟨xs,xp,⟨r1,r2,r3,r4,r5⟩,xi,xk⟩:=x;simp only[] at hX Ue;have E0:(decide (1≤qty) && decide (qty≤10000))=true:=by simp[hq.1,hq.2]
 have PQ:Hid (Calls prog 103 #[.agg #[.slice v.q1 v.n1 v.c1,.slice v.q2 v.n2 v.c2],.int .i64 id,.int .i64 price,.int .i64 qty] w fun e w'=>∃u1 u2 m1 m2 d1 d2,e=.returned (.tuple #[.agg #[.slice u1 m1 d1,.slice u2 m2 d2],.slice none 0 0,.int .i64 0,.nilIface])∧Hid (DL w' 0 (.slice u1 m1 d1) (swp.kB xs s.bs xi xk (swp.zAI ⟨r1,r2,r3,r4,r5⟩ qty)))∧Hid (DL w' 0 (.slice u2 m2 d2) (swp.kS xs s.ss xi xk (swp.zAI ⟨r1,r2,r3,r4,r5⟩ qty)))∧Below w.heap.size w w'):=by
  refine(swp.zOK v.q1 v.q2 v.n1 v.n2 v.c1 v.c2 s.bs s.ss id xs xp r1 r2 r3 r4 r5 price qty xi xk w h.buys.ls h.sells.ls hA uo E0 Ue).mono ?_;rintro e w'⟨u1,u2,m1,m2,d1,d2,rfl,k2,k3,k4⟩;exact⟨u1,u2,m1,m2,d1,d2,rfl,k2.mono (jL _),k3.mono (jL _),k4⟩
 have Ho:Hid (∀U,Below w.heap.size w U→TM U b t s v∧Tn tA b w U):=fun U hU=>⟨h.below hU,Tn.below hU h.base⟩
 have HF:Hid (∀U,Below w.heap.size w U→Calls prog 60 #[.agg #[.slice v.q1 v.n1 v.c1,.slice v.q2 v.n2 v.c2],.int .i64 id] U fun e w'=>e=.returned (.tuple #[.int .i64 xs,.int .i64 xp,.agg #[.int .i64 r1,.int .i64 r2,.int .i64 r3,.int .i64 r4,.int .i64 r5],.nilIface])∧Below U.heap.size U w'):=fun U hU=>swp.zBQ v.q1 v.q2 v.n1 v.n2 v.c1 v.c2 s.bs s.ss id xs xp r1 r2 r3 r4 r5 xi xk U (h.below hU).buys.ls (h.below hU).sells.ls hA
 have cn:=hidF (fun U=>wBe r1 r2 r3 r4 r5 U hA.rest)
 have DP:=hidF (zMX hA.rest hq.1 hq.2);simp only[] at DP;obtain⟨OV,hOV⟩:∃OV,OV=r3+r4 - qty:=⟨_,rfl⟩;rw[←hOV] at hX DP;have DQ:Hid (wrap64 (r3+r4 - qty)=OV):=by show _=_;rw[hOV];rw[hOV] at DP;exact DP.out
 obtain⟨AL,uK⟩:∃AL,AL=r3+r4:=⟨_,rfl⟩;rw[←uK] at cn DQ;have HX:=hidF hX;have HW:=hidF hw;have HL:=hidF hl;have uA:=hidF (fun U hU=>wAZ b t s v id r2 OV 0 0 xs price U hU hw)
 obtain⟨q1,n1,c1,q2,n2,c2,sp,vw,pp,qe,ne,ce,qk,nk,ck⟩:=v;simp only[] at x0 x1 x2 x3 x4 x5 x6 x7 PQ HF;clear h hw hA hX Hv hl uo Ue hq E0 hOV uK DP;go_enter func65,ntmps65;go_wp2_with fail;refine PQ.out.mono ?_;rintro e w1⟨u1,u2,m1,m2,d1,d2,rfl,uV,ut,b1⟩;obtain⟨W2,gb⟩:∃W2,W2=w1.alloc (.cells #[.slice u1 m1 d1,.slice u2 m2 d2] 57):=⟨_,rfl⟩;have Ha:Below w1.heap.size w1 W2:=by rw[gb];exact(bzR _ _).alloc (nzR _) _
 have H5:W2.heap[w1.heap.size]?=some (.cells #[.slice u1 m1 d1,.slice u2 m2 d2] 57 (0,0)):=by rw[gb];exact jA w1 _
 have Hg:=hidF (b1.trans (Ha.mono b1.size));have UQ:=hidF (And.intro (uV.out.below Ha) (ut.out.below Ha));have Uk:=hidF H5;obtain⟨-,y1,y2,-⟩:=(Ho.out W2 Hg.out).1.cells;simp only[] at y1 y2;clear b1 Ha H5 uV ut PQ x0 x1 x2 x3 x4 x5 x6 x7;go_upto_if 33 with fail
 rw[←gb];clear gb;generalize w1.heap.size=LB at *;go_wp2_with fail;refine(HF.out _ Hg.out).mono ?_;rintro e w3⟨rfl,b3⟩;obtain⟨W4,G4⟩:∃W4,W4=w3.alloc (.cells #[.int .i64 r1,.int .i64 r2,.int .i64 r3,.int .i64 r4,.int .i64 r5] 51):=⟨_,rfl⟩;have Gj:Below w3.heap.size w3 W4:=by rw[G4];exact(bzR _ _).alloc (nzR _) _
 have E4:W4.heap[w3.heap.size]?=some (.cells #[.int .i64 r1,.int .i64 r2,.int .i64 r3,.int .i64 r4,.int .i64 r5] 51 (0,0)):=by rw[G4];exact jA w3 _
 have p8:=b3.trans (Gj.mono b3.size);have Gi:=hidF (Hg.out.trans (p8.mono Hg.out.size));have cD:=hidF (And.intro (UQ.out.1.below p8) (UQ.out.2.below p8));have DT:=hidF (zBL Uk.out p8);have M1:=hidF E4;clear b3 Gj E4 p8 UQ Uk Hg HF y1 y2;go_upto_if 48 with fail
 rw[←G4];clear G4;generalize w3.heap.size=RB at *;obtain⟨z0,z1,z2,z3,z4,-⟩:=sid.zAi M1.out;go_wp2_with fail;refine(cn.out _).mono ?_;rintro e w5⟨rfl,b5⟩;have GX:=hidF (Gi.out.trans (b5.mono Gi.out.size));have ba:=hidF (And.intro (cD.out.1.below b5) (cD.out.2.below b5));have cU:=hidF (zBL DT.out b5);have dd:=hidF (zBL M1.out b5);have pG:=hidF (Ho.out w5 GX.out);clear b5 Gi cD DT M1 z0 z1 z2 z3 z4 Ho;obtain⟨z0,z1,z2,z3,z4,-⟩:=sid.zAi dd.out;have EY:=DQ.out;by_cases ho:0<OV
 case' pos=>
  have Gl:Hid (X=(zCk s ⟨id,r2,OV,0,0⟩ xs price).bind fun s1=>.ok (tell { s1 with bs:=swp.kB xs s.bs xi xk (swp.zAI ⟨r1,r2,r3,r4,r5⟩ qty),ss:=swp.kS xs s.ss xi xk (swp.zAI ⟨r1,r2,r3,r4,r5⟩ qty) } 1 id qty price)):=by show _=_;rw[HX.out,if_pos ho]
  have HFR5:=hidF (uA.out w5 pG.out.1);go_wp2_with fail;refine HFR5.out.mono ?_;intro e w6 hR;have UA:=hidF (pG.out.2.trans hR.1);have be:=hidF (And.intro (hR.1.kp.dl ba.out.1 (by decide) (by decide)) (hR.1.kp.dl ba.out.2 (by decide) (by decide)))
  have DU:=hidF (hR.1.kp.typ _ _ _ cU.out (by decide))
  rcases zCS hR with ⟨s1,v1,gM,rfl,da⟩|⟨k,rfl,HE⟩
  rotate_left
  ·have gJ:Hid (Res tB b t w X (.returned (.iface 90 (.int .i64 k))) w6):=zAE (by rw[Gl.out,HE.out.1];rfl) HE.out.2 (UA.out.mono tA_tB)
   clear hR z0 z1 z2 z3 z4 EY;go_wp2_with fail;go_ret;exact gJ.out
  have Cg:Hid (X=.ok (tell { s1 with bs:=swp.kB xs s.bs xi xk (swp.zAI ⟨r1,r2,r3,r4,r5⟩ qty),ss:=swp.kS xs s.ss xi xk (swp.zAI ⟨r1,r2,r3,r4,r5⟩ qty) } 1 id qty price)):=by show _=_;rw[Gl.out,gM];rfl
  have MY:Hid (s1.evs.length≤1000000):=by show _≤_;have:=(zFZ HW.out gM).2.evs;have:=HL.out;omega
  clear hR gM EY
 case' neg=>
  have Cg:Hid (X=.ok (tell { s with bs:=swp.kB xs s.bs xi xk (swp.zAI ⟨r1,r2,r3,r4,r5⟩ qty),ss:=swp.kS xs s.ss xi xk (swp.zAI ⟨r1,r2,r3,r4,r5⟩ qty) } 1 id qty price)):=by show _=_;rw[HX.out,if_neg ho];rfl
  have UA:=hidF pG.out.2;have be:=ba;have DU:=cU;have da:=hidF pG.out.1;have MY:Hid (s.evs.length≤1000000):=by show _≤_;have:=HL.out;omega
  obtain⟨v1,CX⟩:∃v1,v1=(⟨q1,n1,c1,q2,n2,c2,sp,vw,pp,qe,ne,ce,qk,nk,ck⟩:TV):=⟨_,rfl⟩;rw[←CX] at da;clear CX;obtain⟨s1,Hl⟩:∃s1,s1=s:=⟨_,rfl⟩;rw[←Hl] at da MY;have Cg:Hid (X=.ok (tell { s1 with bs:=swp.kB xs s.bs xi xk (swp.zAI ⟨r1,r2,r3,r4,r5⟩ qty),ss:=swp.kS xs s.ss xi xk (swp.zAI ⟨r1,r2,r3,r4,r5⟩ qty) } 1 id qty price)):=by show _=_;rw[Hl];exact Cg.out
  clear Hl;obtain⟨w6,hw6⟩:∃w6,w6=w5:=⟨_,rfl⟩;go_upto_region 12 with fail
  rw[←hw6] at UA be DU da ⊢;clear hw6 EY
 all_goals
  clear z0 z1 z2 z3 z4 uA pG ba cU dd HX;obtain⟨l0,l1,-⟩:=sid.zAb DU.out;obtain⟨-,y1,y2,-,-,-,-,-,yf⟩:=da.out.cells;have yf1:=yf 1;have yf2:=yf 2;obtain⟨hM7,dw⟩:=da.out.book be.out.1 be.out.2;have HM7:=hidF hM7;have HT7:=hidF (UA.out.trans dw);obtain⟨g1,g2,g3,g4,g5,g6,g7,g8,g9,g10,g11,g12,g13,g14,g15⟩:=v1;simp only[] at y1 y2;clear hM7 dw yf;go_upto_region 13 with fail
  generalize (w6.setCell ⟨t,1,none⟩ (.slice u1 m1 d1)).setCell ⟨t,2,none⟩ (.slice u2 m2 d2)=W7 at *;clear l0 l1 y1 y2 yf1 yf2;have G0:=hidF (zDh (w0:=w) (x:=X) (S:=tB) 1 id qty price HM7.out (HT7.out.mono tA_tB) tA_tB MY.out Cg.out);go_wp2_with fail;refine G0.out.mono ?_;rintro e w8⟨rfl,HR⟩;go_wp2_with fail;go_ret;exact HR.out
theorem zPA(b t:Nat)(s:TS)(v:TV)(id price qty:Int)(w:World)(h:TM w b t s v)(hw:Wf s)(hl:s.evs.length≤900000)(hr:s.row.length≤800000)(hid:(Lit.int .i64 id).wf=true) :
  Calls prog 33 #[.pointer (some ⟨t,0,none⟩),.int .i64 id,.int .i64 price,.int .i64 qty] w (Res tB b t w (swap s id price qty)):=by
 obtain⟨x0,x1,x2,x3,x4,x5,x6,x7,-⟩:=h.cells;obtain⟨X,hX⟩:∃X,X=swap s id price qty:=⟨_,rfl⟩;rw[←hX];unfold swap at hX;have Ho:Hid (∀U,Below w.heap.size w U→TM U b t s v∧Tn tB b w U):=fun U hU=>⟨h.below hU,Tn.below hU h.base⟩
 have HW:=hidF hw;have HL:=hidF hl;have HRO:=hidF hr;have Dr:=hidF hid;by_cases hE:swp.fE s.bs s.ss id price=0
 rotate_left
 ·rw[if_neg hE] at hX;have HX:=hidF hX;have HKB:=hidF (swp.zLW v.q1 v.q2 v.n1 v.n2 v.c1 v.c2 s.bs s.ss id price qty hid w h.buys.ls h.sells.ls hE);generalize swp.fE s.bs s.ss id price=K at *;obtain⟨q1,n1,c1,q2,n2,c2,sp,vw,pp,qe,ne,ce,qk,nk,ck⟩:=v;simp only[] at x0 x1 x2 x3 x4 x5 x6 x7 HKB;clear h hw hl hr hid hX;go_enter func33,ntmps33;go_wp2_with fail;refine HKB.out.mono ?_;rintro e w1⟨rfl,b1⟩;have HT:=hidF (Ho.out w1 b1).2;clear b1 x0 x1 x2 x3 x4 x5 x6 x7;go_wp2_with fail;go_ret;exact zAE HX.out hE HT.out
 rw[if_pos hE] at hX;obtain⟨-,Hv,uo⟩:=swp.zFQ hE;have hA:=wAs hw.book Hv;have bh:=hidF Hv;have uX:=hidF uo;cases Ue:swp.zDt (spot s.bs s.ss id).p (spot s.bs s.ss id).r price qty with
 | true=>
  rw[Ue,if_pos rfl] at hX;have dg:Hid (∀U,Below w.heap.size w U→Calls prog 65 #[.pointer (some ⟨t,0,none⟩),.int .i64 id,.int .i64 price,.int .i64 qty] U fun e w'=>∃E,e=.returned E∧Hid (Res tB b t w X (.returned E) w')):=fun U hU=>by
   obtain⟨k1,k2⟩:=Ho.out U hU;by_cases hq:1≤qty∧qty≤10000
   ·refine(zIf b t s v id price qty U k1 hw (by omega) Hv uo Ue hq).mono ?_
    intro e w' hR;exact(zCL (hR.step k2 (fun _ h=>h)) hX.symm).hidE
   ·refine(zKe b t s v id price qty U k1 hw Hv uo hq).mono ?_;intro e w' hR;exact(zCL (hR.step k2 (fun _ h=>h)) hX.symm).hidE
  generalize spot s.bs s.ss id=x at hA Ue;obtain⟨xs,xp,⟨r1,r2,r3,r4,r5⟩,xi,xk⟩:=x;simp only[] at Ue;have Bi:=hidF (swp.zIF v.q1 v.q2 v.n1 v.n2 v.c1 v.c2 s.bs s.ss id xs xp r1 r2 r3 r4 r5 price qty xi xk w h.buys.ls h.sells.ls hA uo);rw[Ue] at Bi;obtain⟨q1,n1,c1,q2,n2,c2,sp,vw,pp,qe,ne,ce,qk,nk,ck⟩:=v;simp only[] at x0 x1 x2 x3 x4 x5 x6 x7 Bi;clear h hw hl hr hid hX hA hE Hv uo Ue;go_enter func33,ntmps33;go_wp2_with fail;refine Bi.out.mono ?_;rintro e w1⟨rfl,b1⟩;have HB:=hidF b1;clear b1 x0 x1 x2 x3 x4 x5 x6 x7;go_wp2_with fail;refine(dg.out _ HB.out).mono ?_;rintro e w2⟨E,rfl,gJ⟩;go_wp2_with fail;go_ret;exact gJ.out
 | false=>
  rw[Ue] at hX;simp only[Bool.false_eq_true,if_false] at hX;have GJ:Hid (∀U,TM U b t s v→Calls prog 61 #[.pointer (some ⟨t,0,none⟩),.int .i64 id] U (Res tA b t U (leave s id))):=fun U hU=>zHe b t s v id U hU hw (by omega) hid
  generalize spot s.bs s.ss id=x at hA Ue hX;obtain⟨xs,xp,⟨r1,r2,r3,r4,r5⟩,xi,xk⟩:=x;simp only[] at Ue hX;have HX:=hidF hX;have Bi:=hidF (swp.zIF v.q1 v.q2 v.n1 v.n2 v.c1 v.c2 s.bs s.ss id xs xp r1 r2 r3 r4 r5 price qty xi xk w h.buys.ls h.sells.ls hA uo);rw[Ue] at Bi;have HF:Hid (∀U,TM U b t s v→Calls prog 60 #[.agg #[.slice v.q1 v.n1 v.c1,.slice v.q2 v.n2 v.c2],.int .i64 id] U fun e w'=>e=.returned (.tuple #[.int .i64 xs,.int .i64 xp,.agg #[.int .i64 r1,.int .i64 r2,.int .i64 r3,.int .i64 r4,.int .i64 r5],.nilIface])∧Below U.heap.size U w'):=fun U hU=>swp.zBQ v.q1 v.q2 v.n1 v.n2 v.c1 v.c2 s.bs s.ss id xs xp r1 r2 r3 r4 r5 xi xk U hU.buys.ls hU.sells.ls hA
  have HAN:=hidF (fun U=>swp.zOI xs r1 r2 r3 r4 r5 price qty U)
  obtain⟨MN,hMN⟩:∃MN,MN=min r5 qty:=⟨_,rfl⟩;rw[←hMN] at HAN HX;obtain⟨q1,n1,c1,q2,n2,c2,sp,vw,pp,qe,ne,ce,qk,nk,ck⟩:=v;simp only[] at x0 x1 x2 x3 x4 x5 x6 x7 Bi HF;clear h hw hl hr hid hX hA hE Hv uo Ue hMN;go_enter func33,ntmps33;go_wp2_with fail;refine Bi.out.mono ?_;rintro e w1⟨rfl,b1⟩;have HB:=hidF b1;obtain⟨-,y1,y2,-⟩:=(Ho.out w1 b1).1.cells;simp only[] at y1 y2;have G9:=hidF (HF.out w1 (Ho.out w1 b1).1);clear b1 x0 x1 x2 x3 x4 x5 x6 x7 Bi HF;go_wp2_with fail;refine G9.out.mono ?_;rintro e w3⟨rfl,b3⟩;obtain⟨W4,G4⟩:∃W4,W4=w3.alloc (.cells #[.int .i64 r1,.int .i64 r2,.int .i64 r3,.int .i64 r4,.int .i64 r5] 51):=⟨_,rfl⟩;have Gj:Below w3.heap.size w3 W4:=by rw[G4];exact(bzR _ _).alloc (nzR _) _
  have E4:W4.heap[w3.heap.size]?=some (.cells #[.int .i64 r1,.int .i64 r2,.int .i64 r3,.int .i64 r4,.int .i64 r5] 51 (0,0)):=by rw[G4];exact jA w3 _
  have Eo:=b3.trans (Gj.mono b3.size);have Gi:=hidF (HB.out.trans (Eo.mono HB.out.size));have Cb:=hidF (Ho.out W4 Gi.out);have M1:=hidF E4;have Dz:=hidF (GJ.out W4 Cb.out.1);clear b3 Gj E4 Eo HB Gi G9 GJ Ho y1 y2;go_upto_if 49 with fail
  rw[←G4];clear G4;generalize w3.heap.size=RB at *;go_wp2_with fail;refine Dz.out.mono ?_;intro e w5 hR;have Uz:=hidF (Cb.out.2.trans (hR.1.mono tA_tB));have dd:=hidF (hR.1.kp.typ _ _ _ M1.out (by decide))
  rcases zCS hR with ⟨s1,v1,gM,rfl,PM⟩|⟨k,rfl,HE⟩
  rotate_left
  ·have gJ:Hid (Res tB b t w X (.returned (.iface 90 (.int .i64 k))) w5):=zAE (by rw[HX.out,HE.out.1];rfl) HE.out.2 Uz.out
   clear hR;go_wp2_with fail;go_ret;exact gJ.out
  have Gl:Hid (X=place s1 ⟨r1,r2,xs,1,price,qty,MN,0⟩):=by show _=_;rw[HX.out,gM];rfl
  have HG:=hidF (zDi HW.out gM);have DZ:Hid (s1.row=s.row):=by
   show _=_
   unfold leave at gM;rw[if_pos bh.out] at gM;have mf:Wf { s with bs:=swp.cB (spot s.bs s.ss id).s s.bs (spot s.bs s.ss id).i (spot s.bs s.ss id).k,ss:=swp.cS (spot s.bs s.ss id).s s.ss (spot s.bs s.ss id).i (spot s.bs s.ss id).k }:=⟨HW.out.m0,HW.out.m3,zCh (wAs HW.out.book bh.out),HW.out.ok,HW.out.ws⟩
   exact(zGa mf gM).2.row
  have uw:Hid (∀U,Below w5.heap.size w5 U→Calls prog 31 #[.pointer (some ⟨t,0,none⟩),.agg #[.int .i64 r1,.int .i64 r2,.int .i64 xs,.int .i64 1,.int .i64 price,.int .i64 qty,.int .i64 MN,.int .i64 0]] U fun e w'=>∃E,e=.returned E∧Hid (Res tB b t w X (.returned E) w')):=fun U hU=>by
   refine(zHw b t s1 v1 r1 r2 xs 1 price qty MN 0 U (PM.out.below hU) HG.out.wf (by have:=HG.out.evs;have:=HL.out;omega) (by rw[DZ.out];have:=HRO.out;omega)).mono ?_
   intro e w' hR;exact(zCL (hR.step (Uz.out.trans (Tn.below hU PM.out.base)) (fun _ h=>h)) Gl.out.symm).hidE
  clear hR gM Dz Cb M1;obtain⟨z0,z1,z2,z3,z4,-⟩:=sid.zAi dd.out;go_wp2_with fail;refine(HAN.out _).mono ?_;rintro e w6⟨rfl,b6⟩;have HB6:=hidF b6;clear b6 z0 z1 z2 z3 z4;go_wp2_with fail;refine(uw.out _ HB6.out).mono ?_;rintro e w7⟨E,rfl,gJ⟩;go_wp2_with fail;go_ret;exact gJ.out
end flr
end Go.Proofs.YtnfilcpnneckkaaGreat
