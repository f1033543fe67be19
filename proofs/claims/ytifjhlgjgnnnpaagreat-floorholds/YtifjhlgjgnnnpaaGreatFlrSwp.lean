import Derived.Test.YtifjhlgjgnnnpaaGreatFlrSet
import Derived.Test.YtifjhlgjgnnnpaaGreatFlrWf
set_option maxHeartbeats 4000000
set_option maxRecDepth 100000
namespace Go.Proofs.YtifjhlgjgnnnpaaGreat
namespace flr
open Go.RowKit
open que (R rchk)
open sid (L DL LS)
open mee (T tV OwnT sumT)
open ord (O oV chk errV errV_zero errV_of prB)
open que (bal)
open bok (zAd zAh)
open slf (OwnI zHi)
open wak (OwnM OwnQ St SL Lies oL idx Trn)
theorem Res.hidE{S:List TypeId}{b t:Nat}{w w' : World}{x:Rs}{e:Ending}(h:Res S b t w x e w'):∃E,e=.returned E∧Hid (Res S b t w x (.returned E) w'):=by
 rcases h.two with ⟨_,_,_,rfl,_⟩|⟨_,_,_,rfl⟩
 ·exact⟨_,rfl,h⟩
 ·exact⟨_,rfl,h⟩
theorem zGR{b t:Nat}{s:TS}{v:TV}{a1 a2 a3 a4 a5 a6 a7 a8:Int}{q1 q2 qt qi:Option Addr}{n1 c1 n2 c2 nt ct ni ci:Nat}{g:Int}{E:Value}{w0 w:World}{X:Rs}(h:TM w b t s v)(hw:Wf s)(hV:VI s.mode s.bs s.ss ⟨a1,a2,a3,a4,a5,a6,a7,a8⟩ w q1 n1 c1 q2 n2 c2 qt nt ct g qi ni ci E)(h0:vE s.mode s.bs s.ss ⟨a1,a2,a3,a4,a5,a6,a7,a8⟩=0)(hT:Tn tB b w0 w)(hl:s.evs.length≤990000)(hr:s.row.length≤900000)(hX:X=settle s ⟨a1,a2,a3,a4,a5,a6,a7,a8⟩ (vR s.mode s.bs s.ss ⟨a1,a2,a3,a4,a5,a6,a7,a8⟩)) :
  Calls Tryz.prog 75 #[.pointer (some ⟨t,0,none⟩),.agg #[.int .i64 a1,.int .i64 a2,.int .i64 a3,.int .i64 a4,.int .i64 a5,.int .i64 a6,.int .i64 a7,.int .i64 a8],.agg #[.slice q1 n1 c1,.slice q2 n2 c2,.slice qt nt ct,.int .i64 g,.slice qi ni ci]] w fun e w'=>∃E,e=.returned E∧Hid (Res tB b t w0 X (.returned E) w'):=by
 obtain⟨-,k2,k3,k4,k5,k6⟩:=hV.ok h0
 refine(settle_any b t s v a1 a2 a3 a4 a5 a6 a7 a8 q1 q2 qt qi n1 c1 n2 c2 nt ct ni ci g _ w h hw k3 k4 k5 k6 k2 (zIg hw.m0 hw.m3 h0) (zQy hw.m0 hw.m3 h0) hl hr).mono ?_
 intro e w' hR
 exact(zCO (hR.step hT (fun _ h=>h)) hX.symm).hidE
theorem zON(b t:Nat)(s:TS)(v:TV)(a1 a2 a3 a4 a5 a6 a7 a8:Int)(w:World)(h:TM w b t s v)(hw:Wf s)(hl:s.evs.length≤990000)(hr:s.row.length≤900000) :
  Calls Tryz.prog 55 #[.pointer (some ⟨t,0,none⟩),.agg #[.int .i64 a1,.int .i64 a2,.int .i64 a3,.int .i64 a4,.int .i64 a5,.int .i64 a6,.int .i64 a7,.int .i64 a8]] w (Res tB b t w (rise s ⟨a1,a2,a3,a4,a5,a6,a7,a8⟩)):=by
 obtain⟨W,hW⟩:∃W,W=w.alloc (.cells #[.int .i64 a1,.int .i64 a2,.int .i64 a3,.int .i64 a4,.int .i64 a5,.int .i64 a6,.int .i64 a7,.int .i64 a8] 32):=⟨_,rfl⟩
 have hBW:Below w.heap.size w W:=by rw[hW];exact(bzR _ _).alloc (nzR _) _
 have hrow:W.heap[w.heap.size]?=some (.cells #[.int .i64 a1,.int .i64 a2,.int .i64 a3,.int .i64 a4,.int .i64 a5,.int .i64 a6,.int .i64 a7,.int .i64 a8] 32 (0,0)):=by rw[hW];exact jA w _
 obtain⟨G,hG⟩:∃G,G=w.heap.size:=⟨_,rfl⟩
 rw[←hG] at hrow
 obtain⟨X,hX⟩:∃X,X=rise s ⟨a1,a2,a3,a4,a5,a6,a7,a8⟩:=⟨_,rfl⟩
 rw[←hX]
 unfold rise at hX
 have HX:=hidF hX
 have HVI:=hidF (zGO b t s v a1 a2 a3 a4 a5 a6 a7 a8 W (h.below hBW) hw)
 have HSO:Hid (∀U,Below W.heap.size W U→TM U b t s v∧Tn tB b w U∧U.heap[G]?=some (.cells #[.int .i64 a1,.int .i64 a2,.int .i64 a3,.int .i64 a4,.int .i64 a5,.int .i64 a6,.int .i64 a7,.int .i64 a8] 32 (0,0))):=fun U hU=>by
  have hwU:=hBW.trans (hU.mono hBW.size)
  exact⟨h.below hwU,Tn.below hwU h.base,zBl hrow hU⟩
 have HW:=hidF hw
 have HL:=hidF hl
 have HR:=hidF hr
 obtain⟨c0,c1,c2,c3,c4,c5,c6,c7,-⟩:=wak.row8 hrow
 clear h hw hl hr hX hBW hrow
 go_enter Tryz.func55,Tryz.ntmps55
 go_wp2_with fail
 rw[←hW]
 simp only[←hG]
 clear hW hG
 refine HVI.out.mono ?_
 rintro e w1⟨q1,n1,c1',q2,n2,c2',qt,nt,ct,g,qi,ni,ci,E,rfl,hV,b1⟩
 obtain⟨W2,hW2⟩:∃W2,W2=w1.alloc (.cells #[.slice q1 n1 c1',.slice q2 n2 c2',.slice qt nt ct,.int .i64 g,.slice qi ni ci] 132):=⟨_,rfl⟩
 have hb2:Below w1.heap.size w1 W2:=by rw[hW2];exact(bzR _ _).alloc (nzR _) _
 have hr2:W2.heap[w1.heap.size]?=some (.cells #[.slice q1 n1 c1',.slice q2 n2 c2',.slice qt nt ct,.int .i64 g,.slice qi ni ci] 132 (0,0)):=by rw[hW2];exact jA w1 _
 obtain⟨k1,k2,k3⟩:=HSO.out W2 (b1.trans (hb2.mono b1.size))
 have hV2:=hV.kp (S:=[]) (Kp.below hb2) (by simp) (by simp) (by simp) (by simp)
 have HK1:=hidF k1
 have HK2:=hidF k2
 have HK3:=hidF k3
 have HR2:=hidF hr2
 have HV2:=hidF hV2
 clear c0 c1 c2 c3 c4 c5 c6 c7 hV b1 hb2 hr2 k1 k2 k3 hV2 HSO HVI
 by_cases hE:vE s.mode s.bs s.ss ⟨a1,a2,a3,a4,a5,a6,a7,a8⟩=0
 ·have HST:=hidF (zGR (X:=X) HK1.out HW.out HV2.out hE HK2.out HL.out HR.out (by rw[HX.out,if_pos hE]))
  obtain⟨rfl,-⟩:=HV2.out.ok hE
  go_upto_if 14 with fail
  rw[←hW2]
  clear hW2
  generalize w1.heap.size=VB at *
  obtain⟨c0,c1,c2,c3,c4,c5,c6,c7,-⟩:=wak.row8 HK3.out
  obtain⟨v0,v1,v2,v3,v4,-⟩:=sid.zAe HR2.out
  clear hE
  go_wp2_with fail
  refine HST.out.mono ?_
  rintro e w3⟨E,rfl,HRR⟩
  clear c0 c1 c2 c3 c4 c5 c6 c7 v0 v1 v2 v3 v4
  go_wp2_with fail
  go_ret
  exact HRR.out
 ·have hb:=HV2.out.bad hE
  have HXX:Hid (X=vanish s ⟨a1,a2,a3,a4,a5,a6,a7,a8⟩):=by show _=_;rw[HX.out,if_neg hE]
  have HVN:Hid (Calls Tryz.prog 79 #[.pointer (some ⟨t,0,none⟩),.agg #[.int .i64 a1,.int .i64 a2,.int .i64 a3,.int .i64 a4,.int .i64 a5,.int .i64 a6,.int .i64 a7,.int .i64 a8]] W2 fun e w'=>∃E,e=.returned E∧Hid (Res tB b t w X (.returned E) w')):=by
   refine(zER b t s v a1 a2 a3 a4 a5 a6 a7 a8 W2 HK1.out HW.out (by have:=HL.out;omega)).mono ?_
   intro e w' hR
   exact(zCO (hR.step HK2.out tA_tB) HXX.out.symm).hidE
  generalize vE s.mode s.bs s.ss ⟨a1,a2,a3,a4,a5,a6,a7,a8⟩=KE at *
  subst hb
  go_upto_if 14 with fail
  rw[←hW2]
  clear hW2
  generalize w1.heap.size=VB at *
  obtain⟨c0,c1,c2,c3,c4,c5,c6,c7,-⟩:=wak.row8 HK3.out
  clear hE
  go_wp2_with fail
  refine HVN.out.mono ?_
  rintro e w3⟨E,rfl,HRR⟩
  clear c0 c1 c2 c3 c4 c5 c6 c7
  go_wp2_with fail
  go_ret
  exact HRR.out
end flr
namespace flr
open Go.RowKit
open que (R rchk)
open sid (L DL LS)
open mee (T tV OwnT sumT)
open ord (O oV chk errV errV_zero errV_of prB)
open que (bal)
open bok (zAd zAh)
open slf (OwnI zHi)
open mrg (forC forS zEn)
open wak (OwnM OwnQ St SL Lies oL idx Trn)
theorem chk_id{o:O}(h:chk o=0):(Lit.int .i64 o.id).wf=true:=by
 have:=(ord.zBx h).1
 unfold ord.zCM at this
 simp only[Bool.and_eq_true,decide_eq_true_eq] at this
 have h1:(-9223372036854775808:Int)≤o.id:=by omega
 have h2:o.id≤9223372036854775807:=by omega
 show (decide (_≤o.id) && decide (o.id≤_))=true
 rw[Bool.and_eq_true,decide_eq_true_eq,decide_eq_true_eq]
 exact⟨h1,h2⟩
theorem zMj{w0 w w' : World}{b t:Nat}{s:TS}{v:TV}{who c d:Int}(h:TM w b t s v)(h0:Tn tA b w0 w)(hp:pur.Pu 110 9 w' v.pp (pur.zBu s.ps who c d))(hg:w.grownBy w' (some v.pp)):Res tA b t w0 (zDw s who c d) (.returned (errV (pur.zBD s.ps who c d))) w':=by
 unfold zDw
 by_cases e:pur.zBD s.ps who c d=0
 ·rw[if_pos e,e];obtain⟨a1,a2⟩:=h.pay hp hg;exact⟨h0.trans a2,rfl,v,a1⟩
 ·rw[if_neg e,errV_of e];exact⟨h0.trans (h.pay hp hg).2,e,rfl⟩
theorem zGS(b t:Nat)(s:TS)(v:TV)(a1 a2 a3 a4 a5 a6 a7 a8:Int)(w:World)(h:TM w b t s v)(hw:Wf s)(hl:s.evs.length≤980000)(hr:s.row.length≤900000) :
  Calls Tryz.prog 49 #[.pointer (some ⟨t,0,none⟩),.agg #[.int .i64 a1,.int .i64 a2,.int .i64 a3,.int .i64 a4,.int .i64 a5,.int .i64 a6,.int .i64 a7,.int .i64 a8]] w (Res tB b t w (place s ⟨a1,a2,a3,a4,a5,a6,a7,a8⟩)):=by
 obtain⟨W,hW⟩:∃W,W=w.alloc (.cells #[.int .i64 a1,.int .i64 a2,.int .i64 a3,.int .i64 a4,.int .i64 a5,.int .i64 a6,.int .i64 a7,.int .i64 a8] 32):=⟨_,rfl⟩
 have hBW:Below w.heap.size w W:=by rw[hW];exact(bzR _ _).alloc (nzR _) _
 have hrow:W.heap[w.heap.size]?=some (.cells #[.int .i64 a1,.int .i64 a2,.int .i64 a3,.int .i64 a4,.int .i64 a5,.int .i64 a6,.int .i64 a7,.int .i64 a8] 32 (0,0)):=by rw[hW];exact jA w _
 obtain⟨G,hG⟩:∃G,G=w.heap.size:=⟨_,rfl⟩
 rw[←hG] at hrow
 obtain⟨X,hX⟩:∃X,X=place s ⟨a1,a2,a3,a4,a5,a6,a7,a8⟩:=⟨_,rfl⟩
 rw[←hX]
 unfold place at hX
 simp only[] at hX
 have HX:=hidF hX
 have HFO:=hidF (zEn ⟨a1,a2,a3,a4,a5,a6,a7,a8⟩ W)
 rw[show oV ⟨a1,a2,a3,a4,a5,a6,a7,a8⟩=.agg #[.int .i64 a1,.int .i64 a2,.int .i64 a3,.int .i64 a4,.int .i64 a5,.int .i64 a6,.int .i64 a7,.int .i64 a8] from rfl] at HFO
 have HSO:Hid (∀U,Below W.heap.size W U→TM U b t s v∧Tn tA b w U∧U.heap[G]?=some (.cells #[.int .i64 a1,.int .i64 a2,.int .i64 a3,.int .i64 a4,.int .i64 a5,.int .i64 a6,.int .i64 a7,.int .i64 a8] 32 (0,0))):=fun U hU=>by
  have hwU:=hBW.trans (hU.mono hBW.size)
  exact⟨h.below hwU,Tn.below hwU h.base,zBl hrow hU⟩
 have HW:=hidF hw
 have HL:=hidF hl
 have HR:=hidF hr
 obtain⟨c0,c1,c2,c3,c4,c5,c6,c7,-⟩:=wak.row8 hrow
 obtain⟨C,hC⟩:∃C,C=forC ⟨a1,a2,a3,a4,a5,a6,a7,a8⟩:=⟨_,rfl⟩
 obtain⟨D,hD⟩:∃D,D=forS ⟨a1,a2,a3,a4,a5,a6,a7,a8⟩:=⟨_,rfl⟩
 rw[←hC,←hD] at HFO HX
 clear hC hD h hw hl hr hX hBW hrow
 by_cases hE:chk ⟨a1,a2,a3,a4,a5,a6,a7,a8⟩=0
 rotate_left
 ·rw[errV_of hE] at HFO
  have HXX:Hid (X=.error (chk ⟨a1,a2,a3,a4,a5,a6,a7,a8⟩)):=by show _=_;rw[HX.out,if_neg hE]
  generalize chk ⟨a1,a2,a3,a4,a5,a6,a7,a8⟩=K at *
  clear c0 c1 c2 c3 c4 c5 c6 c7
  go_enter Tryz.func49,Tryz.ntmps49
  go_wp2_with fail
  rw[←hW]
  clear hW hG
  refine HFO.out.mono ?_
  rintro e w1⟨rfl,b1⟩
  have HB1:=hidF (HSO.out w1 b1).2.1
  clear b1 HFO
  go_wp2_with fail
  go_ret
  exact zAD HXX.out hE (HB1.out.mono tA_tB)
 rw[hE,errV_zero] at HFO
 have HX1:Hid (X=if has s a1=true then .error 7 else (zDw s a2 C D).bind fun s1=>if a8=0 then come s1 ⟨a1,a2,a3,a4,a5,a6,a7,a8⟩ else sleep s1 ⟨a1,a2,a3,a4,a5,a6,a7,a8⟩):=by show _=_;rw[HX.out,if_pos hE]
 have HID:=hidF (chk_id hE)
 simp only[] at HID
 clear hE HX
 go_enter Tryz.func49,Tryz.ntmps49
 go_wp2_with fail
 rw[←hW]
 simp only[←hG]
 clear hW hG
 refine HFO.out.mono ?_
 rintro e w1⟨rfl,b1⟩
 have HB1:=hidF b1
 obtain⟨k1,k2,k3⟩:=HSO.out w1 b1
 have HHA:=hidF (zQw b t s v a1 w1 k1 HW.out HID.out)
 clear c0 c1 c2 c3 c4 c5 c6 c7 b1 HFO k1 k2
 obtain⟨c0,c1,c2,c3,c4,c5,c6,c7,-⟩:=wak.row8 k3
 clear k3
 generalize hhs:has s a1=HS at *
 go_wp2_with fail
 refine HHA.out.mono ?_
 rintro e w2⟨rfl,b2⟩
 have HB2:=hidF (HB1.out.trans (b2.mono HB1.out.size))
 clear b2 c0 c1 c2 c3 c4 c5 c6 c7 HHA HB1
 cases HS with
 | true=>
  have HT:=hidF (HSO.out w2 HB2.out).2.1
  have HXX:Hid (X=.error 7):=by show _=_;rw[HX1.out];rfl
  go_wp2_with fail
  go_ret
  exact zAD HXX.out (by decide) (HT.out.mono tA_tB)
 | false=>
 have HX2:Hid (X=(zDw s a2 C D).bind fun s1=>if a8=0 then come s1 ⟨a1,a2,a3,a4,a5,a6,a7,a8⟩ else sleep s1 ⟨a1,a2,a3,a4,a5,a6,a7,a8⟩):=by show _=_;rw[HX1.out];rfl
 have HHO:Hid (∀U,Below w2.heap.size w2 U→Calls Tryz.prog 72 #[.pointer (some ⟨v.pp,0,none⟩),.int .i64 a2,.int .i64 C,.int .i64 D] U fun e w'=>∃E,e=.returned E∧Hid ((∃s1 v1,E=.nilIface∧Hid (TM w' b t s1 v1∧Wf s1∧Sm s s1 0∧Tn tB b w w'∧X=if a8=0 then come s1 ⟨a1,a2,a3,a4,a5,a6,a7,a8⟩ else sleep s1 ⟨a1,a2,a3,a4,a5,a6,a7,a8⟩)∧w'.heap[G]?=some (.cells #[.int .i64 a1,.int .i64 a2,.int .i64 a3,.int .i64 a4,.int .i64 a5,.int .i64 a6,.int .i64 a7,.int .i64 a8] 32 (0,0)))∨∃k,E=.iface 91 (.int .i64 k)∧Hid (Res tB b t w X (.returned (.iface 91 (.int .i64 k))) w'))):=fun U hU=>by
  obtain⟨k1,k2,k3⟩:=HSO.out U (HB2.out.trans (hU.mono HB2.out.size))
  refine(pur.zOh v.pp s.ps a2 C D U k1.purs HW.out.ok).mono ?_
  rintro e w'⟨rfl,k4,k5⟩
  have hR:=zMj k1 k2 k4 k5
  have h6:=(Kp.grown (S:=tA) k5 k1.purs.2 (by decide)).typ _ _ _ k3 (by decide)
  refine⟨_,rfl,?_⟩
  show _∨_
  rcases hR.two with ⟨s1,v1,hx1,he,hM⟩|⟨k,hx1,hk,he⟩
  ·obtain⟨f1,f2⟩:=zLE HW.out hx1
   refine .inl ⟨s1,v1,by injection he,?_,h6⟩
   show _∧_∧_∧_∧_
   exact⟨hM,f1,f2,hR.1.mono tA_tB,by rw[HX2.out,hx1];rfl⟩
  ·refine .inr ⟨k,by injection he,?_⟩
   show Res _ _ _ _ _ _ _
   exact zAD (by rw[HX2.out,hx1];rfl) hk (hR.1.mono tA_tB)
 have HRF:=hidF (bzR w2.heap.size w2)
 obtain⟨k1,-,k3⟩:=HSO.out w2 HB2.out
 obtain⟨-,-,-,-,y4,-⟩:=k1.cells
 obtain⟨c0,c1,c2,c3,c4,c5,c6,c7,-⟩:=wak.row8 k3
 obtain⟨r1,r2,r3,r4,r5,r6,r7,r8,upp,qe,ne,ce,qk,nk,ck⟩:=v
 simp only[] at y4
 clear k1 k3 HX1 HX2 HSO hhs
 go_upto_region 6 with fail
 go_region_with (go_at_call 72;with_reducible refine(HHO.out _ ?_).mono ?_;(with_reducible repeat' (first|exact HRF.out|assumption|refine Below.drew ?_));rintro x w3 ⟨E,rfl,HOR⟩)
 all_goals
  clear y4 c0 c1 c2 c3 c4 c5 c6 c7 HHO HRF HB2
  rcases HOR.out with ⟨s1,v1,rfl,HM3,h6⟩|⟨k,rfl,HRR⟩
  rotate_left
  ·clear HOR
   go_wp2_with fail
   go_ret
   exact HRR.out
  clear HOR
  have HR6:=hidF h6
  have HL1:Hid (s1.evs.length≤980000∧s1.row.length≤900000):=by
   refine⟨?_,?_⟩
   ·rw[HM3.out.2.2.1.evs];exact HL.out
   ·rw[HM3.out.2.2.1.row];exact HR.out
  obtain⟨c0,c1,c2,c3,c4,c5,c6,c7,-⟩:=wak.row8 h6
  clear h6
  by_cases h8:a8=0
  rotate_left
  ·have HSL:Hid (Calls Tryz.prog 73 #[.pointer (some ⟨t,0,none⟩),.agg #[.int .i64 a1,.int .i64 a2,.int .i64 a3,.int .i64 a4,.int .i64 a5,.int .i64 a6,.int .i64 a7,.int .i64 a8]] w3 fun e w'=>∃E,e=.returned E∧Hid (Res tB b t w X (.returned E) w')):=by
    obtain⟨m1,m2,m3,m4,m5⟩:=HM3.out
    refine(zLD b t s1 v1 a1 a2 a3 a4 a5 a6 a7 a8 w3 m1 m2 (by have:=HL1.out.1;omega)).mono ?_
    intro e w' hR
    refine(zCO (hR.step m4 (fun _ h=>h)) ?_).hidE
    rw[m5,if_neg h8]
   have h8b:(a8 == 0)=false:=by simp[h8]
   go_wp2_with fail
   refine HSL.out.mono ?_
   rintro e w4⟨E,rfl,HRR⟩
   clear c0 c1 c2 c3 c4 c5 c6 c7
   go_wp2_with fail
   go_ret
   exact HRR.out
  subst h8
  have HVI:=hidF (zGO b t s1 v1 a1 a2 a3 a4 a5 a6 a7 0 w3 HM3.out.1 HM3.out.2.1)
  have HX3:Hid (X=come s1 ⟨a1,a2,a3,a4,a5,a6,a7,0⟩):=by show _=_;rw[HM3.out.2.2.2.2,if_pos rfl]
  go_wp2_with fail
  refine HVI.out.mono ?_
  rintro e w4⟨q1,n1,c1',q2,n2,c2',qt,nt,ct,g,qi,ni,ci,E,rfl,hV,b1⟩
  obtain⟨W2,hW2⟩:∃W2,W2=w4.alloc (.cells #[.slice q1 n1 c1',.slice q2 n2 c2',.slice qt nt ct,.int .i64 g,.slice qi ni ci] 132):=⟨_,rfl⟩
  have hb2:Below w4.heap.size w4 W2:=by rw[hW2];exact(bzR _ _).alloc (nzR _) _
  have hr2:W2.heap[w4.heap.size]?=some (.cells #[.slice q1 n1 c1',.slice q2 n2 c2',.slice qt nt ct,.int .i64 g,.slice qi ni ci] 132 (0,0)):=by rw[hW2];exact jA w4 _
  have hbb:=b1.trans (hb2.mono b1.size)
  have HK1:=hidF (HM3.out.1.below hbb)
  have HK2:=hidF (HM3.out.2.2.2.1.trans (Tn.below hbb HM3.out.1.base))
  have HK3:=hidF (zBl HR6.out hbb)
  have HR2:=hidF hr2
  have HV2:=hidF (hV.kp (S:=[]) (Kp.below hb2) (by simp) (by simp) (by simp) (by simp))
  clear c0 c1 c2 c3 c4 c5 c6 c7 hV b1 hb2 hr2 hbb HVI
  by_cases hE:vE s1.mode s1.bs s1.ss ⟨a1,a2,a3,a4,a5,a6,a7,0⟩=0
  ·have HST:=hidF (zGR (X:=X) HK1.out HM3.out.2.1 HV2.out hE HK2.out (by have:=HL1.out.1;omega) HL1.out.2 (by rw[HX3.out];unfold come;rw[if_pos hE]))
   obtain⟨rfl,-⟩:=HV2.out.ok hE
   go_upto_if 50 with fail
   rw[←hW2]
   clear hW2
   generalize w4.heap.size=VB at *
   obtain⟨c0,c1,c2,c3,c4,c5,c6,c7,-⟩:=wak.row8 HK3.out
   obtain⟨v0,v1,v2,v3,v4,-⟩:=sid.zAe HR2.out
   clear hE
   go_wp2_with fail
   refine HST.out.mono ?_
   rintro e w5⟨E,rfl,HRR⟩
   clear c0 c1 c2 c3 c4 c5 c6 c7 v0 v1 v2 v3 v4
   go_wp2_with fail
   go_ret
   exact HRR.out
  ·have hb:=HV2.out.bad hE
   have HXX:Hid (X=.error (vE s1.mode s1.bs s1.ss ⟨a1,a2,a3,a4,a5,a6,a7,0⟩)):=by show _=_;rw[HX3.out];unfold come;rw[if_neg hE]
   generalize vE s1.mode s1.bs s1.ss ⟨a1,a2,a3,a4,a5,a6,a7,0⟩=KE at *
   subst hb
   have HRR:Hid (Res tB b t w X (.returned (.iface 91 (.int .i64 KE))) W2):=zAD HXX.out hE HK2.out
   go_upto_if 50 with fail
   rw[←hW2]
   clear hW2
   go_wp2_with fail
   go_ret
   exact HRR.out
end flr
namespace flr
open Go.RowKit
open que (R rchk)
open sid (L DL LS)
open mee (T tV OwnT sumT)
open ord (O oV chk errV errV_zero errV_of prB)
open que (bal)
open bok (zAd zAh)
open tickP (zAm)
open wak (OwnM OwnQ St SL Lies oL idx Trn)
theorem zMk{r:R}{q:Int}(h:rchk r=0)(h1:1≤q)(h2:q≤10000):wrap64 (r.qty+r.hid - q)=r.qty+r.hid - q:=by
 obtain⟨a,b,-⟩:=que.zAt h
 unfold wrap64;omega
theorem zJu(b t:Nat)(s:TS)(v:TV)(id price qty:Int)(w:World)(h:TM w b t s v)(hw:Wf s)(hin:zAh s.bs s.ss id=true)(hpr:zAm price=true)(hq:¬(1≤qty∧qty≤10000)) :
  Calls Tryz.prog 81 #[.pointer (some ⟨t,0,none⟩),.int .i64 id,.int .i64 price,.int .i64 qty] w (Res tB b t w (shrink s id price qty)):=by
 obtain⟨x0,x1,x2,x3,x4,x5,x6,x7,-⟩:=h.cells
 have hA:=spot_at hw.book hin
 have HX:Hid (shrink s id price qty=.error 1):=by show _=_;unfold shrink;simp only[];rw[if_neg hq]
 rw[HX.out]
 generalize spot s.bs s.ss id=x at hA
 obtain⟨xs,xp,⟨r1,r2,r3,r4,r5⟩,xi,xk⟩:=x
 have hqb:(decide (1≤qty) && decide (qty≤10000))=false:=by
  cases hh:(decide (1≤qty) && decide (qty≤10000)) with
  | false=>rfl
  | true=>simp only[Bool.and_eq_true,decide_eq_true_eq] at hh;exact absurd hh hq
 have HSD:=hidF (swp.zPX v.q1 v.q2 v.n1 v.n2 v.c1 v.c2 s.bs s.ss id xs xp r1 r2 r3 r4 r5 price qty xi xk w h.buys.ls h.sells.ls hA hpr hqb)
 have HB:=hidF h.base
 obtain⟨q1,n1,c1,q2,n2,c2,sp,vw,pp,qe,ne,ce,qk,nk,ck⟩:=v
 simp only[] at x0 x1 x2 x3 x4 x5 x6 x7 HSD
 clear h hw hA hin hpr hq hqb
 go_enter Tryz.func81,Tryz.ntmps81
 go_wp2_with fail
 refine HSD.out.mono ?_
 rintro e w1⟨rfl,b1⟩
 have HT:=hidF (Tn.below (S:=tB) (b1.alloc b1.size (.cells #[.slice none 0 0,.slice none 0 0] 46)) HB.out)
 clear b1 x0 x1 x2 x3 x4 x5 x6 x7
 go_wp2_with fail
 go_ret
 exact zAD rfl (by decide) HT.out
theorem zHx(b t:Nat)(s:TS)(v:TV)(id price qty:Int)(w:World)(h:TM w b t s v)(hw:Wf s)(hl:s.evs.length≤990000)(hin:zAh s.bs s.ss id=true)(hpr:zAm price=true)(hkb:swp.zDF (spot s.bs s.ss id).p (spot s.bs s.ss id).r price qty=true)(hq:1≤qty∧qty≤10000) :
  Calls Tryz.prog 81 #[.pointer (some ⟨t,0,none⟩),.int .i64 id,.int .i64 price,.int .i64 qty] w (Res tB b t w (shrink s id price qty)):=by
 obtain⟨x0,x1,x2,x3,x4,x5,x6,x7,-⟩:=h.cells
 have hA:=spot_at hw.book hin
 obtain⟨X,hX⟩:∃X,X=shrink s id price qty:=⟨_,rfl⟩
 rw[←hX]
 unfold shrink at hX
 simp only[] at hX
 rw[if_pos hq] at hX
 generalize spot s.bs s.ss id=x at hA hX hkb
 obtain⟨xs,xp,⟨r1,r2,r3,r4,r5⟩,xi,xk⟩:=x
 simp only[] at hX hkb
 have hqb:(decide (1≤qty) && decide (qty≤10000))=true:=by simp[hq.1,hq.2]
 have HSD:Hid (Calls Tryz.prog 111 #[.agg #[.slice v.q1 v.n1 v.c1,.slice v.q2 v.n2 v.c2],.int .i64 id,.int .i64 price,.int .i64 qty] w fun e w'=>∃u1 u2 m1 m2 d1 d2,e=.returned (.tuple #[.agg #[.slice u1 m1 d1,.slice u2 m2 d2],.slice none 0 0,.int .i64 0,.nilIface])∧Hid (DL w' 0 (.slice u1 m1 d1) (swp.kB xs s.bs xi xk (swp.zAS ⟨r1,r2,r3,r4,r5⟩ qty)))∧Hid (DL w' 0 (.slice u2 m2 d2) (swp.kS xs s.ss xi xk (swp.zAS ⟨r1,r2,r3,r4,r5⟩ qty)))∧Below w.heap.size w w'):=by
  refine(swp.zNU v.q1 v.q2 v.n1 v.n2 v.c1 v.c2 s.bs s.ss id xs xp r1 r2 r3 r4 r5 price qty xi xk w h.buys.ls h.sells.ls hA hpr hqb hkb).mono ?_
  rintro e w'⟨u1,u2,m1,m2,d1,d2,rfl,k2,k3,k4⟩
  exact⟨u1,u2,m1,m2,d1,d2,rfl,k2.mono (jL _),k3.mono (jL _),k4⟩
 have HSO:Hid (∀U,Below w.heap.size w U→TM U b t s v∧Tn tA b w U):=fun U hU=>⟨h.below hU,Tn.below hU h.base⟩
 have HF:Hid (∀U,Below w.heap.size w U→Calls Tryz.prog 76 #[.agg #[.slice v.q1 v.n1 v.c1,.slice v.q2 v.n2 v.c2],.int .i64 id] U fun e w'=>e=.returned (.tuple #[.int .i64 xs,.int .i64 xp,.agg #[.int .i64 r1,.int .i64 r2,.int .i64 r3,.int .i64 r4,.int .i64 r5],.nilIface])∧Below U.heap.size U w'):=fun U hU=>swp.zBS v.q1 v.q2 v.n1 v.n2 v.c1 v.c2 s.bs s.ss id xs xp r1 r2 r3 r4 r5 xi xk U (h.below hU).buys.ls (h.below hU).sells.ls hA
 have HAL:=hidF (fun U=>all_any r1 r2 r3 r4 r5 U hA.rest)
 have HOV:=hidF (zMk hA.rest hq.1 hq.2)
 simp only[] at HOV
 obtain⟨OV,hOV⟩:∃OV,OV=r3+r4 - qty:=⟨_,rfl⟩
 rw[←hOV] at hX HOV
 have HOV2:Hid (wrap64 (r3+r4 - qty)=OV):=by show _=_;rw[hOV];rw[hOV] at HOV;exact HOV.out
 obtain⟨AL,hAL⟩:∃AL,AL=r3+r4:=⟨_,rfl⟩
 rw[←hAL] at HAL HOV2
 have HX:=hidF hX
 have HW:=hidF hw
 have HL:=hidF hl
 have HFR:=hidF (fun U hU=>free_any b t s v id r2 OV 0 0 xs price U hU hw)
 obtain⟨q1,n1,c1,q2,n2,c2,sp,vw,pp,qe,ne,ce,qk,nk,ck⟩:=v
 simp only[] at x0 x1 x2 x3 x4 x5 x6 x7 HSD HF
 clear h hw hA hX hin hl hpr hkb hq hqb hOV hAL HOV
 go_enter Tryz.func81,Tryz.ntmps81
 go_wp2_with fail
 refine HSD.out.mono ?_
 rintro e w1⟨u1,u2,m1,m2,d1,d2,rfl,HD1,HD2,b1⟩
 obtain⟨W2,hW2⟩:∃W2,W2=w1.alloc (.cells #[.slice u1 m1 d1,.slice u2 m2 d2] 46):=⟨_,rfl⟩
 have hb2:Below w1.heap.size w1 W2:=by rw[hW2];exact(bzR _ _).alloc (nzR _) _
 have hr2:W2.heap[w1.heap.size]?=some (.cells #[.slice u1 m1 d1,.slice u2 m2 d2] 46 (0,0)):=by rw[hW2];exact jA w1 _
 have HB2:=hidF (b1.trans (hb2.mono b1.size))
 have HDD:=hidF (And.intro (HD1.out.below hb2) (HD2.out.below hb2))
 have HR2:=hidF hr2
 obtain⟨-,y1,y2,-⟩:=(HSO.out W2 HB2.out).1.cells
 simp only[] at y1 y2
 clear b1 hb2 hr2 HD1 HD2 HSD x0 x1 x2 x3 x4 x5 x6 x7
 go_upto_if 33 with fail
 rw[←hW2]
 clear hW2
 generalize w1.heap.size=LB at *
 go_wp2_with fail
 refine(HF.out _ HB2.out).mono ?_
 rintro e w3⟨rfl,b3⟩
 obtain⟨W4,hW4⟩:∃W4,W4=w3.alloc (.cells #[.int .i64 r1,.int .i64 r2,.int .i64 r3,.int .i64 r4,.int .i64 r5] 54):=⟨_,rfl⟩
 have hb4:Below w3.heap.size w3 W4:=by rw[hW4];exact(bzR _ _).alloc (nzR _) _
 have hr4:W4.heap[w3.heap.size]?=some (.cells #[.int .i64 r1,.int .i64 r2,.int .i64 r3,.int .i64 r4,.int .i64 r5] 54 (0,0)):=by rw[hW4];exact jA w3 _
 have hb24:=b3.trans (hb4.mono b3.size)
 have HB4:=hidF (HB2.out.trans (hb24.mono HB2.out.size))
 have HDD4:=hidF (And.intro (HDD.out.1.below hb24) (HDD.out.2.below hb24))
 have HR24:=hidF (zBl HR2.out hb24)
 have HR4:=hidF hr4
 clear b3 hb4 hr4 hb24 HDD HR2 HB2 HF y1 y2
 go_upto_if 48 with fail
 rw[←hW4]
 clear hW4
 generalize w3.heap.size=RB at *
 obtain⟨z0,z1,z2,z3,z4,-⟩:=sid.zAe HR4.out
 go_wp2_with fail
 refine(HAL.out _).mono ?_
 rintro e w5⟨rfl,b5⟩
 have HB5:=hidF (HB4.out.trans (b5.mono HB4.out.size))
 have HDD5:=hidF (And.intro (HDD4.out.1.below b5) (HDD4.out.2.below b5))
 have HR25:=hidF (zBl HR24.out b5)
 have HR5:=hidF (zBl HR4.out b5)
 have HSO5:=hidF (HSO.out w5 HB5.out)
 clear b5 HB4 HDD4 HR24 HR4 z0 z1 z2 z3 z4 HSO
 obtain⟨z0,z1,z2,z3,z4,-⟩:=sid.zAe HR5.out
 have hov:=HOV2.out
 by_cases ho:0<OV
 case' pos=>
  have HXX:Hid (X=(zCU s ⟨id,r2,OV,0,0⟩ xs price).bind fun s1=>.ok (tell { s1 with bs:=swp.kB xs s.bs xi xk (swp.zAS ⟨r1,r2,r3,r4,r5⟩ qty),ss:=swp.kS xs s.ss xi xk (swp.zAS ⟨r1,r2,r3,r4,r5⟩ qty) } 1 id qty price)):=by show _=_;rw[HX.out,if_pos ho]
  have HFR5:=hidF (HFR.out w5 HSO5.out.1)
  go_wp2_with fail
  refine HFR5.out.mono ?_
  intro e w6 hR
  have HT6:=hidF (HSO5.out.2.trans hR.1)
  have HDD6:=hidF (And.intro (hR.1.kp.dl HDD5.out.1 (by decide) (by decide)) (hR.1.kp.dl HDD5.out.2 (by decide) (by decide)))
  have HR6:=hidF (hR.1.kp.typ _ _ _ HR25.out (by decide))
  rcases zCV hR with ⟨s1,v1,hx1,rfl,HM6⟩|⟨k,rfl,HE⟩
  rotate_left
  ·have HRR:Hid (Res tB b t w X (.returned (.iface 91 (.int .i64 k))) w6):=zAD (by rw[HXX.out,HE.out.1];rfl) HE.out.2 (HT6.out.mono tA_tB)
   clear hR z0 z1 z2 z3 z4 hov
   go_wp2_with fail
   go_ret
   exact HRR.out
  have HXY:Hid (X=.ok (tell { s1 with bs:=swp.kB xs s.bs xi xk (swp.zAS ⟨r1,r2,r3,r4,r5⟩ qty),ss:=swp.kS xs s.ss xi xk (swp.zAS ⟨r1,r2,r3,r4,r5⟩ qty) } 1 id qty price)):=by show _=_;rw[HXX.out,hx1];rfl
  have HE6:Hid (s1.evs.length≤1000000):=by show _≤_;have:=(zDS HW.out hx1).2.evs;have:=HL.out;omega
  clear hR hx1 hov
 case' neg=>
  have HXY:Hid (X=.ok (tell { s with bs:=swp.kB xs s.bs xi xk (swp.zAS ⟨r1,r2,r3,r4,r5⟩ qty),ss:=swp.kS xs s.ss xi xk (swp.zAS ⟨r1,r2,r3,r4,r5⟩ qty) } 1 id qty price)):=by show _=_;rw[HX.out,if_neg ho];rfl
  have HT6:=hidF HSO5.out.2
  have HDD6:=HDD5
  have HR6:=HR25
  have HM6:=hidF HSO5.out.1
  have HE6:Hid (s.evs.length≤1000000):=by show _≤_;have:=HL.out;omega
  obtain⟨v1,hv1⟩:∃v1,v1=(⟨q1,n1,c1,q2,n2,c2,sp,vw,pp,qe,ne,ce,qk,nk,ck⟩:TV):=⟨_,rfl⟩
  rw[←hv1] at HM6
  clear hv1
  obtain⟨s1,hs1⟩:∃s1,s1=s:=⟨_,rfl⟩
  rw[←hs1] at HM6 HE6
  have HXY:Hid (X=.ok (tell { s1 with bs:=swp.kB xs s.bs xi xk (swp.zAS ⟨r1,r2,r3,r4,r5⟩ qty),ss:=swp.kS xs s.ss xi xk (swp.zAS ⟨r1,r2,r3,r4,r5⟩ qty) } 1 id qty price)):=by show _=_;rw[hs1];exact HXY.out
  clear hs1
  obtain⟨w6,hw6⟩:∃w6,w6=w5:=⟨_,rfl⟩
  go_upto_region 12 with fail
  rw[←hw6] at HT6 HDD6 HR6 HM6 ⊢
  clear hw6 hov
 all_goals
  clear z0 z1 z2 z3 z4 HFR HSO5 HDD5 HR25 HR5 HX
  obtain⟨l0,l1,-⟩:=sid.zAb HR6.out
  obtain⟨-,y1,y2,-,-,-,-,-,yf⟩:=HM6.out.cells
  have yf1:=yf 1
  have yf2:=yf 2
  obtain⟨hM7,hT7⟩:=HM6.out.book HDD6.out.1 HDD6.out.2
  have HM7:=hidF hM7
  have HT7:=hidF (HT6.out.trans hT7)
  obtain⟨g1,g2,g3,g4,g5,g6,g7,g8,g9,g10,g11,g12,g13,g14,g15⟩:=v1
  simp only[] at y1 y2
  clear hM7 hT7 yf
  go_upto_region 13 with fail
  generalize (w6.setCell ⟨t,1,none⟩ (.slice u1 m1 d1)).setCell ⟨t,2,none⟩ (.slice u2 m2 d2)=W7 at *
  clear l0 l1 y1 y2 yf1 yf2
  have HTL:=hidF (zDi (w0:=w) (x:=X) (S:=tB) 1 id qty price HM7.out (HT7.out.mono tA_tB) tA_tB HE6.out HXY.out)
  go_wp2_with fail
  refine HTL.out.mono ?_
  rintro e w8⟨rfl,HR⟩
  go_wp2_with fail
  go_ret
  exact HR.out
theorem zOO(b t:Nat)(s:TS)(v:TV)(id price qty:Int)(w:World)(h:TM w b t s v)(hw:Wf s)(hl:s.evs.length≤900000)(hr:s.row.length≤800000)(hid:(Lit.int .i64 id).wf=true) :
  Calls Tryz.prog 51 #[.pointer (some ⟨t,0,none⟩),.int .i64 id,.int .i64 price,.int .i64 qty] w (Res tB b t w (swap s id price qty)):=by
 obtain⟨x0,x1,x2,x3,x4,x5,x6,x7,-⟩:=h.cells
 obtain⟨X,hX⟩:∃X,X=swap s id price qty:=⟨_,rfl⟩
 rw[←hX]
 unfold swap at hX
 have HSO:Hid (∀U,Below w.heap.size w U→TM U b t s v∧Tn tB b w U):=fun U hU=>⟨h.below hU,Tn.below hU h.base⟩
 have HW:=hidF hw
 have HL:=hidF hl
 have HRO:=hidF hr
 have HID:=hidF hid
 by_cases hE:swp.fE s.bs s.ss id price=0
 rotate_left
 ·rw[if_neg hE] at hX
  have HX:=hidF hX
  have HKB:=hidF (swp.zLd v.q1 v.q2 v.n1 v.n2 v.c1 v.c2 s.bs s.ss id price qty hid w h.buys.ls h.sells.ls hE)
  generalize swp.fE s.bs s.ss id price=K at *
  obtain⟨q1,n1,c1,q2,n2,c2,sp,vw,pp,qe,ne,ce,qk,nk,ck⟩:=v
  simp only[] at x0 x1 x2 x3 x4 x5 x6 x7 HKB
  clear h hw hl hr hid hX
  go_enter Tryz.func51,Tryz.ntmps51
  go_wp2_with fail
  refine HKB.out.mono ?_
  rintro e w1⟨rfl,b1⟩
  have HT:=hidF (HSO.out w1 b1).2
  clear b1 x0 x1 x2 x3 x4 x5 x6 x7
  go_wp2_with fail
  go_ret
  exact zAD HX.out hE HT.out
 rw[if_pos hE] at hX
 obtain⟨-,hin,hpr⟩:=swp.zHn hE
 have hA:=spot_at hw.book hin
 have HIN:=hidF hin
 have HPR:=hidF hpr
 cases hkb:swp.zDF (spot s.bs s.ss id).p (spot s.bs s.ss id).r price qty with
 | true=>
  rw[hkb,if_pos rfl] at hX
  have HSH:Hid (∀U,Below w.heap.size w U→Calls Tryz.prog 81 #[.pointer (some ⟨t,0,none⟩),.int .i64 id,.int .i64 price,.int .i64 qty] U fun e w'=>∃E,e=.returned E∧Hid (Res tB b t w X (.returned E) w')):=fun U hU=>by
   obtain⟨k1,k2⟩:=HSO.out U hU
   by_cases hq:1≤qty∧qty≤10000
   ·refine(zHx b t s v id price qty U k1 hw (by omega) hin hpr hkb hq).mono ?_
    intro e w' hR
    exact(zCO (hR.step k2 (fun _ h=>h)) hX.symm).hidE
   ·refine(zJu b t s v id price qty U k1 hw hin hpr hq).mono ?_
    intro e w' hR
    exact(zCO (hR.step k2 (fun _ h=>h)) hX.symm).hidE
  generalize spot s.bs s.ss id=x at hA hkb
  obtain⟨xs,xp,⟨r1,r2,r3,r4,r5⟩,xi,xk⟩:=x
  simp only[] at hkb
  have HKA:=hidF (swp.zHW v.q1 v.q2 v.n1 v.n2 v.c1 v.c2 s.bs s.ss id xs xp r1 r2 r3 r4 r5 price qty xi xk w h.buys.ls h.sells.ls hA hpr)
  rw[hkb] at HKA
  obtain⟨q1,n1,c1,q2,n2,c2,sp,vw,pp,qe,ne,ce,qk,nk,ck⟩:=v
  simp only[] at x0 x1 x2 x3 x4 x5 x6 x7 HKA
  clear h hw hl hr hid hX hA hE hin hpr hkb
  go_enter Tryz.func51,Tryz.ntmps51
  go_wp2_with fail
  refine HKA.out.mono ?_
  rintro e w1⟨rfl,b1⟩
  have HB:=hidF b1
  clear b1 x0 x1 x2 x3 x4 x5 x6 x7
  go_wp2_with fail
  refine(HSH.out _ HB.out).mono ?_
  rintro e w2⟨E,rfl,HRR⟩
  go_wp2_with fail
  go_ret
  exact HRR.out
 | false=>
  rw[hkb] at hX
  simp only[Bool.false_eq_true,if_false] at hX
  have HLV:Hid (∀U,TM U b t s v→Calls Tryz.prog 77 #[.pointer (some ⟨t,0,none⟩),.int .i64 id] U (Res tA b t U (leave s id))):=fun U hU=>zGA b t s v id U hU hw (by omega) hid
  generalize spot s.bs s.ss id=x at hA hkb hX
  obtain⟨xs,xp,⟨r1,r2,r3,r4,r5⟩,xi,xk⟩:=x
  simp only[] at hkb hX
  have HX:=hidF hX
  have HKA:=hidF (swp.zHW v.q1 v.q2 v.n1 v.n2 v.c1 v.c2 s.bs s.ss id xs xp r1 r2 r3 r4 r5 price qty xi xk w h.buys.ls h.sells.ls hA hpr)
  rw[hkb] at HKA
  have HF:Hid (∀U,TM U b t s v→Calls Tryz.prog 76 #[.agg #[.slice v.q1 v.n1 v.c1,.slice v.q2 v.n2 v.c2],.int .i64 id] U fun e w'=>e=.returned (.tuple #[.int .i64 xs,.int .i64 xp,.agg #[.int .i64 r1,.int .i64 r2,.int .i64 r3,.int .i64 r4,.int .i64 r5],.nilIface])∧Below U.heap.size U w'):=fun U hU=>swp.zBS v.q1 v.q2 v.n1 v.n2 v.c1 v.c2 s.bs s.ss id xs xp r1 r2 r3 r4 r5 xi xk U hU.buys.ls hU.sells.ls hA
  have HAN:=hidF (fun U=>swp.zNS xs r1 r2 r3 r4 r5 price qty U)
  obtain⟨MN,hMN⟩:∃MN,MN=min r5 qty:=⟨_,rfl⟩
  rw[←hMN] at HAN HX
  obtain⟨q1,n1,c1,q2,n2,c2,sp,vw,pp,qe,ne,ce,qk,nk,ck⟩:=v
  simp only[] at x0 x1 x2 x3 x4 x5 x6 x7 HKA HF
  clear h hw hl hr hid hX hA hE hin hpr hkb hMN
  go_enter Tryz.func51,Tryz.ntmps51
  go_wp2_with fail
  refine HKA.out.mono ?_
  rintro e w1⟨rfl,b1⟩
  have HB:=hidF b1
  obtain⟨-,y1,y2,-⟩:=(HSO.out w1 b1).1.cells
  simp only[] at y1 y2
  have HF1:=hidF (HF.out w1 (HSO.out w1 b1).1)
  clear b1 x0 x1 x2 x3 x4 x5 x6 x7 HKA HF
  go_wp2_with fail
  refine HF1.out.mono ?_
  rintro e w3⟨rfl,b3⟩
  obtain⟨W4,hW4⟩:∃W4,W4=w3.alloc (.cells #[.int .i64 r1,.int .i64 r2,.int .i64 r3,.int .i64 r4,.int .i64 r5] 54):=⟨_,rfl⟩
  have hb4:Below w3.heap.size w3 W4:=by rw[hW4];exact(bzR _ _).alloc (nzR _) _
  have hr4:W4.heap[w3.heap.size]?=some (.cells #[.int .i64 r1,.int .i64 r2,.int .i64 r3,.int .i64 r4,.int .i64 r5] 54 (0,0)):=by rw[hW4];exact jA w3 _
  have hb14:=b3.trans (hb4.mono b3.size)
  have HB4:=hidF (HB.out.trans (hb14.mono HB.out.size))
  have HSO4:=hidF (HSO.out W4 HB4.out)
  have HR4:=hidF hr4
  have HLV4:=hidF (HLV.out W4 HSO4.out.1)
  clear b3 hb4 hr4 hb14 HB HB4 HF1 HLV HSO y1 y2
  go_upto_if 49 with fail
  rw[←hW4]
  clear hW4
  generalize w3.heap.size=RB at *
  go_wp2_with fail
  refine HLV4.out.mono ?_
  intro e w5 hR
  have HT5:=hidF (HSO4.out.2.trans (hR.1.mono tA_tB))
  have HR5:=hidF (hR.1.kp.typ _ _ _ HR4.out (by decide))
  rcases zCV hR with ⟨s1,v1,hx1,rfl,HM5⟩|⟨k,rfl,HE⟩
  rotate_left
  ·have HRR:Hid (Res tB b t w X (.returned (.iface 91 (.int .i64 k))) w5):=zAD (by rw[HX.out,HE.out.1];rfl) HE.out.2 HT5.out
   clear hR
   go_wp2_with fail
   go_ret
   exact HRR.out
  have HXX:Hid (X=place s1 ⟨r1,r2,xs,1,price,qty,MN,0⟩):=by show _=_;rw[HX.out,hx1];rfl
  have HG:=hidF (zFC HW.out hx1)
  have HRW:Hid (s1.row=s.row):=by
   show _=_
   unfold leave at hx1
   rw[if_pos HIN.out] at hx1
   have hw0:Wf { s with bs:=swp.cB (spot s.bs s.ss id).s s.bs (spot s.bs s.ss id).i (spot s.bs s.ss id).k,ss:=swp.cS (spot s.bs s.ss id).s s.ss (spot s.bs s.ss id).i (spot s.bs s.ss id).k }:=⟨HW.out.m0,HW.out.m3,zBJ (spot_at HW.out.book HIN.out),HW.out.ok,HW.out.ws⟩
   exact(zFA hw0 hx1).2.row
  have HPL:Hid (∀U,Below w5.heap.size w5 U→Calls Tryz.prog 49 #[.pointer (some ⟨t,0,none⟩),.agg #[.int .i64 r1,.int .i64 r2,.int .i64 xs,.int .i64 1,.int .i64 price,.int .i64 qty,.int .i64 MN,.int .i64 0]] U fun e w'=>∃E,e=.returned E∧Hid (Res tB b t w X (.returned E) w')):=fun U hU=>by
   refine(zGS b t s1 v1 r1 r2 xs 1 price qty MN 0 U (HM5.out.below hU) HG.out.wf (by have:=HG.out.evs;have:=HL.out;omega) (by rw[HRW.out];have:=HRO.out;omega)).mono ?_
   intro e w' hR
   exact(zCO (hR.step (HT5.out.trans (Tn.below hU HM5.out.base)) (fun _ h=>h)) HXX.out.symm).hidE
  clear hR hx1 HLV4 HSO4 HR4
  obtain⟨z0,z1,z2,z3,z4,-⟩:=sid.zAe HR5.out
  go_wp2_with fail
  refine(HAN.out _).mono ?_
  rintro e w6⟨rfl,b6⟩
  have HB6:=hidF b6
  clear b6 z0 z1 z2 z3 z4
  go_wp2_with fail
  refine(HPL.out _ HB6.out).mono ?_
  rintro e w7⟨E,rfl,HRR⟩
  go_wp2_with fail
  go_ret
  exact HRR.out
end flr
end Go.Proofs.YtifjhlgjgnnnpaaGreat
