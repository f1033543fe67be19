import Derived.Test.YtifjhlgjgnnnpaaGreatFlrSet
set_option maxHeartbeats 4000000
set_option maxRecDepth 100000
namespace Go.Proofs.YtifjhlgjgnnnpaaGreat
namespace flr
open Go.RowKit
open que (R rchk)
open sid (L DL LS)
open mee (T tV OwnT sumT)
open ord (O oV chk errV errV_zero errV_of prB)
open que (bal)
open bok (bookE inBook)
open slf (OwnI flatI)
open wak (OwnM OwnQ St SL Lies oL idx Trn)
theorem Res.hidE{S:List TypeId}{b t:Nat}{w w' : World}{x:Rs}{e:Ending}(h:Res S b t w x e w'):∃E,e=.returned E∧Hid (Res S b t w x (.returned E) w'):=by
 rcases h.two with ⟨_,_,_,rfl,_⟩|⟨_,_,_,rfl⟩
 ·exact⟨_,rfl,h⟩
 ·exact⟨_,rfl,h⟩
theorem zFc{b t:Nat}{s:TS}{v:TV}{a1 a2 a3 a4 a5 a6 a7 a8:Int}{q1 q2 qt qi:Option Addr}{n1 c1 n2 c2 nt ct ni ci:Nat}{g:Int}{E:Value}{w0 w:World}{X:Rs}(h:TM w b t s v)(hw:Wf s)(hV:VI s.mode s.bs s.ss ⟨a1,a2,a3,a4,a5,a6,a7,a8⟩ w q1 n1 c1 q2 n2 c2 qt nt ct g qi ni ci E)(h0:vE s.mode s.bs s.ss ⟨a1,a2,a3,a4,a5,a6,a7,a8⟩=0)(hT:Tn tB b w0 w)(hl:s.evs.length≤990000)(hr:s.row.length≤900000)(hX:X=settle s ⟨a1,a2,a3,a4,a5,a6,a7,a8⟩ (vR s.mode s.bs s.ss ⟨a1,a2,a3,a4,a5,a6,a7,a8⟩)) :
  Calls Tryz.prog 75 #[.pointer (some ⟨t,0,none⟩),.agg #[.int .i64 a1,.int .i64 a2,.int .i64 a3,.int .i64 a4,.int .i64 a5,.int .i64 a6,.int .i64 a7,.int .i64 a8],.agg #[.slice q1 n1 c1,.slice q2 n2 c2,.slice qt nt ct,.int .i64 g,.slice qi ni ci]] w fun e w'=>∃E,e=.returned E∧Hid (Res tB b t w0 X (.returned E) w'):=by
 obtain⟨-,k2,k3,k4,k5,k6⟩:=hV.ok h0
 refine(settle_any b t s v a1 a2 a3 a4 a5 a6 a7 a8 q1 q2 qt qi n1 c1 n2 c2 nt ct ni ci g _ w h hw k3 k4 k5 k6 k2 (zGL hw.m0 hw.m3 h0) (vis_ids hw.m0 hw.m3 h0) hl hr).mono ?_
 intro e w' hR
 exact(zBy (hR.step hT (fun _ h=>h)) hX.symm).hidE
theorem zNu(b t:Nat)(s:TS)(v:TV)(a1 a2 a3 a4 a5 a6 a7 a8:Int)(w:World)(h:TM w b t s v)(hw:Wf s)(hl:s.evs.length≤990000)(hr:s.row.length≤900000) :
  Calls Tryz.prog 55 #[.pointer (some ⟨t,0,none⟩),.agg #[.int .i64 a1,.int .i64 a2,.int .i64 a3,.int .i64 a4,.int .i64 a5,.int .i64 a6,.int .i64 a7,.int .i64 a8]] w (Res tB b t w (rise s ⟨a1,a2,a3,a4,a5,a6,a7,a8⟩)):=by
 obtain⟨W,hW⟩:∃W,W=w.alloc (.cells #[.int .i64 a1,.int .i64 a2,.int .i64 a3,.int .i64 a4,.int .i64 a5,.int .i64 a6,.int .i64 a7,.int .i64 a8] 32):=⟨_,rfl⟩
 have hBW:Below w.heap.size w W:=by rw[hW];exact(bzR _ _).alloc (nzR _) _
 have hrow:W.heap[w.heap.size]?=some (.cells #[.int .i64 a1,.int .i64 a2,.int .i64 a3,.int .i64 a4,.int .i64 a5,.int .i64 a6,.int .i64 a7,.int .i64 a8] 32 (0,0)):=by rw[hW];exact heap_alloc_new w _
 obtain⟨G,hG⟩:∃G,G=w.heap.size:=⟨_,rfl⟩
 rw[←hG] at hrow
 obtain⟨X,hX⟩:∃X,X=rise s ⟨a1,a2,a3,a4,a5,a6,a7,a8⟩:=⟨_,rfl⟩
 rw[←hX]
 unfold rise at hX
 have HX:=hidF hX
 have HVI:=hidF (zEX b t s v a1 a2 a3 a4 a5 a6 a7 a8 W (h.below hBW) hw)
 have HSO:Hid (∀U,Below W.heap.size W U→TM U b t s v∧Tn tB b w U∧U.heap[G]?=some (.cells #[.int .i64 a1,.int .i64 a2,.int .i64 a3,.int .i64 a4,.int .i64 a5,.int .i64 a6,.int .i64 a7,.int .i64 a8] 32 (0,0))):=fun U hU=>by
  have hwU:=hBW.trans (hU.mono hBW.size)
  exact⟨h.below hwU,Tn.below hwU h.base,keepF hrow hU⟩
 have HW:=hidF hw
 have HL:=hidF hl
 have HR:=hidF hr
 obtain⟨c0,c1,c2,c3,c4,c5,c6,c7,-⟩:=wak.row8 hrow
 clear h hw hl hr hX hBW hrow
 go_enter Tryz.func55,Tryz.ntmps55
 go_wp2_with fail
 rw[←hW]
 simp only[←hG]
 clear hW hG
 refine HVI.out.mono ?_
 rintro e w1⟨q1,n1,c1',q2,n2,c2',qt,nt,ct,g,qi,ni,ci,E,rfl,hV,b1⟩
 obtain⟨W2,hW2⟩:∃W2,W2=w1.alloc (.cells #[.slice q1 n1 c1',.slice q2 n2 c2',.slice qt nt ct,.int .i64 g,.slice qi ni ci] 132):=⟨_,rfl⟩
 have hb2:Below w1.heap.size w1 W2:=by rw[hW2];exact(bzR _ _).alloc (nzR _) _
 have hr2:W2.heap[w1.heap.size]?=some (.cells #[.slice q1 n1 c1',.slice q2 n2 c2',.slice qt nt ct,.int .i64 g,.slice qi ni ci] 132 (0,0)):=by rw[hW2];exact heap_alloc_new w1 _
 obtain⟨k1,k2,k3⟩:=HSO.out W2 (b1.trans (hb2.mono b1.size))
 have hV2:=hV.kp (S:=[]) (Kp.below hb2) (by simp) (by simp) (by simp) (by simp)
 have HK1:=hidF k1
 have HK2:=hidF k2
 have HK3:=hidF k3
 have HR2:=hidF hr2
 have HV2:=hidF hV2
 clear c0 c1 c2 c3 c4 c5 c6 c7 hV b1 hb2 hr2 k1 k2 k3 hV2 HSO HVI
 by_cases hE:vE s.mode s.bs s.ss ⟨a1,a2,a3,a4,a5,a6,a7,a8⟩=0
 ·have HST:=hidF (zFc (X:=X) HK1.out HW.out HV2.out hE HK2.out HL.out HR.out (by rw[HX.out,if_pos hE]))
  obtain⟨rfl,-⟩:=HV2.out.ok hE
  go_upto_if 14 with fail
  rw[←hW2]
  clear hW2
  generalize w1.heap.size=VB at *
  obtain⟨c0,c1,c2,c3,c4,c5,c6,c7,-⟩:=wak.row8 HK3.out
  obtain⟨v0,v1,v2,v3,v4,-⟩:=sid.rowFive HR2.out
  clear hE
  go_wp2_with fail
  refine HST.out.mono ?_
  rintro e w3⟨E,rfl,HRR⟩
  clear c0 c1 c2 c3 c4 c5 c6 c7 v0 v1 v2 v3 v4
  go_wp2_with fail
  go_ret
  exact HRR.out
 ·have hb:=HV2.out.bad hE
  have HXX:Hid (X=vanish s ⟨a1,a2,a3,a4,a5,a6,a7,a8⟩):=by show _=_;rw[HX.out,if_neg hE]
  have HVN:Hid (Calls Tryz.prog 79 #[.pointer (some ⟨t,0,none⟩),.agg #[.int .i64 a1,.int .i64 a2,.int .i64 a3,.int .i64 a4,.int .i64 a5,.int .i64 a6,.int .i64 a7,.int .i64 a8]] W2 fun e w'=>∃E,e=.returned E∧Hid (Res tB b t w X (.returned E) w')):=by
   refine(zDs b t s v a1 a2 a3 a4 a5 a6 a7 a8 W2 HK1.out HW.out (by have:=HL.out;omega)).mono ?_
   intro e w' hR
   exact(zBy (hR.step HK2.out tA_tB) HXX.out.symm).hidE
  generalize vE s.mode s.bs s.ss ⟨a1,a2,a3,a4,a5,a6,a7,a8⟩=KE at *
  subst hb
  go_upto_if 14 with fail
  rw[←hW2]
  clear hW2
  generalize w1.heap.size=VB at *
  obtain⟨c0,c1,c2,c3,c4,c5,c6,c7,-⟩:=wak.row8 HK3.out
  clear hE
  go_wp2_with fail
  refine HVN.out.mono ?_
  rintro e w3⟨E,rfl,HRR⟩
  clear c0 c1 c2 c3 c4 c5 c6 c7
  go_wp2_with fail
  go_ret
  exact HRR.out
end flr
namespace flr
open Go.RowKit
open que (R rchk)
open sid (L DL LS)
open mee (T tV OwnT sumT)
open ord (O oV chk errV errV_zero errV_of prB)
open que (bal)
open bok (bookE inBook)
open slf (OwnI flatI)
open mrg (forC forS zDU)
open wak (OwnM OwnQ St SL Lies oL idx Trn)
theorem chk_id{o:O}(h:chk o=0):(Lit.int .i64 o.id).wf=true:=by
 have:=(ord.zAH h).1
 unfold ord.headB at this
 simp only[Bool.and_eq_true,decide_eq_true_eq] at this
 have h1:(-9223372036854775808:Int)≤o.id:=by omega
 have h2:o.id≤9223372036854775807:=by omega
 show (decide (_≤o.id) && decide (o.id≤_))=true
 rw[Bool.and_eq_true,decide_eq_true_eq,decide_eq_true_eq]
 exact⟨h1,h2⟩
theorem zKz{w0 w w' : World}{b t:Nat}{s:TS}{v:TV}{who c d:Int}(h:TM w b t s v)(h0:Tn tA b w0 w)(hp:pur.Pu 110 9 w' v.pp (pur.holdP s.ps who c d))(hg:w.grownBy w' (some v.pp)):Res tA b t w0 (holdS s who c d) (.returned (errV (pur.holdE s.ps who c d))) w':=by
 unfold holdS
 by_cases e:pur.holdE s.ps who c d=0
 ·rw[if_pos e,e];obtain⟨a1,a2⟩:=h.pay hp hg;exact⟨h0.trans a2,rfl,v,a1⟩
 ·rw[if_neg e,errV_of e];exact⟨h0.trans (h.pay hp hg).2,e,rfl⟩
theorem zFd(b t:Nat)(s:TS)(v:TV)(a1 a2 a3 a4 a5 a6 a7 a8:Int)(w:World)(h:TM w b t s v)(hw:Wf s)(hl:s.evs.length≤980000)(hr:s.row.length≤900000) :
  Calls Tryz.prog 49 #[.pointer (some ⟨t,0,none⟩),.agg #[.int .i64 a1,.int .i64 a2,.int .i64 a3,.int .i64 a4,.int .i64 a5,.int .i64 a6,.int .i64 a7,.int .i64 a8]] w (Res tB b t w (place s ⟨a1,a2,a3,a4,a5,a6,a7,a8⟩)):=by
 obtain⟨W,hW⟩:∃W,W=w.alloc (.cells #[.int .i64 a1,.int .i64 a2,.int .i64 a3,.int .i64 a4,.int .i64 a5,.int .i64 a6,.int .i64 a7,.int .i64 a8] 32):=⟨_,rfl⟩
 have hBW:Below w.heap.size w W:=by rw[hW];exact(bzR _ _).alloc (nzR _) _
 have hrow:W.heap[w.heap.size]?=some (.cells #[.int .i64 a1,.int .i64 a2,.int .i64 a3,.int .i64 a4,.int .i64 a5,.int .i64 a6,.int .i64 a7,.int .i64 a8] 32 (0,0)):=by rw[hW];exact heap_alloc_new w _
 obtain⟨G,hG⟩:∃G,G=w.heap.size:=⟨_,rfl⟩
 rw[←hG] at hrow
 obtain⟨X,hX⟩:∃X,X=place s ⟨a1,a2,a3,a4,a5,a6,a7,a8⟩:=⟨_,rfl⟩
 rw[←hX]
 unfold place at hX
 simp only[] at hX
 have HX:=hidF hX
 have HFO:=hidF (zDU ⟨a1,a2,a3,a4,a5,a6,a7,a8⟩ W)
 rw[show oV ⟨a1,a2,a3,a4,a5,a6,a7,a8⟩=.agg #[.int .i64 a1,.int .i64 a2,.int .i64 a3,.int .i64 a4,.int .i64 a5,.int .i64 a6,.int .i64 a7,.int .i64 a8] from rfl] at HFO
 have HSO:Hid (∀U,Below W.heap.size W U→TM U b t s v∧Tn tA b w U∧U.heap[G]?=some (.cells #[.int .i64 a1,.int .i64 a2,.int .i64 a3,.int .i64 a4,.int .i64 a5,.int .i64 a6,.int .i64 a7,.int .i64 a8] 32 (0,0))):=fun U hU=>by
  have hwU:=hBW.trans (hU.mono hBW.size)
  exact⟨h.below hwU,Tn.below hwU h.base,keepF hrow hU⟩
 have HW:=hidF hw
 have HL:=hidF hl
 have HR:=hidF hr
 obtain⟨c0,c1,c2,c3,c4,c5,c6,c7,-⟩:=wak.row8 hrow
 obtain⟨C,hC⟩:∃C,C=forC ⟨a1,a2,a3,a4,a5,a6,a7,a8⟩:=⟨_,rfl⟩
 obtain⟨D,hD⟩:∃D,D=forS ⟨a1,a2,a3,a4,a5,a6,a7,a8⟩:=⟨_,rfl⟩
 rw[←hC,←hD] at HFO HX
 clear hC hD h hw hl hr hX hBW hrow
 by_cases hE:chk ⟨a1,a2,a3,a4,a5,a6,a7,a8⟩=0
 rotate_left
 ·rw[errV_of hE] at HFO
  have HXX:Hid (X=.error (chk ⟨a1,a2,a3,a4,a5,a6,a7,a8⟩)):=by show _=_;rw[HX.out,if_neg hE]
  generalize chk ⟨a1,a2,a3,a4,a5,a6,a7,a8⟩=K at *
  clear c0 c1 c2 c3 c4 c5 c6 c7
  go_enter Tryz.func49,Tryz.ntmps49
  go_wp2_with fail
  rw[←hW]
  clear hW hG
  refine HFO.out.mono ?_
  rintro e w1⟨rfl,b1⟩
  have HB1:=hidF (HSO.out w1 b1).2.1
  clear b1 HFO
  go_wp2_with fail
  go_ret
  exact zAn HXX.out hE (HB1.out.mono tA_tB)
 rw[hE,errV_zero] at HFO
 have HX1:Hid (X=if has s a1=true then .error 7 else (holdS s a2 C D).bind fun s1=>if a8=0 then come s1 ⟨a1,a2,a3,a4,a5,a6,a7,a8⟩ else sleep s1 ⟨a1,a2,a3,a4,a5,a6,a7,a8⟩):=by show _=_;rw[HX.out,if_pos hE]
 have HID:=hidF (chk_id hE)
 simp only[] at HID
 clear hE HX
 go_enter Tryz.func49,Tryz.ntmps49
 go_wp2_with fail
 rw[←hW]
 simp only[←hG]
 clear hW hG
 refine HFO.out.mono ?_
 rintro e w1⟨rfl,b1⟩
 have HB1:=hidF b1
 obtain⟨k1,k2,k3⟩:=HSO.out w1 b1
 have HHA:=hidF (has_any b t s v a1 w1 k1 HW.out HID.out)
 clear c0 c1 c2 c3 c4 c5 c6 c7 b1 HFO k1 k2
 obtain⟨c0,c1,c2,c3,c4,c5,c6,c7,-⟩:=wak.row8 k3
 clear k3
 generalize hhs:has s a1=HS at *
 go_wp2_with fail
 refine HHA.out.mono ?_
 rintro e w2⟨rfl,b2⟩
 have HB2:=hidF (HB1.out.trans (b2.mono HB1.out.size))
 clear b2 c0 c1 c2 c3 c4 c5 c6 c7 HHA HB1
 cases HS with
 | true=>
  have HT:=hidF (HSO.out w2 HB2.out).2.1
  have HXX:Hid (X=.error 7):=by show _=_;rw[HX1.out];rfl
  go_wp2_with fail
  go_ret
  exact zAn HXX.out (by decide) (HT.out.mono tA_tB)
 | false=>
 have HX2:Hid (X=(holdS s a2 C D).bind fun s1=>if a8=0 then come s1 ⟨a1,a2,a3,a4,a5,a6,a7,a8⟩ else sleep s1 ⟨a1,a2,a3,a4,a5,a6,a7,a8⟩):=by show _=_;rw[HX1.out];rfl
 have HHO:Hid (∀U,Below w2.heap.size w2 U→Calls Tryz.prog 72 #[.pointer (some ⟨v.pp,0,none⟩),.int .i64 a2,.int .i64 C,.int .i64 D] U fun e w'=>∃E,e=.returned E∧Hid ((∃s1 v1,E=.nilIface∧Hid (TM w' b t s1 v1∧Wf s1∧Sm s s1 0∧Tn tB b w w'∧X=if a8=0 then come s1 ⟨a1,a2,a3,a4,a5,a6,a7,a8⟩ else sleep s1 ⟨a1,a2,a3,a4,a5,a6,a7,a8⟩)∧w'.heap[G]?=some (.cells #[.int .i64 a1,.int .i64 a2,.int .i64 a3,.int .i64 a4,.int .i64 a5,.int .i64 a6,.int .i64 a7,.int .i64 a8] 32 (0,0)))∨∃k,E=.iface 91 (.int .i64 k)∧Hid (Res tB b t w X (.returned (.iface 91 (.int .i64 k))) w'))):=fun U hU=>by
  obtain⟨k1,k2,k3⟩:=HSO.out U (HB2.out.trans (hU.mono HB2.out.size))
  refine(pur.zNa v.pp s.ps a2 C D U k1.purs HW.out.ok).mono ?_
  rintro e w'⟨rfl,k4,k5⟩
  have hR:=zKz k1 k2 k4 k5
  have h6:=(Kp.grown (S:=tA) k5 k1.purs.2 (by decide)).typ _ _ _ k3 (by decide)
  refine⟨_,rfl,?_⟩
  show _∨_
  rcases hR.two with ⟨s1,v1,hx1,he,hM⟩|⟨k,hx1,hk,he⟩
  ·obtain⟨f1,f2⟩:=zKx HW.out hx1
   refine .inl ⟨s1,v1,by injection he,?_,h6⟩
   show _∧_∧_∧_∧_
   exact⟨hM,f1,f2,hR.1.mono tA_tB,by rw[HX2.out,hx1];rfl⟩
  ·refine .inr ⟨k,by injection he,?_⟩
   show Res _ _ _ _ _ _ _
   exact zAn (by rw[HX2.out,hx1];rfl) hk (hR.1.mono tA_tB)
 have HRF:=hidF (bzR w2.heap.size w2)
 obtain⟨k1,-,k3⟩:=HSO.out w2 HB2.out
 obtain⟨-,-,-,-,y4,-⟩:=k1.cells
 obtain⟨c0,c1,c2,c3,c4,c5,c6,c7,-⟩:=wak.row8 k3
 obtain⟨r1,r2,r3,r4,r5,r6,r7,r8,upp,qe,ne,ce,qk,nk,ck⟩:=v
 simp only[] at y4
 clear k1 k3 HX1 HX2 HSO hhs
 go_upto_region 6 with fail
 go_region_with (go_at_call 72;with_reducible refine(HHO.out _ ?_).mono ?_;(with_reducible repeat' (first|exact HRF.out|assumption|refine Below.drew ?_));rintro x w3 ⟨E,rfl,HOR⟩)
 all_goals
  clear y4 c0 c1 c2 c3 c4 c5 c6 c7 HHO HRF HB2
  rcases HOR.out with ⟨s1,v1,rfl,HM3,h6⟩|⟨k,rfl,HRR⟩
  rotate_left
  ·clear HOR
   go_wp2_with fail
   go_ret
   exact HRR.out
  clear HOR
  have HR6:=hidF h6
  have HL1:Hid (s1.evs.length≤980000∧s1.row.length≤900000):=by
   refine⟨?_,?_⟩
   ·rw[HM3.out.2.2.1.evs];exact HL.out
   ·rw[HM3.out.2.2.1.row];exact HR.out
  obtain⟨c0,c1,c2,c3,c4,c5,c6,c7,-⟩:=wak.row8 h6
  clear h6
  by_cases h8:a8=0
  rotate_left
  ·have HSL:Hid (Calls Tryz.prog 73 #[.pointer (some ⟨t,0,none⟩),.agg #[.int .i64 a1,.int .i64 a2,.int .i64 a3,.int .i64 a4,.int .i64 a5,.int .i64 a6,.int .i64 a7,.int .i64 a8]] w3 fun e w'=>∃E,e=.returned E∧Hid (Res tB b t w X (.returned E) w')):=by
    obtain⟨m1,m2,m3,m4,m5⟩:=HM3.out
    refine(zKr b t s1 v1 a1 a2 a3 a4 a5 a6 a7 a8 w3 m1 m2 (by have:=HL1.out.1;omega)).mono ?_
    intro e w' hR
    refine(zBy (hR.step m4 (fun _ h=>h)) ?_).hidE
    rw[m5,if_neg h8]
   have h8b:(a8 == 0)=false:=by simp[h8]
   go_wp2_with fail
   refine HSL.out.mono ?_
   rintro e w4⟨E,rfl,HRR⟩
   clear c0 c1 c2 c3 c4 c5 c6 c7
   go_wp2_with fail
   go_ret
   exact HRR.out
  subst h8
  have HVI:=hidF (zEX b t s1 v1 a1 a2 a3 a4 a5 a6 a7 0 w3 HM3.out.1 HM3.out.2.1)
  have HX3:Hid (X=come s1 ⟨a1,a2,a3,a4,a5,a6,a7,0⟩):=by show _=_;rw[HM3.out.2.2.2.2,if_pos rfl]
  go_wp2_with fail
  refine HVI.out.mono ?_
  rintro e w4⟨q1,n1,c1',q2,n2,c2',qt,nt,ct,g,qi,ni,ci,E,rfl,hV,b1⟩
  obtain⟨W2,hW2⟩:∃W2,W2=w4.alloc (.cells #[.slice q1 n1 c1',.slice q2 n2 c2',.slice qt nt ct,.int .i64 g,.slice qi ni ci] 132):=⟨_,rfl⟩
  have hb2:Below w4.heap.size w4 W2:=by rw[hW2];exact(bzR _ _).alloc (nzR _) _
  have hr2:W2.heap[w4.heap.size]?=some (.cells #[.slice q1 n1 c1',.slice q2 n2 c2',.slice qt nt ct,.int .i64 g,.slice qi ni ci] 132 (0,0)):=by rw[hW2];exact heap_alloc_new w4 _
  have hbb:=b1.trans (hb2.mono b1.size)
  have HK1:=hidF (HM3.out.1.below hbb)
  have HK2:=hidF (HM3.out.2.2.2.1.trans (Tn.below hbb HM3.out.1.base))
  have HK3:=hidF (keepF HR6.out hbb)
  have HR2:=hidF hr2
  have HV2:=hidF (hV.kp (S:=[]) (Kp.below hb2) (by simp) (by simp) (by simp) (by simp))
  clear c0 c1 c2 c3 c4 c5 c6 c7 hV b1 hb2 hr2 hbb HVI
  by_cases hE:vE s1.mode s1.bs s1.ss ⟨a1,a2,a3,a4,a5,a6,a7,0⟩=0
  ·have HST:=hidF (zFc (X:=X) HK1.out HM3.out.2.1 HV2.out hE HK2.out (by have:=HL1.out.1;omega) HL1.out.2 (by rw[HX3.out];unfold come;rw[if_pos hE]))
   obtain⟨rfl,-⟩:=HV2.out.ok hE
   go_upto_if 50 with fail
   rw[←hW2]
   clear hW2
   generalize w4.heap.size=VB at *
   obtain⟨c0,c1,c2,c3,c4,c5,c6,c7,-⟩:=wak.row8 HK3.out
   obtain⟨v0,v1,v2,v3,v4,-⟩:=sid.rowFive HR2.out
   clear hE
   go_wp2_with fail
   refine HST.out.mono ?_
   rintro e w5⟨E,rfl,HRR⟩
   clear c0 c1 c2 c3 c4 c5 c6 c7 v0 v1 v2 v3 v4
   go_wp2_with fail
   go_ret
   exact HRR.out
  ·have hb:=HV2.out.bad hE
   have HXX:Hid (X=.error (vE s1.mode s1.bs s1.ss ⟨a1,a2,a3,a4,a5,a6,a7,0⟩)):=by show _=_;rw[HX3.out];unfold come;rw[if_neg hE]
   generalize vE s1.mode s1.bs s1.ss ⟨a1,a2,a3,a4,a5,a6,a7,0⟩=KE at *
   subst hb
   have HRR:Hid (Res tB b t w X (.returned (.iface 91 (.int .i64 KE))) W2):=zAn HXX.out hE HK2.out
   go_upto_if 50 with fail
   rw[←hW2]
   clear hW2
   go_wp2_with fail
   go_ret
   exact HRR.out
end flr
namespace flr
open Go.RowKit
open que (R rchk)
open sid (L DL LS allR)
open mee (T tV OwnT sumT otherL stepL)
open ord (O oV chk errV errV_zero errV_of prB)
open bok (bookE inBook)
structure Gr (s s1:TS) (k n:Nat):Prop where
 wf:Wf s1
 mode:s1.mode=s.mode
 row:s1.row.length+s1.ws.length≤s.row.length+s.ws.length+k
 evs:s1.evs.length≤s.evs.length+n
theorem Gr.trans{a b c:TS}{i j k l:Nat}(h:Gr a b i j)(g:Gr b c k l):Gr a c (i+k) (j+l):=⟨g.wf,g.mode.trans h.mode,by have:=h.row;have:=g.row;omega,by have:=h.evs;have:=g.evs;omega⟩
theorem Gr.mono{a b:TS}{i j k l:Nat}(h:Gr a b i j)(h1:i≤k)(h2:j≤l):Gr a b k l:=⟨h.wf,h.mode,by have:=h.row;omega,by have:=h.evs;omega⟩
theorem Sm.gr{a b:TS}{k:Nat}(h:Sm a b k)(hw:Wf b):Gr a b 0 k:=⟨hw,h.mode,by rw[h.row,h.ws];omega,by rw[h.evs];omega⟩
theorem zCX{s:TS}(h:Wf s)(a b c d:Int):Gr s (tell s a b c d) 0 1:=(zKy s a b c d).gr (zCi h _ _ _ _)
theorem zFT{s:TS}{o:O}{v:Vs}(h:Wf s):Gr s (tellLeft s o v) 0 2:=by
 have h1:Gr s (tellGone s o v) 0 1:=by
  unfold tellGone;split
  ·exact zCX h _ _ _ _
  ·exact⟨h,rfl,by omega,by omega⟩
 unfold tellLeft;split
 ·exact h1.trans (zCX h1.wf _ _ _ _)
 ·exact h1.mono (by omega) (by omega)
theorem zGN{s s1:TS}{ts:List T}(h:Wf s)(e:wakeS s ts=.ok s1):Gr s s1 0 0:=by
 unfold wakeS at e
 split at e
 ·cases e;exact⟨h,rfl,by omega,by omega⟩
 ·split at e
  ·cases e
   have h1:=wak.zGE (ts[ts.length - 1]!).price s.ws
   have h2:=h.ws
   exact⟨⟨h.m0,h.m3,h.book,h.ok,by show (wak.left _ _).length≤20;omega⟩,rfl,by show (s.row++_).length+(wak.left _ _).length≤_;rw[List.length_append,List.length_map];omega,by show s.evs.length≤s.evs.length+0;omega⟩
  ·cases e
theorem zFe{s s1:TS}{o:O}{v:Vs}(h:Wf s)(hv:VO o v)(e:settle s o v=.ok s1):Gr s s1 0 480:=by
 obtain⟨s2,e1,e⟩:=zAl e
 obtain⟨h2,k2⟩:=zBQ v.ts h e1
 split at e
 ·obtain⟨s3,e3,e⟩:=zAl e
  obtain⟨h3,k3⟩:=zDZ h2 e3
  obtain⟨s4,e4,e⟩:=zAl e
  obtain⟨h4,k4⟩:=zEb v.ids h3 e4
  have h5:Wf { s4 with bs:=v.bs,ss:=v.ss }:=⟨h4.m0,h4.m3,hv.book,h4.ok,h4.ws⟩
  have g1:=((k2.trans k3).trans k4).gr h4
  have g2:Gr s4 { s4 with bs:=v.bs,ss:=v.ss } 0 0:=⟨h5,rfl,by simp,by simp⟩
  have g3:=(g1.trans g2).trans (zFT (o:=o) (v:=v) h5)
  have g4:=g3.trans (zGN g3.wf e)
  have:=hv.len
  have:=hv.ids
  exact g4.mono (by omega) (by omega)
 ·cases e
theorem zFf{s s1:TS}{o:O}(h:Wf s)(e:vanish s o=.ok s1):Gr s s1 0 1:=by
 unfold vanish at e
 split at e
 ·obtain⟨s2,e1,e⟩:=zAl e
  obtain⟨h2,k2⟩:=zDZ h e1
  cases e
  exact(k2.gr h2).trans (zCX h2 _ _ _ _)
 ·cases e
theorem zFU{s s1:TS}{o:O}(h:Wf s)(e:rise s o=.ok s1):Gr s s1 0 480:=by
 unfold rise at e
 split at e
 ·rename_i h0;exact zFe h (zGL h.m0 h.m3 h0) e
 ·exact(zFf h e).mono (nzR _) (by omega)
theorem come_gr{s s1:TS}{o:O}(h:Wf s)(e:come s o=.ok s1):Gr s s1 0 480:=by
 unfold come at e
 split at e
 ·rename_i h0;exact zFe h (zGL h.m0 h.m3 h0) e
 ·cases e
theorem zKA{ws:List O}{o:O}(h:wak.putE ws o=0)(hl:ws.length≤20):ws.length<20:=by
 unfold wak.putE at h
 by_cases h1:ws.length=20
 ·exfalso
  rw[h1] at h
  split at h
  ·split at h
   ·omega
   ·split at h
    ·omega
    ·simp at h
  ·rename_i hh;exact hh h
 ·omega
theorem zGO{s s1:TS}{o:O}(h:Wf s)(e:sleep s o=.ok s1):Gr s s1 1 1:=by
 unfold sleep at e
 split at e
 ·rename_i h0
  cases e
  have:=zKA h0 h.ws
  have hw:Wf { s with ws:=s.ws++[o] }:=⟨h.m0,h.m3,h.book,h.ok,by simp;omega⟩
  exact Gr.trans (a:=s) (b:={ s with ws:=s.ws++[o] }) (i:=1) (j:=0) ⟨hw,rfl,by show s.row.length+(s.ws++[o]).length≤s.row.length+s.ws.length+1;simp;omega,by show s.evs.length≤s.evs.length+0;omega⟩ (zCX hw _ _ _ _)
 ·cases e
theorem zGP{s s1:TS}{o:O}(h:Wf s)(e:place s o=.ok s1):Gr s s1 1 481:=by
 unfold place at e
 split at e
 ·split at e
  ·cases e
  ·obtain⟨s2,e1,e⟩:=zAl e
   obtain⟨h2,k2⟩:=zKx h e1
   split at e
   ·exact((k2.gr h2).trans (come_gr h2 e)).mono (by omega) (by omega)
   ·exact((k2.gr h2).trans (zGO h2 e)).mono (by omega) (by omega)
 ·cases e
theorem zEc{s s1:TS}{id:Int}(h:Wf s)(e:leave s id=.ok s1):Gr s s1 0 1:=by
 have hw:=zNr h e
 unfold leave at e
 split at e
 ·rename_i hin
  have hb:=zAP (spot_at h.book hin)
  have hw0:Wf { s with bs:=swp.cB (spot s.bs s.ss id).s s.bs (spot s.bs s.ss id).i (spot s.bs s.ss id).k,ss:=swp.cS (spot s.bs s.ss id).s s.ss (spot s.bs s.ss id).i (spot s.bs s.ss id).k }:=⟨h.m0,h.m3,hb,h.ok,h.ws⟩
  obtain⟨-,k⟩:=zEa hw0 e
  exact⟨hw,k.mode,by rw[k.row,k.ws];exact nzR _,by rw[k.evs];exact nzR _⟩
 ·cases e
theorem zKB{s s1:TS}{id:Int}(h:Wf s)(e:cancel s id=.ok s1):Gr s s1 0 1:=by
 unfold cancel at e
 split at e
 ·exact zEc h e
 ·split at e
  ·cases e
  ·have hl:(drop1 s.ws id).length≤s.ws.length:=by unfold drop1;simp only[List.length_append,List.length_take,List.length_drop];omega
   have hw:Wf { s with ws:=drop1 s.ws id }:=⟨h.m0,h.m3,h.book,h.ok,by have:=h.ws;show (drop1 s.ws id).length≤20;omega⟩
   exact(Gr.trans (a:=s) (b:={ s with ws:=drop1 s.ws id }) (i:=0) (j:=0) ⟨hw,rfl,by show s.row.length+(drop1 s.ws id).length≤s.row.length+s.ws.length+0;omega,by show s.evs.length≤s.evs.length+0;omega⟩ (zFf hw e)).mono (by omega) (by omega)
theorem zFg{s s1:TS}{id price qty:Int}(h:Wf s)(hin:inBook s.bs s.ss id=true)(hk:swp.keepB (spot s.bs s.ss id).p (spot s.bs s.ss id).r price qty=true)(e:shrink s id price qty=.ok s1):Gr s s1 0 1:=by
 have hA:=spot_at h.book hin
 unfold shrink at e
 simp only[] at e
 generalize spot s.bs s.ss id=x at *
 split at e
 ·rename_i hq
  obtain⟨s2,e1,e⟩:=zAl e
  have g1:Wf s2∧Sm s s2 0:=by
   split at e1
   ·exact zCA h e1
   ·cases e1;exact⟨h,Sm.refl _⟩
  cases e
  have hle:qty≤x.r.qty+x.r.hid:=by
   unfold swp.keepB at hk
   simp only[Bool.and_eq_true,decide_eq_true_eq] at hk
   exact hk.2
  have hb:=(hA.keep (r':=swp.lessR x.r qty) (by exact hA.id) (swp.zJQ hA.rest hq.1 hle)).book
  have hw:Wf { s2 with bs:=swp.kB x.s s.bs x.i x.k (swp.lessR x.r qty),ss:=swp.kS x.s s.ss x.i x.k (swp.lessR x.r qty) }:=⟨g1.1.m0,g1.1.m3,hb,g1.1.ok,g1.1.ws⟩
  exact((g1.2.gr g1.1).trans (Gr.trans (a:=s2) (b:={ s2 with bs:=swp.kB x.s s.bs x.i x.k (swp.lessR x.r qty),ss:=swp.kS x.s s.ss x.i x.k (swp.lessR x.r qty) }) (i:=0) (j:=0) ⟨hw,rfl,nzR _,nzR _⟩ (zCX hw _ _ _ _))).mono (by omega) (by omega)
 ·cases e
theorem swap_gr{s s1:TS}{id price qty:Int}(h:Wf s)(e:swap s id price qty=.ok s1):Gr s s1 1 482:=by
 unfold swap at e
 split at e
 ·rename_i hE
  obtain⟨-,hin,-⟩:=swp.zFN hE
  split at e
  ·rename_i hk;exact(zFg h hin hk e).mono (by omega) (by omega)
  ·obtain⟨s2,e1,e⟩:=zAl e
   have g:=zEc h e1
   exact(g.trans (zGP g.wf e)).mono (by omega) (by omega)
 ·cases e
theorem zFh{s s1:TS}{c:Cm}(h:Wf s)(e:doC s c=.ok s1):Gr s s1 1 482:=by
 unfold doC at e
 split at e
 ·exact(zGP h e).mono (by omega) (by omega)
 split at e
 ·exact(zKB h e).mono (by omega) (by omega)
 split at e
 ·exact swap_gr h e
 split at e
 ·unfold payS at e
  split at e
  ·cases e;exact⟨⟨h.m0,h.m3,h.book,pur.pay_ok h.ok _ _,h.ws⟩,rfl,by simp,by simp⟩
  ·cases e
 split at e
 ·unfold giveS at e
  split at e
  ·cases e;exact⟨⟨h.m0,h.m3,h.book,pur.give_ok h.ok _ _,h.ws⟩,rfl,by simp,by simp⟩
  ·cases e
 ·cases e
theorem zAq(n:Nat)(s:TS)(h:s.row=[]):wakeUp n s=.ok s:=by
 cases n with
 | zero=>rfl
 | succ n=>unfold wakeUp;rw[h]
theorem zBf(n:Nat)(s:TS){x:Sl}{t:List Sl}(h:s.row=x::t):wakeUp (n+1) s=(rise (tell { s with row:=t } 4 x.o.id x.o.qty x.p) x.o).bind (wakeUp n):=by
 rw[wakeUp,h]
theorem zBR:∀ (n:Nat) {s s1:TS},Wf s→wakeUp n s=.ok s1→Wf s1∧s1.mode=s.mode
 | 0,s,s1,h,e=>by cases e;exact⟨h,rfl⟩
 | n+1,s,s1,h,e=>by
  cases hr:s.row with
  | nil=>rw[zAq _ _ hr] at e;cases e;exact⟨h,rfl⟩
  | cons x t=>
   rw[zBf _ _ hr] at e
   obtain⟨s2,e1,e⟩:=zAl e
   have hw:Wf (tell { s with row:=t } 4 x.o.id x.o.qty x.p):=⟨h.m0,h.m3,h.book,h.ok,h.ws⟩
   have g:=zFU hw e1
   obtain⟨a,b⟩:=zBR n g.wf e
   exact⟨a,b.trans g.mode⟩
end flr
namespace flr
open Go.RowKit
open que (R rchk)
open sid (L DL LS)
open mee (T tV OwnT sumT)
open ord (O oV chk errV errV_zero errV_of prB)
open que (bal)
open bok (bookE inBook)
open tickP (priceB)
open wak (OwnM OwnQ St SL Lies oL idx Trn)
theorem zKC{r:R}{q:Int}(h:rchk r=0)(h1:1≤q)(h2:q≤10000):wrap64 (r.qty+r.hid - q)=r.qty+r.hid - q:=by
 obtain⟨a,b,-⟩:=que.zAg h
 unfold wrap64;omega
theorem zIe(b t:Nat)(s:TS)(v:TV)(id price qty:Int)(w:World)(h:TM w b t s v)(hw:Wf s)(hin:inBook s.bs s.ss id=true)(hpr:priceB price=true)(hq:¬(1≤qty∧qty≤10000)) :
  Calls Tryz.prog 81 #[.pointer (some ⟨t,0,none⟩),.int .i64 id,.int .i64 price,.int .i64 qty] w (Res tB b t w (shrink s id price qty)):=by
 obtain⟨x0,x1,x2,x3,x4,x5,x6,x7,-⟩:=h.cells
 have hA:=spot_at hw.book hin
 have HX:Hid (shrink s id price qty=.error 1):=by show _=_;unfold shrink;simp only[];rw[if_neg hq]
 rw[HX.out]
 generalize spot s.bs s.ss id=x at hA
 obtain⟨xs,xp,⟨r1,r2,r3,r4,r5⟩,xi,xk⟩:=x
 have hqb:(decide (1≤qty) && decide (qty≤10000))=false:=by
  cases hh:(decide (1≤qty) && decide (qty≤10000)) with
  | false=>rfl
  | true=>simp only[Bool.and_eq_true,decide_eq_true_eq] at hh;exact absurd hh hq
 have HSD:=hidF (swp.sdo_qty v.q1 v.q2 v.n1 v.n2 v.c1 v.c2 s.bs s.ss id xs xp r1 r2 r3 r4 r5 price qty xi xk w h.buys.ls h.sells.ls hA hpr hqb)
 have HB:=hidF h.base
 obtain⟨q1,n1,c1,q2,n2,c2,sp,vw,pp,qe,ne,ce,qk,nk,ck⟩:=v
 simp only[] at x0 x1 x2 x3 x4 x5 x6 x7 HSD
 clear h hw hA hin hpr hq hqb
 go_enter Tryz.func81,Tryz.ntmps81
 go_wp2_with fail
 refine HSD.out.mono ?_
 rintro e w1⟨rfl,b1⟩
 have HT:=hidF (Tn.below (S:=tB) (b1.alloc b1.size (.cells #[.slice none 0 0,.slice none 0 0] 46)) HB.out)
 clear b1 x0 x1 x2 x3 x4 x5 x6 x7
 go_wp2_with fail
 go_ret
 exact zAn rfl (by decide) HT.out
theorem zFV(b t:Nat)(s:TS)(v:TV)(id price qty:Int)(w:World)(h:TM w b t s v)(hw:Wf s)(hl:s.evs.length≤990000)(hin:inBook s.bs s.ss id=true)(hpr:priceB price=true)(hkb:swp.keepB (spot s.bs s.ss id).p (spot s.bs s.ss id).r price qty=true)(hq:1≤qty∧qty≤10000) :
  Calls Tryz.prog 81 #[.pointer (some ⟨t,0,none⟩),.int .i64 id,.int .i64 price,.int .i64 qty] w (Res tB b t w (shrink s id price qty)):=by
 obtain⟨x0,x1,x2,x3,x4,x5,x6,x7,-⟩:=h.cells
 have hA:=spot_at hw.book hin
 obtain⟨X,hX⟩:∃X,X=shrink s id price qty:=⟨_,rfl⟩
 rw[←hX]
 unfold shrink at hX
 simp only[] at hX
 rw[if_pos hq] at hX
 generalize spot s.bs s.ss id=x at hA hX hkb
 obtain⟨xs,xp,⟨r1,r2,r3,r4,r5⟩,xi,xk⟩:=x
 simp only[] at hX hkb
 have hqb:(decide (1≤qty) && decide (qty≤10000))=true:=by simp[hq.1,hq.2]
 have HSD:Hid (Calls Tryz.prog 111 #[.agg #[.slice v.q1 v.n1 v.c1,.slice v.q2 v.n2 v.c2],.int .i64 id,.int .i64 price,.int .i64 qty] w fun e w'=>∃u1 u2 m1 m2 d1 d2,e=.returned (.tuple #[.agg #[.slice u1 m1 d1,.slice u2 m2 d2],.slice none 0 0,.int .i64 0,.nilIface])∧Hid (DL w' 0 (.slice u1 m1 d1) (swp.kB xs s.bs xi xk (swp.lessR ⟨r1,r2,r3,r4,r5⟩ qty)))∧Hid (DL w' 0 (.slice u2 m2 d2) (swp.kS xs s.ss xi xk (swp.lessR ⟨r1,r2,r3,r4,r5⟩ qty)))∧Below w.heap.size w w'):=by
  refine(swp.zMN v.q1 v.q2 v.n1 v.n2 v.c1 v.c2 s.bs s.ss id xs xp r1 r2 r3 r4 r5 price qty xi xk w h.buys.ls h.sells.ls hA hpr hqb hkb).mono ?_
  rintro e w'⟨u1,u2,m1,m2,d1,d2,rfl,k2,k3,k4⟩
  exact⟨u1,u2,m1,m2,d1,d2,rfl,k2.mono (Nat.zero_le _),k3.mono (Nat.zero_le _),k4⟩
 have HSO:Hid (∀U,Below w.heap.size w U→TM U b t s v∧Tn tA b w U):=fun U hU=>⟨h.below hU,Tn.below hU h.base⟩
 have HF:Hid (∀U,Below w.heap.size w U→Calls Tryz.prog 76 #[.agg #[.slice v.q1 v.n1 v.c1,.slice v.q2 v.n2 v.c2],.int .i64 id] U fun e w'=>e=.returned (.tuple #[.int .i64 xs,.int .i64 xp,.agg #[.int .i64 r1,.int .i64 r2,.int .i64 r3,.int .i64 r4,.int .i64 r5],.nilIface])∧Below U.heap.size U w'):=fun U hU=>swp.zAS v.q1 v.q2 v.n1 v.n2 v.c1 v.c2 s.bs s.ss id xs xp r1 r2 r3 r4 r5 xi xk U (h.below hU).buys.ls (h.below hU).sells.ls hA
 have HAL:=hidF (fun U=>all_any r1 r2 r3 r4 r5 U hA.rest)
 have HOV:=hidF (zKC hA.rest hq.1 hq.2)
 simp only[] at HOV
 obtain⟨OV,hOV⟩:∃OV,OV=r3+r4 - qty:=⟨_,rfl⟩
 rw[←hOV] at hX HOV
 have HOV2:Hid (wrap64 (r3+r4 - qty)=OV):=by show _=_;rw[hOV];rw[hOV] at HOV;exact HOV.out
 obtain⟨AL,hAL⟩:∃AL,AL=r3+r4:=⟨_,rfl⟩
 rw[←hAL] at HAL HOV2
 have HX:=hidF hX
 have HW:=hidF hw
 have HL:=hidF hl
 have HFR:=hidF (fun U hU=>free_any b t s v id r2 OV 0 0 xs price U hU hw)
 obtain⟨q1,n1,c1,q2,n2,c2,sp,vw,pp,qe,ne,ce,qk,nk,ck⟩:=v
 simp only[] at x0 x1 x2 x3 x4 x5 x6 x7 HSD HF
 clear h hw hA hX hin hl hpr hkb hq hqb hOV hAL HOV
 go_enter Tryz.func81,Tryz.ntmps81
 go_wp2_with fail
 refine HSD.out.mono ?_
 rintro e w1⟨u1,u2,m1,m2,d1,d2,rfl,HD1,HD2,b1⟩
 obtain⟨W2,hW2⟩:∃W2,W2=w1.alloc (.cells #[.slice u1 m1 d1,.slice u2 m2 d2] 46):=⟨_,rfl⟩
 have hb2:Below w1.heap.size w1 W2:=by rw[hW2];exact(bzR _ _).alloc (nzR _) _
 have hr2:W2.heap[w1.heap.size]?=some (.cells #[.slice u1 m1 d1,.slice u2 m2 d2] 46 (0,0)):=by rw[hW2];exact heap_alloc_new w1 _
 have HB2:=hidF (b1.trans (hb2.mono b1.size))
 have HDD:=hidF (And.intro (HD1.out.below hb2) (HD2.out.below hb2))
 have HR2:=hidF hr2
 obtain⟨-,y1,y2,-⟩:=(HSO.out W2 HB2.out).1.cells
 simp only[] at y1 y2
 clear b1 hb2 hr2 HD1 HD2 HSD x0 x1 x2 x3 x4 x5 x6 x7
 go_upto_if 33 with fail
 rw[←hW2]
 clear hW2
 generalize w1.heap.size=LB at *
 go_wp2_with fail
 refine(HF.out _ HB2.out).mono ?_
 rintro e w3⟨rfl,b3⟩
 obtain⟨W4,hW4⟩:∃W4,W4=w3.alloc (.cells #[.int .i64 r1,.int .i64 r2,.int .i64 r3,.int .i64 r4,.int .i64 r5] 54):=⟨_,rfl⟩
 have hb4:Below w3.heap.size w3 W4:=by rw[hW4];exact(bzR _ _).alloc (nzR _) _
 have hr4:W4.heap[w3.heap.size]?=some (.cells #[.int .i64 r1,.int .i64 r2,.int .i64 r3,.int .i64 r4,.int .i64 r5] 54 (0,0)):=by rw[hW4];exact heap_alloc_new w3 _
 have hb24:=b3.trans (hb4.mono b3.size)
 have HB4:=hidF (HB2.out.trans (hb24.mono HB2.out.size))
 have HDD4:=hidF (And.intro (HDD.out.1.below hb24) (HDD.out.2.below hb24))
 have HR24:=hidF (keepF HR2.out hb24)
 have HR4:=hidF hr4
 clear b3 hb4 hr4 hb24 HDD HR2 HB2 HF y1 y2
 go_upto_if 48 with fail
 rw[←hW4]
 clear hW4
 generalize w3.heap.size=RB at *
 obtain⟨z0,z1,z2,z3,z4,-⟩:=sid.rowFive HR4.out
 go_wp2_with fail
 refine(HAL.out _).mono ?_
 rintro e w5⟨rfl,b5⟩
 have HB5:=hidF (HB4.out.trans (b5.mono HB4.out.size))
 have HDD5:=hidF (And.intro (HDD4.out.1.below b5) (HDD4.out.2.below b5))
 have HR25:=hidF (keepF HR24.out b5)
 have HR5:=hidF (keepF HR4.out b5)
 have HSO5:=hidF (HSO.out w5 HB5.out)
 clear b5 HB4 HDD4 HR24 HR4 z0 z1 z2 z3 z4 HSO
 obtain⟨z0,z1,z2,z3,z4,-⟩:=sid.rowFive HR5.out
 have hov:=HOV2.out
 by_cases ho:0<OV
 case' pos=>
  have HXX:Hid (X=(freeR s ⟨id,r2,OV,0,0⟩ xs price).bind fun s1=>.ok (tell { s1 with bs:=swp.kB xs s.bs xi xk (swp.lessR ⟨r1,r2,r3,r4,r5⟩ qty),ss:=swp.kS xs s.ss xi xk (swp.lessR ⟨r1,r2,r3,r4,r5⟩ qty) } 1 id qty price)):=by show _=_;rw[HX.out,if_pos ho]
  have HFR5:=hidF (HFR.out w5 HSO5.out.1)
  go_wp2_with fail
  refine HFR5.out.mono ?_
  intro e w6 hR
  have HT6:=hidF (HSO5.out.2.trans hR.1)
  have HDD6:=hidF (And.intro (hR.1.kp.dl HDD5.out.1 (by decide) (by decide)) (hR.1.kp.dl HDD5.out.2 (by decide) (by decide)))
  have HR6:=hidF (hR.1.kp.typ _ _ _ HR25.out (by decide))
  rcases zBC hR with ⟨s1,v1,hx1,rfl,HM6⟩|⟨k,rfl,HE⟩
  rotate_left
  ·have HRR:Hid (Res tB b t w X (.returned (.iface 91 (.int .i64 k))) w6):=zAn (by rw[HXX.out,HE.out.1];rfl) HE.out.2 (HT6.out.mono tA_tB)
   clear hR z0 z1 z2 z3 z4 hov
   go_wp2_with fail
   go_ret
   exact HRR.out
  have HXY:Hid (X=.ok (tell { s1 with bs:=swp.kB xs s.bs xi xk (swp.lessR ⟨r1,r2,r3,r4,r5⟩ qty),ss:=swp.kS xs s.ss xi xk (swp.lessR ⟨r1,r2,r3,r4,r5⟩ qty) } 1 id qty price)):=by show _=_;rw[HXX.out,hx1];rfl
  have HE6:Hid (s1.evs.length≤1000000):=by show _≤_;have:=(zCA HW.out hx1).2.evs;have:=HL.out;omega
  clear hR hx1 hov
 case' neg=>
  have HXY:Hid (X=.ok (tell { s with bs:=swp.kB xs s.bs xi xk (swp.lessR ⟨r1,r2,r3,r4,r5⟩ qty),ss:=swp.kS xs s.ss xi xk (swp.lessR ⟨r1,r2,r3,r4,r5⟩ qty) } 1 id qty price)):=by show _=_;rw[HX.out,if_neg ho];rfl
  have HT6:=hidF HSO5.out.2
  have HDD6:=HDD5
  have HR6:=HR25
  have HM6:=hidF HSO5.out.1
  have HE6:Hid (s.evs.length≤1000000):=by show _≤_;have:=HL.out;omega
  obtain⟨v1,hv1⟩:∃v1,v1=(⟨q1,n1,c1,q2,n2,c2,sp,vw,pp,qe,ne,ce,qk,nk,ck⟩:TV):=⟨_,rfl⟩
  rw[←hv1] at HM6
  clear hv1
  obtain⟨s1,hs1⟩:∃s1,s1=s:=⟨_,rfl⟩
  rw[←hs1] at HM6 HE6
  have HXY:Hid (X=.ok (tell { s1 with bs:=swp.kB xs s.bs xi xk (swp.lessR ⟨r1,r2,r3,r4,r5⟩ qty),ss:=swp.kS xs s.ss xi xk (swp.lessR ⟨r1,r2,r3,r4,r5⟩ qty) } 1 id qty price)):=by show _=_;rw[hs1];exact HXY.out
  clear hs1
  obtain⟨w6,hw6⟩:∃w6,w6=w5:=⟨_,rfl⟩
  go_upto_region 12 with fail
  rw[←hw6] at HT6 HDD6 HR6 HM6 ⊢
  clear hw6 hov
 all_goals
  clear z0 z1 z2 z3 z4 HFR HSO5 HDD5 HR25 HR5 HX
  obtain⟨l0,l1,-⟩:=sid.rowTwo HR6.out
  obtain⟨-,y1,y2,-,-,-,-,-,yf⟩:=HM6.out.cells
  have yf1:=yf 1
  have yf2:=yf 2
  obtain⟨hM7,hT7⟩:=HM6.out.book HDD6.out.1 HDD6.out.2
  have HM7:=hidF hM7
  have HT7:=hidF (HT6.out.trans hT7)
  obtain⟨g1,g2,g3,g4,g5,g6,g7,g8,g9,g10,g11,g12,g13,g14,g15⟩:=v1
  simp only[] at y1 y2
  clear hM7 hT7 yf
  go_upto_region 13 with fail
  generalize (w6.setCell ⟨t,1,none⟩ (.slice u1 m1 d1)).setCell ⟨t,2,none⟩ (.slice u2 m2 d2)=W7 at *
  clear l0 l1 y1 y2 yf1 yf2
  have HTL:=hidF (zBP (w0:=w) (x:=X) (S:=tB) 1 id qty price HM7.out (HT7.out.mono tA_tB) tA_tB HE6.out HXY.out)
  go_wp2_with fail
  refine HTL.out.mono ?_
  rintro e w8⟨rfl,HR⟩
  go_wp2_with fail
  go_ret
  exact HR.out
theorem zNv(b t:Nat)(s:TS)(v:TV)(id price qty:Int)(w:World)(h:TM w b t s v)(hw:Wf s)(hl:s.evs.length≤900000)(hr:s.row.length≤800000)(hid:(Lit.int .i64 id).wf=true) :
  Calls Tryz.prog 51 #[.pointer (some ⟨t,0,none⟩),.int .i64 id,.int .i64 price,.int .i64 qty] w (Res tB b t w (swap s id price qty)):=by
 obtain⟨x0,x1,x2,x3,x4,x5,x6,x7,-⟩:=h.cells
 obtain⟨X,hX⟩:∃X,X=swap s id price qty:=⟨_,rfl⟩
 rw[←hX]
 unfold swap at hX
 have HSO:Hid (∀U,Below w.heap.size w U→TM U b t s v∧Tn tB b w U):=fun U hU=>⟨h.below hU,Tn.below hU h.base⟩
 have HW:=hidF hw
 have HL:=hidF hl
 have HRO:=hidF hr
 have HID:=hidF hid
 by_cases hE:swp.fE s.bs s.ss id price=0
 rotate_left
 ·rw[if_neg hE] at hX
  have HX:=hidF hX
  have HKB:=hidF (swp.zJR v.q1 v.q2 v.n1 v.n2 v.c1 v.c2 s.bs s.ss id price qty hid w h.buys.ls h.sells.ls hE)
  generalize swp.fE s.bs s.ss id price=K at *
  obtain⟨q1,n1,c1,q2,n2,c2,sp,vw,pp,qe,ne,ce,qk,nk,ck⟩:=v
  simp only[] at x0 x1 x2 x3 x4 x5 x6 x7 HKB
  clear h hw hl hr hid hX
  go_enter Tryz.func51,Tryz.ntmps51
  go_wp2_with fail
  refine HKB.out.mono ?_
  rintro e w1⟨rfl,b1⟩
  have HT:=hidF (HSO.out w1 b1).2
  clear b1 x0 x1 x2 x3 x4 x5 x6 x7
  go_wp2_with fail
  go_ret
  exact zAn HX.out hE HT.out
 rw[if_pos hE] at hX
 obtain⟨-,hin,hpr⟩:=swp.zFN hE
 have hA:=spot_at hw.book hin
 have HIN:=hidF hin
 have HPR:=hidF hpr
 cases hkb:swp.keepB (spot s.bs s.ss id).p (spot s.bs s.ss id).r price qty with
 | true=>
  rw[hkb,if_pos rfl] at hX
  have HSH:Hid (∀U,Below w.heap.size w U→Calls Tryz.prog 81 #[.pointer (some ⟨t,0,none⟩),.int .i64 id,.int .i64 price,.int .i64 qty] U fun e w'=>∃E,e=.returned E∧Hid (Res tB b t w X (.returned E) w')):=fun U hU=>by
   obtain⟨k1,k2⟩:=HSO.out U hU
   by_cases hq:1≤qty∧qty≤10000
   ·refine(zFV b t s v id price qty U k1 hw (by omega) hin hpr hkb hq).mono ?_
    intro e w' hR
    exact(zBy (hR.step k2 (fun _ h=>h)) hX.symm).hidE
   ·refine(zIe b t s v id price qty U k1 hw hin hpr hq).mono ?_
    intro e w' hR
    exact(zBy (hR.step k2 (fun _ h=>h)) hX.symm).hidE
  generalize spot s.bs s.ss id=x at hA hkb
  obtain⟨xs,xp,⟨r1,r2,r3,r4,r5⟩,xi,xk⟩:=x
  simp only[] at hkb
  have HKA:=hidF (swp.zGA v.q1 v.q2 v.n1 v.n2 v.c1 v.c2 s.bs s.ss id xs xp r1 r2 r3 r4 r5 price qty xi xk w h.buys.ls h.sells.ls hA hpr)
  rw[hkb] at HKA
  obtain⟨q1,n1,c1,q2,n2,c2,sp,vw,pp,qe,ne,ce,qk,nk,ck⟩:=v
  simp only[] at x0 x1 x2 x3 x4 x5 x6 x7 HKA
  clear h hw hl hr hid hX hA hE hin hpr hkb
  go_enter Tryz.func51,Tryz.ntmps51
  go_wp2_with fail
  refine HKA.out.mono ?_
  rintro e w1⟨rfl,b1⟩
  have HB:=hidF b1
  clear b1 x0 x1 x2 x3 x4 x5 x6 x7
  go_wp2_with fail
  refine(HSH.out _ HB.out).mono ?_
  rintro e w2⟨E,rfl,HRR⟩
  go_wp2_with fail
  go_ret
  exact HRR.out
 | false=>
  rw[hkb] at hX
  simp only[Bool.false_eq_true,if_false] at hX
  have HLV:Hid (∀U,TM U b t s v→Calls Tryz.prog 77 #[.pointer (some ⟨t,0,none⟩),.int .i64 id] U (Res tA b t U (leave s id))):=fun U hU=>zEW b t s v id U hU hw (by omega) hid
  generalize spot s.bs s.ss id=x at hA hkb hX
  obtain⟨xs,xp,⟨r1,r2,r3,r4,r5⟩,xi,xk⟩:=x
  simp only[] at hkb hX
  have HX:=hidF hX
  have HKA:=hidF (swp.zGA v.q1 v.q2 v.n1 v.n2 v.c1 v.c2 s.bs s.ss id xs xp r1 r2 r3 r4 r5 price qty xi xk w h.buys.ls h.sells.ls hA hpr)
  rw[hkb] at HKA
  have HF:Hid (∀U,TM U b t s v→Calls Tryz.prog 76 #[.agg #[.slice v.q1 v.n1 v.c1,.slice v.q2 v.n2 v.c2],.int .i64 id] U fun e w'=>e=.returned (.tuple #[.int .i64 xs,.int .i64 xp,.agg #[.int .i64 r1,.int .i64 r2,.int .i64 r3,.int .i64 r4,.int .i64 r5],.nilIface])∧Below U.heap.size U w'):=fun U hU=>swp.zAS v.q1 v.q2 v.n1 v.n2 v.c1 v.c2 s.bs s.ss id xs xp r1 r2 r3 r4 r5 xi xk U hU.buys.ls hU.sells.ls hA
  have HAN:=hidF (fun U=>swp.zML xs r1 r2 r3 r4 r5 price qty U)
  obtain⟨MN,hMN⟩:∃MN,MN=min r5 qty:=⟨_,rfl⟩
  rw[←hMN] at HAN HX
  obtain⟨q1,n1,c1,q2,n2,c2,sp,vw,pp,qe,ne,ce,qk,nk,ck⟩:=v
  simp only[] at x0 x1 x2 x3 x4 x5 x6 x7 HKA HF
  clear h hw hl hr hid hX hA hE hin hpr hkb hMN
  go_enter Tryz.func51,Tryz.ntmps51
  go_wp2_with fail
  refine HKA.out.mono ?_
  rintro e w1⟨rfl,b1⟩
  have HB:=hidF b1
  obtain⟨-,y1,y2,-⟩:=(HSO.out w1 b1).1.cells
  simp only[] at y1 y2
  have HF1:=hidF (HF.out w1 (HSO.out w1 b1).1)
  clear b1 x0 x1 x2 x3 x4 x5 x6 x7 HKA HF
  go_wp2_with fail
  refine HF1.out.mono ?_
  rintro e w3⟨rfl,b3⟩
  obtain⟨W4,hW4⟩:∃W4,W4=w3.alloc (.cells #[.int .i64 r1,.int .i64 r2,.int .i64 r3,.int .i64 r4,.int .i64 r5] 54):=⟨_,rfl⟩
  have hb4:Below w3.heap.size w3 W4:=by rw[hW4];exact(bzR _ _).alloc (nzR _) _
  have hr4:W4.heap[w3.heap.size]?=some (.cells #[.int .i64 r1,.int .i64 r2,.int .i64 r3,.int .i64 r4,.int .i64 r5] 54 (0,0)):=by rw[hW4];exact heap_alloc_new w3 _
  have hb14:=b3.trans (hb4.mono b3.size)
  have HB4:=hidF (HB.out.trans (hb14.mono HB.out.size))
  have HSO4:=hidF (HSO.out W4 HB4.out)
  have HR4:=hidF hr4
  have HLV4:=hidF (HLV.out W4 HSO4.out.1)
  clear b3 hb4 hr4 hb14 HB HB4 HF1 HLV HSO y1 y2
  go_upto_if 49 with fail
  rw[←hW4]
  clear hW4
  generalize w3.heap.size=RB at *
  go_wp2_with fail
  refine HLV4.out.mono ?_
  intro e w5 hR
  have HT5:=hidF (HSO4.out.2.trans (hR.1.mono tA_tB))
  have HR5:=hidF (hR.1.kp.typ _ _ _ HR4.out (by decide))
  rcases zBC hR with ⟨s1,v1,hx1,rfl,HM5⟩|⟨k,rfl,HE⟩
  rotate_left
  ·have HRR:Hid (Res tB b t w X (.returned (.iface 91 (.int .i64 k))) w5):=zAn (by rw[HX.out,HE.out.1];rfl) HE.out.2 HT5.out
   clear hR
   go_wp2_with fail
   go_ret
   exact HRR.out
  have HXX:Hid (X=place s1 ⟨r1,r2,xs,1,price,qty,MN,0⟩):=by show _=_;rw[HX.out,hx1];rfl
  have HG:=hidF (zEc HW.out hx1)
  have HRW:Hid (s1.row=s.row):=by
   show _=_
   unfold leave at hx1
   rw[if_pos HIN.out] at hx1
   have hw0:Wf { s with bs:=swp.cB (spot s.bs s.ss id).s s.bs (spot s.bs s.ss id).i (spot s.bs s.ss id).k,ss:=swp.cS (spot s.bs s.ss id).s s.ss (spot s.bs s.ss id).i (spot s.bs s.ss id).k }:=⟨HW.out.m0,HW.out.m3,zAP (spot_at HW.out.book HIN.out),HW.out.ok,HW.out.ws⟩
   exact(zEa hw0 hx1).2.row
  have HPL:Hid (∀U,Below w5.heap.size w5 U→Calls Tryz.prog 49 #[.pointer (some ⟨t,0,none⟩),.agg #[.int .i64 r1,.int .i64 r2,.int .i64 xs,.int .i64 1,.int .i64 price,.int .i64 qty,.int .i64 MN,.int .i64 0]] U fun e w'=>∃E,e=.returned E∧Hid (Res tB b t w X (.returned E) w')):=fun U hU=>by
   refine(zFd b t s1 v1 r1 r2 xs 1 price qty MN 0 U (HM5.out.below hU) HG.out.wf (by have:=HG.out.evs;have:=HL.out;omega) (by rw[HRW.out];have:=HRO.out;omega)).mono ?_
   intro e w' hR
   exact(zBy (hR.step (HT5.out.trans (Tn.below hU HM5.out.base)) (fun _ h=>h)) HXX.out.symm).hidE
  clear hR hx1 HLV4 HSO4 HR4
  obtain⟨z0,z1,z2,z3,z4,-⟩:=sid.rowFive HR5.out
  go_wp2_with fail
  refine(HAN.out _).mono ?_
  rintro e w6⟨rfl,b6⟩
  have HB6:=hidF b6
  clear b6 z0 z1 z2 z3 z4
  go_wp2_with fail
  refine(HPL.out _ HB6.out).mono ?_
  rintro e w7⟨E,rfl,HRR⟩
  go_wp2_with fail
  go_ret
  exact HRR.out
end flr
end Go.Proofs.YtifjhlgjgnnnpaaGreat
