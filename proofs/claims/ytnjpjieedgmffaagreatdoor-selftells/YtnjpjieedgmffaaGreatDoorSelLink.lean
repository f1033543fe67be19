import Derived.Test.YtnjpjieedgmffaaGreatDoorKinRef3
import Derived.Test.YtnjpjieedgmffaaGreatDoorSelPure
import Derived.Test.YtnjpjieedgmffaaGreatDoorTold
import Derived.Test.YtnjpjieedgmffaaGreatDoorSelMem
namespace Go.Proofs.YtnjpjieedgmffaaGreatDoor.selfTells
open Go.RowKit spn que sid bok mee kin
open ord (O oV mB mE chk rord_any ref_may)
theorem int_eqK {a b:Int}(h:a=b):(Value.int .i64 a)=.int .i64 b:=by rw[h]
theorem bool_eqK {a b:Bool}(h:a=b):Value.bool a=.bool b:=by rw[h]
theorem ownT_nilK (w:World) (base:Nat):OwnT w base (.slice none 0 0) []:=⟨rfl,.inl ⟨rfl,rfl⟩⟩
theorem ownI_nilK (w:World) (base:Nat):slf.OwnI w base (.slice none 0 0) []:=⟨rfl,.inl ⟨rfl,rfl⟩⟩
theorem err_oneK (k:Int) (B wx:World) (h:told.Inv B wx) :
  Calls Tryz.prog 7 #[errV k,.int .i64 k] wx fun ev w'=>ev=.returned (.bool true)∧Below wx.heap.size wx w':=by
 refine(told.error_any wx k k wx (told.Inv.start h.laid)).mono ?_
 rintro e w' ⟨rfl,h'⟩
 exact⟨by rw[beq_self_eq_true],h'.2⟩
set_option maxRecDepth 100000 in
set_option maxHeartbeats 8000000 in
theorem walk0 (q1 q2:Option Addr) (n1 n2 c1 c2:Nat) (bs ss:List L) (a b c d p q s t m:Int) (D GG E:Int) (BB SS:List L) (TS:List T) (IDS:List Int) (B w:World) (hI:told.Inv B w) (h1:LS w (.slice q1 n1 c1) bs) (h2:LS w (.slice q2 n2 c2) ss)
  (hE1:(m < 0∨3 < m)→E=1) (hE2:¬(m < 0∨3 < m)→E=comeE bs ss ⟨a,b,c,d,p,q,s,t⟩)
  (hz:¬E=0→D=E∧GG=0∧BB=[]∧SS=[]∧TS=[]∧IDS=[]) (hbk:bookE BB SS=0) (hlen:TS.length≤400)
  (hDO:∀w',LS w' (.slice q1 n1 c1) bs→LS w' (.slice q2 n2 c2) ss→Calls Tryz.prog 6 #[.agg #[.slice q1 n1 c1,.slice q2 n2 c2],.agg #[.int .i64 a,.int .i64 b,.int .i64 c,.int .i64 d,.int .i64 p,.int .i64 q,.int .i64 s,.int .i64 t],.int .i64 m] w' fun e w''=>∃u1 u2 m1 m2 j1 j2 sq sn sc rq rn rc,e=.returned (.tuple #[.agg #[.slice u1 m1 j1,.slice u2 m2 j2],.slice sq sn sc,.int .i64 GG,.slice rq rn rc,errV D])∧(LS w'' (.slice u1 m1 j1) BB∧LS w'' (.slice u2 m2 j2) SS∧OwnT w'' w'.heap.size (.slice sq sn sc) TS∧slf.OwnI w'' w'.heap.size (.slice rq rn rc) IDS)∧Below w'.heap.size w' w'')
  (hCO:E=0→∀w',LS w' (.slice q1 n1 c1) bs→LS w' (.slice q2 n2 c2) ss→Calls Tryz.prog 5 #[.agg #[.slice q1 n1 c1,.slice q2 n2 c2],.agg #[.int .i64 a,.int .i64 b,.int .i64 c,.int .i64 d,.int .i64 p,.int .i64 q,.int .i64 s,.int .i64 t],.int .i64 m] w' fun e w''=>∃y1 y2 l1 l2 k1 k2 tq tn tc lf iq jn ic eb,e=.returned (.tuple #[.agg #[.slice y1 l1 k1,.slice y2 l2 k2,.slice tq tn tc,.int .i64 lf,.int .i64 GG,.slice iq jn ic,.bool eb],.int .i64 D])∧(LS w'' (.slice y1 l1 k1) BB∧LS w'' (.slice y2 l2 k2) SS∧OwnT w'' w'.heap.size (.slice tq tn tc) TS∧slf.OwnI w'' w'.heap.size (.slice iq jn ic) IDS)∧Below w'.heap.size w' w'') :
  Calls Tryz.prog 3 #[.agg #[.slice q1 n1 c1,.slice q2 n2 c2],.agg #[.int .i64 a,.int .i64 b,.int .i64 c,.int .i64 d,.int .i64 p,.int .i64 q,.int .i64 s,.int .i64 t],.int .i64 m] w fun e w'=>e=.returned (.bool true)∧told.Inv B w':=by
 have HE1:=hidK hE1
 have HE2:=hidK hE2
 have HZ:=hidK hz
 have HLV0:=hidK (book_lv hbk)
 have HLEN:=hidK hlen
 have HDOA:=hidK hDO
 have HCOA:=hidK hCO
 clear hE1 hE2 hz hbk hlen hDO hCO
 obtain⟨V,hV⟩:∃V,V=(w.alloc (.cells #[.slice q1 n1 c1,.slice q2 n2 c2] 24)).alloc (.cells #[.int .i64 a,.int .i64 b,.int .i64 c,.int .i64 d,.int .i64 p,.int .i64 q,.int .i64 s,.int .i64 t] 26):=⟨_,rfl⟩
 have HB:Hid (Below w.heap.size w V):=by rw[hV];exact((bzR _ _).alloc (nzR _) _).alloc (by simp) _
 have v0:V.cell? ⟨w.heap.size,0,none⟩=some (.slice q1 n1 c1):=by rw[hV];simp[go_sem]
 have v1:V.cell? ⟨w.heap.size,1,none⟩=some (.slice q2 n2 c2):=by rw[hV];simp[go_sem]
 have hR:V.heap[w.heap.size+1]?=some (.cells #[.int .i64 a,.int .i64 b,.int .i64 c,.int .i64 d,.int .i64 p,.int .i64 q,.int .i64 s,.int .i64 t] 26 (0,0)):=by
  rw[hV]
  have:=heap_alloc_new (w.alloc (.cells #[.slice q1 n1 c1,.slice q2 n2 c2] 24)) (.cells #[.int .i64 a,.int .i64 b,.int .i64 c,.int .i64 d,.int .i64 p,.int .i64 q,.int .i64 s,.int .i64 t] 26)
  simpa using this
 have cel:∀i,V.cell? ⟨w.heap.size+1,i,none⟩=(#[.int .i64 a,.int .i64 b,.int .i64 c,.int .i64 d,.int .i64 p,.int .i64 q,.int .i64 s,.int .i64 t]:Array Value)[i]?:=fun i=>by simp[World.cell?,hR]
 have HSO:Hid (∀W,Below V.heap.size V W→(Below w.heap.size w W∧told.Inv B W∧LS W (.slice q1 n1 c1) bs∧LS W (.slice q2 n2 c2) ss)∧W.cell? ⟨w.heap.size,0,none⟩=some (.slice q1 n1 c1)∧W.cell? ⟨w.heap.size,1,none⟩=some (.slice q2 n2 c2)∧W.cell? ⟨w.heap.size+1,0,none⟩=some (.int .i64 a)∧W.cell? ⟨w.heap.size+1,1,none⟩=some (.int .i64 b)∧W.cell? ⟨w.heap.size+1,2,none⟩=some (.int .i64 c)∧W.cell? ⟨w.heap.size+1,3,none⟩=some (.int .i64 d)∧W.cell? ⟨w.heap.size+1,4,none⟩=some (.int .i64 p)∧W.cell? ⟨w.heap.size+1,5,none⟩=some (.int .i64 q)∧W.cell? ⟨w.heap.size+1,6,none⟩=some (.int .i64 s)∧W.cell? ⟨w.heap.size+1,7,none⟩=some (.int .i64 t)):=
  fun W hW=>by
   have hw:=HB.out.trans (hW.mono HB.out.size)
   exact⟨⟨hw,hI.on hw,h1.below hw,h2.below hw⟩,keeps hW v0,keeps hW v1,keeps hW (cel 0),keeps hW (cel 1),keeps hW (cel 2),keeps hW (cel 3),keeps hW (cel 4),keeps hW (cel 5),keeps hW (cel 6),keeps hW (cel 7)⟩
 clear h1 h2 hI v0 v1 hR cel
 go_enter Tryz.func3,Tryz.ntmps3
 go_upto_region 2 with fail
 rw[←hV]
 clear hV
 go_cut [23] from 18 to 23 (fun s23 wx=>s23=.bool (decide (m < 0∨3 < m))∧wx=V)
 case first=>
  by_cases h1:m < 0
  ·go_wp2_with fail
   go_meet
   case rel=>exact⟨bool_eqK (by simp[h1]),rfl⟩
  ·by_cases h2:3 < m
   ·go_wp2_with fail
    go_meet
    case rel=>exact⟨bool_eqK (by simp[h2]),rfl⟩
   ·go_wp2_with fail
    go_meet
    case rel=>exact⟨bool_eqK (by simp[h1,h2]),rfl⟩
 case rest=>
 obtain⟨rfl,hwc⟩:=hcut
 have hwd:=hwc.symm
 clear hwc
 subst hwd
 go_upto_if 23 with fail
 obtain⟨F,hF⟩:∃F:Int,(if m < 0∨3 < m then 1 else 0)=F:=⟨_,rfl⟩
 have HF:=hidK hF
 clear hF
 go_cut [7] from 23 to 23 (fun s7 wx=>s7=.int .i64 F∧wx=V)
 case first=>
  by_cases h0:m < 0∨3 < m
  ·have h0' : decide (m < 0∨3 < m)=true:=by simpa using h0
   have hR:F=1:=by rw[←HF.out,if_pos h0]
   rw[h0']
   clear h0 h0'
   go_wp2_with fail
   go_meet
   case rel=>exact⟨int_eqK hR.symm,rfl⟩
  ·have h0' : decide (m < 0∨3 < m)=false:=by simpa using h0
   have hR:F=0:=by rw[←HF.out,if_neg h0]
   rw[h0']
   clear h0 h0'
   go_wp2_with fail
   go_meet
   case rel=>exact⟨int_eqK hR.symm,rfl⟩
 case rest=>
 obtain⟨rfl,hwc⟩:=hcut
 have hwd:=hwc.symm
 clear hwc
 subst hwd
 go_upto_if 25 with fail
 go_cut [7] from 25 to 28 (fun s7 wx=>s7=.int .i64 E∧Aside (Below V.heap.size V wx))
 case first=>
  by_cases h0:F=0
  ·subst h0
   have hm:¬(m < 0∨3 < m):=fun h=>by have:=HF.out;rw[if_pos h] at this;omega
   have HCE:=hidK (HE2.out hm)
   obtain⟨⟨-,-,hL1,hL2⟩,x0,x1,o0,o1,o2,o3,o4,o5,o6,o7⟩:=HSO.out V (bzR _ _)
   have HRC:=hidK (rcomes_any q1 q2 n1 n2 c1 c2 bs ss a b c d p q s t V hL1 hL2)
   rw[←HCE.out] at HRC
   clear hL1 hL2 hm
   go_wp2_with fail
   refine HRC.out.mono ?_
   rintro e w1 ⟨rfl,b1⟩
   have HB1:=hidK b1
   clear b1 HRC x0 x1 o0 o1 o2 o3 o4 o5 o6 o7
   go_wp2_with fail
   go_meet
   case rel=>exact⟨rfl,HB1.out⟩
  ·have h0' : (F == 0)=false:=by simp[h0]
   have hE:F=E:=by
    have hm:m < 0∨3 < m:=Classical.byContradiction fun h=>h0 (by rw[←HF.out,if_neg h])
    rw[←HF.out,if_pos hm,HE1.out hm]
   go_wp2_with fail
   go_meet
   case rel=>exact⟨int_eqK hE,bzR _ _⟩
 case rest=>
 obtain⟨rfl,HA⟩:=hcut
 have HW1:=hidK HA.out
 clear HA
 have hBa:Below wc.heap.size wc (wc.alloc (.cells #[.slice none 0 0,.slice none 0 0,.slice none 0 0,.int .i64 0,.int .i64 0,.slice none 0 0,.bool false] 31)):=(bzR _ _).alloc (nzR _) _
 have hRM:(wc.alloc (.cells #[.slice none 0 0,.slice none 0 0,.slice none 0 0,.int .i64 0,.int .i64 0,.slice none 0 0,.bool false] 31)).heap[wc.heap.size]?=some (.cells #[.slice none 0 0,.slice none 0 0,.slice none 0 0,.int .i64 0,.int .i64 0,.slice none 0 0,.bool false] 31 (0,0)):=heap_alloc_new wc _
 have HW2:=hidK (HW1.out.trans (hBa.mono HW1.out.size))
 have HSZ:=hidK (show V.heap.size≤wc.heap.size from HW1.out.size)
 clear hBa HW1 HF HE1 HE2
 go_upto_if 30 with fail
 generalize wc.alloc (.cells #[.slice none 0 0,.slice none 0 0,.slice none 0 0,.int .i64 0,.int .i64 0,.slice none 0 0,.bool false] 31)=W2 at *
 generalize wc.heap.size=M0 at *
 go_cut [7] from 30 to 37 (fun s7 wx=>∃y1 y2 l1 l2 k1 k2 tq tn tc lf iq jn ic eb,s7=.int .i64 D∧wx.heap[M0]?=some (.cells #[.slice y1 l1 k1,.slice y2 l2 k2,.slice tq tn tc,.int .i64 lf,.int .i64 GG,.slice iq jn ic,.bool eb] 31 (0,0))∧Aside (Below V.heap.size V wx∧LS wx (.slice y1 l1 k1) BB∧LS wx (.slice y2 l2 k2) SS∧OwnT wx M0 (.slice tq tn tc) TS∧slf.OwnI wx M0 (.slice iq jn ic) IDS))
 case first=>
  obtain⟨z0,z1,z2,z3,z4,z5,z6,zf⟩:=rowSeven hRM
  by_cases h0:E=0
  ·obtain⟨⟨-,-,hL1,hL2⟩,x0,x1,o0,o1,o2,o3,o4,o5,o6,o7⟩:=HSO.out W2 HW2.out
   have HME:=hidK (HCOA.out h0 W2 hL1 hL2)
   clear hL1 hL2
   clear HCOA HZ
   subst h0
   go_wp2_with fail
   refine HME.out.mono ?_
   rintro e w3 ⟨y1,y2,l1,l2,k1,k2,tq,tn,tc,lf,iq,jn,ic,eb,rfl,⟨g1,g2,g3,g4⟩,b3⟩
   have hW3:=HW2.out.trans (b3.mono HW2.out.size)
   have hR3:=(b3.block M0 (gzE.1 hRM).1).trans hRM
   have hM2:M0 < W2.heap.size:=(gzE.1 hRM).1
   clear z0 z1 z2 z3 z4 z5 z6 zf x0 x1 o0 o1 o2 o3 o4 o5 o6 o7 HME
   obtain⟨z0,z1,z2,z3,z4,z5,z6,zf⟩:=rowSeven hR3
   have f0:=zf 0
   have f1:=zf 1
   have f2:=zf 2
   have f3:=zf 3
   have f4:=zf 4
   have f5:=zf 5
   have f6:=zf 6
   have hB0:V.heap.size≤M0:=HSZ.out
   have hset:=setSeven hR3 (.slice y1 l1 k1) (.slice y2 l2 k2) (.slice tq tn tc) (.int .i64 lf) (.int .i64 GG) (.slice iq jn ic) (.bool eb)
   have hgr:=grSeven w3 M0 (.slice y1 l1 k1) (.slice y2 l2 k2) (.slice tq tn tc) (.int .i64 lf) (.int .i64 GG) (.slice iq jn ic) (.bool eb)
   have HFIN:=hidK (show Below V.heap.size V (((((((w3.setCell ⟨M0,0,none⟩ (.slice y1 l1 k1)).setCell ⟨M0,1,none⟩ (.slice y2 l2 k2)).setCell ⟨M0,2,none⟩ (.slice tq tn tc)).setCell ⟨M0,3,none⟩ (.int .i64 lf)).setCell ⟨M0,4,none⟩ (.int .i64 GG)).setCell ⟨M0,5,none⟩ (.slice iq jn ic)).setCell ⟨M0,6,none⟩ (.bool eb))∧LS (((((((w3.setCell ⟨M0,0,none⟩ (.slice y1 l1 k1)).setCell ⟨M0,1,none⟩ (.slice y2 l2 k2)).setCell ⟨M0,2,none⟩ (.slice tq tn tc)).setCell ⟨M0,3,none⟩ (.int .i64 lf)).setCell ⟨M0,4,none⟩ (.int .i64 GG)).setCell ⟨M0,5,none⟩ (.slice iq jn ic)).setCell ⟨M0,6,none⟩ (.bool eb)) (.slice y1 l1 k1) BB∧LS (((((((w3.setCell ⟨M0,0,none⟩ (.slice y1 l1 k1)).setCell ⟨M0,1,none⟩ (.slice y2 l2 k2)).setCell ⟨M0,2,none⟩ (.slice tq tn tc)).setCell ⟨M0,3,none⟩ (.int .i64 lf)).setCell ⟨M0,4,none⟩ (.int .i64 GG)).setCell ⟨M0,5,none⟩ (.slice iq jn ic)).setCell ⟨M0,6,none⟩ (.bool eb)) (.slice y2 l2 k2) SS∧OwnT (((((((w3.setCell ⟨M0,0,none⟩ (.slice y1 l1 k1)).setCell ⟨M0,1,none⟩ (.slice y2 l2 k2)).setCell ⟨M0,2,none⟩ (.slice tq tn tc)).setCell ⟨M0,3,none⟩ (.int .i64 lf)).setCell ⟨M0,4,none⟩ (.int .i64 GG)).setCell ⟨M0,5,none⟩ (.slice iq jn ic)).setCell ⟨M0,6,none⟩ (.bool eb)) M0 (.slice tq tn tc) TS∧slf.OwnI (((((((w3.setCell ⟨M0,0,none⟩ (.slice y1 l1 k1)).setCell ⟨M0,1,none⟩ (.slice y2 l2 k2)).setCell ⟨M0,2,none⟩ (.slice tq tn tc)).setCell ⟨M0,3,none⟩ (.int .i64 lf)).setCell ⟨M0,4,none⟩ (.int .i64 GG)).setCell ⟨M0,5,none⟩ (.slice iq jn ic)).setCell ⟨M0,6,none⟩ (.bool eb)) M0 (.slice iq jn ic) IDS from
    ⟨hW3.grown hgr hW3.size (fun k hk=>by cases hk;exact hB0),ls_off g1 hgr (met_no hR3) HLV0.out.1,ls_off g2 hgr (met_no hR3) HLV0.out.2,OwnM.mono (kept_of g3 hgr (fun z hz e=>by cases e;have:=(OwnM.lt g3 M0 hz).1;omega)) (by omega),OwnM.mono (kept_of g4 hgr (fun z hz e=>by cases e;have:=(OwnM.lt g4 M0 hz).1;omega)) (by omega)⟩)
   have HHX:=hidK hset
   clear hset hgr g1 g2 g3 g4 b3 zf hR3 hW3
   go_wp2_with fail
   go_meet
   case rel=>exact⟨y1,y2,l1,l2,k1,k2,tq,tn,tc,lf,iq,jn,ic,eb,rfl,HHX.out,HFIN.out⟩
  ·have h0' : (E == 0)=false:=by simp[h0]
   have HEQ:=hidK (HZ.out h0)
   have HRM:=hidK hRM
   clear zf HCOA HZ HDOA
   go_wp2_with fail
   go_meet
   case rel=>
    refine⟨none,none,0,0,0,0,none,0,0,0,none,0,0,false,int_eqK HEQ.out.1.symm,by rw[HEQ.out.2.1];exact HRM.out,HW2.out,?_⟩
    rw[HEQ.out.2.2.1,HEQ.out.2.2.2.1,HEQ.out.2.2.2.2.1,HEQ.out.2.2.2.2.2]
    exact⟨ls_nil _,ls_nil _,ownT_nilK _ _,ownI_nilK _ _⟩
 case rest=>
 obtain⟨y1,y2,l1,l2,k1,k2,tq,tn,tc,lf,iq,jn,ic,eb,rfl,hRM3,HA⟩:=hcut
 have HW3:=hidK HA.out.1
 have HME:=hidK HA.out.2
 clear HA hRM HW2 HCOA HZ
 obtain⟨⟨-,-,hL1,hL2⟩,x0,x1,o0,o1,o2,o3,o4,o5,o6,o7⟩:=HSO.out wc HW3.out
 have HDO:=hidK (HDOA.out wc hL1 hL2)
 clear hL1 hL2 HDOA
 go_wp2_with fail
 refine HDO.out.mono ?_
 rintro e w4 ⟨u1,u2,m1,m2,j1,j2,sq,sn,sc,rq,rn,rc,rfl,⟨g1,g2,g3,g4⟩,b4⟩
 have hBa:Below w4.heap.size w4 (w4.alloc (.cells #[.slice u1 m1 j1,.slice u2 m2 j2] 24)):=(bzR _ _).alloc (nzR _) _
 have hb4:=b4.trans (hBa.mono b4.size)
 have hRX:(w4.alloc (.cells #[.slice u1 m1 j1,.slice u2 m2 j2] 24)).heap[w4.heap.size]?=some (.cells #[.slice u1 m1 j1,.slice u2 m2 j2] 24 (0,0)):=heap_alloc_new w4 _
 have HW5:=hidK (HW3.out.trans (hb4.mono HW3.out.size))
 have HX5:=hidK (show LS (w4.alloc (.cells #[.slice u1 m1 j1,.slice u2 m2 j2] 24)) (.slice u1 m1 j1) BB∧LS (w4.alloc (.cells #[.slice u1 m1 j1,.slice u2 m2 j2] 24)) (.slice u2 m2 j2) SS∧OwnT (w4.alloc (.cells #[.slice u1 m1 j1,.slice u2 m2 j2] 24)) wc.heap.size (.slice sq sn sc) TS∧slf.OwnI (w4.alloc (.cells #[.slice u1 m1 j1,.slice u2 m2 j2] 24)) wc.heap.size (.slice rq rn rc) IDS from⟨g1.below hBa,g2.below hBa,OwnM.below g3 hBa,OwnM.below g4 hBa⟩)
 have HM5:=hidK (show LS (w4.alloc (.cells #[.slice u1 m1 j1,.slice u2 m2 j2] 24)) (.slice y1 l1 k1) BB∧LS (w4.alloc (.cells #[.slice u1 m1 j1,.slice u2 m2 j2] 24)) (.slice y2 l2 k2) SS∧OwnT (w4.alloc (.cells #[.slice u1 m1 j1,.slice u2 m2 j2] 24)) M0 (.slice tq tn tc) TS∧slf.OwnI (w4.alloc (.cells #[.slice u1 m1 j1,.slice u2 m2 j2] 24)) M0 (.slice iq jn ic) IDS from⟨HME.out.1.below hb4,HME.out.2.1.below hb4,OwnM.below HME.out.2.2.1 hb4,OwnM.below HME.out.2.2.2 hb4⟩)
 have hRM5:=(hb4.block M0 (gzE.1 hRM3).1).trans hRM3
 clear x0 x1 o0 o1 o2 o3 o4 o5 o6 o7 hBa hb4 b4 g1 g2 g3 g4 hRM3 HME HDO HW3
 go_upto_region 10 with fail
 generalize w4.alloc (.cells #[.slice u1 m1 j1,.slice u2 m2 j2] 24)=W5 at *
 generalize w4.heap.size=X0 at *
 obtain⟨⟨-,hI5,-,-⟩,-⟩:=HSO.out W5 HW5.out
 have HE7:=hidK (err_oneK D B W5 hI5)
 clear hI5
 generalize hEV:errV D=EV at *
 clear hEV
 go_wp2_with fail
 refine HE7.out.mono ?_
 rintro e w6 ⟨rfl,b6⟩
 have HW6:=hidK (HW5.out.trans (b6.mono HW5.out.size))
 have HX6:=hidK (show LS w6 (.slice u1 m1 j1) BB∧LS w6 (.slice u2 m2 j2) SS∧OwnT w6 wc.heap.size (.slice sq sn sc) TS∧slf.OwnI w6 wc.heap.size (.slice rq rn rc) IDS from⟨HX5.out.1.below b6,HX5.out.2.1.below b6,OwnM.below HX5.out.2.2.1 b6,OwnM.below HX5.out.2.2.2 b6⟩)
 have HM6:=hidK (show LS w6 (.slice y1 l1 k1) BB∧LS w6 (.slice y2 l2 k2) SS∧OwnT w6 M0 (.slice tq tn tc) TS∧slf.OwnI w6 M0 (.slice iq jn ic) IDS from⟨HM5.out.1.below b6,HM5.out.2.1.below b6,OwnM.below HM5.out.2.2.1 b6,OwnM.below HM5.out.2.2.2 b6⟩)
 have hRM6:=(b6.block M0 (gzE.1 hRM5).1).trans hRM5
 have hRX6:=(b6.block X0 (gzE.1 hRX).1).trans hRX
 clear b6 hRM5 hRX HM5 HX5 HE7 HW5
 obtain⟨z0,z1,z2,z3,z4,z5,z6,-⟩:=rowSeven hRM6
 obtain⟨t0,t1,-⟩:=rowTwo hRX6
 go_wp2_with fail
 refine(book_same u1 u2 y1 y2 m1 m2 j1 j2 l1 l2 k1 k2 _ _ w6 HX6.out.1 HX6.out.2.1 HM6.out.1 HM6.out.2.1).mono ?_
 rintro e w7 ⟨rfl,b7⟩
 have HW7:=hidK (HW6.out.trans (b7.mono HW6.out.size))
 have HT7:=hidK (OwnM.below HX6.out.2.2.1 b7)
 have HM7:=hidK (OwnM.below HM6.out.2.2.1 b7)
 have HI7:=hidK (OwnM.below HX6.out.2.2.2 b7)
 have HJ7:=hidK (OwnM.below HM6.out.2.2.2 b7)
 have hRM7:=(b7.block M0 (gzE.1 hRM6).1).trans hRM6
 clear b7 hRM6 hRX6 HM6 HX6 HW6 z0 z1 z2 z3 z4 z5 z6 t0 t1
 obtain⟨z0,z1,z2,z3,z4,z5,z6,-⟩:=rowSeven hRM7
 have HN4:=hidK (show TS.length≤9223372036854775807 by have:=HLEN.out;omega)
 go_wp2_with fail
 refine(trades_same sq tq sn tn sc tc _ _ _ w7 HN4.out HT7.out HM7.out).mono ?_
 rintro e w8 ⟨rfl,b8⟩
 have HW8:=hidK (HW7.out.trans (b8.mono HW7.out.size))
 have HI8:=hidK (OwnM.below HI7.out b8)
 have HJ8:=hidK (OwnM.below HJ7.out b8)
 have hRM8:=(b8.block M0 (gzE.1 hRM7).1).trans hRM7
 clear b8 hRM7 HM7 HT7 HW7 HI7 HJ7 z0 z1 z2 z3 z4 z5 z6 HN4
 obtain⟨z0,z1,z2,z3,z4,z5,z6,-⟩:=rowSeven hRM8
 go_wp2_with fail
 refine(smt.ints_same rq iq rn jn rc ic _ _ IDS w8 HI8.out HJ8.out).mono ?_
 rintro e w9 ⟨rfl,b9⟩
 have HW9:=hidK (HW8.out.trans (b9.mono HW8.out.size))
 have hRM9:=(b9.block M0 (gzE.1 hRM8).1).trans hRM8
 clear b9 hRM8 HI8 HJ8 HW8 z0 z1 z2 z3 z4 z5 z6
 obtain⟨z0,z1,z2,z3,z4,z5,z6,-⟩:=rowSeven hRM9
 have HI15:=hidK (HSO.out w9 HW9.out).1.2.1
 have hgg:(GG == GG)=true:=by simp
 clear HSO hRM9
 go_wp2_with fail
 go_ret
 exact⟨rfl,HI15.out⟩
end Go.Proofs.YtnjpjieedgmffaaGreatDoor.selfTells
namespace Go.Proofs.YtnjpjieedgmffaaGreatDoor.slf
open Go.RowKit spn que sid bok mee
open ord (O mB chk)
def Fin (v:V) (X:List L) (ts:List T) (ids:List Int) (left gone:Int):Prop:=
 v.ls=X∧v.ts=ts∧v.ids=ids∧left=(if v.ends=true then 0 else v.left)∧gone=(if v.ends=true then v.left else 0)
def Link (m:Int) (o:O) (v:V) (X:List L) (ts:List T) (ids:List Int) (left gone:Int):Prop:=
 (0 < left∧gone=0∧∃u,Fine m o X left u∧v=⟨u.ls,ts++u.ts,u.left,u.ends,ids++u.ids⟩)∨(left=0∧Fin v X ts ids left gone)
def dropX (m p:Int) (r:R) (rs:List R) (t:List L):List L:=if m=1 then ⟨p,r::rs⟩::t else stepL p rs t
def dropI (m:Int) (ids:List Int) (id:Int):List Int:=if m=1 then ids else ids++[id]
def dropLf (m left:Int):Int:=if m=2 then left else 0
def dropGn (m gone left:Int):Int:=if m=2 then gone else left
theorem link_first {m:Int}{o:O}{v:V}{X:List L}{k:Int}(h:Fine m o X k v) (hk:0 < k):Link m o v X [] [] k 0:=.inl ⟨hk,rfl,v,h,by simp⟩
theorem link_round {m:Int}{o:O}{v:V}{X:List L}{ts:List T}{ids:List Int}{left gone:Int}(hm:m=1∨m=2∨m=3) (h:Link m o v X ts ids left gone) (hp:0 < left) (hl:∀l∈X,lchk l=0) :
  gone=0∧(tkl o X (min (aheadR o X).1 left)).2.2=0∧0≤(aheadR o X).1∧
  (¬(ts++(tkl o X (min (aheadR o X).1 left)).2.1).length≤400→¬v.ts.length≤400)∧
  ((left - min (aheadR o X).1 left=0∨(aheadR o X).2=0)→Fin v (tkl o X (min (aheadR o X).1 left)).1 (ts++(tkl o X (min (aheadR o X).1 left)).2.1) ids (left - min (aheadR o X).1 left) 0)∧
  (¬left - min (aheadR o X).1 left=0→¬(aheadR o X).2=0→∃p r rs t,(tkl o X (min (aheadR o X).1 left)).1=⟨p,r::rs⟩::t∧r.id=(aheadR o X).2∧
   Link m o v (dropX m p r rs t) (ts++(tkl o X (min (aheadR o X).1 left)).2.1) (dropI m ids r.id) (dropLf m (left - min (aheadR o X).1 left)) (dropGn m 0 (left - min (aheadR o X).1 left))):=by
 rcases h with ⟨-,hg,u,hu,hv⟩|⟨h0,-⟩
 rotate_left
 ·omega
 have hA:=(ahead_le (o:=o) X hl).1
 obtain⟨c1,c2,c3⟩:=coarse (m:=m) (o:=o) left.toNat X left (by omega) hp hl
 have hql:min (aheadR o X).1 left≤left∧0≤min (aheadR o X).1 left:=by omega
 generalize hQ:min (aheadR o X).1 left=q at *
 have hTL:∀l∈(tkl o X q).1,lchk l=0:=tkl_good hql.2 hl
 generalize hTK:tkl o X q=TK at *
 obtain⟨R,hR⟩:=fine_ex (o:=o) (k:=left - q) hm hTL
 have hu2:=fine_det hu _ (c2 R hR)
 subst hu2
 refine⟨hg,c1,hA,fun h=>?_,fun h=>?_,fun h1 h2=>?_⟩
 ·rw[hv]
  simp only[List.length_append] at h ⊢
  omega
 ·have hR2:R=⟨TK.1,[],left - q,false,[]⟩:=by
   by_cases h0:left - q≤0
   ·exact fine_det (Fine.done h0) _ hR
   ·have h2:(aheadR o X).2=0:=by rcases h with h|h;omega;exact h
    exact fine_det (Fine.stop ((c3 (by omega)).1 h2)) _ hR
  rw[hv,hR2]
  simp[Fin]
 ·obtain⟨p,r,rs,t,e1,e2,e3,e4⟩:=(c3 (by omega)).2 h2
  refine⟨p,r,rs,t,e1,e4,?_⟩
  have hk:0 < left - q:=by omega
  rw[e1] at hR
  rcases hm with rfl|rfl|rfl
  ·have hR2:=fine_det (Fine.taker hk e2 e3 rfl) _ hR
   refine .inr ⟨rfl,?_⟩
   rw[hv,hR2]
   simp[Fin,dropX,dropI,dropLf,dropGn]
  ·cases hR with
   | done h=>omega
   | stop h=>have:=h _ _ rfl;simp only[] at this;rw[e2] at this;cases this
   | taker _ _ _ h=>omega
   | both _ _ _ h=>omega
   | fill _ _ h=>exact absurd e3 h
   | maker _ _ _ _ h=>
    refine .inl ⟨by simp[dropLf];omega,by simp[dropGn],_,by simpa [dropX,dropLf] using h,?_⟩
    rw[hv]
    simp[dropI]
  ·have hR2:=fine_det (Fine.both hk e2 e3 rfl) _ hR
   refine .inr ⟨rfl,?_⟩
   rw[hv,hR2]
   simp[Fin,dropX,dropI,dropLf,dropGn]
theorem link_end {m:Int}{o:O}{v:V}{X:List L}{ts:List T}{ids:List Int}{left gone:Int}(h:Link m o v X ts ids left gone) (hp:¬0 < left):Fin v X ts ids left gone:=by
 rcases h with ⟨h0,-⟩|⟨-,h⟩
 ·omega
 ·exact h
theorem dropX_less {m p:Int}{r:R}{rs:List R}{t:List L}(hl:∀l∈(⟨p,r::rs⟩::t:List L),lchk l=0):Less (⟨p,r::rs⟩::t) (dropX m p r rs t):=by
 unfold dropX
 split
 ·exact Less.refl _
 ·exact less_out hl
theorem dropX_good {m p:Int}{r:R}{rs:List R}{t:List L}(hl:∀l∈(⟨p,r::rs⟩::t:List L),lchk l=0):∀l∈dropX m p r rs t,lchk l=0:=by
 unfold dropX
 split
 ·exact hl
 ·exact out_good hl
end Go.Proofs.YtnjpjieedgmffaaGreatDoor.slf
