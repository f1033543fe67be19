import Derived.Test.YtnjpjieedgmffaaGreatDoorKinRef1
import Derived.Test.YtnjpjieedgmffaaGreatDoorSidRef9
import Derived.Test.YtnjpjieedgmffaaGreatDoorMeeOwn
import Derived.Deep.RegionHeld3
namespace Go.Proofs.YtnjpjieedgmffaaGreatDoor.kin
open Go.RowKit spn que sid bok
open tickP (priceB sideB betOk betR)
def JoinPost (bs ss:List L) (s p:Int) (r:R) (w:World) (e:Ending) (w' : World):Prop:=
 ∃q1 q2 n1 n2 c1 c2,e=.returned (.tuple #[.agg #[.slice q1 n1 c1,.slice q2 n2 c2],.int .i64 (putE bs ss s p r)])∧(putE bs ss s p r=0→LS w' (.slice q1 n1 c1) (put1 bs s p r)∧LS w' (.slice q2 n2 c2) (put2 ss s p r))∧Below w.heap.size w w'
def JoinPostZ (bs ss:List L) (s p:Int) (r:R) (w:World) (e:Ending) (w' : World):Prop:=
 ∃q1 q2 n1 n2 c1 c2,e=.returned (.tuple #[.agg #[.slice q1 n1 c1,.slice q2 n2 c2],.int .i64 (putE bs ss s p r)])∧(putE bs ss s p r=0→LS w' (.slice q1 n1 c1) (put1 bs s p r)∧LS w' (.slice q2 n2 c2) (put2 ss s p r))∧(¬putE bs ss s p r=0→(q1=none∧n1=0∧c1=0)∧q2=none∧n2=0∧c2=0)∧Below w.heap.size w w'
set_option maxRecDepth 100000 in
set_option maxHeartbeats 4000000 in
theorem rjoin_1 (q1 q2:Option Addr) (n1 n2 c1 c2:Nat) (bs ss:List L) (p r1 r2 r3 r4 r5:Int) (w:World) (h1:LS w (.slice q1 n1 c1) bs) (h2:LS w (.slice q2 n2 c2) ss) (hbk:bookE bs ss=0) :
  Calls Tryz.prog 17 #[.agg #[.slice q1 n1 c1,.slice q2 n2 c2],.int .i64 1,.int .i64 p,.agg #[.int .i64 r1,.int .i64 r2,.int .i64 r3,.int .i64 r4,.int .i64 r5]] w fun e w'=>JoinPostZ bs ss 1 p ⟨r1,r2,r3,r4,r5⟩ w e w':=by
 obtain⟨e1,e2,-⟩:=book_zero hbk
 obtain⟨V1,hV1⟩:∃V1,V1=w.alloc (.cells #[.slice q1 n1 c1,.slice q2 n2 c2] 24):=⟨_,rfl⟩
 obtain⟨V2,hV2⟩:∃V2,V2=V1.alloc (.cells #[.int .i64 r1,.int .i64 r2,.int .i64 r3,.int .i64 r4,.int .i64 r5] 55):=⟨_,rfl⟩
 obtain⟨V,hV⟩:∃V,V=V2.alloc (.cells #[.slice none 0 0,.slice none 0 0] 24):=⟨_,rfl⟩
 have hs1:V1.heap.size=w.heap.size+1:=by rw[hV1];simp
 have hs2:V2.heap.size=w.heap.size+2:=by rw[hV2];simp[hs1]
 have hb1:Below w.heap.size w V1:=by rw[hV1];exact(bzR _ _).alloc (nzR _) _
 have hb2:Below V1.heap.size V1 V2:=by rw[hV2];exact(bzR _ _).alloc (nzR _) _
 have hb3:Below V2.heap.size V2 V:=by rw[hV];exact(bzR _ _).alloc (nzR _) _
 have hr1:V1.heap[w.heap.size]?=some (.cells #[.slice q1 n1 c1,.slice q2 n2 c2] 24 (0,0)):=by rw[hV1];exact heap_alloc_new w _
 have hr2:V2.heap[w.heap.size+1]?=some (.cells #[.int .i64 r1,.int .i64 r2,.int .i64 r3,.int .i64 r4,.int .i64 r5] 55 (0,0)):=by rw[←hs1,hV2];exact heap_alloc_new V1 _
 have hr3:V.heap[w.heap.size+2]?=some (.cells #[.slice none 0 0,.slice none 0 0] 24 (0,0)):=by rw[←hs2,hV];exact heap_alloc_new V2 _
 have hBV:Below w.heap.size w V:=by
  have h:=hb1.trans (hb2.mono hb1.size)
  exact h.trans (hb3.mono h.size)
 have hB0:V.heap[w.heap.size]?=some (.cells #[.slice q1 n1 c1,.slice q2 n2 c2] 24 (0,0)):=by rw[hb3.block _ (by omega),hb2.block _ (by omega)];exact hr1
 have hR0:V.heap[w.heap.size+1]?=some (.cells #[.int .i64 r1,.int .i64 r2,.int .i64 r3,.int .i64 r4,.int .i64 r5] 55 (0,0)):=by rw[hb3.block _ (by omega)];exact hr2
 obtain⟨P,hP⟩:∃P,P=w.heap.size+2:=⟨_,rfl⟩
 obtain⟨R0,hR⟩:∃R0,R0=w.heap.size+1:=⟨_,rfl⟩
 rw[←hP] at hr3
 rw[←hR] at hR0
 have hPV:P < V.heap.size:=(gzE.1 hr3).1
 obtain⟨g0,g1,-⟩:=rowTwo hB0
 obtain⟨t0,t1,t2,t3,t4,-⟩:=rowFive hR0
 have HP:=hidKo (show P=w.heap.size+2∧R0=w.heap.size+1∧P < V.heap.size from⟨hP,hR,hPV⟩)
 have HSO:Hid (∀W,Below V.heap.size V W→(Below w.heap.size w W∧LS W (.slice q1 n1 c1) bs∧LS W (.slice q2 n2 c2) ss∧W.heap[P]?=some (.cells #[.slice none 0 0,.slice none 0 0] 24 (0,0)))∧W.cell? ⟨w.heap.size,0,none⟩=some (.slice q1 n1 c1)∧W.cell? ⟨w.heap.size,1,none⟩=some (.slice q2 n2 c2)∧W.cell? ⟨R0,0,none⟩=some (.int .i64 r1)∧W.cell? ⟨R0,1,none⟩=some (.int .i64 r2)∧W.cell? ⟨R0,2,none⟩=some (.int .i64 r3)∧W.cell? ⟨R0,3,none⟩=some (.int .i64 r4)∧W.cell? ⟨R0,4,none⟩=some (.int .i64 r5)):=fun W hW=>by
  have hw:=hBV.trans (hW.mono hBV.size)
  exact⟨⟨hw,h1.below hw,h2.below hw,(hW.block P hPV).trans hr3⟩,keeps hW g0,keeps hW g1,keeps hW t0,keeps hW t1,keeps hW t2,keeps hW t3,keeps hW t4⟩
 obtain⟨AE,hAE⟩:∃AE,addE 1 bs p ⟨r1,r2,r3,r4,r5⟩=AE:=⟨_,rfl⟩
 have HAE:=hidKo hAE
 have HBK:=hidKo hbk
 have HOF:Hid (∀U,Below V.heap.size V U→Calls Tryz.prog 15 #[.agg #[.slice q1 n1 c1,.slice q2 n2 c2],.int .i64 1] U fun e w'=>e=.returned (.slice q1 n1 c1)∧Below V.heap.size V w'):=fun U hU=>(rof_any 1 q1 q2 n1 n2 c1 c2 U).mono fun e w' h=>by
  obtain⟨g,hb⟩:=h
  rw[if_pos rfl] at g
  exact⟨g,hU.trans (hb.mono hU.size)⟩
 have HAD:Hid (∀U,Below V.heap.size V U→Calls Tryz.prog 35 #[.int .i64 1,.slice q1 n1 c1,.int .i64 p,.agg #[.int .i64 r1,.int .i64 r2,.int .i64 r3,.int .i64 r4,.int .i64 r5]] U fun x w'=>∃q3 n3 c3,x=.returned (.tuple #[.slice q3 n3 c3,.int .i64 AE])∧LS w' (.slice q3 n3 c3) (addL 1 bs p ⟨r1,r2,r3,r4,r5⟩)∧Below V.heap.size V w'):=fun U hU=>by
  refine(radd_good 1 p r1 r2 r3 r4 r5 _ _ _ bs U (HSO.out U hU).1.2.1 e1).mono ?_
  rintro x w' ⟨v',rfl,hl,hb⟩
  obtain⟨q3,n3,c3,rfl⟩:=ls_form hl
  exact⟨q3,n3,c3,by rw[hAE],hl,hU.trans (hb.mono hU.size)⟩
 have HERR:Hid (∀W k,Below V.heap.size V W→putE bs ss 1 p ⟨r1,r2,r3,r4,r5⟩=k→¬k=0→JoinPostZ bs ss 1 p ⟨r1,r2,r3,r4,r5⟩ w (.returned (.tuple #[.agg #[.slice none 0 0,.slice none 0 0],.int .i64 k])) (((W).setCell ⟨P,0,none⟩ (.slice none 0 0)).setCell ⟨P,1,none⟩ (.slice none 0 0))∧(((W).setCell ⟨P,0,none⟩ (.slice none 0 0)).setCell ⟨P,1,none⟩ (.slice none 0 0)).heap[P]?=some (.cells #[.slice none 0 0,.slice none 0 0] 24 (0,0))):=fun W k hW hk hk0=>by
  obtain⟨⟨hw,-,-,hrp⟩,-⟩:=HSO.out W hW
  have hg:=grTwo W P (.slice none 0 0) (.slice none 0 0)
  exact⟨⟨none,none,0,0,0,0,by rw[hk],fun h=>absurd (hk.symm.trans h) hk0,fun _=>⟨⟨rfl,rfl,rfl⟩,rfl,rfl,rfl⟩,hw.grown hg hw.size (fun k hk=>by cases hk;have:=HP.out;omega)⟩,setTwo hrp _ _⟩
 have SO:Hid (∀W,Below V.heap.size V W→(Below V.heap.size V W∧W.cell? ⟨w.heap.size,0,none⟩=some (.slice q1 n1 c1)∧W.cell? ⟨w.heap.size,1,none⟩=some (.slice q2 n2 c2)∧W.cell? ⟨R0,0,none⟩=some (.int .i64 r1)∧W.cell? ⟨R0,1,none⟩=some (.int .i64 r2)∧W.cell? ⟨R0,2,none⟩=some (.int .i64 r3)∧W.cell? ⟨R0,3,none⟩=some (.int .i64 r4)∧W.cell? ⟨R0,4,none⟩=some (.int .i64 r5))):=fun W hW=>⟨hW,(HSO.out W hW).2⟩
 clear hs1 hs2 hb1 hb2 hb3 hr1 hr2 hr3 hBV hB0 hR0 hPV hAE h1 h2
 go_enter Tryz.func17,Tryz.ntmps17
 go_upto_region 1 with fail
 rw[←hV1,←hV2,←hV]
 simp only[←hP]
 simp only[←hR]
 clear hV1 hV2 hV hP hR
 go_region_held3 (fun W=>Below V.heap.size V W∧W.cell? ⟨w.heap.size,0,none⟩=some (.slice q1 n1 c1)∧W.cell? ⟨w.heap.size,1,none⟩=some (.slice q2 n2 c2)∧W.cell? ⟨R0,0,none⟩=some (.int .i64 r1)∧W.cell? ⟨R0,1,none⟩=some (.int .i64 r2)∧W.cell? ⟨R0,2,none⟩=some (.int .i64 r3)∧W.cell? ⟨R0,3,none⟩=some (.int .i64 r4)∧W.cell? ⟨R0,4,none⟩=some (.int .i64 r5))
  ((refine SO.out _ ?_;(repeat' (first|with_reducible assumption|with_reducible refine bal ?_ _|with_reducible refine Below.drew ?_|with_reducible exact bzR _ _|with_reducible exact nzR _|with_reducible exact Below.size (by with_reducible assumption)))))
  (first|(go_at_call 15;with_reducible refine(HOF.out _ ?_).mono ?_;(repeat' (first|with_reducible assumption|with_reducible refine bal ?_ _|with_reducible refine Below.drew ?_|with_reducible exact bzR _ _|with_reducible exact nzR _|with_reducible exact Below.size (by with_reducible assumption)));rintro x Wo ⟨rfl,hbo⟩)|(go_at_call 35;with_reducible refine(HAD.out _ ?_).mono ?_;(repeat' (first|with_reducible assumption|with_reducible refine bal ?_ _|with_reducible refine Below.drew ?_|with_reducible exact bzR _ _|with_reducible exact nzR _|with_reducible exact Below.size (by with_reducible assumption)));rintro x W ⟨q3,n3,c3,rfl,hl3,hbn⟩))
 have HBN:=hidKo hbn
 have HL3:=hidKo hl3
 clear g0 g1 t0 t1 t2 t3 t4 SO HOF HAD hbn hl3
 by_cases hA:AE=0
 rotate_left
 ·have hA1:(AE != 0)=true:=by simp[hA]
  obtain⟨hPO,hHX⟩:=HERR.out W AE HBN.out (by unfold putE;rw[if_pos HBK.out,show (if (1:Int)=1 then bs else ss)=bs from rfl,HAE.out,if_neg hA]) hA
  have HPO:=hidKo hPO
  have HHX:=hidKo hHX
  obtain⟨⟨-,-,-,hrp⟩,-⟩:=HSO.out W HBN.out
  obtain⟨z0,z1,zf⟩:=rowTwo hrp
  have zf0:=zf 0
  have zf1:=zf 1
  clear hPO hHX HERR hrp zf HSO hA e1 e2
  go_wp2_with fail
  generalize (((W).setCell ⟨P,0,none⟩ (.slice none 0 0)).setCell ⟨P,1,none⟩ (.slice none 0 0))=Z at *
  obtain⟨y0,y1,-⟩:=rowTwo HHX.out
  exact bodyPost_ret (v:=.tuple #[.agg #[.slice none 0 0,.slice none 0 0],.int .i64 AE]) (by simp[results,Tryz.results17,go_sem,y0,y1]) rfl HPO.out
 subst hA
 obtain⟨a0,a1,a2,a3,a4⟩:=add_zero HAE.out
 have hsk:schk 1 (putL 1 p ⟨r1,r2,r3,r4,r5⟩ bs)=0:=schk_put a0 a1 a2 a3 (by have:=(schk_zero a0).2.2.1;omega)
 have hcn:=cnt_put 1 p ⟨r1,r2,r3,r4,r5⟩ bs
 have hAL:addL 1 bs p ⟨r1,r2,r3,r4,r5⟩=putL 1 p ⟨r1,r2,r3,r4,r5⟩ bs:=by unfold addL;rw[if_pos HAE.out]
 have hpu:putE bs ss 1 p ⟨r1,r2,r3,r4,r5⟩=wholeE (putL 1 p ⟨r1,r2,r3,r4,r5⟩ bs) (ss):=by
  unfold putE
  rw[if_pos HBK.out,show (if (1:Int)=1 then bs else ss)=bs from rfl,if_pos HAE.out]
  unfold put1 put2
  rw[if_pos rfl,if_pos rfl]
  unfold bookE wholeE
  rw[if_pos hsk,if_pos e2]
 have HPE:=hidKo hpu
 have HCN:=hidKo (show cnt (putL 1 p ⟨r1,r2,r3,r4,r5⟩ bs)≤60∧cnt (ss)≤60 from⟨by have:=(schk_zero a0).2.2.1;omega,(schk_zero e2).2.2.1⟩)
 have HLG:=hidKo (sgo_each (schk_zero hsk).2.1)
 have HNW:=hidKo (show LS W (.slice q3 n3 c3) (putL 1 p ⟨r1,r2,r3,r4,r5⟩ bs) by have h:=HL3.out;rw[hAL] at h;exact h)
 obtain⟨-,g0,g1,t0,t1,t2,t3,t4⟩:=HSO.out W HBN.out
 clear a0 a1 a2 a3 a4 hsk hcn hAL hpu HL3 e1 e2
 go_wp2_with fail
 refine(rwith_any 1 q1 q2 q3 n1 n2 n3 c1 c2 c3 W).mono ?_
 rintro e w2 ⟨rfl,b2⟩
 rw[if_pos rfl]
 have hBa:Below w2.heap.size w2 (w2.alloc (.cells #[.slice q3 n3 c3,.slice q2 n2 c2] 24)):=(bzR _ _).alloc (nzR _) _
 have hb2:=b2.trans (hBa.mono b2.size)
 have HW3:=hidKo (HBN.out.trans (hb2.mono HBN.out.size))
 have HN3:=hidKo (HNW.out.below hb2)
 have hRO:(w2.alloc (.cells #[.slice q3 n3 c3,.slice q2 n2 c2] 24)).heap[w2.heap.size]?=some (.cells #[.slice q3 n3 c3,.slice q2 n2 c2] 24 (0,0)):=heap_alloc_new w2 _
 clear g0 g1 t0 t1 t2 t3 t4 b2 hBa hb2 HNW
 go_upto_region 5 with fail
 generalize w2.alloc (.cells #[.slice q3 n3 c3,.slice q2 n2 c2] 24)=W3 at *
 generalize w2.heap.size=OB at *
 obtain⟨k0,k1,-⟩:=rowTwo hRO
 obtain⟨⟨-,hb,hs',-⟩,-⟩:=HSO.out W3 HW3.out
 have HWH:=hidKo (rwhole_any q3 q2 n3 n2 c3 c2 (putL 1 p ⟨r1,r2,r3,r4,r5⟩ bs) (ss) W3 HN3.out hs' HCN.out.1 HCN.out.2)
 obtain⟨WE,hWE⟩:∃WE,wholeE (putL 1 p ⟨r1,r2,r3,r4,r5⟩ bs) (ss)=WE:=⟨_,rfl⟩
 rw[hWE] at HWH HPE
 clear hb hs' hWE
 go_wp2_with fail
 refine HWH.out.mono ?_
 rintro e w4 ⟨rfl,b4⟩
 have HW4:=hidKo (HW3.out.trans (b4.mono HW3.out.size))
 have HN4:=hidKo (HN3.out.below b4)
 have hRO4:=(b4.block OB (gzE.1 hRO).1).trans hRO
 clear k0 k1 b4 HN3 hRO HWH HW3
 by_cases hE:WE=0
 rotate_left
 ·have hE1:(WE != 0)=true:=by simp[hE]
  obtain⟨hPO,hHX⟩:=HERR.out w4 WE HW4.out HPE.out hE
  have HPO:=hidKo hPO
  have HHX:=hidKo hHX
  obtain⟨⟨-,-,-,hrp⟩,-⟩:=HSO.out w4 HW4.out
  obtain⟨z0,z1,zf⟩:=rowTwo hrp
  have zf0:=zf 0
  have zf1:=zf 1
  clear hPO hHX HERR hrp zf HSO hE
  go_wp2_with fail
  generalize (((w4).setCell ⟨P,0,none⟩ (.slice none 0 0)).setCell ⟨P,1,none⟩ (.slice none 0 0))=Z at *
  obtain⟨y0,y1,-⟩:=rowTwo HHX.out
  exact bodyPost_ret (v:=.tuple #[.agg #[.slice none 0 0,.slice none 0 0],.int .i64 WE]) (by simp[results,Tryz.results17,go_sem,y0,y1]) rfl HPO.out
 subst hE
 obtain⟨⟨hw4,hb,hs',hrp⟩,-⟩:=HSO.out w4 HW4.out
 obtain⟨z0,z1,zf⟩:=rowTwo hrp
 have zf0:=zf 0
 have zf1:=zf 1
 obtain⟨k0,k1,-⟩:=rowTwo hRO4
 have hg:=grTwo w4 P (.slice q3 n3 c3) (.slice q2 n2 c2)
 have hwZ:Below w.heap.size w (((w4).setCell ⟨P,0,none⟩ (.slice q3 n3 c3)).setCell ⟨P,1,none⟩ (.slice q2 n2 c2)):=hw4.grown hg hw4.size (fun k hk=>by cases hk;have:=HP.out;omega)
 have HHX:=hidKo (setTwo hrp (.slice q3 n3 c3) (.slice q2 n2 c2))
 have hn:=ls_off HN4.out hg (two_no hrp) HLG.out
 have ho:=ls_off hs' hg (two_no hrp) (book_lv HBK.out).2
 have HPO:Hid (JoinPostZ bs ss 1 p ⟨r1,r2,r3,r4,r5⟩ w (.returned (.tuple #[.agg #[.slice q3 n3 c3,.slice q2 n2 c2],.int .i64 0])) (((w4).setCell ⟨P,0,none⟩ (.slice q3 n3 c3)).setCell ⟨P,1,none⟩ (.slice q2 n2 c2))):=by
  refine⟨_,_,_,_,_,_,by rw[HPE.out],fun _=>⟨?_,?_⟩,fun h=>absurd HPE.out h,hwZ⟩
  ·unfold put1;rw[if_pos rfl];exact hn
  ·unfold put2;rw[if_pos rfl];exact ho
 clear hg hwZ hn ho zf hrp hRO4 hb hs' hw4 HERR HSO
 go_wp2_with fail
 generalize (((w4).setCell ⟨P,0,none⟩ (.slice q3 n3 c3)).setCell ⟨P,1,none⟩ (.slice q2 n2 c2))=Z at *
 obtain⟨y0,y1,-⟩:=rowTwo HHX.out
 exact bodyPost_ret (v:=.tuple #[.agg #[.slice q3 n3 c3,.slice q2 n2 c2],.int .i64 0]) (by simp[results,Tryz.results17,go_sem,y0,y1]) rfl HPO.out
set_option maxRecDepth 100000 in
set_option maxHeartbeats 4000000 in
theorem rjoin_2 (q1 q2:Option Addr) (n1 n2 c1 c2:Nat) (bs ss:List L) (p r1 r2 r3 r4 r5:Int) (w:World) (h1:LS w (.slice q1 n1 c1) bs) (h2:LS w (.slice q2 n2 c2) ss) (hbk:bookE bs ss=0) :
  Calls Tryz.prog 17 #[.agg #[.slice q1 n1 c1,.slice q2 n2 c2],.int .i64 2,.int .i64 p,.agg #[.int .i64 r1,.int .i64 r2,.int .i64 r3,.int .i64 r4,.int .i64 r5]] w fun e w'=>JoinPostZ bs ss 2 p ⟨r1,r2,r3,r4,r5⟩ w e w':=by
 obtain⟨e1,e2,-⟩:=book_zero hbk
 obtain⟨V1,hV1⟩:∃V1,V1=w.alloc (.cells #[.slice q1 n1 c1,.slice q2 n2 c2] 24):=⟨_,rfl⟩
 obtain⟨V2,hV2⟩:∃V2,V2=V1.alloc (.cells #[.int .i64 r1,.int .i64 r2,.int .i64 r3,.int .i64 r4,.int .i64 r5] 55):=⟨_,rfl⟩
 obtain⟨V,hV⟩:∃V,V=V2.alloc (.cells #[.slice none 0 0,.slice none 0 0] 24):=⟨_,rfl⟩
 have hs1:V1.heap.size=w.heap.size+1:=by rw[hV1];simp
 have hs2:V2.heap.size=w.heap.size+2:=by rw[hV2];simp[hs1]
 have hb1:Below w.heap.size w V1:=by rw[hV1];exact(bzR _ _).alloc (nzR _) _
 have hb2:Below V1.heap.size V1 V2:=by rw[hV2];exact(bzR _ _).alloc (nzR _) _
 have hb3:Below V2.heap.size V2 V:=by rw[hV];exact(bzR _ _).alloc (nzR _) _
 have hr1:V1.heap[w.heap.size]?=some (.cells #[.slice q1 n1 c1,.slice q2 n2 c2] 24 (0,0)):=by rw[hV1];exact heap_alloc_new w _
 have hr2:V2.heap[w.heap.size+1]?=some (.cells #[.int .i64 r1,.int .i64 r2,.int .i64 r3,.int .i64 r4,.int .i64 r5] 55 (0,0)):=by rw[←hs1,hV2];exact heap_alloc_new V1 _
 have hr3:V.heap[w.heap.size+2]?=some (.cells #[.slice none 0 0,.slice none 0 0] 24 (0,0)):=by rw[←hs2,hV];exact heap_alloc_new V2 _
 have hBV:Below w.heap.size w V:=by
  have h:=hb1.trans (hb2.mono hb1.size)
  exact h.trans (hb3.mono h.size)
 have hB0:V.heap[w.heap.size]?=some (.cells #[.slice q1 n1 c1,.slice q2 n2 c2] 24 (0,0)):=by rw[hb3.block _ (by omega),hb2.block _ (by omega)];exact hr1
 have hR0:V.heap[w.heap.size+1]?=some (.cells #[.int .i64 r1,.int .i64 r2,.int .i64 r3,.int .i64 r4,.int .i64 r5] 55 (0,0)):=by rw[hb3.block _ (by omega)];exact hr2
 obtain⟨P,hP⟩:∃P,P=w.heap.size+2:=⟨_,rfl⟩
 obtain⟨R0,hR⟩:∃R0,R0=w.heap.size+1:=⟨_,rfl⟩
 rw[←hP] at hr3
 rw[←hR] at hR0
 have hPV:P < V.heap.size:=(gzE.1 hr3).1
 obtain⟨g0,g1,-⟩:=rowTwo hB0
 obtain⟨t0,t1,t2,t3,t4,-⟩:=rowFive hR0
 have HP:=hidKo (show P=w.heap.size+2∧R0=w.heap.size+1∧P < V.heap.size from⟨hP,hR,hPV⟩)
 have HSO:Hid (∀W,Below V.heap.size V W→(Below w.heap.size w W∧LS W (.slice q1 n1 c1) bs∧LS W (.slice q2 n2 c2) ss∧W.heap[P]?=some (.cells #[.slice none 0 0,.slice none 0 0] 24 (0,0)))∧W.cell? ⟨w.heap.size,0,none⟩=some (.slice q1 n1 c1)∧W.cell? ⟨w.heap.size,1,none⟩=some (.slice q2 n2 c2)∧W.cell? ⟨R0,0,none⟩=some (.int .i64 r1)∧W.cell? ⟨R0,1,none⟩=some (.int .i64 r2)∧W.cell? ⟨R0,2,none⟩=some (.int .i64 r3)∧W.cell? ⟨R0,3,none⟩=some (.int .i64 r4)∧W.cell? ⟨R0,4,none⟩=some (.int .i64 r5)):=fun W hW=>by
  have hw:=hBV.trans (hW.mono hBV.size)
  exact⟨⟨hw,h1.below hw,h2.below hw,(hW.block P hPV).trans hr3⟩,keeps hW g0,keeps hW g1,keeps hW t0,keeps hW t1,keeps hW t2,keeps hW t3,keeps hW t4⟩
 obtain⟨AE,hAE⟩:∃AE,addE 2 ss p ⟨r1,r2,r3,r4,r5⟩=AE:=⟨_,rfl⟩
 have HAE:=hidKo hAE
 have HBK:=hidKo hbk
 have HOF:Hid (∀U,Below V.heap.size V U→Calls Tryz.prog 15 #[.agg #[.slice q1 n1 c1,.slice q2 n2 c2],.int .i64 2] U fun e w'=>e=.returned (.slice q2 n2 c2)∧Below V.heap.size V w'):=fun U hU=>(rof_any 2 q1 q2 n1 n2 c1 c2 U).mono fun e w' h=>by
  obtain⟨g,hb⟩:=h
  rw[if_neg (by decide)] at g
  exact⟨g,hU.trans (hb.mono hU.size)⟩
 have HAD:Hid (∀U,Below V.heap.size V U→Calls Tryz.prog 35 #[.int .i64 2,.slice q2 n2 c2,.int .i64 p,.agg #[.int .i64 r1,.int .i64 r2,.int .i64 r3,.int .i64 r4,.int .i64 r5]] U fun x w'=>∃q3 n3 c3,x=.returned (.tuple #[.slice q3 n3 c3,.int .i64 AE])∧LS w' (.slice q3 n3 c3) (addL 2 ss p ⟨r1,r2,r3,r4,r5⟩)∧Below V.heap.size V w'):=fun U hU=>by
  refine(radd_good 2 p r1 r2 r3 r4 r5 _ _ _ ss U (HSO.out U hU).1.2.2.1 e2).mono ?_
  rintro x w' ⟨v',rfl,hl,hb⟩
  obtain⟨q3,n3,c3,rfl⟩:=ls_form hl
  exact⟨q3,n3,c3,by rw[hAE],hl,hU.trans (hb.mono hU.size)⟩
 have HERR:Hid (∀W k,Below V.heap.size V W→putE bs ss 2 p ⟨r1,r2,r3,r4,r5⟩=k→¬k=0→JoinPostZ bs ss 2 p ⟨r1,r2,r3,r4,r5⟩ w (.returned (.tuple #[.agg #[.slice none 0 0,.slice none 0 0],.int .i64 k])) (((W).setCell ⟨P,0,none⟩ (.slice none 0 0)).setCell ⟨P,1,none⟩ (.slice none 0 0))∧(((W).setCell ⟨P,0,none⟩ (.slice none 0 0)).setCell ⟨P,1,none⟩ (.slice none 0 0)).heap[P]?=some (.cells #[.slice none 0 0,.slice none 0 0] 24 (0,0))):=fun W k hW hk hk0=>by
  obtain⟨⟨hw,-,-,hrp⟩,-⟩:=HSO.out W hW
  have hg:=grTwo W P (.slice none 0 0) (.slice none 0 0)
  exact⟨⟨none,none,0,0,0,0,by rw[hk],fun h=>absurd (hk.symm.trans h) hk0,fun _=>⟨⟨rfl,rfl,rfl⟩,rfl,rfl,rfl⟩,hw.grown hg hw.size (fun k hk=>by cases hk;have:=HP.out;omega)⟩,setTwo hrp _ _⟩
 have SO:Hid (∀W,Below V.heap.size V W→(Below V.heap.size V W∧W.cell? ⟨w.heap.size,0,none⟩=some (.slice q1 n1 c1)∧W.cell? ⟨w.heap.size,1,none⟩=some (.slice q2 n2 c2)∧W.cell? ⟨R0,0,none⟩=some (.int .i64 r1)∧W.cell? ⟨R0,1,none⟩=some (.int .i64 r2)∧W.cell? ⟨R0,2,none⟩=some (.int .i64 r3)∧W.cell? ⟨R0,3,none⟩=some (.int .i64 r4)∧W.cell? ⟨R0,4,none⟩=some (.int .i64 r5))):=fun W hW=>⟨hW,(HSO.out W hW).2⟩
 clear hs1 hs2 hb1 hb2 hb3 hr1 hr2 hr3 hBV hB0 hR0 hPV hAE h1 h2
 go_enter Tryz.func17,Tryz.ntmps17
 go_upto_region 1 with fail
 rw[←hV1,←hV2,←hV]
 simp only[←hP]
 simp only[←hR]
 clear hV1 hV2 hV hP hR
 go_region_held3 (fun W=>Below V.heap.size V W∧W.cell? ⟨w.heap.size,0,none⟩=some (.slice q1 n1 c1)∧W.cell? ⟨w.heap.size,1,none⟩=some (.slice q2 n2 c2)∧W.cell? ⟨R0,0,none⟩=some (.int .i64 r1)∧W.cell? ⟨R0,1,none⟩=some (.int .i64 r2)∧W.cell? ⟨R0,2,none⟩=some (.int .i64 r3)∧W.cell? ⟨R0,3,none⟩=some (.int .i64 r4)∧W.cell? ⟨R0,4,none⟩=some (.int .i64 r5))
  ((refine SO.out _ ?_;(repeat' (first|with_reducible assumption|with_reducible refine bal ?_ _|with_reducible refine Below.drew ?_|with_reducible exact bzR _ _|with_reducible exact nzR _|with_reducible exact Below.size (by with_reducible assumption)))))
  (first|(go_at_call 15;with_reducible refine(HOF.out _ ?_).mono ?_;(repeat' (first|with_reducible assumption|with_reducible refine bal ?_ _|with_reducible refine Below.drew ?_|with_reducible exact bzR _ _|with_reducible exact nzR _|with_reducible exact Below.size (by with_reducible assumption)));rintro x Wo ⟨rfl,hbo⟩)|(go_at_call 35;with_reducible refine(HAD.out _ ?_).mono ?_;(repeat' (first|with_reducible assumption|with_reducible refine bal ?_ _|with_reducible refine Below.drew ?_|with_reducible exact bzR _ _|with_reducible exact nzR _|with_reducible exact Below.size (by with_reducible assumption)));rintro x W ⟨q3,n3,c3,rfl,hl3,hbn⟩))
 have HBN:=hidKo hbn
 have HL3:=hidKo hl3
 clear g0 g1 t0 t1 t2 t3 t4 SO HOF HAD hbn hl3
 by_cases hA:AE=0
 rotate_left
 ·have hA1:(AE != 0)=true:=by simp[hA]
  obtain⟨hPO,hHX⟩:=HERR.out W AE HBN.out (by unfold putE;rw[if_pos HBK.out,show (if (2:Int)=1 then bs else ss)=ss from rfl,HAE.out,if_neg hA]) hA
  have HPO:=hidKo hPO
  have HHX:=hidKo hHX
  obtain⟨⟨-,-,-,hrp⟩,-⟩:=HSO.out W HBN.out
  obtain⟨z0,z1,zf⟩:=rowTwo hrp
  have zf0:=zf 0
  have zf1:=zf 1
  clear hPO hHX HERR hrp zf HSO hA e1 e2
  go_wp2_with fail
  generalize (((W).setCell ⟨P,0,none⟩ (.slice none 0 0)).setCell ⟨P,1,none⟩ (.slice none 0 0))=Z at *
  obtain⟨y0,y1,-⟩:=rowTwo HHX.out
  exact bodyPost_ret (v:=.tuple #[.agg #[.slice none 0 0,.slice none 0 0],.int .i64 AE]) (by simp[results,Tryz.results17,go_sem,y0,y1]) rfl HPO.out
 subst hA
 obtain⟨a0,a1,a2,a3,a4⟩:=add_zero HAE.out
 have hsk:schk 2 (putL 2 p ⟨r1,r2,r3,r4,r5⟩ ss)=0:=schk_put a0 a1 a2 a3 (by have:=(schk_zero a0).2.2.1;omega)
 have hcn:=cnt_put 2 p ⟨r1,r2,r3,r4,r5⟩ ss
 have hAL:addL 2 ss p ⟨r1,r2,r3,r4,r5⟩=putL 2 p ⟨r1,r2,r3,r4,r5⟩ ss:=by unfold addL;rw[if_pos HAE.out]
 have hpu:putE bs ss 2 p ⟨r1,r2,r3,r4,r5⟩=wholeE (bs) (putL 2 p ⟨r1,r2,r3,r4,r5⟩ ss):=by
  unfold putE
  rw[if_pos HBK.out,show (if (2:Int)=1 then bs else ss)=ss from rfl,if_pos HAE.out]
  unfold put1 put2
  rw[if_neg (by decide),if_neg (by decide)]
  unfold bookE wholeE
  rw[if_pos e1,if_pos hsk]
 have HPE:=hidKo hpu
 have HCN:=hidKo (show cnt (bs)≤60∧cnt (putL 2 p ⟨r1,r2,r3,r4,r5⟩ ss)≤60 from⟨(schk_zero e1).2.2.1,by have:=(schk_zero a0).2.2.1;omega⟩)
 have HLG:=hidKo (sgo_each (schk_zero hsk).2.1)
 have HNW:=hidKo (show LS W (.slice q3 n3 c3) (putL 2 p ⟨r1,r2,r3,r4,r5⟩ ss) by have h:=HL3.out;rw[hAL] at h;exact h)
 obtain⟨-,g0,g1,t0,t1,t2,t3,t4⟩:=HSO.out W HBN.out
 clear a0 a1 a2 a3 a4 hsk hcn hAL hpu HL3 e1 e2
 go_wp2_with fail
 refine(rwith_any 2 q1 q2 q3 n1 n2 n3 c1 c2 c3 W).mono ?_
 rintro e w2 ⟨rfl,b2⟩
 rw[if_neg (by decide)]
 have hBa:Below w2.heap.size w2 (w2.alloc (.cells #[.slice q1 n1 c1,.slice q3 n3 c3] 24)):=(bzR _ _).alloc (nzR _) _
 have hb2:=b2.trans (hBa.mono b2.size)
 have HW3:=hidKo (HBN.out.trans (hb2.mono HBN.out.size))
 have HN3:=hidKo (HNW.out.below hb2)
 have hRO:(w2.alloc (.cells #[.slice q1 n1 c1,.slice q3 n3 c3] 24)).heap[w2.heap.size]?=some (.cells #[.slice q1 n1 c1,.slice q3 n3 c3] 24 (0,0)):=heap_alloc_new w2 _
 clear g0 g1 t0 t1 t2 t3 t4 b2 hBa hb2 HNW
 go_upto_region 5 with fail
 generalize w2.alloc (.cells #[.slice q1 n1 c1,.slice q3 n3 c3] 24)=W3 at *
 generalize w2.heap.size=OB at *
 obtain⟨k0,k1,-⟩:=rowTwo hRO
 obtain⟨⟨-,hb,hs',-⟩,-⟩:=HSO.out W3 HW3.out
 have HWH:=hidKo (rwhole_any q1 q3 n1 n3 c1 c3 (bs) (putL 2 p ⟨r1,r2,r3,r4,r5⟩ ss) W3 hb HN3.out HCN.out.1 HCN.out.2)
 obtain⟨WE,hWE⟩:∃WE,wholeE (bs) (putL 2 p ⟨r1,r2,r3,r4,r5⟩ ss)=WE:=⟨_,rfl⟩
 rw[hWE] at HWH HPE
 clear hb hs' hWE
 go_wp2_with fail
 refine HWH.out.mono ?_
 rintro e w4 ⟨rfl,b4⟩
 have HW4:=hidKo (HW3.out.trans (b4.mono HW3.out.size))
 have HN4:=hidKo (HN3.out.below b4)
 have hRO4:=(b4.block OB (gzE.1 hRO).1).trans hRO
 clear k0 k1 b4 HN3 hRO HWH HW3
 by_cases hE:WE=0
 rotate_left
 ·have hE1:(WE != 0)=true:=by simp[hE]
  obtain⟨hPO,hHX⟩:=HERR.out w4 WE HW4.out HPE.out hE
  have HPO:=hidKo hPO
  have HHX:=hidKo hHX
  obtain⟨⟨-,-,-,hrp⟩,-⟩:=HSO.out w4 HW4.out
  obtain⟨z0,z1,zf⟩:=rowTwo hrp
  have zf0:=zf 0
  have zf1:=zf 1
  clear hPO hHX HERR hrp zf HSO hE
  go_wp2_with fail
  generalize (((w4).setCell ⟨P,0,none⟩ (.slice none 0 0)).setCell ⟨P,1,none⟩ (.slice none 0 0))=Z at *
  obtain⟨y0,y1,-⟩:=rowTwo HHX.out
  exact bodyPost_ret (v:=.tuple #[.agg #[.slice none 0 0,.slice none 0 0],.int .i64 WE]) (by simp[results,Tryz.results17,go_sem,y0,y1]) rfl HPO.out
 subst hE
 obtain⟨⟨hw4,hb,hs',hrp⟩,-⟩:=HSO.out w4 HW4.out
 obtain⟨z0,z1,zf⟩:=rowTwo hrp
 have zf0:=zf 0
 have zf1:=zf 1
 obtain⟨k0,k1,-⟩:=rowTwo hRO4
 have hg:=grTwo w4 P (.slice q1 n1 c1) (.slice q3 n3 c3)
 have hwZ:Below w.heap.size w (((w4).setCell ⟨P,0,none⟩ (.slice q1 n1 c1)).setCell ⟨P,1,none⟩ (.slice q3 n3 c3)):=hw4.grown hg hw4.size (fun k hk=>by cases hk;have:=HP.out;omega)
 have HHX:=hidKo (setTwo hrp (.slice q1 n1 c1) (.slice q3 n3 c3))
 have hn:=ls_off HN4.out hg (two_no hrp) HLG.out
 have ho:=ls_off hb hg (two_no hrp) (book_lv HBK.out).1
 have HPO:Hid (JoinPostZ bs ss 2 p ⟨r1,r2,r3,r4,r5⟩ w (.returned (.tuple #[.agg #[.slice q1 n1 c1,.slice q3 n3 c3],.int .i64 0])) (((w4).setCell ⟨P,0,none⟩ (.slice q1 n1 c1)).setCell ⟨P,1,none⟩ (.slice q3 n3 c3))):=by
  refine⟨_,_,_,_,_,_,by rw[HPE.out],fun _=>⟨?_,?_⟩,fun h=>absurd HPE.out h,hwZ⟩
  ·unfold put1;rw[if_neg (by decide)];exact ho
  ·unfold put2;rw[if_neg (by decide)];exact hn
 clear hg hwZ hn ho zf hrp hRO4 hb hs' hw4 HERR HSO
 go_wp2_with fail
 generalize (((w4).setCell ⟨P,0,none⟩ (.slice q1 n1 c1)).setCell ⟨P,1,none⟩ (.slice q3 n3 c3))=Z at *
 obtain⟨y0,y1,-⟩:=rowTwo HHX.out
 exact bodyPost_ret (v:=.tuple #[.agg #[.slice q1 n1 c1,.slice q3 n3 c3],.int .i64 0]) (by simp[results,Tryz.results17,go_sem,y0,y1]) rfl HPO.out
theorem rjoin_anyZ (s:Int) (hs:s=1∨s=2) (q1 q2:Option Addr) (n1 n2 c1 c2:Nat) (bs ss:List L) (p r1 r2 r3 r4 r5:Int) (w:World) (h1:LS w (.slice q1 n1 c1) bs) (h2:LS w (.slice q2 n2 c2) ss) (hbk:bookE bs ss=0) :
  Calls Tryz.prog 17 #[.agg #[.slice q1 n1 c1,.slice q2 n2 c2],.int .i64 s,.int .i64 p,.agg #[.int .i64 r1,.int .i64 r2,.int .i64 r3,.int .i64 r4,.int .i64 r5]] w fun e w'=>JoinPostZ bs ss s p ⟨r1,r2,r3,r4,r5⟩ w e w':=by
 rcases hs with rfl|rfl
 ·exact rjoin_1 q1 q2 n1 n2 c1 c2 bs ss p r1 r2 r3 r4 r5 w h1 h2 hbk
 ·exact rjoin_2 q1 q2 n1 n2 c1 c2 bs ss p r1 r2 r3 r4 r5 w h1 h2 hbk
theorem rjoin_any (s:Int) (hs:s=1∨s=2) (q1 q2:Option Addr) (n1 n2 c1 c2:Nat) (bs ss:List L) (p r1 r2 r3 r4 r5:Int) (w:World) (h1:LS w (.slice q1 n1 c1) bs) (h2:LS w (.slice q2 n2 c2) ss) (hbk:bookE bs ss=0) :
  Calls Tryz.prog 17 #[.agg #[.slice q1 n1 c1,.slice q2 n2 c2],.int .i64 s,.int .i64 p,.agg #[.int .i64 r1,.int .i64 r2,.int .i64 r3,.int .i64 r4,.int .i64 r5]] w fun e w'=>JoinPost bs ss s p ⟨r1,r2,r3,r4,r5⟩ w e w':=
 (rjoin_anyZ s hs q1 q2 n1 n2 c1 c2 bs ss p r1 r2 r3 r4 r5 w h1 h2 hbk).mono fun _ _ h=>by obtain⟨a,b,c,d,e,f,h1,h2,-,h4⟩:=h;exact⟨a,b,c,d,e,f,h1,h2,h4⟩
end Go.Proofs.YtnjpjieedgmffaaGreatDoor.kin
