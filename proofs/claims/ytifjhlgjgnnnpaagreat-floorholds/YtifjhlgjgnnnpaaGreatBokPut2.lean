import Derived.Test.YtifjhlgjgnnnpaaGreatBokPut
set_option maxHeartbeats 2000000
set_option maxRecDepth 100000
namespace Go.Proofs.YtifjhlgjgnnnpaaGreat
namespace bok
open Go.RowKit spn que sid
theorem zNI(p:Int)(q1 q2:Option Addr)(n1 n2 c1 c2:Nat)(a b c d e:Int)(bs ss:List L)(w:World)(h1:LS w (.slice q1 n1 c1) bs)(h2:LS w (.slice q2 n2 c2) ss) (h0:zAd bs ss=0)(ha:addE 1 bs p ⟨a,b,c,d,e⟩=0)(hb:¬zAd (putL 1 p ⟨a,b,c,d,e⟩ bs) (ss)=0) :
  Calls Tryz.prog 94 #[.agg #[.slice q1 n1 c1,.slice q2 n2 c2],.int .i64 1,.int .i64 p,.agg #[.int .i64 a,.int .i64 b,.int .i64 c,.int .i64 d,.int .i64 e]] w fun x w'=>PutPostD bs ss 1 p ⟨a,b,c,d,e⟩ w x w':=by
 have HCH:=fun W(hW:Below w.heap.size w W)=>check_any q1 q2 n1 n2 c1 c2 bs ss W (h1.below hW) (h2.below hW)
 rw[h0,errV_zero] at HCH
 have hP1:put1 bs 1 p ⟨a,b,c,d,e⟩=putL 1 p ⟨a,b,c,d,e⟩ bs:=by unfold put1;rw[if_pos rfl]
 have hP2:put2 ss 1 p ⟨a,b,c,d,e⟩=ss:=by unfold put2;rw[if_pos rfl]
 have hE:putE bs ss 1 p ⟨a,b,c,d,e⟩=zAd (putL 1 p ⟨a,b,c,d,e⟩ bs) (ss):=by unfold putE;rw[if_pos h0,if_pos rfl,if_pos ha,hP1,hP2]
 obtain⟨AL,hAL⟩:∃AL,AL=putL 1 p ⟨a,b,c,d,e⟩ bs:=⟨_,rfl⟩
 obtain⟨X1,hX1⟩:∃X1,X1=putL 1 p ⟨a,b,c,d,e⟩ bs:=⟨_,rfl⟩
 obtain⟨X2,hX2⟩:∃X2,X2=ss:=⟨_,rfl⟩
 rw[←hX1,←hX2] at hb
 have HAD:Hid (∀W,Below w.heap.size w W→Calls Tryz.prog 121 #[.int .i64 1,.slice q1 n1 c1,.int .i64 p,.agg #[.int .i64 a,.int .i64 b,.int .i64 c,.int .i64 d,.int .i64 e]] W fun x w'=>Below W.heap.size W w'∧∃q n cc,x=.returned (.tuple #[.slice q n cc,.nilIface])∧DL w' W.heap.size (.slice q n cc) AL):=fun W hW=>(zDr 1 _ bs p a b c d e W (h1.below hW)).mono fun x w' h=>by
  obtain⟨g1,v',g2,g3⟩:=h
  rw[ha,errV_zero] at g2
  unfold addL at g3
  rw[if_pos ha,←hAL] at g3
  obtain⟨q,n,cc,rfl⟩:=g3.form
  exact⟨g1,q,n,cc,g2,g3⟩
 obtain⟨k1,k2,-⟩:=zAf h0
 have HWI:Hid (∀W q3 n3 c3 b0,Below w.heap.size w W→b0≤W.heap.size→DL W b0 (.slice q3 n3 c3) AL→Calls Tryz.prog 122 #[.agg #[.slice q1 n1 c1,.slice q2 n2 c2],.int .i64 1,.slice q3 n3 c3] W fun x w'=>∃u1 u2 m1 m2 d1 d2,x=.returned (.agg #[.slice u1 m1 d1,.slice u2 m2 d2])∧DL w' b0 (.slice u1 m1 d1) X1∧DL w' b0 (.slice u2 m2 d2) X2∧Below W.heap.size W w'):=fun W q3 n3 c3 b0 hW hb0 hd=>(zCJ 1 q1 q2 q3 n1 n2 n3 c1 c2 c3 bs ss AL b0 W (h1.below hW) (h2.below hW) hd hb0 k1 k2).mono fun x w' h=>by
  obtain⟨u1,u2,m1,m2,d1,d2,g1,g2,g3,g4⟩:=h
  rw[if_pos rfl] at g2 g3
  exact⟨u1,u2,m1,m2,d1,d2,g1,by rw[hX1,←hAL];exact g2,by rw[hX2];exact g3,g4⟩
 have HC2:=fun W u1 u2 m1 m2 d1 d2 (g1:LS W (.slice u1 m1 d1) X1) (g2:LS W (.slice u2 m2 d2) X2)=>check_any u1 u2 m1 m2 d1 d2 X1 X2 W g1 g2
 rw[errV_of hb] at HC2
 have HERR:Hid (∀W,Below w.heap.size w W→PutPostD bs ss 1 p ⟨a,b,c,d,e⟩ w (.returned (.tuple #[.agg #[.slice none 0 0,.slice none 0 0],.iface 91 (.int .i64 (zAd X1 X2))])) W):=fun W hW=>zEl (by rw[hE,←hX1,←hX2]) hb hW
 obtain⟨V,hV⟩:∃V,V=((w.alloc (.cells #[.slice q1 n1 c1,.slice q2 n2 c2] 46)).alloc (.cells #[.int .i64 a,.int .i64 b,.int .i64 c,.int .i64 d,.int .i64 e] 54)).alloc (.cells #[.slice none 0 0,.slice none 0 0] 46):=⟨_,rfl⟩
 have HB:Hid (Below w.heap.size w V):=by rw[hV];exact(((bzR _ _).alloc (nzR _) _).alloc (by simp) _).alloc (by simp;omega) _
 have v0:V.cell? ⟨w.heap.size,0,none⟩=some (.slice q1 n1 c1):=by rw[hV];simp[go_sem]
 have v1:V.cell? ⟨w.heap.size,1,none⟩=some (.slice q2 n2 c2):=by rw[hV];simp[go_sem]
 have r0:V.cell? ⟨w.heap.size+1,0,none⟩=some (.int .i64 a):=by rw[hV];simp[go_sem]
 have r1:V.cell? ⟨w.heap.size+1,1,none⟩=some (.int .i64 b):=by rw[hV];simp[go_sem]
 have r2:V.cell? ⟨w.heap.size+1,2,none⟩=some (.int .i64 c):=by rw[hV];simp[go_sem]
 have r3:V.cell? ⟨w.heap.size+1,3,none⟩=some (.int .i64 d):=by rw[hV];simp[go_sem]
 have r4:V.cell? ⟨w.heap.size+1,4,none⟩=some (.int .i64 e):=by rw[hV];simp[go_sem]
 have hR:V.heap[w.heap.size+2]?=some (.cells #[.slice none 0 0,.slice none 0 0] 46 (0,0)):=by
  rw[hV]
  have:=jA ((w.alloc (.cells #[.slice q1 n1 c1,.slice q2 n2 c2] 46)).alloc (.cells #[.int .i64 a,.int .i64 b,.int .i64 c,.int .i64 d,.int .i64 e] 54)) (.cells #[.slice none 0 0,.slice none 0 0] 46)
  simpa using this
 have hVs:w.heap.size+2<V.heap.size:=(gzE.1 hR).1
 generalize PutPostD bs ss 1 p ⟨a,b,c,d,e⟩ w=POST at *
 generalize zAd X1 X2=k at *
 clear h0 h1 h2 ha hAL hX1 hX2 hP1 hP2 hE hb k1 k2
 go_enter Tryz.func94,Tryz.ntmps94
 go_wp2_with fail
 rw[←hV]
 refine(HCH V HB.out).mono ?_
 rintro x w1⟨rfl,b1⟩
 have HB1:Hid (Below w.heap.size w w1):=HB.out.trans (b1.mono HB.out.size)
 have hR1:w1.heap[w.heap.size+2]?=some (.cells #[.slice none 0 0,.slice none 0 0] 46 (0,0)):=by rw[b1.block _ hVs];exact hR
 have x0:=zAa b1 v0
 have x1:=zAa b1 v1
 have y0:=zAa b1 r0
 have y1:=zAa b1 r1
 have y2:=zAa b1 r2
 have y3:=zAa b1 r3
 have y4:=zAa b1 r4
 have hs1:w.heap.size+2<w1.heap.size:=jC hVs b1.size
 have HLV:Hid (∀W,Below w1.heap.size w1 W→Calls Tryz.prog 61 #[.agg #[.slice q1 n1 c1,.slice q2 n2 c2],.int .i64 1] W fun e w'=>e=.returned (.slice q1 n1 c1)∧Below w1.heap.size w1 w'):=fun W hW=>by
  have:=zAv 1 q1 q2 n1 n2 c1 c2 W
  rw[if_pos rfl] at this
  exact this.mono fun e w' h=>⟨h.1,hW.trans (h.2.mono hW.size)⟩
 have HAD2:Hid (∀W,Below w1.heap.size w1 W→Calls Tryz.prog 121 #[.int .i64 1,.slice q1 n1 c1,.int .i64 p,.agg #[.int .i64 a,.int .i64 b,.int .i64 c,.int .i64 d,.int .i64 e]] W fun x w'=>Below w1.heap.size w1 w'∧∃q n cc,x=.returned (.tuple #[.slice q n cc,.nilIface])∧DL w' w1.heap.size (.slice q n cc) AL):=fun W hW=>(HAD.out W (HB1.out.trans (hW.mono HB1.out.size))).mono fun x w' h=>by obtain⟨g1,q,n,cc,g2,g3⟩:=h;exact⟨hW.trans (g1.mono hW.size),q,n,cc,g2,g3.mono hW.size⟩
 have SO:Hid (∀W,Below w1.heap.size w1 W→(Below w1.heap.size w1 W∧W.cell? ⟨w.heap.size,0,none⟩=some (.slice q1 n1 c1)∧W.cell? ⟨w.heap.size,1,none⟩=some (.slice q2 n2 c2)∧W.cell? ⟨w.heap.size+1,0,none⟩=some (.int .i64 a)∧W.cell? ⟨w.heap.size+1,1,none⟩=some (.int .i64 b)∧W.cell? ⟨w.heap.size+1,2,none⟩=some (.int .i64 c)∧W.cell? ⟨w.heap.size+1,3,none⟩=some (.int .i64 d)∧W.cell? ⟨w.heap.size+1,4,none⟩=some (.int .i64 e))):=fun W hW=>⟨hW,zAa hW x0,zAa hW x1,zAa hW y0,zAa hW y1,zAa hW y2,zAa hW y3,zAa hW y4⟩
 clear b1 HCH v0 v1 r0 r1 r2 r3 r4 hR HAD
 go_upto_region 4 with fail
 go_region_held3 (fun W=>Below w1.heap.size w1 W∧W.cell? ⟨w.heap.size,0,none⟩=some (.slice q1 n1 c1)∧W.cell? ⟨w.heap.size,1,none⟩=some (.slice q2 n2 c2)∧W.cell? ⟨w.heap.size+1,0,none⟩=some (.int .i64 a)∧W.cell? ⟨w.heap.size+1,1,none⟩=some (.int .i64 b)∧W.cell? ⟨w.heap.size+1,2,none⟩=some (.int .i64 c)∧W.cell? ⟨w.heap.size+1,3,none⟩=some (.int .i64 d)∧W.cell? ⟨w.heap.size+1,4,none⟩=some (.int .i64 e))
  ((refine SO.out _ ?_;(with_reducible repeat' (first|assumption|refine bal ?_ _|refine Below.setCell ?_ ?_ _|refine Below.drew ?_|exact bzR _ _|exact nzR _|exact Below.size (by assumption)|refine jD ?_))))
  (first|(go_at_call 61;with_reducible refine(HLV.out _ ?_).mono ?_;(with_reducible repeat' (first|assumption|refine bal ?_ _|refine Below.setCell ?_ ?_ _|refine Below.drew ?_|exact bzR _ _|exact nzR _|exact Below.size (by assumption)|refine jD ?_));rintro x W ⟨rfl,hbn⟩)|(go_at_call 121;with_reducible refine(HAD2.out _ ?_).mono ?_;(with_reducible repeat' (first|assumption|refine bal ?_ _|refine Below.setCell ?_ ?_ _|refine Below.drew ?_|exact bzR _ _|exact nzR _|exact Below.size (by assumption)|refine jD ?_));rintro x W ⟨hbn,q3,n3,c3,rfl,hL3⟩))
 have HB2:Hid (Below w.heap.size w W):=HB1.out.trans (hbn.mono HB1.out.size)
 have HBN:Hid (Below w1.heap.size w1 W):=hbn
 have HL3:Hid (DL W w1.heap.size (.slice q3 n3 c3) AL):=hL3
 have x0':=zAa hbn x0
 have x1':=zAa hbn x1
 have hs2:w.heap.size+2<W.heap.size:=jC hs1 hbn.size
 clear hbn hL3 SO HLV HAD2 x0 x1 y0 y1 y2 y3 y4
 go_wp2_with fail
 refine(HWI.out W q3 n3 c3 w1.heap.size HB2.out HBN.out.size HL3.out).mono ?_
 rintro x w3⟨u1,u2,m1,m2,d1,d2,rfl,hA,hB',b3⟩
 have HB3:Hid (Below w1.heap.size w1 w3):=HBN.out.trans (b3.mono HBN.out.size)
 have HA:Hid (DL w3 w1.heap.size (.slice u1 m1 d1) X1):=hA
 have HBB:Hid (DL w3 w1.heap.size (.slice u2 m2 d2) X2):=hB'
 clear hA hB' b3 HWI x0' x1'
 go_wp2_with fail
 have hR4:=jA w3 (.cells #[.slice u1 m1 d1,.slice u2 m2 d2] 46)
 have hA4:Below w3.heap.size w3 (w3.alloc (.cells #[.slice u1 m1 d1,.slice u2 m2 d2] 46)):=(bzR _ _).alloc (nzR _) _
 generalize w3.alloc (.cells #[.slice u1 m1 d1,.slice u2 m2 d2] 46)=V4 at *
 have HA4:Hid (DL V4 w1.heap.size (.slice u1 m1 d1) X1):=HA.out.below hA4
 have HB4:Hid (DL V4 w1.heap.size (.slice u2 m2 d2) X2):=HBB.out.below hA4
 have HV4:Hid (Below w1.heap.size w1 V4):=HB3.out.trans (hA4.mono HB3.out.size)
 obtain⟨z0,z1,-⟩:=zAb hR4
 have hz4:w3.heap.size<V4.heap.size:=(gzE.1 hR4).1
 clear hA4 hR4
 generalize w3.heap.size=B4 at *
 refine(HC2 V4 u1 u2 m1 m2 d1 d2 HA4.out.ls HB4.out.ls).mono ?_
 rintro x w5⟨rfl,b5⟩
 have HV5:Hid (Below w1.heap.size w1 w5):=HV4.out.trans (b5.mono HV4.out.size)
 have HBW:Hid (Below w.heap.size w w5):=HB1.out.trans (HV5.out.mono HB1.out.size)
 have HA5:Hid (DL w5 w1.heap.size (.slice u1 m1 d1) X1):=HA4.out.below b5
 have HB5:Hid (DL w5 w1.heap.size (.slice u2 m2 d2) X2):=HB4.out.below b5
 have hRW:w5.heap[w.heap.size+2]?=some (.cells #[.slice none 0 0,.slice none 0 0] 46 (0,0)):=by rw[HV5.out.block _ hs1];exact hR1
 have t0:=zAa b5 z0
 have t1:=zAa b5 z1
 have hs5:B4<w5.heap.size:=jC hz4 b5.size
 have hs6:w.heap.size+2<w5.heap.size:=jC hs1 HV5.out.size
 clear b5 HC2 z0 z1 hR1
 obtain⟨g0,g1,hf⟩:=zAb hRW
 have f0:=hf 0
 have f1:=hf 1
 have hg:=zAN w5 (w.heap.size+2) (.slice none 0 0) (.slice none 0 0)
 have HPX:=HERR.out _ (HBW.out.grown hg HBW.out.size (fun k hk=>by cases hk;omega))
 have HHX:Hid (((w5.setCell ⟨w.heap.size+2,0,none⟩ (.slice none 0 0)).setCell ⟨w.heap.size+2,1,none⟩ (.slice none 0 0)).heap[w.heap.size+2]?=some (.cells #[.slice none 0 0,.slice none 0 0] 46 (0,0))):=zAw hRW (.slice none 0 0) (.slice none 0 0)
 clear hf hg HERR hRW
 go_wp2_with fail
 generalize ((w5.setCell ⟨w.heap.size+2,0,none⟩ (.slice none 0 0)).setCell ⟨w.heap.size+2,1,none⟩ (.slice none 0 0))=X at *
 obtain⟨y0,y1,-⟩:=zAb HHX.out
 exact jN (v:=.tuple #[.agg #[.slice none 0 0,.slice none 0 0],.iface 91 (.int .i64 k)]) (by simp[results,Tryz.results94,go_sem,y0,y1]) rfl HPX
theorem zPP(p:Int)(q1 q2:Option Addr)(n1 n2 c1 c2:Nat)(a b c d e:Int)(bs ss:List L)(w:World)(h1:LS w (.slice q1 n1 c1) bs)(h2:LS w (.slice q2 n2 c2) ss) (h0:zAd bs ss=0)(ha:addE 1 bs p ⟨a,b,c,d,e⟩=0)(hb :  zAd (putL 1 p ⟨a,b,c,d,e⟩ bs) (ss)=0) :
  Calls Tryz.prog 94 #[.agg #[.slice q1 n1 c1,.slice q2 n2 c2],.int .i64 1,.int .i64 p,.agg #[.int .i64 a,.int .i64 b,.int .i64 c,.int .i64 d,.int .i64 e]] w fun x w'=>PutPostD bs ss 1 p ⟨a,b,c,d,e⟩ w x w':=by
 have HCH:=fun W(hW:Below w.heap.size w W)=>check_any q1 q2 n1 n2 c1 c2 bs ss W (h1.below hW) (h2.below hW)
 rw[h0,errV_zero] at HCH
 have hP1:put1 bs 1 p ⟨a,b,c,d,e⟩=putL 1 p ⟨a,b,c,d,e⟩ bs:=by unfold put1;rw[if_pos rfl]
 have hP2:put2 ss 1 p ⟨a,b,c,d,e⟩=ss:=by unfold put2;rw[if_pos rfl]
 have hE:putE bs ss 1 p ⟨a,b,c,d,e⟩=zAd (putL 1 p ⟨a,b,c,d,e⟩ bs) (ss):=by unfold putE;rw[if_pos h0,if_pos rfl,if_pos ha,hP1,hP2]
 obtain⟨AL,hAL⟩:∃AL,AL=putL 1 p ⟨a,b,c,d,e⟩ bs:=⟨_,rfl⟩
 obtain⟨X1,hX1⟩:∃X1,X1=putL 1 p ⟨a,b,c,d,e⟩ bs:=⟨_,rfl⟩
 obtain⟨X2,hX2⟩:∃X2,X2=ss:=⟨_,rfl⟩
 rw[←hX1,←hX2] at hb
 have HAD:Hid (∀W,Below w.heap.size w W→Calls Tryz.prog 121 #[.int .i64 1,.slice q1 n1 c1,.int .i64 p,.agg #[.int .i64 a,.int .i64 b,.int .i64 c,.int .i64 d,.int .i64 e]] W fun x w'=>Below W.heap.size W w'∧∃q n cc,x=.returned (.tuple #[.slice q n cc,.nilIface])∧DL w' W.heap.size (.slice q n cc) AL):=fun W hW=>(zDr 1 _ bs p a b c d e W (h1.below hW)).mono fun x w' h=>by
  obtain⟨g1,v',g2,g3⟩:=h
  rw[ha,errV_zero] at g2
  unfold addL at g3
  rw[if_pos ha,←hAL] at g3
  obtain⟨q,n,cc,rfl⟩:=g3.form
  exact⟨g1,q,n,cc,g2,g3⟩
 obtain⟨k1,k2,-⟩:=zAf h0
 have HWI:Hid (∀W q3 n3 c3 b0,Below w.heap.size w W→b0≤W.heap.size→DL W b0 (.slice q3 n3 c3) AL→Calls Tryz.prog 122 #[.agg #[.slice q1 n1 c1,.slice q2 n2 c2],.int .i64 1,.slice q3 n3 c3] W fun x w'=>∃u1 u2 m1 m2 d1 d2,x=.returned (.agg #[.slice u1 m1 d1,.slice u2 m2 d2])∧DL w' b0 (.slice u1 m1 d1) X1∧DL w' b0 (.slice u2 m2 d2) X2∧Below W.heap.size W w'):=fun W q3 n3 c3 b0 hW hb0 hd=>(zCJ 1 q1 q2 q3 n1 n2 n3 c1 c2 c3 bs ss AL b0 W (h1.below hW) (h2.below hW) hd hb0 k1 k2).mono fun x w' h=>by
  obtain⟨u1,u2,m1,m2,d1,d2,g1,g2,g3,g4⟩:=h
  rw[if_pos rfl] at g2 g3
  exact⟨u1,u2,m1,m2,d1,d2,g1,by rw[hX1,←hAL];exact g2,by rw[hX2];exact g3,g4⟩
 have HC2:=fun W u1 u2 m1 m2 d1 d2 (g1:LS W (.slice u1 m1 d1) X1) (g2:LS W (.slice u2 m2 d2) X2)=>check_any u1 u2 m1 m2 d1 d2 X1 X2 W g1 g2
 rw[hb,errV_zero] at HC2
 have HOK:Hid (∀W u1 u2 m1 m2 d1 d2,Below w.heap.size w W→DL W w.heap.size (.slice u1 m1 d1) X1→DL W w.heap.size (.slice u2 m2 d2) X2→PutPostD bs ss 1 p ⟨a,b,c,d,e⟩ w (.returned (.tuple #[.agg #[.slice u1 m1 d1,.slice u2 m2 d2],.nilIface])) W):=fun W u1 u2 m1 m2 d1 d2 hW g1 g2=>by
  have hz:putE bs ss 1 p ⟨a,b,c,d,e⟩=0:=by rw[hE,←hX1,←hX2];exact hb
  exact⟨u1,u2,m1,m2,d1,d2,by rw[hz,errV_zero],by rw[if_pos hz,hP1,←hX1];exact g1,by rw[if_pos hz,hP2,←hX2];exact g2,hW⟩
 obtain⟨V,hV⟩:∃V,V=((w.alloc (.cells #[.slice q1 n1 c1,.slice q2 n2 c2] 46)).alloc (.cells #[.int .i64 a,.int .i64 b,.int .i64 c,.int .i64 d,.int .i64 e] 54)).alloc (.cells #[.slice none 0 0,.slice none 0 0] 46):=⟨_,rfl⟩
 have HB:Hid (Below w.heap.size w V):=by rw[hV];exact(((bzR _ _).alloc (nzR _) _).alloc (by simp) _).alloc (by simp;omega) _
 have v0:V.cell? ⟨w.heap.size,0,none⟩=some (.slice q1 n1 c1):=by rw[hV];simp[go_sem]
 have v1:V.cell? ⟨w.heap.size,1,none⟩=some (.slice q2 n2 c2):=by rw[hV];simp[go_sem]
 have r0:V.cell? ⟨w.heap.size+1,0,none⟩=some (.int .i64 a):=by rw[hV];simp[go_sem]
 have r1:V.cell? ⟨w.heap.size+1,1,none⟩=some (.int .i64 b):=by rw[hV];simp[go_sem]
 have r2:V.cell? ⟨w.heap.size+1,2,none⟩=some (.int .i64 c):=by rw[hV];simp[go_sem]
 have r3:V.cell? ⟨w.heap.size+1,3,none⟩=some (.int .i64 d):=by rw[hV];simp[go_sem]
 have r4:V.cell? ⟨w.heap.size+1,4,none⟩=some (.int .i64 e):=by rw[hV];simp[go_sem]
 have hR:V.heap[w.heap.size+2]?=some (.cells #[.slice none 0 0,.slice none 0 0] 46 (0,0)):=by
  rw[hV]
  have:=jA ((w.alloc (.cells #[.slice q1 n1 c1,.slice q2 n2 c2] 46)).alloc (.cells #[.int .i64 a,.int .i64 b,.int .i64 c,.int .i64 d,.int .i64 e] 54)) (.cells #[.slice none 0 0,.slice none 0 0] 46)
  simpa using this
 have hVs:w.heap.size+2<V.heap.size:=(gzE.1 hR).1
 generalize PutPostD bs ss 1 p ⟨a,b,c,d,e⟩ w=POST at *
 clear h0 h1 h2 ha hAL hX1 hX2 hP1 hP2 hE hb k1 k2
 go_enter Tryz.func94,Tryz.ntmps94
 go_wp2_with fail
 rw[←hV]
 refine(HCH V HB.out).mono ?_
 rintro x w1⟨rfl,b1⟩
 have HB1:Hid (Below w.heap.size w w1):=HB.out.trans (b1.mono HB.out.size)
 have hR1:w1.heap[w.heap.size+2]?=some (.cells #[.slice none 0 0,.slice none 0 0] 46 (0,0)):=by rw[b1.block _ hVs];exact hR
 have x0:=zAa b1 v0
 have x1:=zAa b1 v1
 have y0:=zAa b1 r0
 have y1:=zAa b1 r1
 have y2:=zAa b1 r2
 have y3:=zAa b1 r3
 have y4:=zAa b1 r4
 have hs1:w.heap.size+2<w1.heap.size:=jC hVs b1.size
 have HLV:Hid (∀W,Below w1.heap.size w1 W→Calls Tryz.prog 61 #[.agg #[.slice q1 n1 c1,.slice q2 n2 c2],.int .i64 1] W fun e w'=>e=.returned (.slice q1 n1 c1)∧Below w1.heap.size w1 w'):=fun W hW=>by
  have:=zAv 1 q1 q2 n1 n2 c1 c2 W
  rw[if_pos rfl] at this
  exact this.mono fun e w' h=>⟨h.1,hW.trans (h.2.mono hW.size)⟩
 have HAD2:Hid (∀W,Below w1.heap.size w1 W→Calls Tryz.prog 121 #[.int .i64 1,.slice q1 n1 c1,.int .i64 p,.agg #[.int .i64 a,.int .i64 b,.int .i64 c,.int .i64 d,.int .i64 e]] W fun x w'=>Below w1.heap.size w1 w'∧∃q n cc,x=.returned (.tuple #[.slice q n cc,.nilIface])∧DL w' w1.heap.size (.slice q n cc) AL):=fun W hW=>(HAD.out W (HB1.out.trans (hW.mono HB1.out.size))).mono fun x w' h=>by obtain⟨g1,q,n,cc,g2,g3⟩:=h;exact⟨hW.trans (g1.mono hW.size),q,n,cc,g2,g3.mono hW.size⟩
 have SO:Hid (∀W,Below w1.heap.size w1 W→(Below w1.heap.size w1 W∧W.cell? ⟨w.heap.size,0,none⟩=some (.slice q1 n1 c1)∧W.cell? ⟨w.heap.size,1,none⟩=some (.slice q2 n2 c2)∧W.cell? ⟨w.heap.size+1,0,none⟩=some (.int .i64 a)∧W.cell? ⟨w.heap.size+1,1,none⟩=some (.int .i64 b)∧W.cell? ⟨w.heap.size+1,2,none⟩=some (.int .i64 c)∧W.cell? ⟨w.heap.size+1,3,none⟩=some (.int .i64 d)∧W.cell? ⟨w.heap.size+1,4,none⟩=some (.int .i64 e))):=fun W hW=>⟨hW,zAa hW x0,zAa hW x1,zAa hW y0,zAa hW y1,zAa hW y2,zAa hW y3,zAa hW y4⟩
 clear b1 HCH v0 v1 r0 r1 r2 r3 r4 hR HAD
 go_upto_region 4 with fail
 go_region_held3 (fun W=>Below w1.heap.size w1 W∧W.cell? ⟨w.heap.size,0,none⟩=some (.slice q1 n1 c1)∧W.cell? ⟨w.heap.size,1,none⟩=some (.slice q2 n2 c2)∧W.cell? ⟨w.heap.size+1,0,none⟩=some (.int .i64 a)∧W.cell? ⟨w.heap.size+1,1,none⟩=some (.int .i64 b)∧W.cell? ⟨w.heap.size+1,2,none⟩=some (.int .i64 c)∧W.cell? ⟨w.heap.size+1,3,none⟩=some (.int .i64 d)∧W.cell? ⟨w.heap.size+1,4,none⟩=some (.int .i64 e))
  ((refine SO.out _ ?_;(with_reducible repeat' (first|assumption|refine bal ?_ _|refine Below.setCell ?_ ?_ _|refine Below.drew ?_|exact bzR _ _|exact nzR _|exact Below.size (by assumption)|refine jD ?_))))
  (first|(go_at_call 61;with_reducible refine(HLV.out _ ?_).mono ?_;(with_reducible repeat' (first|assumption|refine bal ?_ _|refine Below.setCell ?_ ?_ _|refine Below.drew ?_|exact bzR _ _|exact nzR _|exact Below.size (by assumption)|refine jD ?_));rintro x W ⟨rfl,hbn⟩)|(go_at_call 121;with_reducible refine(HAD2.out _ ?_).mono ?_;(with_reducible repeat' (first|assumption|refine bal ?_ _|refine Below.setCell ?_ ?_ _|refine Below.drew ?_|exact bzR _ _|exact nzR _|exact Below.size (by assumption)|refine jD ?_));rintro x W ⟨hbn,q3,n3,c3,rfl,hL3⟩))
 have HB2:Hid (Below w.heap.size w W):=HB1.out.trans (hbn.mono HB1.out.size)
 have HBN:Hid (Below w1.heap.size w1 W):=hbn
 have HL3:Hid (DL W w1.heap.size (.slice q3 n3 c3) AL):=hL3
 have x0':=zAa hbn x0
 have x1':=zAa hbn x1
 have hs2:w.heap.size+2<W.heap.size:=jC hs1 hbn.size
 clear hbn hL3 SO HLV HAD2 x0 x1 y0 y1 y2 y3 y4
 go_wp2_with fail
 refine(HWI.out W q3 n3 c3 w1.heap.size HB2.out HBN.out.size HL3.out).mono ?_
 rintro x w3⟨u1,u2,m1,m2,d1,d2,rfl,hA,hB',b3⟩
 have HB3:Hid (Below w1.heap.size w1 w3):=HBN.out.trans (b3.mono HBN.out.size)
 have HA:Hid (DL w3 w1.heap.size (.slice u1 m1 d1) X1):=hA
 have HBB:Hid (DL w3 w1.heap.size (.slice u2 m2 d2) X2):=hB'
 clear hA hB' b3 HWI x0' x1'
 go_wp2_with fail
 have hR4:=jA w3 (.cells #[.slice u1 m1 d1,.slice u2 m2 d2] 46)
 have hA4:Below w3.heap.size w3 (w3.alloc (.cells #[.slice u1 m1 d1,.slice u2 m2 d2] 46)):=(bzR _ _).alloc (nzR _) _
 generalize w3.alloc (.cells #[.slice u1 m1 d1,.slice u2 m2 d2] 46)=V4 at *
 have HA4:Hid (DL V4 w1.heap.size (.slice u1 m1 d1) X1):=HA.out.below hA4
 have HB4:Hid (DL V4 w1.heap.size (.slice u2 m2 d2) X2):=HBB.out.below hA4
 have HV4:Hid (Below w1.heap.size w1 V4):=HB3.out.trans (hA4.mono HB3.out.size)
 obtain⟨z0,z1,-⟩:=zAb hR4
 have hz4:w3.heap.size<V4.heap.size:=(gzE.1 hR4).1
 clear hA4 hR4
 generalize w3.heap.size=B4 at *
 refine(HC2 V4 u1 u2 m1 m2 d1 d2 HA4.out.ls HB4.out.ls).mono ?_
 rintro x w5⟨rfl,b5⟩
 have HV5:Hid (Below w1.heap.size w1 w5):=HV4.out.trans (b5.mono HV4.out.size)
 have HBW:Hid (Below w.heap.size w w5):=HB1.out.trans (HV5.out.mono HB1.out.size)
 have HA5:Hid (DL w5 w1.heap.size (.slice u1 m1 d1) X1):=HA4.out.below b5
 have HB5:Hid (DL w5 w1.heap.size (.slice u2 m2 d2) X2):=HB4.out.below b5
 have hRW:w5.heap[w.heap.size+2]?=some (.cells #[.slice none 0 0,.slice none 0 0] 46 (0,0)):=by rw[HV5.out.block _ hs1];exact hR1
 have t0:=zAa b5 z0
 have t1:=zAa b5 z1
 have hs5:B4<w5.heap.size:=jC hz4 b5.size
 have hs6:w.heap.size+2<w5.heap.size:=jC hs1 HV5.out.size
 clear b5 HC2 z0 z1 hR1
 obtain⟨g0,g1,hf⟩:=zAb hRW
 have f0:=hf 0
 have f1:=hf 1
 have hg:=zAN w5 (w.heap.size+2) (.slice u1 m1 d1) (.slice u2 m2 d2)
 have HPX:=HOK.out _ u1 u2 m1 m2 d1 d2 (HBW.out.grown hg HBW.out.size (fun k hk=>by cases hk;omega)) ((DL.other HA5.out hg hs1).mono HB1.out.size) ((DL.other HB5.out hg hs1).mono HB1.out.size)
 have HHX:Hid (((w5.setCell ⟨w.heap.size+2,0,none⟩ (.slice u1 m1 d1)).setCell ⟨w.heap.size+2,1,none⟩ (.slice u2 m2 d2)).heap[w.heap.size+2]?=some (.cells #[.slice u1 m1 d1,.slice u2 m2 d2] 46 (0,0))):=zAw hRW _ _
 clear hf hg HOK hRW
 go_wp2_with fail
 generalize ((w5.setCell ⟨w.heap.size+2,0,none⟩ (.slice u1 m1 d1)).setCell ⟨w.heap.size+2,1,none⟩ (.slice u2 m2 d2))=X at *
 obtain⟨y0,y1,-⟩:=zAb HHX.out
 exact jN (v:=.tuple #[.agg #[.slice u1 m1 d1,.slice u2 m2 d2],.nilIface]) (by simp[results,Tryz.results94,go_sem,y0,y1]) rfl HPX
theorem zNJ(s p:Int)(q1 q2:Option Addr)(n1 n2 c1 c2:Nat)(a b c d e:Int)(bs ss:List L)(w:World)(h1:LS w (.slice q1 n1 c1) bs)(h2:LS w (.slice q2 n2 c2) ss)(hs:¬s=1)(h0:zAd bs ss=0)(ha:addE s ss p ⟨a,b,c,d,e⟩=0)(hb:¬zAd (bs) (putL s p ⟨a,b,c,d,e⟩ ss)=0) :
  Calls Tryz.prog 94 #[.agg #[.slice q1 n1 c1,.slice q2 n2 c2],.int .i64 s,.int .i64 p,.agg #[.int .i64 a,.int .i64 b,.int .i64 c,.int .i64 d,.int .i64 e]] w fun x w'=>PutPostD bs ss s p ⟨a,b,c,d,e⟩ w x w':=by
 have HCH:=fun W(hW:Below w.heap.size w W)=>check_any q1 q2 n1 n2 c1 c2 bs ss W (h1.below hW) (h2.below hW)
 rw[h0,errV_zero] at HCH
 have hP1:put1 bs s p ⟨a,b,c,d,e⟩=bs:=by unfold put1;rw[if_neg hs]
 have hP2:put2 ss s p ⟨a,b,c,d,e⟩=putL s p ⟨a,b,c,d,e⟩ ss:=by unfold put2;rw[if_neg hs]
 have hE:putE bs ss s p ⟨a,b,c,d,e⟩=zAd (bs) (putL s p ⟨a,b,c,d,e⟩ ss):=by unfold putE;rw[if_pos h0,if_neg hs,if_pos ha,hP1,hP2]
 obtain⟨AL,hAL⟩:∃AL,AL=putL s p ⟨a,b,c,d,e⟩ ss:=⟨_,rfl⟩
 obtain⟨X1,hX1⟩:∃X1,X1=bs:=⟨_,rfl⟩
 obtain⟨X2,hX2⟩:∃X2,X2=putL s p ⟨a,b,c,d,e⟩ ss:=⟨_,rfl⟩
 rw[←hX1,←hX2] at hb
 have HAD:Hid (∀W,Below w.heap.size w W→Calls Tryz.prog 121 #[.int .i64 s,.slice q2 n2 c2,.int .i64 p,.agg #[.int .i64 a,.int .i64 b,.int .i64 c,.int .i64 d,.int .i64 e]] W fun x w'=>Below W.heap.size W w'∧∃q n cc,x=.returned (.tuple #[.slice q n cc,.nilIface])∧DL w' W.heap.size (.slice q n cc) AL):=fun W hW=>(zDr s _ ss p a b c d e W (h2.below hW)).mono fun x w' h=>by
  obtain⟨g1,v',g2,g3⟩:=h
  rw[ha,errV_zero] at g2
  unfold addL at g3
  rw[if_pos ha,←hAL] at g3
  obtain⟨q,n,cc,rfl⟩:=g3.form
  exact⟨g1,q,n,cc,g2,g3⟩
 obtain⟨k1,k2,-⟩:=zAf h0
 have HWI:Hid (∀W q3 n3 c3 b0,Below w.heap.size w W→b0≤W.heap.size→DL W b0 (.slice q3 n3 c3) AL→Calls Tryz.prog 122 #[.agg #[.slice q1 n1 c1,.slice q2 n2 c2],.int .i64 s,.slice q3 n3 c3] W fun x w'=>∃u1 u2 m1 m2 d1 d2,x=.returned (.agg #[.slice u1 m1 d1,.slice u2 m2 d2])∧DL w' b0 (.slice u1 m1 d1) X1∧DL w' b0 (.slice u2 m2 d2) X2∧Below W.heap.size W w'):=fun W q3 n3 c3 b0 hW hb0 hd=>(zCJ s q1 q2 q3 n1 n2 n3 c1 c2 c3 bs ss AL b0 W (h1.below hW) (h2.below hW) hd hb0 k1 k2).mono fun x w' h=>by
  obtain⟨u1,u2,m1,m2,d1,d2,g1,g2,g3,g4⟩:=h
  rw[if_neg hs] at g2 g3
  exact⟨u1,u2,m1,m2,d1,d2,g1,by rw[hX1];exact g2,by rw[hX2,←hAL];exact g3,g4⟩
 have HC2:=fun W u1 u2 m1 m2 d1 d2 (g1:LS W (.slice u1 m1 d1) X1) (g2:LS W (.slice u2 m2 d2) X2)=>check_any u1 u2 m1 m2 d1 d2 X1 X2 W g1 g2
 rw[errV_of hb] at HC2
 have HERR:Hid (∀W,Below w.heap.size w W→PutPostD bs ss s p ⟨a,b,c,d,e⟩ w (.returned (.tuple #[.agg #[.slice none 0 0,.slice none 0 0],.iface 91 (.int .i64 (zAd X1 X2))])) W):=fun W hW=>zEl (by rw[hE,←hX1,←hX2]) hb hW
 obtain⟨V,hV⟩:∃V,V=((w.alloc (.cells #[.slice q1 n1 c1,.slice q2 n2 c2] 46)).alloc (.cells #[.int .i64 a,.int .i64 b,.int .i64 c,.int .i64 d,.int .i64 e] 54)).alloc (.cells #[.slice none 0 0,.slice none 0 0] 46):=⟨_,rfl⟩
 have HB:Hid (Below w.heap.size w V):=by rw[hV];exact(((bzR _ _).alloc (nzR _) _).alloc (by simp) _).alloc (by simp;omega) _
 have v0:V.cell? ⟨w.heap.size,0,none⟩=some (.slice q1 n1 c1):=by rw[hV];simp[go_sem]
 have v1:V.cell? ⟨w.heap.size,1,none⟩=some (.slice q2 n2 c2):=by rw[hV];simp[go_sem]
 have r0:V.cell? ⟨w.heap.size+1,0,none⟩=some (.int .i64 a):=by rw[hV];simp[go_sem]
 have r1:V.cell? ⟨w.heap.size+1,1,none⟩=some (.int .i64 b):=by rw[hV];simp[go_sem]
 have r2:V.cell? ⟨w.heap.size+1,2,none⟩=some (.int .i64 c):=by rw[hV];simp[go_sem]
 have r3:V.cell? ⟨w.heap.size+1,3,none⟩=some (.int .i64 d):=by rw[hV];simp[go_sem]
 have r4:V.cell? ⟨w.heap.size+1,4,none⟩=some (.int .i64 e):=by rw[hV];simp[go_sem]
 have hR:V.heap[w.heap.size+2]?=some (.cells #[.slice none 0 0,.slice none 0 0] 46 (0,0)):=by
  rw[hV]
  have:=jA ((w.alloc (.cells #[.slice q1 n1 c1,.slice q2 n2 c2] 46)).alloc (.cells #[.int .i64 a,.int .i64 b,.int .i64 c,.int .i64 d,.int .i64 e] 54)) (.cells #[.slice none 0 0,.slice none 0 0] 46)
  simpa using this
 have hVs:w.heap.size+2<V.heap.size:=(gzE.1 hR).1
 generalize PutPostD bs ss s p ⟨a,b,c,d,e⟩ w=POST at *
 generalize zAd X1 X2=k at *
 clear h0 h1 h2 ha hAL hX1 hX2 hP1 hP2 hE hb k1 k2
 go_enter Tryz.func94,Tryz.ntmps94
 go_wp2_with fail
 rw[←hV]
 refine(HCH V HB.out).mono ?_
 rintro x w1⟨rfl,b1⟩
 have HB1:Hid (Below w.heap.size w w1):=HB.out.trans (b1.mono HB.out.size)
 have hR1:w1.heap[w.heap.size+2]?=some (.cells #[.slice none 0 0,.slice none 0 0] 46 (0,0)):=by rw[b1.block _ hVs];exact hR
 have x0:=zAa b1 v0
 have x1:=zAa b1 v1
 have y0:=zAa b1 r0
 have y1:=zAa b1 r1
 have y2:=zAa b1 r2
 have y3:=zAa b1 r3
 have y4:=zAa b1 r4
 have hs1:w.heap.size+2<w1.heap.size:=jC hVs b1.size
 have HLV:Hid (∀W,Below w1.heap.size w1 W→Calls Tryz.prog 61 #[.agg #[.slice q1 n1 c1,.slice q2 n2 c2],.int .i64 s] W fun e w'=>e=.returned (.slice q2 n2 c2)∧Below w1.heap.size w1 w'):=fun W hW=>by
  have:=zAv s q1 q2 n1 n2 c1 c2 W
  rw[if_neg hs] at this
  exact this.mono fun e w' h=>⟨h.1,hW.trans (h.2.mono hW.size)⟩
 have HAD2:Hid (∀W,Below w1.heap.size w1 W→Calls Tryz.prog 121 #[.int .i64 s,.slice q2 n2 c2,.int .i64 p,.agg #[.int .i64 a,.int .i64 b,.int .i64 c,.int .i64 d,.int .i64 e]] W fun x w'=>Below w1.heap.size w1 w'∧∃q n cc,x=.returned (.tuple #[.slice q n cc,.nilIface])∧DL w' w1.heap.size (.slice q n cc) AL):=fun W hW=>(HAD.out W (HB1.out.trans (hW.mono HB1.out.size))).mono fun x w' h=>by obtain⟨g1,q,n,cc,g2,g3⟩:=h;exact⟨hW.trans (g1.mono hW.size),q,n,cc,g2,g3.mono hW.size⟩
 have SO:Hid (∀W,Below w1.heap.size w1 W→(Below w1.heap.size w1 W∧W.cell? ⟨w.heap.size,0,none⟩=some (.slice q1 n1 c1)∧W.cell? ⟨w.heap.size,1,none⟩=some (.slice q2 n2 c2)∧W.cell? ⟨w.heap.size+1,0,none⟩=some (.int .i64 a)∧W.cell? ⟨w.heap.size+1,1,none⟩=some (.int .i64 b)∧W.cell? ⟨w.heap.size+1,2,none⟩=some (.int .i64 c)∧W.cell? ⟨w.heap.size+1,3,none⟩=some (.int .i64 d)∧W.cell? ⟨w.heap.size+1,4,none⟩=some (.int .i64 e))):=fun W hW=>⟨hW,zAa hW x0,zAa hW x1,zAa hW y0,zAa hW y1,zAa hW y2,zAa hW y3,zAa hW y4⟩
 clear b1 HCH v0 v1 r0 r1 r2 r3 r4 hR HAD
 go_upto_region 4 with fail
 go_region_held3 (fun W=>Below w1.heap.size w1 W∧W.cell? ⟨w.heap.size,0,none⟩=some (.slice q1 n1 c1)∧W.cell? ⟨w.heap.size,1,none⟩=some (.slice q2 n2 c2)∧W.cell? ⟨w.heap.size+1,0,none⟩=some (.int .i64 a)∧W.cell? ⟨w.heap.size+1,1,none⟩=some (.int .i64 b)∧W.cell? ⟨w.heap.size+1,2,none⟩=some (.int .i64 c)∧W.cell? ⟨w.heap.size+1,3,none⟩=some (.int .i64 d)∧W.cell? ⟨w.heap.size+1,4,none⟩=some (.int .i64 e))
  ((refine SO.out _ ?_;(with_reducible repeat' (first|assumption|refine bal ?_ _|refine Below.setCell ?_ ?_ _|refine Below.drew ?_|exact bzR _ _|exact nzR _|exact Below.size (by assumption)|refine jD ?_))))
  (first|(go_at_call 61;with_reducible refine(HLV.out _ ?_).mono ?_;(with_reducible repeat' (first|assumption|refine bal ?_ _|refine Below.setCell ?_ ?_ _|refine Below.drew ?_|exact bzR _ _|exact nzR _|exact Below.size (by assumption)|refine jD ?_));rintro x W ⟨rfl,hbn⟩)|(go_at_call 121;with_reducible refine(HAD2.out _ ?_).mono ?_;(with_reducible repeat' (first|assumption|refine bal ?_ _|refine Below.setCell ?_ ?_ _|refine Below.drew ?_|exact bzR _ _|exact nzR _|exact Below.size (by assumption)|refine jD ?_));rintro x W ⟨hbn,q3,n3,c3,rfl,hL3⟩))
 have HB2:Hid (Below w.heap.size w W):=HB1.out.trans (hbn.mono HB1.out.size)
 have HBN:Hid (Below w1.heap.size w1 W):=hbn
 have HL3:Hid (DL W w1.heap.size (.slice q3 n3 c3) AL):=hL3
 have x0':=zAa hbn x0
 have x1':=zAa hbn x1
 have hs2:w.heap.size+2<W.heap.size:=jC hs1 hbn.size
 clear hbn hL3 SO HLV HAD2 x0 x1 y0 y1 y2 y3 y4
 go_wp2_with fail
 refine(HWI.out W q3 n3 c3 w1.heap.size HB2.out HBN.out.size HL3.out).mono ?_
 rintro x w3⟨u1,u2,m1,m2,d1,d2,rfl,hA,hB',b3⟩
 have HB3:Hid (Below w1.heap.size w1 w3):=HBN.out.trans (b3.mono HBN.out.size)
 have HA:Hid (DL w3 w1.heap.size (.slice u1 m1 d1) X1):=hA
 have HBB:Hid (DL w3 w1.heap.size (.slice u2 m2 d2) X2):=hB'
 clear hA hB' b3 HWI x0' x1'
 go_wp2_with fail
 have hR4:=jA w3 (.cells #[.slice u1 m1 d1,.slice u2 m2 d2] 46)
 have hA4:Below w3.heap.size w3 (w3.alloc (.cells #[.slice u1 m1 d1,.slice u2 m2 d2] 46)):=(bzR _ _).alloc (nzR _) _
 generalize w3.alloc (.cells #[.slice u1 m1 d1,.slice u2 m2 d2] 46)=V4 at *
 have HA4:Hid (DL V4 w1.heap.size (.slice u1 m1 d1) X1):=HA.out.below hA4
 have HB4:Hid (DL V4 w1.heap.size (.slice u2 m2 d2) X2):=HBB.out.below hA4
 have HV4:Hid (Below w1.heap.size w1 V4):=HB3.out.trans (hA4.mono HB3.out.size)
 obtain⟨z0,z1,-⟩:=zAb hR4
 have hz4:w3.heap.size<V4.heap.size:=(gzE.1 hR4).1
 clear hA4 hR4
 generalize w3.heap.size=B4 at *
 refine(HC2 V4 u1 u2 m1 m2 d1 d2 HA4.out.ls HB4.out.ls).mono ?_
 rintro x w5⟨rfl,b5⟩
 have HV5:Hid (Below w1.heap.size w1 w5):=HV4.out.trans (b5.mono HV4.out.size)
 have HBW:Hid (Below w.heap.size w w5):=HB1.out.trans (HV5.out.mono HB1.out.size)
 have HA5:Hid (DL w5 w1.heap.size (.slice u1 m1 d1) X1):=HA4.out.below b5
 have HB5:Hid (DL w5 w1.heap.size (.slice u2 m2 d2) X2):=HB4.out.below b5
 have hRW:w5.heap[w.heap.size+2]?=some (.cells #[.slice none 0 0,.slice none 0 0] 46 (0,0)):=by rw[HV5.out.block _ hs1];exact hR1
 have t0:=zAa b5 z0
 have t1:=zAa b5 z1
 have hs5:B4<w5.heap.size:=jC hz4 b5.size
 have hs6:w.heap.size+2<w5.heap.size:=jC hs1 HV5.out.size
 clear b5 HC2 z0 z1 hR1
 obtain⟨g0,g1,hf⟩:=zAb hRW
 have f0:=hf 0
 have f1:=hf 1
 have hg:=zAN w5 (w.heap.size+2) (.slice none 0 0) (.slice none 0 0)
 have HPX:=HERR.out _ (HBW.out.grown hg HBW.out.size (fun k hk=>by cases hk;omega))
 have HHX:Hid (((w5.setCell ⟨w.heap.size+2,0,none⟩ (.slice none 0 0)).setCell ⟨w.heap.size+2,1,none⟩ (.slice none 0 0)).heap[w.heap.size+2]?=some (.cells #[.slice none 0 0,.slice none 0 0] 46 (0,0))):=zAw hRW (.slice none 0 0) (.slice none 0 0)
 clear hf hg HERR hRW
 go_wp2_with fail
 generalize ((w5.setCell ⟨w.heap.size+2,0,none⟩ (.slice none 0 0)).setCell ⟨w.heap.size+2,1,none⟩ (.slice none 0 0))=X at *
 obtain⟨y0,y1,-⟩:=zAb HHX.out
 exact jN (v:=.tuple #[.agg #[.slice none 0 0,.slice none 0 0],.iface 91 (.int .i64 k)]) (by simp[results,Tryz.results94,go_sem,y0,y1]) rfl HPX
theorem zPQ(s p:Int)(q1 q2:Option Addr)(n1 n2 c1 c2:Nat)(a b c d e:Int)(bs ss:List L)(w:World)(h1:LS w (.slice q1 n1 c1) bs)(h2:LS w (.slice q2 n2 c2) ss)(hs:¬s=1)(h0:zAd bs ss=0)(ha:addE s ss p ⟨a,b,c,d,e⟩=0)(hb :  zAd (bs) (putL s p ⟨a,b,c,d,e⟩ ss)=0) :
  Calls Tryz.prog 94 #[.agg #[.slice q1 n1 c1,.slice q2 n2 c2],.int .i64 s,.int .i64 p,.agg #[.int .i64 a,.int .i64 b,.int .i64 c,.int .i64 d,.int .i64 e]] w fun x w'=>PutPostD bs ss s p ⟨a,b,c,d,e⟩ w x w':=by
 have HCH:=fun W(hW:Below w.heap.size w W)=>check_any q1 q2 n1 n2 c1 c2 bs ss W (h1.below hW) (h2.below hW)
 rw[h0,errV_zero] at HCH
 have hP1:put1 bs s p ⟨a,b,c,d,e⟩=bs:=by unfold put1;rw[if_neg hs]
 have hP2:put2 ss s p ⟨a,b,c,d,e⟩=putL s p ⟨a,b,c,d,e⟩ ss:=by unfold put2;rw[if_neg hs]
 have hE:putE bs ss s p ⟨a,b,c,d,e⟩=zAd (bs) (putL s p ⟨a,b,c,d,e⟩ ss):=by unfold putE;rw[if_pos h0,if_neg hs,if_pos ha,hP1,hP2]
 obtain⟨AL,hAL⟩:∃AL,AL=putL s p ⟨a,b,c,d,e⟩ ss:=⟨_,rfl⟩
 obtain⟨X1,hX1⟩:∃X1,X1=bs:=⟨_,rfl⟩
 obtain⟨X2,hX2⟩:∃X2,X2=putL s p ⟨a,b,c,d,e⟩ ss:=⟨_,rfl⟩
 rw[←hX1,←hX2] at hb
 have HAD:Hid (∀W,Below w.heap.size w W→Calls Tryz.prog 121 #[.int .i64 s,.slice q2 n2 c2,.int .i64 p,.agg #[.int .i64 a,.int .i64 b,.int .i64 c,.int .i64 d,.int .i64 e]] W fun x w'=>Below W.heap.size W w'∧∃q n cc,x=.returned (.tuple #[.slice q n cc,.nilIface])∧DL w' W.heap.size (.slice q n cc) AL):=fun W hW=>(zDr s _ ss p a b c d e W (h2.below hW)).mono fun x w' h=>by
  obtain⟨g1,v',g2,g3⟩:=h
  rw[ha,errV_zero] at g2
  unfold addL at g3
  rw[if_pos ha,←hAL] at g3
  obtain⟨q,n,cc,rfl⟩:=g3.form
  exact⟨g1,q,n,cc,g2,g3⟩
 obtain⟨k1,k2,-⟩:=zAf h0
 have HWI:Hid (∀W q3 n3 c3 b0,Below w.heap.size w W→b0≤W.heap.size→DL W b0 (.slice q3 n3 c3) AL→Calls Tryz.prog 122 #[.agg #[.slice q1 n1 c1,.slice q2 n2 c2],.int .i64 s,.slice q3 n3 c3] W fun x w'=>∃u1 u2 m1 m2 d1 d2,x=.returned (.agg #[.slice u1 m1 d1,.slice u2 m2 d2])∧DL w' b0 (.slice u1 m1 d1) X1∧DL w' b0 (.slice u2 m2 d2) X2∧Below W.heap.size W w'):=fun W q3 n3 c3 b0 hW hb0 hd=>(zCJ s q1 q2 q3 n1 n2 n3 c1 c2 c3 bs ss AL b0 W (h1.below hW) (h2.below hW) hd hb0 k1 k2).mono fun x w' h=>by
  obtain⟨u1,u2,m1,m2,d1,d2,g1,g2,g3,g4⟩:=h
  rw[if_neg hs] at g2 g3
  exact⟨u1,u2,m1,m2,d1,d2,g1,by rw[hX1];exact g2,by rw[hX2,←hAL];exact g3,g4⟩
 have HC2:=fun W u1 u2 m1 m2 d1 d2 (g1:LS W (.slice u1 m1 d1) X1) (g2:LS W (.slice u2 m2 d2) X2)=>check_any u1 u2 m1 m2 d1 d2 X1 X2 W g1 g2
 rw[hb,errV_zero] at HC2
 have HOK:Hid (∀W u1 u2 m1 m2 d1 d2,Below w.heap.size w W→DL W w.heap.size (.slice u1 m1 d1) X1→DL W w.heap.size (.slice u2 m2 d2) X2→PutPostD bs ss s p ⟨a,b,c,d,e⟩ w (.returned (.tuple #[.agg #[.slice u1 m1 d1,.slice u2 m2 d2],.nilIface])) W):=fun W u1 u2 m1 m2 d1 d2 hW g1 g2=>by
  have hz:putE bs ss s p ⟨a,b,c,d,e⟩=0:=by rw[hE,←hX1,←hX2];exact hb
  exact⟨u1,u2,m1,m2,d1,d2,by rw[hz,errV_zero],by rw[if_pos hz,hP1,←hX1];exact g1,by rw[if_pos hz,hP2,←hX2];exact g2,hW⟩
 obtain⟨V,hV⟩:∃V,V=((w.alloc (.cells #[.slice q1 n1 c1,.slice q2 n2 c2] 46)).alloc (.cells #[.int .i64 a,.int .i64 b,.int .i64 c,.int .i64 d,.int .i64 e] 54)).alloc (.cells #[.slice none 0 0,.slice none 0 0] 46):=⟨_,rfl⟩
 have HB:Hid (Below w.heap.size w V):=by rw[hV];exact(((bzR _ _).alloc (nzR _) _).alloc (by simp) _).alloc (by simp;omega) _
 have v0:V.cell? ⟨w.heap.size,0,none⟩=some (.slice q1 n1 c1):=by rw[hV];simp[go_sem]
 have v1:V.cell? ⟨w.heap.size,1,none⟩=some (.slice q2 n2 c2):=by rw[hV];simp[go_sem]
 have r0:V.cell? ⟨w.heap.size+1,0,none⟩=some (.int .i64 a):=by rw[hV];simp[go_sem]
 have r1:V.cell? ⟨w.heap.size+1,1,none⟩=some (.int .i64 b):=by rw[hV];simp[go_sem]
 have r2:V.cell? ⟨w.heap.size+1,2,none⟩=some (.int .i64 c):=by rw[hV];simp[go_sem]
 have r3:V.cell? ⟨w.heap.size+1,3,none⟩=some (.int .i64 d):=by rw[hV];simp[go_sem]
 have r4:V.cell? ⟨w.heap.size+1,4,none⟩=some (.int .i64 e):=by rw[hV];simp[go_sem]
 have hR:V.heap[w.heap.size+2]?=some (.cells #[.slice none 0 0,.slice none 0 0] 46 (0,0)):=by
  rw[hV]
  have:=jA ((w.alloc (.cells #[.slice q1 n1 c1,.slice q2 n2 c2] 46)).alloc (.cells #[.int .i64 a,.int .i64 b,.int .i64 c,.int .i64 d,.int .i64 e] 54)) (.cells #[.slice none 0 0,.slice none 0 0] 46)
  simpa using this
 have hVs:w.heap.size+2<V.heap.size:=(gzE.1 hR).1
 generalize PutPostD bs ss s p ⟨a,b,c,d,e⟩ w=POST at *
 clear h0 h1 h2 ha hAL hX1 hX2 hP1 hP2 hE hb k1 k2
 go_enter Tryz.func94,Tryz.ntmps94
 go_wp2_with fail
 rw[←hV]
 refine(HCH V HB.out).mono ?_
 rintro x w1⟨rfl,b1⟩
 have HB1:Hid (Below w.heap.size w w1):=HB.out.trans (b1.mono HB.out.size)
 have hR1:w1.heap[w.heap.size+2]?=some (.cells #[.slice none 0 0,.slice none 0 0] 46 (0,0)):=by rw[b1.block _ hVs];exact hR
 have x0:=zAa b1 v0
 have x1:=zAa b1 v1
 have y0:=zAa b1 r0
 have y1:=zAa b1 r1
 have y2:=zAa b1 r2
 have y3:=zAa b1 r3
 have y4:=zAa b1 r4
 have hs1:w.heap.size+2<w1.heap.size:=jC hVs b1.size
 have HLV:Hid (∀W,Below w1.heap.size w1 W→Calls Tryz.prog 61 #[.agg #[.slice q1 n1 c1,.slice q2 n2 c2],.int .i64 s] W fun e w'=>e=.returned (.slice q2 n2 c2)∧Below w1.heap.size w1 w'):=fun W hW=>by
  have:=zAv s q1 q2 n1 n2 c1 c2 W
  rw[if_neg hs] at this
  exact this.mono fun e w' h=>⟨h.1,hW.trans (h.2.mono hW.size)⟩
 have HAD2:Hid (∀W,Below w1.heap.size w1 W→Calls Tryz.prog 121 #[.int .i64 s,.slice q2 n2 c2,.int .i64 p,.agg #[.int .i64 a,.int .i64 b,.int .i64 c,.int .i64 d,.int .i64 e]] W fun x w'=>Below w1.heap.size w1 w'∧∃q n cc,x=.returned (.tuple #[.slice q n cc,.nilIface])∧DL w' w1.heap.size (.slice q n cc) AL):=fun W hW=>(HAD.out W (HB1.out.trans (hW.mono HB1.out.size))).mono fun x w' h=>by obtain⟨g1,q,n,cc,g2,g3⟩:=h;exact⟨hW.trans (g1.mono hW.size),q,n,cc,g2,g3.mono hW.size⟩
 have SO:Hid (∀W,Below w1.heap.size w1 W→(Below w1.heap.size w1 W∧W.cell? ⟨w.heap.size,0,none⟩=some (.slice q1 n1 c1)∧W.cell? ⟨w.heap.size,1,none⟩=some (.slice q2 n2 c2)∧W.cell? ⟨w.heap.size+1,0,none⟩=some (.int .i64 a)∧W.cell? ⟨w.heap.size+1,1,none⟩=some (.int .i64 b)∧W.cell? ⟨w.heap.size+1,2,none⟩=some (.int .i64 c)∧W.cell? ⟨w.heap.size+1,3,none⟩=some (.int .i64 d)∧W.cell? ⟨w.heap.size+1,4,none⟩=some (.int .i64 e))):=fun W hW=>⟨hW,zAa hW x0,zAa hW x1,zAa hW y0,zAa hW y1,zAa hW y2,zAa hW y3,zAa hW y4⟩
 clear b1 HCH v0 v1 r0 r1 r2 r3 r4 hR HAD
 go_upto_region 4 with fail
 go_region_held3 (fun W=>Below w1.heap.size w1 W∧W.cell? ⟨w.heap.size,0,none⟩=some (.slice q1 n1 c1)∧W.cell? ⟨w.heap.size,1,none⟩=some (.slice q2 n2 c2)∧W.cell? ⟨w.heap.size+1,0,none⟩=some (.int .i64 a)∧W.cell? ⟨w.heap.size+1,1,none⟩=some (.int .i64 b)∧W.cell? ⟨w.heap.size+1,2,none⟩=some (.int .i64 c)∧W.cell? ⟨w.heap.size+1,3,none⟩=some (.int .i64 d)∧W.cell? ⟨w.heap.size+1,4,none⟩=some (.int .i64 e))
  ((refine SO.out _ ?_;(with_reducible repeat' (first|assumption|refine bal ?_ _|refine Below.setCell ?_ ?_ _|refine Below.drew ?_|exact bzR _ _|exact nzR _|exact Below.size (by assumption)|refine jD ?_))))
  (first|(go_at_call 61;with_reducible refine(HLV.out _ ?_).mono ?_;(with_reducible repeat' (first|assumption|refine bal ?_ _|refine Below.setCell ?_ ?_ _|refine Below.drew ?_|exact bzR _ _|exact nzR _|exact Below.size (by assumption)|refine jD ?_));rintro x W ⟨rfl,hbn⟩)|(go_at_call 121;with_reducible refine(HAD2.out _ ?_).mono ?_;(with_reducible repeat' (first|assumption|refine bal ?_ _|refine Below.setCell ?_ ?_ _|refine Below.drew ?_|exact bzR _ _|exact nzR _|exact Below.size (by assumption)|refine jD ?_));rintro x W ⟨hbn,q3,n3,c3,rfl,hL3⟩))
 have HB2:Hid (Below w.heap.size w W):=HB1.out.trans (hbn.mono HB1.out.size)
 have HBN:Hid (Below w1.heap.size w1 W):=hbn
 have HL3:Hid (DL W w1.heap.size (.slice q3 n3 c3) AL):=hL3
 have x0':=zAa hbn x0
 have x1':=zAa hbn x1
 have hs2:w.heap.size+2<W.heap.size:=jC hs1 hbn.size
 clear hbn hL3 SO HLV HAD2 x0 x1 y0 y1 y2 y3 y4
 go_wp2_with fail
 refine(HWI.out W q3 n3 c3 w1.heap.size HB2.out HBN.out.size HL3.out).mono ?_
 rintro x w3⟨u1,u2,m1,m2,d1,d2,rfl,hA,hB',b3⟩
 have HB3:Hid (Below w1.heap.size w1 w3):=HBN.out.trans (b3.mono HBN.out.size)
 have HA:Hid (DL w3 w1.heap.size (.slice u1 m1 d1) X1):=hA
 have HBB:Hid (DL w3 w1.heap.size (.slice u2 m2 d2) X2):=hB'
 clear hA hB' b3 HWI x0' x1'
 go_wp2_with fail
 have hR4:=jA w3 (.cells #[.slice u1 m1 d1,.slice u2 m2 d2] 46)
 have hA4:Below w3.heap.size w3 (w3.alloc (.cells #[.slice u1 m1 d1,.slice u2 m2 d2] 46)):=(bzR _ _).alloc (nzR _) _
 generalize w3.alloc (.cells #[.slice u1 m1 d1,.slice u2 m2 d2] 46)=V4 at *
 have HA4:Hid (DL V4 w1.heap.size (.slice u1 m1 d1) X1):=HA.out.below hA4
 have HB4:Hid (DL V4 w1.heap.size (.slice u2 m2 d2) X2):=HBB.out.below hA4
 have HV4:Hid (Below w1.heap.size w1 V4):=HB3.out.trans (hA4.mono HB3.out.size)
 obtain⟨z0,z1,-⟩:=zAb hR4
 have hz4:w3.heap.size<V4.heap.size:=(gzE.1 hR4).1
 clear hA4 hR4
 generalize w3.heap.size=B4 at *
 refine(HC2 V4 u1 u2 m1 m2 d1 d2 HA4.out.ls HB4.out.ls).mono ?_
 rintro x w5⟨rfl,b5⟩
 have HV5:Hid (Below w1.heap.size w1 w5):=HV4.out.trans (b5.mono HV4.out.size)
 have HBW:Hid (Below w.heap.size w w5):=HB1.out.trans (HV5.out.mono HB1.out.size)
 have HA5:Hid (DL w5 w1.heap.size (.slice u1 m1 d1) X1):=HA4.out.below b5
 have HB5:Hid (DL w5 w1.heap.size (.slice u2 m2 d2) X2):=HB4.out.below b5
 have hRW:w5.heap[w.heap.size+2]?=some (.cells #[.slice none 0 0,.slice none 0 0] 46 (0,0)):=by rw[HV5.out.block _ hs1];exact hR1
 have t0:=zAa b5 z0
 have t1:=zAa b5 z1
 have hs5:B4<w5.heap.size:=jC hz4 b5.size
 have hs6:w.heap.size+2<w5.heap.size:=jC hs1 HV5.out.size
 clear b5 HC2 z0 z1 hR1
 obtain⟨g0,g1,hf⟩:=zAb hRW
 have f0:=hf 0
 have f1:=hf 1
 have hg:=zAN w5 (w.heap.size+2) (.slice u1 m1 d1) (.slice u2 m2 d2)
 have HPX:=HOK.out _ u1 u2 m1 m2 d1 d2 (HBW.out.grown hg HBW.out.size (fun k hk=>by cases hk;omega)) ((DL.other HA5.out hg hs1).mono HB1.out.size) ((DL.other HB5.out hg hs1).mono HB1.out.size)
 have HHX:Hid (((w5.setCell ⟨w.heap.size+2,0,none⟩ (.slice u1 m1 d1)).setCell ⟨w.heap.size+2,1,none⟩ (.slice u2 m2 d2)).heap[w.heap.size+2]?=some (.cells #[.slice u1 m1 d1,.slice u2 m2 d2] 46 (0,0))):=zAw hRW _ _
 clear hf hg HOK hRW
 go_wp2_with fail
 generalize ((w5.setCell ⟨w.heap.size+2,0,none⟩ (.slice u1 m1 d1)).setCell ⟨w.heap.size+2,1,none⟩ (.slice u2 m2 d2))=X at *
 obtain⟨y0,y1,-⟩:=zAb HHX.out
 exact jN (v:=.tuple #[.agg #[.slice u1 m1 d1,.slice u2 m2 d2],.nilIface]) (by simp[results,Tryz.results94,go_sem,y0,y1]) rfl HPX
theorem zNK(s p:Int)(q1 q2:Option Addr)(n1 n2 c1 c2:Nat)(a b c d e:Int)(bs ss:List L)(w:World)(h1:LS w (.slice q1 n1 c1) bs)(h2:LS w (.slice q2 n2 c2) ss) :
  Calls Tryz.prog 94 #[.agg #[.slice q1 n1 c1,.slice q2 n2 c2],.int .i64 s,.int .i64 p,.agg #[.int .i64 a,.int .i64 b,.int .i64 c,.int .i64 d,.int .i64 e]] w fun x w'=>PutPostD bs ss s p ⟨a,b,c,d,e⟩ w x w':=by
 by_cases h0:zAd bs ss=0
 ·by_cases hs:s=1
  ·subst hs
   by_cases ha:addE 1 bs p ⟨a,b,c,d,e⟩=0
   ·by_cases hb:zAd (putL 1 p ⟨a,b,c,d,e⟩ bs) ss=0
    ·exact zPP p q1 q2 n1 n2 c1 c2 a b c d e bs ss w h1 h2 h0 ha hb
    ·exact zNI p q1 q2 n1 n2 c1 c2 a b c d e bs ss w h1 h2 h0 ha hb
   ·exact zNG p q1 q2 n1 n2 c1 c2 a b c d e bs ss w h1 h2 h0 ha
  ·by_cases ha:addE s ss p ⟨a,b,c,d,e⟩=0
   ·by_cases hb:zAd bs (putL s p ⟨a,b,c,d,e⟩ ss)=0
    ·exact zPQ s p q1 q2 n1 n2 c1 c2 a b c d e bs ss w h1 h2 hs h0 ha hb
    ·exact zNJ s p q1 q2 n1 n2 c1 c2 a b c d e bs ss w h1 h2 hs h0 ha hb
   ·exact zNH s p q1 q2 n1 n2 c1 c2 a b c d e bs ss w h1 h2 hs h0 ha
 ·exact zNF s p q1 q2 n1 n2 c1 c2 a b c d e bs ss w h1 h2 h0
end bok
end Go.Proofs.YtifjhlgjgnnnpaaGreat
