import Derived.Test.YtifjhlgjgnnnpaaGreatBokFind
import Derived.Test.YtifjhlgjgnnnpaaGreatBokWith
set_option maxHeartbeats 4000000
set_option maxRecDepth 100000
namespace Go.Proofs.YtifjhlgjgnnnpaaGreat
namespace bok
open Go.RowKit spn que sid
theorem zEj(q1 q2:Option Addr)(n1 n2 c1 c2:Nat)(bs ss:List L)(id:Int)(hid:(Lit.int .i64 id).wf=true)(i k:Nat)(w:World)(h1:LS w (.slice q1 n1 c1) bs)(h2:LS w (.slice q2 n2 c2) ss)(h0:zAd bs ss=0)(hi:i<bs.length)(hk:k<bs[i].rests.length)(hfe:zAE 1 bs id=0)(hfp:zBk 1 bs id=((i:Int),(k:Int))) :
  Calls Tryz.prog 106 #[.agg #[.slice q1 n1 c1,.slice q2 n2 c2],.int .i64 id] w fun e w'=>∃u1 u2 m1 m2 d1 d2,e=.returned (.tuple #[.agg #[.slice u1 m1 d1,.slice u2 m2 d2],.agg (rV bs[i].rests[k]).toArray,.nilIface])∧DL w' w.heap.size (.slice u1 m1 d1) (zBq bs i k)∧DL w' w.heap.size (.slice u2 m2 d2) (ss)∧Below w.heap.size w w':=by
 have hfv:zBj 1 bs id=.tuple #[.int .i64 i,.int .i64 k,.nilIface]:=by unfold zBj;rw[hfp,hfe,errV_zero]
 have HFI:=fun W(hW:Below w.heap.size w W)=>zFe q1 q2 n1 n2 c1 c2 bs ss id hid i k W (h1.below hW) (h2.below hW) h0 hi hk hfv
 obtain⟨r,hr⟩:∃r,bs[i].rests[k]=r:=⟨_,rfl⟩
 obtain⟨p,hp⟩:∃p,bs[i].price=p:=⟨_,rfl⟩
 have HDR:Hid (∀W,Below w.heap.size w W→Calls Tryz.prog 130 #[.int .i64 1,.slice q1 n1 c1,.int .i64 id] W fun x w'=>Below W.heap.size W w'∧∃q m c,x=.returned (.tuple #[.slice q m c,.agg (rV r).toArray,.int .i64 p,.nilIface])∧DL w' W.heap.size (.slice q m c) (zBq bs i k)):=fun W hW=>(zHR 1 _ bs id W (h1.below hW) hid).mono fun x w' h=>by
  obtain⟨g1,v',g2,g3⟩:=h
  unfold zDf zCx at g2
  unfold zKQ at g3
  rw[if_pos hfe,if_pos hfe,hfe,hfp,errV_zero] at g2
  rw[if_pos hfe,hfp] at g3
  simp only[Int.toNat_natCast] at g2 g3
  rw[getE _ _ hi,getE _ _ hk,hr,hp] at g2
  obtain⟨q,m,c,rfl⟩:=g3.form
  exact⟨g1,q,m,c,g2,g3⟩
 rw[hr] at HFI ⊢
 rw[hp] at HFI
 obtain⟨ee1,ee2,-⟩:=zAf h0
 obtain⟨X1,hX1⟩:∃X1,X1=zBq bs i k:=⟨_,rfl⟩
 obtain⟨X2,hX2⟩:∃X2,X2=ss:=⟨_,rfl⟩
 obtain⟨DD,hDD⟩:∃DD,DD=zBq bs i k:=⟨_,rfl⟩
 rw[←hX1,←hX2]
 rw[←hDD] at HDR
 have HWI:Hid (∀W q3 n3 c3 b0,Below w.heap.size w W→b0≤W.heap.size→DL W b0 (.slice q3 n3 c3) DD→Calls Tryz.prog 122 #[.agg #[.slice q1 n1 c1,.slice q2 n2 c2],.int .i64 1,.slice q3 n3 c3] W fun x w'=>∃u1 u2 m1 m2 d1 d2,x=.returned (.agg #[.slice u1 m1 d1,.slice u2 m2 d2])∧DL w' b0 (.slice u1 m1 d1) X1∧DL w' b0 (.slice u2 m2 d2) X2∧Below W.heap.size W w'):=fun W q3 n3 c3 b0 hW hb0 hd=>(zCJ 1 q1 q2 q3 n1 n2 n3 c1 c2 c3 bs ss DD b0 W (h1.below hW) (h2.below hW) hd hb0 ee1 ee2).mono fun x w' h=>by
  obtain⟨u1,u2,m1,m2,d1,d2,g1,g2,g3,g4⟩:=h
  rw[if_pos rfl] at g2 g3
  exact⟨u1,u2,m1,m2,d1,d2,g1,by rw[hX1,←hDD];exact g2,by rw[hX2];exact g3,g4⟩
 obtain⟨r1,r2,r3,r4,r5⟩:=r
 simp only[show (rV ⟨r1,r2,r3,r4,r5⟩).toArray=#[.int .i64 r1,.int .i64 r2,.int .i64 r3,.int .i64 r4,.int .i64 r5] from rfl] at HFI HDR ⊢
 obtain⟨V,hV⟩:∃V,V=((w.alloc (.cells #[.slice q1 n1 c1,.slice q2 n2 c2] 46)).alloc (.cells #[.slice none 0 0,.slice none 0 0] 46)).alloc (.cells #[.int .i64 0,.int .i64 0,.int .i64 0,.int .i64 0,.int .i64 0] 54):=⟨_,rfl⟩
 have HB:Hid (Below w.heap.size w V):=by rw[hV];exact(((bzR _ _).alloc (nzR _) _).alloc (by simp) _).alloc (by simp;omega) _
 have v0:V.cell? ⟨w.heap.size,0,none⟩=some (.slice q1 n1 c1):=by rw[hV];simp[go_sem]
 have v1:V.cell? ⟨w.heap.size,1,none⟩=some (.slice q2 n2 c2):=by rw[hV];simp[go_sem]
 have hR1:V.heap[w.heap.size+1]?=some (.cells #[.slice none 0 0,.slice none 0 0] 46 (0,0)):=by
  rw[hV,Below.heap_alloc _ _ _ (by simp)]
  have:=jA (w.alloc (.cells #[.slice q1 n1 c1,.slice q2 n2 c2] 46)) (.cells #[.slice none 0 0,.slice none 0 0] 46)
  simpa using this
 have hR2:V.heap[w.heap.size+1+1]?=some (.cells #[.int .i64 0,.int .i64 0,.int .i64 0,.int .i64 0,.int .i64 0] 54 (0,0)):=by
  rw[hV]
  have:=jA ((w.alloc (.cells #[.slice q1 n1 c1,.slice q2 n2 c2] 46)).alloc (.cells #[.slice none 0 0,.slice none 0 0] 46)) (.cells #[.int .i64 0,.int .i64 0,.int .i64 0,.int .i64 0,.int .i64 0] 54)
  simpa using this
 have hVs:w.heap.size+1+1<V.heap.size:=(gzE.1 hR2).1
 clear h1 h2 h0 hid hi hk hfe hfp hfv hr hp ee1 ee2 hX1 hX2 hDD
 go_enter Tryz.func106,Tryz.ntmps106
 go_wp2_with fail
 rw[←hV]
 refine(HFI V HB.out).mono ?_
 rintro x w1⟨rfl,b1⟩
 have x0:=zAa b1 v0
 have x1:=zAa b1 v1
 have H1:Hid (Below V.heap.size V w1):=b1
 have hs1:w.heap.size<w1.heap.size:=by have:=b1.size;omega
 clear b1 HFI v0 v1
 go_wp2_with fail
 have hA1:Below w1.heap.size w1 (w1.alloc (.cells #[.int .i64 r1,.int .i64 r2,.int .i64 r3,.int .i64 r4,.int .i64 r5] 54)):=(bzR _ _).alloc (nzR _) _
 have H2:Hid (Below V.heap.size V (w1.alloc (.cells #[.int .i64 r1,.int .i64 r2,.int .i64 r3,.int .i64 r4,.int .i64 r5] 54))):=H1.out.trans (hA1.mono H1.out.size)
 have y0:=zAa hA1 x0
 have y1:=zAa hA1 x1
 generalize w1.alloc (.cells #[.int .i64 r1,.int .i64 r2,.int .i64 r3,.int .i64 r4,.int .i64 r5] 54)=V2 at *
 have hs2:w.heap.size<V2.heap.size:=jC hs1 hA1.size
 clear hA1 x0 x1
 refine(zAv 1 q1 q2 n1 n2 c1 c2 V2).mono ?_
 rintro x w2⟨rfl,b2⟩
 rw[show (if (1:Int)=1 then Value.slice q1 n1 c1 else .slice q2 n2 c2)=.slice q1 n1 c1 from rfl]
 have H3:Hid (Below V.heap.size V w2):=H2.out.trans (b2.mono H2.out.size)
 have hs3:w.heap.size<w2.heap.size:=jC hs2 b2.size
 have z0:=zAa b2 y0
 have z1:=zAa b2 y1
 clear b2 y0 y1
 go_wp2_with fail
 refine(HDR.out w2 (HB.out.trans (H3.out.mono HB.out.size))).mono ?_
 rintro x w3⟨b3,q3,n3,c3,rfl,hD3⟩
 have H4:Hid (Below V.heap.size V w3):=H3.out.trans (b3.mono H3.out.size)
 have HD3:Hid (DL w3 V.heap.size (.slice q3 n3 c3) DD):=hD3.mono H3.out.size
 have hs4:w.heap.size<w3.heap.size:=jC hs3 b3.size
 have t0:=zAa b3 z0
 have t1:=zAa b3 z1
 clear b3 hD3 HDR z0 z1
 have hA3:Below w3.heap.size w3 (w3.alloc (.cells #[.int .i64 r1,.int .i64 r2,.int .i64 r3,.int .i64 r4,.int .i64 r5] 54)):=(bzR _ _).alloc (nzR _) _
 have hR3:=jA w3 (.cells #[.int .i64 r1,.int .i64 r2,.int .i64 r3,.int .i64 r4,.int .i64 r5] 54)
 go_upto_region 7 with fail
 generalize w3.alloc (.cells #[.int .i64 r1,.int .i64 r2,.int .i64 r3,.int .i64 r4,.int .i64 r5] 54)=V3 at *
 have HV3:Hid (Below V.heap.size V V3):=H4.out.trans (hA3.mono H4.out.size)
 have HD4:Hid (DL V3 V.heap.size (.slice q3 n3 c3) DD):=HD3.out.below hA3
 obtain⟨e0,e1,e2,e3,e4,-⟩:=zAe hR3
 have s0:=zAa hA3 t0
 have s1:=zAa hA3 t1
 have hB12:V.heap.size≤w3.heap.size:=H4.out.size
 have hw3:w3.heap.size<V3.heap.size:=(gzE.1 hR3).1
 have hsV:w.heap.size<V3.heap.size:=jC hs4 hA3.size
 clear hA3 hR3 t0 t1
 generalize w3.heap.size=B12 at *
 have HROW:Hid (∀W,Below V3.heap.size V3 W→W.heap[w.heap.size+1]?=some (.cells #[.slice none 0 0,.slice none 0 0] 46 (0,0))∧W.heap[w.heap.size+1+1]?=some (.cells #[.int .i64 0,.int .i64 0,.int .i64 0,.int .i64 0,.int .i64 0] 54 (0,0))):=fun W hW=>by
  have hb:=HV3.out.trans (hW.mono HV3.out.size)
  exact⟨by rw[hb.block _ (by omega)];exact hR1,by rw[hb.block _ hVs];exact hR2⟩
 have HWJ:Hid (∀W,Below V3.heap.size V3 W→Calls Tryz.prog 122 #[.agg #[.slice q1 n1 c1,.slice q2 n2 c2],.int .i64 1,.slice q3 n3 c3] W fun x w'=>∃u1 u2 m1 m2 d1 d2,x=.returned (.agg #[.slice u1 m1 d1,.slice u2 m2 d2])∧DL w' V.heap.size (.slice u1 m1 d1) X1∧DL w' V.heap.size (.slice u2 m2 d2) X2∧Below V3.heap.size V3 w'):=fun W hW=>by
  have hb:=HV3.out.trans (hW.mono HV3.out.size)
  exact(HWI.out W q3 n3 c3 V.heap.size (HB.out.trans (hb.mono HB.out.size)) hb.size (HD4.out.below hW)).mono fun x w' h=>by
   obtain⟨u1,u2,m1,m2,d1,d2,g1,g2,g3,g4⟩:=h
   exact⟨u1,u2,m1,m2,d1,d2,g1,g2,g3,hW.trans (g4.mono hW.size)⟩
 have SO:Hid (∀W,Below V3.heap.size V3 W→(W.cell? ⟨w.heap.size,0,none⟩=some (.slice q1 n1 c1)∧W.cell? ⟨w.heap.size,1,none⟩=some (.slice q2 n2 c2)∧W.cell? ⟨B12,0,none⟩=some (.int .i64 r1)∧W.cell? ⟨B12,1,none⟩=some (.int .i64 r2)∧W.cell? ⟨B12,2,none⟩=some (.int .i64 r3)∧W.cell? ⟨B12,3,none⟩=some (.int .i64 r4)∧W.cell? ⟨B12,4,none⟩=some (.int .i64 r5))):=fun W hW=>⟨zAa hW s0,zAa hW s1,zAa hW e0,zAa hW e1,zAa hW e2,zAa hW e3,zAa hW e4⟩
 have SK1:Hid (∀ (W:World) (j:Nat) (v:Value),(W.cell? ⟨w.heap.size,0,none⟩=some (.slice q1 n1 c1)∧W.cell? ⟨w.heap.size,1,none⟩=some (.slice q2 n2 c2)∧W.cell? ⟨B12,0,none⟩=some (.int .i64 r1)∧W.cell? ⟨B12,1,none⟩=some (.int .i64 r2)∧W.cell? ⟨B12,2,none⟩=some (.int .i64 r3)∧W.cell? ⟨B12,3,none⟩=some (.int .i64 r4)∧W.cell? ⟨B12,4,none⟩=some (.int .i64 r5))→((W.setCell ⟨w.heap.size+1,j,none⟩ v).cell? ⟨w.heap.size,0,none⟩=some (.slice q1 n1 c1)∧(W.setCell ⟨w.heap.size+1,j,none⟩ v).cell? ⟨w.heap.size,1,none⟩=some (.slice q2 n2 c2)∧(W.setCell ⟨w.heap.size+1,j,none⟩ v).cell? ⟨B12,0,none⟩=some (.int .i64 r1)∧(W.setCell ⟨w.heap.size+1,j,none⟩ v).cell? ⟨B12,1,none⟩=some (.int .i64 r2)∧(W.setCell ⟨w.heap.size+1,j,none⟩ v).cell? ⟨B12,2,none⟩=some (.int .i64 r3)∧(W.setCell ⟨w.heap.size+1,j,none⟩ v).cell? ⟨B12,3,none⟩=some (.int .i64 r4)∧(W.setCell ⟨w.heap.size+1,j,none⟩ v).cell? ⟨B12,4,none⟩=some (.int .i64 r5))):=fun W j v h=>by
  have hne:∀ (a b x:Nat),a≠b→(W.setCell ⟨b,j,none⟩ v).cell? ⟨a,x,none⟩=W.cell? ⟨a,x,none⟩:=fun a b x hab=>World.cell?_setCell_other _ _ _ _ (fun e=>hab (by cases e;rfl))
  simp only[hne _ _ _ (show w.heap.size≠w.heap.size+1 by omega),hne _ _ _ (show B12≠w.heap.size+1 by omega)]
  exact h
 have SK2:Hid (∀ (W:World) (j:Nat) (v:Value),(W.cell? ⟨w.heap.size,0,none⟩=some (.slice q1 n1 c1)∧W.cell? ⟨w.heap.size,1,none⟩=some (.slice q2 n2 c2)∧W.cell? ⟨B12,0,none⟩=some (.int .i64 r1)∧W.cell? ⟨B12,1,none⟩=some (.int .i64 r2)∧W.cell? ⟨B12,2,none⟩=some (.int .i64 r3)∧W.cell? ⟨B12,3,none⟩=some (.int .i64 r4)∧W.cell? ⟨B12,4,none⟩=some (.int .i64 r5))→((W.setCell ⟨w.heap.size+1+1,j,none⟩ v).cell? ⟨w.heap.size,0,none⟩=some (.slice q1 n1 c1)∧(W.setCell ⟨w.heap.size+1+1,j,none⟩ v).cell? ⟨w.heap.size,1,none⟩=some (.slice q2 n2 c2)∧(W.setCell ⟨w.heap.size+1+1,j,none⟩ v).cell? ⟨B12,0,none⟩=some (.int .i64 r1)∧(W.setCell ⟨w.heap.size+1+1,j,none⟩ v).cell? ⟨B12,1,none⟩=some (.int .i64 r2)∧(W.setCell ⟨w.heap.size+1+1,j,none⟩ v).cell? ⟨B12,2,none⟩=some (.int .i64 r3)∧(W.setCell ⟨w.heap.size+1+1,j,none⟩ v).cell? ⟨B12,3,none⟩=some (.int .i64 r4)∧(W.setCell ⟨w.heap.size+1+1,j,none⟩ v).cell? ⟨B12,4,none⟩=some (.int .i64 r5))):=fun W j v h=>by
  have hne:∀ (a b x:Nat),a≠b→(W.setCell ⟨b,j,none⟩ v).cell? ⟨a,x,none⟩=W.cell? ⟨a,x,none⟩:=fun a b x hab=>World.cell?_setCell_other _ _ _ _ (fun e=>hab (by cases e;rfl))
  simp only[hne _ _ _ (show w.heap.size≠w.heap.size+1+1 by omega),hne _ _ _ (show B12≠w.heap.size+1+1 by omega)]
  exact h
 clear HWI hR1 hR2 HD3 H1 H2 H3 H4 HD4
 go_region_held3 (fun W=>W.cell? ⟨w.heap.size,0,none⟩=some (.slice q1 n1 c1)∧W.cell? ⟨w.heap.size,1,none⟩=some (.slice q2 n2 c2)∧W.cell? ⟨B12,0,none⟩=some (.int .i64 r1)∧W.cell? ⟨B12,1,none⟩=some (.int .i64 r2)∧W.cell? ⟨B12,2,none⟩=some (.int .i64 r3)∧W.cell? ⟨B12,3,none⟩=some (.int .i64 r4)∧W.cell? ⟨B12,4,none⟩=some (.int .i64 r5))
  (first|with_reducible assumption|(refine SO.out _ ?_;(with_reducible repeat' (first|assumption|refine bal ?_ _|refine Below.setCell ?_ ?_ _|refine Below.drew ?_|exact bzR _ _|exact nzR _|exact Below.size (by assumption)|refine jD ?_));done)|(with_reducible repeat' (first|assumption|refine SK1.out _ _ _ ?_|refine SK2.out _ _ _ ?_)))
  (first|(go_at_call 122;with_reducible refine(HWJ.out _ ?_).mono ?_;(with_reducible repeat' (first|assumption|refine bal ?_ _|refine Below.setCell ?_ ?_ _|refine Below.drew ?_|exact bzR _ _|exact nzR _|exact Below.size (by assumption)|refine jD ?_));rintro x W ⟨u1,u2,m1,m2,d1,d2,rfl,hA,hBq,hbn⟩;have hSW:=SO.out W hbn;obtain⟨ra,rb⟩:=HROW.out W hbn;obtain⟨g0,g1,hfa⟩:=zAb ra;obtain⟨k0,k1,k2,k3,k4,hfb⟩:=zAe rb;have fa0:=hfa 0;have fa1:=hfa 1;have fb0:=hfb 0;have fb1:=hfb 1;have fb2:=hfb 2;have fb3:=hfb 3;have fb4:=hfb 4))
 have hbW:=HV3.out.trans (hbn.mono HV3.out.size)
 have hBW:Below w.heap.size w W:=HB.out.trans (hbW.mono HB.out.size)
 have hsW:w.heap.size+1+1<W.heap.size:=jC hVs hbW.size
 have gg1:=zAN W (w.heap.size+1) (.slice u1 m1 d1) (.slice u2 m2 d2)
 have gg2:=zBP ((W.setCell ⟨w.heap.size+1,0,none⟩ (.slice u1 m1 d1)).setCell ⟨w.heap.size+1,1,none⟩ (.slice u2 m2 d2)) (w.heap.size+1+1) (.int .i64 r1) (.int .i64 r2) (.int .i64 r3) (.int .i64 r4) (.int .i64 r5)
 have HX1:Hid ((((((((W.setCell ⟨w.heap.size+1,0,none⟩ (.slice u1 m1 d1)).setCell ⟨w.heap.size+1,1,none⟩ (.slice u2 m2 d2)).setCell ⟨w.heap.size+1+1,0,none⟩ (.int .i64 r1)).setCell ⟨w.heap.size+1+1,1,none⟩ (.int .i64 r2)).setCell ⟨w.heap.size+1+1,2,none⟩ (.int .i64 r3)).setCell ⟨w.heap.size+1+1,3,none⟩ (.int .i64 r4)).setCell ⟨w.heap.size+1+1,4,none⟩ (.int .i64 r5)).heap[w.heap.size+1]?=some (.cells #[.slice u1 m1 d1,.slice u2 m2 d2] 46 (0,0))):=by
  show _=_
  rw[gg2.block _ (jC (by omega) gg1.size) (fun e=>by simp at e)]
  exact zAw ra _ _
 have HX2:Hid ((((((((W.setCell ⟨w.heap.size+1,0,none⟩ (.slice u1 m1 d1)).setCell ⟨w.heap.size+1,1,none⟩ (.slice u2 m2 d2)).setCell ⟨w.heap.size+1+1,0,none⟩ (.int .i64 r1)).setCell ⟨w.heap.size+1+1,1,none⟩ (.int .i64 r2)).setCell ⟨w.heap.size+1+1,2,none⟩ (.int .i64 r3)).setCell ⟨w.heap.size+1+1,3,none⟩ (.int .i64 r4)).setCell ⟨w.heap.size+1+1,4,none⟩ (.int .i64 r5)).heap[w.heap.size+1+1]?=some (.cells #[.int .i64 r1,.int .i64 r2,.int .i64 r3,.int .i64 r4,.int .i64 r5] 54 (0,0))):=
  zAV (by rw[gg1.block _ hsW (fun e=>by simp at e)];exact rb) _ _ _ _ _
 have HLA:Hid (DL (((((((W.setCell ⟨w.heap.size+1,0,none⟩ (.slice u1 m1 d1)).setCell ⟨w.heap.size+1,1,none⟩ (.slice u2 m2 d2)).setCell ⟨w.heap.size+1+1,0,none⟩ (.int .i64 r1)).setCell ⟨w.heap.size+1+1,1,none⟩ (.int .i64 r2)).setCell ⟨w.heap.size+1+1,2,none⟩ (.int .i64 r3)).setCell ⟨w.heap.size+1+1,3,none⟩ (.int .i64 r4)).setCell ⟨w.heap.size+1+1,4,none⟩ (.int .i64 r5)) w.heap.size (.slice u1 m1 d1) X1∧DL (((((((W.setCell ⟨w.heap.size+1,0,none⟩ (.slice u1 m1 d1)).setCell ⟨w.heap.size+1,1,none⟩ (.slice u2 m2 d2)).setCell ⟨w.heap.size+1+1,0,none⟩ (.int .i64 r1)).setCell ⟨w.heap.size+1+1,1,none⟩ (.int .i64 r2)).setCell ⟨w.heap.size+1+1,2,none⟩ (.int .i64 r3)).setCell ⟨w.heap.size+1+1,3,none⟩ (.int .i64 r4)).setCell ⟨w.heap.size+1+1,4,none⟩ (.int .i64 r5)) w.heap.size (.slice u2 m2 d2) X2):=⟨(DL.other (DL.other hA gg1 (by omega)) gg2 hVs).mono (by omega),(DL.other (DL.other hBq gg1 (by omega)) gg2 hVs).mono (by omega)⟩
 have hB1:Below w.heap.size w ((W.setCell ⟨w.heap.size+1,0,none⟩ (.slice u1 m1 d1)).setCell ⟨w.heap.size+1,1,none⟩ (.slice u2 m2 d2)):=hBW.grown gg1 hBW.size (fun k hk=>by cases hk;omega)
 have hB2:Below w.heap.size w (((((((W.setCell ⟨w.heap.size+1,0,none⟩ (.slice u1 m1 d1)).setCell ⟨w.heap.size+1,1,none⟩ (.slice u2 m2 d2)).setCell ⟨w.heap.size+1+1,0,none⟩ (.int .i64 r1)).setCell ⟨w.heap.size+1+1,1,none⟩ (.int .i64 r2)).setCell ⟨w.heap.size+1+1,2,none⟩ (.int .i64 r3)).setCell ⟨w.heap.size+1+1,3,none⟩ (.int .i64 r4)).setCell ⟨w.heap.size+1+1,4,none⟩ (.int .i64 r5)):=hB1.grown gg2 hB1.size (fun k hk=>by cases hk;omega)
 have HBF:Hid (Below w.heap.size w (((((((W.setCell ⟨w.heap.size+1,0,none⟩ (.slice u1 m1 d1)).setCell ⟨w.heap.size+1,1,none⟩ (.slice u2 m2 d2)).setCell ⟨w.heap.size+1+1,0,none⟩ (.int .i64 r1)).setCell ⟨w.heap.size+1+1,1,none⟩ (.int .i64 r2)).setCell ⟨w.heap.size+1+1,2,none⟩ (.int .i64 r3)).setCell ⟨w.heap.size+1+1,3,none⟩ (.int .i64 r4)).setCell ⟨w.heap.size+1+1,4,none⟩ (.int .i64 r5))):=hB2
 clear hbW hBW hsW gg1 gg2 hB1 hB2 hA hBq hbn ra rb hSW HROW HWJ SO SK1 SK2 hfa hfb
 go_wp2_with fail
 generalize (((((((W.setCell ⟨w.heap.size+1,0,none⟩ (.slice u1 m1 d1)).setCell ⟨w.heap.size+1,1,none⟩ (.slice u2 m2 d2)).setCell ⟨w.heap.size+1+1,0,none⟩ (.int .i64 r1)).setCell ⟨w.heap.size+1+1,1,none⟩ (.int .i64 r2)).setCell ⟨w.heap.size+1+1,2,none⟩ (.int .i64 r3)).setCell ⟨w.heap.size+1+1,3,none⟩ (.int .i64 r4)).setCell ⟨w.heap.size+1+1,4,none⟩ (.int .i64 r5))=X at *
 obtain⟨y0,y1,-⟩:=zAb HX1.out
 obtain⟨z0,z1,z2,z3,z4,-⟩:=zAe HX2.out
 first|exact jN (v:=.tuple #[.agg #[.slice u1 m1 d1,.slice u2 m2 d2],.agg #[.int .i64 r1,.int .i64 r2,.int .i64 r3,.int .i64 r4,.int .i64 r5],.nilIface]) (by simp[results,Tryz.results106,go_sem,y0,y1,z0,z1,z2,z3,z4]) rfl ⟨u1,u2,m1,m2,d1,d2,rfl,HLA.out.1,HLA.out.2,HBF.out⟩|exact jN (v:=.tuple #[.agg #[.slice u1 m1 d1,.slice u2 m2 d2],.agg #[.int .i64 r1,.int .i64 r2,.int .i64 r3,.int .i64 r4,.int .i64 r5],.nilIface]) (by simp[results,Tryz.results106,go_sem,y0,y1,z0,z1,z2,z3,z4]) rfl ⟨u1,u2,m1,m2,d1,d2,rfl,HLA.out.1.below (bzR _ _).drew,HLA.out.2.below (bzR _ _).drew,HBF.out.drew⟩
theorem zEk(q1 q2:Option Addr)(n1 n2 c1 c2:Nat)(bs ss:List L)(id:Int)(hid:(Lit.int .i64 id).wf=true)(i k:Nat)(w:World)(h1:LS w (.slice q1 n1 c1) bs)(h2:LS w (.slice q2 n2 c2) ss)(h0:zAd bs ss=0)(hno:zAE 1 bs id=5)(hi:i<ss.length)(hk:k<ss[i].rests.length)(hfe:zAE 2 ss id=0)(hfp:zBk 2 ss id=((i:Int),(k:Int))) :
  Calls Tryz.prog 106 #[.agg #[.slice q1 n1 c1,.slice q2 n2 c2],.int .i64 id] w fun e w'=>∃u1 u2 m1 m2 d1 d2,e=.returned (.tuple #[.agg #[.slice u1 m1 d1,.slice u2 m2 d2],.agg (rV ss[i].rests[k]).toArray,.nilIface])∧DL w' w.heap.size (.slice u1 m1 d1) (bs)∧DL w' w.heap.size (.slice u2 m2 d2) (zBq ss i k)∧Below w.heap.size w w':=by
 have hfv:zBj 2 ss id=.tuple #[.int .i64 i,.int .i64 k,.nilIface]:=by unfold zBj;rw[hfp,hfe,errV_zero]
 have HFI:=fun W(hW:Below w.heap.size w W)=>zFf q1 q2 n1 n2 c1 c2 bs ss id hid i k W (h1.below hW) (h2.below hW) h0 hno hi hk hfv
 obtain⟨r,hr⟩:∃r,ss[i].rests[k]=r:=⟨_,rfl⟩
 obtain⟨p,hp⟩:∃p,ss[i].price=p:=⟨_,rfl⟩
 have HDR:Hid (∀W,Below w.heap.size w W→Calls Tryz.prog 130 #[.int .i64 2,.slice q2 n2 c2,.int .i64 id] W fun x w'=>Below W.heap.size W w'∧∃q m c,x=.returned (.tuple #[.slice q m c,.agg (rV r).toArray,.int .i64 p,.nilIface])∧DL w' W.heap.size (.slice q m c) (zBq ss i k)):=fun W hW=>(zHR 2 _ ss id W (h2.below hW) hid).mono fun x w' h=>by
  obtain⟨g1,v',g2,g3⟩:=h
  unfold zDf zCx at g2
  unfold zKQ at g3
  rw[if_pos hfe,if_pos hfe,hfe,hfp,errV_zero] at g2
  rw[if_pos hfe,hfp] at g3
  simp only[Int.toNat_natCast] at g2 g3
  rw[getE _ _ hi,getE _ _ hk,hr,hp] at g2
  obtain⟨q,m,c,rfl⟩:=g3.form
  exact⟨g1,q,m,c,g2,g3⟩
 rw[hr] at HFI ⊢
 rw[hp] at HFI
 obtain⟨ee1,ee2,-⟩:=zAf h0
 obtain⟨X1,hX1⟩:∃X1,X1=bs:=⟨_,rfl⟩
 obtain⟨X2,hX2⟩:∃X2,X2=zBq ss i k:=⟨_,rfl⟩
 obtain⟨DD,hDD⟩:∃DD,DD=zBq ss i k:=⟨_,rfl⟩
 rw[←hX1,←hX2]
 rw[←hDD] at HDR
 have HWI:Hid (∀W q3 n3 c3 b0,Below w.heap.size w W→b0≤W.heap.size→DL W b0 (.slice q3 n3 c3) DD→Calls Tryz.prog 122 #[.agg #[.slice q1 n1 c1,.slice q2 n2 c2],.int .i64 2,.slice q3 n3 c3] W fun x w'=>∃u1 u2 m1 m2 d1 d2,x=.returned (.agg #[.slice u1 m1 d1,.slice u2 m2 d2])∧DL w' b0 (.slice u1 m1 d1) X1∧DL w' b0 (.slice u2 m2 d2) X2∧Below W.heap.size W w'):=fun W q3 n3 c3 b0 hW hb0 hd=>(zCJ 2 q1 q2 q3 n1 n2 n3 c1 c2 c3 bs ss DD b0 W (h1.below hW) (h2.below hW) hd hb0 ee1 ee2).mono fun x w' h=>by
  obtain⟨u1,u2,m1,m2,d1,d2,g1,g2,g3,g4⟩:=h
  rw[if_neg (by decide)] at g2 g3
  exact⟨u1,u2,m1,m2,d1,d2,g1,by rw[hX1];exact g2,by rw[hX2,←hDD];exact g3,g4⟩
 obtain⟨r1,r2,r3,r4,r5⟩:=r
 simp only[show (rV ⟨r1,r2,r3,r4,r5⟩).toArray=#[.int .i64 r1,.int .i64 r2,.int .i64 r3,.int .i64 r4,.int .i64 r5] from rfl] at HFI HDR ⊢
 obtain⟨V,hV⟩:∃V,V=((w.alloc (.cells #[.slice q1 n1 c1,.slice q2 n2 c2] 46)).alloc (.cells #[.slice none 0 0,.slice none 0 0] 46)).alloc (.cells #[.int .i64 0,.int .i64 0,.int .i64 0,.int .i64 0,.int .i64 0] 54):=⟨_,rfl⟩
 have HB:Hid (Below w.heap.size w V):=by rw[hV];exact(((bzR _ _).alloc (nzR _) _).alloc (by simp) _).alloc (by simp;omega) _
 have v0:V.cell? ⟨w.heap.size,0,none⟩=some (.slice q1 n1 c1):=by rw[hV];simp[go_sem]
 have v1:V.cell? ⟨w.heap.size,1,none⟩=some (.slice q2 n2 c2):=by rw[hV];simp[go_sem]
 have hR1:V.heap[w.heap.size+1]?=some (.cells #[.slice none 0 0,.slice none 0 0] 46 (0,0)):=by
  rw[hV,Below.heap_alloc _ _ _ (by simp)]
  have:=jA (w.alloc (.cells #[.slice q1 n1 c1,.slice q2 n2 c2] 46)) (.cells #[.slice none 0 0,.slice none 0 0] 46)
  simpa using this
 have hR2:V.heap[w.heap.size+1+1]?=some (.cells #[.int .i64 0,.int .i64 0,.int .i64 0,.int .i64 0,.int .i64 0] 54 (0,0)):=by
  rw[hV]
  have:=jA ((w.alloc (.cells #[.slice q1 n1 c1,.slice q2 n2 c2] 46)).alloc (.cells #[.slice none 0 0,.slice none 0 0] 46)) (.cells #[.int .i64 0,.int .i64 0,.int .i64 0,.int .i64 0,.int .i64 0] 54)
  simpa using this
 have hVs:w.heap.size+1+1<V.heap.size:=(gzE.1 hR2).1
 clear h1 h2 h0 hid hi hk hfe hfp hfv hr hp ee1 ee2 hX1 hX2 hDD hno
 go_enter Tryz.func106,Tryz.ntmps106
 go_wp2_with fail
 rw[←hV]
 refine(HFI V HB.out).mono ?_
 rintro x w1⟨rfl,b1⟩
 have x0:=zAa b1 v0
 have x1:=zAa b1 v1
 have H1:Hid (Below V.heap.size V w1):=b1
 have hs1:w.heap.size<w1.heap.size:=by have:=b1.size;omega
 clear b1 HFI v0 v1
 go_wp2_with fail
 have hA1:Below w1.heap.size w1 (w1.alloc (.cells #[.int .i64 r1,.int .i64 r2,.int .i64 r3,.int .i64 r4,.int .i64 r5] 54)):=(bzR _ _).alloc (nzR _) _
 have H2:Hid (Below V.heap.size V (w1.alloc (.cells #[.int .i64 r1,.int .i64 r2,.int .i64 r3,.int .i64 r4,.int .i64 r5] 54))):=H1.out.trans (hA1.mono H1.out.size)
 have y0:=zAa hA1 x0
 have y1:=zAa hA1 x1
 generalize w1.alloc (.cells #[.int .i64 r1,.int .i64 r2,.int .i64 r3,.int .i64 r4,.int .i64 r5] 54)=V2 at *
 have hs2:w.heap.size<V2.heap.size:=jC hs1 hA1.size
 clear hA1 x0 x1
 refine(zAv 2 q1 q2 n1 n2 c1 c2 V2).mono ?_
 rintro x w2⟨rfl,b2⟩
 rw[show (if (2:Int)=1 then Value.slice q1 n1 c1 else .slice q2 n2 c2)=.slice q2 n2 c2 from rfl]
 have H3:Hid (Below V.heap.size V w2):=H2.out.trans (b2.mono H2.out.size)
 have hs3:w.heap.size<w2.heap.size:=jC hs2 b2.size
 have z0:=zAa b2 y0
 have z1:=zAa b2 y1
 clear b2 y0 y1
 go_wp2_with fail
 refine(HDR.out w2 (HB.out.trans (H3.out.mono HB.out.size))).mono ?_
 rintro x w3⟨b3,q3,n3,c3,rfl,hD3⟩
 have H4:Hid (Below V.heap.size V w3):=H3.out.trans (b3.mono H3.out.size)
 have HD3:Hid (DL w3 V.heap.size (.slice q3 n3 c3) DD):=hD3.mono H3.out.size
 have hs4:w.heap.size<w3.heap.size:=jC hs3 b3.size
 have t0:=zAa b3 z0
 have t1:=zAa b3 z1
 clear b3 hD3 HDR z0 z1
 have hA3:Below w3.heap.size w3 (w3.alloc (.cells #[.int .i64 r1,.int .i64 r2,.int .i64 r3,.int .i64 r4,.int .i64 r5] 54)):=(bzR _ _).alloc (nzR _) _
 have hR3:=jA w3 (.cells #[.int .i64 r1,.int .i64 r2,.int .i64 r3,.int .i64 r4,.int .i64 r5] 54)
 go_upto_region 7 with fail
 generalize w3.alloc (.cells #[.int .i64 r1,.int .i64 r2,.int .i64 r3,.int .i64 r4,.int .i64 r5] 54)=V3 at *
 have HV3:Hid (Below V.heap.size V V3):=H4.out.trans (hA3.mono H4.out.size)
 have HD4:Hid (DL V3 V.heap.size (.slice q3 n3 c3) DD):=HD3.out.below hA3
 obtain⟨e0,e1,e2,e3,e4,-⟩:=zAe hR3
 have s0:=zAa hA3 t0
 have s1:=zAa hA3 t1
 have hB12:V.heap.size≤w3.heap.size:=H4.out.size
 have hw3:w3.heap.size<V3.heap.size:=(gzE.1 hR3).1
 have hsV:w.heap.size<V3.heap.size:=jC hs4 hA3.size
 clear hA3 hR3 t0 t1
 generalize w3.heap.size=B12 at *
 have HROW:Hid (∀W,Below V3.heap.size V3 W→W.heap[w.heap.size+1]?=some (.cells #[.slice none 0 0,.slice none 0 0] 46 (0,0))∧W.heap[w.heap.size+1+1]?=some (.cells #[.int .i64 0,.int .i64 0,.int .i64 0,.int .i64 0,.int .i64 0] 54 (0,0))):=fun W hW=>by
  have hb:=HV3.out.trans (hW.mono HV3.out.size)
  exact⟨by rw[hb.block _ (by omega)];exact hR1,by rw[hb.block _ hVs];exact hR2⟩
 have HWJ:Hid (∀W,Below V3.heap.size V3 W→Calls Tryz.prog 122 #[.agg #[.slice q1 n1 c1,.slice q2 n2 c2],.int .i64 2,.slice q3 n3 c3] W fun x w'=>∃u1 u2 m1 m2 d1 d2,x=.returned (.agg #[.slice u1 m1 d1,.slice u2 m2 d2])∧DL w' V.heap.size (.slice u1 m1 d1) X1∧DL w' V.heap.size (.slice u2 m2 d2) X2∧Below V3.heap.size V3 w'):=fun W hW=>by
  have hb:=HV3.out.trans (hW.mono HV3.out.size)
  exact(HWI.out W q3 n3 c3 V.heap.size (HB.out.trans (hb.mono HB.out.size)) hb.size (HD4.out.below hW)).mono fun x w' h=>by
   obtain⟨u1,u2,m1,m2,d1,d2,g1,g2,g3,g4⟩:=h
   exact⟨u1,u2,m1,m2,d1,d2,g1,g2,g3,hW.trans (g4.mono hW.size)⟩
 have SO:Hid (∀W,Below V3.heap.size V3 W→(W.cell? ⟨w.heap.size,0,none⟩=some (.slice q1 n1 c1)∧W.cell? ⟨w.heap.size,1,none⟩=some (.slice q2 n2 c2)∧W.cell? ⟨B12,0,none⟩=some (.int .i64 r1)∧W.cell? ⟨B12,1,none⟩=some (.int .i64 r2)∧W.cell? ⟨B12,2,none⟩=some (.int .i64 r3)∧W.cell? ⟨B12,3,none⟩=some (.int .i64 r4)∧W.cell? ⟨B12,4,none⟩=some (.int .i64 r5))):=fun W hW=>⟨zAa hW s0,zAa hW s1,zAa hW e0,zAa hW e1,zAa hW e2,zAa hW e3,zAa hW e4⟩
 have SK1:Hid (∀ (W:World) (j:Nat) (v:Value),(W.cell? ⟨w.heap.size,0,none⟩=some (.slice q1 n1 c1)∧W.cell? ⟨w.heap.size,1,none⟩=some (.slice q2 n2 c2)∧W.cell? ⟨B12,0,none⟩=some (.int .i64 r1)∧W.cell? ⟨B12,1,none⟩=some (.int .i64 r2)∧W.cell? ⟨B12,2,none⟩=some (.int .i64 r3)∧W.cell? ⟨B12,3,none⟩=some (.int .i64 r4)∧W.cell? ⟨B12,4,none⟩=some (.int .i64 r5))→((W.setCell ⟨w.heap.size+1,j,none⟩ v).cell? ⟨w.heap.size,0,none⟩=some (.slice q1 n1 c1)∧(W.setCell ⟨w.heap.size+1,j,none⟩ v).cell? ⟨w.heap.size,1,none⟩=some (.slice q2 n2 c2)∧(W.setCell ⟨w.heap.size+1,j,none⟩ v).cell? ⟨B12,0,none⟩=some (.int .i64 r1)∧(W.setCell ⟨w.heap.size+1,j,none⟩ v).cell? ⟨B12,1,none⟩=some (.int .i64 r2)∧(W.setCell ⟨w.heap.size+1,j,none⟩ v).cell? ⟨B12,2,none⟩=some (.int .i64 r3)∧(W.setCell ⟨w.heap.size+1,j,none⟩ v).cell? ⟨B12,3,none⟩=some (.int .i64 r4)∧(W.setCell ⟨w.heap.size+1,j,none⟩ v).cell? ⟨B12,4,none⟩=some (.int .i64 r5))):=fun W j v h=>by
  have hne:∀ (a b x:Nat),a≠b→(W.setCell ⟨b,j,none⟩ v).cell? ⟨a,x,none⟩=W.cell? ⟨a,x,none⟩:=fun a b x hab=>World.cell?_setCell_other _ _ _ _ (fun e=>hab (by cases e;rfl))
  simp only[hne _ _ _ (show w.heap.size≠w.heap.size+1 by omega),hne _ _ _ (show B12≠w.heap.size+1 by omega)]
  exact h
 have SK2:Hid (∀ (W:World) (j:Nat) (v:Value),(W.cell? ⟨w.heap.size,0,none⟩=some (.slice q1 n1 c1)∧W.cell? ⟨w.heap.size,1,none⟩=some (.slice q2 n2 c2)∧W.cell? ⟨B12,0,none⟩=some (.int .i64 r1)∧W.cell? ⟨B12,1,none⟩=some (.int .i64 r2)∧W.cell? ⟨B12,2,none⟩=some (.int .i64 r3)∧W.cell? ⟨B12,3,none⟩=some (.int .i64 r4)∧W.cell? ⟨B12,4,none⟩=some (.int .i64 r5))→((W.setCell ⟨w.heap.size+1+1,j,none⟩ v).cell? ⟨w.heap.size,0,none⟩=some (.slice q1 n1 c1)∧(W.setCell ⟨w.heap.size+1+1,j,none⟩ v).cell? ⟨w.heap.size,1,none⟩=some (.slice q2 n2 c2)∧(W.setCell ⟨w.heap.size+1+1,j,none⟩ v).cell? ⟨B12,0,none⟩=some (.int .i64 r1)∧(W.setCell ⟨w.heap.size+1+1,j,none⟩ v).cell? ⟨B12,1,none⟩=some (.int .i64 r2)∧(W.setCell ⟨w.heap.size+1+1,j,none⟩ v).cell? ⟨B12,2,none⟩=some (.int .i64 r3)∧(W.setCell ⟨w.heap.size+1+1,j,none⟩ v).cell? ⟨B12,3,none⟩=some (.int .i64 r4)∧(W.setCell ⟨w.heap.size+1+1,j,none⟩ v).cell? ⟨B12,4,none⟩=some (.int .i64 r5))):=fun W j v h=>by
  have hne:∀ (a b x:Nat),a≠b→(W.setCell ⟨b,j,none⟩ v).cell? ⟨a,x,none⟩=W.cell? ⟨a,x,none⟩:=fun a b x hab=>World.cell?_setCell_other _ _ _ _ (fun e=>hab (by cases e;rfl))
  simp only[hne _ _ _ (show w.heap.size≠w.heap.size+1+1 by omega),hne _ _ _ (show B12≠w.heap.size+1+1 by omega)]
  exact h
 clear HWI hR1 hR2 HD3 H1 H2 H3 H4 HD4
 go_region_held3 (fun W=>W.cell? ⟨w.heap.size,0,none⟩=some (.slice q1 n1 c1)∧W.cell? ⟨w.heap.size,1,none⟩=some (.slice q2 n2 c2)∧W.cell? ⟨B12,0,none⟩=some (.int .i64 r1)∧W.cell? ⟨B12,1,none⟩=some (.int .i64 r2)∧W.cell? ⟨B12,2,none⟩=some (.int .i64 r3)∧W.cell? ⟨B12,3,none⟩=some (.int .i64 r4)∧W.cell? ⟨B12,4,none⟩=some (.int .i64 r5))
  (first|with_reducible assumption|(refine SO.out _ ?_;(with_reducible repeat' (first|assumption|refine bal ?_ _|refine Below.setCell ?_ ?_ _|refine Below.drew ?_|exact bzR _ _|exact nzR _|exact Below.size (by assumption)|refine jD ?_));done)|(with_reducible repeat' (first|assumption|refine SK1.out _ _ _ ?_|refine SK2.out _ _ _ ?_)))
  (first|(go_at_call 122;with_reducible refine(HWJ.out _ ?_).mono ?_;(with_reducible repeat' (first|assumption|refine bal ?_ _|refine Below.setCell ?_ ?_ _|refine Below.drew ?_|exact bzR _ _|exact nzR _|exact Below.size (by assumption)|refine jD ?_));rintro x W ⟨u1,u2,m1,m2,d1,d2,rfl,hA,hBq,hbn⟩;have hSW:=SO.out W hbn;obtain⟨ra,rb⟩:=HROW.out W hbn;obtain⟨g0,g1,hfa⟩:=zAb ra;obtain⟨k0,k1,k2,k3,k4,hfb⟩:=zAe rb;have fa0:=hfa 0;have fa1:=hfa 1;have fb0:=hfb 0;have fb1:=hfb 1;have fb2:=hfb 2;have fb3:=hfb 3;have fb4:=hfb 4))
 have hbW:=HV3.out.trans (hbn.mono HV3.out.size)
 have hBW:Below w.heap.size w W:=HB.out.trans (hbW.mono HB.out.size)
 have hsW:w.heap.size+1+1<W.heap.size:=jC hVs hbW.size
 have gg1:=zAN W (w.heap.size+1) (.slice u1 m1 d1) (.slice u2 m2 d2)
 have gg2:=zBP ((W.setCell ⟨w.heap.size+1,0,none⟩ (.slice u1 m1 d1)).setCell ⟨w.heap.size+1,1,none⟩ (.slice u2 m2 d2)) (w.heap.size+1+1) (.int .i64 r1) (.int .i64 r2) (.int .i64 r3) (.int .i64 r4) (.int .i64 r5)
 have HX1:Hid ((((((((W.setCell ⟨w.heap.size+1,0,none⟩ (.slice u1 m1 d1)).setCell ⟨w.heap.size+1,1,none⟩ (.slice u2 m2 d2)).setCell ⟨w.heap.size+1+1,0,none⟩ (.int .i64 r1)).setCell ⟨w.heap.size+1+1,1,none⟩ (.int .i64 r2)).setCell ⟨w.heap.size+1+1,2,none⟩ (.int .i64 r3)).setCell ⟨w.heap.size+1+1,3,none⟩ (.int .i64 r4)).setCell ⟨w.heap.size+1+1,4,none⟩ (.int .i64 r5)).heap[w.heap.size+1]?=some (.cells #[.slice u1 m1 d1,.slice u2 m2 d2] 46 (0,0))):=by
  show _=_
  rw[gg2.block _ (jC (by omega) gg1.size) (fun e=>by simp at e)]
  exact zAw ra _ _
 have HX2:Hid ((((((((W.setCell ⟨w.heap.size+1,0,none⟩ (.slice u1 m1 d1)).setCell ⟨w.heap.size+1,1,none⟩ (.slice u2 m2 d2)).setCell ⟨w.heap.size+1+1,0,none⟩ (.int .i64 r1)).setCell ⟨w.heap.size+1+1,1,none⟩ (.int .i64 r2)).setCell ⟨w.heap.size+1+1,2,none⟩ (.int .i64 r3)).setCell ⟨w.heap.size+1+1,3,none⟩ (.int .i64 r4)).setCell ⟨w.heap.size+1+1,4,none⟩ (.int .i64 r5)).heap[w.heap.size+1+1]?=some (.cells #[.int .i64 r1,.int .i64 r2,.int .i64 r3,.int .i64 r4,.int .i64 r5] 54 (0,0))):=
  zAV (by rw[gg1.block _ hsW (fun e=>by simp at e)];exact rb) _ _ _ _ _
 have HLA:Hid (DL (((((((W.setCell ⟨w.heap.size+1,0,none⟩ (.slice u1 m1 d1)).setCell ⟨w.heap.size+1,1,none⟩ (.slice u2 m2 d2)).setCell ⟨w.heap.size+1+1,0,none⟩ (.int .i64 r1)).setCell ⟨w.heap.size+1+1,1,none⟩ (.int .i64 r2)).setCell ⟨w.heap.size+1+1,2,none⟩ (.int .i64 r3)).setCell ⟨w.heap.size+1+1,3,none⟩ (.int .i64 r4)).setCell ⟨w.heap.size+1+1,4,none⟩ (.int .i64 r5)) w.heap.size (.slice u1 m1 d1) X1∧DL (((((((W.setCell ⟨w.heap.size+1,0,none⟩ (.slice u1 m1 d1)).setCell ⟨w.heap.size+1,1,none⟩ (.slice u2 m2 d2)).setCell ⟨w.heap.size+1+1,0,none⟩ (.int .i64 r1)).setCell ⟨w.heap.size+1+1,1,none⟩ (.int .i64 r2)).setCell ⟨w.heap.size+1+1,2,none⟩ (.int .i64 r3)).setCell ⟨w.heap.size+1+1,3,none⟩ (.int .i64 r4)).setCell ⟨w.heap.size+1+1,4,none⟩ (.int .i64 r5)) w.heap.size (.slice u2 m2 d2) X2):=⟨(DL.other (DL.other hA gg1 (by omega)) gg2 hVs).mono (by omega),(DL.other (DL.other hBq gg1 (by omega)) gg2 hVs).mono (by omega)⟩
 have hB1:Below w.heap.size w ((W.setCell ⟨w.heap.size+1,0,none⟩ (.slice u1 m1 d1)).setCell ⟨w.heap.size+1,1,none⟩ (.slice u2 m2 d2)):=hBW.grown gg1 hBW.size (fun k hk=>by cases hk;omega)
 have hB2:Below w.heap.size w (((((((W.setCell ⟨w.heap.size+1,0,none⟩ (.slice u1 m1 d1)).setCell ⟨w.heap.size+1,1,none⟩ (.slice u2 m2 d2)).setCell ⟨w.heap.size+1+1,0,none⟩ (.int .i64 r1)).setCell ⟨w.heap.size+1+1,1,none⟩ (.int .i64 r2)).setCell ⟨w.heap.size+1+1,2,none⟩ (.int .i64 r3)).setCell ⟨w.heap.size+1+1,3,none⟩ (.int .i64 r4)).setCell ⟨w.heap.size+1+1,4,none⟩ (.int .i64 r5)):=hB1.grown gg2 hB1.size (fun k hk=>by cases hk;omega)
 have HBF:Hid (Below w.heap.size w (((((((W.setCell ⟨w.heap.size+1,0,none⟩ (.slice u1 m1 d1)).setCell ⟨w.heap.size+1,1,none⟩ (.slice u2 m2 d2)).setCell ⟨w.heap.size+1+1,0,none⟩ (.int .i64 r1)).setCell ⟨w.heap.size+1+1,1,none⟩ (.int .i64 r2)).setCell ⟨w.heap.size+1+1,2,none⟩ (.int .i64 r3)).setCell ⟨w.heap.size+1+1,3,none⟩ (.int .i64 r4)).setCell ⟨w.heap.size+1+1,4,none⟩ (.int .i64 r5))):=hB2
 clear hbW hBW hsW gg1 gg2 hB1 hB2 hA hBq hbn ra rb hSW HROW HWJ SO SK1 SK2 hfa hfb
 go_wp2_with fail
 generalize (((((((W.setCell ⟨w.heap.size+1,0,none⟩ (.slice u1 m1 d1)).setCell ⟨w.heap.size+1,1,none⟩ (.slice u2 m2 d2)).setCell ⟨w.heap.size+1+1,0,none⟩ (.int .i64 r1)).setCell ⟨w.heap.size+1+1,1,none⟩ (.int .i64 r2)).setCell ⟨w.heap.size+1+1,2,none⟩ (.int .i64 r3)).setCell ⟨w.heap.size+1+1,3,none⟩ (.int .i64 r4)).setCell ⟨w.heap.size+1+1,4,none⟩ (.int .i64 r5))=X at *
 obtain⟨y0,y1,-⟩:=zAb HX1.out
 obtain⟨z0,z1,z2,z3,z4,-⟩:=zAe HX2.out
 first|exact jN (v:=.tuple #[.agg #[.slice u1 m1 d1,.slice u2 m2 d2],.agg #[.int .i64 r1,.int .i64 r2,.int .i64 r3,.int .i64 r4,.int .i64 r5],.nilIface]) (by simp[results,Tryz.results106,go_sem,y0,y1,z0,z1,z2,z3,z4]) rfl ⟨u1,u2,m1,m2,d1,d2,rfl,HLA.out.1,HLA.out.2,HBF.out⟩|exact jN (v:=.tuple #[.agg #[.slice u1 m1 d1,.slice u2 m2 d2],.agg #[.int .i64 r1,.int .i64 r2,.int .i64 r3,.int .i64 r4,.int .i64 r5],.nilIface]) (by simp[results,Tryz.results106,go_sem,y0,y1,z0,z1,z2,z3,z4]) rfl ⟨u1,u2,m1,m2,d1,d2,rfl,HLA.out.1.below (bzR _ _).drew,HLA.out.2.below (bzR _ _).drew,HBF.out.drew⟩
end bok
end Go.Proofs.YtifjhlgjgnnnpaaGreat
