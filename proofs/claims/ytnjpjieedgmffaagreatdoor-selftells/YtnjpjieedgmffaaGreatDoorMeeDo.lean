import Derived.Test.YtnjpjieedgmffaaGreatDoorMeeTake
namespace Go.Proofs.YtnjpjieedgmffaaGreatDoor.mee
open Go.RowKit spn que sid bok
open ord (O oV mB mE chk meets_any)
def otherL (bs ss:List L) (o:O):List L:=if o.side=1 then ss else bs
def metR (bs ss:List L) (o:O):List L × List T × Int:=tkl o (otherL bs ss o) o.qty
def metB (bs ss:List L) (o:O):List L:=if o.side=1 then bs else (metR bs ss o).1
def metS (bs ss:List L) (o:O):List L:=if o.side=1 then (metR bs ss o).1 else ss
def TakePost (bs ss:List L) (o:O) (w:World) (e:Ending) (w' : World):Prop:=
 (comeE bs ss o=0→∃q1 q2 n1 n2 c1 c2 tv,e=.returned (.tuple #[.agg #[.slice q1 n1 c1,.slice q2 n2 c2],tv,.int .i64 (metR bs ss o).2.2,.nilIface])∧DL w' w.heap.size (.slice q1 n1 c1) (metB bs ss o)∧DL w' w.heap.size (.slice q2 n2 c2) (metS bs ss o)∧OwnT w' w.heap.size tv (metR bs ss o).2.1)∧
 (¬comeE bs ss o=0→e=.returned (.tuple #[.agg #[.slice none 0 0,.slice none 0 0],.slice none 0 0,.int .i64 0,errV (comeE bs ss o)]))∧Below w.heap.size w w'
theorem come_zero {bs ss:List L}{o:O}(h:comeE bs ss o=0):bookE bs ss=0∧chk o=0∧o.stop=0∧inBook bs ss o.id=false:=by
 unfold comeE at h
 by_cases h1:bookE bs ss=0
 ·rw[if_pos h1] at h
  by_cases h2:chk o=0
  ·rw[if_pos h2] at h
   by_cases h3:o.stop=0
   ·rw[if_pos h3] at h
    cases h4:inBook bs ss o.id with
    | true=>rw[h4] at h;simp at h
    | false=>exact⟨h1,h2,h3,rfl⟩
   ·rw[if_neg h3] at h;omega
  ·rw[if_neg h2] at h;exact absurd h h2
 ·rw[if_neg h1] at h;exact absurd h h1
theorem setOne0 {w:World}{B:Nat}{y0 y1:Value}{t:TypeId}(h:w.heap[B]?=some (.cells #[y0,y1] t (0,0))) (x:Value):(w.setCell ⟨B,0,none⟩ x).heap[B]?=some (.cells #[x,y1] t (0,0)):=heap_setCell_same w B 0 _ _ x h
theorem setOne1 {w:World}{B:Nat}{y0 y1:Value}{t:TypeId}(h:w.heap[B]?=some (.cells #[y0,y1] t (0,0))) (x:Value):(w.setCell ⟨B,1,none⟩ x).heap[B]?=some (.cells #[y0,x] t (0,0)):=heap_setCell_same w B 1 _ _ x h
set_option maxRecDepth 100000 in
set_option maxHeartbeats 4000000 in
theorem take_any (q1 q2:Option Addr) (n1 n2 c1 c2:Nat) (bs ss:List L) (a b c d p q s t:Int) (w:World) (h1:LS w (.slice q1 n1 c1) bs) (h2:LS w (.slice q2 n2 c2) ss) :
  Calls Tryz.prog 61 #[.agg #[.slice q1 n1 c1,.slice q2 n2 c2],.agg #[.int .i64 a,.int .i64 b,.int .i64 c,.int .i64 d,.int .i64 p,.int .i64 q,.int .i64 s,.int .i64 t]] w fun e w'=>TakePost bs ss ⟨a,b,c,d,p,q,s,t⟩ w e w':=by
 obtain⟨V2,hV2⟩:∃V2,V2=(w.alloc (.cells #[.slice q1 n1 c1,.slice q2 n2 c2] 24)).alloc (.cells #[.int .i64 a,.int .i64 b,.int .i64 c,.int .i64 d,.int .i64 p,.int .i64 q,.int .i64 s,.int .i64 t] 26):=⟨_,rfl⟩
 have hs2:V2.heap.size=w.heap.size+2:=by rw[hV2];simp
 have HB2:Hid (Below w.heap.size w V2):=by rw[hV2];exact((bzR _ _).alloc (nzR _) _).alloc (by simp) _
 have v0:V2.cell? ⟨w.heap.size,0,none⟩=some (.slice q1 n1 c1):=by rw[hV2];simp[go_sem]
 have v1:V2.cell? ⟨w.heap.size,1,none⟩=some (.slice q2 n2 c2):=by rw[hV2];simp[go_sem]
 have hRo:V2.heap[w.heap.size+1]?=some (.cells #[.int .i64 a,.int .i64 b,.int .i64 c,.int .i64 d,.int .i64 p,.int .i64 q,.int .i64 s,.int .i64 t] 26 (0,0)):=by
  rw[hV2]
  have:=heap_alloc_new (w.alloc (.cells #[.slice q1 n1 c1,.slice q2 n2 c2] 24)) (.cells #[.int .i64 a,.int .i64 b,.int .i64 c,.int .i64 d,.int .i64 p,.int .i64 q,.int .i64 s,.int .i64 t] 26)
  simpa using this
 have cel:∀i,V2.cell? ⟨w.heap.size+1,i,none⟩=(#[.int .i64 a,.int .i64 b,.int .i64 c,.int .i64 d,.int .i64 p,.int .i64 q,.int .i64 s,.int .i64 t]:Array Value)[i]?:=fun i=>by simp[World.cell?,hRo]
 obtain⟨V,hV⟩:∃V,V=V2.alloc (.cells #[.slice none 0 0,.slice none 0 0] 24):=⟨_,rfl⟩
 have hBV2:Below V2.heap.size V2 V:=by rw[hV];exact(bzR _ _).alloc (nzR _) _
 have HBV:Hid (Below V2.heap.size V2 V):=hBV2
 have hR0:V.heap[V2.heap.size]?=some (.cells #[.slice none 0 0,.slice none 0 0] 24 (0,0)):=by rw[hV];exact heap_alloc_new V2 _
 have HSO:Hid (∀W,Below V2.heap.size V2 W→Below w.heap.size w W∧W.cell? ⟨w.heap.size,0,none⟩=some (.slice q1 n1 c1)∧W.cell? ⟨w.heap.size,1,none⟩=some (.slice q2 n2 c2)∧W.cell? ⟨w.heap.size+1,0,none⟩=some (.int .i64 a)∧W.cell? ⟨w.heap.size+1,1,none⟩=some (.int .i64 b)∧W.cell? ⟨w.heap.size+1,2,none⟩=some (.int .i64 c)∧W.cell? ⟨w.heap.size+1,3,none⟩=some (.int .i64 d)∧W.cell? ⟨w.heap.size+1,4,none⟩=some (.int .i64 p)∧W.cell? ⟨w.heap.size+1,5,none⟩=some (.int .i64 q)∧W.cell? ⟨w.heap.size+1,6,none⟩=some (.int .i64 s)∧W.cell? ⟨w.heap.size+1,7,none⟩=some (.int .i64 t)):=
  fun W hW=>⟨HB2.out.trans (hW.mono HB2.out.size),keeps hW v0,keeps hW v1,keeps hW (cel 0),keeps hW (cel 1),keeps hW (cel 2),keeps hW (cel 3),keeps hW (cel 4),keeps hW (cel 5),keeps hW (cel 6),keeps hW (cel 7)⟩
 have HCK:Hid (∀W,Below w.heap.size w W→Calls Tryz.prog 41 #[.agg #[.slice q1 n1 c1,.slice q2 n2 c2],.agg #[.int .i64 a,.int .i64 b,.int .i64 c,.int .i64 d,.int .i64 p,.int .i64 q,.int .i64 s,.int .i64 t]] W fun e w'=>e=.returned (errV (comeE bs ss ⟨a,b,c,d,p,q,s,t⟩))∧Below W.heap.size W w'):=fun W hW=>mcheck_any q1 q2 n1 n2 c1 c2 bs ss a b c d p q s t W (h1.below hW) (h2.below hW)
 have HFR:Hid (∀W,bookE bs ss=0→Below w.heap.size w W→Calls Tryz.prog 46 #[.agg #[.slice q1 n1 c1,.slice q2 n2 c2]] W fun e w'=>BFPost bs ss W e w'):=fun W h0 hW=>bfresh_any q1 q2 n1 n2 c1 c2 bs ss W (h1.below hW) (h2.below hW) (book_zero h0).1 (book_zero h0).2.1
 obtain⟨P,hP⟩:∃P,P=w.heap.size+2:=⟨_,rfl⟩
 have hPs:V2.heap.size=P:=by rw[hs2,hP]
 rw[hPs] at hR0 HSO HBV
 have HP:Hid (V2.heap.size=P∧P=w.heap.size+2):=⟨hPs,hP⟩
 clear h1 h2 v0 v1 hRo cel hs2 hBV2 hPs
 go_enter Tryz.func61,Tryz.ntmps61
 go_wp2_with fail
 rw[←hV2,←hV]
 simp only[←hP]
 clear hV2 hV hP
 have HVw:Hid (Below w.heap.size w V):=(HSO.out V HBV.out).1
 obtain⟨-,x0,x1,o0,o1,o2,o3,o4,o5,o6,o7⟩:=HSO.out V HBV.out
 refine(HCK.out V HVw.out).mono ?_
 rintro x w1 ⟨rfl,b1⟩
 have HBV1:Hid (Below P V2 w1):=HBV.out.trans (b1.mono (Nat.le_of_lt (gzE.1 hR0).1))
 obtain⟨hW1,y0,y1,p0,p1,p2,p3,p4,p5,p6,p7⟩:=HSO.out w1 HBV1.out
 have HW1:Hid (Below w.heap.size w w1):=hW1
 have hR1:w1.heap[P]?=some (.cells #[.slice none 0 0,.slice none 0 0] 24 (0,0)):=(b1.block P (gzE.1 hR0).1).trans hR0
 have hPw1:P < w1.heap.size:=(gzE.1 hR1).1
 clear b1 x0 x1 o0 o1 o2 o3 o4 o5 o6 o7 hR0 hW1
 obtain⟨z0,z1,zf⟩:=rowTwo hR1
 have zf0:=zf 0
 have zf1:=zf 1
 by_cases hC:comeE bs ss ⟨a,b,c,d,p,q,s,t⟩=0
 rotate_left
 ·have HRF:=setTwo hR1 (.slice none 0 0) (.slice none 0 0)
  have hg:=grTwo w1 P (.slice none 0 0) (.slice none 0 0)
  have hPO:TakePost bs ss ⟨a,b,c,d,p,q,s,t⟩ w (.returned (.tuple #[.agg #[.slice none 0 0,.slice none 0 0],.slice none 0 0,.int .i64 0,.iface 70 (.int .i64 (comeE bs ss ⟨a,b,c,d,p,q,s,t⟩))])) ((w1.setCell ⟨P,0,none⟩ (.slice none 0 0)).setCell ⟨P,1,none⟩ (.slice none 0 0)):=
   ⟨fun h=>absurd h hC,fun _=>by rw[errV_of hC],HW1.out.grown hg HW1.out.size (fun k hk=>by cases hk;have:=HP.out;omega)⟩
  have HHX:Hid (((w1.setCell ⟨P,0,none⟩ (.slice none 0 0)).setCell ⟨P,1,none⟩ (.slice none 0 0)).heap[P]?=some (.cells #[.slice none 0 0,.slice none 0 0] 24 (0,0))):=HRF
  rw[errV_of hC]
  clear HRF hg hR1 zf
  go_wp2_with fail
  generalize ((w1.setCell ⟨P,0,none⟩ (.slice none 0 0)).setCell ⟨P,1,none⟩ (.slice none 0 0))=Z at *
  obtain⟨k0,k1,-⟩:=rowTwo HHX.out
  exact bodyPost_ret (v:=.tuple #[.agg #[.slice none 0 0,.slice none 0 0],.slice none 0 0,.int .i64 0,.iface 70 (.int .i64 (comeE bs ss ⟨a,b,c,d,p,q,s,t⟩))]) (by simp[results,Tryz.results61,go_sem,k0,k1]) rfl hPO
 have HC0:Hid (bookE bs ss=0∧chk ⟨a,b,c,d,p,q,s,t⟩=0∧comeE bs ss ⟨a,b,c,d,p,q,s,t⟩=0):=⟨(come_zero hC).1,(come_zero hC).2.1,hC⟩
 rw[hC,errV_zero]
 go_wp2_with fail
 refine(HFR.out w1 HC0.out.1 HW1.out).mono ?_
 rintro x w2 ⟨qa,qb,ma,mb,ca,cb,rfl,bF,D1,D2,K1,K2⟩
 have HK1:Hid (∀W,GrB w2 W w1.heap.size (Value.slice qb mb cb).ownBlock→DL W w1.heap.size (.slice qa ma ca) bs):=K1
 have HK2:Hid (∀W,GrB w2 W w1.heap.size (Value.slice qa ma ca).ownBlock→DL W w1.heap.size (.slice qb mb cb) ss):=K2
 have HPL:Hid (P < w1.heap.size):=hPw1
 have hR2:w2.heap[P]?=some (.cells #[.slice none 0 0,.slice none 0 0] 24 (0,0)):=(bF.block P hPw1).trans hR1
 obtain⟨t0,t1,tf⟩:=rowTwo hR2
 have tf0:=tf 0
 have tf1:=tf 1
 have HXRa:=setTwo hR2 (.slice qa ma ca) (.slice qb mb cb)
 have hgX:=grTwo w2 P (.slice qa ma ca) (.slice qb mb cb)
 have HBV2:Below P V2 w2:=HBV1.out.trans (bF.mono (Nat.le_of_lt hPw1))
 have hBX2:Below P V2 ((w2.setCell ⟨P,0,none⟩ (.slice qa ma ca)).setCell ⟨P,1,none⟩ (.slice qb mb cb)):=(HBV2.setCell (nzR _) _).setCell (nzR _) _
 obtain⟨hBXw,-,-,f0,f1,f2,f3,f4,f5,f6,f7⟩:=HSO.out _ hBX2
 have HBX:Hid (Below w.heap.size w ((w2.setCell ⟨P,0,none⟩ (.slice qa ma ca)).setCell ⟨P,1,none⟩ (.slice qb mb cb))):=hBXw
 have HD1:Hid (DL ((w2.setCell ⟨P,0,none⟩ (.slice qa ma ca)).setCell ⟨P,1,none⟩ (.slice qb mb cb)) w1.heap.size (.slice qa ma ca) bs):=DL.other D1 hgX hPw1
 have HD2:Hid (DL ((w2.setCell ⟨P,0,none⟩ (.slice qa ma ca)).setCell ⟨P,1,none⟩ (.slice qb mb cb)) w1.heap.size (.slice qb mb cb) ss):=DL.other D2 hgX hPw1
 have HXR:Hid (((w2.setCell ⟨P,0,none⟩ (.slice qa ma ca)).setCell ⟨P,1,none⟩ (.slice qb mb cb)).heap[P]?=some (.cells #[.slice qa ma ca,.slice qb mb cb] 24 (0,0))):=HXRa
 have HXG:Hid (w2.grownBy ((w2.setCell ⟨P,0,none⟩ (.slice qa ma ca)).setCell ⟨P,1,none⟩ (.slice qb mb cb)) (some P)):=hgX
 clear bF D1 D2 K1 K2 hR2 tf HXRa hgX HBV2 hBX2 hBXw hR1 zf y0 y1 p0 p1 p2 p3 p4 p5 p6 p7 z0 z1 zf0 zf1
 go_upto_region 5 with fail
 generalize ((w2.setCell ⟨P,0,none⟩ (.slice qa ma ca)).setCell ⟨P,1,none⟩ (.slice qb mb cb))=X at *
 obtain⟨g0,g1,-⟩:=rowTwo HXR.out
 by_cases hc1:c=1
 ·subst hc1
  have HPO:Hid (∀W qt mt ct tv,DL W w1.heap.size (.slice qt mt ct) (tkl ⟨a,b,1,d,p,q,s,t⟩ ss q).1→DL W w1.heap.size (.slice qa ma ca) bs→OwnT W X.heap.size tv (tkl ⟨a,b,1,d,p,q,s,t⟩ ss q).2.1→Below w.heap.size w W→TakePost bs ss ⟨a,b,1,d,p,q,s,t⟩ w (.returned (.tuple #[.agg #[.slice qa ma ca,.slice qt mt ct],tv,.int .i64 (tkl ⟨a,b,1,d,p,q,s,t⟩ ss q).2.2,.nilIface])) W):=fun W qt mt ct tv e1 e2 e3 e4=>
   ⟨fun _=>⟨qa,qt,ma,mt,ca,ct,tv,rfl,e2.mono HW1.out.size,e1.mono HW1.out.size,OwnM.mono e3 HBX.out.size⟩,fun h=>absurd HC0.out.2.2 h,e4⟩
  obtain⟨pst,est,hDp⟩:=HD2.out
  have HLG:Hid (∀l∈pst.map toL,lchk l=0):=by
   rw[est]
   exact sgo_each (schk_zero (book_zero HC0.out.1).2.1).2.1
  have HLV:Hid (Calls Tryz.prog 80 #[.slice qb mb cb,.agg #[.int .i64 a,.int .i64 b,.int .i64 1,.int .i64 d,.int .i64 p,.int .i64 q,.int .i64 s,.int .i64 t]] X fun e w'=>∃v' tv,e=.returned (.tuple #[v',tv,.int .i64 (tkl ⟨a,b,1,d,p,q,s,t⟩ ss q).2.2,.nilIface])∧DL w' w1.heap.size v' (tkl ⟨a,b,1,d,p,q,s,t⟩ ss q).1∧OwnT w' X.heap.size tv (tkl ⟨a,b,1,d,p,q,s,t⟩ ss q).2.1∧X.grownBy w' (Value.slice qb mb cb).ownBlock):=by
   have h:=levels_good a b 1 d p q s t (.slice qb mb cb) pst w1.heap.size X hDp HC0.out.2.1 HLG.out
   rw[est] at h
   exact h
  have HBL:Hid (∀k,(Value.slice qb mb cb).ownBlock=some k→w1.heap.size≤k):=fun k hk=>(OwnM.lt hDp.own k hk).1
  clear hDp
  go_wp2_with fail
  refine HLV.out.mono ?_
  rintro e w3 ⟨v',tv,rfl,D3,O3,G3⟩
  obtain⟨qt,mt,ct,hv3⟩:=D3.form
  subst hv3
  have hPL:=HPL.out
  have hR3:w3.heap[P]?=some (.cells #[.slice qa ma ca,.slice qb mb cb] 24 (0,0)):=(G3.block P (gzE.1 HXR.out).1 (fun e=>by have:=HBL.out P e.symm;omega)).trans HXR.out
  obtain⟨s0,s1,sf⟩:=rowTwo hR3
  have sf0:=sf 0
  have sf1:=sf 1
  have HRT:=setOne1 hR3 (.slice qt mt ct)
  have hg1:=gr_setCell w3 P 1 (.slice qt mt ct)
  obtain⟨u0,u1,uf⟩:=rowTwo HRT
  have uf0:=uf 0
  have uf1:=uf 1
  have HRF:=setTwo HRT (.slice qa ma ca) (.slice qt mt ct)
  have hg2:=gr_trans hg1 (grTwo (w3.setCell ⟨P,1,none⟩ (.slice qt mt ct)) P (.slice qa ma ca) (.slice qt mt ct))
  have hPX:P < X.heap.size:=(gzE.1 HXR.out).1
  have hGB:GrB w2 (((w3.setCell ⟨P,1,none⟩ (.slice qt mt ct)).setCell ⟨P,0,none⟩ (.slice qa ma ca)).setCell ⟨P,1,none⟩ (.slice qt mt ct)) w1.heap.size (Value.slice qb mb cb).ownBlock:=by
   have hz1:=HXG.out.size
   have hz2:=G3.size
   have hz3:=hg2.size
   refine⟨by omega,fun k h1 h2 h3=>?_⟩
   rw[hg2.block k (by omega) (fun e=>by cases e;omega),G3.block k (by omega) (fun e=>h3 e.symm),HXG.out.block k h2 (fun e=>by cases e;omega)]
  have hPO:=HPO.out _ qt mt ct tv (DL.other D3 hg2 hPL) (HK1.out _ hGB) (kept_of O3 hg2 (fun z hz e=>by cases e;have:=(OwnM.lt O3 P hz).1;omega)) (by
   have h1:Below w.heap.size w X:=HBX.out
   have h2:Below w.heap.size w w3:=h1.grown G3 h1.size (fun k hk=>by have:=HBL.out k hk;have:=HW1.out.size;omega)
   exact h2.grown hg2 h2.size (fun k hk=>by cases hk;have:=HP.out;omega))
  have HHX:Hid ((((w3.setCell ⟨P,1,none⟩ (.slice qt mt ct)).setCell ⟨P,0,none⟩ (.slice qa ma ca)).setCell ⟨P,1,none⟩ (.slice qt mt ct)).heap[P]?=some (.cells #[.slice qa ma ca,.slice qt mt ct] 24 (0,0))):=HRF
  clear D3 O3 G3 hGB hg1 hg2 HRT HRF hR3 sf uf
  go_wp2_with fail
  generalize (((w3.setCell ⟨P,1,none⟩ (.slice qt mt ct)).setCell ⟨P,0,none⟩ (.slice qa ma ca)).setCell ⟨P,1,none⟩ (.slice qt mt ct))=Z at *
  obtain⟨y0,y1,-⟩:=rowTwo HHX.out
  exact bodyPost_ret (v:=.tuple #[.agg #[.slice qa ma ca,.slice qt mt ct],tv,.int .i64 (tkl ⟨a,b,1,d,p,q,s,t⟩ ss q).2.2,.nilIface]) (by simp[results,Tryz.results61,go_sem,y0,y1]) rfl hPO
 ·have hc1b:(c == 1)=false:=by simp[hc1]
  have HPO:Hid (∀W qt mt ct tv,DL W w1.heap.size (.slice qt mt ct) (tkl ⟨a,b,c,d,p,q,s,t⟩ bs q).1→DL W w1.heap.size (.slice qb mb cb) ss→OwnT W X.heap.size tv (tkl ⟨a,b,c,d,p,q,s,t⟩ bs q).2.1→Below w.heap.size w W→TakePost bs ss ⟨a,b,c,d,p,q,s,t⟩ w (.returned (.tuple #[.agg #[.slice qt mt ct,.slice qb mb cb],tv,.int .i64 (tkl ⟨a,b,c,d,p,q,s,t⟩ bs q).2.2,.nilIface])) W):=fun W qt mt ct tv e1 e2 e3 e4=>by
   have hO:otherL bs ss ⟨a,b,c,d,p,q,s,t⟩=bs:=if_neg hc1
   have hR:metR bs ss ⟨a,b,c,d,p,q,s,t⟩=tkl ⟨a,b,c,d,p,q,s,t⟩ bs q:=by unfold metR;rw[hO]
   have hB:metB bs ss ⟨a,b,c,d,p,q,s,t⟩=(tkl ⟨a,b,c,d,p,q,s,t⟩ bs q).1:=by unfold metB;rw[if_neg hc1,hR]
   have hS:metS bs ss ⟨a,b,c,d,p,q,s,t⟩=ss:=if_neg hc1
   refine⟨fun _=>⟨qt,qb,mt,mb,ct,cb,tv,by rw[hR],?_,?_,?_⟩,fun h=>absurd HC0.out.2.2 h,e4⟩
   ·rw[hB];exact e1.mono HW1.out.size
   ·rw[hS];exact e2.mono HW1.out.size
   ·rw[hR];exact OwnM.mono e3 HBX.out.size
  obtain⟨pst,est,hDp⟩:=HD1.out
  have HLG:Hid (∀l∈pst.map toL,lchk l=0):=by
   rw[est]
   exact sgo_each (schk_zero (book_zero HC0.out.1).1).2.1
  have HLV:Hid (Calls Tryz.prog 80 #[.slice qa ma ca,.agg #[.int .i64 a,.int .i64 b,.int .i64 c,.int .i64 d,.int .i64 p,.int .i64 q,.int .i64 s,.int .i64 t]] X fun e w'=>∃v' tv,e=.returned (.tuple #[v',tv,.int .i64 (tkl ⟨a,b,c,d,p,q,s,t⟩ bs q).2.2,.nilIface])∧DL w' w1.heap.size v' (tkl ⟨a,b,c,d,p,q,s,t⟩ bs q).1∧OwnT w' X.heap.size tv (tkl ⟨a,b,c,d,p,q,s,t⟩ bs q).2.1∧X.grownBy w' (Value.slice qa ma ca).ownBlock):=by
   have h:=levels_good a b c d p q s t (.slice qa ma ca) pst w1.heap.size X hDp HC0.out.2.1 HLG.out
   rw[est] at h
   exact h
  have HBL:Hid (∀k,(Value.slice qa ma ca).ownBlock=some k→w1.heap.size≤k):=fun k hk=>(OwnM.lt hDp.own k hk).1
  clear hDp
  go_wp2_with fail
  refine HLV.out.mono ?_
  rintro e w3 ⟨v',tv,rfl,D3,O3,G3⟩
  obtain⟨qt,mt,ct,hv3⟩:=D3.form
  subst hv3
  have hPL:=HPL.out
  have hR3:w3.heap[P]?=some (.cells #[.slice qa ma ca,.slice qb mb cb] 24 (0,0)):=(G3.block P (gzE.1 HXR.out).1 (fun e=>by have:=HBL.out P e.symm;omega)).trans HXR.out
  obtain⟨s0,s1,sf⟩:=rowTwo hR3
  have sf0:=sf 0
  have sf1:=sf 1
  have HRT:=setOne0 hR3 (.slice qt mt ct)
  have hg1:=gr_setCell w3 P 0 (.slice qt mt ct)
  obtain⟨u0,u1,uf⟩:=rowTwo HRT
  have uf0:=uf 0
  have uf1:=uf 1
  have HRF:=setTwo HRT (.slice qt mt ct) (.slice qb mb cb)
  have hg2:=gr_trans hg1 (grTwo (w3.setCell ⟨P,0,none⟩ (.slice qt mt ct)) P (.slice qt mt ct) (.slice qb mb cb))
  have hPX:P < X.heap.size:=(gzE.1 HXR.out).1
  have hGB:GrB w2 (((w3.setCell ⟨P,0,none⟩ (.slice qt mt ct)).setCell ⟨P,0,none⟩ (.slice qt mt ct)).setCell ⟨P,1,none⟩ (.slice qb mb cb)) w1.heap.size (Value.slice qa ma ca).ownBlock:=by
   have hz1:=HXG.out.size
   have hz2:=G3.size
   have hz3:=hg2.size
   refine⟨by omega,fun k h1 h2 h3=>?_⟩
   rw[hg2.block k (by omega) (fun e=>by cases e;omega),G3.block k (by omega) (fun e=>h3 e.symm),HXG.out.block k h2 (fun e=>by cases e;omega)]
  have hPO:=HPO.out _ qt mt ct tv (DL.other D3 hg2 hPL) (HK2.out _ hGB) (kept_of O3 hg2 (fun z hz e=>by cases e;have:=(OwnM.lt O3 P hz).1;omega)) (by
   have h1:Below w.heap.size w X:=HBX.out
   have h2:Below w.heap.size w w3:=h1.grown G3 h1.size (fun k hk=>by have:=HBL.out k hk;have:=HW1.out.size;omega)
   exact h2.grown hg2 h2.size (fun k hk=>by cases hk;have:=HP.out;omega))
  have HHX:Hid ((((w3.setCell ⟨P,0,none⟩ (.slice qt mt ct)).setCell ⟨P,0,none⟩ (.slice qt mt ct)).setCell ⟨P,1,none⟩ (.slice qb mb cb)).heap[P]?=some (.cells #[.slice qt mt ct,.slice qb mb cb] 24 (0,0))):=HRF
  clear D3 O3 G3 hGB hg1 hg2 HRT HRF hR3 sf uf
  go_wp2_with fail
  generalize (((w3.setCell ⟨P,0,none⟩ (.slice qt mt ct)).setCell ⟨P,0,none⟩ (.slice qt mt ct)).setCell ⟨P,1,none⟩ (.slice qb mb cb))=Z at *
  obtain⟨y0,y1,-⟩:=rowTwo HHX.out
  exact bodyPost_ret (v:=.tuple #[.agg #[.slice qt mt ct,.slice qb mb cb],tv,.int .i64 (tkl ⟨a,b,c,d,p,q,s,t⟩ bs q).2.2,.nilIface]) (by simp[results,Tryz.results61,go_sem,y0,y1]) rfl hPO
end Go.Proofs.YtnjpjieedgmffaaGreatDoor.mee
