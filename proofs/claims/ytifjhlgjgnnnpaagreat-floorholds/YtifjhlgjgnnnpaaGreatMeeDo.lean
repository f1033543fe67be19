import Derived.Test.YtifjhlgjgnnnpaaGreatBokFind
import Derived.Test.YtifjhlgjgnnnpaaGreatMeeLvl
set_option maxHeartbeats 4000000
set_option maxRecDepth 100000
namespace Go.Proofs.YtifjhlgjgnnnpaaGreat
namespace bok
open Go.RowKit spn que sid
theorem zHh(q1 q2:Option Addr)(n1 n2 c1 c2:Nat)(bs ss:List L)(id:Int)(hid:(Lit.int .i64 id).wf=true)(w:World)(h1:LS w (.slice q1 n1 c1) bs)(h2:LS w (.slice q2 n2 c2) ss)(h0:zAd bs ss=0)(hno1:zAE 1 bs id=5)(hno2:zAE 2 ss id=5) :
  Calls Tryz.prog 76 #[.agg #[.slice q1 n1 c1,.slice q2 n2 c2],.int .i64 id] w fun e w'=>e=.returned (.tuple #[.int .i64 0,.int .i64 0,.agg #[.int .i64 0,.int .i64 0,.int .i64 0,.int .i64 0,.int .i64 0],.iface 91 (.int .i64 5)])∧Below w.heap.size w w':=by
 have HCH:=fun W(hW:Below w.heap.size w W)=>check_any q1 q2 n1 n2 c1 c2 bs ss W (h1.below hW) (h2.below hW)
 rw[h0,errV_zero] at HCH
 have HF2:=fun W(hW:Below w.heap.size w W)=>find_any 2 _ ss id W (h2.below hW) hid
 rw[show zBj 2 ss id=.tuple #[.int .i64 0,.int .i64 0,.iface 91 (.int .i64 5)] from by unfold zBj zBk;rw[if_neg (by omega),hno2];rfl] at HF2
 have HF1:=fun W(hW:Below w.heap.size w W)=>find_any 1 _ bs id W (h1.below hW) hid
 rw[show zBj 1 bs id=.tuple #[.int .i64 0,.int .i64 0,.iface 91 (.int .i64 5)] from by unfold zBj zBk;rw[if_neg (by omega),hno1];rfl] at HF1
 obtain⟨V,hV⟩:∃V,V=(w.alloc (.cells #[.slice q1 n1 c1,.slice q2 n2 c2] 46)).alloc (.cells #[.int .i64 0,.int .i64 0,.int .i64 0,.int .i64 0,.int .i64 0] 54):=⟨_,rfl⟩
 have HB:Hid (Below w.heap.size w V):=by rw[hV];exact((bzR _ _).alloc (nzR _) _).alloc (by simp) _
 have v0:V.cell? ⟨w.heap.size,0,none⟩=some (.slice q1 n1 c1):=by rw[hV];simp[go_sem]
 have v1:V.cell? ⟨w.heap.size,1,none⟩=some (.slice q2 n2 c2):=by rw[hV];simp[go_sem]
 have hR:V.heap[w.heap.size+1]?=some (.cells #[.int .i64 0,.int .i64 0,.int .i64 0,.int .i64 0,.int .i64 0] 54 (0,0)):=by
  rw[hV]
  have:=jA (w.alloc (.cells #[.slice q1 n1 c1,.slice q2 n2 c2] 46)) (.cells #[.int .i64 0,.int .i64 0,.int .i64 0,.int .i64 0,.int .i64 0] 54)
  simpa using this
 have hVs:w.heap.size+1<V.heap.size:=(gzE.1 hR).1
 clear h1 h2 h0 hid hno1 hno2
 go_enter Tryz.func76,Tryz.ntmps76
 go_wp2_with fail
 rw[←hV]
 refine(HCH V HB.out).mono ?_
 rintro x w1⟨rfl,b1⟩
 have HB1:Hid (Below w.heap.size w w1):=HB.out.trans (b1.mono HB.out.size)
 have x0:=zAa b1 v0
 have x1:=zAa b1 v1
 have hR1:w1.heap[w.heap.size+1]?=some (.cells #[.int .i64 0,.int .i64 0,.int .i64 0,.int .i64 0,.int .i64 0] 54 (0,0)):=by rw[b1.block _ hVs];exact hR
 have hs1:w.heap.size+1<w1.heap.size:=jC hVs b1.size
 clear b1 HCH v0 v1 hR
 go_wp2_with fail
 go_loopg [9,10,11,12,13] 3 (fun gg s9 _ _ _ _ wr=>((s9=.int .i64 1∧3≤gg)∨(s9=.int .i64 2∧2≤gg)∨s9=.int .i64 3)∧Aside (Below w1.heap.size w1 wr))
 case atStart=>exact⟨.inl ⟨rfl,nzR _⟩,bzR _ _⟩
 case round=>
  obtain⟨hor,BW⟩:=hrel
  have d0:=zAa BW.out x0
  have d1:=zAa BW.out x1
  have HW1:Hid (Below w.heap.size w wr):=HB1.out.trans (BW.out.mono HB1.out.size)
  rcases hor with ⟨rfl,hgk⟩|⟨rfl,hgk⟩|rfl
  ·have hgm:2<gk:=by omega
   go_wp2_with fail
   refine(zAv 1 q1 q2 n1 n2 c1 c2 wr).mono ?_
   rintro x w2⟨rfl,b2⟩
   rw[show (if (1:Int)=1 then Value.slice q1 n1 c1 else .slice q2 n2 c2)=.slice q1 n1 c1 from rfl]
   have HB2:Hid (Below wr.heap.size wr w2):=b2
   clear b2
   go_wp2_with fail
   refine(HF1 w2 (HW1.out.trans (HB2.out.mono HW1.out.size))).mono ?_
   rintro x w3⟨rfl,b3⟩
   have HB3:Hid (Below w1.heap.size w1 w3):=BW.out.trans ((HB2.out.trans (b3.mono HB2.out.size)).mono BW.out.size)
   clear b3 HF1 HF2 d0 d1
   go_wp2_with fail
   go_roundg 2
   case measure=>exact hgm
   case rel=>exact⟨.inr (.inl ⟨rfl,nzR _⟩),HB3.out⟩
  ·have hgm:1<gk:=by omega
   go_wp2_with fail
   refine(zAv 2 q1 q2 n1 n2 c1 c2 wr).mono ?_
   rintro x w2⟨rfl,b2⟩
   rw[show (if (2:Int)=1 then Value.slice q1 n1 c1 else .slice q2 n2 c2)=.slice q2 n2 c2 from rfl]
   have HB2:Hid (Below wr.heap.size wr w2):=b2
   clear b2
   go_wp2_with fail
   refine(HF2 w2 (HW1.out.trans (HB2.out.mono HW1.out.size))).mono ?_
   rintro x w3⟨rfl,b3⟩
   have HB3:Hid (Below w1.heap.size w1 w3):=BW.out.trans ((HB2.out.trans (b3.mono HB2.out.size)).mono BW.out.size)
   clear b3 HF1 HF2 d0 d1
   go_wp2_with fail
   go_roundg 1
   case measure=>exact hgm
   case rel=>exact⟨.inr (.inr rfl),HB3.out⟩
  ·have hRW:wr.heap[w.heap.size+1]?=some (.cells #[.int .i64 0,.int .i64 0,.int .i64 0,.int .i64 0,.int .i64 0] 54 (0,0)):=by rw[BW.out.block _ hs1];exact hR1
   obtain⟨e0,e1,e2,e3,e4,hfr⟩:=zAe hRW
   have f0:=hfr 0
   have f1:=hfr 1
   have f2:=hfr 2
   have f3:=hfr 3
   have f4:=hfr 4
   have hBW:=HW1.out
   have HHX:Hid ((((((wr.setCell ⟨w.heap.size+1,0,none⟩ (.int .i64 0)).setCell ⟨w.heap.size+1,1,none⟩ (.int .i64 0)).setCell ⟨w.heap.size+1,2,none⟩ (.int .i64 0)).setCell ⟨w.heap.size+1,3,none⟩ (.int .i64 0)).setCell ⟨w.heap.size+1,4,none⟩ (.int .i64 0)).heap[w.heap.size+1]?=some (.cells #[.int .i64 0,.int .i64 0,.int .i64 0,.int .i64 0,.int .i64 0] 54 (0,0))):=zAV hRW _ _ _ _ _
   have HBX:Hid (Below w.heap.size w (((((wr.setCell ⟨w.heap.size+1,0,none⟩ (.int .i64 0)).setCell ⟨w.heap.size+1,1,none⟩ (.int .i64 0)).setCell ⟨w.heap.size+1,2,none⟩ (.int .i64 0)).setCell ⟨w.heap.size+1,3,none⟩ (.int .i64 0)).setCell ⟨w.heap.size+1,4,none⟩ (.int .i64 0))):=((((hBW.setCell (Nat.le_succ _) _).setCell (Nat.le_succ _) _).setCell (Nat.le_succ _) _).setCell (Nat.le_succ _) _).setCell (Nat.le_succ _) _
   clear hfr hRW HF1 HF2 d0 d1
   go_wp2_with fail
   generalize (((((wr.setCell ⟨w.heap.size+1,0,none⟩ (.int .i64 0)).setCell ⟨w.heap.size+1,1,none⟩ (.int .i64 0)).setCell ⟨w.heap.size+1,2,none⟩ (.int .i64 0)).setCell ⟨w.heap.size+1,3,none⟩ (.int .i64 0)).setCell ⟨w.heap.size+1,4,none⟩ (.int .i64 0))=X at *
   obtain⟨y0,y1,y2,y3,y4,-⟩:=zAe HHX.out
   exact jN (v:=.tuple #[.int .i64 0,.int .i64 0,.agg #[.int .i64 0,.int .i64 0,.int .i64 0,.int .i64 0,.int .i64 0],.iface 91 (.int .i64 5)]) (by simp[results,Tryz.results76,go_sem,y0,y1,y2,y3,y4]) rfl ⟨rfl,HBX.out⟩
def zAh(bs ss:List L)(id:Int):Bool:=decide (id∈ids bs∨id∈ids ss)
theorem zCH{s:Int}{ls:List L}{id:Int}(h0:schk s ls=0)(h:id∈ids ls):zAE s ls id=0:=by
 have h2:=zFU.1 h
 unfold zAE
 rw[if_pos h0,if_pos (by
  cases hl:zAB (flatP 0 ls) id with
  | none=>exact absurd hl h2
  | some t=>rfl)]
theorem zBf{s:Int}{ls:List L}{id:Int}(h0:schk s ls=0)(h:¬id∈ids ls):zAE s ls id=5:=by
 have h2:zAB (flatP 0 ls) id=none:=Classical.byContradiction fun hn=>h (zFU.2 hn)
 unfold zAE
 rw[if_pos h0,h2]
 rfl
theorem zHH{s:Int}{ls:List L}{id:Int}(hf:zAE s ls id=0):∃i k:Nat,∃hi:i<ls.length,k<ls[i].rests.length∧zBj s ls id=.tuple #[.int .i64 i,.int .i64 k,.nilIface]:=by
 obtain⟨-,i,k,hi,hk,-,hp⟩:=zDd hf
 exact⟨i,k,hi,hk,by unfold zBj;rw[hp,hf];rfl⟩
theorem zPG(q1 q2:Option Addr)(n1 n2 c1 c2:Nat)(bs ss:List L)(id:Int)(hid:(Lit.int .i64 id).wf=true)(w:World)(h1:LS w (.slice q1 n1 c1) bs)(h2:LS w (.slice q2 n2 c2) ss)(h0:zAd bs ss=0) :
  Calls Tryz.prog 76 #[.agg #[.slice q1 n1 c1,.slice q2 n2 c2],.int .i64 id] w fun e w'=>∃a b r1 r2 r3 r4 r5,e=.returned (.tuple #[.int .i64 a,.int .i64 b,.agg #[.int .i64 r1,.int .i64 r2,.int .i64 r3,.int .i64 r4,.int .i64 r5],errV (if zAh bs ss id=true then 0 else 5)])∧Below w.heap.size w w':=by
 obtain⟨ee1,ee2,-⟩:=zAf h0
 unfold zAh
 by_cases hb:id∈ids bs
 ·rw[if_pos (by simp[hb])]
  obtain⟨i,k,hi,hk,hv⟩:=zHH (zCH ee1 hb)
  refine(zFe q1 q2 n1 n2 c1 c2 bs ss id hid i k w h1 h2 h0 hi hk hv).mono ?_
  rintro e w'⟨rfl,hB⟩
  exact⟨_,_,_,_,_,_,_,rfl,hB⟩
 ·by_cases hs:id∈ids ss
  ·rw[if_pos (by simp[hs])]
   obtain⟨i,k,hi,hk,hv⟩:=zHH (zCH ee2 hs)
   refine(zFf q1 q2 n1 n2 c1 c2 bs ss id hid i k w h1 h2 h0 (zBf ee1 hb) hi hk hv).mono ?_
   rintro e w'⟨rfl,hB⟩
   exact⟨_,_,_,_,_,_,_,rfl,hB⟩
  ·rw[if_neg (by simp[hb,hs])]
   refine(zHh q1 q2 n1 n2 c1 c2 bs ss id hid w h1 h2 h0 (zBf ee1 hb) (zBf ee2 hs)).mono ?_
   rintro e w'⟨rfl,hB⟩
   exact⟨_,_,_,_,_,_,_,rfl,hB⟩
end bok
namespace mee
open Go.RowKit spn que sid bok
open ord (O oV mB mE chk zAx)
def GrB(w W:World)(base:Nat)(row:Option Nat):Prop:=w.heap.size≤W.heap.size∧∀k,base≤k→k<w.heap.size→row≠some k→W.heap[k]?=w.heap[k]?
theorem zKv{w W:World}{base:Nat}{e:TypeId}{sz:Nat}{v:Value}{n:Nat}{xs:List Value}{row:Option Nat}(h:OwnM w base e sz v n xs)(hg:GrB w W base row)(hne:∀x,v.ownBlock=some x→row≠some x):OwnM W base e sz v n xs:=by
 refine⟨h.1,?_⟩
 rcases h.2 with hn|⟨g,off,cap,cur,rfl,hb,hgg,rest⟩
 ·exact .inl hn
 ·exact .inr ⟨g,off,cap,cur,rfl,hb,(hg.2 g hb (gzE.1 hgg).1 (hne g rfl)).trans hgg,rest⟩
theorem zHI{w W:World}{base:Nat}{v:Value}{ps:List RP}{row:Option Nat}(h:Deep w base v ps)(hg:GrB w W base row)(h1:∀x,v.ownBlock=some x→row≠some x)(h2:∀p∈ps,∀x,blkR p.1=some x→row≠some x):Deep W base v ps:=
 ⟨zKv h.own hg h1,fun p hp=>zKv (h.each p hp) hg (h2 p hp),h.apart,h.far⟩
theorem zNi{W0 Wa W1 Wb X:World}{base R:Nat}{va vb:Value}{bs ss:List L}(ha:DL Wa W0.heap.size va bs)(h0:W0.heap.size≤Wa.heap.size)(h1:Below Wa.heap.size Wa W1)(hb:DL Wb W1.heap.size vb ss)(h2:Below W1.heap.size W1 Wb)(hg:Wb.grownBy X (some R))(hR:R<W0.heap.size)(hB:base≤W0.heap.size) :
  DL X base va bs∧DL X base vb ss∧(∀W,GrB X W base vb.ownBlock→DL W base va bs)∧(∀W,GrB X W base va.ownBlock→DL W base vb ss):=by
 obtain⟨pa,ea,Da⟩:=ha
 obtain⟨pb,eb,Db⟩:=hb
 have hs1:=h1.size
 have hs2:=h2.size
 have D1:=Da.below h1
 have DX:Deep X W0.heap.size va pa:=(D1.below h2).other hg hR
 have EX:Deep X W1.heap.size vb pb:=Db.other hg (by omega)
 refine⟨⟨pa,ea,DX.mono hB⟩,⟨pb,eb,EX.mono (by omega)⟩,fun W hW=>⟨pa,ea,zHI (DX.mono hB) hW ?_ ?_⟩,fun W hW=>⟨pb,eb,zHI (EX.mono (by omega)) hW ?_ ?_⟩⟩
 ·intro x hx e
  have:=(OwnM.lt D1.own x hx).2
  have:=(OwnM.lt Db.own x e).1
  omega
 ·intro p hp x hx e
  have:=(OwnM.lt (D1.each p hp) x hx).2
  have:=(OwnM.lt Db.own x e).1
  omega
 ·intro x hx e
  have:=(OwnM.lt Db.own x hx).1
  have:=(OwnM.lt D1.own x e).2
  omega
 ·intro p hp x hx e
  have:=(OwnM.lt (Db.each p hp) x hx).1
  have:=(OwnM.lt D1.own x e).2
  omega
def BFPost(bs ss:List L)(w:World)(e:Ending)(w' : World):Prop:=
 ∃q1 q2 n1 n2 c1 c2,e=.returned (.agg #[.slice q1 n1 c1,.slice q2 n2 c2])∧Below w.heap.size w w'∧DL w' w.heap.size (.slice q1 n1 c1) bs∧DL w' w.heap.size (.slice q2 n2 c2) ss∧
  (∀W,GrB w' W w.heap.size (Value.slice q2 n2 c2).ownBlock→DL W w.heap.size (.slice q1 n1 c1) bs)∧(∀W,GrB w' W w.heap.size (Value.slice q1 n1 c1).ownBlock→DL W w.heap.size (.slice q2 n2 c2) ss)
theorem zDp(q1 q2:Option Addr)(n1 n2 c1 c2:Nat)(bs ss:List L)(w:World)(h1:LS w (.slice q1 n1 c1) bs)(h2:LS w (.slice q2 n2 c2) ss)(k1:schk 1 bs=0)(k2:schk 2 ss=0) :
  Calls Tryz.prog 31 #[.agg #[.slice q1 n1 c1,.slice q2 n2 c2]] w fun e w'=>BFPost bs ss w e w':=by
 have hlen:∀ {t:Int}{xs:List L},schk t xs=0→xs.length≤1000∧(∀l∈xs,l.rests.length≤1000):=fun {t xs} hk=>by
  obtain⟨-,z2,z3,-⟩:=zAc hk
  have:=zCQ (zAs z2)
  exact⟨by omega,fun l hl=>by have:=zAR hl;omega⟩
 obtain⟨V2,hV2⟩:∃V2,V2=w.alloc (.cells #[.slice q1 n1 c1,.slice q2 n2 c2] 46):=⟨_,rfl⟩
 have HB2:Hid (Below w.heap.size w V2):=by rw[hV2];exact(bzR _ _).alloc (nzR _) _
 have hs2:V2.heap.size=w.heap.size+1:=by rw[hV2];simp
 have HF1:Hid (∀W,Below V2.heap.size V2 W→W.heap[V2.heap.size]?=some (.cells #[.slice none 0 0,.slice none 0 0] 46 (0,0))→Calls Tryz.prog 58 #[.slice q1 n1 c1] W fun e w'=>∃q m c,e=.returned (.slice q m c)∧DL w' W.heap.size (.slice q m c) bs∧Below W.heap.size W w'∧Below V2.heap.size V2 w'∧w'.heap[V2.heap.size]?=some (.cells #[.slice none 0 0,.slice none 0 0] 46 (0,0))):=fun W hW hWR=>by
  refine(zBp _ bs W (h1.below (HB2.out.trans (hW.mono HB2.out.size))) (hlen k1).1 (hlen k1).2 (zBd k1)).mono ?_
  rintro e w'⟨v',ps,rfl,hps,hD,b1⟩
  obtain⟨q',c',hv'⟩:=OwnM.form hD.own
  subst hv'
  exact⟨_,_,_,rfl,⟨ps,hps,hD⟩,b1,hW.trans (b1.mono hW.size),(b1.block _ (gzE.1 hWR).1).trans hWR⟩
 have HF2:Hid (∀W,Below V2.heap.size V2 W→W.heap[V2.heap.size]?=some (.cells #[.slice none 0 0,.slice none 0 0] 46 (0,0))→Calls Tryz.prog 58 #[.slice q2 n2 c2] W fun e w'=>∃q m c,e=.returned (.slice q m c)∧DL w' W.heap.size (.slice q m c) ss∧Below W.heap.size W w'∧Below V2.heap.size V2 w'∧w'.heap[V2.heap.size]?=some (.cells #[.slice none 0 0,.slice none 0 0] 46 (0,0))):=fun W hW hWR=>by
  refine(zBp _ ss W (h2.below (HB2.out.trans (hW.mono HB2.out.size))) (hlen k2).1 (hlen k2).2 (zBd k2)).mono ?_
  rintro e w'⟨v',ps,rfl,hps,hD,b1⟩
  obtain⟨q',c',hv'⟩:=OwnM.form hD.own
  subst hv'
  exact⟨_,_,_,rfl,⟨ps,hps,hD⟩,b1,hW.trans (b1.mono hW.size),(b1.block _ (gzE.1 hWR).1).trans hWR⟩
 obtain⟨V,hV⟩:∃V,V=V2.alloc (.cells #[.slice none 0 0,.slice none 0 0] 46):=⟨_,rfl⟩
 have HBV:Hid (Below V2.heap.size V2 V):=by rw[hV];exact(bzR _ _).alloc (nzR _) _
 have hR:V.heap[V2.heap.size]?=some (.cells #[.slice none 0 0,.slice none 0 0] 46 (0,0)):=by rw[hV];exact jA V2 _
 have v0:V2.cell? ⟨w.heap.size,0,none⟩=some (.slice q1 n1 c1):=by rw[hV2];simp[go_sem]
 have v1:V2.cell? ⟨w.heap.size,1,none⟩=some (.slice q2 n2 c2):=by rw[hV2];simp[go_sem]
 have hVs:V2.heap.size<V.heap.size:=(gzE.1 hR).1
 have SO:Hid (∀W,Below V2.heap.size V2 W→(Below V2.heap.size V2 W∧W.cell? ⟨w.heap.size,0,none⟩=some (.slice q1 n1 c1)∧W.cell? ⟨w.heap.size,1,none⟩=some (.slice q2 n2 c2))):=fun W hW=>⟨hW,zAa hW v0,zAa hW v1⟩
 clear h1 h2 k1 k2 hlen
 obtain⟨P,hP⟩:∃P,P=w.heap.size+1:=⟨_,rfl⟩
 have hPs:V2.heap.size=P:=by rw[hs2,hP]
 rw[hPs] at HF1 HF2 HBV hR hVs SO
 have HP:Hid (V2.heap.size=P∧P=w.heap.size+1):=⟨hPs,hP⟩
 clear hs2 hPs v0 v1
 go_enter Tryz.func31,Tryz.ntmps31
 go_upto_region 1 with fail
 rw[←hV2,←hV]
 simp only[←hP]
 clear hV2 hV hP
 obtain⟨z0,z1,hfz⟩:=zAb hR
 have z2:=hfz 0
 have z3:=hfz 1
 obtain⟨-,y0,y1⟩:=SO.out V HBV.out
 have hRd:V.drew.heap[P]?=some (.cells #[.slice none 0 0,.slice none 0 0] 46 (0,0)):=((bzR _ V).drew.block P hVs).trans hR
 go_region_with (first|(go_at_call 58;with_reducible refine(HF1.out _ ?_ ?_).mono ?_;(with_reducible repeat' (first|exact HBV.out|assumption|refine Below.drew ?_));rintro x Wa ⟨qa,ma,ca,rfl,hDa,hba,hna,hRa⟩;obtain⟨-,ka0,ka1⟩:=SO.out Wa hna)|(go_at_call 58;with_reducible refine(HF2.out _ ?_ ?_).mono ?_;(with_reducible repeat' (first|assumption|refine Below.drew ?_));rintro x Wb ⟨qb,mb,cb,rfl,hDb,hbb,hnb,hRb⟩;obtain⟨pb0,pb1,pfb⟩:=zAb hRb;have pb2:=pfb 0;have pb3:=pfb 1))
 all_goals go_wp2_with fail
 all_goals
  have hg:=zAN Wb P (.slice qa ma ca) (.slice qb mb cb)
  have HX:=zAw hRb (.slice qa ma ca) (.slice qb mb cb)
  have hlt:P<V.drew.heap.size:=(gzE.1 hRd).1
  have hPw:=HP.out
  obtain⟨g1,g2,g3,g4⟩:=zNi (base:=w.heap.size) hDa hba.size (bzR _ _) hDb hbb hg hlt (by omega)
  have hBX:Below w.heap.size w ((Wb.setCell ⟨P,0,none⟩ (.slice qa ma ca)).setCell ⟨P,1,none⟩ (.slice qb mb cb)):=by
   have h1:Below w.heap.size w Wb:=HB2.out.trans (hnb.mono (by omega))
   exact h1.grown hg h1.size (fun k hk=>by cases hk;omega)
  generalize (Wb.setCell ⟨P,0,none⟩ (.slice qa ma ca)).setCell ⟨P,1,none⟩ (.slice qb mb cb)=X at *
  obtain⟨t0,t1,-⟩:=zAb HX
  exact jN (v:=.agg #[.slice qa ma ca,.slice qb mb cb]) (by simp[results,Tryz.results31,go_sem,t0,t1]) rfl ⟨_,_,_,_,_,_,rfl,hBX,g1,g2,g3,g4⟩
def zAu(bs ss:List L)(o:O):Int:=if zAd bs ss=0 then (if chk o=0 then (if o.stop=0 then (if zAh bs ss o.id=true then 7 else 0) else 6) else chk o) else zAd bs ss
theorem id_wf'{o:O}(h:chk o=0):(Lit.int .i64 o.id).wf=true:=by
 have h1:=(ord.zBx h).1
 simp[ord.zCM] at h1
 have e:wrap64 o.id=o.id:=by unfold wrap64;omega
 rw[←e]
 exact wrap64_wf _
theorem zEG(q1 q2:Option Addr)(n1 n2 c1 c2:Nat)(bs ss:List L)(a b c d p q s t:Int)(w:World)(h1:LS w (.slice q1 n1 c1) bs)(h2:LS w (.slice q2 n2 c2) ss) :
  Calls Tryz.prog 119 #[.agg #[.slice q1 n1 c1,.slice q2 n2 c2],.agg #[.int .i64 a,.int .i64 b,.int .i64 c,.int .i64 d,.int .i64 p,.int .i64 q,.int .i64 s,.int .i64 t]] w fun e w'=>e=.returned (errV (zAu bs ss ⟨a,b,c,d,p,q,s,t⟩))∧Below w.heap.size w w':=by
 obtain⟨V,hV⟩:∃V,V=(w.alloc (.cells #[.slice q1 n1 c1,.slice q2 n2 c2] 46)).alloc (.cells #[.int .i64 a,.int .i64 b,.int .i64 c,.int .i64 d,.int .i64 p,.int .i64 q,.int .i64 s,.int .i64 t] 32):=⟨_,rfl⟩
 have HB:Hid (Below w.heap.size w V):=by rw[hV];exact((bzR _ _).alloc (nzR _) _).alloc (by simp) _
 have v0:V.cell? ⟨w.heap.size,0,none⟩=some (.slice q1 n1 c1):=by rw[hV];simp[go_sem]
 have v1:V.cell? ⟨w.heap.size,1,none⟩=some (.slice q2 n2 c2):=by rw[hV];simp[go_sem]
 have hR:V.heap[w.heap.size+1]?=some (.cells #[.int .i64 a,.int .i64 b,.int .i64 c,.int .i64 d,.int .i64 p,.int .i64 q,.int .i64 s,.int .i64 t] 32 (0,0)):=by
  rw[hV]
  have:=jA (w.alloc (.cells #[.slice q1 n1 c1,.slice q2 n2 c2] 46)) (.cells #[.int .i64 a,.int .i64 b,.int .i64 c,.int .i64 d,.int .i64 p,.int .i64 q,.int .i64 s,.int .i64 t] 32)
  simpa using this
 have cel:∀i,V.cell? ⟨w.heap.size+1,i,none⟩=(#[.int .i64 a,.int .i64 b,.int .i64 c,.int .i64 d,.int .i64 p,.int .i64 q,.int .i64 s,.int .i64 t]:Array Value)[i]?:=fun i=>by simp[World.cell?,hR]
 have HSO:Hid (∀W,Below V.heap.size V W→Below w.heap.size w W∧W.cell? ⟨w.heap.size,0,none⟩=some (.slice q1 n1 c1)∧W.cell? ⟨w.heap.size,1,none⟩=some (.slice q2 n2 c2)∧W.cell? ⟨w.heap.size+1,0,none⟩=some (.int .i64 a)∧W.cell? ⟨w.heap.size+1,1,none⟩=some (.int .i64 b)∧W.cell? ⟨w.heap.size+1,2,none⟩=some (.int .i64 c)∧W.cell? ⟨w.heap.size+1,3,none⟩=some (.int .i64 d)∧W.cell? ⟨w.heap.size+1,4,none⟩=some (.int .i64 p)∧W.cell? ⟨w.heap.size+1,5,none⟩=some (.int .i64 q)∧W.cell? ⟨w.heap.size+1,6,none⟩=some (.int .i64 s)∧W.cell? ⟨w.heap.size+1,7,none⟩=some (.int .i64 t)):=
  fun W hW=>⟨HB.out.trans (hW.mono HB.out.size),zAa hW v0,zAa hW v1,zAa hW (cel 0),zAa hW (cel 1),zAa hW (cel 2),zAa hW (cel 3),zAa hW (cel 4),zAa hW (cel 5),zAa hW (cel 6),zAa hW (cel 7)⟩
 have HBK:Hid (∀W,Below w.heap.size w W→Calls Tryz.prog 11 #[.agg #[.slice q1 n1 c1,.slice q2 n2 c2]] W fun e w'=>e=.returned (errV (zAd bs ss))∧Below W.heap.size W w'):=fun W hW=>bok.check_any q1 q2 n1 n2 c1 c2 bs ss W (h1.below hW) (h2.below hW)
 have HOK:Hid (∀W,Calls Tryz.prog 41 #[.agg #[.int .i64 a,.int .i64 b,.int .i64 c,.int .i64 d,.int .i64 p,.int .i64 q,.int .i64 s,.int .i64 t]] W fun e w'=>e=.returned (errV (chk ⟨a,b,c,d,p,q,s,t⟩))∧Below W.heap.size W w'):=fun W=>ord.zDm a b c d p q s t W
 have HFD:Hid (∀W,zAd bs ss=0→chk ⟨a,b,c,d,p,q,s,t⟩=0→Below w.heap.size w W→Calls Tryz.prog 76 #[.agg #[.slice q1 n1 c1,.slice q2 n2 c2],.int .i64 a] W fun e w'=>∃x y r1 r2 r3 r4 r5,e=.returned (.tuple #[.int .i64 x,.int .i64 y,.agg #[.int .i64 r1,.int .i64 r2,.int .i64 r3,.int .i64 r4,.int .i64 r5],errV (if zAh bs ss a=true then 0 else 5)])∧Below W.heap.size W w'):=fun W e1 e2 hW=>zPG q1 q2 n1 n2 c1 c2 bs ss a (id_wf' e2) W (h1.below hW) (h2.below hW) e1
 generalize hk:zAu bs ss ⟨a,b,c,d,p,q,s,t⟩=k
 have HK:Hid (zAu bs ss ⟨a,b,c,d,p,q,s,t⟩=k):=hk
 clear hk h1 h2 hR v0 v1 cel
 obtain⟨-,x0,x1,o0,o1,o2,o3,o4,o5,o6,o7⟩:=HSO.out V (bzR _ _)
 go_enter Tryz.func119,Tryz.ntmps119
 go_wp2_with fail
 rw[←hV]
 clear hV
 refine(HBK.out V HB.out).mono ?_
 rintro x w1⟨rfl,b1⟩
 obtain⟨hW1,y0,y1,p0,p1,p2,p3,p4,p5,p6,p7⟩:=HSO.out w1 b1
 have HV1:Hid (Below V.heap.size V w1):=b1
 clear b1 x0 x1 o0 o1 o2 o3 o4 o5 o6 o7
 by_cases e1:zAd bs ss=0
 rotate_left
 ·have hk:Hid (k=zAd bs ss):=by show _=_;rw[←HK.out];unfold zAu;rw[if_neg e1]
  rw[errV_of e1]
  go_wp2_with fail
  go_ret
  exact⟨by rw[hk.out,errV_of e1];rfl,hW1⟩
 rw[e1,errV_zero]
 go_wp2_with fail
 refine(HOK.out _).mono ?_
 rintro x w2⟨rfl,b2⟩
 have HV2:Hid (Below V.heap.size V w2):=HV1.out.trans (b2.mono HV1.out.size)
 obtain⟨hW2,z0,z1,r0,r1,r2,r3,r4,r5,r6,r7⟩:=HSO.out w2 HV2.out
 clear b2 y0 y1 p0 p1 p2 p3 p4 p5 p6 p7 hW1
 by_cases e2:chk ⟨a,b,c,d,p,q,s,t⟩=0
 rotate_left
 ·have hk:Hid (k=chk ⟨a,b,c,d,p,q,s,t⟩):=by show _=_;rw[←HK.out];unfold zAu;rw[if_pos e1,if_neg e2]
  rw[errV_of e2]
  go_wp2_with fail
  go_ret
  exact⟨by rw[hk.out,errV_of e2];rfl,hW2⟩
 rw[e2,errV_zero]
 by_cases e3:t=0
 rotate_left
 ·have hk:k=6:=by rw[←HK.out];unfold zAu;rw[if_pos e1,if_pos e2,if_neg e3]
  subst hk
  have e3b:(t != 0)=true:=by simp[e3]
  go_wp2_with fail
  go_ret
  exact⟨rfl,hW2⟩
 subst e3
 have HFF:=HFD.out w2 e1 e2 hW2
 have HKK:Hid (k=if zAh bs ss a=true then 7 else 0):=by show _=_;rw[←HK.out];unfold zAu;rw[if_pos e1,if_pos e2,if_pos rfl]
 clear HK HFD
 generalize zAh bs ss a=ib at *
 have HFF2:Hid (Calls Tryz.prog 76 #[.agg #[.slice q1 n1 c1,.slice q2 n2 c2],.int .i64 a] w2 fun e w'=>∃x y r1 r2 r3 r4 r5,e=.returned (.tuple #[.int .i64 x,.int .i64 y,.agg #[.int .i64 r1,.int .i64 r2,.int .i64 r3,.int .i64 r4,.int .i64 r5],errV (if ib=true then 0 else 5)])∧Below w2.heap.size w2 w'):=HFF
 clear HFF
 cases ib
 ·have hk:k=0:=by rw[HKK.out];rfl
  subst hk
  rw[show errV (if false=true then 0 else 5)=.iface 91 (.int .i64 5) from rfl] at HFF2
  go_wp2_with fail
  refine HFF2.out.mono ?_
  rintro x w3⟨x',y',k1,k2,k3,k4,k5,rfl,b3⟩
  have hW3:Below w.heap.size w w3:=hW2.trans (b3.mono hW2.size)
  clear b3
  go_wp2_with fail
  go_ret
  exact⟨rfl,hW3.alloc hW3.size _⟩
 ·have hk:k=7:=by rw[HKK.out];rfl
  subst hk
  rw[show errV (if true=true then 0 else 5)=.nilIface from rfl] at HFF2
  go_wp2_with fail
  refine HFF2.out.mono ?_
  rintro x w3⟨x',y',k1,k2,k3,k4,k5,rfl,b3⟩
  have hW3:Below w.heap.size w w3:=hW2.trans (b3.mono hW2.size)
  clear b3
  go_wp2_with fail
  go_ret
  exact⟨rfl,hW3.alloc hW3.size _⟩
def zAr(bs ss:List L)(o:O):List L:=if o.side=1 then ss else bs
def metR(bs ss:List L)(o:O):List L × List T × Int:=tkl o (zAr bs ss o) o.qty
def metB(bs ss:List L)(o:O):List L:=if o.side=1 then bs else (metR bs ss o).1
def metS(bs ss:List L)(o:O):List L:=if o.side=1 then (metR bs ss o).1 else ss
def TakePost(bs ss:List L)(o:O)(w:World)(e:Ending)(w' : World):Prop:=
 (zAu bs ss o=0→∃q1 q2 n1 n2 c1 c2 tv,e=.returned (.tuple #[.agg #[.slice q1 n1 c1,.slice q2 n2 c2],tv,.int .i64 (metR bs ss o).2.2,.nilIface])∧DL w' w.heap.size (.slice q1 n1 c1) (metB bs ss o)∧DL w' w.heap.size (.slice q2 n2 c2) (metS bs ss o)∧OwnT w' w.heap.size tv (metR bs ss o).2.1)∧
 (¬zAu bs ss o=0→e=.returned (.tuple #[.agg #[.slice none 0 0,.slice none 0 0],.slice none 0 0,.int .i64 0,errV (zAu bs ss o)]))∧Below w.heap.size w w'
theorem zAG{bs ss:List L}{o:O}(h:zAu bs ss o=0):zAd bs ss=0∧chk o=0∧o.stop=0∧zAh bs ss o.id=false:=by
 unfold zAu at h
 by_cases h1:zAd bs ss=0
 ·rw[if_pos h1] at h
  by_cases h2:chk o=0
  ·rw[if_pos h2] at h
   by_cases h3:o.stop=0
   ·rw[if_pos h3] at h
    cases h4:zAh bs ss o.id with
    | true=>rw[h4] at h;simp at h
    | false=>exact⟨h1,h2,h3,rfl⟩
   ·rw[if_neg h3] at h;omega
  ·rw[if_neg h2] at h;exact absurd h h2
 ·rw[if_neg h1] at h;exact absurd h h1
theorem zPH{w:World}{B:Nat}{y0 y1:Value}{t:TypeId}(h:w.heap[B]?=some (.cells #[y0,y1] t (0,0)))(x:Value):(w.setCell ⟨B,0,none⟩ x).heap[B]?=some (.cells #[x,y1] t (0,0)):=jB w B 0 _ _ x h
theorem zPI{w:World}{B:Nat}{y0 y1:Value}{t:TypeId}(h:w.heap[B]?=some (.cells #[y0,y1] t (0,0)))(x:Value):(w.setCell ⟨B,1,none⟩ x).heap[B]?=some (.cells #[y0,x] t (0,0)):=jB w B 1 _ _ x h
theorem zNj(q1 q2:Option Addr)(n1 n2 c1 c2:Nat)(bs ss:List L)(a b c d p q s t:Int)(w:World)(h1:LS w (.slice q1 n1 c1) bs)(h2:LS w (.slice q2 n2 c2) ss) :
  Calls Tryz.prog 92 #[.agg #[.slice q1 n1 c1,.slice q2 n2 c2],.agg #[.int .i64 a,.int .i64 b,.int .i64 c,.int .i64 d,.int .i64 p,.int .i64 q,.int .i64 s,.int .i64 t]] w fun e w'=>TakePost bs ss ⟨a,b,c,d,p,q,s,t⟩ w e w':=by
 obtain⟨V2,hV2⟩:∃V2,V2=(w.alloc (.cells #[.slice q1 n1 c1,.slice q2 n2 c2] 46)).alloc (.cells #[.int .i64 a,.int .i64 b,.int .i64 c,.int .i64 d,.int .i64 p,.int .i64 q,.int .i64 s,.int .i64 t] 32):=⟨_,rfl⟩
 have hs2:V2.heap.size=w.heap.size+2:=by rw[hV2];simp
 have HB2:Hid (Below w.heap.size w V2):=by rw[hV2];exact((bzR _ _).alloc (nzR _) _).alloc (by simp) _
 have v0:V2.cell? ⟨w.heap.size,0,none⟩=some (.slice q1 n1 c1):=by rw[hV2];simp[go_sem]
 have v1:V2.cell? ⟨w.heap.size,1,none⟩=some (.slice q2 n2 c2):=by rw[hV2];simp[go_sem]
 have hRo:V2.heap[w.heap.size+1]?=some (.cells #[.int .i64 a,.int .i64 b,.int .i64 c,.int .i64 d,.int .i64 p,.int .i64 q,.int .i64 s,.int .i64 t] 32 (0,0)):=by
  rw[hV2]
  have:=jA (w.alloc (.cells #[.slice q1 n1 c1,.slice q2 n2 c2] 46)) (.cells #[.int .i64 a,.int .i64 b,.int .i64 c,.int .i64 d,.int .i64 p,.int .i64 q,.int .i64 s,.int .i64 t] 32)
  simpa using this
 have cel:∀i,V2.cell? ⟨w.heap.size+1,i,none⟩=(#[.int .i64 a,.int .i64 b,.int .i64 c,.int .i64 d,.int .i64 p,.int .i64 q,.int .i64 s,.int .i64 t]:Array Value)[i]?:=fun i=>by simp[World.cell?,hRo]
 obtain⟨V,hV⟩:∃V,V=V2.alloc (.cells #[.slice none 0 0,.slice none 0 0] 46):=⟨_,rfl⟩
 have hBV2:Below V2.heap.size V2 V:=by rw[hV];exact(bzR _ _).alloc (nzR _) _
 have HBV:Hid (Below V2.heap.size V2 V):=hBV2
 have hR0:V.heap[V2.heap.size]?=some (.cells #[.slice none 0 0,.slice none 0 0] 46 (0,0)):=by rw[hV];exact jA V2 _
 have HSO:Hid (∀W,Below V2.heap.size V2 W→Below w.heap.size w W∧W.cell? ⟨w.heap.size,0,none⟩=some (.slice q1 n1 c1)∧W.cell? ⟨w.heap.size,1,none⟩=some (.slice q2 n2 c2)∧W.cell? ⟨w.heap.size+1,0,none⟩=some (.int .i64 a)∧W.cell? ⟨w.heap.size+1,1,none⟩=some (.int .i64 b)∧W.cell? ⟨w.heap.size+1,2,none⟩=some (.int .i64 c)∧W.cell? ⟨w.heap.size+1,3,none⟩=some (.int .i64 d)∧W.cell? ⟨w.heap.size+1,4,none⟩=some (.int .i64 p)∧W.cell? ⟨w.heap.size+1,5,none⟩=some (.int .i64 q)∧W.cell? ⟨w.heap.size+1,6,none⟩=some (.int .i64 s)∧W.cell? ⟨w.heap.size+1,7,none⟩=some (.int .i64 t)):=
  fun W hW=>⟨HB2.out.trans (hW.mono HB2.out.size),zAa hW v0,zAa hW v1,zAa hW (cel 0),zAa hW (cel 1),zAa hW (cel 2),zAa hW (cel 3),zAa hW (cel 4),zAa hW (cel 5),zAa hW (cel 6),zAa hW (cel 7)⟩
 have HCK:Hid (∀W,Below w.heap.size w W→Calls Tryz.prog 119 #[.agg #[.slice q1 n1 c1,.slice q2 n2 c2],.agg #[.int .i64 a,.int .i64 b,.int .i64 c,.int .i64 d,.int .i64 p,.int .i64 q,.int .i64 s,.int .i64 t]] W fun e w'=>e=.returned (errV (zAu bs ss ⟨a,b,c,d,p,q,s,t⟩))∧Below W.heap.size W w'):=fun W hW=>zEG q1 q2 n1 n2 c1 c2 bs ss a b c d p q s t W (h1.below hW) (h2.below hW)
 have HFR:Hid (∀W,zAd bs ss=0→Below w.heap.size w W→Calls Tryz.prog 31 #[.agg #[.slice q1 n1 c1,.slice q2 n2 c2]] W fun e w'=>BFPost bs ss W e w'):=fun W h0 hW=>zDp q1 q2 n1 n2 c1 c2 bs ss W (h1.below hW) (h2.below hW) (zAf h0).1 (zAf h0).2.1
 obtain⟨P,hP⟩:∃P,P=w.heap.size+2:=⟨_,rfl⟩
 have hPs:V2.heap.size=P:=by rw[hs2,hP]
 rw[hPs] at hR0 HSO HBV
 have HP:Hid (V2.heap.size=P∧P=w.heap.size+2):=⟨hPs,hP⟩
 clear h1 h2 v0 v1 hRo cel hs2 hBV2 hPs
 go_enter Tryz.func92,Tryz.ntmps92
 go_wp2_with fail
 rw[←hV2,←hV]
 simp only[←hP]
 clear hV2 hV hP
 have HVw:Hid (Below w.heap.size w V):=(HSO.out V HBV.out).1
 obtain⟨-,x0,x1,o0,o1,o2,o3,o4,o5,o6,o7⟩:=HSO.out V HBV.out
 refine(HCK.out V HVw.out).mono ?_
 rintro x w1⟨rfl,b1⟩
 have HBV1:Hid (Below P V2 w1):=HBV.out.trans (b1.mono (jX (gzE.1 hR0).1))
 obtain⟨hW1,y0,y1,p0,p1,p2,p3,p4,p5,p6,p7⟩:=HSO.out w1 HBV1.out
 have HW1:Hid (Below w.heap.size w w1):=hW1
 have hR1:w1.heap[P]?=some (.cells #[.slice none 0 0,.slice none 0 0] 46 (0,0)):=(b1.block P (gzE.1 hR0).1).trans hR0
 have hPw1:P<w1.heap.size:=(gzE.1 hR1).1
 clear b1 x0 x1 o0 o1 o2 o3 o4 o5 o6 o7 hR0 hW1
 obtain⟨z0,z1,zf⟩:=zAb hR1
 have zf0:=zf 0
 have zf1:=zf 1
 by_cases hC:zAu bs ss ⟨a,b,c,d,p,q,s,t⟩=0
 rotate_left
 ·have HRF:=zAw hR1 (.slice none 0 0) (.slice none 0 0)
  have hg:=zAN w1 P (.slice none 0 0) (.slice none 0 0)
  have hPO:TakePost bs ss ⟨a,b,c,d,p,q,s,t⟩ w (.returned (.tuple #[.agg #[.slice none 0 0,.slice none 0 0],.slice none 0 0,.int .i64 0,.iface 91 (.int .i64 (zAu bs ss ⟨a,b,c,d,p,q,s,t⟩))])) ((w1.setCell ⟨P,0,none⟩ (.slice none 0 0)).setCell ⟨P,1,none⟩ (.slice none 0 0)):=
   ⟨fun h=>absurd h hC,fun _=>by rw[errV_of hC],HW1.out.grown hg HW1.out.size (fun k hk=>by cases hk;have:=HP.out;omega)⟩
  have HHX:Hid (((w1.setCell ⟨P,0,none⟩ (.slice none 0 0)).setCell ⟨P,1,none⟩ (.slice none 0 0)).heap[P]?=some (.cells #[.slice none 0 0,.slice none 0 0] 46 (0,0))):=HRF
  rw[errV_of hC]
  clear HRF hg hR1 zf
  go_wp2_with fail
  generalize ((w1.setCell ⟨P,0,none⟩ (.slice none 0 0)).setCell ⟨P,1,none⟩ (.slice none 0 0))=Z at *
  obtain⟨k0,k1,-⟩:=zAb HHX.out
  exact jN (v:=.tuple #[.agg #[.slice none 0 0,.slice none 0 0],.slice none 0 0,.int .i64 0,.iface 91 (.int .i64 (zAu bs ss ⟨a,b,c,d,p,q,s,t⟩))]) (by simp[results,Tryz.results92,go_sem,k0,k1]) rfl hPO
 have HC0:Hid (zAd bs ss=0∧chk ⟨a,b,c,d,p,q,s,t⟩=0∧zAu bs ss ⟨a,b,c,d,p,q,s,t⟩=0):=⟨(zAG hC).1,(zAG hC).2.1,hC⟩
 rw[hC,errV_zero]
 go_wp2_with fail
 refine(HFR.out w1 HC0.out.1 HW1.out).mono ?_
 rintro x w2⟨qa,qb,ma,mb,ca,cb,rfl,bF,D1,D2,K1,K2⟩
 have HK1:Hid (∀W,GrB w2 W w1.heap.size (Value.slice qb mb cb).ownBlock→DL W w1.heap.size (.slice qa ma ca) bs):=K1
 have HK2:Hid (∀W,GrB w2 W w1.heap.size (Value.slice qa ma ca).ownBlock→DL W w1.heap.size (.slice qb mb cb) ss):=K2
 have HPL:Hid (P<w1.heap.size):=hPw1
 have hR2:w2.heap[P]?=some (.cells #[.slice none 0 0,.slice none 0 0] 46 (0,0)):=(bF.block P hPw1).trans hR1
 obtain⟨t0,t1,tf⟩:=zAb hR2
 have tf0:=tf 0
 have tf1:=tf 1
 have HXRa:=zAw hR2 (.slice qa ma ca) (.slice qb mb cb)
 have hgX:=zAN w2 P (.slice qa ma ca) (.slice qb mb cb)
 have HBV2:Below P V2 w2:=HBV1.out.trans (bF.mono (jX hPw1))
 have hBX2:Below P V2 ((w2.setCell ⟨P,0,none⟩ (.slice qa ma ca)).setCell ⟨P,1,none⟩ (.slice qb mb cb)):=(HBV2.setCell (nzR _) _).setCell (nzR _) _
 obtain⟨hBXw,-,-,f0,f1,f2,f3,f4,f5,f6,f7⟩:=HSO.out _ hBX2
 have HBX:Hid (Below w.heap.size w ((w2.setCell ⟨P,0,none⟩ (.slice qa ma ca)).setCell ⟨P,1,none⟩ (.slice qb mb cb))):=hBXw
 have HD1:Hid (DL ((w2.setCell ⟨P,0,none⟩ (.slice qa ma ca)).setCell ⟨P,1,none⟩ (.slice qb mb cb)) w1.heap.size (.slice qa ma ca) bs):=DL.other D1 hgX hPw1
 have HD2:Hid (DL ((w2.setCell ⟨P,0,none⟩ (.slice qa ma ca)).setCell ⟨P,1,none⟩ (.slice qb mb cb)) w1.heap.size (.slice qb mb cb) ss):=DL.other D2 hgX hPw1
 have HXR:Hid (((w2.setCell ⟨P,0,none⟩ (.slice qa ma ca)).setCell ⟨P,1,none⟩ (.slice qb mb cb)).heap[P]?=some (.cells #[.slice qa ma ca,.slice qb mb cb] 46 (0,0))):=HXRa
 have HXG:Hid (w2.grownBy ((w2.setCell ⟨P,0,none⟩ (.slice qa ma ca)).setCell ⟨P,1,none⟩ (.slice qb mb cb)) (some P)):=hgX
 clear bF D1 D2 K1 K2 hR2 tf HXRa hgX HBV2 hBX2 hBXw hR1 zf y0 y1 p0 p1 p2 p3 p4 p5 p6 p7 z0 z1 zf0 zf1
 go_upto_region 5 with fail
 generalize ((w2.setCell ⟨P,0,none⟩ (.slice qa ma ca)).setCell ⟨P,1,none⟩ (.slice qb mb cb))=X at *
 obtain⟨g0,g1,-⟩:=zAb HXR.out
 by_cases hc1:c=1
 ·subst hc1
  have HPO:Hid (∀W qt mt ct tv,DL W w1.heap.size (.slice qt mt ct) (tkl ⟨a,b,1,d,p,q,s,t⟩ ss q).1→DL W w1.heap.size (.slice qa ma ca) bs→OwnT W X.heap.size tv (tkl ⟨a,b,1,d,p,q,s,t⟩ ss q).2.1→Below w.heap.size w W→TakePost bs ss ⟨a,b,1,d,p,q,s,t⟩ w (.returned (.tuple #[.agg #[.slice qa ma ca,.slice qt mt ct],tv,.int .i64 (tkl ⟨a,b,1,d,p,q,s,t⟩ ss q).2.2,.nilIface])) W):=fun W qt mt ct tv e1 e2 e3 e4=>
   ⟨fun _=>⟨qa,qt,ma,mt,ca,ct,tv,rfl,e2.mono HW1.out.size,e1.mono HW1.out.size,OwnM.mono e3 HBX.out.size⟩,fun h=>absurd HC0.out.2.2 h,e4⟩
  obtain⟨pst,est,hDp⟩:=HD2.out
  have HLG:Hid (∀l∈pst.map toL,lchk l=0):=by
   rw[est]
   exact zAs (zAc (zAf HC0.out.1).2.1).2.1
  have HLV:Hid (Calls Tryz.prog 120 #[.slice qb mb cb,.agg #[.int .i64 a,.int .i64 b,.int .i64 1,.int .i64 d,.int .i64 p,.int .i64 q,.int .i64 s,.int .i64 t]] X fun e w'=>∃v' tv,e=.returned (.tuple #[v',tv,.int .i64 (tkl ⟨a,b,1,d,p,q,s,t⟩ ss q).2.2,.nilIface])∧DL w' w1.heap.size v' (tkl ⟨a,b,1,d,p,q,s,t⟩ ss q).1∧OwnT w' X.heap.size tv (tkl ⟨a,b,1,d,p,q,s,t⟩ ss q).2.1∧X.grownBy w' (Value.slice qb mb cb).ownBlock):=by
   have h:=zEe a b 1 d p q s t (.slice qb mb cb) pst w1.heap.size X hDp HC0.out.2.1 HLG.out
   rw[est] at h
   exact h
  have HBL:Hid (∀k,(Value.slice qb mb cb).ownBlock=some k→w1.heap.size≤k):=fun k hk=>(OwnM.lt hDp.own k hk).1
  clear hDp
  go_wp2_with fail
  refine HLV.out.mono ?_
  rintro e w3⟨v',tv,rfl,D3,O3,G3⟩
  obtain⟨qt,mt,ct,hv3⟩:=D3.form
  subst hv3
  have hPL:=HPL.out
  have hR3:w3.heap[P]?=some (.cells #[.slice qa ma ca,.slice qb mb cb] 46 (0,0)):=(G3.block P (gzE.1 HXR.out).1 (fun e=>by have:=HBL.out P e.symm;omega)).trans HXR.out
  obtain⟨s0,s1,sf⟩:=zAb hR3
  have sf0:=sf 0
  have sf1:=sf 1
  have HRT:=zPI hR3 (.slice qt mt ct)
  have hg1:=gr_setCell w3 P 1 (.slice qt mt ct)
  obtain⟨u0,u1,uf⟩:=zAb HRT
  have uf0:=uf 0
  have uf1:=uf 1
  have HRF:=zAw HRT (.slice qa ma ca) (.slice qt mt ct)
  have hg2:=gr_trans hg1 (zAN (w3.setCell ⟨P,1,none⟩ (.slice qt mt ct)) P (.slice qa ma ca) (.slice qt mt ct))
  have hPX:P<X.heap.size:=(gzE.1 HXR.out).1
  have hGB:GrB w2 (((w3.setCell ⟨P,1,none⟩ (.slice qt mt ct)).setCell ⟨P,0,none⟩ (.slice qa ma ca)).setCell ⟨P,1,none⟩ (.slice qt mt ct)) w1.heap.size (Value.slice qb mb cb).ownBlock:=by
   have hz1:=HXG.out.size
   have hz2:=G3.size
   have hz3:=hg2.size
   refine⟨by omega,fun k h1 h2 h3=>?_⟩
   rw[hg2.block k (by omega) (fun e=>by cases e;omega),G3.block k (by omega) (fun e=>h3 e.symm),HXG.out.block k h2 (fun e=>by cases e;omega)]
  have hPO:=HPO.out _ qt mt ct tv (DL.other D3 hg2 hPL) (HK1.out _ hGB) (zAj O3 hg2 (fun z hz e=>by cases e;have:=(OwnM.lt O3 P hz).1;omega)) (by
   have h1:Below w.heap.size w X:=HBX.out
   have h2:Below w.heap.size w w3:=h1.grown G3 h1.size (fun k hk=>by have:=HBL.out k hk;have:=HW1.out.size;omega)
   exact h2.grown hg2 h2.size (fun k hk=>by cases hk;have:=HP.out;omega))
  have HHX:Hid ((((w3.setCell ⟨P,1,none⟩ (.slice qt mt ct)).setCell ⟨P,0,none⟩ (.slice qa ma ca)).setCell ⟨P,1,none⟩ (.slice qt mt ct)).heap[P]?=some (.cells #[.slice qa ma ca,.slice qt mt ct] 46 (0,0))):=HRF
  clear D3 O3 G3 hGB hg1 hg2 HRT HRF hR3 sf uf
  go_wp2_with fail
  generalize (((w3.setCell ⟨P,1,none⟩ (.slice qt mt ct)).setCell ⟨P,0,none⟩ (.slice qa ma ca)).setCell ⟨P,1,none⟩ (.slice qt mt ct))=Z at *
  obtain⟨y0,y1,-⟩:=zAb HHX.out
  exact jN (v:=.tuple #[.agg #[.slice qa ma ca,.slice qt mt ct],tv,.int .i64 (tkl ⟨a,b,1,d,p,q,s,t⟩ ss q).2.2,.nilIface]) (by simp[results,Tryz.results92,go_sem,y0,y1]) rfl hPO
 ·have hc1b:(c == 1)=false:=by simp[hc1]
  have HPO:Hid (∀W qt mt ct tv,DL W w1.heap.size (.slice qt mt ct) (tkl ⟨a,b,c,d,p,q,s,t⟩ bs q).1→DL W w1.heap.size (.slice qb mb cb) ss→OwnT W X.heap.size tv (tkl ⟨a,b,c,d,p,q,s,t⟩ bs q).2.1→Below w.heap.size w W→TakePost bs ss ⟨a,b,c,d,p,q,s,t⟩ w (.returned (.tuple #[.agg #[.slice qt mt ct,.slice qb mb cb],tv,.int .i64 (tkl ⟨a,b,c,d,p,q,s,t⟩ bs q).2.2,.nilIface])) W):=fun W qt mt ct tv e1 e2 e3 e4=>by
   have hO:zAr bs ss ⟨a,b,c,d,p,q,s,t⟩=bs:=if_neg hc1
   have hR:metR bs ss ⟨a,b,c,d,p,q,s,t⟩=tkl ⟨a,b,c,d,p,q,s,t⟩ bs q:=by unfold metR;rw[hO]
   have hB:metB bs ss ⟨a,b,c,d,p,q,s,t⟩=(tkl ⟨a,b,c,d,p,q,s,t⟩ bs q).1:=by unfold metB;rw[if_neg hc1,hR]
   have hS:metS bs ss ⟨a,b,c,d,p,q,s,t⟩=ss:=if_neg hc1
   refine⟨fun _=>⟨qt,qb,mt,mb,ct,cb,tv,by rw[hR],?_,?_,?_⟩,fun h=>absurd HC0.out.2.2 h,e4⟩
   ·rw[hB];exact e1.mono HW1.out.size
   ·rw[hS];exact e2.mono HW1.out.size
   ·rw[hR];exact OwnM.mono e3 HBX.out.size
  obtain⟨pst,est,hDp⟩:=HD1.out
  have HLG:Hid (∀l∈pst.map toL,lchk l=0):=by
   rw[est]
   exact zAs (zAc (zAf HC0.out.1).1).2.1
  have HLV:Hid (Calls Tryz.prog 120 #[.slice qa ma ca,.agg #[.int .i64 a,.int .i64 b,.int .i64 c,.int .i64 d,.int .i64 p,.int .i64 q,.int .i64 s,.int .i64 t]] X fun e w'=>∃v' tv,e=.returned (.tuple #[v',tv,.int .i64 (tkl ⟨a,b,c,d,p,q,s,t⟩ bs q).2.2,.nilIface])∧DL w' w1.heap.size v' (tkl ⟨a,b,c,d,p,q,s,t⟩ bs q).1∧OwnT w' X.heap.size tv (tkl ⟨a,b,c,d,p,q,s,t⟩ bs q).2.1∧X.grownBy w' (Value.slice qa ma ca).ownBlock):=by
   have h:=zEe a b c d p q s t (.slice qa ma ca) pst w1.heap.size X hDp HC0.out.2.1 HLG.out
   rw[est] at h
   exact h
  have HBL:Hid (∀k,(Value.slice qa ma ca).ownBlock=some k→w1.heap.size≤k):=fun k hk=>(OwnM.lt hDp.own k hk).1
  clear hDp
  go_wp2_with fail
  refine HLV.out.mono ?_
  rintro e w3⟨v',tv,rfl,D3,O3,G3⟩
  obtain⟨qt,mt,ct,hv3⟩:=D3.form
  subst hv3
  have hPL:=HPL.out
  have hR3:w3.heap[P]?=some (.cells #[.slice qa ma ca,.slice qb mb cb] 46 (0,0)):=(G3.block P (gzE.1 HXR.out).1 (fun e=>by have:=HBL.out P e.symm;omega)).trans HXR.out
  obtain⟨s0,s1,sf⟩:=zAb hR3
  have sf0:=sf 0
  have sf1:=sf 1
  have HRT:=zPH hR3 (.slice qt mt ct)
  have hg1:=gr_setCell w3 P 0 (.slice qt mt ct)
  obtain⟨u0,u1,uf⟩:=zAb HRT
  have uf0:=uf 0
  have uf1:=uf 1
  have HRF:=zAw HRT (.slice qt mt ct) (.slice qb mb cb)
  have hg2:=gr_trans hg1 (zAN (w3.setCell ⟨P,0,none⟩ (.slice qt mt ct)) P (.slice qt mt ct) (.slice qb mb cb))
  have hPX:P<X.heap.size:=(gzE.1 HXR.out).1
  have hGB:GrB w2 (((w3.setCell ⟨P,0,none⟩ (.slice qt mt ct)).setCell ⟨P,0,none⟩ (.slice qt mt ct)).setCell ⟨P,1,none⟩ (.slice qb mb cb)) w1.heap.size (Value.slice qa ma ca).ownBlock:=by
   have hz1:=HXG.out.size
   have hz2:=G3.size
   have hz3:=hg2.size
   refine⟨by omega,fun k h1 h2 h3=>?_⟩
   rw[hg2.block k (by omega) (fun e=>by cases e;omega),G3.block k (by omega) (fun e=>h3 e.symm),HXG.out.block k h2 (fun e=>by cases e;omega)]
  have hPO:=HPO.out _ qt mt ct tv (DL.other D3 hg2 hPL) (HK2.out _ hGB) (zAj O3 hg2 (fun z hz e=>by cases e;have:=(OwnM.lt O3 P hz).1;omega)) (by
   have h1:Below w.heap.size w X:=HBX.out
   have h2:Below w.heap.size w w3:=h1.grown G3 h1.size (fun k hk=>by have:=HBL.out k hk;have:=HW1.out.size;omega)
   exact h2.grown hg2 h2.size (fun k hk=>by cases hk;have:=HP.out;omega))
  have HHX:Hid ((((w3.setCell ⟨P,0,none⟩ (.slice qt mt ct)).setCell ⟨P,0,none⟩ (.slice qt mt ct)).setCell ⟨P,1,none⟩ (.slice qb mb cb)).heap[P]?=some (.cells #[.slice qt mt ct,.slice qb mb cb] 46 (0,0))):=HRF
  clear D3 O3 G3 hGB hg1 hg2 HRT HRF hR3 sf uf
  go_wp2_with fail
  generalize (((w3.setCell ⟨P,0,none⟩ (.slice qt mt ct)).setCell ⟨P,0,none⟩ (.slice qt mt ct)).setCell ⟨P,1,none⟩ (.slice qb mb cb))=Z at *
  obtain⟨y0,y1,-⟩:=zAb HHX.out
  exact jN (v:=.tuple #[.agg #[.slice qt mt ct,.slice qb mb cb],tv,.int .i64 (tkl ⟨a,b,c,d,p,q,s,t⟩ bs q).2.2,.nilIface]) (by simp[results,Tryz.results92,go_sem,y0,y1]) rfl hPO
end mee
end Go.Proofs.YtifjhlgjgnnnpaaGreat
