import Derived.Test.YtnfilcpnneckkaaGreatBokFind
import Derived.Test.YtnfilcpnneckkaaGreatMeeLvl
set_option maxHeartbeats 4000000
set_option maxRecDepth 100000
namespace Go.Proofs.YtnfilcpnneckkaaGreat
open Tryz
namespace bok
open Go.RowKit spn que sid
theorem zHL(q1 q2:Option Addr)(n1 n2 c1 c2:Nat)(bs ss:List L)(id:Int)(hid:(Lit.int .i64 id).wf=true)(w:World)(h1:LS w (.slice q1 n1 c1) bs)(h2:LS w (.slice q2 n2 c2) ss)(h0:zAc bs ss=0)(EN:zAF 1 bs id=5)(EO:zAF 2 ss id=5) :
  Calls prog 60 #[.agg #[.slice q1 n1 c1,.slice q2 n2 c2],.int .i64 id] w fun e w'=>e=.returned (.tuple #[.int .i64 0,.int .i64 0,.agg #[.int .i64 0,.int .i64 0,.int .i64 0,.int .i64 0,.int .i64 0],.iface 90 (.int .i64 5)])∧Bw w w':=by
 have gN:=fun W(hW:Bw w W)=>wAf q1 q2 n1 n2 c1 c2 bs ss W (h1.below hW) (h2.below hW)
 rw[h0,wAa] at gN;have uW:=fun W(hW:Bw w W)=>wAr 2 _ ss id W (h2.below hW) hid
 rw[show zBl 2 ss id=.tuple #[.int .i64 0,.int .i64 0,.iface 90 (.int .i64 5)] from by unfold zBl zBn;rw[if_neg (by omega),EO];rfl] at uW
 have G9:=fun W(hW:Bw w W)=>wAr 1 _ bs id W (h1.below hW) hid
 rw[show zBl 1 bs id=.tuple #[.int .i64 0,.int .i64 0,.iface 90 (.int .i64 5)] from by unfold zBl zBn;rw[if_neg (by omega),EN];rfl] at G9
 obtain⟨V,hV⟩:∃V,V=(w.alloc (.cells #[.slice q1 n1 c1,.slice q2 n2 c2] 57)).alloc (.cells #[.int .i64 0,.int .i64 0,.int .i64 0,.int .i64 0,.int .i64 0] 51):=⟨_,rfl⟩;have HB:Hid (Bw w V):=by rw[hV];exact((bzR _ _).alloc (nzR _) _).alloc (by simp) _
 have v0:V.cell? ⟨w.heap.size,0,none⟩=some (.slice q1 n1 c1):=by rw[hV];simp[go_sem]
 have v1:V.cell? ⟨w.heap.size,1,none⟩=some (.slice q2 n2 c2):=by rw[hV];simp[go_sem]
 have hR:V.heap[w.heap.size+1]?=some (.cells #[.int .i64 0,.int .i64 0,.int .i64 0,.int .i64 0,.int .i64 0] 51 (0,0)):=by
  rw[hV];have:=jA (w.alloc (.cells #[.slice q1 n1 c1,.slice q2 n2 c2] 57)) (.cells #[.int .i64 0,.int .i64 0,.int .i64 0,.int .i64 0,.int .i64 0] 51);simpa using this
 have gp:w.heap.size+1<V.heap.size:=(gzE.1 hR).1;clear h1 h2 h0 hid EN EO;go_enter func60,ntmps60;go_wp2_with fail;rw[←hV];refine(gN V HB.out).mono ?_;rintro x w1⟨rfl,b1⟩;have He:Hid (Bw w w1):=HB.out.trans (b1.mono HB.out.size);have x0:=zAa b1 v0;have x1:=zAa b1 v1;have gh:w1.heap[w.heap.size+1]?=some (.cells #[.int .i64 0,.int .i64 0,.int .i64 0,.int .i64 0,.int .i64 0] 51 (0,0)):=by rw[b1.block _ gp];exact hR
 have Hl:w.heap.size+1<w1.heap.size:=jC gp b1.size;clear b1 gN v0 v1 hR;go_wp2_with fail;go_loopg [9,10,11,12,13] 3 (fun gg s9 _ _ _ _ wr=>((s9=.int .i64 1∧3≤gg)∨(s9=.int .i64 2∧2≤gg)∨s9=.int .i64 3)∧Aside (Below w1.heap.size w1 wr))
 case atStart=>exact⟨.inl ⟨rfl,nzR _⟩,bzR _ _⟩
 case round=>
  obtain⟨EU,BW⟩:=hrel;have d0:=zAa BW.out x0;have d1:=zAa BW.out x1;have go:Hid (Bw w wr):=He.out.trans (BW.out.mono He.out.size);rcases EU with ⟨rfl,hgk⟩|⟨rfl,hgk⟩|rfl
  ·have bI:2<gk:=by omega
   go_wp2_with fail;refine(zAx 1 q1 q2 n1 n2 c1 c2 wr).mono ?_;rintro x w2⟨rfl,b2⟩;rw[show (if (1:Int)=1 then Value.slice q1 n1 c1 else .slice q2 n2 c2)=.slice q1 n1 c1 from rfl]
   have Hg:Hid (Bw wr w2):=b2;clear b2;go_wp2_with fail;refine(G9 w2 (go.out.trans (Hg.out.mono go.out.size))).mono ?_;rintro x w3⟨rfl,b3⟩;have HU:Hid (Bw w1 w3):=BW.out.trans ((Hg.out.trans (b3.mono Hg.out.size)).mono BW.out.size);clear b3 G9 uW d0 d1;go_wp2_with fail;go_roundg 2
   case measure=>exact bI
   case rel=>exact⟨.inr (.inl ⟨rfl,nzR _⟩),HU.out⟩
  ·have bI:1<gk:=by omega
   go_wp2_with fail;refine(zAx 2 q1 q2 n1 n2 c1 c2 wr).mono ?_;rintro x w2⟨rfl,b2⟩;rw[show (if (2:Int)=1 then Value.slice q1 n1 c1 else .slice q2 n2 c2)=.slice q2 n2 c2 from rfl]
   have Hg:Hid (Bw wr w2):=b2;clear b2;go_wp2_with fail;refine(uW w2 (go.out.trans (Hg.out.mono go.out.size))).mono ?_;rintro x w3⟨rfl,b3⟩;have HU:Hid (Bw w1 w3):=BW.out.trans ((Hg.out.trans (b3.mono Hg.out.size)).mono BW.out.size);clear b3 G9 uW d0 d1;go_wp2_with fail;go_roundg 1
   case measure=>exact bI
   case rel=>exact⟨.inr (.inr rfl),HU.out⟩
  ·have Gx:wr.heap[w.heap.size+1]?=some (.cells #[.int .i64 0,.int .i64 0,.int .i64 0,.int .i64 0,.int .i64 0] 51 (0,0)):=by rw[BW.out.block _ Hl];exact gh
   obtain⟨e0,e1,e2,e3,e4,gB⟩:=zAi Gx;have f0:=gB 0;have f1:=gB 1;have f2:=gB 2;have f3:=gB 3;have f4:=gB 4;have Hj:=go.out;have Hx:Hid ((((((wr.setCell ⟨w.heap.size+1,0,none⟩ (.int .i64 0)).setCell ⟨w.heap.size+1,1,none⟩ (.int .i64 0)).setCell ⟨w.heap.size+1,2,none⟩ (.int .i64 0)).setCell ⟨w.heap.size+1,3,none⟩ (.int .i64 0)).setCell ⟨w.heap.size+1,4,none⟩ (.int .i64 0)).heap[w.heap.size+1]?=some (.cells #[.int .i64 0,.int .i64 0,.int .i64 0,.int .i64 0,.int .i64 0] 51 (0,0))):=zBd Gx _ _ _ _ _
   have GA:Hid (Bw w (((((wr.setCell ⟨w.heap.size+1,0,none⟩ (.int .i64 0)).setCell ⟨w.heap.size+1,1,none⟩ (.int .i64 0)).setCell ⟨w.heap.size+1,2,none⟩ (.int .i64 0)).setCell ⟨w.heap.size+1,3,none⟩ (.int .i64 0)).setCell ⟨w.heap.size+1,4,none⟩ (.int .i64 0))):=((((Hj.setCell (Nat.le_succ _) _).setCell (Nat.le_succ _) _).setCell (Nat.le_succ _) _).setCell (Nat.le_succ _) _).setCell (Nat.le_succ _) _;clear gB Gx G9 uW d0 d1;go_wp2_with fail;generalize (((((wr.setCell ⟨w.heap.size+1,0,none⟩ (.int .i64 0)).setCell ⟨w.heap.size+1,1,none⟩ (.int .i64 0)).setCell ⟨w.heap.size+1,2,none⟩ (.int .i64 0)).setCell ⟨w.heap.size+1,3,none⟩ (.int .i64 0)).setCell ⟨w.heap.size+1,4,none⟩ (.int .i64 0))=X at *;obtain⟨y0,y1,y2,y3,y4,-⟩:=zAi Hx.out
   exact jN (v:=.tuple #[.int .i64 0,.int .i64 0,.agg #[.int .i64 0,.int .i64 0,.int .i64 0,.int .i64 0,.int .i64 0],.iface 90 (.int .i64 5)]) (by simp[results,results60,go_sem,y0,y1,y2,y3,y4]) rfl ⟨rfl,GA.out⟩
def zAg(bs ss:List L)(id:Int):Bool:=decide (id∈ids bs∨id∈ids ss)
theorem zCE{s:Int}{ls:List L}{id:Int}(h0:schk s ls=0)(h:id∈ids ls):zAF s ls id=0:=by
 have h2:=zGA.1 h;unfold zAF;rw[if_pos h0,if_pos (by
  cases hl:zAC (flatP 0 ls) id with
  | none=>exact absurd hl h2
  | some t=>rfl)]
theorem zBh{s:Int}{ls:List L}{id:Int}(h0:schk s ls=0)(h:¬id∈ids ls):zAF s ls id=5:=by
 have h2:zAC (flatP 0 ls) id=none:=Classical.byContradiction fun hn=>h (zGA.2 hn)
 unfold zAF;rw[if_pos h0,h2];rfl
theorem zIr{s:Int}{ls:List L}{id:Int}(hf:zAF s ls id=0):∃i k:Nat,∃hi:i<ls.length,k<ls[i].rests.length∧zBl s ls id=.tuple #[.int .i64 i,.int .i64 k,.nilIface]:=by
 obtain⟨-,i,k,hi,hk,-,hp⟩:=zDb hf;exact⟨i,k,hi,hk,by unfold zBl;rw[hp,hf];rfl⟩
theorem zQD(q1 q2:Option Addr)(n1 n2 c1 c2:Nat)(bs ss:List L)(id:Int)(hid:(Lit.int .i64 id).wf=true)(w:World)(h1:LS w (.slice q1 n1 c1) bs)(h2:LS w (.slice q2 n2 c2) ss)(h0:zAc bs ss=0) :
  Calls prog 60 #[.agg #[.slice q1 n1 c1,.slice q2 n2 c2],.int .i64 id] w fun e w'=>∃a b r1 r2 r3 r4 r5,e=.returned (.tuple #[.int .i64 a,.int .i64 b,.agg #[.int .i64 r1,.int .i64 r2,.int .i64 r3,.int .i64 r4,.int .i64 r5],errV (if zAg bs ss id=true then 0 else 5)])∧Bw w w':=by
 obtain⟨ee1,ee2,-⟩:=zAh h0;unfold zAg;by_cases hb:id∈ids bs
 ·rw[if_pos (by simp[hb])]
  obtain⟨i,k,hi,hk,hv⟩:=zIr (zCE ee1 hb);refine(zFC q1 q2 n1 n2 c1 c2 bs ss id hid i k w h1 h2 h0 hi hk hv).mono ?_;rintro e w'⟨rfl,hB⟩;exact⟨_,_,_,_,_,_,_,rfl,hB⟩
 ·by_cases hs:id∈ids ss
  ·rw[if_pos (by simp[hs])]
   obtain⟨i,k,hi,hk,hv⟩:=zIr (zCE ee2 hs);refine(zFD q1 q2 n1 n2 c1 c2 bs ss id hid i k w h1 h2 h0 (zBh ee1 hb) hi hk hv).mono ?_;rintro e w'⟨rfl,hB⟩;exact⟨_,_,_,_,_,_,_,rfl,hB⟩
  ·rw[if_neg (by simp[hb,hs])]
   refine(zHL q1 q2 n1 n2 c1 c2 bs ss id hid w h1 h2 h0 (zBh ee1 hb) (zBh ee2 hs)).mono ?_;rintro e w'⟨rfl,hB⟩;exact⟨_,_,_,_,_,_,_,rfl,hB⟩
end bok
namespace mee
open Go.RowKit spn que sid bok
open ord (O oV mB mE chk zAy)
def GrB(w W:World)(base:Nat)(row:Option Nat):Prop:=w.heap.size≤W.heap.size∧∀k,base≤k→k<w.heap.size→row≠some k→W.heap[k]?=w.heap[k]?
theorem zLo{w W:World}{base:Nat}{e:TypeId}{sz:Nat}{v:Value}{n:Nat}{xs:List Value}{row:Option Nat}(h:OwnM w base e sz v n xs)(hg:GrB w W base row)(H8:∀x,v.ownBlock=some x→row≠some x):OwnM W base e sz v n xs:=by
 refine⟨h.1,?_⟩;rcases h.2 with hn|⟨g,off,cap,cur,rfl,hb,Hu,rest⟩
 ·exact .inl hn
 ·exact .inr ⟨g,off,cap,cur,rfl,hb,(hg.2 g hb (gzE.1 Hu).1 (H8 g rfl)).trans Hu,rest⟩
theorem zIs{w W:World}{base:Nat}{v:Value}{ps:List RP}{row:Option Nat}(h:Deep w base v ps)(hg:GrB w W base row)(h1:∀x,v.ownBlock=some x→row≠some x)(h2:∀p∈ps,∀x,blkR p.1=some x→row≠some x):Deep W base v ps:=
 ⟨zLo h.own hg h1,fun p hp=>zLo (h.each p hp) hg (h2 p hp),h.apart,h.far⟩
theorem zNY{W0 Wa W1 Wb X:World}{base R:Nat}{va vb:Value}{bs ss:List L}(ha:DL Wa W0.heap.size va bs)(h0:W0.heap.size≤Wa.heap.size)(h1:Bw Wa W1)(hb:DL Wb W1.heap.size vb ss)(h2:Bw W1 Wb)(hg:Wb.grownBy X (some R))(hR:R<W0.heap.size)(hB:base≤W0.heap.size) :
  DL X base va bs∧DL X base vb ss∧(∀W,GrB X W base vb.ownBlock→DL W base va bs)∧(∀W,GrB X W base va.ownBlock→DL W base vb ss):=by
 obtain⟨pa,ea,Da⟩:=ha;obtain⟨pb,eb,Db⟩:=hb;have Hl:=h1.size;have H9:=h2.size;have D1:=Da.below h1;have DX:Deep X W0.heap.size va pa:=(D1.below h2).other hg hR;have EX:Deep X W1.heap.size vb pb:=Db.other hg (by omega)
 refine⟨⟨pa,ea,DX.mono hB⟩,⟨pb,eb,EX.mono (by omega)⟩,fun W hW=>⟨pa,ea,zIs (DX.mono hB) hW ?_ ?_⟩,fun W hW=>⟨pb,eb,zIs (EX.mono (by omega)) hW ?_ ?_⟩⟩
 ·intro x hx e;have:=(OwnM.lt D1.own x hx).2;have:=(OwnM.lt Db.own x e).1;omega
 ·intro p hp x hx e;have:=(OwnM.lt (D1.each p hp) x hx).2;have:=(OwnM.lt Db.own x e).1;omega
 ·intro x hx e;have:=(OwnM.lt Db.own x hx).1;have:=(OwnM.lt D1.own x e).2;omega
 ·intro p hp x hx e;have:=(OwnM.lt (Db.each p hp) x hx).1;have:=(OwnM.lt D1.own x e).2;omega
def BFPost(bs ss:List L)(w:World)(e:Ending)(w' : World):Prop:=
 ∃q1 q2 n1 n2 c1 c2,e=.returned (.agg #[.slice q1 n1 c1,.slice q2 n2 c2])∧Bw w w'∧DL w' w.heap.size (.slice q1 n1 c1) bs∧DL w' w.heap.size (.slice q2 n2 c2) ss∧
  (∀W,GrB w' W w.heap.size (Value.slice q2 n2 c2).ownBlock→DL W w.heap.size (.slice q1 n1 c1) bs)∧(∀W,GrB w' W w.heap.size (Value.slice q1 n1 c1).ownBlock→DL W w.heap.size (.slice q2 n2 c2) ss)
theorem zFe(q1 q2:Option Addr)(n1 n2 c1 c2:Nat)(bs ss:List L)(w:World)(h1:LS w (.slice q1 n1 c1) bs)(h2:LS w (.slice q2 n2 c2) ss)(k1:schk 1 bs=0)(k2:schk 2 ss=0) :
  Calls prog 49 #[.agg #[.slice q1 n1 c1,.slice q2 n2 c2]] w fun e w'=>BFPost bs ss w e w':=by
 have Hh:∀ {t:Int}{xs:List L},schk t xs=0→xs.length≤1000∧(∀l∈xs,l.rests.length≤1000):=fun {t xs} hk=>by
  obtain⟨-,z2,z3,-⟩:=zAe hk;have:=zDq (zAs z2);exact⟨by omega,fun l hl=>by have:=zAV hl;omega⟩
 obtain⟨V2,gl⟩:∃V2,V2=w.alloc (.cells #[.slice q1 n1 c1,.slice q2 n2 c2] 57):=⟨_,rfl⟩;have Hg:Hid (Below w.heap.size w V2):=by rw[gl];exact(bzR _ _).alloc (nzR _) _
 have H9:V2.heap.size=w.heap.size+1:=by rw[gl];simp
 have G9:Hid (∀W,Below V2.heap.size V2 W→W.heap[V2.heap.size]?=some (.cells #[.slice none 0 0,.slice none 0 0] 57 (0,0))→Calls prog 78 #[.slice q1 n1 c1] W fun e w'=>∃q m c,e=.returned (.slice q m c)∧DL w' W.heap.size (.slice q m c) bs∧Below W.heap.size W w'∧Below V2.heap.size V2 w'∧w'.heap[V2.heap.size]?=some (.cells #[.slice none 0 0,.slice none 0 0] 57 (0,0))):=fun W hW pY=>by
  refine(zBu _ bs W (h1.below (Hg.out.trans (hW.mono Hg.out.size))) (Hh k1).1 (Hh k1).2 (zBg k1)).mono ?_;rintro e w'⟨v',ps,rfl,GC,hD,b1⟩;obtain⟨q',c',gU⟩:=OwnM.form hD.own;subst gU;exact⟨_,_,_,rfl,⟨ps,GC,hD⟩,b1,hW.trans (b1.mono hW.size),(b1.block _ (gzE.1 pY).1).trans pY⟩
 have uW:Hid (∀W,Below V2.heap.size V2 W→W.heap[V2.heap.size]?=some (.cells #[.slice none 0 0,.slice none 0 0] 57 (0,0))→Calls prog 78 #[.slice q2 n2 c2] W fun e w'=>∃q m c,e=.returned (.slice q m c)∧DL w' W.heap.size (.slice q m c) ss∧Below W.heap.size W w'∧Below V2.heap.size V2 w'∧w'.heap[V2.heap.size]?=some (.cells #[.slice none 0 0,.slice none 0 0] 57 (0,0))):=fun W hW pY=>by
  refine(zBu _ ss W (h2.below (Hg.out.trans (hW.mono Hg.out.size))) (Hh k2).1 (Hh k2).2 (zBg k2)).mono ?_;rintro e w'⟨v',ps,rfl,GC,hD,b1⟩;obtain⟨q',c',gU⟩:=OwnM.form hD.own;subst gU;exact⟨_,_,_,rfl,⟨ps,GC,hD⟩,b1,hW.trans (b1.mono hW.size),(b1.block _ (gzE.1 pY).1).trans pY⟩
 obtain⟨V,hV⟩:∃V,V=V2.alloc (.cells #[.slice none 0 0,.slice none 0 0] 57):=⟨_,rfl⟩;have ue:Hid (Below V2.heap.size V2 V):=by rw[hV];exact(bzR _ _).alloc (nzR _) _
 have hR:V.heap[V2.heap.size]?=some (.cells #[.slice none 0 0,.slice none 0 0] 57 (0,0)):=by rw[hV];exact jA V2 _
 have v0:V2.cell? ⟨w.heap.size,0,none⟩=some (.slice q1 n1 c1):=by rw[gl];simp[go_sem]
 have v1:V2.cell? ⟨w.heap.size,1,none⟩=some (.slice q2 n2 c2):=by rw[gl];simp[go_sem]
 have gp:V2.heap.size<V.heap.size:=(gzE.1 hR).1;have SO:Hid (∀W,Below V2.heap.size V2 W→(Below V2.heap.size V2 W∧W.cell? ⟨w.heap.size,0,none⟩=some (.slice q1 n1 c1)∧W.cell? ⟨w.heap.size,1,none⟩=some (.slice q2 n2 c2))):=fun W hW=>⟨hW,zAa hW v0,zAa hW v1⟩
 clear h1 h2 k1 k2 Hh;obtain⟨P,hP⟩:∃P,P=w.heap.size+1:=⟨_,rfl⟩;have pQ:V2.heap.size=P:=by rw[H9,hP]
 rw[pQ] at G9 uW ue hR gp SO;have HP:Hid (V2.heap.size=P∧P=w.heap.size+1):=⟨pQ,hP⟩;clear H9 pQ v0 v1;go_enter func49,ntmps49;go_upto_region 1 with fail
 rw[←gl,←hV];simp only[←hP];clear gl hV hP;obtain⟨z0,z1,Pg⟩:=zAb hR;have z2:=Pg 0;have z3:=Pg 1;obtain⟨-,y0,y1⟩:=SO.out V ue.out;have hRd:V.drew.heap[P]?=some (.cells #[.slice none 0 0,.slice none 0 0] 57 (0,0)):=((bzR _ V).drew.block P gp).trans hR
 go_region_with (first|(go_at_call 78;with_reducible refine(G9.out _ ?_ ?_).mono ?_;(with_reducible repeat' (first|exact ue.out|assumption|refine Below.drew ?_));rintro x Wa ⟨qa,ma,ca,rfl,hDa,hba,hna,bx⟩;obtain⟨-,ka0,ka1⟩:=SO.out Wa hna)|(go_at_call 78;with_reducible refine(uW.out _ ?_ ?_).mono ?_;(with_reducible repeat' (first|assumption|refine Below.drew ?_));rintro x Wb ⟨qb,mb,cb,rfl,hDb,BF,bP,Bx⟩;obtain⟨pb0,pb1,pfb⟩:=zAb Bx;have pb2:=pfb 0;have pb3:=pfb 1))
 all_goals go_wp2_with fail
 all_goals
  have hg:=zAT Wb P (.slice qa ma ca) (.slice qb mb cb);have HX:=zAz Bx (.slice qa ma ca) (.slice qb mb cb);have Hi:P<V.drew.heap.size:=(gzE.1 hRd).1;have hPw:=HP.out;obtain⟨g1,g2,g3,g4⟩:=zNY (base:=w.heap.size) hDa hba.size (bzR _ _) hDb BF hg Hi (by omega)
  have Mc:Below w.heap.size w ((Wb.setCell ⟨P,0,none⟩ (.slice qa ma ca)).setCell ⟨P,1,none⟩ (.slice qb mb cb)):=by
   have h1:Below w.heap.size w Wb:=Hg.out.trans (bP.mono (by omega))
   exact h1.grown hg h1.size (fun k hk=>by cases hk;omega)
  generalize (Wb.setCell ⟨P,0,none⟩ (.slice qa ma ca)).setCell ⟨P,1,none⟩ (.slice qb mb cb)=X at *;obtain⟨t0,t1,-⟩:=zAb HX;exact jN (v:=.agg #[.slice qa ma ca,.slice qb mb cb]) (by simp[results,results49,go_sem,t0,t1]) rfl ⟨_,_,_,_,_,_,rfl,Mc,g1,g2,g3,g4⟩
def zAu(bs ss:List L)(o:O):Int:=if zAc bs ss=0 then (if chk o=0 then (if o.stop=0 then (if zAg bs ss o.id=true then 7 else 0) else 6) else chk o) else zAc bs ss
theorem id_wf'{o:O}(h:chk o=0):(Lit.int .i64 o.id).wf=true:=by
 have h1:=(ord.zBC h).1;simp[ord.zCJ] at h1;have e:wrap64 o.id=o.id:=by unfold wrap64;omega
 rw[←e];exact wrap64_wf _
theorem zFf(q1 q2:Option Addr)(n1 n2 c1 c2:Nat)(bs ss:List L)(a b c d p q s t:Int)(w:World)(h1:LS w (.slice q1 n1 c1) bs)(h2:LS w (.slice q2 n2 c2) ss) :
  Calls prog 76 #[.agg #[.slice q1 n1 c1,.slice q2 n2 c2],.agg #[.int .i64 a,.int .i64 b,.int .i64 c,.int .i64 d,.int .i64 p,.int .i64 q,.int .i64 s,.int .i64 t]] w fun e w'=>e=.returned (errV (zAu bs ss ⟨a,b,c,d,p,q,s,t⟩))∧Bw w w':=by
 obtain⟨V,hV⟩:∃V,V=(w.alloc (.cells #[.slice q1 n1 c1,.slice q2 n2 c2] 57)).alloc (.cells #[.int .i64 a,.int .i64 b,.int .i64 c,.int .i64 d,.int .i64 p,.int .i64 q,.int .i64 s,.int .i64 t] 34):=⟨_,rfl⟩;have HB:Hid (Bw w V):=by rw[hV];exact((bzR _ _).alloc (nzR _) _).alloc (by simp) _
 have v0:V.cell? ⟨w.heap.size,0,none⟩=some (.slice q1 n1 c1):=by rw[hV];simp[go_sem]
 have v1:V.cell? ⟨w.heap.size,1,none⟩=some (.slice q2 n2 c2):=by rw[hV];simp[go_sem]
 have hR:V.heap[w.heap.size+1]?=some (.cells #[.int .i64 a,.int .i64 b,.int .i64 c,.int .i64 d,.int .i64 p,.int .i64 q,.int .i64 s,.int .i64 t] 34 (0,0)):=by
  rw[hV];have:=jA (w.alloc (.cells #[.slice q1 n1 c1,.slice q2 n2 c2] 57)) (.cells #[.int .i64 a,.int .i64 b,.int .i64 c,.int .i64 d,.int .i64 p,.int .i64 q,.int .i64 s,.int .i64 t] 34);simpa using this
 have cel:∀i,V.cell? ⟨w.heap.size+1,i,none⟩=(#[.int .i64 a,.int .i64 b,.int .i64 c,.int .i64 d,.int .i64 p,.int .i64 q,.int .i64 s,.int .i64 t]:Array Value)[i]?:=fun i=>by simp[World.cell?,hR]
 have Ho:Hid (∀W,Bw V W→Bw w W∧W.cell? ⟨w.heap.size,0,none⟩=some (.slice q1 n1 c1)∧W.cell? ⟨w.heap.size,1,none⟩=some (.slice q2 n2 c2)∧W.cell? ⟨w.heap.size+1,0,none⟩=some (.int .i64 a)∧W.cell? ⟨w.heap.size+1,1,none⟩=some (.int .i64 b)∧W.cell? ⟨w.heap.size+1,2,none⟩=some (.int .i64 c)∧W.cell? ⟨w.heap.size+1,3,none⟩=some (.int .i64 d)∧W.cell? ⟨w.heap.size+1,4,none⟩=some (.int .i64 p)∧W.cell? ⟨w.heap.size+1,5,none⟩=some (.int .i64 q)∧W.cell? ⟨w.heap.size+1,6,none⟩=some (.int .i64 s)∧W.cell? ⟨w.heap.size+1,7,none⟩=some (.int .i64 t)):=
  fun W hW=>⟨HB.out.trans (hW.mono HB.out.size),zAa hW v0,zAa hW v1,zAa hW (cel 0),zAa hW (cel 1),zAa hW (cel 2),zAa hW (cel 3),zAa hW (cel 4),zAa hW (cel 5),zAa hW (cel 6),zAa hW (cel 7)⟩
 have m7:Hid (∀W,Bw w W→Calls prog 80 #[.agg #[.slice q1 n1 c1,.slice q2 n2 c2]] W fun e w'=>e=.returned (errV (zAc bs ss))∧Bw W w'):=fun W hW=>bok.wAf q1 q2 n1 n2 c1 c2 bs ss W (h1.below hW) (h2.below hW)
 have uF:Hid (∀W,Calls prog 79 #[.agg #[.int .i64 a,.int .i64 b,.int .i64 c,.int .i64 d,.int .i64 p,.int .i64 q,.int .i64 s,.int .i64 t]] W fun e w'=>e=.returned (errV (chk ⟨a,b,c,d,p,q,s,t⟩))∧Bw W w'):=fun W=>ord.zDn a b c d p q s t W
 have HFD:Hid (∀W,zAc bs ss=0→chk ⟨a,b,c,d,p,q,s,t⟩=0→Bw w W→Calls prog 60 #[.agg #[.slice q1 n1 c1,.slice q2 n2 c2],.int .i64 a] W fun e w'=>∃x y r1 r2 r3 r4 r5,e=.returned (.tuple #[.int .i64 x,.int .i64 y,.agg #[.int .i64 r1,.int .i64 r2,.int .i64 r3,.int .i64 r4,.int .i64 r5],errV (if zAg bs ss a=true then 0 else 5)])∧Bw W w'):=fun W e1 e2 hW=>zQD q1 q2 n1 n2 c1 c2 bs ss a (id_wf' e2) W (h1.below hW) (h2.below hW) e1
 generalize hk:zAu bs ss ⟨a,b,c,d,p,q,s,t⟩=k;have HK:Hid (zAu bs ss ⟨a,b,c,d,p,q,s,t⟩=k):=hk;clear hk h1 h2 hR v0 v1 cel;obtain⟨-,x0,x1,o0,o1,o2,o3,o4,o5,o6,o7⟩:=Ho.out V (bzR _ _);go_enter func76,ntmps76;go_wp2_with fail;rw[←hV];clear hV;refine(m7.out V HB.out).mono ?_;rintro x w1⟨rfl,b1⟩;obtain⟨H7,y0,y1,p0,p1,p2,p3,p4,p5,p6,p7⟩:=Ho.out w1 b1;have di:Hid (Bw V w1):=b1;clear b1 x0 x1 o0 o1 o2 o3 o4 o5 o6 o7;by_cases e1:zAc bs ss=0
 rotate_left
 ·have hk:Hid (k=zAc bs ss):=by show _=_;rw[←HK.out];unfold zAu;rw[if_neg e1]
  rw[wAb e1];go_wp2_with fail;go_ret;exact⟨by rw[hk.out,wAb e1];rfl,H7⟩
 rw[e1,wAa];go_wp2_with fail;refine(uF.out _).mono ?_;rintro x w2⟨rfl,b2⟩;have ul:Hid (Bw V w2):=di.out.trans (b2.mono di.out.size);obtain⟨gb,z0,z1,r0,r1,r2,r3,r4,r5,r6,r7⟩:=Ho.out w2 ul.out;clear b2 y0 y1 p0 p1 p2 p3 p4 p5 p6 p7 H7;by_cases e2:chk ⟨a,b,c,d,p,q,s,t⟩=0
 rotate_left
 ·have hk:Hid (k=chk ⟨a,b,c,d,p,q,s,t⟩):=by show _=_;rw[←HK.out];unfold zAu;rw[if_pos e1,if_neg e2]
  rw[wAb e2];go_wp2_with fail;go_ret;exact⟨by rw[hk.out,wAb e2];rfl,gb⟩
 rw[e2,wAa];by_cases e3:t=0
 rotate_left
 ·have hk:k=6:=by rw[←HK.out];unfold zAu;rw[if_pos e1,if_pos e2,if_neg e3]
  subst hk;have e3b:(t != 0)=true:=by simp[e3]
  go_wp2_with fail;go_ret;exact⟨rfl,gb⟩
 subst e3;have HFF:=HFD.out w2 e1 e2 gb;have ug:Hid (k=if zAg bs ss a=true then 7 else 0):=by show _=_;rw[←HK.out];unfold zAu;rw[if_pos e1,if_pos e2,if_pos rfl]
 clear HK HFD;generalize zAg bs ss a=ib at *;have bf:Hid (Calls prog 60 #[.agg #[.slice q1 n1 c1,.slice q2 n2 c2],.int .i64 a] w2 fun e w'=>∃x y r1 r2 r3 r4 r5,e=.returned (.tuple #[.int .i64 x,.int .i64 y,.agg #[.int .i64 r1,.int .i64 r2,.int .i64 r3,.int .i64 r4,.int .i64 r5],errV (if ib=true then 0 else 5)])∧Bw w2 w'):=HFF
 clear HFF;cases ib
 ·have hk:k=0:=by rw[ug.out];rfl
  subst hk;rw[show errV (if false=true then 0 else 5)=.iface 90 (.int .i64 5) from rfl] at bf
  go_wp2_with fail;refine bf.out.mono ?_;rintro x w3⟨x',y',k1,k2,k3,k4,k5,rfl,b3⟩;have gQ:Bw w w3:=gb.trans (b3.mono gb.size);clear b3;go_wp2_with fail;go_ret;exact⟨rfl,gQ.alloc gQ.size _⟩
 ·have hk:k=7:=by rw[ug.out];rfl
  subst hk;rw[show errV (if true=true then 0 else 5)=.nilIface from rfl] at bf
  go_wp2_with fail;refine bf.out.mono ?_;rintro x w3⟨x',y',k1,k2,k3,k4,k5,rfl,b3⟩;have gQ:Bw w w3:=gb.trans (b3.mono gb.size);clear b3;go_wp2_with fail;go_ret;exact⟨rfl,gQ.alloc gQ.size _⟩
def zAr(bs ss:List L)(o:O):List L:=if o.side=1 then ss else bs
def metR(bs ss:List L)(o:O):List L × List T × Int:=tkl o (zAr bs ss o) o.qty
def metB(bs ss:List L)(o:O):List L:=if o.side=1 then bs else (metR bs ss o).1
def metS(bs ss:List L)(o:O):List L:=if o.side=1 then (metR bs ss o).1 else ss
def TakePost(bs ss:List L)(o:O)(w:World)(e:Ending)(w' : World):Prop:=
 (zAu bs ss o=0→∃q1 q2 n1 n2 c1 c2 tv,e=.returned (.tuple #[.agg #[.slice q1 n1 c1,.slice q2 n2 c2],tv,.int .i64 (metR bs ss o).2.2,.nilIface])∧DL w' w.heap.size (.slice q1 n1 c1) (metB bs ss o)∧DL w' w.heap.size (.slice q2 n2 c2) (metS bs ss o)∧OwnT w' w.heap.size tv (metR bs ss o).2.1)∧
 (¬zAu bs ss o=0→e=.returned (.tuple #[.agg #[.slice none 0 0,.slice none 0 0],.slice none 0 0,.int .i64 0,errV (zAu bs ss o)]))∧Bw w w'
theorem zAG{bs ss:List L}{o:O}(h:zAu bs ss o=0):zAc bs ss=0∧chk o=0∧o.stop=0∧zAg bs ss o.id=false:=by
 unfold zAu at h;by_cases h1:zAc bs ss=0
 ·rw[if_pos h1] at h;by_cases h2:chk o=0
  ·rw[if_pos h2] at h;by_cases h3:o.stop=0
   ·rw[if_pos h3] at h;cases h4:zAg bs ss o.id with
    | true=>rw[h4] at h;simp at h
    | false=>exact⟨h1,h2,h3,rfl⟩
   ·rw[if_neg h3] at h;omega
  ·rw[if_neg h2] at h;exact absurd h h2
 ·rw[if_neg h1] at h;exact absurd h h1
theorem zQE{w:World}{B:Nat}{y0 y1:Value}{t:TypeId}(h:w.heap[B]?=some (.cells #[y0,y1] t (0,0)))(x:Value):(w.setCell ⟨B,0,none⟩ x).heap[B]?=some (.cells #[x,y1] t (0,0)):=jB w B 0 _ _ x h
theorem zQF{w:World}{B:Nat}{y0 y1:Value}{t:TypeId}(h:w.heap[B]?=some (.cells #[y0,y1] t (0,0)))(x:Value):(w.setCell ⟨B,1,none⟩ x).heap[B]?=some (.cells #[y0,x] t (0,0)):=jB w B 1 _ _ x h
theorem zNZ(q1 q2:Option Addr)(n1 n2 c1 c2:Nat)(bs ss:List L)(a b c d p q s t:Int)(w:World)(h1:LS w (.slice q1 n1 c1) bs)(h2:LS w (.slice q2 n2 c2) ss) :
  Calls prog 47 #[.agg #[.slice q1 n1 c1,.slice q2 n2 c2],.agg #[.int .i64 a,.int .i64 b,.int .i64 c,.int .i64 d,.int .i64 p,.int .i64 q,.int .i64 s,.int .i64 t]] w fun e w'=>TakePost bs ss ⟨a,b,c,d,p,q,s,t⟩ w e w':=by
 obtain⟨V2,gl⟩:∃V2,V2=(w.alloc (.cells #[.slice q1 n1 c1,.slice q2 n2 c2] 57)).alloc (.cells #[.int .i64 a,.int .i64 b,.int .i64 c,.int .i64 d,.int .i64 p,.int .i64 q,.int .i64 s,.int .i64 t] 34):=⟨_,rfl⟩;have H9:V2.heap.size=w.heap.size+2:=by rw[gl];simp
 have Hg:Hid (Below w.heap.size w V2):=by rw[gl];exact((bzR _ _).alloc (nzR _) _).alloc (by simp) _
 have v0:V2.cell? ⟨w.heap.size,0,none⟩=some (.slice q1 n1 c1):=by rw[gl];simp[go_sem]
 have v1:V2.cell? ⟨w.heap.size,1,none⟩=some (.slice q2 n2 c2):=by rw[gl];simp[go_sem]
 have hRo:V2.heap[w.heap.size+1]?=some (.cells #[.int .i64 a,.int .i64 b,.int .i64 c,.int .i64 d,.int .i64 p,.int .i64 q,.int .i64 s,.int .i64 t] 34 (0,0)):=by
  rw[gl];have:=jA (w.alloc (.cells #[.slice q1 n1 c1,.slice q2 n2 c2] 57)) (.cells #[.int .i64 a,.int .i64 b,.int .i64 c,.int .i64 d,.int .i64 p,.int .i64 q,.int .i64 s,.int .i64 t] 34);simpa using this
 have cel:∀i,V2.cell? ⟨w.heap.size+1,i,none⟩=(#[.int .i64 a,.int .i64 b,.int .i64 c,.int .i64 d,.int .i64 p,.int .i64 q,.int .i64 s,.int .i64 t]:Array Value)[i]?:=fun i=>by simp[World.cell?,hRo]
 obtain⟨V,hV⟩:∃V,V=V2.alloc (.cells #[.slice none 0 0,.slice none 0 0] 57):=⟨_,rfl⟩;have ex:Below V2.heap.size V2 V:=by rw[hV];exact(bzR _ _).alloc (nzR _) _
 have ue:Hid (Below V2.heap.size V2 V):=ex;have GL:V.heap[V2.heap.size]?=some (.cells #[.slice none 0 0,.slice none 0 0] 57 (0,0)):=by rw[hV];exact jA V2 _
 have Ho:Hid (∀W,Below V2.heap.size V2 W→Below w.heap.size w W∧W.cell? ⟨w.heap.size,0,none⟩=some (.slice q1 n1 c1)∧W.cell? ⟨w.heap.size,1,none⟩=some (.slice q2 n2 c2)∧W.cell? ⟨w.heap.size+1,0,none⟩=some (.int .i64 a)∧W.cell? ⟨w.heap.size+1,1,none⟩=some (.int .i64 b)∧W.cell? ⟨w.heap.size+1,2,none⟩=some (.int .i64 c)∧W.cell? ⟨w.heap.size+1,3,none⟩=some (.int .i64 d)∧W.cell? ⟨w.heap.size+1,4,none⟩=some (.int .i64 p)∧W.cell? ⟨w.heap.size+1,5,none⟩=some (.int .i64 q)∧W.cell? ⟨w.heap.size+1,6,none⟩=some (.int .i64 s)∧W.cell? ⟨w.heap.size+1,7,none⟩=some (.int .i64 t)):=
  fun W hW=>⟨Hg.out.trans (hW.mono Hg.out.size),zAa hW v0,zAa hW v1,zAa hW (cel 0),zAa hW (cel 1),zAa hW (cel 2),zAa hW (cel 3),zAa hW (cel 4),zAa hW (cel 5),zAa hW (cel 6),zAa hW (cel 7)⟩
 have GE:Hid (∀W,Below w.heap.size w W→Calls prog 76 #[.agg #[.slice q1 n1 c1,.slice q2 n2 c2],.agg #[.int .i64 a,.int .i64 b,.int .i64 c,.int .i64 d,.int .i64 p,.int .i64 q,.int .i64 s,.int .i64 t]] W fun e w'=>e=.returned (errV (zAu bs ss ⟨a,b,c,d,p,q,s,t⟩))∧Below W.heap.size W w'):=fun W hW=>zFf q1 q2 n1 n2 c1 c2 bs ss a b c d p q s t W (h1.below hW) (h2.below hW)
 have uA:Hid (∀W,zAc bs ss=0→Below w.heap.size w W→Calls prog 49 #[.agg #[.slice q1 n1 c1,.slice q2 n2 c2]] W fun e w'=>BFPost bs ss W e w'):=fun W h0 hW=>zFe q1 q2 n1 n2 c1 c2 bs ss W (h1.below hW) (h2.below hW) (zAh h0).1 (zAh h0).2.1
 obtain⟨P,hP⟩:∃P,P=w.heap.size+2:=⟨_,rfl⟩;have pQ:V2.heap.size=P:=by rw[H9,hP]
 rw[pQ] at GL Ho ue;have HP:Hid (V2.heap.size=P∧P=w.heap.size+2):=⟨pQ,hP⟩;clear h1 h2 v0 v1 hRo cel H9 ex pQ;go_enter func47,ntmps47;go_wp2_with fail;rw[←gl,←hV];simp only[←hP];clear gl hV hP;have HVw:Hid (Below w.heap.size w V):=(Ho.out V ue.out).1;obtain⟨-,x0,x1,o0,o1,o2,o3,o4,o5,o6,o7⟩:=Ho.out V ue.out;refine(GE.out V HVw.out).mono ?_;rintro x w1⟨rfl,b1⟩;have Df:Hid (Below P V2 w1):=ue.out.trans (b1.mono (jX (gzE.1 GL).1));obtain⟨H7,y0,y1,p0,p1,p2,p3,p4,p5,p6,p7⟩:=Ho.out w1 Df.out;have go:Hid (Below w.heap.size w w1):=H7;have gh:w1.heap[P]?=some (.cells #[.slice none 0 0,.slice none 0 0] 57 (0,0)):=(b1.block P (gzE.1 GL).1).trans GL;have pR:P<w1.heap.size:=(gzE.1 gh).1;clear b1 x0 x1 o0 o1 o2 o3 o4 o5 o6 o7 GL H7;obtain⟨z0,z1,zf⟩:=zAb gh;have zf0:=zf 0;have zf1:=zf 1;by_cases hC:zAu bs ss ⟨a,b,c,d,p,q,s,t⟩=0
 rotate_left
 ·have Gc:=zAz gh (.slice none 0 0) (.slice none 0 0);have hg:=zAT w1 P (.slice none 0 0) (.slice none 0 0);have gD:TakePost bs ss ⟨a,b,c,d,p,q,s,t⟩ w (.returned (.tuple #[.agg #[.slice none 0 0,.slice none 0 0],.slice none 0 0,.int .i64 0,.iface 90 (.int .i64 (zAu bs ss ⟨a,b,c,d,p,q,s,t⟩))])) ((w1.setCell ⟨P,0,none⟩ (.slice none 0 0)).setCell ⟨P,1,none⟩ (.slice none 0 0)):=
   ⟨fun h=>absurd h hC,fun _=>by rw[wAb hC],go.out.grown hg go.out.size (fun k hk=>by cases hk;have:=HP.out;omega)⟩
  have Hx:Hid (((w1.setCell ⟨P,0,none⟩ (.slice none 0 0)).setCell ⟨P,1,none⟩ (.slice none 0 0)).heap[P]?=some (.cells #[.slice none 0 0,.slice none 0 0] 57 (0,0))):=Gc;rw[wAb hC];clear Gc hg gh zf;go_wp2_with fail;generalize ((w1.setCell ⟨P,0,none⟩ (.slice none 0 0)).setCell ⟨P,1,none⟩ (.slice none 0 0))=Z at *;obtain⟨k0,k1,-⟩:=zAb Hx.out;exact jN (v:=.tuple #[.agg #[.slice none 0 0,.slice none 0 0],.slice none 0 0,.int .i64 0,.iface 90 (.int .i64 (zAu bs ss ⟨a,b,c,d,p,q,s,t⟩))]) (by simp[results,results47,go_sem,k0,k1]) rfl gD
 have cw:Hid (zAc bs ss=0∧chk ⟨a,b,c,d,p,q,s,t⟩=0∧zAu bs ss ⟨a,b,c,d,p,q,s,t⟩=0):=⟨(zAG hC).1,(zAG hC).2.1,hC⟩;rw[hC,wAa];go_wp2_with fail;refine(uA.out w1 cw.out.1 go.out).mono ?_;rintro x w2⟨qa,qb,ma,mb,ca,cb,rfl,bF,D1,D2,K1,K2⟩;have Bh:Hid (∀W,GrB w2 W w1.heap.size (Value.slice qb mb cb).ownBlock→DL W w1.heap.size (.slice qa ma ca) bs):=K1;have Uw:Hid (∀W,GrB w2 W w1.heap.size (Value.slice qa ma ca).ownBlock→DL W w1.heap.size (.slice qb mb cb) ss):=K2;have uw:Hid (P<w1.heap.size):=pR;have gw:w2.heap[P]?=some (.cells #[.slice none 0 0,.slice none 0 0] 57 (0,0)):=(bF.block P pR).trans gh;obtain⟨t0,t1,tf⟩:=zAb gw;have tf0:=tf 0;have tf1:=tf 1;have eo:=zAz gw (.slice qa ma ca) (.slice qb mb cb);have Ey:=zAT w2 P (.slice qa ma ca) (.slice qb mb cb);have Dg:Below P V2 w2:=Df.out.trans (bF.mono (jX pR))
 have ey:Below P V2 ((w2.setCell ⟨P,0,none⟩ (.slice qa ma ca)).setCell ⟨P,1,none⟩ (.slice qb mb cb)):=(Dg.setCell (nzR _) _).setCell (nzR _) _;obtain⟨ez,-,-,f0,f1,f2,f3,f4,f5,f6,f7⟩:=Ho.out _ ey;have GA:Hid (Below w.heap.size w ((w2.setCell ⟨P,0,none⟩ (.slice qa ma ca)).setCell ⟨P,1,none⟩ (.slice qb mb cb))):=ez;have uV:Hid (DL ((w2.setCell ⟨P,0,none⟩ (.slice qa ma ca)).setCell ⟨P,1,none⟩ (.slice qb mb cb)) w1.heap.size (.slice qa ma ca) bs):=DL.other D1 Ey pR;have ut:Hid (DL ((w2.setCell ⟨P,0,none⟩ (.slice qa ma ca)).setCell ⟨P,1,none⟩ (.slice qb mb cb)) w1.heap.size (.slice qb mb cb) ss):=DL.other D2 Ey pR;have PU:Hid (((w2.setCell ⟨P,0,none⟩ (.slice qa ma ca)).setCell ⟨P,1,none⟩ (.slice qb mb cb)).heap[P]?=some (.cells #[.slice qa ma ca,.slice qb mb cb] 57 (0,0))):=eo
 have HXG:Hid (w2.grownBy ((w2.setCell ⟨P,0,none⟩ (.slice qa ma ca)).setCell ⟨P,1,none⟩ (.slice qb mb cb)) (some P)):=Ey;clear bF D1 D2 K1 K2 gw tf eo Ey Dg ey ez gh zf y0 y1 p0 p1 p2 p3 p4 p5 p6 p7 z0 z1 zf0 zf1;go_upto_region 5 with fail
 generalize ((w2.setCell ⟨P,0,none⟩ (.slice qa ma ca)).setCell ⟨P,1,none⟩ (.slice qb mb cb))=X at *;obtain⟨g0,g1,-⟩:=zAb PU.out;by_cases Gn:c=1
 ·subst Gn;have Hz:Hid (∀W qt mt ct tv,DL W w1.heap.size (.slice qt mt ct) (tkl ⟨a,b,1,d,p,q,s,t⟩ ss q).1→DL W w1.heap.size (.slice qa ma ca) bs→OwnT W X.heap.size tv (tkl ⟨a,b,1,d,p,q,s,t⟩ ss q).2.1→Below w.heap.size w W→TakePost bs ss ⟨a,b,1,d,p,q,s,t⟩ w (.returned (.tuple #[.agg #[.slice qa ma ca,.slice qt mt ct],tv,.int .i64 (tkl ⟨a,b,1,d,p,q,s,t⟩ ss q).2.2,.nilIface])) W):=fun W qt mt ct tv e1 e2 e3 e4=>
   ⟨fun _=>⟨qa,qt,ma,mt,ca,ct,tv,rfl,e2.mono go.out.size,e1.mono go.out.size,OwnM.mono e3 GA.out.size⟩,fun h=>absurd cw.out.2.2 h,e4⟩
  obtain⟨pst,est,Cj⟩:=ut.out;have HLG:Hid (∀l∈pst.map toL,lchk l=0):=by
   rw[est];exact zAs (zAe (zAh cw.out.1).2.1).2.1
  have GJ:Hid (Calls prog 77 #[.slice qb mb cb,.agg #[.int .i64 a,.int .i64 b,.int .i64 1,.int .i64 d,.int .i64 p,.int .i64 q,.int .i64 s,.int .i64 t]] X fun e w'=>∃v' tv,e=.returned (.tuple #[v',tv,.int .i64 (tkl ⟨a,b,1,d,p,q,s,t⟩ ss q).2.2,.nilIface])∧DL w' w1.heap.size v' (tkl ⟨a,b,1,d,p,q,s,t⟩ ss q).1∧OwnT w' X.heap.size tv (tkl ⟨a,b,1,d,p,q,s,t⟩ ss q).2.1∧X.grownBy w' (Value.slice qb mb cb).ownBlock):=by
   have h:=zEh a b 1 d p q s t (.slice qb mb cb) pst w1.heap.size X Cj cw.out.2.1 HLG.out;rw[est] at h;exact h
  have UW:Hid (∀k,(Value.slice qb mb cb).ownBlock=some k→w1.heap.size≤k):=fun k hk=>(OwnM.lt Cj.own k hk).1
  clear Cj;go_wp2_with fail;refine GJ.out.mono ?_;rintro e w3⟨v',tv,rfl,D3,O3,G3⟩;obtain⟨qt,mt,ct,hv3⟩:=D3.form;subst hv3;have hPL:=uw.out;have gZ:w3.heap[P]?=some (.cells #[.slice qa ma ca,.slice qb mb cb] 57 (0,0)):=(G3.block P (gzE.1 PU.out).1 (fun e=>by have:=UW.out P e.symm;omega)).trans PU.out
  obtain⟨s0,s1,sf⟩:=zAb gZ;have sf0:=sf 0;have sf1:=sf 1;have cY:=zQF gZ (.slice qt mt ct);have Ph:=wAc w3 P 1 (.slice qt mt ct);obtain⟨u0,u1,uf⟩:=zAb cY;have uf0:=uf 0;have uf1:=uf 1;have Gc:=zAz cY (.slice qa ma ca) (.slice qt mt ct);have Ge:=wAd Ph (zAT (w3.setCell ⟨P,1,none⟩ (.slice qt mt ct)) P (.slice qa ma ca) (.slice qt mt ct));have U6:P<X.heap.size:=(gzE.1 PU.out).1;have eJ:GrB w2 (((w3.setCell ⟨P,1,none⟩ (.slice qt mt ct)).setCell ⟨P,0,none⟩ (.slice qa ma ca)).setCell ⟨P,1,none⟩ (.slice qt mt ct)) w1.heap.size (Value.slice qb mb cb).ownBlock:=by
   have gu:=HXG.out.size;have gA:=G3.size;have hz3:=Ge.size;refine⟨by omega,fun k h1 h2 h3=>?_⟩
   rw[Ge.block k (by omega) (fun e=>by cases e;omega),G3.block k (by omega) (fun e=>h3 e.symm),HXG.out.block k h2 (fun e=>by cases e;omega)]
  have gD:=Hz.out _ qt mt ct tv (DL.other D3 Ge hPL) (Bh.out _ eJ) (zAm O3 Ge (fun z hz e=>by cases e;have:=(OwnM.lt O3 P hz).1;omega)) (by
   have h1:Below w.heap.size w X:=GA.out;have h2:Below w.heap.size w w3:=h1.grown G3 h1.size (fun k hk=>by have:=UW.out k hk;have:=go.out.size;omega)
   exact h2.grown Ge h2.size (fun k hk=>by cases hk;have:=HP.out;omega))
  have Hx:Hid ((((w3.setCell ⟨P,1,none⟩ (.slice qt mt ct)).setCell ⟨P,0,none⟩ (.slice qa ma ca)).setCell ⟨P,1,none⟩ (.slice qt mt ct)).heap[P]?=some (.cells #[.slice qa ma ca,.slice qt mt ct] 57 (0,0))):=Gc;clear D3 O3 G3 eJ Ph Ge cY Gc gZ sf uf;go_wp2_with fail;generalize (((w3.setCell ⟨P,1,none⟩ (.slice qt mt ct)).setCell ⟨P,0,none⟩ (.slice qa ma ca)).setCell ⟨P,1,none⟩ (.slice qt mt ct))=Z at *;obtain⟨y0,y1,-⟩:=zAb Hx.out;exact jN (v:=.tuple #[.agg #[.slice qa ma ca,.slice qt mt ct],tv,.int .i64 (tkl ⟨a,b,1,d,p,q,s,t⟩ ss q).2.2,.nilIface]) (by simp[results,results47,go_sem,y0,y1]) rfl gD
 ·have hc1b:(c == 1)=false:=by simp[Gn]
  have Hz:Hid (∀W qt mt ct tv,DL W w1.heap.size (.slice qt mt ct) (tkl ⟨a,b,c,d,p,q,s,t⟩ bs q).1→DL W w1.heap.size (.slice qb mb cb) ss→OwnT W X.heap.size tv (tkl ⟨a,b,c,d,p,q,s,t⟩ bs q).2.1→Below w.heap.size w W→TakePost bs ss ⟨a,b,c,d,p,q,s,t⟩ w (.returned (.tuple #[.agg #[.slice qt mt ct,.slice qb mb cb],tv,.int .i64 (tkl ⟨a,b,c,d,p,q,s,t⟩ bs q).2.2,.nilIface])) W):=fun W qt mt ct tv e1 e2 e3 e4=>by
   have hO:zAr bs ss ⟨a,b,c,d,p,q,s,t⟩=bs:=if_neg Gn;have hR:metR bs ss ⟨a,b,c,d,p,q,s,t⟩=tkl ⟨a,b,c,d,p,q,s,t⟩ bs q:=by unfold metR;rw[hO]
   have hB:metB bs ss ⟨a,b,c,d,p,q,s,t⟩=(tkl ⟨a,b,c,d,p,q,s,t⟩ bs q).1:=by unfold metB;rw[if_neg Gn,hR]
   have hS:metS bs ss ⟨a,b,c,d,p,q,s,t⟩=ss:=if_neg Gn;refine⟨fun _=>⟨qt,qb,mt,mb,ct,cb,tv,by rw[hR],?_,?_,?_⟩,fun h=>absurd cw.out.2.2 h,e4⟩
   ·rw[hB];exact e1.mono go.out.size
   ·rw[hS];exact e2.mono go.out.size
   ·rw[hR];exact OwnM.mono e3 GA.out.size
  obtain⟨pst,est,Cj⟩:=uV.out;have HLG:Hid (∀l∈pst.map toL,lchk l=0):=by
   rw[est];exact zAs (zAe (zAh cw.out.1).1).2.1
  have GJ:Hid (Calls prog 77 #[.slice qa ma ca,.agg #[.int .i64 a,.int .i64 b,.int .i64 c,.int .i64 d,.int .i64 p,.int .i64 q,.int .i64 s,.int .i64 t]] X fun e w'=>∃v' tv,e=.returned (.tuple #[v',tv,.int .i64 (tkl ⟨a,b,c,d,p,q,s,t⟩ bs q).2.2,.nilIface])∧DL w' w1.heap.size v' (tkl ⟨a,b,c,d,p,q,s,t⟩ bs q).1∧OwnT w' X.heap.size tv (tkl ⟨a,b,c,d,p,q,s,t⟩ bs q).2.1∧X.grownBy w' (Value.slice qa ma ca).ownBlock):=by
   have h:=zEh a b c d p q s t (.slice qa ma ca) pst w1.heap.size X Cj cw.out.2.1 HLG.out;rw[est] at h;exact h
  have UW:Hid (∀k,(Value.slice qa ma ca).ownBlock=some k→w1.heap.size≤k):=fun k hk=>(OwnM.lt Cj.own k hk).1
  clear Cj;go_wp2_with fail;refine GJ.out.mono ?_;rintro e w3⟨v',tv,rfl,D3,O3,G3⟩;obtain⟨qt,mt,ct,hv3⟩:=D3.form;subst hv3;have hPL:=uw.out;have gZ:w3.heap[P]?=some (.cells #[.slice qa ma ca,.slice qb mb cb] 57 (0,0)):=(G3.block P (gzE.1 PU.out).1 (fun e=>by have:=UW.out P e.symm;omega)).trans PU.out
  obtain⟨s0,s1,sf⟩:=zAb gZ;have sf0:=sf 0;have sf1:=sf 1;have cY:=zQE gZ (.slice qt mt ct);have Ph:=wAc w3 P 0 (.slice qt mt ct);obtain⟨u0,u1,uf⟩:=zAb cY;have uf0:=uf 0;have uf1:=uf 1;have Gc:=zAz cY (.slice qt mt ct) (.slice qb mb cb);have Ge:=wAd Ph (zAT (w3.setCell ⟨P,0,none⟩ (.slice qt mt ct)) P (.slice qt mt ct) (.slice qb mb cb));have U6:P<X.heap.size:=(gzE.1 PU.out).1;have eJ:GrB w2 (((w3.setCell ⟨P,0,none⟩ (.slice qt mt ct)).setCell ⟨P,0,none⟩ (.slice qt mt ct)).setCell ⟨P,1,none⟩ (.slice qb mb cb)) w1.heap.size (Value.slice qa ma ca).ownBlock:=by
   have gu:=HXG.out.size;have gA:=G3.size;have hz3:=Ge.size;refine⟨by omega,fun k h1 h2 h3=>?_⟩
   rw[Ge.block k (by omega) (fun e=>by cases e;omega),G3.block k (by omega) (fun e=>h3 e.symm),HXG.out.block k h2 (fun e=>by cases e;omega)]
  have gD:=Hz.out _ qt mt ct tv (DL.other D3 Ge hPL) (Uw.out _ eJ) (zAm O3 Ge (fun z hz e=>by cases e;have:=(OwnM.lt O3 P hz).1;omega)) (by
   have h1:Below w.heap.size w X:=GA.out;have h2:Below w.heap.size w w3:=h1.grown G3 h1.size (fun k hk=>by have:=UW.out k hk;have:=go.out.size;omega)
   exact h2.grown Ge h2.size (fun k hk=>by cases hk;have:=HP.out;omega))
  have Hx:Hid ((((w3.setCell ⟨P,0,none⟩ (.slice qt mt ct)).setCell ⟨P,0,none⟩ (.slice qt mt ct)).setCell ⟨P,1,none⟩ (.slice qb mb cb)).heap[P]?=some (.cells #[.slice qt mt ct,.slice qb mb cb] 57 (0,0))):=Gc;clear D3 O3 G3 eJ Ph Ge cY Gc gZ sf uf;go_wp2_with fail;generalize (((w3.setCell ⟨P,0,none⟩ (.slice qt mt ct)).setCell ⟨P,0,none⟩ (.slice qt mt ct)).setCell ⟨P,1,none⟩ (.slice qb mb cb))=Z at *;obtain⟨y0,y1,-⟩:=zAb Hx.out;exact jN (v:=.tuple #[.agg #[.slice qt mt ct,.slice qb mb cb],tv,.int .i64 (tkl ⟨a,b,c,d,p,q,s,t⟩ bs q).2.2,.nilIface]) (by simp[results,results47,go_sem,y0,y1]) rfl gD
end mee
end Go.Proofs.YtnfilcpnneckkaaGreat
