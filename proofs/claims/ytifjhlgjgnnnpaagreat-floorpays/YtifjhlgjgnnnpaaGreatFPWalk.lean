import Derived.Test.YtifjhlgjgnnnpaaGreatFPWalk0
import Derived.Test.YtifjhlgjgnnnpaaGreatLimOrd
set_option maxHeartbeats 4000000
set_option maxRecDepth 100000
namespace Go.Proofs.YtifjhlgjgnnnpaaGreat
namespace flr
open Go.RowKit
open que (R rchk)
open sid (L DL LS)
open mee (T tV OwnT sumT)
open ord (O oV chk errV errV_zero errV_of prB)
open bok (bookE inBook)
open pur (Pz Pu Ok flatP pL payE payP giveE giveP)
open wak (OwnM OwnQ St SL Lies oL idx Trn)
theorem own_some{w:World}{b:Nat}{e:TypeId}{sz n c:Nat}{q:Option Addr}{xs:List Value}(h:OwnM w b e sz (.slice q n c) n xs)(hn:0<n):∃g o,q=some ⟨g,o,none⟩∧b≤g∧g<w.heap.size∧∀j v,xs[j]?=some v→w.cell? ⟨g,o+j,none⟩=some v:=by
 rcases h.2 with ⟨h1,h2⟩|⟨g,off,cap,cur,h1,h2,h3,h4,h5,h6,h7⟩
 ·omega
 ·cases h1
  refine⟨g,off,rfl,h2,(gzE.1 h3).1,fun j v hj=>?_⟩
  rw[cell_of_row w g (off+j) cur e (0,0) h3,←hj,←h7,List.getElem?_take,List.getElem?_drop,if_pos]
  ·simp
  ·have:=(List.getElem?_eq_some_iff.1 hj).1
   rw[h.1] at this;exact this
theorem buy_at{w w1:World}{F:Nat}{p l q:Int}(h:FloorAt w w1 F (floorOf (tS1 p q)))(hp:PQ p l q) :
  Calls Tryz.prog 8 #[.pointer (some ⟨F,0,none⟩),.agg #[.int .i64 1,.int .i64 2,.int .i64 2,.int .i64 1,.int .i64 1,.int .i64 l,.int .i64 q,.int .i64 0,.int .i64 0,.int .i64 0,.int .i64 0]] w1 fun e w'=>∃g o k,e=.returned (.tuple #[.slice (some ⟨g,o,none⟩) 1 k,.nilIface])∧w'.cell? ⟨g,o,none⟩=some (.int .i64 2)∧g<w'.heap.size∧FloorAt w w' F (floorOf (tS2 p q)):=by
 refine(do_at 1 2 2 1 1 l q 0 0 0 0 (tS2 p q) h (fdo_wf (zEd (m:=1) (by decide) (by decide) (nzR 9)) (zKN hp)) (by decide) (buy_do hp)).mono ?_
 rintro e w'⟨q5,k5,rfl,o5,h5⟩
 obtain⟨g,o,rfl,-,hg,hc⟩:=own_some o5 (by show 0<1;decide)
 refine⟨g,o,k5,rfl,?_,hg,h5⟩
 exact hc 0 _ rfl
theorem zKP(p q:Int):pur.getZ (floorOf (tS2 p q)).ps 1=⟨1,500000000+p*q,0,100000 - q,0⟩:=rfl
theorem zKQ(p q:Int):pur.getZ (floorOf (tS2 p q)).ps 2=⟨2,500000000 - p*q,0,100000+q,0⟩:=rfl
theorem pays_out(p l q:Int)(w:World)(h:p<1∨l<p∨10000<l∨q<1∨10000<q) :
  Calls Tryz.prog 4 #[.int .i64 p,.int .i64 l,.int .i64 q] w fun e w'=>e=.returned (.bool true)∧Below w.heap.size w w':=by
 by_cases h0:p<1
 ·have d0:decide (p<1)=true:=decide_eq_true h0
  go_enter Tryz.func4,Tryz.ntmps4
  go_wp2_with fail
  refine(zBw 1 (by decide) (by decide) _).mono ?_
  rintro e w1⟨F,rfl,h1⟩
  have H1:=hidF h1
  clear h1
  go_wp2_with fail
  go_ret
  exact⟨rfl,H1.out.bel⟩
 have d0:decide (p<1)=false:=decide_eq_false h0
 by_cases h1:l<p
 ·have d1:decide (l<p)=true:=decide_eq_true h1
  go_enter Tryz.func4,Tryz.ntmps4
  go_wp2_with fail
  refine(zBw 1 (by decide) (by decide) _).mono ?_
  rintro e w1⟨F,rfl,h1⟩
  have H1:=hidF h1
  clear h1
  go_wp2_with fail
  go_ret
  exact⟨rfl,H1.out.bel⟩
 have d1:decide (l<p)=false:=decide_eq_false h1
 by_cases h2:10000<l
 ·have d2:decide (10000<l)=true:=decide_eq_true h2
  go_enter Tryz.func4,Tryz.ntmps4
  go_wp2_with fail
  refine(zBw 1 (by decide) (by decide) _).mono ?_
  rintro e w1⟨F,rfl,h1⟩
  have H1:=hidF h1
  clear h1
  go_wp2_with fail
  go_ret
  exact⟨rfl,H1.out.bel⟩
 have d2:decide (10000<l)=false:=decide_eq_false h2
 by_cases h3:q<1
 ·have d3:decide (q<1)=true:=decide_eq_true h3
  go_enter Tryz.func4,Tryz.ntmps4
  go_wp2_with fail
  refine(zBw 1 (by decide) (by decide) _).mono ?_
  rintro e w1⟨F,rfl,h1⟩
  have H1:=hidF h1
  clear h1
  go_wp2_with fail
  go_ret
  exact⟨rfl,H1.out.bel⟩
 have d3:decide (q<1)=false:=decide_eq_false h3
 by_cases h4:10000<q
 ·have d4:decide (10000<q)=true:=decide_eq_true h4
  go_enter Tryz.func4,Tryz.ntmps4
  go_wp2_with fail
  refine(zBw 1 (by decide) (by decide) _).mono ?_
  rintro e w1⟨F,rfl,h1⟩
  have H1:=hidF h1
  clear h1
  go_wp2_with fail
  go_ret
  exact⟨rfl,H1.out.bel⟩
 have d4:decide (10000<q)=false:=decide_eq_false h4
 omega
theorem pays_in(p l q:Int)(w:World)(h:PQ p l q) :
  Calls Tryz.prog 4 #[.int .i64 p,.int .i64 l,.int .i64 q] w fun e w'=>e=.returned (.bool true)∧Below w.heap.size w w':=by
 have d0:decide (p<1)=false:=decide_eq_false (by have:=h.a1;omega)
 have d1:decide (l<p)=false:=decide_eq_false (by have:=h.a2;omega)
 have d2:decide (10000<l)=false:=decide_eq_false (by have:=h.a3;omega)
 have d3:decide (q<1)=false:=decide_eq_false (by have:=h.q1;omega)
 have d4:decide (10000<q)=false:=decide_eq_false (by have:=h.q2;omega)
 have HPQ:=hidF h
 clear h
 go_enter Tryz.func4,Tryz.ntmps4
 go_wp2_with fail
 refine(zBw 1 (by decide) (by decide) _).mono ?_
 rintro e w1⟨F,rfl,h1⟩
 have H1:=hidF h1
 clear h1
 go_wp2_with fail
 clear d0 d1 d2 d3 d4
 refine(lim.zFn 1 1 2 p q _).mono ?_
 rintro e w2⟨rfl,hb⟩
 have H2:=hidF (H1.out.keep hb)
 clear hb H1
 go_wp2_with fail
 refine(do_at 1 1 1 2 1 p q 0 0 0 0 (tS1 p q) H2.out (zEd (by decide) (by decide) (nzR 9)) (by decide) (zKN HPQ.out)).mono ?_
 rintro e w3⟨q3,k3,rfl,-,h3⟩
 have H3:=hidF h3
 clear h3 H2
 generalize (tS1 p q).evs.length=n3
 go_wp2_with fail
 refine(lim.zFn 2 2 1 l q _).mono ?_
 rintro e w4⟨rfl,hb⟩
 have H4:=hidF (H3.out.keep hb)
 clear hb H3
 go_wp2_with fail
 refine(buy_at H4.out HPQ.out).mono ?_
 rintro e w5⟨g5,o5,k5,rfl,x5,l5,h5⟩
 have H5:=hidF h5
 have HX:=hidF (And.intro x5 l5)
 have HP1:=hidF (fun W(hW:Below w5.heap.size w5 W)=>zBS F _ _ 1 W (h5.fm.choose_spec.below hW))
 have HP2:=hidF (fun W(hW:Below w5.heap.size w5 W)=>zBS F _ _ 2 W (h5.fm.choose_spec.below hW))
 have HLA:=hidF (fun W(hW:Below w5.heap.size w5 W)=>last_any F _ _ W (h5.fm.choose_spec.below hW))
 rw[zKP,show spn.errV (spn.rangeE (pur.badW 1))=.nilIface from rfl] at HP1
 rw[zKQ,show spn.errV (spn.rangeE (pur.badW 2))=.nilIface from rfl] at HP2
 rw[show (floorOf (tS2 p q)).last=p from rfl] at HLA
 obtain⟨n1,n2,n3',-⟩:=nums HPQ.out
 obtain⟨c,hc⟩:∃c,c=p*q:=⟨_,rfl⟩
 have hm:wrap64 (p*q)=c:=by rw[hc];unfold wrap64;omega
 rw[←hc] at HP1 HP2 n1 n2
 have HC:Hid (1≤c∧c≤100000000∧1≤q∧q≤10000):=⟨n1,by omega,HPQ.out.q1,HPQ.out.q2⟩
 obtain⟨a1,ha1⟩:∃x,x=500000000+c:=⟨_,rfl⟩
 obtain⟨a2,ha2⟩:∃x,x=500000000 - c:=⟨_,rfl⟩
 obtain⟨b1,hb1⟩:∃x,x=100000 - q:=⟨_,rfl⟩
 obtain⟨b2,hb2⟩:∃x,x=100000+q:=⟨_,rfl⟩
 have m1:wrap64 (500000000+c)=a1:=by rw[ha1];unfold wrap64;omega
 have m2:wrap64 (500000000 - c)=a2:=by rw[ha2];unfold wrap64;omega
 have m3:wrap64 (100000 - q)=b1:=by rw[hb1];have:=HC.out;unfold wrap64;omega
 have m4:wrap64 (100000+q)=b2:=by rw[hb2];have:=HC.out;unfold wrap64;omega
 rw[←ha1,←hb1] at HP1
 rw[←ha2,←hb2] at HP2
 have e1:pL ⟨1,a1,0,b1,0⟩=[.int .i64 1,.int .i64 a1,.int .i64 0,.int .i64 b1,.int .i64 0]:=rfl
 have e2:pL ⟨2,a2,0,b2,0⟩=[.int .i64 2,.int .i64 a2,.int .i64 0,.int .i64 b2,.int .i64 0]:=rfl
 rw[e1] at HP1
 rw[e2] at HP2
 have HW:=hidF (And.intro hm (And.intro m1 (And.intro m2 (And.intro m3 m4))))
 clear n1 n2 n3' hc hm ha1 ha2 hb1 hb2 m1 m2 m3 m4 e1 e2 x5 l5 h5 HC H4
 go_wp2_with fail
 refine(HP1.out w5 (bzR _ _)).mono ?_
 rintro e w6⟨rfl,b6⟩
 have hn6:Below w6.heap.size w6 (w6.alloc (.cells #[.int .i64 1,.int .i64 a1,.int .i64 0,.int .i64 b1,.int .i64 0] 36)):=(bzR _ _).alloc (nzR _) _
 have HR6:Hid ((w6.alloc (.cells #[.int .i64 1,.int .i64 a1,.int .i64 0,.int .i64 b1,.int .i64 0] 36)).heap[w6.heap.size]?=some (.cells #[.int .i64 1,.int .i64 a1,.int .i64 0,.int .i64 b1,.int .i64 0] 36 (0,0))):=heap_alloc_new w6 _
 have HB6:=hidF (b6.trans (hn6.mono b6.size))
 clear b6 hn6 HP1
 go_upto_region 9 with fail
 generalize w6.alloc (.cells #[.int .i64 1,.int .i64 a1,.int .i64 0,.int .i64 b1,.int .i64 0] 36)=W6 at *
 generalize w6.heap.size=P1 at *
 go_wp2_with fail
 refine(HP2.out W6 HB6.out).mono ?_
 rintro e w7⟨rfl,b7⟩
 have hn7:Below w7.heap.size w7 (w7.alloc (.cells #[.int .i64 2,.int .i64 a2,.int .i64 0,.int .i64 b2,.int .i64 0] 36)):=(bzR _ _).alloc (nzR _) _
 have HR7:Hid ((w7.alloc (.cells #[.int .i64 2,.int .i64 a2,.int .i64 0,.int .i64 b2,.int .i64 0] 36)).heap[w7.heap.size]?=some (.cells #[.int .i64 2,.int .i64 a2,.int .i64 0,.int .i64 b2,.int .i64 0] 36 (0,0))):=heap_alloc_new w7 _
 have hB67:=b7.trans (hn7.mono b7.size)
 have HB7:=hidF (HB6.out.trans (hB67.mono HB6.out.size))
 have HR67:=hidF (keepF HR6.out hB67)
 clear b7 hn7 HP2 hB67 HR6 HB6
 go_upto_region 10 with fail
 generalize w7.alloc (.cells #[.int .i64 2,.int .i64 a2,.int .i64 0,.int .i64 b2,.int .i64 0] 36)=W7 at *
 generalize w7.heap.size=P2 at *
 have x5:W7.cell? ⟨g5,o5,none⟩=some (.int .i64 2):=(HB7.out.cell (p:=⟨g5,o5,none⟩) HX.out.2).trans HX.out.1
 obtain⟨y0,y1,y2,y3,y4,-⟩:=sid.rowFive HR67.out
 obtain⟨z0,z1,z2,z3,z4,-⟩:=sid.rowFive HR7.out
 have HLB:=hidF (HLA.out W7 HB7.out)
 have hm:=HW.out.1
 have m1:=HW.out.2.1
 have m2:=HW.out.2.2.1
 have m3:=HW.out.2.2.2.1
 have m4:=HW.out.2.2.2.2
 clear HX
 go_wp2_with fail
 refine HLB.out.mono ?_
 rintro e w8⟨rfl,rfl⟩
 go_wp2_with fail
 go_ret
 exact⟨rfl,H5.out.bel.trans (HB7.out.mono H5.out.bel.size)⟩
theorem zKR(p l q:Int)(w:World) :
  Calls Tryz.prog 4 #[.int .i64 p,.int .i64 l,.int .i64 q] w fun e w'=>e=.returned (.bool true)∧Below w.heap.size w w':=by
 by_cases h:p<1∨l<p∨10000<l∨q<1∨10000<q
 ·exact pays_out p l q w h
 ·exact pays_in p l q w ⟨by omega,by omega,by omega,by omega,by omega⟩
end flr
end Go.Proofs.YtifjhlgjgnnnpaaGreat
