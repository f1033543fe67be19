import Derived.Test.YtifjhlgjgnnnpaaGreatSidPure
import Derived.Test.YtifjhlgjgnnnpaaGreatSidPut
import Derived.Test.YtifjhlgjgnnnpaaGreatMeeDo
import Derived.Test.YtifjhlgjgnnnpaaGreatBokRests
namespace Go.Proofs.YtifjhlgjgnnnpaaGreat
namespace mee
open Go.RowKit spn que sid
open ord (O mB chk)
open tickP (priceB sideB betOk betR)
def sumT:List T→Int
 | []=>0
 | t::r=>t.qty+sumT r
theorem zBA(a b:List T):sumT (a++b)=sumT a+sumT b:=by
 induction a with
 | nil=>simp[sumT]
 | cons x t ih=>simp only[List.cons_append,sumT,ih];omega
theorem zGo(o:O)(p:Int)(fs:List F):sumT (fs.map (trd o p))=sum fs:=by
 induction fs with
 | nil=>rfl
 | cons x t ih=>
  simp only[List.map_cons,sumT,sum,ih]
  have:(trd o p x).qty=x.qty:=by unfold trd;split <;>rfl
  rw[this]
def totL:List L→Int
 | []=>0
 | l::t=>tot l.rests+totL t
theorem zCs{o:O}{l:L}{t:List L}{q:Int}(h:0<q)(hm:mB o l.price=true)(hl:lchk l=0) :
  (((take q l.rests).2=[]∧tkl o (l::t) q=((tkl o t (q - sum (take q l.rests).1)).1,(take q l.rests).1.map (trd o l.price)++(tkl o t (q - sum (take q l.rests).1)).2.1,(tkl o t (q - sum (take q l.rests).1)).2.2))∨
   (¬(take q l.rests).2=[]∧q - sum (take q l.rests).1=0∧tkl o (l::t) q=(⟨l.price,(take q l.rests).2⟩::t,(take q l.rests).1.map (trd o l.price),q - sum (take q l.rests).1))):=by
 by_cases he:(take q l.rests).2=[]
 ·exact .inl ⟨he,zBG h hm he⟩
 ·exact .inr ⟨he,zEo (zAc hl).2.2 (by omega) he,zBH h hm he⟩
theorem zCt{o:O}{l:L}{t:List L}{q:Int}(h:¬(0<q∧mB o l.price=true)):tkl o (l::t) q=(l::t,[],q):=by
 by_cases hq:0<q
 ·exact zDA (by
   cases hm:mB o l.price with
   | false=>rfl
   | true=>exact absurd ⟨hq,hm⟩ h)
 ·exact zAB (by omega)
theorem tkl_sum{o:O}:∀ (ls:List L) (q:Int),0≤q→(∀l∈ls,lchk l=0)→sumT (tkl o ls q).2.1+(tkl o ls q).2.2=q∧0≤(tkl o ls q).2.2∧0≤sumT (tkl o ls q).2.1∧((tkl o ls q).2.1.length:Int)≤sumT (tkl o ls q).2.1∧totL (tkl o ls q).1+sumT (tkl o ls q).2.1=totL ls:=by
 intro ls
 induction ls with
 | nil=>intro q h _;simp[tkl,sumT];exact h
 | cons l t ih=>
  intro q h hg
  by_cases hc:0<q∧mB o l.price=true
  ·have hl:=hg l (by simp)
   obtain⟨f1,f2,f3,f4,f5,f6,f7⟩:=zBq (zAc hl).2.2 (q:=q) (by omega)
   rcases zCs (t:=t) hc.1 hc.2 hl with ⟨he,e⟩|⟨he,hz,e⟩
   ·obtain⟨i1,i2,i3,i4,i5⟩:=ih (q - sum (take q l.rests).1) (by omega) (fun x hx=>hg x (by simp[hx]))
    rw[e]
    simp only[zBA,zGo,List.length_append,List.length_map,totL]
    rw[he] at f7
    simp only[tot] at f7
    refine⟨by omega,i2,by omega,by omega,by omega⟩
   ·rw[e]
    simp only[zGo,List.length_map,totL]
    refine⟨by omega,by omega,f2,f3,by omega⟩
  ·rw[zCt hc]
   simp[sumT]
   exact h
def ahd(s:Int)(a b:Int):Prop:=if s=1 then b<a else a<b
theorem zMg{s a b:Int}(hs:sideB s=true)(h:leadB s a b=true):ahd s a b:=by
 simp[sideB] at hs
 unfold leadB betR at h
 unfold ahd
 rcases hs with rfl|rfl
 ·have e:wrap64 (3 - 1)=2:=by unfold wrap64;omega
  rw[e] at h
  simp at h
  simp
  exact h.2
 ·have e:wrap64 (3 - 2)=1:=by unfold wrap64;omega
  rw[e] at h
  simp at h
  simp
  exact h.2
theorem zEA{s a b c:Int}(h1:ahd s a b)(h2:ahd s b c):ahd s a c:=by
 unfold ahd at *
 split at h1 <;>simp_all <;>omega
theorem zDH{s:Int}(hs:sideB s=true):∀ (ls:List L) (prev:Option Int),sgo s prev ls=0→(ls.Pairwise fun a b=>ahd s a.price b.price)∧∀x,prev=some x→∀l∈ls,ahd s x l.price:=by
 intro ls
 induction ls with
 | nil=>intro prev _;exact⟨List.Pairwise.nil,fun x _ l hl=>by cases hl⟩
 | cons l t ih=>
  intro prev h
  obtain⟨h1,h2,h3⟩:=zAy h
  obtain⟨i1,i2⟩:=ih (some l.price) h3
  refine⟨List.pairwise_cons.2 ⟨fun b hb=>i2 _ rfl b hb,i1⟩,fun x hx b hb=>?_⟩
  subst hx
  have hxl:ahd s x l.price:=zMg hs h2
  rcases List.mem_cons.1 hb with rfl|hb
  ·exact hxl
  ·exact zEA hxl (i2 _ rfl b hb)
end mee
namespace mee
open Go.RowKit spn que sid bok
open ord (O oV mB mE chk zAk)
theorem other_good{bs ss:List L}{o:O}(h:bookE bs ss=0):∀l∈otherL bs ss o,lchk l=0:=by
 obtain⟨e1,e2,-⟩:=zAb h
 unfold otherL
 split
 ·exact zAh (zAa e2).2.1
 ·exact zAh (zAa e1).2.1
theorem zJl{o:O}(h:chk o=0):1≤o.qty∧o.qty≤10000:=by
 obtain⟨-,-,h3,-,-⟩:=ord.zAH h
 simp[ord.qtyB] at h3
 exact⟨h3.1.1.1,h3.1.1.2⟩
def doE(bs ss:List L)(o:O):Int:=if comeE bs ss o=0 then (if 400<(metR bs ss o).2.1.length then 4 else 0) else comeE bs ss o
def DoPostD(bs ss:List L)(o:O)(w:World)(e:Ending)(w' : World):Prop:=
 (doE bs ss o=0→∃q1 q2 n1 n2 c1 c2 tv,e=.returned (.tuple #[.agg #[.slice q1 n1 c1,.slice q2 n2 c2],tv,.int .i64 (metR bs ss o).2.2,.nilIface])∧DL w' w.heap.size (.slice q1 n1 c1) (metB bs ss o)∧DL w' w.heap.size (.slice q2 n2 c2) (metS bs ss o)∧OwnT w' w.heap.size tv (metR bs ss o).2.1)∧
 (¬doE bs ss o=0→e=.returned (.tuple #[.agg #[.slice none 0 0,.slice none 0 0],.slice none 0 0,.int .i64 0,errV (doE bs ss o)]))∧Below w.heap.size w w'
set_option maxRecDepth 100000 in
set_option maxHeartbeats 4000000 in
theorem zJm(q1 q2:Option Addr)(n1 n2 c1 c2:Nat)(bs ss:List L)(a b c d p q s t:Int)(w:World)(h1:LS w (.slice q1 n1 c1) bs)(h2:LS w (.slice q2 n2 c2) ss) :
  Calls Tryz.prog 67 #[.agg #[.slice q1 n1 c1,.slice q2 n2 c2],.agg #[.int .i64 a,.int .i64 b,.int .i64 c,.int .i64 d,.int .i64 p,.int .i64 q,.int .i64 s,.int .i64 t]] w fun e w'=>DoPostD bs ss ⟨a,b,c,d,p,q,s,t⟩ w e w':=by
 obtain⟨V2,hV2⟩:∃V2,V2=(w.alloc (.cells #[.slice q1 n1 c1,.slice q2 n2 c2] 46)).alloc (.cells #[.int .i64 a,.int .i64 b,.int .i64 c,.int .i64 d,.int .i64 p,.int .i64 q,.int .i64 s,.int .i64 t] 32):=⟨_,rfl⟩
 have hs2:V2.heap.size=w.heap.size+2:=by rw[hV2];simp
 have hB2:Below w.heap.size w V2:=by rw[hV2];exact((bzR _ _).alloc (nzR _) _).alloc (by simp) _
 obtain⟨V,hV⟩:∃V,V=V2.alloc (.cells #[.slice none 0 0,.slice none 0 0] 46):=⟨_,rfl⟩
 have hBV:Below V2.heap.size V2 V:=by rw[hV];exact(bzR _ _).alloc (nzR _) _
 have HB:Hid (Below w.heap.size w V):=hB2.trans (hBV.mono hB2.size)
 have hR0:V.heap[V2.heap.size]?=some (.cells #[.slice none 0 0,.slice none 0 0] 46 (0,0)):=by rw[hV];exact heap_alloc_new V2 _
 obtain⟨P,hP⟩:∃P,P=w.heap.size+2:=⟨_,rfl⟩
 rw[show V2.heap.size=P by rw[hs2,hP]] at hR0
 have HP:Hid (P=w.heap.size+2):=hP
 have HTK:Hid (Calls Tryz.prog 92 #[.agg #[.slice q1 n1 c1,.slice q2 n2 c2],.agg #[.int .i64 a,.int .i64 b,.int .i64 c,.int .i64 d,.int .i64 p,.int .i64 q,.int .i64 s,.int .i64 t]] V fun e w'=>TakePost bs ss ⟨a,b,c,d,p,q,s,t⟩ V e w'):=zMf q1 q2 n1 n2 c1 c2 bs ss a b c d p q s t V (h1.below HB.out) (h2.below HB.out)
 have hPV:P<V.heap.size:=(gzE.1 hR0).1
 clear h1 h2 hs2 hB2 hBV
 go_enter Tryz.func67,Tryz.ntmps67
 go_wp2_with fail
 rw[←hV2,←hV]
 simp only[←hP]
 clear hV2 hV hP
 refine HTK.out.mono ?_
 rintro e w1⟨i1,i2,b1⟩
 have HW1:Hid (Below w.heap.size w w1):=HB.out.trans (b1.mono HB.out.size)
 have hR1:w1.heap[P]?=some (.cells #[.slice none 0 0,.slice none 0 0] 46 (0,0)):=(b1.block P hPV).trans hR0
 have hP1:P<w1.heap.size:=(gzE.1 hR1).1
 by_cases hC:comeE bs ss ⟨a,b,c,d,p,q,s,t⟩=0
 ·obtain⟨u1,u2,m1,m2,k1,k2,tv,rfl,D1,D2,OT⟩:=i1 hC
  obtain⟨tq,tc,htv⟩:=OwnM.form OT
  subst htv
  have hBa:Below w1.heap.size w1 (w1.alloc (.cells #[.slice u1 m1 k1,.slice u2 m2 k2] 46)):=(bzR _ _).alloc (nzR _) _
  have hR2:(w1.alloc (.cells #[.slice u1 m1 k1,.slice u2 m2 k2] 46)).heap[P]?=some (.cells #[.slice none 0 0,.slice none 0 0] 46 (0,0)):=(hBa.block P hP1).trans hR1
  have hRG:(w1.alloc (.cells #[.slice u1 m1 k1,.slice u2 m2 k2] 46)).heap[w1.heap.size]?=some (.cells #[.slice u1 m1 k1,.slice u2 m2 k2] 46 (0,0)):=heap_alloc_new w1 _
  have HD1:Hid (DL (w1.alloc (.cells #[.slice u1 m1 k1,.slice u2 m2 k2] 46)) V.heap.size (.slice u1 m1 k1) (metB bs ss ⟨a,b,c,d,p,q,s,t⟩)):=D1.below hBa
  have HD2:Hid (DL (w1.alloc (.cells #[.slice u1 m1 k1,.slice u2 m2 k2] 46)) V.heap.size (.slice u2 m2 k2) (metS bs ss ⟨a,b,c,d,p,q,s,t⟩)):=D2.below hBa
  have HOT:Hid (OwnT (w1.alloc (.cells #[.slice u1 m1 k1,.slice u2 m2 k2] 46)) V.heap.size (.slice tq (metR bs ss ⟨a,b,c,d,p,q,s,t⟩).2.1.length tc) (metR bs ss ⟨a,b,c,d,p,q,s,t⟩).2.1):=OwnM.below OT hBa
  have HW2:Hid (Below w.heap.size w (w1.alloc (.cells #[.slice u1 m1 k1,.slice u2 m2 k2] 46))):=HW1.out.trans (hBa.mono HW1.out.size)
  clear i1 i2 b1 D1 D2 OT hBa HTK
  go_upto_region 2 with fail
  generalize w1.alloc (.cells #[.slice u1 m1 k1,.slice u2 m2 k2] 46)=W at *
  generalize w1.heap.size=G at *
  obtain⟨g0,g1,-⟩:=rowTwo hRG
  obtain⟨z0,z1,zf⟩:=rowTwo hR2
  have zf0:=zf 0
  have zf1:=zf 1
  have HPV:Hid (P<V.heap.size):=hPV
  by_cases h4:400<(metR bs ss ⟨a,b,c,d,p,q,s,t⟩).2.1.length
  ·have hD:doE bs ss ⟨a,b,c,d,p,q,s,t⟩=4:=by unfold doE;rw[if_pos hC,if_pos h4]
   have HRF:=setTwo hR2 (.slice none 0 0) (.slice none 0 0)
   have hg:=grTwo W P (.slice none 0 0) (.slice none 0 0)
   have hPO:DoPostD bs ss ⟨a,b,c,d,p,q,s,t⟩ w (.returned (.tuple #[.agg #[.slice none 0 0,.slice none 0 0],.slice none 0 0,.int .i64 0,.iface 91 (.int .i64 4)])) ((W.setCell ⟨P,0,none⟩ (.slice none 0 0)).setCell ⟨P,1,none⟩ (.slice none 0 0)):=
    ⟨fun h=>by rw[hD] at h;omega,fun _=>by rw[hD];rfl,HW2.out.grown hg HW2.out.size (fun k hk=>by cases hk;have:=HP.out;omega)⟩
   have HHX:Hid (((W.setCell ⟨P,0,none⟩ (.slice none 0 0)).setCell ⟨P,1,none⟩ (.slice none 0 0)).heap[P]?=some (.cells #[.slice none 0 0,.slice none 0 0] 46 (0,0))):=HRF
   have h4z:(400:Int)<((metR bs ss ⟨a,b,c,d,p,q,s,t⟩).2.1.length:Int):=by omega
   generalize (metR bs ss ⟨a,b,c,d,p,q,s,t⟩).2.1.length=tl at *
   generalize (metR bs ss ⟨a,b,c,d,p,q,s,t⟩).2.2=lf at *
   clear HRF hg hR2 zf hRG HD1 HD2 HOT hD hC hR1 hR0
   go_wp2_with fail
   generalize ((W.setCell ⟨P,0,none⟩ (.slice none 0 0)).setCell ⟨P,1,none⟩ (.slice none 0 0))=Z at *
   obtain⟨r0,r1,-⟩:=rowTwo HHX.out
   exact bodyPost_ret (v:=.tuple #[.agg #[.slice none 0 0,.slice none 0 0],.slice none 0 0,.int .i64 0,.iface 91 (.int .i64 4)]) (by simp[results,Tryz.results67,go_sem,r0,r1]) rfl hPO
  ·have hD:doE bs ss ⟨a,b,c,d,p,q,s,t⟩=0:=by unfold doE;rw[if_pos hC,if_neg h4]
   have HRF:=setTwo hR2 (.slice u1 m1 k1) (.slice u2 m2 k2)
   have hg:=grTwo W P (.slice u1 m1 k1) (.slice u2 m2 k2)
   have hPO:DoPostD bs ss ⟨a,b,c,d,p,q,s,t⟩ w (.returned (.tuple #[.agg #[.slice u1 m1 k1,.slice u2 m2 k2],.slice tq (metR bs ss ⟨a,b,c,d,p,q,s,t⟩).2.1.length tc,.int .i64 (metR bs ss ⟨a,b,c,d,p,q,s,t⟩).2.2,.nilIface])) ((W.setCell ⟨P,0,none⟩ (.slice u1 m1 k1)).setCell ⟨P,1,none⟩ (.slice u2 m2 k2)):=
    ⟨fun _=>⟨u1,u2,m1,m2,k1,k2,_,rfl,(DL.other HD1.out hg hPV).mono HB.out.size,(DL.other HD2.out hg hPV).mono HB.out.size,OwnM.mono (zAe HOT.out hg (fun z hz e=>by cases e;have:=(OwnM.lt HOT.out P hz).1;omega)) HB.out.size⟩,fun h=>absurd hD h,HW2.out.grown hg HW2.out.size (fun k hk=>by cases hk;have:=HP.out;omega)⟩
   have HHX:Hid (((W.setCell ⟨P,0,none⟩ (.slice u1 m1 k1)).setCell ⟨P,1,none⟩ (.slice u2 m2 k2)).heap[P]?=some (.cells #[.slice u1 m1 k1,.slice u2 m2 k2] 46 (0,0))):=HRF
   have h4z:¬(400:Int)<((metR bs ss ⟨a,b,c,d,p,q,s,t⟩).2.1.length:Int):=by omega
   have HPO:Hid (DoPostD bs ss ⟨a,b,c,d,p,q,s,t⟩ w (.returned (.tuple #[.agg #[.slice u1 m1 k1,.slice u2 m2 k2],.slice tq (metR bs ss ⟨a,b,c,d,p,q,s,t⟩).2.1.length tc,.int .i64 (metR bs ss ⟨a,b,c,d,p,q,s,t⟩).2.2,.nilIface])) ((W.setCell ⟨P,0,none⟩ (.slice u1 m1 k1)).setCell ⟨P,1,none⟩ (.slice u2 m2 k2))):=hPO
   clear hPO HRF hg hR2 zf hRG HD1 HD2 HOT hD hC hR1 hR0
   generalize (metR bs ss ⟨a,b,c,d,p,q,s,t⟩).2.1.length=tl at *
   generalize (metR bs ss ⟨a,b,c,d,p,q,s,t⟩).2.2=lf at *
   go_wp2_with fail
   generalize ((W.setCell ⟨P,0,none⟩ (.slice u1 m1 k1)).setCell ⟨P,1,none⟩ (.slice u2 m2 k2))=Z at *
   obtain⟨r0,r1,-⟩:=rowTwo HHX.out
   exact bodyPost_ret (v:=.tuple #[.agg #[.slice u1 m1 k1,.slice u2 m2 k2],.slice tq tl tc,.int .i64 lf,.nilIface]) (by simp[results,Tryz.results67,go_sem,r0,r1]) rfl HPO.out
 ·have e2:=i2 hC
  subst e2
  have hD:doE bs ss ⟨a,b,c,d,p,q,s,t⟩=comeE bs ss ⟨a,b,c,d,p,q,s,t⟩:=by unfold doE;rw[if_neg hC]
  have hBa:Below w1.heap.size w1 (w1.alloc (.cells #[.slice none 0 0,.slice none 0 0] 46)):=(bzR _ _).alloc (nzR _) _
  have hR2:(w1.alloc (.cells #[.slice none 0 0,.slice none 0 0] 46)).heap[P]?=some (.cells #[.slice none 0 0,.slice none 0 0] 46 (0,0)):=(hBa.block P hP1).trans hR1
  have HW2:Hid (Below w.heap.size w (w1.alloc (.cells #[.slice none 0 0,.slice none 0 0] 46))):=HW1.out.trans (hBa.mono HW1.out.size)
  rw[errV_of hC]
  clear i1 i2 b1 hBa HTK
  go_upto_region 2 with fail
  generalize w1.alloc (.cells #[.slice none 0 0,.slice none 0 0] 46)=W at *
  generalize w1.heap.size=G at *
  obtain⟨z0,z1,zf⟩:=rowTwo hR2
  have zf0:=zf 0
  have zf1:=zf 1
  have HRF:=setTwo hR2 (.slice none 0 0) (.slice none 0 0)
  have hg:=grTwo W P (.slice none 0 0) (.slice none 0 0)
  have hPO:DoPostD bs ss ⟨a,b,c,d,p,q,s,t⟩ w (.returned (.tuple #[.agg #[.slice none 0 0,.slice none 0 0],.slice none 0 0,.int .i64 0,.iface 91 (.int .i64 (comeE bs ss ⟨a,b,c,d,p,q,s,t⟩))])) ((W.setCell ⟨P,0,none⟩ (.slice none 0 0)).setCell ⟨P,1,none⟩ (.slice none 0 0)):=
   ⟨fun h=>by rw[hD] at h;exact absurd h hC,fun _=>by rw[hD,errV_of hC],HW2.out.grown hg HW2.out.size (fun k hk=>by cases hk;have:=HP.out;omega)⟩
  have HHX:Hid (((W.setCell ⟨P,0,none⟩ (.slice none 0 0)).setCell ⟨P,1,none⟩ (.slice none 0 0)).heap[P]?=some (.cells #[.slice none 0 0,.slice none 0 0] 46 (0,0))):=HRF
  have HPO:Hid (DoPostD bs ss ⟨a,b,c,d,p,q,s,t⟩ w (.returned (.tuple #[.agg #[.slice none 0 0,.slice none 0 0],.slice none 0 0,.int .i64 0,.iface 91 (.int .i64 (comeE bs ss ⟨a,b,c,d,p,q,s,t⟩))])) ((W.setCell ⟨P,0,none⟩ (.slice none 0 0)).setCell ⟨P,1,none⟩ (.slice none 0 0))):=hPO
  clear hPO HRF hg hR2 zf hD hR1 hR0
  go_wp2_with fail
  generalize ((W.setCell ⟨P,0,none⟩ (.slice none 0 0)).setCell ⟨P,1,none⟩ (.slice none 0 0))=Z at *
  obtain⟨r0,r1,-⟩:=rowTwo HHX.out
  exact bodyPost_ret (v:=.tuple #[.agg #[.slice none 0 0,.slice none 0 0],.slice none 0 0,.int .i64 0,.iface 91 (.int .i64 (comeE bs ss ⟨a,b,c,d,p,q,s,t⟩))]) (by simp[results,Tryz.results67,go_sem,r0,r1]) rfl HPO.out
end mee
namespace mee
open Go.RowKit spn que sid bok
open ord (O oV mB mE chk zAk)
open tickP (priceB sideB betOk betR)
theorem lead_iff{s a b:Int}(hs:sideB s=true):leadB s a b=true↔(priceB a=true∧priceB b=true)∧ahd s a b:=by
 simp[sideB] at hs
 unfold leadB betR betOk ahd
 rcases hs with rfl|rfl
 ·have e:wrap64 (3 - 1)=2:=by unfold wrap64;omega
  rw[e]
  simp[sideB]
 ·have e:wrap64 (3 - 2)=1:=by unfold wrap64;omega
  rw[e]
  simp[sideB]
theorem zHt{s a b c:Int}(hs:sideB s=true)(h1:leadB s a b=true)(h2:leadB s b c=true):leadB s a c=true:=by
 rw[lead_iff hs] at *
 exact⟨⟨h1.1.1,h2.1.2⟩,zEA h1.2 h2.2⟩
theorem zDI{s a:Int}{prev:Option Int}{t:List L}(hs:sideB s=true)(h:sgo s (some a) t=0)(hp:behindB s prev a=true):sgo s prev t=0:=by
 cases t with
 | nil=>cases prev <;>rfl
 | cons x t=>
  obtain⟨h1,h2,h3⟩:=zAy h
  refine zBk h1 ?_ h3
  cases prev with
  | none=>rfl
  | some y=>exact zHt hs hp h2
theorem zJn{o:O}{s:Int}(hs:sideB s=true):∀ (ls:List L) (q:Int) (prev:Option Int),0≤q→sgo s prev ls=0→sgo s prev (tkl o ls q).1=0:=by
 intro ls
 induction ls with
 | nil=>intro q prev _ h;exact h
 | cons l t ih=>
  intro q prev hq h
  obtain⟨h1,h2,h3⟩:=zAy h
  by_cases hc:0<q∧mB o l.price=true
  ·obtain⟨f1,f2,f3,f4,f5,f6,f7⟩:=zBq (zAc h1).2.2 (q:=q) (by omega)
   rcases zCs (t:=t) hc.1 hc.2 h1 with ⟨he,e⟩|⟨he,hz,e⟩
   ·rw[e]
    exact ih _ prev (by omega) (zDI hs h3 h2)
   ·rw[e]
    exact zBk (zAU (zBr h1) he f4) h2 h3
  ·rw[zCt hc];exact h
theorem tk1_ids{k:Int}{r:R}{t:List R}:∀x∈tk1 k r t,x.id=r.id∨x∈t:=by
 intro x hx
 unfold tk1 at hx
 split at hx
 ·rcases List.mem_cons.1 hx with rfl|hx
  ·exact .inl rfl
  ·exact .inr hx
 ·split at hx
  ·exact .inr hx
  ·rcases List.mem_append.1 hx with hx|hx
   ·exact .inr hx
   ·simp at hx;subst hx;exact .inl rfl
theorem zMh(m:Nat):∀ (n:Int) (zs:List R),n≤m→que.Good zs→0≤n→∀x∈(take n zs).2,x.id∈zs.map (·.id):=by
 induction m with
 | zero=>
  intro n zs hn _ h0 x hx
  rw[zAW n zs (by omega)] at hx
  exact List.mem_map.2 ⟨x,hx,rfl⟩
 | succ m ih=>
  intro n zs hn hg h0 x hx
  by_cases hn0:n≤0
  ·rw[zAW n zs hn0] at hx
   exact List.mem_map.2 ⟨x,hx,rfl⟩
  ·cases zs with
   | nil=>rw[zCr] at hx;cases hx
   | cons r t=>
    have hr:=zAg (hg.1 r (by simp))
    rw[zBE n r t (by omega) hg] at hx
    simp only[] at hx
    have hg2:=(zAR (k:=min n r.qty) hg (by omega) (by omega)).1
    have h:=ih (n - min n r.qty) _ (by omega) hg2 (by omega) x hx
    obtain⟨y,hy,e⟩:=List.mem_map.1 h
    rw[←e]
    rcases tk1_ids y hy with h1|h1
    ·rw[h1];simp
    ·exact List.mem_map.2 ⟨y,by simp[h1],rfl⟩
theorem zDJ{o:O}:∀ (ls:List L) (q:Int),0≤q→(∀l∈ls,lchk l=0)→(∀i∈(allR (tkl o ls q).1).map (·.id),i∈(allR ls).map (·.id))∧(((allR ls).map (·.id)).Nodup→((allR (tkl o ls q).1).map (·.id)).Nodup)∧(allR (tkl o ls q).1).length≤(allR ls).length∧(∀x∈(tkl o ls q).1,∃l∈ls,l.price=x.price):=by
 intro ls
 induction ls with
 | nil=>intro q _ _;exact⟨fun i hi=>hi,fun h=>h,nzR _,fun x hx=>by cases hx⟩
 | cons l t ih=>
  intro q hq hg
  by_cases hc:0<q∧mB o l.price=true
  ·have hl:=hg l (by simp)
   obtain⟨f1,f2,f3,f4,f5,f6,f7⟩:=zBq (zAc hl).2.2 (q:=q) (by omega)
   obtain⟨h60,hgd⟩:=(zAd l.rests).1 (zAc hl).2.2
   rcases zCs (t:=t) hc.1 hc.2 hl with ⟨he,e⟩|⟨he,hz,e⟩
   ·obtain⟨i1,i2,i3,i4⟩:=ih (q - sum (take q l.rests).1) (by omega) (fun x hx=>hg x (by simp[hx]))
    rw[e,zAf]
    simp only[List.map_append,List.length_append]
    refine⟨fun i hi=>List.mem_append.2 (.inr (i1 i hi)),fun h=>i2 (List.nodup_append.1 h).2.1,by omega,fun x hx=>?_⟩
    obtain⟨l',h1,h2⟩:=i4 x hx
    exact⟨l',by simp[h1],h2⟩
   ·obtain⟨g1,g2,-,-,-,-,-,-⟩:=zDe q.toNat q l.rests (by omega) hgd (by omega)
    have hsub:=zMh q.toNat q l.rests (by omega) hgd (by omega)
    rw[e,zAf,zAf]
    simp only[List.map_append,List.length_append]
    refine⟨fun i hi=>?_,fun h=>?_,by omega,fun x hx=>?_⟩
    ·rcases List.mem_append.1 hi with hi|hi
     ·obtain⟨y,hy,rfl⟩:=List.mem_map.1 hi
      exact List.mem_append.2 (.inl (hsub y hy))
     ·exact List.mem_append.2 (.inr hi)
    ·obtain⟨n1,n2,n3⟩:=List.nodup_append.1 h
     refine List.nodup_append.2 ⟨g1.2,n2,fun a ha b hb=>?_⟩
     obtain⟨y,hy,rfl⟩:=List.mem_map.1 ha
     exact n3 _ (hsub y hy) b hb
    ·rcases List.mem_cons.1 hx with rfl|hx
     ·exact⟨l,by simp,rfl⟩
     ·exact⟨x,by simp[hx],rfl⟩
  ·rw[zCt hc]
   exact⟨fun i hi=>hi,fun h=>h,nzR _,fun x hx=>⟨x,hx,rfl⟩⟩
theorem zCu{ls:List L}(h:ls≠[]):∃l∈ls,bestI ls=l.price:=by
 cases ls with
 | nil=>exact absurd rfl h
 | cons l t=>exact⟨l,by simp,rfl⟩
theorem zBt{s:Int}{ls:List L}(hp:ls.Pairwise fun a b=>ahd s a.price b.price){l:L}(hl:l∈ls):bestI ls=l.price∨ahd s (bestI ls) l.price:=by
 cases ls with
 | nil=>cases hl
 | cons x t=>
  rcases List.mem_cons.1 hl with rfl|hl
  ·exact .inl rfl
  ·exact .inr ((List.pairwise_cons.1 hp).1 l hl)
theorem zGp{o:O}{s:Int}{ls:List L}{q:Int}(hq:0≤q)(h:schk s ls=0):schk s (tkl o ls q).1=0:=by
 obtain⟨z1,z2,z3,z4⟩:=zAa h
 have hE:=zAh z2
 obtain⟨i1,i2,i3,i4⟩:=zDJ (o:=o) ls q hq hE
 refine zBW z1 (zJn z1 ls q none hq z2) ?_ (by rw[zAE] at *;exact i2 z4)
 rw[zAs] at *
 omega
theorem zMi{bs ss:List L}{o:O}(h:comeE bs ss o=0):bookE (metB bs ss o) (metS bs ss o)=0:=by
 obtain⟨hb,hc,-,-⟩:=zAp h
 obtain⟨e1,e2,e3,e4,e5⟩:=zAb hb
 have hq:=zJl hc
 have hE1:=zAh (zAa e1).2.1
 have hE2:=zAh (zAa e2).2.1
 have hp1:=(zDH (zAa e1).1 bs none (zAa e1).2.1).1
 have hp2:=(zDH (zAa e2).1 ss none (zAa e2).2.1).1
 unfold twiceB at e4
 simp only[decide_eq_false_iff_not,Classical.not_not] at e4
 rw[List.map_append] at e4
 obtain⟨n1,n2,n3⟩:=List.nodup_append.1 e4
 rw[List.length_append] at e5
 unfold metB metS metR otherL
 by_cases hs:o.side=1
 ·simp only[if_pos hs]
  obtain⟨i1,i2,i3,i4⟩:=zDJ (o:=o) ss o.qty (by omega) hE2
  have k2:=zGp (o:=o) (q:=o.qty) (by omega) e2
  generalize (tkl o ss o.qty).1=S' at *
  unfold bookE
  rw[if_pos e1,if_pos k2,if_neg,if_neg,if_neg]
  ·rw[List.length_append];omega
  ·unfold twiceB
   simp only[decide_eq_true_eq,Classical.not_not]
   rw[List.map_append]
   exact List.nodup_append.2 ⟨n1,i2 n2,fun a ha b hb=>n3 a ha b (i1 b hb)⟩
  ·intro hx
   unfold crossB at hx e3
   simp only[Bool.and_eq_true,Bool.not_eq_true',List.isEmpty_eq_false_iff,decide_eq_true_eq] at hx
   obtain⟨x1,x2,x3⟩:=hx
   obtain⟨l',hl',e'⟩:=zCu x2
   obtain⟨l,hl,el⟩:=i4 l' hl'
   have hne:ss≠[]:=fun e=>by rw[e] at hl;cases hl
   have hb2:=zBt hp2 hl
   simp only[Bool.and_eq_false_iff,Bool.not_eq_false',List.isEmpty_iff,decide_eq_false_iff_not] at e3
   rcases e3 with e|e|e
   ·exact x1 e
   ·exact hne e
   ·unfold ahd at hb2
    simp at hb2
    omega
 ·simp only[if_neg hs]
  obtain⟨i1,i2,i3,i4⟩:=zDJ (o:=o) bs o.qty (by omega) hE1
  have k1:=zGp (o:=o) (q:=o.qty) (by omega) e1
  generalize (tkl o bs o.qty).1=B' at *
  unfold bookE
  rw[if_pos k1,if_pos e2,if_neg,if_neg,if_neg]
  ·rw[List.length_append];omega
  ·unfold twiceB
   simp only[decide_eq_true_eq,Classical.not_not]
   rw[List.map_append]
   exact List.nodup_append.2 ⟨i2 n1,n2,fun a ha b hb=>n3 a (i1 a ha) b hb⟩
  ·intro hx
   unfold crossB at hx e3
   simp only[Bool.and_eq_true,Bool.not_eq_true',List.isEmpty_eq_false_iff,decide_eq_true_eq] at hx
   obtain⟨x1,x2,x3⟩:=hx
   obtain⟨l',hl',e'⟩:=zCu x1
   obtain⟨l,hl,el⟩:=i4 l' hl'
   have hne:bs≠[]:=fun e=>by rw[e] at hl;cases hl
   have hb2:=zBt hp1 hl
   simp only[Bool.and_eq_false_iff,Bool.not_eq_false',List.isEmpty_iff,decide_eq_false_iff_not] at e3
   rcases e3 with e|e|e
   ·exact hne e
   ·exact x2 e
   ·unfold ahd at hb2
    simp at hb2
    omega
end mee
namespace mee
open Go.RowKit spn que sid
open ord (O mB chk)
def stepL(p:Int)(z:List R)(t:List L):List L:=if z=[] then t else ⟨p,z⟩::t
theorem zAG{r:R}{rs:List R}(h:qchk (r::rs)=0):1≤r.qty∧r.qty≤10000:=by
 obtain⟨-,hg⟩:=(zAd _).1 h
 exact(zAg (hg.1 r (by simp))).1
theorem zHu{q:Int}{r:R}{rs:List R}(h:0<q)(hg:qchk (r::rs)=0):qchk (tk1 (min q r.qty) r rs)=0∧tot (tk1 (min q r.qty) r rs)=tot (r::rs) - min q r.qty:=by
 have hp:=zAG hg
 obtain⟨h60,hgg⟩:=(zAd _).1 hg
 obtain⟨a,b,c⟩:=zAR hgg (show 1≤min q r.qty by omega) (by omega)
 exact⟨(zAd _).2 ⟨by omega,a⟩,b⟩
theorem zAL{q p:Int}{r:R}{rs:List R}{t:List L}(h:0<q)(hl:∀l∈(⟨p,r::rs⟩::t:List L),lchk l=0):∀l∈stepL p (tk1 (min q r.qty) r rs) t,lchk l=0:=by
 have h1:lchk ⟨p,r::rs⟩=0:=hl _ (by simp)
 obtain⟨hp,-,hq⟩:=zAc h1
 have hz:=(zHu h hq).1
 intro l hm
 unfold stepL at hm
 by_cases e:tk1 (min q r.qty) r rs=[]
 ·rw[if_pos e] at hm;exact hl l (by simp[hm])
 ·rw[if_neg e] at hm
  rcases List.mem_cons.1 hm with rfl|hm
  ·exact zAU (by show (decide _ && decide _)=true;simp;exact hp) e hz
  ·exact hl l (by simp[hm])
theorem zDK{o:O}{p q:Int}{r:R}{rs:List R}{t:List L}(h:0<q)(hm:mB o p=true)(hg:qchk (r::rs)=0) :
  tkl o (⟨p,r::rs⟩::t) q=((tkl o (stepL p (tk1 (min q r.qty) r rs) t) (q - min q r.qty)).1,trd o p ⟨r.id,r.who,min q r.qty⟩::(tkl o (stepL p (tk1 (min q r.qty) r rs) t) (q - min q r.qty)).2.1,(tkl o (stepL p (tk1 (min q r.qty) r rs) t) (q - min q r.qty)).2.2):=by
 have hp:=zAG hg
 have hgg:=((zAd _).1 hg).2
 have hc:=zBE q r rs h hgg
 generalize hk:min q r.qty=k at *
 have hkp:1≤k∧k≤q:=by omega
 generalize tk1 k r rs=z at *
 unfold stepL
 by_cases hz:z=[]
 ·subst hz
  rw[zCr] at hc
  rw[if_pos rfl,zBG h hm (by rw[hc])]
  simp only[hc]
  have e:q - sum [⟨r.id,r.who,k⟩]=q - k:=by simp[sum]
  rw[e]
  rfl
 ·rw[if_neg hz]
  by_cases h0:q - k≤0
  ·rw[zAW _ _ h0] at hc
   rw[zBH h hm (by rw[hc];exact hz),zAB h0]
   simp only[hc]
   have e:q - sum [⟨r.id,r.who,k⟩]=q - k:=by simp[sum]
   rw[e]
   rfl
  ·have hs:∀S:List F,q - sum (⟨r.id,r.who,k⟩::S)=q - k - sum S:=fun S=>by simp only[sum];omega
   by_cases he:(take (q - k) z).2=[]
   ·rw[zBG (l:=⟨p,z⟩) (by omega) hm he,zBG h hm (by rw[hc];exact he)]
    simp only[hc,hs]
    rfl
   ·rw[zBH (l:=⟨p,z⟩) (by omega) hm he,zBH h hm (by rw[hc];exact he)]
    simp only[hc,hs]
    rfl
end mee
namespace slf
open Go.RowKit spn que sid bok mee
open ord (O mB chk)
open tickP (priceB sideB betOk betR)
structure V where
 ls:List L
 ts:List T
 left:Int
 ends:Bool
 ids:List Int
inductive Fine (m:Int) (o:O):List L→Int→V→Prop
 | done {ls:List L}{k:Int}:k≤0→Fine m o ls k ⟨ls,[],k,false,[]⟩
 | stop {ls:List L}{k:Int}:(∀l t,ls=l::t→mB o l.price=false)→Fine m o ls k ⟨ls,[],k,false,[]⟩
 | taker {p:Int}{r:R}{rs:List R}{t:List L}{k:Int}:0<k→mB o p=true→r.who=o.who→m=1→Fine m o (⟨p,r::rs⟩::t) k ⟨⟨p,r::rs⟩::t,[],k,true,[]⟩
 | maker {p:Int}{r:R}{rs:List R}{t:List L}{k:Int}{v:V}:0<k→mB o p=true→r.who=o.who→m=2→Fine m o (stepL p rs t) k v→Fine m o (⟨p,r::rs⟩::t) k ⟨v.ls,v.ts,v.left,v.ends,r.id::v.ids⟩
 | both {p:Int}{r:R}{rs:List R}{t:List L}{k:Int}:0<k→mB o p=true→r.who=o.who→m=3→Fine m o (⟨p,r::rs⟩::t) k ⟨stepL p rs t,[],k,true,[r.id]⟩
 | fill {p:Int}{r:R}{rs:List R}{t:List L}{k:Int}{v:V}:0<k→mB o p=true→¬r.who=o.who→Fine m o (stepL p (tk1 (min k r.qty) r rs) t) (k - min k r.qty) v→Fine m o (⟨p,r::rs⟩::t) k ⟨v.ls,trd o p ⟨r.id,r.who,min k r.qty⟩::v.ts,v.left,v.ends,v.ids⟩
theorem zAI{m:Int}{o:O}{ls:List L}{k:Int}{v:V}(h:Fine m o ls k v):∀v',Fine m o ls k v'→v'=v:=by
 induction h with
 | done h0=>
  intro v' h'
  cases h' with
  | done=>rfl
  | stop=>rfl
  | taker h=>omega
  | maker h=>omega
  | both h=>omega
  | fill h=>omega
 | stop h0=>
  intro v' h'
  cases h' with
  | done=>rfl
  | stop=>rfl
  | taker _ h=>have:=h0 _ _ rfl;simp only[] at this;rw[h] at this;cases this
  | maker _ h=>have:=h0 _ _ rfl;simp only[] at this;rw[h] at this;cases this
  | both _ h=>have:=h0 _ _ rfl;simp only[] at this;rw[h] at this;cases this
  | fill _ h=>have:=h0 _ _ rfl;simp only[] at this;rw[h] at this;cases this
 | taker h0 h1 h2 h3=>
  intro v' h'
  cases h' with
  | done h=>omega
  | stop h=>have:=h _ _ rfl;simp only[] at this;rw[h1] at this;cases this
  | taker=>rfl
  | maker _ _ _ h=>omega
  | both _ _ _ h=>omega
  | fill _ _ h=>exact absurd h2 h
 | maker h0 h1 h2 h3 _ ih=>
  intro v' h'
  cases h' with
  | done h=>omega
  | stop h=>have:=h _ _ rfl;simp only[] at this;rw[h1] at this;cases this
  | taker _ _ _ h=>omega
  | maker _ _ _ _ h=>rw[ih _ h]
  | both _ _ _ h=>omega
  | fill _ _ h=>exact absurd h2 h
 | both h0 h1 h2 h3=>
  intro v' h'
  cases h' with
  | done h=>omega
  | stop h=>have:=h _ _ rfl;simp only[] at this;rw[h1] at this;cases this
  | taker _ _ _ h=>omega
  | maker _ _ _ h=>omega
  | both=>rfl
  | fill _ _ h=>exact absurd h2 h
 | fill h0 h1 h2 _ ih=>
  intro v' h'
  cases h' with
  | done h=>omega
  | stop h=>have:=h _ _ rfl;simp only[] at this;rw[h1] at this;cases this
  | taker _ _ h=>exact absurd h h2
  | maker _ _ h=>exact absurd h h2
  | both _ _ h=>exact absurd h h2
  | fill _ _ _ h=>rw[ih _ h]
theorem zAM{p:Int}{r:R}{rs:List R}{t:List L}(hl:∀l∈(⟨p,r::rs⟩::t:List L),lchk l=0):∀l∈stepL p rs t,lchk l=0:=by
 have h1:lchk ⟨p,r::rs⟩=0:=hl _ (by simp)
 obtain⟨hp,-,hq⟩:=zAc h1
 obtain⟨h60,hg⟩:=(zAd _).1 hq
 intro l hm
 unfold stepL at hm
 by_cases e:rs=[]
 ·rw[if_pos e] at hm;exact hl l (by simp[hm])
 ·rw[if_neg e] at hm
  rcases List.mem_cons.1 hm with rfl|hm
  ·exact zAU (zBr h1) e ((zAd _).2 ⟨by simp at h60;omega,zEm hg⟩)
  ·exact hl l (by simp[hm])
theorem zAZ{p:Int}{z:List R}{t:List L}:(allR (stepL p z t)).length=z.length+(allR t).length:=by
 unfold stepL
 by_cases e:z=[]
 ·rw[if_pos e,e];simp
 ·rw[if_neg e,zAf,List.length_append]
theorem zHv{m:Int}{o:O}(hm:m=1∨m=2∨m=3):∀ (n:Nat) (ls:List L) (k:Int),k.toNat+(allR ls).length≤n→(∀l∈ls,lchk l=0)→∃v,Fine m o ls k v:=by
 intro n
 induction n with
 | zero=>
  intro ls k hn _
  exact⟨_,.done (by omega)⟩
 | succ n ih=>
  intro ls k hn hl
  by_cases h0:k≤0
  ·exact⟨_,.done h0⟩
  cases ls with
  | nil=>exact⟨_,.stop (fun l t e=>by cases e)⟩
  | cons l t=>
   obtain⟨p,zs⟩:=l
   cases hb:mB o p with
   | false=>exact⟨_,.stop (fun l' t' e=>by cases e;exact hb)⟩
   | true=>
    obtain⟨-,hne,hq⟩:=zAc (hl ⟨p,zs⟩ (by simp))
    cases zs with
    | nil=>exact absurd rfl hne
    | cons r rs=>
     rw[zAf,List.length_append] at hn
     simp only[List.length_cons] at hn
     by_cases hw:r.who=o.who
     ·rcases hm with h|h|h
      ·exact⟨_,.taker (by omega) hb hw h⟩
      ·obtain⟨v,hv⟩:=ih (stepL p rs t) k (by rw[zAZ];omega) (zAM hl)
       exact⟨_,.maker (by omega) hb hw h hv⟩
      ·exact⟨_,.both (by omega) hb hw h⟩
     ·have hr:=zAG hq
      have hlen:=(zAR (k:=min k r.qty) ((zAd _).1 hq).2 (by omega) (by omega)).2.2
      simp only[List.length_cons] at hlen
      obtain⟨v,hv⟩:=ih (stepL p (tk1 (min k r.qty) r rs) t) (k - min k r.qty) (by rw[zAZ];omega) (zAL (by omega) hl)
      exact⟨_,.fill (by omega) hb hw hv⟩
theorem zCO{m:Int}{o:O}{ls:List L}{k:Int}(hm:m=1∨m=2∨m=3)(hl:∀l∈ls,lchk l=0):∃v,Fine m o ls k v:=zHv hm _ ls k (nzR _) hl
def idxW(u:Int):List R→Int
 | []=>-1
 | r::t=>if r.who=u then 0 else if idxW u t<0 then -1 else idxW u t+1
theorem zJo(u:Int)(zs:List R) : -1≤idxW u zs:=by
 induction zs with
 | nil=>simp[idxW]
 | cons r t ih=>unfold idxW;split;omega;split <;>omega
theorem zJp(u:Int)(zs:List R):idxW u zs<zs.length:=by
 induction zs with
 | nil=>simp[idxW]
 | cons r t ih=>unfold idxW;simp only[List.length_cons];split;omega;split <;>omega
theorem zBm(u:Int)(r:R)(t:List R):idxW u (r::t)=if r.who=u then 0 else if idxW u t<0 then -1 else idxW u t+1:=rfl
theorem zJq{u:Int}{y:R}(hy:¬y.who=u):∀ (zs:List R),idxW u (zs++[y])=idxW u zs:=by
 intro zs
 induction zs with
 | nil=>simp[idxW,hy]
 | cons r t ih=>rw[List.cons_append,zBm,zBm,ih]
def shq:List R→Int
 | []=>0
 | r::t=>r.qty+shq t
theorem zHw(a b:List R):shq (a++b)=shq a+shq b:=by
 induction a with
 | nil=>simp[shq]
 | cons x t ih=>simp only[List.cons_append,shq,ih];omega
theorem shq_le(zs:List R)(h:∀r∈zs,rchk r=0):0≤shq zs∧shq zs≤10000*(zs.length:Int):=by
 induction zs with
 | nil=>simp[shq]
 | cons x t ih=>
  have h1:=(zAg (h x (by simp))).1
  have h2:=ih (fun l hl=>h l (by simp[hl]))
  simp only[shq,List.length_cons]
  omega
def aheadR(o:O):List L→Int × Int
 | []=>(0,0)
 | l::t=>if mB o l.price=false then (0,0) else if 0≤idxW o.who l.rests then (shq (l.rests.take (idxW o.who l.rests).toNat),(l.rests[(idxW o.who l.rests).toNat]!).id) else (tot l.rests+(aheadR o t).1,(aheadR o t).2)
theorem zCb{o:O}{l:L}{t:List L}(h:mB o l.price=false):aheadR o (l::t)=(0,0):=by unfold aheadR;rw[if_pos h]
theorem zBn{o:O}{l:L}{t:List L}(h:mB o l.price=true)(hi:0≤idxW o.who l.rests):aheadR o (l::t)=(shq (l.rests.take (idxW o.who l.rests).toNat),(l.rests[(idxW o.who l.rests).toNat]!).id):=by
 unfold aheadR;rw[if_neg (by rw[h];decide),if_pos hi]
theorem zCv{o:O}{l:L}{t:List L}(h:mB o l.price=true)(hi:¬0≤idxW o.who l.rests):aheadR o (l::t)=(tot l.rests+(aheadR o t).1,(aheadR o t).2):=by
 rw[aheadR,if_neg (by rw[h];decide),if_neg hi]
theorem zCw{o:O}:∀ (ls:List L),(∀l∈ls,lchk l=0)→0≤(aheadR o ls).1∧(aheadR o ls).1≤20000*cnt ls:=by
 intro ls
 induction ls with
 | nil=>intro _;simp[aheadR,cnt]
 | cons l t ih=>
  intro hl
  obtain⟨-,-,hq⟩:=zAc (hl l (by simp))
  obtain⟨h60,hg⟩:=(zAd _).1 hq
  have hi:=ih (fun x hx=>hl x (by simp[hx]))
  have ht:=zIz l.rests hg.1
  have hc:cnt (l::t)=(l.rests.length:Int)+cnt t:=rfl
  have hc0:0≤cnt t:=by rw[zAs];omega
  cases hb:mB o l.price with
  | false=>rw[zCb hb,hc];simp only[];omega
  | true=>
   by_cases hx:0≤idxW o.who l.rests
   ·rw[zBn hb hx,hc]
    have hs:=shq_le (l.rests.take (idxW o.who l.rests).toNat) (fun r hr=>hg.1 r (List.mem_of_mem_take hr))
    rw[List.length_take] at hs
    simp only[]
    omega
   ·rw[zCv hb hx,hc]
    simp only[]
    omega
theorem zHx{o:O}{p:Int}{r:R}{rs:List R}{t:List L}(hb:mB o p=true)(hw:¬r.who=o.who)(hg:qchk (r::rs)=0) :
  aheadR o (⟨p,r::rs⟩::t)=(r.qty+(aheadR o (stepL p (tk1 r.qty r rs) t)).1,(aheadR o (stepL p (tk1 r.qty r rs) t)).2):=by
 have hp:=zAG hg
 have hgg:=((zAd _).1 hg).2
 have htot:=(zAR (k:=r.qty) hgg (by omega) (by omega)).2.1
 have hidx:idxW o.who (r::rs)=if idxW o.who rs<0 then -1 else idxW o.who rs+1:=by rw[zBm,if_neg hw]
 have hk1:tk1 r.qty r rs=if r.hid=0 then rs else rs++[{ r with qty:=min r.shw r.hid,hid:=r.hid - min r.shw r.hid }]:=by
  unfold tk1;rw[if_neg (by omega)]
 have hsame:idxW o.who (tk1 r.qty r rs)=idxW o.who rs:=by
  rw[hk1]
  split
  ·rfl
  ·exact zJq (y:={ r with qty:=min r.shw r.hid,hid:=r.hid - min r.shw r.hid }) hw rs
 by_cases hi:idxW o.who rs<0
 ·rw[if_pos hi] at hidx
  rw[zCv (l:=⟨p,r::rs⟩) hb (by simp only[];omega)]
  unfold stepL
  by_cases hz:tk1 r.qty r rs=[]
  ·rw[hz] at htot
   rw[if_pos hz]
   simp only[tot] at htot ⊢
   rw[show r.qty+r.hid+tot rs=r.qty by omega]
  ·rw[if_neg hz,zCv (l:=⟨p,tk1 r.qty r rs⟩) hb (by simp only[];omega)]
   simp only[] at htot ⊢
   rw[htot]
   exact Prod.ext (by simp only[];omega) rfl
 ·rw[if_neg hi] at hidx
  have hne:¬tk1 r.qty r rs=[]:=fun e=>by rw[e] at hsame;simp[idxW] at hsame;omega
  have hlt:=zJp o.who rs
  rw[zBn (l:=⟨p,r::rs⟩) hb (by simp only[];omega)]
  unfold stepL
  rw[if_neg hne,zBn (l:=⟨p,tk1 r.qty r rs⟩) hb (by simp only[];omega)]
  simp only[hidx,hsame]
  rw[show (idxW o.who rs+1).toNat=(idxW o.who rs).toNat+1 by omega]
  generalize hn:(idxW o.who rs).toNat=n at *
  have hnl:n<rs.length:=by omega
  have e1:(tk1 r.qty r rs).take n=rs.take n:=by
   rw[hk1]
   split
   ·rfl
   ·exact List.take_append_of_le_length (by omega)
  have e2:(tk1 r.qty r rs)[n]! = rs[n]!:=by
   have:n<(tk1 r.qty r rs).length:=by rw[hk1];split;omega;simp;omega
   rw[getE _ _ this,getE _ _ hnl]
   simp only[hk1]
   split
   ·rfl
   ·exact List.getElem_append_left hnl
  rw[e1,e2]
  simp only[List.take_succ_cons,shq]
  refine Prod.ext rfl ?_
  show ((r::rs)[n+1]!).id=_
  rw[getE _ _ (by simp;omega),getE _ _ hnl]
  rfl
theorem coarse{m:Int}{o:O}:∀ (n:Nat) (ls:List L) (k:Int),k≤n→0<k→(∀l∈ls,lchk l=0)→
  (tkl o ls (min (aheadR o ls).1 k)).2.2=0∧
  (∀v,Fine m o (tkl o ls (min (aheadR o ls).1 k)).1 (k - min (aheadR o ls).1 k) v→Fine m o ls k ⟨v.ls,(tkl o ls (min (aheadR o ls).1 k)).2.1++v.ts,v.left,v.ends,v.ids⟩)∧
  (0<k - min (aheadR o ls).1 k→((aheadR o ls).2=0→∀l t,(tkl o ls (min (aheadR o ls).1 k)).1=l::t→mB o l.price=false)∧
   (¬(aheadR o ls).2=0→∃p r rs t,(tkl o ls (min (aheadR o ls).1 k)).1=⟨p,r::rs⟩::t∧mB o p=true∧r.who=o.who∧r.id=(aheadR o ls).2)):=by
 intro n
 induction n with
 | zero=>intro ls k h1 h2;omega
 | succ n ih=>
  intro ls k hn hk hl
  cases ls with
  | nil=>
   have e:aheadR o []=(0,0):=rfl
   rw[e]
   simp only[]
   rw[Int.min_eq_left (by omega:(0:Int)≤k),zAB (Int.le_refl 0)]
   refine⟨rfl,fun v hv=>?_,fun _=>⟨fun _ l t e=>by simp at e,fun h=>absurd trivial h⟩⟩
   simpa using hv
  | cons l t=>
   obtain⟨p,zs⟩:=l
   cases hb:mB o p with
   | false=>
    rw[zCb (l:=⟨p,zs⟩) hb]
    simp only[]
    rw[Int.min_eq_left (by omega:(0:Int)≤k),zAB (Int.le_refl 0)]
    refine⟨rfl,fun v hv=>?_,fun _=>⟨fun _ l' t' e=>by cases e;exact hb,fun h=>absurd trivial h⟩⟩
    simpa using hv
   | true=>
    obtain⟨-,hne,hq⟩:=zAc (hl ⟨p,zs⟩ (by simp))
    cases zs with
    | nil=>exact absurd rfl hne
    | cons r rs=>
     have hr:=zAG hq
     by_cases hw:r.who=o.who
     ·have hid:idxW o.who (r::rs)=0:=by rw[zBm,if_pos hw]
      have e:aheadR o (⟨p,r::rs⟩::t)=(0,r.id):=by
       rw[zBn (l:=⟨p,r::rs⟩) hb (by simp only[hid];omega)]
       simp only[hid]
       rfl
      rw[e]
      simp only[]
      rw[Int.min_eq_left (by omega:(0:Int)≤k),zAB (Int.le_refl 0)]
      have hri:=(zAg (((zAd _).1 hq).2.1 r (by simp))).2.2.2.2.2.1
      refine⟨rfl,fun v hv=>?_,fun _=>⟨fun h=>by omega,fun _=>⟨p,r,rs,t,rfl,hb,hw,rfl⟩⟩⟩
      simpa using hv
     ·have e:=zHx (t:=t) hb hw hq
      have hA:=(zCw (o:=o) (stepL p (tk1 r.qty r rs) t) (by
       have h:=zAL (q:=r.qty) (by omega) hl
       rw[Int.min_self] at h
       exact h)).1
      rw[e]
      simp only[]
      generalize hQ:(aheadR o (stepL p (tk1 r.qty r rs) t)).1=Q at *
      have hmin:min (min (r.qty+Q) k) r.qty=min k r.qty:=by omega
      have hpos:0<min (r.qty+Q) k:=by omega
      have hf:=zDK (t:=t) hpos hb hq
      rw[hmin] at hf
      by_cases hkr:k≤r.qty
      ·have hm1:min (r.qty+Q) k=k:=by omega
       have hm2:min k r.qty=k:=by omega
       rw[hm1] at hf ⊢
       rw[hm2] at hf
       rw[show k - k=0 by omega,zAB (Int.le_refl 0)] at hf
       rw[hf]
       refine⟨rfl,fun v hv=>?_,fun h=>by omega⟩
       have h:=Fine.fill (m:=m) (o:=o) (p:=p) (r:=r) (rs:=rs) (t:=t) (k:=k) (v:=v) hk hb hw (by rw[hm2];exact hv)
       rw[hm2] at h
       exact h
      ·have hm2:min k r.qty=r.qty:=by omega
       have hm3:min (r.qty+Q) k - r.qty=min Q (k - r.qty):=by omega
       rw[hm2,hm3] at hf
       obtain⟨i1,i2,i3⟩:=ih (stepL p (tk1 r.qty r rs) t) (k - r.qty) (by omega) (by omega) (by
        have h:=zAL (q:=r.qty) (by omega) hl
        rw[Int.min_self] at h
        exact h)
       rw[hQ] at i1 i2 i3
       rw[hf]
       have hk2:k - min (r.qty+Q) k=k - r.qty - min Q (k - r.qty):=by omega
       rw[hk2]
       refine⟨i1,fun v hv=>?_,fun h=>i3 h⟩
       have h:=Fine.fill (m:=m) (o:=o) (p:=p) (r:=r) (rs:=rs) (t:=t) (k:=k) hk hb hw (by rw[hm2];exact i2 v hv)
       rw[hm2] at h
       exact h
def part(o:O)(k:Int):O:=⟨o.id,o.who,o.side,o.kind,o.price,k,0,o.stop⟩
theorem zMj(o:O)(k:Int):∀ (ls:List L) (q:Int),tkl (part o k) ls q=tkl o ls q:=by
 intro ls
 induction ls with
 | nil=>intro q;rfl
 | cons l t ih=>
  intro q
  have e1:trd (part o k) l.price=trd o l.price:=rfl
  have e2:mB (part o k) l.price=mB o l.price:=rfl
  rw[tkl,tkl,e1,e2,ih]
theorem zMk{o:O}{k:Int}(h:chk o=0)(h1:1≤k)(h2:k≤o.qty):chk (part o k)=0:=by
 obtain⟨a,b,c,d,e⟩:=ord.zAH h
 have a' : ord.headB (part o k)=true:=a
 have b' : ord.priceOkB (part o k)=true:=b
 have e' : ord.stopB (part o k)=true:=e
 have c' : ord.qtyB (part o k)=true:=by
  simp[ord.qtyB] at c
  obtain⟨⟨⟨c1,c2⟩,c3⟩,c4⟩:=c
  show (decide (1≤k) && decide (k≤10000) && decide ((0:Int)≤0) && decide ((0:Int)≤k))=true
  simp only[Bool.and_eq_true,decide_eq_true_eq]
  omega
 have d' : ord.shapeB (part o k)=true:=by simp[ord.shapeB,part]
 unfold chk
 rw[a',b',c',d',e']
 rfl
def repB(o:O)(bs X:List L):List L:=if o.side=1 then bs else X
def repS(o:O)(ss X:List L):List L:=if o.side=1 then X else ss
structure Less (ls X:List L):Prop where
 ids:∀i∈(allR X).map (·.id),i∈(allR ls).map (·.id)
 two:((allR ls).map (·.id)).Nodup→((allR X).map (·.id)).Nodup
 len:(allR X).length≤(allR ls).length
 price:∀x∈X,∃l∈ls,l.price=x.price
 sgo:∀s prev,sideB s=true→sid.sgo s prev ls=0→sid.sgo s prev X=0
theorem Less.refl(ls:List L):Less ls ls:=⟨fun _ h=>h,fun h=>h,nzR _,fun x hx=>⟨x,hx,rfl⟩,fun _ _ _ h=>h⟩
theorem Less.trans{a b c:List L}(h:Less a b)(k:Less b c):Less a c:=
 ⟨fun i hi=>h.ids i (k.ids i hi),fun x=>k.two (h.two x),Nat.le_trans k.len h.len,fun x hx=>by
  obtain⟨y,hy,e⟩:=k.price x hx
  obtain⟨z,hz,e2⟩:=h.price y hy
  exact⟨z,hz,e2.trans e⟩,fun s prev hs hp=>k.sgo s prev hs (h.sgo s prev hs hp)⟩
theorem zCx{o:O}{ls:List L}{q:Int}(hq:0≤q)(hl:∀l∈ls,lchk l=0):Less ls (tkl o ls q).1:=by
 obtain⟨i1,i2,i3,i4⟩:=zDJ (o:=o) ls q hq hl
 exact⟨i1,i2,i3,i4,fun s prev hs h=>zJn hs ls q prev hq h⟩
theorem zGq{o:O}{q:Int}(hq:0≤q):∀ {ls:List L},(∀l∈ls,lchk l=0)→∀l∈(tkl o ls q).1,lchk l=0:=by
 intro ls
 induction ls generalizing q with
 | nil=>intro _ l hl;simp[tkl] at hl
 | cons x t ih=>
  intro hg l hl
  by_cases hc:0<q∧mB o x.price=true
  ·have hx:=hg x (by simp)
   obtain⟨f1,f2,f3,f4,f5,f6,f7⟩:=zBq (zAc hx).2.2 (q:=q) (by omega)
   rcases zCs (t:=t) hc.1 hc.2 hx with ⟨he,e⟩|⟨he,hz,e⟩
   ·rw[e] at hl
    exact ih (by omega) (fun y hy=>hg y (by simp[hy])) l hl
   ·rw[e] at hl
    rcases List.mem_cons.1 hl with rfl|hl
    ·exact zAU (zBr hx) he f4
    ·exact hg l (by simp[hl])
  ·rw[zCt hc] at hl;exact hg l hl
theorem zBM{p:Int}{r:R}{rs:List R}{t:List L}(hl:∀l∈(⟨p,r::rs⟩::t:List L),lchk l=0):Less (⟨p,r::rs⟩::t) (stepL p rs t):=by
 have ha:allR (stepL p rs t)=rs++allR t:=by
  unfold stepL
  by_cases e:rs=[]
  ·rw[if_pos e,e];rfl
  ·rw[if_neg e,zAf]
 have hb:allR (⟨p,r::rs⟩::t)=r::(rs++allR t):=by rw[zAf];rfl
 refine⟨fun i hi=>?_,fun h=>?_,?_,fun x hx=>?_,fun s prev hs h=>?_⟩
 ·rw[ha] at hi;rw[hb,List.map_cons];exact List.mem_cons_of_mem _ hi
 ·rw[hb,List.map_cons] at h;rw[ha];exact(List.nodup_cons.1 h).2
 ·rw[ha,hb,List.length_cons];omega
 ·unfold stepL at hx
  by_cases e:rs=[]
  ·rw[if_pos e] at hx;exact⟨x,by simp[hx],rfl⟩
  ·rw[if_neg e] at hx
   rcases List.mem_cons.1 hx with rfl|hx
   ·exact⟨⟨p,r::rs⟩,by simp,rfl⟩
   ·exact⟨x,by simp[hx],rfl⟩
 ·obtain⟨h1,h2,h3⟩:=zAy h
  have hg:=zAM hl
  unfold stepL at hg ⊢
  by_cases e:rs=[]
  ·rw[if_pos e];exact zDI hs h3 h2
  ·rw[if_neg e] at hg ⊢;exact zBk (hg _ (by simp)) h2 h3
theorem zEB{s:Int}{ls X:List L}(h:schk s ls=0)(hl:Less ls X):schk s X=0:=by
 obtain⟨z1,z2,z3,z4⟩:=zAa h
 have hlen:=hl.len
 refine zBW z1 (hl.sgo s none z1 z2) ?_ (by rw[zAE] at *;exact hl.two z4)
 rw[zAs] at *
 omega
theorem zBd{bs ss X:List L}{o:O}(hb:bookE bs ss=0)(hl:Less (otherL bs ss o) X):bookE (repB o bs X) (repS o ss X)=0:=by
 obtain⟨e1,e2,e3,e4,e5⟩:=zAb hb
 have hp1:=(zDH (zAa e1).1 bs none (zAa e1).2.1).1
 have hp2:=(zDH (zAa e2).1 ss none (zAa e2).2.1).1
 unfold twiceB at e4
 simp only[decide_eq_false_iff_not,Classical.not_not] at e4
 rw[List.map_append] at e4
 obtain⟨n1,n2,n3⟩:=List.nodup_append.1 e4
 rw[List.length_append] at e5
 unfold repB repS
 unfold otherL at hl
 by_cases hs:o.side=1
 ·simp only[if_pos hs] at hl ⊢
  have k2:=zEB e2 hl
  have hlen:=hl.len
  unfold bookE
  rw[if_pos e1,if_pos k2,if_neg,if_neg,if_neg]
  ·rw[List.length_append];omega
  ·unfold twiceB
   simp only[decide_eq_true_eq,Classical.not_not]
   rw[List.map_append]
   exact List.nodup_append.2 ⟨n1,hl.two n2,fun a ha b hb=>n3 a ha b (hl.ids b hb)⟩
  ·intro hx
   unfold crossB at hx e3
   simp only[Bool.and_eq_true,Bool.not_eq_true',List.isEmpty_eq_false_iff,decide_eq_true_eq] at hx
   obtain⟨x1,x2,x3⟩:=hx
   obtain⟨l',hl',e'⟩:=zCu x2
   obtain⟨l,hl2,el⟩:=hl.price l' hl'
   have hne:ss≠[]:=fun e=>by rw[e] at hl2;cases hl2
   have hb2:=zBt hp2 hl2
   simp only[Bool.and_eq_false_iff,Bool.not_eq_false',List.isEmpty_iff,decide_eq_false_iff_not] at e3
   rcases e3 with e|e|e
   ·exact x1 e
   ·exact hne e
   ·unfold ahd at hb2
    simp at hb2
    omega
 ·simp only[if_neg hs] at hl ⊢
  have k1:=zEB e1 hl
  have hlen:=hl.len
  unfold bookE
  rw[if_pos k1,if_pos e2,if_neg,if_neg,if_neg]
  ·rw[List.length_append];omega
  ·unfold twiceB
   simp only[decide_eq_true_eq,Classical.not_not]
   rw[List.map_append]
   exact List.nodup_append.2 ⟨hl.two n1,n2,fun a ha b hb=>n3 a (hl.ids a ha) b hb⟩
  ·intro hx
   unfold crossB at hx e3
   simp only[Bool.and_eq_true,Bool.not_eq_true',List.isEmpty_eq_false_iff,decide_eq_true_eq] at hx
   obtain⟨x1,x2,x3⟩:=hx
   obtain⟨l',hl',e'⟩:=zCu x1
   obtain⟨l,hl2,el⟩:=hl.price l' hl'
   have hne:bs≠[]:=fun e=>by rw[e] at hl2;cases hl2
   have hb2:=zBt hp1 hl2
   simp only[Bool.and_eq_false_iff,Bool.not_eq_false',List.isEmpty_iff,decide_eq_false_iff_not] at e3
   rcases e3 with e|e|e
   ·exact hne e
   ·exact x2 e
   ·unfold ahd at hb2
    simp at hb2
    omega
theorem zMl{bs ss X:List L}{o:O}{k:Int}(h:comeE bs ss o=0)(hl:Less (otherL bs ss o) X)(h1:1≤k)(h2:k≤o.qty):comeE (repB o bs X) (repS o ss X) (part o k)=0:=by
 obtain⟨hb,hc,hst,hin⟩:=zAp h
 have hk:=zBd hb hl
 unfold comeE
 rw[if_pos hk,if_pos (zMk hc h1 h2),if_pos (show (part o k).stop=0 from hst),if_neg]
 intro hx
 unfold inBook at hx hin
 simp only[decide_eq_true_eq,decide_eq_false_iff_not] at hx hin
 apply hin
 rw[zAE,zAE] at hx ⊢
 have hid:(part o k).id=o.id:=rfl
 rw[hid] at hx
 unfold repB repS at hx
 unfold otherL at hl
 by_cases hs:o.side=1
 ·simp only[if_pos hs] at hx hl
  rcases hx with hx|hx
  ·exact .inl hx
  ·exact .inr (hl.ids _ hx)
 ·simp only[if_neg hs] at hx hl
  rcases hx with hx|hx
  ·exact .inl (hl.ids _ hx)
  ·exact .inr hx
theorem zJr(o:O)(bs ss X:List L)(k:Int):otherL (repB o bs X) (repS o ss X) (part o k)=X:=by
 unfold otherL repB repS
 have e:(part o k).side=o.side:=rfl
 rw[e]
 by_cases hs:o.side=1
 ·rw[if_pos hs,if_pos hs]
 ·rw[if_neg hs,if_neg hs]
theorem zDL(o:O)(bs ss X:List L)(k:Int):metR (repB o bs X) (repS o ss X) (part o k)=tkl o X k:=by
 unfold metR
 rw[zJr,zMj]
 rfl
theorem zMm(o:O)(bs ss X:List L)(k:Int):metB (repB o bs X) (repS o ss X) (part o k)=repB o bs (tkl o X k).1:=by
 unfold metB
 rw[zDL]
 have e:(part o k).side=o.side:=rfl
 rw[e]
 unfold repB
 by_cases hs:o.side=1
 ·simp only[if_pos hs]
 ·simp only[if_neg hs]
theorem zMn(o:O)(bs ss X:List L)(k:Int):metS (repB o bs X) (repS o ss X) (part o k)=repS o ss (tkl o X k).1:=by
 unfold metS
 rw[zDL]
 have e:(part o k).side=o.side:=rfl
 rw[e]
 unfold repS
 by_cases hs:o.side=1
 ·simp only[if_pos hs]
 ·simp only[if_neg hs]
theorem zMo(o:O)(bs ss:List L):repB o bs (otherL bs ss o)=bs∧repS o ss (otherL bs ss o)=ss:=by
 unfold repB repS otherL
 by_cases hs:o.side=1
 ·rw[if_pos hs,if_pos hs,if_pos hs];exact⟨rfl,rfl⟩
 ·rw[if_neg hs,if_neg hs,if_neg hs];exact⟨rfl,rfl⟩
theorem zDl{s:Int}{p:Int}{r:R}{rs:List R}{t:List L}(h:schk s (⟨p,r::rs⟩::t)=0):findE s (⟨p,r::rs⟩::t) r.id=0∧findP s (⟨p,r::rs⟩::t) r.id=(((0:Nat):Int),((0:Nat):Int)):=by
 have hn:=(zAa h).2.2.2
 have h1:=last_at hn (i:=0) (k:=0) (by simp) (by simp)
 have h2:lastAt (flatP 0 (⟨p,r::rs⟩::t)) r.id=some (r.id,((0:Nat):Int),((0:Nat):Int)):=h1
 have hE:findE s (⟨p,r::rs⟩::t) r.id=0:=by
  unfold findE
  rw[if_pos h,h2]
  rfl
 refine⟨hE,?_⟩
 unfold findP
 rw[if_pos hE,h2]
 rfl
theorem zDm{p:Int}{r:R}{rs:List R}{t:List L}:dropL (⟨p,r::rs⟩::t) 0 0=stepL p rs t:=by
 unfold dropL stepL
 show (if (r::rs).length=1 then _ else _)=_
 by_cases e:rs=[]
 ·subst e
  rw[if_pos (show [r].length=1 from rfl),if_pos rfl]
  rfl
 ·have hl:¬(r::rs).length=1:=fun h=>e (List.length_eq_zero_iff.1 (by simp at h;exact congrArg List.length h))
  rw[if_neg hl,if_neg e]
  rfl
theorem zJs{bs ss:List L}{p:Int}{r:R}{rs:List R}{t:List L}(h:bookE bs ss=0)(hs:ss=⟨p,r::rs⟩::t):findE 1 bs r.id=5:=by
 obtain⟨h1,-,-,ht,-⟩:=zAb h
 unfold twiceB at ht
 simp only[decide_eq_false_iff_not,Classical.not_not] at ht
 rw[List.map_append,List.nodup_append] at ht
 have hm:r∈allR ss:=by rw[hs,zAf];simp
 have hn:r.id ∉ ids bs:=fun e=>by
  rw[zAE] at e
  exact ht.2.2 _ e _ (List.mem_map.2 ⟨_,hm,rfl⟩) rfl
 exact zAF h1 hn
end slf
namespace mee
open Go.RowKit spn que sid
theorem zJt(ts:List T):∀j,j<ts.length→∀i,i<6→(flatT ts)[j*6+i]?=(tV ts[j]!)[i]?:=by
 induction ts with
 | nil=>intro j hj;simp at hj
 | cons r t ih=>
  intro j hj i hi
  have e:flatT (r::t)=tV r++flatT t:=rfl
  rw[e]
  cases j with
  | zero=>rw[Nat.zero_mul,Nat.zero_add,List.getElem?_append_left (by show i<6;exact hi)];rfl
  | succ j=>
   rw[List.getElem?_append_right (by show 6≤_;omega)]
   have:(j+1)*6+i - (tV r).length=j*6+i:=by show (j+1)*6+i - 6=_;omega
   rw[this,ih j (by simpa using hj) i hi]
   rfl
theorem OwnT.at{w:World}{base:Nat}{q:Option Addr}{n c:Nat}{ts:List T}(h:OwnT w base (.slice q n c) ts){k:Nat}(hk:k<ts.length):∃g off,q=some ⟨g,off,none⟩∧g<w.heap.size∧w.cell? ⟨g,off+k*6,none⟩=some (.int .i64 ts[k]!.maker)∧w.cell? ⟨g,off+k*6+1,none⟩=some (.int .i64 ts[k]!.taker)∧w.cell? ⟨g,off+k*6+2,none⟩=some (.int .i64 ts[k]!.frm)∧w.cell? ⟨g,off+k*6+3,none⟩=some (.int .i64 ts[k]!.into)∧w.cell? ⟨g,off+k*6+4,none⟩=some (.int .i64 ts[k]!.price)∧w.cell? ⟨g,off+k*6+5,none⟩=some (.int .i64 ts[k]!.qty):=by
 have hn:n=ts.length:=by obtain⟨q',c',e⟩:=OwnM.form h;cases e;rfl
 subst hn
 cases q with
 | none=>
  rcases h.2 with ⟨e,hn⟩|⟨g,off,cap,cur,e,_⟩
  ·rw[hn] at hk;exact absurd hk (Nat.not_lt_zero _)
  ·cases e
 | some a=>
  rcases h.2 with ⟨e,hn⟩|⟨g,off,cap,cur,e,_⟩
  ·cases e
  ·cases e
   obtain⟨hc,-,-,hlt⟩:=OwnM.cells h
   have hh:∀i u,i<6→(tV ts[k]!)[i]?=some u→w.cell? ⟨g,off+(k*6+i),none⟩=some u:=fun i u hi hu=>hc (k*6+i) u (by rw[zJt ts k hk i hi];exact hu)
   exact⟨g,off,rfl,hlt,hh 0 _ (by omega) rfl,hh 1 _ (by omega) rfl,hh 2 _ (by omega) rfl,hh 3 _ (by omega) rfl,hh 4 _ (by omega) rfl,hh 5 _ (by omega) rfl⟩
end mee
namespace slf
open Go.RowKit spn que sid bok mee
structure FarV (w w' : World) (base VB:Nat):Prop where
 os:w'.os=w.os
 tape:w'.tape=w.tape
 output:w'.output=w.output
 size:w.heap.size≤w'.heap.size
 block:∀j,j<base→j≠VB→w'.heap[j]?=w.heap[j]?
theorem FarV.refl(w:World)(base VB:Nat):FarV w w base VB:=⟨rfl,rfl,rfl,nzR _,fun _ _ _=>rfl⟩
theorem FarV.trans{a b c:World}{base VB:Nat}(h:FarV a b base VB)(k:FarV b c base VB):FarV a c base VB:=
 ⟨k.os.trans h.os,k.tape.trans h.tape,k.output.trans h.output,Nat.le_trans h.size k.size,fun j h1 h2=>(k.block j h1 h2).trans (h.block j h1 h2)⟩
theorem FarV.below{w w' : World}{base VB:Nat}(h:Below w.heap.size w w')(hb:base≤w.heap.size):FarV w w' base VB:=
 ⟨h.os,h.tape,h.output,h.size,fun j h1 _=>h.block j (by omega)⟩
theorem FarV.grown{w w' : World}{base VB:Nat}{row:Option Nat}(h:w.grownBy w' row)(hb:base≤w.heap.size)(hr:∀k,row=some k→k=VB∨base≤k):FarV w w' base VB:=
 ⟨h.os,h.tape,h.output,h.size,fun j h1 h2=>h.block j (by omega) (fun e=>by rcases hr j e.symm with h|h <;>omega)⟩
theorem FarV.ahead{w W W' : World}{base VB:Nat}(hB:Below w.heap.size w W)(h:FarV W W' base VB)(h1:w.heap.size≤VB)(h2:w.heap.size≤base):Below w.heap.size w W':=
 ⟨h.os.trans hB.os,h.tape.trans hB.tape,h.output.trans hB.output,Nat.le_trans hB.size h.size,fun k hk=>(h.block k (by omega) (by omega)).trans (hB.block k hk)⟩
theorem rowV{w:World}{B:Nat}{x0 x1 x2 x3 x4 x5:Value}{t:TypeId}(h:w.heap[B]?=some (.cells #[x0,x1,x2,x3,x4,x5] t (0,0))) :
  w.cell? ⟨B,0,none⟩=some x0∧w.cell? ⟨B,1,none⟩=some x1∧w.cell? ⟨B,2,none⟩=some x2∧w.cell? ⟨B,3,none⟩=some x3∧w.cell? ⟨B,4,none⟩=some x4∧w.cell? ⟨B,5,none⟩=some x5∧∀j,w.frozen? ⟨B,j,none⟩=false:=
 ⟨by simp[World.cell?,h],by simp[World.cell?,h],by simp[World.cell?,h],by simp[World.cell?,h],by simp[World.cell?,h],by simp[World.cell?,h],fun j=>frozen_of_row w _ j _ _ h⟩
theorem rowO{w:World}{B:Nat}{x0 x1 x2 x3 x4 x5 x6 x7:Value}{t:TypeId}(h:w.heap[B]?=some (.cells #[x0,x1,x2,x3,x4,x5,x6,x7] t (0,0))) :
  w.cell? ⟨B,0,none⟩=some x0∧w.cell? ⟨B,1,none⟩=some x1∧w.cell? ⟨B,2,none⟩=some x2∧w.cell? ⟨B,3,none⟩=some x3∧w.cell? ⟨B,4,none⟩=some x4∧w.cell? ⟨B,5,none⟩=some x5∧w.cell? ⟨B,6,none⟩=some x6∧w.cell? ⟨B,7,none⟩=some x7∧∀j,w.frozen? ⟨B,j,none⟩=false:=
 ⟨by simp[World.cell?,h],by simp[World.cell?,h],by simp[World.cell?,h],by simp[World.cell?,h],by simp[World.cell?,h],by simp[World.cell?,h],by simp[World.cell?,h],by simp[World.cell?,h],fun j=>frozen_of_row w _ j _ _ h⟩
section
variable {w:World}{B:Nat}{y0 y1 y2 y3 y4 y5 y6 y7:Value}{t:TypeId}
theorem v_at0(h:w.heap[B]?=some (.cells #[y0,y1,y2,y3,y4,y5] t (0,0)))(x:Value):(w.setCell ⟨B,0,none⟩ x).heap[B]?=some (.cells #[x,y1,y2,y3,y4,y5] t (0,0)):=by
 have h0:=heap_setCell_same _ B 0 _ _ x h
 simp only[List.setIfInBounds_toArray,List.set_cons_zero] at h0
 exact h0
theorem v_at1(h:w.heap[B]?=some (.cells #[y0,y1,y2,y3,y4,y5] t (0,0)))(x:Value):(w.setCell ⟨B,1,none⟩ x).heap[B]?=some (.cells #[y0,x,y2,y3,y4,y5] t (0,0)):=by
 have h0:=heap_setCell_same _ B 1 _ _ x h
 simp only[List.setIfInBounds_toArray,List.set_cons_zero,List.set_cons_succ] at h0
 exact h0
theorem v_at2(h:w.heap[B]?=some (.cells #[y0,y1,y2,y3,y4,y5] t (0,0)))(x:Value):(w.setCell ⟨B,2,none⟩ x).heap[B]?=some (.cells #[y0,y1,x,y3,y4,y5] t (0,0)):=by
 have h0:=heap_setCell_same _ B 2 _ _ x h
 simp only[List.setIfInBounds_toArray,List.set_cons_zero,List.set_cons_succ] at h0
 exact h0
theorem v_at3(h:w.heap[B]?=some (.cells #[y0,y1,y2,y3,y4,y5] t (0,0)))(x:Value):(w.setCell ⟨B,3,none⟩ x).heap[B]?=some (.cells #[y0,y1,y2,x,y4,y5] t (0,0)):=by
 have h0:=heap_setCell_same _ B 3 _ _ x h
 simp only[List.setIfInBounds_toArray,List.set_cons_zero,List.set_cons_succ] at h0
 exact h0
theorem v_at4(h:w.heap[B]?=some (.cells #[y0,y1,y2,y3,y4,y5] t (0,0)))(x:Value):(w.setCell ⟨B,4,none⟩ x).heap[B]?=some (.cells #[y0,y1,y2,y3,x,y5] t (0,0)):=by
 have h0:=heap_setCell_same _ B 4 _ _ x h
 simp only[List.setIfInBounds_toArray,List.set_cons_zero,List.set_cons_succ] at h0
 exact h0
theorem v_at5(h:w.heap[B]?=some (.cells #[y0,y1,y2,y3,y4,y5] t (0,0)))(x:Value):(w.setCell ⟨B,5,none⟩ x).heap[B]?=some (.cells #[y0,y1,y2,y3,y4,x] t (0,0)):=by
 have h0:=heap_setCell_same _ B 5 _ _ x h
 simp only[List.setIfInBounds_toArray,List.set_cons_zero,List.set_cons_succ] at h0
 exact h0
end
theorem gr_six(w:World)(B:Nat)(x0 x1 x2 x3 x4 x5:Value):w.grownBy ((((((w.setCell ⟨B,0,none⟩ x0).setCell ⟨B,1,none⟩ x1).setCell ⟨B,2,none⟩ x2).setCell ⟨B,3,none⟩ x3).setCell ⟨B,4,none⟩ x4).setCell ⟨B,5,none⟩ x5) (some B):=
 gr_trans (gr_trans (gr_trans (gr_trans (gr_trans (gr_setCell _ _ _ _) (gr_setCell _ _ _ _)) (gr_setCell _ _ _ _)) (gr_setCell _ _ _ _)) (gr_setCell _ _ _ _)) (gr_setCell _ _ _ _)
theorem setSixV{w:World}{B:Nat}{y0 y1 y2 y3 y4 y5:Value}{t:TypeId}(h:w.heap[B]?=some (.cells #[y0,y1,y2,y3,y4,y5] t (0,0)))(x0 x1 x2 x3 x4 x5:Value) :
  ((((((w.setCell ⟨B,0,none⟩ x0).setCell ⟨B,1,none⟩ x1).setCell ⟨B,2,none⟩ x2).setCell ⟨B,3,none⟩ x3).setCell ⟨B,4,none⟩ x4).setCell ⟨B,5,none⟩ x5).heap[B]?=some (.cells #[x0,x1,x2,x3,x4,x5] t (0,0)):=
 v_at5 (v_at4 (v_at3 (v_at2 (v_at1 (v_at0 h x0) x1) x2) x3) x4) x5
theorem zGr{w w' : World}{base:Nat}{v:Value}{ls:List L}{row:Option Nat}(h:DL w base v ls)(hg:w.grownBy w' row)(hr:∀k,row=some k→k<base):DL w' base v ls:=by
 cases row with
 | none=>exact h.below ⟨hg.os,hg.tape,hg.output,hg.size,fun k hk=>hg.block k hk (by simp)⟩
 | some k=>exact h.other hg (hr k rfl)
def SafeS(w0 w:World)(base:Nat)(v:Value)(ls:List L):Prop:=LS w0 v ls∨DL w base v ls
theorem SafeS.ls{w0 w:World}{base:Nat}{v:Value}{ls:List L}(h:SafeS w0 w base v ls)(hB:Below w0.heap.size w0 w):LS w v ls:=h.elim (fun h=>h.below hB) (fun h=>h.ls)
theorem SafeS.row{w0 w w' : World}{base VB:Nat}{v:Value}{ls:List L}(h:SafeS w0 w base v ls)(hg:w.grownBy w' (some VB))(hV:VB<base):SafeS w0 w' base v ls:=h.imp id (fun h=>h.other hg hV)
theorem SafeS.below{w0 w w' : World}{base:Nat}{v:Value}{ls:List L}(h:SafeS w0 w base v ls)(hB:Below w.heap.size w w'):SafeS w0 w' base v ls:=h.imp id (fun h=>h.below hB)
def flatI(l:List Int):List Value:=l.map (fun x=>.int .i64 x)
abbrev OwnI(w:World)(base:Nat)(v:Value)(l:List Int):Prop:=OwnM w base 3 1 v l.length (flatI l)
theorem infoN:((Tryz.prog.info? 3).map (fun i=>(i.zero,i.size,i.bytes)))=some (some (.int .i64 0),1,8):=by kernel_rfl
theorem infoN' : ∃i,Tryz.prog.info? 3=some i∧i.zero=some (.int .i64 0)∧i.size=1∧i.bytes=8:=by
 have h:=infoN
 cases hq:Tryz.prog.info? 3 with
 | none=>rw[hq] at h;simp at h
 | some i=>
  rw[hq] at h
  simp at h
  exact⟨i,rfl,h.1,h.2.1,h.2.2⟩
theorem zMp{w:World}{base:Nat}{e:TypeId}{sz:Nat}{ad:Addr}{n c:Nat}{xs:List Value}(h:OwnM w base e sz (.slice (some ad) n c) n xs):∀j u,xs[j]?=some u→w.cell? (ad.add j)=some u:=by
 intro j u hu
 rcases h.2 with ⟨e,-⟩|⟨g,off,cap,cur,he,-,hg,-,-,-,htake⟩
 ·simp at e
 ·simp only[Value.slice.injEq,Option.some.injEq] at he
  obtain⟨rfl,-,-⟩:=he
  rw[Addr.add_lit,cell_of_row w g (off+j) cur e (0,0) hg]
  rw[←htake,List.getElem?_take] at hu
  split at hu
  ·rw[List.getElem?_drop] at hu;simpa using hu
  ·cases hu
theorem zJu(ts:List T):∀u∈flatT ts,u.oneCell'=true:=by
 intro u hu
 obtain⟨x,-,hx⟩:=List.mem_flatMap.1 hu
 simp only[tV,List.mem_cons,List.not_mem_nil,or_false] at hx
 rcases hx with rfl|rfl|rfl|rfl|rfl|rfl <;>rfl
theorem zJv(ts:List T):(flatT ts).length=ts.length*6:=by
 induction ts with
 | nil=>rfl
 | cons x t ih=>
  have:flatT (x::t)=tV x++flatT t:=by simp[flatT]
  rw[this,List.length_append,ih,List.length_cons]
  have h6:(tV x).length=6:=rfl
  omega
theorem own_ne{w:World}{b1 b2:Nat}{e1 e2:TypeId}{s1 s2:Nat}{v1 v2:Value}{n1 n2:Nat}{x1 x2:List Value}(h1:OwnM w b1 e1 s1 v1 n1 x1)(h2:OwnM w b2 e2 s2 v2 n2 x2)(he:e1≠e2):∀x,v1.ownBlock=some x→v2.ownBlock≠some x:=by
 intro x hx hy
 rcases h1.2 with ⟨rfl,_⟩|⟨g,off,cap,cur,rfl,-,hg,-⟩
 ·simp[Value.ownBlock] at hx
 ·simp[Value.ownBlock] at hx
  subst hx
  rcases h2.2 with ⟨rfl,_⟩|⟨g2,off2,cap2,cur2,rfl,-,hg2,-⟩
  ·simp[Value.ownBlock] at hy
  ·simp[Value.ownBlock] at hy
   subst hy
   rw[hg] at hg2
   simp at hg2
   exact he hg2.2
theorem zHy{base:Nat}{W:World}{tv uv:Value}{ts us:List T}{b2:Nat}(h:OwnT W base tv ts)(hu:OwnT W b2 uv us)(hb:base≤W.heap.size)(hne:us≠[])(hl:ts.length+us.length≤1000000) :
  ∃tq tc w1,(Builtin.append_ #[99,99] 99 #[tv,uv]).run Tryz.prog W=.ok (.slice tq (ts++us).length tc) w1∧OwnT w1 base (.slice tq (ts++us).length tc) (ts++us)∧W.grownBy w1 tv.ownBlock:=by
 obtain⟨i0,hi0,hz0,hz1,hz2⟩:=infoT'
 obtain⟨ad,c,rfl⟩:∃ad c,uv=.slice (some ad) us.length c:=by
  rcases hu.2 with ⟨-,e⟩|⟨g,off,cap,cur,rfl,-⟩
  ·exact absurd (List.length_eq_zero_iff.1 e) hne
  ·exact⟨_,_,rfl⟩
 obtain⟨v',w',e1,e2,e3,e4⟩:=run_append_mid (P:=Tryz.prog) W base 99 99 40 i0 zeroT 6 48 Tryz.underlying99 hi0 hz0 hz1 hz2 rfl tv ts.length (flatT ts) h ad us.length c (flatT us) (zJv us) (zMp hu) (zJu us) (by unfold maxLen;omega) (by omega) hb
 have e2' : OwnT w' base v' (ts++us):=by
  show OwnM _ _ _ _ _ _ _
  rw[zCl,List.length_append]
  exact e2
 obtain⟨q',c',hf⟩:=OwnM.form e2'
 subst hf
 exact⟨q',c',w',e1,e2',e3⟩
theorem lay_id{base:Nat}{W:World}{iv:Value}{l:List Int}(x:Int)(h:OwnI W base iv l)(hb:base≤W.heap.size)(hl:l.length≤1000000) :
  ∃tq tc w1,(Builtin.append_ #[130,130] 130 #[iv,.slice (some ⟨W.heap.size,0,none⟩) 1 1]).run Tryz.prog (W.alloc (.cells #[.int .i64 x] 3))=.ok (.slice tq (l++[x]).length tc) w1∧OwnI w1 base (.slice tq (l++[x]).length tc) (l++[x])∧W.grownBy w1 iv.ownBlock:=by
 obtain⟨i0,hi0,hz0,hz1,hz2⟩:=infoN'
 obtain⟨U,hU⟩:∃U,U=W.alloc (.cells #[.int .i64 x] 3):=⟨_,rfl⟩
 have hB:Below W.heap.size W U:=by rw[hU];exact(bzR _ _).alloc (nzR _) _
 have hown:OwnI U base iv l:=OwnM.below h hB
 obtain⟨v',w',e1,e2,e3,e4⟩:=run_append_mid (P:=Tryz.prog) U base 130 130 3 i0 (.int .i64 0) 1 8 Tryz.underlying130 hi0 hz0 hz1 hz2 rfl iv l.length (flatI l) hown ⟨W.heap.size,0,none⟩ 1 1 [.int .i64 x] rfl (fun j u hu=>by
  rw[hU,Addr.add_lit,World.cell?_alloc_at _ _ _ _ rfl]
  simpa using hu) (fun u hu=>by simp only[List.mem_cons,List.not_mem_nil,or_false] at hu;rw[hu];rfl) (by unfold maxLen;omega) (by omega) (Nat.le_trans hb hB.size)
 have e2' : OwnI w' base v' (l++[x]):=by
  show OwnM _ _ _ _ _ _ _
  unfold flatI at e2 ⊢
  rw[List.map_append,List.length_append]
  exact e2
 obtain⟨q',c',hf⟩:=OwnM.form e2'
 subst hf
 rw[hU] at e1
 exact⟨q',c',w',e1,e2',gr_trans (gr_below hB _) e3⟩
end slf
end Go.Proofs.YtifjhlgjgnnnpaaGreat
