import Derived.Test.YtifjhlgjgnnnpaaGreatSidPure
import Derived.Test.YtifjhlgjgnnnpaaGreatSidPut
import Derived.Test.YtifjhlgjgnnnpaaGreatMeeDo
namespace Go.Proofs.YtifjhlgjgnnnpaaGreat
namespace mee
open Go.RowKit spn que sid
open ord (O mB chk)
open tickP (zAm zAz zBt betR)
def sumT:List T→Int
 | []=>0
 | t::r=>t.qty+sumT r
theorem zCS(a b:List T):sumT (a++b)=sumT a+sumT b:=by
 induction a with
 | nil=>simp[sumT]
 | cons x t ih=>simp only[List.cons_append,sumT,ih];omega
theorem zHJ(o:O)(p:Int)(fs:List F):sumT (fs.map (trd o p))=sum fs:=by
 induction fs with
 | nil=>rfl
 | cons x t ih=>
  simp only[jK,sumT,sum,ih]
  have:(trd o p x).qty=x.qty:=by unfold trd;split <;>rfl
  rw[this]
def totL:List L→Int
 | []=>0
 | l::t=>tot l.rests+totL t
theorem zDK{o:O}{l:L}{t:List L}{q:Int}(h:0<q)(hm:mB o l.price=true)(hl:lchk l=0) :
  (((take q l.rests).2=[]∧tkl o (l::t) q=((tkl o t (q - sum (take q l.rests).1)).1,(take q l.rests).1.map (trd o l.price)++(tkl o t (q - sum (take q l.rests).1)).2.1,(tkl o t (q - sum (take q l.rests).1)).2.2))∨
   (¬(take q l.rests).2=[]∧q - sum (take q l.rests).1=0∧tkl o (l::t) q=(⟨l.price,(take q l.rests).2⟩::t,(take q l.rests).1.map (trd o l.price),q - sum (take q l.rests).1))):=by
 by_cases he:(take q l.rests).2=[]
 ·exact .inl ⟨he,zCY h hm he⟩
 ·exact .inr ⟨he,zFN (zAg hl).2.2 (by omega) he,zCZ h hm he⟩
theorem zDL{o:O}{l:L}{t:List L}{q:Int}(h:¬(0<q∧mB o l.price=true)):tkl o (l::t) q=(l::t,[],q):=by
 by_cases hq:0<q
 ·exact zEY (by
   cases hm:mB o l.price with
   | false=>rfl
   | true=>exact absurd ⟨hq,hm⟩ h)
 ·exact zAZ (by omega)
theorem zPJ{o:O}:∀ (ls:List L) (q:Int),0≤q→(∀l∈ls,lchk l=0)→sumT (tkl o ls q).2.1+(tkl o ls q).2.2=q∧0≤(tkl o ls q).2.2∧0≤sumT (tkl o ls q).2.1∧((tkl o ls q).2.1.length:Int)≤sumT (tkl o ls q).2.1∧totL (tkl o ls q).1+sumT (tkl o ls q).2.1=totL ls:=by
 intro ls
 induction ls with
 | nil=>intro q h _;simp[tkl,sumT];exact h
 | cons l t ih=>
  intro q h hg
  by_cases hc:0<q∧mB o l.price=true
  ·have hl:=hg l (by simp)
   obtain⟨f1,f2,f3,f4,f5,f6,f7⟩:=zCF (zAg hl).2.2 (q:=q) (by omega)
   rcases zDK (t:=t) hc.1 hc.2 hl with ⟨he,e⟩|⟨he,hz,e⟩
   ·obtain⟨i1,i2,i3,i4,i5⟩:=ih (q - sum (take q l.rests).1) (by omega) (fun x hx=>hg x (by simp[hx]))
    rw[e]
    simp only[zCS,zHJ,jE,jP,totL]
    rw[he] at f7
    simp only[tot] at f7
    refine⟨by omega,i2,by omega,by omega,by omega⟩
   ·rw[e]
    simp only[zHJ,jP,totL]
    refine⟨by omega,by omega,f2,f3,by omega⟩
  ·rw[zDL hc]
   simp[sumT]
   exact h
def ahd(s:Int)(a b:Int):Prop:=if s=1 then b<a else a<b
theorem zNk{s a b:Int}(hs:zAz s=true)(h:zAU s a b=true):ahd s a b:=by
 simp[zAz] at hs
 unfold zAU betR at h
 unfold ahd
 rcases hs with rfl|rfl
 ·have e:wrap64 (3 - 1)=2:=by unfold wrap64;omega
  rw[e] at h
  simp at h
  simp
  exact h.2
 ·have e:wrap64 (3 - 2)=1:=by unfold wrap64;omega
  rw[e] at h
  simp at h
  simp
  exact h.2
theorem zFZ{s a b c:Int}(h1:ahd s a b)(h2:ahd s b c):ahd s a c:=by
 unfold ahd at *
 split at h1 <;>simp_all <;>omega
theorem zFg{s:Int}(hs:zAz s=true):∀ (ls:List L) (prev:Option Int),sgo s prev ls=0→(ls.Pairwise fun a b=>ahd s a.price b.price)∧∀x,prev=some x→∀l∈ls,ahd s x l.price:=by
 intro ls
 induction ls with
 | nil=>intro prev _;exact⟨List.Pairwise.nil,fun x _ l hl=>by cases hl⟩
 | cons l t ih=>
  intro prev h
  obtain⟨h1,h2,h3⟩:=zBa h
  obtain⟨i1,i2⟩:=ih (some l.price) h3
  refine⟨List.pairwise_cons.2 ⟨fun b hb=>i2 _ rfl b hb,i1⟩,fun x hx b hb=>?_⟩
  subst hx
  have hxl:ahd s x l.price:=zNk hs h2
  rcases List.mem_cons.1 hb with rfl|hb
  ·exact hxl
  ·exact zFZ hxl (i2 _ rfl b hb)
end mee
namespace mee
open Go.RowKit spn que sid bok
open ord (O oV mB mE chk zAx)
theorem other_good{bs ss:List L}{o:O}(h:zAd bs ss=0):∀l∈zAr bs ss o,lchk l=0:=by
 obtain⟨e1,e2,-⟩:=zAf h
 unfold zAr
 split
 ·exact zAs (zAc e2).2.1
 ·exact zAs (zAc e1).2.1
theorem zKw{o:O}(h:chk o=0):1≤o.qty∧o.qty≤10000:=by
 obtain⟨-,-,h3,-,-⟩:=ord.zBx h
 simp[ord.qtyB] at h3
 exact⟨h3.1.1.1,h3.1.1.2⟩
def doE(bs ss:List L)(o:O):Int:=if zAu bs ss o=0 then (if 400<(metR bs ss o).2.1.length then 4 else 0) else zAu bs ss o
def DoPostD(bs ss:List L)(o:O)(w:World)(e:Ending)(w' : World):Prop:=
 (doE bs ss o=0→∃q1 q2 n1 n2 c1 c2 tv,e=.returned (.tuple #[.agg #[.slice q1 n1 c1,.slice q2 n2 c2],tv,.int .i64 (metR bs ss o).2.2,.nilIface])∧DL w' w.heap.size (.slice q1 n1 c1) (metB bs ss o)∧DL w' w.heap.size (.slice q2 n2 c2) (metS bs ss o)∧OwnT w' w.heap.size tv (metR bs ss o).2.1)∧
 (¬doE bs ss o=0→e=.returned (.tuple #[.agg #[.slice none 0 0,.slice none 0 0],.slice none 0 0,.int .i64 0,errV (doE bs ss o)]))∧Below w.heap.size w w'
set_option maxRecDepth 100000 in
set_option maxHeartbeats 4000000 in
theorem zKx(q1 q2:Option Addr)(n1 n2 c1 c2:Nat)(bs ss:List L)(a b c d p q s t:Int)(w:World)(h1:LS w (.slice q1 n1 c1) bs)(h2:LS w (.slice q2 n2 c2) ss) :
  Calls Tryz.prog 67 #[.agg #[.slice q1 n1 c1,.slice q2 n2 c2],.agg #[.int .i64 a,.int .i64 b,.int .i64 c,.int .i64 d,.int .i64 p,.int .i64 q,.int .i64 s,.int .i64 t]] w fun e w'=>DoPostD bs ss ⟨a,b,c,d,p,q,s,t⟩ w e w':=by
 obtain⟨V2,hV2⟩:∃V2,V2=(w.alloc (.cells #[.slice q1 n1 c1,.slice q2 n2 c2] 46)).alloc (.cells #[.int .i64 a,.int .i64 b,.int .i64 c,.int .i64 d,.int .i64 p,.int .i64 q,.int .i64 s,.int .i64 t] 32):=⟨_,rfl⟩
 have hs2:V2.heap.size=w.heap.size+2:=by rw[hV2];simp
 have hB2:Below w.heap.size w V2:=by rw[hV2];exact((bzR _ _).alloc (nzR _) _).alloc (by simp) _
 obtain⟨V,hV⟩:∃V,V=V2.alloc (.cells #[.slice none 0 0,.slice none 0 0] 46):=⟨_,rfl⟩
 have hBV:Below V2.heap.size V2 V:=by rw[hV];exact(bzR _ _).alloc (nzR _) _
 have HB:Hid (Below w.heap.size w V):=hB2.trans (hBV.mono hB2.size)
 have hR0:V.heap[V2.heap.size]?=some (.cells #[.slice none 0 0,.slice none 0 0] 46 (0,0)):=by rw[hV];exact jA V2 _
 obtain⟨P,hP⟩:∃P,P=w.heap.size+2:=⟨_,rfl⟩
 rw[show V2.heap.size=P by rw[hs2,hP]] at hR0
 have HP:Hid (P=w.heap.size+2):=hP
 have HTK:Hid (Calls Tryz.prog 92 #[.agg #[.slice q1 n1 c1,.slice q2 n2 c2],.agg #[.int .i64 a,.int .i64 b,.int .i64 c,.int .i64 d,.int .i64 p,.int .i64 q,.int .i64 s,.int .i64 t]] V fun e w'=>TakePost bs ss ⟨a,b,c,d,p,q,s,t⟩ V e w'):=zNj q1 q2 n1 n2 c1 c2 bs ss a b c d p q s t V (h1.below HB.out) (h2.below HB.out)
 have hPV:P<V.heap.size:=(gzE.1 hR0).1
 clear h1 h2 hs2 hB2 hBV
 go_enter Tryz.func67,Tryz.ntmps67
 go_wp2_with fail
 rw[←hV2,←hV]
 simp only[←hP]
 clear hV2 hV hP
 refine HTK.out.mono ?_
 rintro e w1⟨i1,i2,b1⟩
 have HW1:Hid (Below w.heap.size w w1):=HB.out.trans (b1.mono HB.out.size)
 have hR1:w1.heap[P]?=some (.cells #[.slice none 0 0,.slice none 0 0] 46 (0,0)):=(b1.block P hPV).trans hR0
 have hP1:P<w1.heap.size:=(gzE.1 hR1).1
 by_cases hC:zAu bs ss ⟨a,b,c,d,p,q,s,t⟩=0
 ·obtain⟨u1,u2,m1,m2,k1,k2,tv,rfl,D1,D2,OT⟩:=i1 hC
  obtain⟨tq,tc,htv⟩:=OwnM.form OT
  subst htv
  have hBa:Below w1.heap.size w1 (w1.alloc (.cells #[.slice u1 m1 k1,.slice u2 m2 k2] 46)):=(bzR _ _).alloc (nzR _) _
  have hR2:(w1.alloc (.cells #[.slice u1 m1 k1,.slice u2 m2 k2] 46)).heap[P]?=some (.cells #[.slice none 0 0,.slice none 0 0] 46 (0,0)):=(hBa.block P hP1).trans hR1
  have hRG:(w1.alloc (.cells #[.slice u1 m1 k1,.slice u2 m2 k2] 46)).heap[w1.heap.size]?=some (.cells #[.slice u1 m1 k1,.slice u2 m2 k2] 46 (0,0)):=jA w1 _
  have HD1:Hid (DL (w1.alloc (.cells #[.slice u1 m1 k1,.slice u2 m2 k2] 46)) V.heap.size (.slice u1 m1 k1) (metB bs ss ⟨a,b,c,d,p,q,s,t⟩)):=D1.below hBa
  have HD2:Hid (DL (w1.alloc (.cells #[.slice u1 m1 k1,.slice u2 m2 k2] 46)) V.heap.size (.slice u2 m2 k2) (metS bs ss ⟨a,b,c,d,p,q,s,t⟩)):=D2.below hBa
  have HOT:Hid (OwnT (w1.alloc (.cells #[.slice u1 m1 k1,.slice u2 m2 k2] 46)) V.heap.size (.slice tq (metR bs ss ⟨a,b,c,d,p,q,s,t⟩).2.1.length tc) (metR bs ss ⟨a,b,c,d,p,q,s,t⟩).2.1):=OwnM.below OT hBa
  have HW2:Hid (Below w.heap.size w (w1.alloc (.cells #[.slice u1 m1 k1,.slice u2 m2 k2] 46))):=HW1.out.trans (hBa.mono HW1.out.size)
  clear i1 i2 b1 D1 D2 OT hBa HTK
  go_upto_region 2 with fail
  generalize w1.alloc (.cells #[.slice u1 m1 k1,.slice u2 m2 k2] 46)=W at *
  generalize w1.heap.size=G at *
  obtain⟨g0,g1,-⟩:=zAb hRG
  obtain⟨z0,z1,zf⟩:=zAb hR2
  have zf0:=zf 0
  have zf1:=zf 1
  have HPV:Hid (P<V.heap.size):=hPV
  by_cases h4:400<(metR bs ss ⟨a,b,c,d,p,q,s,t⟩).2.1.length
  ·have hD:doE bs ss ⟨a,b,c,d,p,q,s,t⟩=4:=by unfold doE;rw[if_pos hC,if_pos h4]
   have HRF:=zAw hR2 (.slice none 0 0) (.slice none 0 0)
   have hg:=zAN W P (.slice none 0 0) (.slice none 0 0)
   have hPO:DoPostD bs ss ⟨a,b,c,d,p,q,s,t⟩ w (.returned (.tuple #[.agg #[.slice none 0 0,.slice none 0 0],.slice none 0 0,.int .i64 0,.iface 91 (.int .i64 4)])) ((W.setCell ⟨P,0,none⟩ (.slice none 0 0)).setCell ⟨P,1,none⟩ (.slice none 0 0)):=
    ⟨fun h=>by rw[hD] at h;omega,fun _=>by rw[hD];rfl,HW2.out.grown hg HW2.out.size (fun k hk=>by cases hk;have:=HP.out;omega)⟩
   have HHX:Hid (((W.setCell ⟨P,0,none⟩ (.slice none 0 0)).setCell ⟨P,1,none⟩ (.slice none 0 0)).heap[P]?=some (.cells #[.slice none 0 0,.slice none 0 0] 46 (0,0))):=HRF
   have h4z:(400:Int)<((metR bs ss ⟨a,b,c,d,p,q,s,t⟩).2.1.length:Int):=by omega
   generalize (metR bs ss ⟨a,b,c,d,p,q,s,t⟩).2.1.length=tl at *
   generalize (metR bs ss ⟨a,b,c,d,p,q,s,t⟩).2.2=lf at *
   clear HRF hg hR2 zf hRG HD1 HD2 HOT hD hC hR1 hR0
   go_wp2_with fail
   generalize ((W.setCell ⟨P,0,none⟩ (.slice none 0 0)).setCell ⟨P,1,none⟩ (.slice none 0 0))=Z at *
   obtain⟨r0,r1,-⟩:=zAb HHX.out
   exact jN (v:=.tuple #[.agg #[.slice none 0 0,.slice none 0 0],.slice none 0 0,.int .i64 0,.iface 91 (.int .i64 4)]) (by simp[results,Tryz.results67,go_sem,r0,r1]) rfl hPO
  ·have hD:doE bs ss ⟨a,b,c,d,p,q,s,t⟩=0:=by unfold doE;rw[if_pos hC,if_neg h4]
   have HRF:=zAw hR2 (.slice u1 m1 k1) (.slice u2 m2 k2)
   have hg:=zAN W P (.slice u1 m1 k1) (.slice u2 m2 k2)
   have hPO:DoPostD bs ss ⟨a,b,c,d,p,q,s,t⟩ w (.returned (.tuple #[.agg #[.slice u1 m1 k1,.slice u2 m2 k2],.slice tq (metR bs ss ⟨a,b,c,d,p,q,s,t⟩).2.1.length tc,.int .i64 (metR bs ss ⟨a,b,c,d,p,q,s,t⟩).2.2,.nilIface])) ((W.setCell ⟨P,0,none⟩ (.slice u1 m1 k1)).setCell ⟨P,1,none⟩ (.slice u2 m2 k2)):=
    ⟨fun _=>⟨u1,u2,m1,m2,k1,k2,_,rfl,(DL.other HD1.out hg hPV).mono HB.out.size,(DL.other HD2.out hg hPV).mono HB.out.size,OwnM.mono (zAj HOT.out hg (fun z hz e=>by cases e;have:=(OwnM.lt HOT.out P hz).1;omega)) HB.out.size⟩,fun h=>absurd hD h,HW2.out.grown hg HW2.out.size (fun k hk=>by cases hk;have:=HP.out;omega)⟩
   have HHX:Hid (((W.setCell ⟨P,0,none⟩ (.slice u1 m1 k1)).setCell ⟨P,1,none⟩ (.slice u2 m2 k2)).heap[P]?=some (.cells #[.slice u1 m1 k1,.slice u2 m2 k2] 46 (0,0))):=HRF
   have h4z:¬(400:Int)<((metR bs ss ⟨a,b,c,d,p,q,s,t⟩).2.1.length:Int):=by omega
   have HPO:Hid (DoPostD bs ss ⟨a,b,c,d,p,q,s,t⟩ w (.returned (.tuple #[.agg #[.slice u1 m1 k1,.slice u2 m2 k2],.slice tq (metR bs ss ⟨a,b,c,d,p,q,s,t⟩).2.1.length tc,.int .i64 (metR bs ss ⟨a,b,c,d,p,q,s,t⟩).2.2,.nilIface])) ((W.setCell ⟨P,0,none⟩ (.slice u1 m1 k1)).setCell ⟨P,1,none⟩ (.slice u2 m2 k2))):=hPO
   clear hPO HRF hg hR2 zf hRG HD1 HD2 HOT hD hC hR1 hR0
   generalize (metR bs ss ⟨a,b,c,d,p,q,s,t⟩).2.1.length=tl at *
   generalize (metR bs ss ⟨a,b,c,d,p,q,s,t⟩).2.2=lf at *
   go_wp2_with fail
   generalize ((W.setCell ⟨P,0,none⟩ (.slice u1 m1 k1)).setCell ⟨P,1,none⟩ (.slice u2 m2 k2))=Z at *
   obtain⟨r0,r1,-⟩:=zAb HHX.out
   exact jN (v:=.tuple #[.agg #[.slice u1 m1 k1,.slice u2 m2 k2],.slice tq tl tc,.int .i64 lf,.nilIface]) (by simp[results,Tryz.results67,go_sem,r0,r1]) rfl HPO.out
 ·have e2:=i2 hC
  subst e2
  have hD:doE bs ss ⟨a,b,c,d,p,q,s,t⟩=zAu bs ss ⟨a,b,c,d,p,q,s,t⟩:=by unfold doE;rw[if_neg hC]
  have hBa:Below w1.heap.size w1 (w1.alloc (.cells #[.slice none 0 0,.slice none 0 0] 46)):=(bzR _ _).alloc (nzR _) _
  have hR2:(w1.alloc (.cells #[.slice none 0 0,.slice none 0 0] 46)).heap[P]?=some (.cells #[.slice none 0 0,.slice none 0 0] 46 (0,0)):=(hBa.block P hP1).trans hR1
  have HW2:Hid (Below w.heap.size w (w1.alloc (.cells #[.slice none 0 0,.slice none 0 0] 46))):=HW1.out.trans (hBa.mono HW1.out.size)
  rw[errV_of hC]
  clear i1 i2 b1 hBa HTK
  go_upto_region 2 with fail
  generalize w1.alloc (.cells #[.slice none 0 0,.slice none 0 0] 46)=W at *
  generalize w1.heap.size=G at *
  obtain⟨z0,z1,zf⟩:=zAb hR2
  have zf0:=zf 0
  have zf1:=zf 1
  have HRF:=zAw hR2 (.slice none 0 0) (.slice none 0 0)
  have hg:=zAN W P (.slice none 0 0) (.slice none 0 0)
  have hPO:DoPostD bs ss ⟨a,b,c,d,p,q,s,t⟩ w (.returned (.tuple #[.agg #[.slice none 0 0,.slice none 0 0],.slice none 0 0,.int .i64 0,.iface 91 (.int .i64 (zAu bs ss ⟨a,b,c,d,p,q,s,t⟩))])) ((W.setCell ⟨P,0,none⟩ (.slice none 0 0)).setCell ⟨P,1,none⟩ (.slice none 0 0)):=
   ⟨fun h=>by rw[hD] at h;exact absurd h hC,fun _=>by rw[hD,errV_of hC],HW2.out.grown hg HW2.out.size (fun k hk=>by cases hk;have:=HP.out;omega)⟩
  have HHX:Hid (((W.setCell ⟨P,0,none⟩ (.slice none 0 0)).setCell ⟨P,1,none⟩ (.slice none 0 0)).heap[P]?=some (.cells #[.slice none 0 0,.slice none 0 0] 46 (0,0))):=HRF
  have HPO:Hid (DoPostD bs ss ⟨a,b,c,d,p,q,s,t⟩ w (.returned (.tuple #[.agg #[.slice none 0 0,.slice none 0 0],.slice none 0 0,.int .i64 0,.iface 91 (.int .i64 (zAu bs ss ⟨a,b,c,d,p,q,s,t⟩))])) ((W.setCell ⟨P,0,none⟩ (.slice none 0 0)).setCell ⟨P,1,none⟩ (.slice none 0 0))):=hPO
  clear hPO HRF hg hR2 zf hD hR1 hR0
  go_wp2_with fail
  generalize ((W.setCell ⟨P,0,none⟩ (.slice none 0 0)).setCell ⟨P,1,none⟩ (.slice none 0 0))=Z at *
  obtain⟨r0,r1,-⟩:=zAb HHX.out
  exact jN (v:=.tuple #[.agg #[.slice none 0 0,.slice none 0 0],.slice none 0 0,.int .i64 0,.iface 91 (.int .i64 (zAu bs ss ⟨a,b,c,d,p,q,s,t⟩))]) (by simp[results,Tryz.results67,go_sem,r0,r1]) rfl HPO.out
end mee
namespace mee
open Go.RowKit spn que sid bok
open ord (O oV mB mE chk zAx)
open tickP (zAm zAz zBt betR)
theorem zNl{s a b:Int}(hs:zAz s=true):zAU s a b=true↔(zAm a=true∧zAm b=true)∧ahd s a b:=by
 simp[zAz] at hs
 unfold zAU betR zBt ahd
 rcases hs with rfl|rfl
 ·have e:wrap64 (3 - 1)=2:=by unfold wrap64;omega
  rw[e]
  simp[zAz]
 ·have e:wrap64 (3 - 2)=1:=by unfold wrap64;omega
  rw[e]
  simp[zAz]
theorem zII{s a b c:Int}(hs:zAz s=true)(h1:zAU s a b=true)(h2:zAU s b c=true):zAU s a c=true:=by
 rw[zNl hs] at *
 exact⟨⟨h1.1.1,h2.1.2⟩,zFZ h1.2 h2.2⟩
theorem zFh{s a:Int}{prev:Option Int}{t:List L}(hs:zAz s=true)(h:sgo s (some a) t=0)(hp:zCf s prev a=true):sgo s prev t=0:=by
 cases t with
 | nil=>cases prev <;>rfl
 | cons x t=>
  obtain⟨h1,h2,h3⟩:=zBa h
  refine zEC h1 ?_ h3
  cases prev with
  | none=>rfl
  | some y=>exact zII hs hp h2
theorem zKy{o:O}{s:Int}(hs:zAz s=true):∀ (ls:List L) (q:Int) (prev:Option Int),0≤q→sgo s prev ls=0→sgo s prev (tkl o ls q).1=0:=by
 intro ls
 induction ls with
 | nil=>intro q prev _ h;exact h
 | cons l t ih=>
  intro q prev hq h
  obtain⟨h1,h2,h3⟩:=zBa h
  by_cases hc:0<q∧mB o l.price=true
  ·obtain⟨f1,f2,f3,f4,f5,f6,f7⟩:=zCF (zAg h1).2.2 (q:=q) (by omega)
   rcases zDK (t:=t) hc.1 hc.2 h1 with ⟨he,e⟩|⟨he,hz,e⟩
   ·rw[e]
    exact ih _ prev (by omega) (zFh hs h3 h2)
   ·rw[e]
    exact zEC (zCP (zDc h1) he f4) h2 h3
  ·rw[zDL hc];exact h
theorem zPK{k:Int}{r:R}{t:List R}:∀x∈tk1 k r t,x.id=r.id∨x∈t:=by
 intro x hx
 unfold tk1 at hx
 split at hx
 ·rcases List.mem_cons.1 hx with rfl|hx
  ·exact .inl rfl
  ·exact .inr hx
 ·split at hx
  ·exact .inr hx
  ·rcases List.mem_append.1 hx with hx|hx
   ·exact .inr hx
   ·simp at hx;subst hx;exact .inl rfl
theorem zNm(m:Nat):∀ (n:Int) (zs:List R),n≤m→que.Good zs→0≤n→∀x∈(take n zs).2,x.id∈zs.map (·.id):=by
 induction m with
 | zero=>
  intro n zs hn _ h0 x hx
  rw[zBY n zs (by omega)] at hx
  exact List.mem_map.2 ⟨x,hx,rfl⟩
 | succ m ih=>
  intro n zs hn hg h0 x hx
  by_cases hn0:n≤0
  ·rw[zBY n zs hn0] at hx
   exact List.mem_map.2 ⟨x,hx,rfl⟩
  ·cases zs with
   | nil=>rw[take_nil] at hx;cases hx
   | cons r t=>
    have hr:=zAt (hg.1 r (by simp))
    rw[zCW n r t (by omega) hg] at hx
    simp only[] at hx
    have hg2:=(zBO (k:=min n r.qty) hg (by omega) (by omega)).1
    have h:=ih (n - min n r.qty) _ (by omega) hg2 (by omega) x hx
    obtain⟨y,hy,e⟩:=List.mem_map.1 h
    rw[←e]
    rcases zPK y hy with h1|h1
    ·rw[h1];simp
    ·exact List.mem_map.2 ⟨y,by simp[h1],rfl⟩
theorem zFi{o:O}:∀ (ls:List L) (q:Int),0≤q→(∀l∈ls,lchk l=0)→(∀i∈(allR (tkl o ls q).1).map (·.id),i∈(allR ls).map (·.id))∧(((allR ls).map (·.id)).Nodup→((allR (tkl o ls q).1).map (·.id)).Nodup)∧(allR (tkl o ls q).1).length≤(allR ls).length∧(∀x∈(tkl o ls q).1,∃l∈ls,l.price=x.price):=by
 intro ls
 induction ls with
 | nil=>intro q _ _;exact⟨fun i hi=>hi,fun h=>h,nzR _,fun x hx=>by cases hx⟩
 | cons l t ih=>
  intro q hq hg
  by_cases hc:0<q∧mB o l.price=true
  ·have hl:=hg l (by simp)
   obtain⟨f1,f2,f3,f4,f5,f6,f7⟩:=zCF (zAg hl).2.2 (q:=q) (by omega)
   obtain⟨h60,hgd⟩:=(zAl l.rests).1 (zAg hl).2.2
   rcases zDK (t:=t) hc.1 hc.2 hl with ⟨he,e⟩|⟨he,hz,e⟩
   ·obtain⟨i1,i2,i3,i4⟩:=ih (q - sum (take q l.rests).1) (by omega) (fun x hx=>hg x (by simp[hx]))
    rw[e,zAp]
    simp only[jF,jE]
    refine⟨fun i hi=>List.mem_append.2 (.inr (i1 i hi)),fun h=>i2 (List.nodup_append.1 h).2.1,by omega,fun x hx=>?_⟩
    obtain⟨l',h1,h2⟩:=i4 x hx
    exact⟨l',by simp[h1],h2⟩
   ·obtain⟨g1,g2,-,-,-,-,-,-⟩:=zEz q.toNat q l.rests (by omega) hgd (by omega)
    have hsub:=zNm q.toNat q l.rests (by omega) hgd (by omega)
    rw[e,zAp,zAp]
    simp only[jF,jE]
    refine⟨fun i hi=>?_,fun h=>?_,by omega,fun x hx=>?_⟩
    ·rcases List.mem_append.1 hi with hi|hi
     ·obtain⟨y,hy,rfl⟩:=List.mem_map.1 hi
      exact List.mem_append.2 (.inl (hsub y hy))
     ·exact List.mem_append.2 (.inr hi)
    ·obtain⟨n1,n2,n3⟩:=List.nodup_append.1 h
     refine List.nodup_append.2 ⟨g1.2,n2,fun a ha b hb=>?_⟩
     obtain⟨y,hy,rfl⟩:=List.mem_map.1 ha
     exact n3 _ (hsub y hy) b hb
    ·rcases List.mem_cons.1 hx with rfl|hx
     ·exact⟨l,by simp,rfl⟩
     ·exact⟨x,by simp[hx],rfl⟩
  ·rw[zDL hc]
   exact⟨fun i hi=>hi,fun h=>h,nzR _,fun x hx=>⟨x,hx,rfl⟩⟩
theorem zDM{ls:List L}(h:ls≠[]):∃l∈ls,zCi ls=l.price:=by
 cases ls with
 | nil=>exact absurd rfl h
 | cons l t=>exact⟨l,by simp,rfl⟩
theorem zCI{s:Int}{ls:List L}(hp:ls.Pairwise fun a b=>ahd s a.price b.price){l:L}(hl:l∈ls):zCi ls=l.price∨ahd s (zCi ls) l.price:=by
 cases ls with
 | nil=>cases hl
 | cons x t=>
  rcases List.mem_cons.1 hl with rfl|hl
  ·exact .inl rfl
  ·exact .inr ((List.pairwise_cons.1 hp).1 l hl)
theorem zHK{o:O}{s:Int}{ls:List L}{q:Int}(hq:0≤q)(h:schk s ls=0):schk s (tkl o ls q).1=0:=by
 obtain⟨z1,z2,z3,z4⟩:=zAc h
 have hE:=zAs z2
 obtain⟨i1,i2,i3,i4⟩:=zFi (o:=o) ls q hq hE
 refine zDY z1 (zKy z1 ls q none hq z2) ?_ (by rw[zCh] at *;exact i2 z4)
 rw[zAQ] at *
 omega
theorem zNn{bs ss:List L}{o:O}(h:zAu bs ss o=0):zAd (metB bs ss o) (metS bs ss o)=0:=by
 obtain⟨hb,hc,-,-⟩:=zAG h
 obtain⟨e1,e2,e3,e4,e5⟩:=zAf hb
 have hq:=zKw hc
 have hE1:=zAs (zAc e1).2.1
 have hE2:=zAs (zAc e2).2.1
 have hp1:=(zFg (zAc e1).1 bs none (zAc e1).2.1).1
 have hp2:=(zFg (zAc e2).1 ss none (zAc e2).2.1).1
 unfold zAL at e4
 simp only[decide_eq_false_iff_not,Classical.not_not] at e4
 rw[jF] at e4
 obtain⟨n1,n2,n3⟩:=List.nodup_append.1 e4
 rw[jE] at e5
 unfold metB metS metR zAr
 by_cases hs:o.side=1
 ·simp only[if_pos hs]
  obtain⟨i1,i2,i3,i4⟩:=zFi (o:=o) ss o.qty (by omega) hE2
  have k2:=zHK (o:=o) (q:=o.qty) (by omega) e2
  generalize (tkl o ss o.qty).1=S' at *
  unfold zAd
  rw[if_pos e1,if_pos k2,if_neg,if_neg,if_neg]
  ·rw[jE];omega
  ·unfold zAL
   simp only[decide_eq_true_eq,Classical.not_not]
   rw[jF]
   exact List.nodup_append.2 ⟨n1,i2 n2,fun a ha b hb=>n3 a ha b (i1 b hb)⟩
  ·intro hx
   unfold zBr at hx e3
   simp only[Bool.and_eq_true,Bool.not_eq_true',List.isEmpty_eq_false_iff,decide_eq_true_eq] at hx
   obtain⟨x1,x2,x3⟩:=hx
   obtain⟨l',hl',e'⟩:=zDM x2
   obtain⟨l,hl,el⟩:=i4 l' hl'
   have hne:ss≠[]:=fun e=>by rw[e] at hl;cases hl
   have hb2:=zCI hp2 hl
   simp only[Bool.and_eq_false_iff,Bool.not_eq_false',List.isEmpty_iff,decide_eq_false_iff_not] at e3
   rcases e3 with e|e|e
   ·exact x1 e
   ·exact hne e
   ·unfold ahd at hb2
    simp at hb2
    omega
 ·simp only[if_neg hs]
  obtain⟨i1,i2,i3,i4⟩:=zFi (o:=o) bs o.qty (by omega) hE1
  have k1:=zHK (o:=o) (q:=o.qty) (by omega) e1
  generalize (tkl o bs o.qty).1=B' at *
  unfold zAd
  rw[if_pos k1,if_pos e2,if_neg,if_neg,if_neg]
  ·rw[jE];omega
  ·unfold zAL
   simp only[decide_eq_true_eq,Classical.not_not]
   rw[jF]
   exact List.nodup_append.2 ⟨i2 n1,n2,fun a ha b hb=>n3 a (i1 a ha) b hb⟩
  ·intro hx
   unfold zBr at hx e3
   simp only[Bool.and_eq_true,Bool.not_eq_true',List.isEmpty_eq_false_iff,decide_eq_true_eq] at hx
   obtain⟨x1,x2,x3⟩:=hx
   obtain⟨l',hl',e'⟩:=zDM x1
   obtain⟨l,hl,el⟩:=i4 l' hl'
   have hne:bs≠[]:=fun e=>by rw[e] at hl;cases hl
   have hb2:=zCI hp1 hl
   simp only[Bool.and_eq_false_iff,Bool.not_eq_false',List.isEmpty_iff,decide_eq_false_iff_not] at e3
   rcases e3 with e|e|e
   ·exact hne e
   ·exact x2 e
   ·unfold ahd at hb2
    simp at hb2
    omega
end mee
namespace mee
open Go.RowKit spn que sid
open ord (O mB chk)
def zAC(p:Int)(z:List R)(t:List L):List L:=if z=[] then t else ⟨p,z⟩::t
theorem zBg{r:R}{rs:List R}(h:qchk (r::rs)=0):1≤r.qty∧r.qty≤10000:=by
 obtain⟨-,hg⟩:=(zAl _).1 h
 exact(zAt (hg.1 r (by simp))).1
theorem zIJ{q:Int}{r:R}{rs:List R}(h:0<q)(hg:qchk (r::rs)=0):qchk (tk1 (min q r.qty) r rs)=0∧tot (tk1 (min q r.qty) r rs)=tot (r::rs) - min q r.qty:=by
 have hp:=zBg hg
 obtain⟨h60,hgg⟩:=(zAl _).1 hg
 obtain⟨a,b,c⟩:=zBO hgg (show 1≤min q r.qty by omega) (by omega)
 exact⟨(zAl _).2 ⟨by omega,a⟩,b⟩
theorem zBs{q p:Int}{r:R}{rs:List R}{t:List L}(h:0<q)(hl:∀l∈(⟨p,r::rs⟩::t:List L),lchk l=0):∀l∈zAC p (tk1 (min q r.qty) r rs) t,lchk l=0:=by
 have h1:lchk ⟨p,r::rs⟩=0:=hl _ (by simp)
 obtain⟨hp,-,hq⟩:=zAg h1
 have hz:=(zIJ h hq).1
 intro l hm
 unfold zAC at hm
 by_cases e:tk1 (min q r.qty) r rs=[]
 ·rw[if_pos e] at hm;exact hl l (by simp[hm])
 ·rw[if_neg e] at hm
  rcases List.mem_cons.1 hm with rfl|hm
  ·exact zCP (by show (decide _ && decide _)=true;simp;exact hp) e hz
  ·exact hl l (by simp[hm])
theorem zFj{o:O}{p q:Int}{r:R}{rs:List R}{t:List L}(h:0<q)(hm:mB o p=true)(hg:qchk (r::rs)=0) :
  tkl o (⟨p,r::rs⟩::t) q=((tkl o (zAC p (tk1 (min q r.qty) r rs) t) (q - min q r.qty)).1,trd o p ⟨r.id,r.who,min q r.qty⟩::(tkl o (zAC p (tk1 (min q r.qty) r rs) t) (q - min q r.qty)).2.1,(tkl o (zAC p (tk1 (min q r.qty) r rs) t) (q - min q r.qty)).2.2):=by
 have hp:=zBg hg
 have hgg:=((zAl _).1 hg).2
 have hc:=zCW q r rs h hgg
 generalize hk:min q r.qty=k at *
 have hkp:1≤k∧k≤q:=by omega
 generalize tk1 k r rs=z at *
 unfold zAC
 by_cases hz:z=[]
 ·subst hz
  rw[take_nil] at hc
  rw[if_pos rfl,zCY h hm (by rw[hc])]
  simp only[hc]
  have e:q - sum [⟨r.id,r.who,k⟩]=q - k:=by simp[sum]
  rw[e]
  rfl
 ·rw[if_neg hz]
  by_cases h0:q - k≤0
  ·rw[zBY _ _ h0] at hc
   rw[zCZ h hm (by rw[hc];exact hz),zAZ h0]
   simp only[hc]
   have e:q - sum [⟨r.id,r.who,k⟩]=q - k:=by simp[sum]
   rw[e]
   rfl
  ·have hs:∀S:List F,q - sum (⟨r.id,r.who,k⟩::S)=q - k - sum S:=fun S=>by simp only[sum];omega
   by_cases he:(take (q - k) z).2=[]
   ·rw[zCY (l:=⟨p,z⟩) (by omega) hm he,zCY h hm (by rw[hc];exact he)]
    simp only[hc,hs]
    rfl
   ·rw[zCZ (l:=⟨p,z⟩) (by omega) hm he,zCZ h hm (by rw[hc];exact he)]
    simp only[hc,hs]
    rfl
end mee
end Go.Proofs.YtifjhlgjgnnnpaaGreat
