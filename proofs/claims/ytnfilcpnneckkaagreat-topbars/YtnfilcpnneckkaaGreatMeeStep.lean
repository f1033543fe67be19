import Derived.Test.YtnfilcpnneckkaaGreatMeeDo
namespace Go.Proofs.YtnfilcpnneckkaaGreat
open Tryz
namespace mee
open Go.RowKit spn que sid
open ord (O mB chk)
open tickP (zAo zAB zBA betR)
def sumT:List T→Int
 | []=>0
 | t::r=>t.qty+sumT r
theorem zCO(a b:List T):sumT (a++b)=sumT a+sumT b:=by
 induction a with
 | nil=>simp[sumT]
 | cons x t ih=>simp only[List.cons_append,sumT,ih];omega
theorem zIt(o:O)(p:Int)(fs:List F):sumT (fs.map (trd o p))=sum fs:=by
 induction fs with
 | nil=>rfl
 | cons x t ih=>
  simp only[jK,sumT,sum,ih];have:(trd o p x).qty=x.qty:=by unfold trd;split <;>rfl
  rw[this]
def totL:List L→Int
 | []=>0
 | l::t=>tot l.rests+totL t
theorem zDM{o:O}{l:L}{t:List L}{q:Int}(h:0<q)(hm:mB o l.price=true)(hl:lchk l=0) :
  (((take q l.rests).2=[]∧tkl o (l::t) q=((tkl o t (q - sum (take q l.rests).1)).1,(take q l.rests).1.map (trd o l.price)++(tkl o t (q - sum (take q l.rests).1)).2.1,(tkl o t (q - sum (take q l.rests).1)).2.2))∨
   (¬(take q l.rests).2=[]∧q - sum (take q l.rests).1=0∧tkl o (l::t) q=(⟨l.price,(take q l.rests).2⟩::t,(take q l.rests).1.map (trd o l.price),q - sum (take q l.rests).1))):=by
 by_cases he:(take q l.rests).2=[]
 ·exact .inl ⟨he,zCW h hm he⟩
 ·exact .inr ⟨he,zGt (zAf hl).2.2 (by omega) he,zCX h hm he⟩
theorem zDN{o:O}{l:L}{t:List L}{q:Int}(h:¬(0<q∧mB o l.price=true)):tkl o (l::t) q=(l::t,[],q):=by
 by_cases hq:0<q
 ·exact zFw (by
   cases hm:mB o l.price with
   | false=>rfl
   | true=>exact absurd ⟨hq,hm⟩ h)
 ·exact zBa (by omega)
theorem zQG{o:O}:∀ (ls:List L) (q:Int),0≤q→(∀l∈ls,lchk l=0)→sumT (tkl o ls q).2.1+(tkl o ls q).2.2=q∧0≤(tkl o ls q).2.2∧0≤sumT (tkl o ls q).2.1∧((tkl o ls q).2.1.length:Int)≤sumT (tkl o ls q).2.1∧totL (tkl o ls q).1+sumT (tkl o ls q).2.1=totL ls:=by
 intro ls;induction ls with
 | nil=>intro q h _;simp[tkl,sumT];exact h
 | cons l t ih=>
  intro q h hg;by_cases hc:0<q∧mB o l.price=true
  ·have hl:=hg l (by simp)
   obtain⟨f1,f2,f3,f4,f5,f6,f7⟩:=zCC (zAf hl).2.2 (q:=q) (by omega)
   rcases zDM (t:=t) hc.1 hc.2 hl with ⟨he,e⟩|⟨he,hz,e⟩
   ·obtain⟨i1,i2,i3,i4,i5⟩:=ih (q - sum (take q l.rests).1) (by omega) (fun x hx=>hg x (by simp[hx]))
    rw[e];simp only[zCO,zIt,jE,jP,totL];rw[he] at f7;simp only[tot] at f7;refine⟨by omega,i2,by omega,by omega,by omega⟩
   ·rw[e];simp only[zIt,jP,totL];refine⟨by omega,by omega,f2,f3,by omega⟩
  ·rw[zDN hc];simp[sumT];exact h
def ahd(s:Int)(a b:Int):Prop:=if s=1 then b<a else a<b
theorem zOa{s a b:Int}(hs:zAB s=true)(h:zAX s a b=true):ahd s a b:=by
 simp[zAB] at hs;unfold zAX betR at h;unfold ahd;rcases hs with rfl|rfl
 ·have e:wrap64 (3 - 1)=2:=by unfold wrap64;omega
  rw[e] at h;simp at h;simp;exact h.2
 ·have e:wrap64 (3 - 2)=1:=by unfold wrap64;omega
  rw[e] at h;simp at h;simp;exact h.2
theorem zGF{s a b c:Int}(h1:ahd s a b)(h2:ahd s b c):ahd s a c:=by
 unfold ahd at *;split at h1 <;>simp_all <;>omega
theorem zFE{s:Int}(hs:zAB s=true):∀ (ls:List L) (prev:Option Int),sgo s prev ls=0→(ls.Pairwise fun a b=>ahd s a.price b.price)∧∀x,prev=some x→∀l∈ls,ahd s x l.price:=by
 intro ls;induction ls with
 | nil=>intro prev _;exact⟨List.Pairwise.nil,fun x _ l hl=>by cases hl⟩
 | cons l t ih=>
  intro prev h;obtain⟨h1,h2,h3⟩:=zBb h;obtain⟨i1,i2⟩:=ih (some l.price) h3;refine⟨List.pairwise_cons.2 ⟨fun b hb=>i2 _ rfl b hb,i1⟩,fun x hx b hb=>?_⟩
  subst hx;have G7:ahd s x l.price:=zOa hs h2;rcases List.mem_cons.1 hb with rfl|hb
  ·exact G7
  ·exact zGF G7 (i2 _ rfl b hb)
end mee
namespace mee
open Go.RowKit spn que sid bok
open ord (O oV mB mE chk zAy)
theorem wAp{bs ss:List L}{o:O}(h:zAc bs ss=0):∀l∈zAr bs ss o,lchk l=0:=by
 obtain⟨e1,e2,-⟩:=zAh h;unfold zAr;split
 ·exact zAs (zAe e2).2.1
 ·exact zAs (zAe e1).2.1
theorem zLp{o:O}(h:chk o=0):1≤o.qty∧o.qty≤10000:=by
 obtain⟨-,-,h3,-,-⟩:=ord.zBC h;simp[ord.qtyB] at h3;exact⟨h3.1.1.1,h3.1.1.2⟩
def doE(bs ss:List L)(o:O):Int:=if zAu bs ss o=0 then (if 400<(metR bs ss o).2.1.length then 4 else 0) else zAu bs ss o
def DoPostD(bs ss:List L)(o:O)(w:World)(e:Ending)(w' : World):Prop:=
 (doE bs ss o=0→∃q1 q2 n1 n2 c1 c2 tv,e=.returned (.tuple #[.agg #[.slice q1 n1 c1,.slice q2 n2 c2],tv,.int .i64 (metR bs ss o).2.2,.nilIface])∧DL w' w.heap.size (.slice q1 n1 c1) (metB bs ss o)∧DL w' w.heap.size (.slice q2 n2 c2) (metS bs ss o)∧OwnT w' w.heap.size tv (metR bs ss o).2.1)∧
 (¬doE bs ss o=0→e=.returned (.tuple #[.agg #[.slice none 0 0,.slice none 0 0],.slice none 0 0,.int .i64 0,errV (doE bs ss o)]))∧Bw w w'
set_option maxRecDepth 100000 in
set_option maxHeartbeats 4000000 in
theorem zLq(q1 q2:Option Addr)(n1 n2 c1 c2:Nat)(bs ss:List L)(a b c d p q s t:Int)(w:World)(h1:LS w (.slice q1 n1 c1) bs)(h2:LS w (.slice q2 n2 c2) ss) :
  Calls prog 24 #[.agg #[.slice q1 n1 c1,.slice q2 n2 c2],.agg #[.int .i64 a,.int .i64 b,.int .i64 c,.int .i64 d,.int .i64 p,.int .i64 q,.int .i64 s,.int .i64 t]] w fun e w'=>DoPostD bs ss ⟨a,b,c,d,p,q,s,t⟩ w e w':=by
 obtain⟨V2,gl⟩:∃V2,V2=(w.alloc (.cells #[.slice q1 n1 c1,.slice q2 n2 c2] 57)).alloc (.cells #[.int .i64 a,.int .i64 b,.int .i64 c,.int .i64 d,.int .i64 p,.int .i64 q,.int .i64 s,.int .i64 t] 34):=⟨_,rfl⟩;have H9:V2.heap.size=w.heap.size+2:=by rw[gl];simp
 have gG:Below w.heap.size w V2:=by rw[gl];exact((bzR _ _).alloc (nzR _) _).alloc (by simp) _
 obtain⟨V,hV⟩:∃V,V=V2.alloc (.cells #[.slice none 0 0,.slice none 0 0] 57):=⟨_,rfl⟩;have gc:Below V2.heap.size V2 V:=by rw[hV];exact(bzR _ _).alloc (nzR _) _
 have HB:Hid (Below w.heap.size w V):=gG.trans (gc.mono gG.size);have GL:V.heap[V2.heap.size]?=some (.cells #[.slice none 0 0,.slice none 0 0] 57 (0,0)):=by rw[hV];exact jA V2 _
 obtain⟨P,hP⟩:∃P,P=w.heap.size+2:=⟨_,rfl⟩;rw[show V2.heap.size=P by rw[H9,hP]] at GL
 have HP:Hid (P=w.heap.size+2):=hP;have Ua:Hid (Calls prog 47 #[.agg #[.slice q1 n1 c1,.slice q2 n2 c2],.agg #[.int .i64 a,.int .i64 b,.int .i64 c,.int .i64 d,.int .i64 p,.int .i64 q,.int .i64 s,.int .i64 t]] V fun e w'=>TakePost bs ss ⟨a,b,c,d,p,q,s,t⟩ V e w'):=zNZ q1 q2 n1 n2 c1 c2 bs ss a b c d p q s t V (h1.below HB.out) (h2.below HB.out)
 have gV:P<V.heap.size:=(gzE.1 GL).1;clear h1 h2 H9 gG gc;go_enter func24,ntmps24;go_wp2_with fail;rw[←gl,←hV];simp only[←hP];clear gl hV hP;refine Ua.out.mono ?_;rintro e w1⟨i1,i2,b1⟩;have go:Hid (Below w.heap.size w w1):=HB.out.trans (b1.mono HB.out.size);have gh:w1.heap[P]?=some (.cells #[.slice none 0 0,.slice none 0 0] 57 (0,0)):=(b1.block P gV).trans GL;have ux:P<w1.heap.size:=(gzE.1 gh).1;by_cases hC:zAu bs ss ⟨a,b,c,d,p,q,s,t⟩=0
 ·obtain⟨u1,u2,m1,m2,k1,k2,tv,rfl,D1,D2,OT⟩:=i1 hC;obtain⟨tq,tc,bX⟩:=OwnM.form OT;subst bX;have Ht:Below w1.heap.size w1 (w1.alloc (.cells #[.slice u1 m1 k1,.slice u2 m2 k2] 57)):=(bzR _ _).alloc (nzR _) _;have gw:(w1.alloc (.cells #[.slice u1 m1 k1,.slice u2 m2 k2] 57)).heap[P]?=some (.cells #[.slice none 0 0,.slice none 0 0] 57 (0,0)):=(Ht.block P ux).trans gh;have UR:(w1.alloc (.cells #[.slice u1 m1 k1,.slice u2 m2 k2] 57)).heap[w1.heap.size]?=some (.cells #[.slice u1 m1 k1,.slice u2 m2 k2] 57 (0,0)):=jA w1 _;have uV:Hid (DL (w1.alloc (.cells #[.slice u1 m1 k1,.slice u2 m2 k2] 57)) V.heap.size (.slice u1 m1 k1) (metB bs ss ⟨a,b,c,d,p,q,s,t⟩)):=D1.below Ht;have ut:Hid (DL (w1.alloc (.cells #[.slice u1 m1 k1,.slice u2 m2 k2] 57)) V.heap.size (.slice u2 m2 k2) (metS bs ss ⟨a,b,c,d,p,q,s,t⟩)):=D2.below Ht
  have mJ:Hid (OwnT (w1.alloc (.cells #[.slice u1 m1 k1,.slice u2 m2 k2] 57)) V.heap.size (.slice tq (metR bs ss ⟨a,b,c,d,p,q,s,t⟩).2.1.length tc) (metR bs ss ⟨a,b,c,d,p,q,s,t⟩).2.1):=OwnM.below OT Ht;have H6:Hid (Below w.heap.size w (w1.alloc (.cells #[.slice u1 m1 k1,.slice u2 m2 k2] 57))):=go.out.trans (Ht.mono go.out.size);clear i1 i2 b1 D1 D2 OT Ht Ua;go_upto_region 2 with fail
  generalize w1.alloc (.cells #[.slice u1 m1 k1,.slice u2 m2 k2] 57)=W at *;generalize w1.heap.size=G at *;obtain⟨g0,g1,-⟩:=zAb UR;obtain⟨z0,z1,zf⟩:=zAb gw;have zf0:=zf 0;have zf1:=zf 1;have HPV:Hid (P<V.heap.size):=gV;by_cases h4:400<(metR bs ss ⟨a,b,c,d,p,q,s,t⟩).2.1.length
  ·have hD:doE bs ss ⟨a,b,c,d,p,q,s,t⟩=4:=by unfold doE;rw[if_pos hC,if_pos h4]
   have Gc:=zAz gw (.slice none 0 0) (.slice none 0 0);have hg:=zAT W P (.slice none 0 0) (.slice none 0 0);have gD:DoPostD bs ss ⟨a,b,c,d,p,q,s,t⟩ w (.returned (.tuple #[.agg #[.slice none 0 0,.slice none 0 0],.slice none 0 0,.int .i64 0,.iface 90 (.int .i64 4)])) ((W.setCell ⟨P,0,none⟩ (.slice none 0 0)).setCell ⟨P,1,none⟩ (.slice none 0 0)):=
    ⟨fun h=>by rw[hD] at h;omega,fun _=>by rw[hD];rfl,H6.out.grown hg H6.out.size (fun k hk=>by cases hk;have:=HP.out;omega)⟩
   have Hx:Hid (((W.setCell ⟨P,0,none⟩ (.slice none 0 0)).setCell ⟨P,1,none⟩ (.slice none 0 0)).heap[P]?=some (.cells #[.slice none 0 0,.slice none 0 0] 57 (0,0))):=Gc;have bq:(400:Int)<((metR bs ss ⟨a,b,c,d,p,q,s,t⟩).2.1.length:Int):=by omega
   generalize (metR bs ss ⟨a,b,c,d,p,q,s,t⟩).2.1.length=tl at *;generalize (metR bs ss ⟨a,b,c,d,p,q,s,t⟩).2.2=lf at *;clear Gc hg gw zf UR uV ut mJ hD hC gh GL;go_wp2_with fail;generalize ((W.setCell ⟨P,0,none⟩ (.slice none 0 0)).setCell ⟨P,1,none⟩ (.slice none 0 0))=Z at *;obtain⟨r0,r1,-⟩:=zAb Hx.out;exact jN (v:=.tuple #[.agg #[.slice none 0 0,.slice none 0 0],.slice none 0 0,.int .i64 0,.iface 90 (.int .i64 4)]) (by simp[results,results24,go_sem,r0,r1]) rfl gD
  ·have hD:doE bs ss ⟨a,b,c,d,p,q,s,t⟩=0:=by unfold doE;rw[if_pos hC,if_neg h4]
   have Gc:=zAz gw (.slice u1 m1 k1) (.slice u2 m2 k2);have hg:=zAT W P (.slice u1 m1 k1) (.slice u2 m2 k2);have gD:DoPostD bs ss ⟨a,b,c,d,p,q,s,t⟩ w (.returned (.tuple #[.agg #[.slice u1 m1 k1,.slice u2 m2 k2],.slice tq (metR bs ss ⟨a,b,c,d,p,q,s,t⟩).2.1.length tc,.int .i64 (metR bs ss ⟨a,b,c,d,p,q,s,t⟩).2.2,.nilIface])) ((W.setCell ⟨P,0,none⟩ (.slice u1 m1 k1)).setCell ⟨P,1,none⟩ (.slice u2 m2 k2)):=
    ⟨fun _=>⟨u1,u2,m1,m2,k1,k2,_,rfl,(DL.other uV.out hg gV).mono HB.out.size,(DL.other ut.out hg gV).mono HB.out.size,OwnM.mono (zAm mJ.out hg (fun z hz e=>by cases e;have:=(OwnM.lt mJ.out P hz).1;omega)) HB.out.size⟩,fun h=>absurd hD h,H6.out.grown hg H6.out.size (fun k hk=>by cases hk;have:=HP.out;omega)⟩
   have Hx:Hid (((W.setCell ⟨P,0,none⟩ (.slice u1 m1 k1)).setCell ⟨P,1,none⟩ (.slice u2 m2 k2)).heap[P]?=some (.cells #[.slice u1 m1 k1,.slice u2 m2 k2] 57 (0,0))):=Gc;have bq:¬(400:Int)<((metR bs ss ⟨a,b,c,d,p,q,s,t⟩).2.1.length:Int):=by omega
   have Hz:Hid (DoPostD bs ss ⟨a,b,c,d,p,q,s,t⟩ w (.returned (.tuple #[.agg #[.slice u1 m1 k1,.slice u2 m2 k2],.slice tq (metR bs ss ⟨a,b,c,d,p,q,s,t⟩).2.1.length tc,.int .i64 (metR bs ss ⟨a,b,c,d,p,q,s,t⟩).2.2,.nilIface])) ((W.setCell ⟨P,0,none⟩ (.slice u1 m1 k1)).setCell ⟨P,1,none⟩ (.slice u2 m2 k2))):=gD;clear gD Gc hg gw zf UR uV ut mJ hD hC gh GL;generalize (metR bs ss ⟨a,b,c,d,p,q,s,t⟩).2.1.length=tl at *;generalize (metR bs ss ⟨a,b,c,d,p,q,s,t⟩).2.2=lf at *;go_wp2_with fail;generalize ((W.setCell ⟨P,0,none⟩ (.slice u1 m1 k1)).setCell ⟨P,1,none⟩ (.slice u2 m2 k2))=Z at *;obtain⟨r0,r1,-⟩:=zAb Hx.out;exact jN (v:=.tuple #[.agg #[.slice u1 m1 k1,.slice u2 m2 k2],.slice tq tl tc,.int .i64 lf,.nilIface]) (by simp[results,results24,go_sem,r0,r1]) rfl Hz.out
 ·have e2:=i2 hC;subst e2;have hD:doE bs ss ⟨a,b,c,d,p,q,s,t⟩=zAu bs ss ⟨a,b,c,d,p,q,s,t⟩:=by unfold doE;rw[if_neg hC]
  have Ht:Below w1.heap.size w1 (w1.alloc (.cells #[.slice none 0 0,.slice none 0 0] 57)):=(bzR _ _).alloc (nzR _) _;have gw:(w1.alloc (.cells #[.slice none 0 0,.slice none 0 0] 57)).heap[P]?=some (.cells #[.slice none 0 0,.slice none 0 0] 57 (0,0)):=(Ht.block P ux).trans gh;have H6:Hid (Below w.heap.size w (w1.alloc (.cells #[.slice none 0 0,.slice none 0 0] 57))):=go.out.trans (Ht.mono go.out.size);rw[wAb hC];clear i1 i2 b1 Ht Ua;go_upto_region 2 with fail
  generalize w1.alloc (.cells #[.slice none 0 0,.slice none 0 0] 57)=W at *;generalize w1.heap.size=G at *;obtain⟨z0,z1,zf⟩:=zAb gw;have zf0:=zf 0;have zf1:=zf 1;have Gc:=zAz gw (.slice none 0 0) (.slice none 0 0);have hg:=zAT W P (.slice none 0 0) (.slice none 0 0);have gD:DoPostD bs ss ⟨a,b,c,d,p,q,s,t⟩ w (.returned (.tuple #[.agg #[.slice none 0 0,.slice none 0 0],.slice none 0 0,.int .i64 0,.iface 90 (.int .i64 (zAu bs ss ⟨a,b,c,d,p,q,s,t⟩))])) ((W.setCell ⟨P,0,none⟩ (.slice none 0 0)).setCell ⟨P,1,none⟩ (.slice none 0 0)):=
   ⟨fun h=>by rw[hD] at h;exact absurd h hC,fun _=>by rw[hD,wAb hC],H6.out.grown hg H6.out.size (fun k hk=>by cases hk;have:=HP.out;omega)⟩
  have Hx:Hid (((W.setCell ⟨P,0,none⟩ (.slice none 0 0)).setCell ⟨P,1,none⟩ (.slice none 0 0)).heap[P]?=some (.cells #[.slice none 0 0,.slice none 0 0] 57 (0,0))):=Gc;have Hz:Hid (DoPostD bs ss ⟨a,b,c,d,p,q,s,t⟩ w (.returned (.tuple #[.agg #[.slice none 0 0,.slice none 0 0],.slice none 0 0,.int .i64 0,.iface 90 (.int .i64 (zAu bs ss ⟨a,b,c,d,p,q,s,t⟩))])) ((W.setCell ⟨P,0,none⟩ (.slice none 0 0)).setCell ⟨P,1,none⟩ (.slice none 0 0))):=gD;clear gD Gc hg gw zf hD gh GL;go_wp2_with fail;generalize ((W.setCell ⟨P,0,none⟩ (.slice none 0 0)).setCell ⟨P,1,none⟩ (.slice none 0 0))=Z at *;obtain⟨r0,r1,-⟩:=zAb Hx.out;exact jN (v:=.tuple #[.agg #[.slice none 0 0,.slice none 0 0],.slice none 0 0,.int .i64 0,.iface 90 (.int .i64 (zAu bs ss ⟨a,b,c,d,p,q,s,t⟩))]) (by simp[results,results24,go_sem,r0,r1]) rfl Hz.out
end mee
namespace mee
open Go.RowKit spn que sid bok
open ord (O oV mB mE chk zAy)
open tickP (zAo zAB zBA betR)
theorem zOb{s a b:Int}(hs:zAB s=true):zAX s a b=true↔(zAo a=true∧zAo b=true)∧ahd s a b:=by
 simp[zAB] at hs;unfold zAX betR zBA ahd;rcases hs with rfl|rfl
 ·have e:wrap64 (3 - 1)=2:=by unfold wrap64;omega
  rw[e];simp[zAB]
 ·have e:wrap64 (3 - 2)=1:=by unfold wrap64;omega
  rw[e];simp[zAB]
theorem zJt{s a b c:Int}(hs:zAB s=true)(h1:zAX s a b=true)(h2:zAX s b c=true):zAX s a c=true:=by
 rw[zOb hs] at *;exact⟨⟨h1.1.1,h2.1.2⟩,zGF h1.2 h2.2⟩
theorem zFF{s a:Int}{prev:Option Int}{t:List L}(hs:zAB s=true)(h:sgo s (some a) t=0)(hp:zCc s prev a=true):sgo s prev t=0:=by
 cases t with
 | nil=>cases prev <;>rfl
 | cons x t=>
  obtain⟨h1,h2,h3⟩:=zBb h;refine zFa h1 ?_ h3;cases prev with
  | none=>rfl
  | some y=>exact zJt hs hp h2
theorem zLr{o:O}{s:Int}(hs:zAB s=true):∀ (ls:List L) (q:Int) (prev:Option Int),0≤q→sgo s prev ls=0→sgo s prev (tkl o ls q).1=0:=by
 intro ls;induction ls with
 | nil=>intro q prev _ h;exact h
 | cons l t ih=>
  intro q prev hq h;obtain⟨h1,h2,h3⟩:=zBb h;by_cases hc:0<q∧mB o l.price=true
  ·obtain⟨f1,f2,f3,f4,f5,f6,f7⟩:=zCC (zAf h1).2.2 (q:=q) (by omega)
   rcases zDM (t:=t) hc.1 hc.2 h1 with ⟨he,e⟩|⟨he,hz,e⟩
   ·rw[e];exact ih _ prev (by omega) (zFF hs h3 h2)
   ·rw[e];exact zFa (zCM (zDa h1) he f4) h2 h3
  ·rw[zDN hc];exact h
theorem zQH{k:Int}{r:R}{t:List R}:∀x∈tk1 k r t,x.id=r.id∨x∈t:=by
 intro x hx;unfold tk1 at hx;split at hx
 ·rcases List.mem_cons.1 hx with rfl|hx
  ·exact .inl rfl
  ·exact .inr hx
 ·split at hx
  ·exact .inr hx
  ·rcases List.mem_append.1 hx with hx|hx
   ·exact .inr hx
   ·simp at hx;subst hx;exact .inl rfl
theorem zOc(m:Nat):∀ (n:Int) (zs:List R),n≤m→que.Good zs→0≤n→∀x∈(take n zs).2,x.id∈zs.map (·.id):=by
 induction m with
 | zero=>
  intro n zs hn _ h0 x hx;rw[zBT n zs (by omega)] at hx
  exact List.mem_map.2 ⟨x,hx,rfl⟩
 | succ m ih=>
  intro n zs hn hg h0 x hx;by_cases Pq:n≤0
  ·rw[zBT n zs Pq] at hx;exact List.mem_map.2 ⟨x,hx,rfl⟩
  ·cases zs with
   | nil=>rw[zDK] at hx;cases hx
   | cons r t=>
    have hr:=zAq (hg.1 r (by simp))
    rw[zCU n r t (by omega) hg] at hx
    simp only[] at hx;have Ge:=(zBN (k:=min n r.qty) hg (by omega) (by omega)).1
    have h:=ih (n - min n r.qty) _ (by omega) Ge (by omega) x hx
    obtain⟨y,hy,e⟩:=List.mem_map.1 h;rw[←e];rcases zQH y hy with h1|h1
    ·rw[h1];simp
    ·exact List.mem_map.2 ⟨y,by simp[h1],rfl⟩
theorem zFG{o:O}:∀ (ls:List L) (q:Int),0≤q→(∀l∈ls,lchk l=0)→(∀i∈(allR (tkl o ls q).1).map (·.id),i∈(allR ls).map (·.id))∧(((allR ls).map (·.id)).Nodup→((allR (tkl o ls q).1).map (·.id)).Nodup)∧(allR (tkl o ls q).1).length≤(allR ls).length∧(∀x∈(tkl o ls q).1,∃l∈ls,l.price=x.price):=by
 intro ls;induction ls with
 | nil=>intro q _ _;exact⟨fun i hi=>hi,fun h=>h,nzR _,fun x hx=>by cases hx⟩
 | cons l t ih=>
  intro q hq hg;by_cases hc:0<q∧mB o l.price=true
  ·have hl:=hg l (by simp)
   obtain⟨f1,f2,f3,f4,f5,f6,f7⟩:=zCC (zAf hl).2.2 (q:=q) (by omega)
   obtain⟨GF,M5⟩:=(zAn l.rests).1 (zAf hl).2.2;rcases zDM (t:=t) hc.1 hc.2 hl with ⟨he,e⟩|⟨he,hz,e⟩
   ·obtain⟨i1,i2,i3,i4⟩:=ih (q - sum (take q l.rests).1) (by omega) (fun x hx=>hg x (by simp[hx]))
    rw[e,zAp];simp only[jF,jE];refine⟨fun i hi=>List.mem_append.2 (.inr (i1 i hi)),fun h=>i2 (List.nodup_append.1 h).2.1,by omega,fun x hx=>?_⟩
    obtain⟨l',h1,h2⟩:=i4 x hx;exact⟨l',by simp[h1],h2⟩
   ·obtain⟨g1,g2,-,-,-,-,-,-⟩:=zEW q.toNat q l.rests (by omega) M5 (by omega)
    have me:=zOc q.toNat q l.rests (by omega) M5 (by omega)
    rw[e,zAp,zAp];simp only[jF,jE];refine⟨fun i hi=>?_,fun h=>?_,by omega,fun x hx=>?_⟩
    ·rcases List.mem_append.1 hi with hi|hi
     ·obtain⟨y,hy,rfl⟩:=List.mem_map.1 hi;exact List.mem_append.2 (.inl (me y hy))
     ·exact List.mem_append.2 (.inr hi)
    ·obtain⟨n1,n2,n3⟩:=List.nodup_append.1 h;refine List.nodup_append.2 ⟨g1.2,n2,fun a ha b hb=>?_⟩
     obtain⟨y,hy,rfl⟩:=List.mem_map.1 ha;exact n3 _ (me y hy) b hb
    ·rcases List.mem_cons.1 hx with rfl|hx
     ·exact⟨l,by simp,rfl⟩
     ·exact⟨x,by simp[hx],rfl⟩
  ·rw[zDN hc];exact⟨fun i hi=>hi,fun h=>h,nzR _,fun x hx=>⟨x,hx,rfl⟩⟩
theorem zDO{ls:List L}(h:ls≠[]):∃l∈ls,zCe ls=l.price:=by
 cases ls with
 | nil=>exact absurd rfl h
 | cons l t=>exact⟨l,by simp,rfl⟩
theorem zCF{s:Int}{ls:List L}(hp:ls.Pairwise fun a b=>ahd s a.price b.price){l:L}(hl:l∈ls):zCe ls=l.price∨ahd s (zCe ls) l.price:=by
 cases ls with
 | nil=>cases hl
 | cons x t=>
  rcases List.mem_cons.1 hl with rfl|hl
  ·exact .inl rfl
  ·exact .inr ((List.pairwise_cons.1 hp).1 l hl)
theorem zIu{o:O}{s:Int}{ls:List L}{q:Int}(hq:0≤q)(h:schk s ls=0):schk s (tkl o ls q).1=0:=by
 obtain⟨z1,z2,z3,z4⟩:=zAe h;have hE:=zAs z2;obtain⟨i1,i2,i3,i4⟩:=zFG (o:=o) ls q hq hE;refine zEa z1 (zLr z1 ls q none hq z2) ?_ (by rw[zBf] at *;exact i2 z4)
 rw[zAQ] at *;omega
theorem zOd{bs ss:List L}{o:O}(h:zAu bs ss o=0):zAc (metB bs ss o) (metS bs ss o)=0:=by
 obtain⟨hb,hc,-,-⟩:=zAG h;obtain⟨e1,e2,e3,e4,e5⟩:=zAh hb;have hq:=zLp hc;have hE1:=zAs (zAe e1).2.1;have hE2:=zAs (zAe e2).2.1;have hp1:=(zFE (zAe e1).1 bs none (zAe e1).2.1).1;have hp2:=(zFE (zAe e2).1 ss none (zAe e2).2.1).1;unfold zAM at e4;simp only[decide_eq_false_iff_not,Classical.not_not] at e4;rw[jF] at e4;obtain⟨n1,n2,n3⟩:=List.nodup_append.1 e4;rw[jE] at e5;unfold metB metS metR zAr;by_cases hs:o.side=1
 ·simp only[if_pos hs];obtain⟨i1,i2,i3,i4⟩:=zFG (o:=o) ss o.qty (by omega) hE2
  have k2:=zIu (o:=o) (q:=o.qty) (by omega) e2
  generalize (tkl o ss o.qty).1=S' at *;unfold zAc;rw[if_pos e1,if_pos k2,if_neg,if_neg,if_neg]
  ·rw[jE];omega
  ·unfold zAM;simp only[decide_eq_true_eq,Classical.not_not];rw[jF];exact List.nodup_append.2 ⟨n1,i2 n2,fun a ha b hb=>n3 a ha b (i1 b hb)⟩
  ·intro hx;unfold zBv at hx e3;simp only[Bool.and_eq_true,Bool.not_eq_true',List.isEmpty_eq_false_iff,decide_eq_true_eq] at hx;obtain⟨x1,x2,x3⟩:=hx;obtain⟨l',BP,e'⟩:=zDO x2;obtain⟨l,hl,el⟩:=i4 l' BP;have H8:ss≠[]:=fun e=>by rw[e] at hl;cases hl
   have Ha:=zCF hp2 hl;simp only[Bool.and_eq_false_iff,Bool.not_eq_false',List.isEmpty_iff,decide_eq_false_iff_not] at e3;rcases e3 with e|e|e
   ·exact x1 e
   ·exact H8 e
   ·unfold ahd at Ha;simp at Ha;omega
 ·simp only[if_neg hs];obtain⟨i1,i2,i3,i4⟩:=zFG (o:=o) bs o.qty (by omega) hE1
  have k1:=zIu (o:=o) (q:=o.qty) (by omega) e1
  generalize (tkl o bs o.qty).1=B' at *;unfold zAc;rw[if_pos k1,if_pos e2,if_neg,if_neg,if_neg]
  ·rw[jE];omega
  ·unfold zAM;simp only[decide_eq_true_eq,Classical.not_not];rw[jF];exact List.nodup_append.2 ⟨i2 n1,n2,fun a ha b hb=>n3 a (i1 a ha) b hb⟩
  ·intro hx;unfold zBv at hx e3;simp only[Bool.and_eq_true,Bool.not_eq_true',List.isEmpty_eq_false_iff,decide_eq_true_eq] at hx;obtain⟨x1,x2,x3⟩:=hx;obtain⟨l',BP,e'⟩:=zDO x1;obtain⟨l,hl,el⟩:=i4 l' BP;have H8:bs≠[]:=fun e=>by rw[e] at hl;cases hl
   have Ha:=zCF hp1 hl;simp only[Bool.and_eq_false_iff,Bool.not_eq_false',List.isEmpty_iff,decide_eq_false_iff_not] at e3;rcases e3 with e|e|e
   ·exact H8 e
   ·exact x2 e
   ·unfold ahd at Ha;simp at Ha;omega
end mee
namespace mee
open Go.RowKit spn que sid
open ord (O mB chk)
def zAw(p:Int)(z:List R)(t:List L):List L:=if z=[] then t else ⟨p,z⟩::t
theorem zBi{r:R}{rs:List R}(h:qchk (r::rs)=0):1≤r.qty∧r.qty≤10000:=by
 obtain⟨-,hg⟩:=(zAn _).1 h;exact(zAq (hg.1 r (by simp))).1
theorem zJu{q:Int}{r:R}{rs:List R}(h:0<q)(hg:qchk (r::rs)=0):qchk (tk1 (min q r.qty) r rs)=0∧tot (tk1 (min q r.qty) r rs)=tot (r::rs) - min q r.qty:=by
 have hp:=zBi hg;obtain⟨GF,Hu⟩:=(zAn _).1 hg;obtain⟨a,b,c⟩:=zBN Hu (show 1≤min q r.qty by omega) (by omega)
 exact⟨(zAn _).2 ⟨by omega,a⟩,b⟩
theorem zBj{q p:Int}{r:R}{rs:List R}{t:List L}(h:0<q)(hl:∀l∈(⟨p,r::rs⟩::t:List L),lchk l=0):∀l∈zAw p (tk1 (min q r.qty) r rs) t,lchk l=0:=by
 have h1:lchk ⟨p,r::rs⟩=0:=hl _ (by simp)
 obtain⟨hp,-,hq⟩:=zAf h1;have hz:=(zJu h hq).1;intro l hm;unfold zAw at hm;by_cases e:tk1 (min q r.qty) r rs=[]
 ·rw[if_pos e] at hm;exact hl l (by simp[hm])
 ·rw[if_neg e] at hm;rcases List.mem_cons.1 hm with rfl|hm
  ·exact zCM (by show (decide _ && decide _)=true;simp;exact hp) e hz
  ·exact hl l (by simp[hm])
theorem zFH{o:O}{p q:Int}{r:R}{rs:List R}{t:List L}(h:0<q)(hm:mB o p=true)(hg:qchk (r::rs)=0) :
  tkl o (⟨p,r::rs⟩::t) q=((tkl o (zAw p (tk1 (min q r.qty) r rs) t) (q - min q r.qty)).1,trd o p ⟨r.id,r.who,min q r.qty⟩::(tkl o (zAw p (tk1 (min q r.qty) r rs) t) (q - min q r.qty)).2.1,(tkl o (zAw p (tk1 (min q r.qty) r rs) t) (q - min q r.qty)).2.2):=by
 have hp:=zBi hg;have Hu:=((zAn _).1 hg).2;have hc:=zCU q r rs h Hu;generalize hk:min q r.qty=k at *;have M7:1≤k∧k≤q:=by omega
 generalize tk1 k r rs=z at *;unfold zAw;by_cases hz:z=[]
 ·subst hz;rw[zDK] at hc;rw[if_pos rfl,zCW h hm (by rw[hc])]
  simp only[hc];have e:q - sum [⟨r.id,r.who,k⟩]=q - k:=by simp[sum]
  rw[e];rfl
 ·rw[if_neg hz];by_cases h0:q - k≤0
  ·rw[zBT _ _ h0] at hc;rw[zCX h hm (by rw[hc];exact hz),zBa h0]
   simp only[hc];have e:q - sum [⟨r.id,r.who,k⟩]=q - k:=by simp[sum]
   rw[e];rfl
  ·have hs:∀S:List F,q - sum (⟨r.id,r.who,k⟩::S)=q - k - sum S:=fun S=>by simp only[sum];omega
   by_cases he:(take (q - k) z).2=[]
   ·rw[zCW (l:=⟨p,z⟩) (by omega) hm he,zCW h hm (by rw[hc];exact he)]
    simp only[hc,hs];rfl
   ·rw[zCX (l:=⟨p,z⟩) (by omega) hm he,zCX h hm (by rw[hc];exact he)]
    simp only[hc,hs];rfl
end mee
end Go.Proofs.YtnfilcpnneckkaaGreat
