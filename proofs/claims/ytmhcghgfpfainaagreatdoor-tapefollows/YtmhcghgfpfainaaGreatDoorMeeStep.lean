import Derived.Test.YtmhcghgfpfainaaGreatDoorMeeDo
namespace Go.Proofs.YtmhcghgfpfainaaGreatDoor
open Tryz
namespace mee
open Go.RowKit spn que sid
open ord (O mB chk)
open tickP (zAn zAB zBy betR)
def sumT:List T→Int
 | []=>0
 | t::r=>t.qty+sumT r
theorem zCN(a b:List T):sumT (a++b)=sumT a+sumT b:=by
 induction a with
 | nil=>simp[sumT]
 | cons x t ih=>simp only[List.cons_append,sumT,ih];omega
theorem zIG(o:O)(p:Int)(fs:List F):sumT (fs.map (trd o p))=sum fs:=by
 induction fs with
 | nil=>rfl
 | cons x t ih=>
  simp only[jK,sumT,sum,ih];have:(trd o p x).qty=x.qty:=by unfold trd;split <;>rfl
  rw[this]
def totL:List L→Int
 | []=>0
 | l::t=>tot l.rests+totL t
theorem zDO{o:O}{l:L}{t:List L}{q:Int}(h:0<q)(hm:mB o l.price=true)(hl:lchk l=0) :
  (((take q l.rests).2=[]∧tkl o (l::t) q=((tkl o t (q - sum (take q l.rests).1)).1,(take q l.rests).1.map (trd o l.price)++(tkl o t (q - sum (take q l.rests).1)).2.1,(tkl o t (q - sum (take q l.rests).1)).2.2))∨
   (¬(take q l.rests).2=[]∧q - sum (take q l.rests).1=0∧tkl o (l::t) q=(⟨l.price,(take q l.rests).2⟩::t,(take q l.rests).1.map (trd o l.price),q - sum (take q l.rests).1))):=by
 by_cases he:(take q l.rests).2=[]
 ·exact .inl ⟨he,zCU h hm he⟩
 ·exact .inr ⟨he,zGz (zAh hl).2.2 (by omega) he,zCV h hm he⟩
theorem zDP{o:O}{l:L}{t:List L}{q:Int}(h:¬(0<q∧mB o l.price=true)):tkl o (l::t) q=(l::t,[],q):=by
 by_cases hq:0<q
 ·exact zFA (by
   cases hm:mB o l.price with
   | false=>rfl
   | true=>exact absurd ⟨hq,hm⟩ h)
 ·exact zAZ (by omega)
theorem zQZ{o:O}:∀ (ls:List L) (q:Int),0≤q→(∀l∈ls,lchk l=0)→sumT (tkl o ls q).2.1+(tkl o ls q).2.2=q∧0≤(tkl o ls q).2.2∧0≤sumT (tkl o ls q).2.1∧((tkl o ls q).2.1.length:Int)≤sumT (tkl o ls q).2.1∧totL (tkl o ls q).1+sumT (tkl o ls q).2.1=totL ls:=by
 intro ls;induction ls with
 | nil=>intro q h _;simp[tkl,sumT];exact h
 | cons l t ih=>
  intro q h hg;by_cases hc:0<q∧mB o l.price=true
  ·have hl:=hg l (by simp)
   obtain⟨f1,f2,f3,f4,f5,f6,f7⟩:=zCA (zAh hl).2.2 (q:=q) (by omega)
   rcases zDO (t:=t) hc.1 hc.2 hl with ⟨he,e⟩|⟨he,hz,e⟩
   ·obtain⟨i1,i2,i3,i4,i5⟩:=ih (q - sum (take q l.rests).1) (by omega) (fun x hx=>hg x (by simp[hx]))
    rw[e];simp only[zCN,zIG,jE,jP,totL];rw[he] at f7;simp only[tot] at f7;refine⟨by omega,i2,by omega,by omega,by omega⟩
   ·rw[e];simp only[zIG,jP,totL];refine⟨by omega,by omega,f2,f3,by omega⟩
  ·rw[zDP hc];simp[sumT];exact h
def ahd(s:Int)(a b:Int):Prop:=if s=1 then b<a else a<b
theorem zOv{s a b:Int}(hs:zAB s=true)(h:zAX s a b=true):ahd s a b:=by
 simp[zAB] at hs;unfold zAX betR at h;unfold ahd;rcases hs with rfl|rfl
 ·have e:wrap64 (3 - 1)=2:=by unfold wrap64;omega
  rw[e] at h;simp at h;simp;exact h.2
 ·have e:wrap64 (3 - 2)=1:=by unfold wrap64;omega
  rw[e] at h;simp at h;simp;exact h.2
theorem zGM{s a b c:Int}(h1:ahd s a b)(h2:ahd s b c):ahd s a c:=by
 unfold ahd at *;split at h1 <;>simp_all <;>omega
theorem zFI{s:Int}(hs:zAB s=true):∀ (ls:List L) (prev:Option Int),sgo s prev ls=0→(ls.Pairwise fun a b=>ahd s a.price b.price)∧∀x,prev=some x→∀l∈ls,ahd s x l.price:=by
 intro ls;induction ls with
 | nil=>intro prev _;exact⟨List.Pairwise.nil,fun x _ l hl=>by cases hl⟩
 | cons l t ih=>
  intro prev h;obtain⟨h1,h2,h3⟩:=zBa h;obtain⟨i1,i2⟩:=ih (some l.price) h3;refine⟨List.pairwise_cons.2 ⟨fun b hb=>i2 _ rfl b hb,i1⟩,fun x hx b hb=>?_⟩
  subst hx;have ui:ahd s x l.price:=zOv hs h2;rcases List.mem_cons.1 hb with rfl|hb
  ·exact ui
  ·exact zGM ui (i2 _ rfl b hb)
end mee
namespace mee
open Go.RowKit spn que sid bok
open ord (O oV mB mE chk zAz)
theorem wAp{bs ss:List L}{o:O}(h:zAc bs ss=0):∀l∈zAr bs ss o,lchk l=0:=by
 obtain⟨e1,e2,-⟩:=zAe h;unfold zAr;split
 ·exact zAs (zAd e2).2.1
 ·exact zAs (zAd e1).2.1
theorem zLH{o:O}(h:chk o=0):1≤o.qty∧o.qty≤10000:=by
 obtain⟨-,-,h3,-,-⟩:=ord.zBB h;simp[ord.qtyB] at h3;exact⟨h3.1.1.1,h3.1.1.2⟩
def doE(bs ss:List L)(o:O):Int:=if zAt bs ss o=0 then (if 400<(metR bs ss o).2.1.length then 4 else 0) else zAt bs ss o
def DoPostD(bs ss:List L)(o:O)(w:World)(e:Ending)(w' : World):Prop:=
 (doE bs ss o=0→∃q1 q2 n1 n2 c1 c2 tv,e=.returned (.tuple #[.agg #[.slice q1 n1 c1,.slice q2 n2 c2],tv,.int .i64 (metR bs ss o).2.2,.nilIface])∧DL w' w.heap.size (.slice q1 n1 c1) (metB bs ss o)∧DL w' w.heap.size (.slice q2 n2 c2) (metS bs ss o)∧OwnT w' w.heap.size tv (metR bs ss o).2.1)∧
 (¬doE bs ss o=0→e=.returned (.tuple #[.agg #[.slice none 0 0,.slice none 0 0],.slice none 0 0,.int .i64 0,errV (doE bs ss o)]))∧Bw w w'
set_option maxRecDepth 100000 in
set_option maxHeartbeats 4000000 in
theorem zLI(q1 q2:Option Addr)(n1 n2 c1 c2:Nat)(bs ss:List L)(a b c d p q s t:Int)(w:World)(h1:LS w (.slice q1 n1 c1) bs)(h2:LS w (.slice q2 n2 c2) ss) :
  Calls prog 161 #[.agg #[.slice q1 n1 c1,.slice q2 n2 c2],.agg #[.int .i64 a,.int .i64 b,.int .i64 c,.int .i64 d,.int .i64 p,.int .i64 q,.int .i64 s,.int .i64 t]] w fun e w'=>DoPostD bs ss ⟨a,b,c,d,p,q,s,t⟩ w e w':=by
 obtain⟨V2,gl⟩:∃V2,V2=(w.alloc (.cells #[.slice q1 n1 c1,.slice q2 n2 c2] 50)).alloc (.cells #[.int .i64 a,.int .i64 b,.int .i64 c,.int .i64 d,.int .i64 p,.int .i64 q,.int .i64 s,.int .i64 t] 40):=⟨_,rfl⟩;have gd:V2.heap.size=w.heap.size+2:=by rw[gl];simp
 have gO:Below w.heap.size w V2:=by rw[gl];exact((bzR _ _).alloc (nzR _) _).alloc (by simp) _
 obtain⟨V,hV⟩:∃V,V=V2.alloc (.cells #[.slice none 0 0,.slice none 0 0] 50):=⟨_,rfl⟩;have gj:Below V2.heap.size V2 V:=by rw[hV];exact(bzR _ _).alloc (nzR _) _
 have HB:Hid (Below w.heap.size w V):=gO.trans (gj.mono gO.size);have GF:V.heap[V2.heap.size]?=some (.cells #[.slice none 0 0,.slice none 0 0] 50 (0,0)):=by rw[hV];exact jA V2 _
 obtain⟨P,hP⟩:∃P,P=w.heap.size+2:=⟨_,rfl⟩;rw[show V2.heap.size=P by rw[gd,hP]] at GF
 have HP:Hid (P=w.heap.size+2):=hP;have Ua:Hid (Calls prog 181 #[.agg #[.slice q1 n1 c1,.slice q2 n2 c2],.agg #[.int .i64 a,.int .i64 b,.int .i64 c,.int .i64 d,.int .i64 p,.int .i64 q,.int .i64 s,.int .i64 t]] V fun e w'=>TakePost bs ss ⟨a,b,c,d,p,q,s,t⟩ V e w'):=zOu q1 q2 n1 n2 c1 c2 bs ss a b c d p q s t V (h1.below HB.out) (h2.below HB.out)
 have gY:P<V.heap.size:=(gzE.1 GF).1;clear h1 h2 gd gO gj;go_enter func161,ntmps161;go_wp2_with fail;rw[←gl,←hV];simp only[←hP];clear gl hV hP;refine Ua.out.mono ?_;rintro e w1⟨i1,i2,b1⟩;have gq:Hid (Below w.heap.size w w1):=HB.out.trans (b1.mono HB.out.size);have gc:w1.heap[P]?=some (.cells #[.slice none 0 0,.slice none 0 0] 50 (0,0)):=(b1.block P gY).trans GF;have uy:P<w1.heap.size:=(gzE.1 gc).1;by_cases hC:zAt bs ss ⟨a,b,c,d,p,q,s,t⟩=0
 ·obtain⟨u1,u2,m1,m2,k1,k2,tv,rfl,D1,D2,OT⟩:=i1 hC;obtain⟨tq,tc,Bg⟩:=OwnM.form OT;subst Bg;have Hu:Below w1.heap.size w1 (w1.alloc (.cells #[.slice u1 m1 k1,.slice u2 m2 k2] 50)):=(bzR _ _).alloc (nzR _) _;have gv:(w1.alloc (.cells #[.slice u1 m1 k1,.slice u2 m2 k2] 50)).heap[P]?=some (.cells #[.slice none 0 0,.slice none 0 0] 50 (0,0)):=(Hu.block P uy).trans gc;have UU:(w1.alloc (.cells #[.slice u1 m1 k1,.slice u2 m2 k2] 50)).heap[w1.heap.size]?=some (.cells #[.slice u1 m1 k1,.slice u2 m2 k2] 50 (0,0)):=jA w1 _;have uU:Hid (DL (w1.alloc (.cells #[.slice u1 m1 k1,.slice u2 m2 k2] 50)) V.heap.size (.slice u1 m1 k1) (metB bs ss ⟨a,b,c,d,p,q,s,t⟩)):=D1.below Hu;have uu:Hid (DL (w1.alloc (.cells #[.slice u1 m1 k1,.slice u2 m2 k2] 50)) V.heap.size (.slice u2 m2 k2) (metS bs ss ⟨a,b,c,d,p,q,s,t⟩)):=D2.below Hu
  have PX:Hid (OwnT (w1.alloc (.cells #[.slice u1 m1 k1,.slice u2 m2 k2] 50)) V.heap.size (.slice tq (metR bs ss ⟨a,b,c,d,p,q,s,t⟩).2.1.length tc) (metR bs ss ⟨a,b,c,d,p,q,s,t⟩).2.1):=OwnM.below OT Hu;have H6:Hid (Below w.heap.size w (w1.alloc (.cells #[.slice u1 m1 k1,.slice u2 m2 k2] 50))):=gq.out.trans (Hu.mono gq.out.size);clear i1 i2 b1 D1 D2 OT Hu Ua;go_upto_region 2 with fail
  generalize w1.alloc (.cells #[.slice u1 m1 k1,.slice u2 m2 k2] 50)=W at *;generalize w1.heap.size=G at *;obtain⟨g0,g1,-⟩:=zAb UU;obtain⟨z0,z1,zf⟩:=zAb gv;have zf0:=zf 0;have zf1:=zf 1;have HPV:Hid (P<V.heap.size):=gY;by_cases h4:400<(metR bs ss ⟨a,b,c,d,p,q,s,t⟩).2.1.length
  ·have hD:doE bs ss ⟨a,b,c,d,p,q,s,t⟩=4:=by unfold doE;rw[if_pos hC,if_pos h4]
   have Gf:=zAx gv (.slice none 0 0) (.slice none 0 0);have hg:=zAN W P (.slice none 0 0) (.slice none 0 0);have gC:DoPostD bs ss ⟨a,b,c,d,p,q,s,t⟩ w (.returned (.tuple #[.agg #[.slice none 0 0,.slice none 0 0],.slice none 0 0,.int .i64 0,.iface 80 (.int .i64 4)])) ((W.setCell ⟨P,0,none⟩ (.slice none 0 0)).setCell ⟨P,1,none⟩ (.slice none 0 0)):=
    ⟨fun h=>by rw[hD] at h;omega,fun _=>by rw[hD];rfl,H6.out.grown hg H6.out.size (fun k hk=>by cases hk;have:=HP.out;omega)⟩
   have Hy:Hid (((W.setCell ⟨P,0,none⟩ (.slice none 0 0)).setCell ⟨P,1,none⟩ (.slice none 0 0)).heap[P]?=some (.cells #[.slice none 0 0,.slice none 0 0] 50 (0,0))):=Gf;have Cq:(400:Int)<((metR bs ss ⟨a,b,c,d,p,q,s,t⟩).2.1.length:Int):=by omega
   generalize (metR bs ss ⟨a,b,c,d,p,q,s,t⟩).2.1.length=tl at *;generalize (metR bs ss ⟨a,b,c,d,p,q,s,t⟩).2.2=lf at *;clear Gf hg gv zf UU uU uu PX hD hC gc GF;go_wp2_with fail;generalize ((W.setCell ⟨P,0,none⟩ (.slice none 0 0)).setCell ⟨P,1,none⟩ (.slice none 0 0))=Z at *;obtain⟨r0,r1,-⟩:=zAb Hy.out;exact jN (v:=.tuple #[.agg #[.slice none 0 0,.slice none 0 0],.slice none 0 0,.int .i64 0,.iface 80 (.int .i64 4)]) (by simp[results,results161,go_sem,r0,r1]) rfl gC
  ·have hD:doE bs ss ⟨a,b,c,d,p,q,s,t⟩=0:=by unfold doE;rw[if_pos hC,if_neg h4]
   have Gf:=zAx gv (.slice u1 m1 k1) (.slice u2 m2 k2);have hg:=zAN W P (.slice u1 m1 k1) (.slice u2 m2 k2);have gC:DoPostD bs ss ⟨a,b,c,d,p,q,s,t⟩ w (.returned (.tuple #[.agg #[.slice u1 m1 k1,.slice u2 m2 k2],.slice tq (metR bs ss ⟨a,b,c,d,p,q,s,t⟩).2.1.length tc,.int .i64 (metR bs ss ⟨a,b,c,d,p,q,s,t⟩).2.2,.nilIface])) ((W.setCell ⟨P,0,none⟩ (.slice u1 m1 k1)).setCell ⟨P,1,none⟩ (.slice u2 m2 k2)):=
    ⟨fun _=>⟨u1,u2,m1,m2,k1,k2,_,rfl,(DL.other uU.out hg gY).mono HB.out.size,(DL.other uu.out hg gY).mono HB.out.size,OwnM.mono (zAl PX.out hg (fun z hz e=>by cases e;have:=(OwnM.lt PX.out P hz).1;omega)) HB.out.size⟩,fun h=>absurd hD h,H6.out.grown hg H6.out.size (fun k hk=>by cases hk;have:=HP.out;omega)⟩
   have Hy:Hid (((W.setCell ⟨P,0,none⟩ (.slice u1 m1 k1)).setCell ⟨P,1,none⟩ (.slice u2 m2 k2)).heap[P]?=some (.cells #[.slice u1 m1 k1,.slice u2 m2 k2] 50 (0,0))):=Gf;have Cq:¬(400:Int)<((metR bs ss ⟨a,b,c,d,p,q,s,t⟩).2.1.length:Int):=by omega
   have Hz:Hid (DoPostD bs ss ⟨a,b,c,d,p,q,s,t⟩ w (.returned (.tuple #[.agg #[.slice u1 m1 k1,.slice u2 m2 k2],.slice tq (metR bs ss ⟨a,b,c,d,p,q,s,t⟩).2.1.length tc,.int .i64 (metR bs ss ⟨a,b,c,d,p,q,s,t⟩).2.2,.nilIface])) ((W.setCell ⟨P,0,none⟩ (.slice u1 m1 k1)).setCell ⟨P,1,none⟩ (.slice u2 m2 k2))):=gC;clear gC Gf hg gv zf UU uU uu PX hD hC gc GF;generalize (metR bs ss ⟨a,b,c,d,p,q,s,t⟩).2.1.length=tl at *;generalize (metR bs ss ⟨a,b,c,d,p,q,s,t⟩).2.2=lf at *;go_wp2_with fail;generalize ((W.setCell ⟨P,0,none⟩ (.slice u1 m1 k1)).setCell ⟨P,1,none⟩ (.slice u2 m2 k2))=Z at *;obtain⟨r0,r1,-⟩:=zAb Hy.out;exact jN (v:=.tuple #[.agg #[.slice u1 m1 k1,.slice u2 m2 k2],.slice tq tl tc,.int .i64 lf,.nilIface]) (by simp[results,results161,go_sem,r0,r1]) rfl Hz.out
 ·have e2:=i2 hC;subst e2;have hD:doE bs ss ⟨a,b,c,d,p,q,s,t⟩=zAt bs ss ⟨a,b,c,d,p,q,s,t⟩:=by unfold doE;rw[if_neg hC]
  have Hu:Below w1.heap.size w1 (w1.alloc (.cells #[.slice none 0 0,.slice none 0 0] 50)):=(bzR _ _).alloc (nzR _) _;have gv:(w1.alloc (.cells #[.slice none 0 0,.slice none 0 0] 50)).heap[P]?=some (.cells #[.slice none 0 0,.slice none 0 0] 50 (0,0)):=(Hu.block P uy).trans gc;have H6:Hid (Below w.heap.size w (w1.alloc (.cells #[.slice none 0 0,.slice none 0 0] 50))):=gq.out.trans (Hu.mono gq.out.size);rw[wAb hC];clear i1 i2 b1 Hu Ua;go_upto_region 2 with fail
  generalize w1.alloc (.cells #[.slice none 0 0,.slice none 0 0] 50)=W at *;generalize w1.heap.size=G at *;obtain⟨z0,z1,zf⟩:=zAb gv;have zf0:=zf 0;have zf1:=zf 1;have Gf:=zAx gv (.slice none 0 0) (.slice none 0 0);have hg:=zAN W P (.slice none 0 0) (.slice none 0 0);have gC:DoPostD bs ss ⟨a,b,c,d,p,q,s,t⟩ w (.returned (.tuple #[.agg #[.slice none 0 0,.slice none 0 0],.slice none 0 0,.int .i64 0,.iface 80 (.int .i64 (zAt bs ss ⟨a,b,c,d,p,q,s,t⟩))])) ((W.setCell ⟨P,0,none⟩ (.slice none 0 0)).setCell ⟨P,1,none⟩ (.slice none 0 0)):=
   ⟨fun h=>by rw[hD] at h;exact absurd h hC,fun _=>by rw[hD,wAb hC],H6.out.grown hg H6.out.size (fun k hk=>by cases hk;have:=HP.out;omega)⟩
  have Hy:Hid (((W.setCell ⟨P,0,none⟩ (.slice none 0 0)).setCell ⟨P,1,none⟩ (.slice none 0 0)).heap[P]?=some (.cells #[.slice none 0 0,.slice none 0 0] 50 (0,0))):=Gf;have Hz:Hid (DoPostD bs ss ⟨a,b,c,d,p,q,s,t⟩ w (.returned (.tuple #[.agg #[.slice none 0 0,.slice none 0 0],.slice none 0 0,.int .i64 0,.iface 80 (.int .i64 (zAt bs ss ⟨a,b,c,d,p,q,s,t⟩))])) ((W.setCell ⟨P,0,none⟩ (.slice none 0 0)).setCell ⟨P,1,none⟩ (.slice none 0 0))):=gC;clear gC Gf hg gv zf hD gc GF;go_wp2_with fail;generalize ((W.setCell ⟨P,0,none⟩ (.slice none 0 0)).setCell ⟨P,1,none⟩ (.slice none 0 0))=Z at *;obtain⟨r0,r1,-⟩:=zAb Hy.out;exact jN (v:=.tuple #[.agg #[.slice none 0 0,.slice none 0 0],.slice none 0 0,.int .i64 0,.iface 80 (.int .i64 (zAt bs ss ⟨a,b,c,d,p,q,s,t⟩))]) (by simp[results,results161,go_sem,r0,r1]) rfl Hz.out
end mee
namespace mee
open Go.RowKit spn que sid bok
open ord (O oV mB mE chk zAz)
open tickP (zAn zAB zBy betR)
theorem zOw{s a b:Int}(hs:zAB s=true):zAX s a b=true↔(zAn a=true∧zAn b=true)∧ahd s a b:=by
 simp[zAB] at hs;unfold zAX betR zBy ahd;rcases hs with rfl|rfl
 ·have e:wrap64 (3 - 1)=2:=by unfold wrap64;omega
  rw[e];simp[zAB]
 ·have e:wrap64 (3 - 2)=1:=by unfold wrap64;omega
  rw[e];simp[zAB]
theorem zJL{s a b c:Int}(hs:zAB s=true)(h1:zAX s a b=true)(h2:zAX s b c=true):zAX s a c=true:=by
 rw[zOw hs] at *;exact⟨⟨h1.1.1,h2.1.2⟩,zGM h1.2 h2.2⟩
theorem zFJ{s a:Int}{prev:Option Int}{t:List L}(hs:zAB s=true)(h:sgo s (some a) t=0)(hp:zCb s prev a=true):sgo s prev t=0:=by
 cases t with
 | nil=>cases prev <;>rfl
 | cons x t=>
  obtain⟨h1,h2,h3⟩:=zBa h;refine zFd h1 ?_ h3;cases prev with
  | none=>rfl
  | some y=>exact zJL hs hp h2
theorem zLJ{o:O}{s:Int}(hs:zAB s=true):∀ (ls:List L) (q:Int) (prev:Option Int),0≤q→sgo s prev ls=0→sgo s prev (tkl o ls q).1=0:=by
 intro ls;induction ls with
 | nil=>intro q prev _ h;exact h
 | cons l t ih=>
  intro q prev hq h;obtain⟨h1,h2,h3⟩:=zBa h;by_cases hc:0<q∧mB o l.price=true
  ·obtain⟨f1,f2,f3,f4,f5,f6,f7⟩:=zCA (zAh h1).2.2 (q:=q) (by omega)
   rcases zDO (t:=t) hc.1 hc.2 h1 with ⟨he,e⟩|⟨he,hz,e⟩
   ·rw[e];exact ih _ prev (by omega) (zFJ hs h3 h2)
   ·rw[e];exact zFd (zCL (zCY h1) he f4) h2 h3
  ·rw[zDP hc];exact h
theorem zRa{k:Int}{r:R}{t:List R}:∀x∈tk1 k r t,x.id=r.id∨x∈t:=by
 intro x hx;unfold tk1 at hx;split at hx
 ·rcases List.mem_cons.1 hx with rfl|hx
  ·exact .inl rfl
  ·exact .inr hx
 ·split at hx
  ·exact .inr hx
  ·rcases List.mem_append.1 hx with hx|hx
   ·exact .inr hx
   ·simp at hx;subst hx;exact .inl rfl
theorem zOx(m:Nat):∀ (n:Int) (zs:List R),n≤m→que.Good zs→0≤n→∀x∈(take n zs).2,x.id∈zs.map (·.id):=by
 induction m with
 | zero=>
  intro n zs hn _ h0 x hx;rw[zBT n zs (by omega)] at hx
  exact List.mem_map.2 ⟨x,hx,rfl⟩
 | succ m ih=>
  intro n zs hn hg h0 x hx;by_cases ba:n≤0
  ·rw[zBT n zs ba] at hx;exact List.mem_map.2 ⟨x,hx,rfl⟩
  ·cases zs with
   | nil=>rw[zDM] at hx;cases hx
   | cons r t=>
    have hr:=zAp (hg.1 r (by simp))
    rw[zCS n r t (by omega) hg] at hx
    simp only[] at hx;have Gb:=(zBM (k:=min n r.qty) hg (by omega) (by omega)).1
    have h:=ih (n - min n r.qty) _ (by omega) Gb (by omega) x hx
    obtain⟨y,hy,e⟩:=List.mem_map.1 h;rw[←e];rcases zRa y hy with h1|h1
    ·rw[h1];simp
    ·exact List.mem_map.2 ⟨y,by simp[h1],rfl⟩
theorem zFK{o:O}:∀ (ls:List L) (q:Int),0≤q→(∀l∈ls,lchk l=0)→(∀i∈(allR (tkl o ls q).1).map (·.id),i∈(allR ls).map (·.id))∧(((allR ls).map (·.id)).Nodup→((allR (tkl o ls q).1).map (·.id)).Nodup)∧(allR (tkl o ls q).1).length≤(allR ls).length∧(∀x∈(tkl o ls q).1,∃l∈ls,l.price=x.price):=by
 intro ls;induction ls with
 | nil=>intro q _ _;exact⟨fun i hi=>hi,fun h=>h,nzR _,fun x hx=>by cases hx⟩
 | cons l t ih=>
  intro q hq hg;by_cases hc:0<q∧mB o l.price=true
  ·have hl:=hg l (by simp)
   obtain⟨f1,f2,f3,f4,f5,f6,f7⟩:=zCA (zAh hl).2.2 (q:=q) (by omega)
   obtain⟨GA,pg⟩:=(zAm l.rests).1 (zAh hl).2.2;rcases zDO (t:=t) hc.1 hc.2 hl with ⟨he,e⟩|⟨he,hz,e⟩
   ·obtain⟨i1,i2,i3,i4⟩:=ih (q - sum (take q l.rests).1) (by omega) (fun x hx=>hg x (by simp[hx]))
    rw[e,zAq];simp only[jF,jE];refine⟨fun i hi=>List.mem_append.2 (.inr (i1 i hi)),fun h=>i2 (List.nodup_append.1 h).2.1,by omega,fun x hx=>?_⟩
    obtain⟨l',h1,h2⟩:=i4 x hx;exact⟨l',by simp[h1],h2⟩
   ·obtain⟨g1,g2,-,-,-,-,-,-⟩:=zEZ q.toNat q l.rests (by omega) pg (by omega)
    have mn:=zOx q.toNat q l.rests (by omega) pg (by omega)
    rw[e,zAq,zAq];simp only[jF,jE];refine⟨fun i hi=>?_,fun h=>?_,by omega,fun x hx=>?_⟩
    ·rcases List.mem_append.1 hi with hi|hi
     ·obtain⟨y,hy,rfl⟩:=List.mem_map.1 hi;exact List.mem_append.2 (.inl (mn y hy))
     ·exact List.mem_append.2 (.inr hi)
    ·obtain⟨n1,n2,n3⟩:=List.nodup_append.1 h;refine List.nodup_append.2 ⟨g1.2,n2,fun a ha b hb=>?_⟩
     obtain⟨y,hy,rfl⟩:=List.mem_map.1 ha;exact n3 _ (mn y hy) b hb
    ·rcases List.mem_cons.1 hx with rfl|hx
     ·exact⟨l,by simp,rfl⟩
     ·exact⟨x,by simp[hx],rfl⟩
  ·rw[zDP hc];exact⟨fun i hi=>hi,fun h=>h,nzR _,fun x hx=>⟨x,hx,rfl⟩⟩
theorem zDQ{ls:List L}(h:ls≠[]):∃l∈ls,zCd ls=l.price:=by
 cases ls with
 | nil=>exact absurd rfl h
 | cons l t=>exact⟨l,by simp,rfl⟩
theorem zCD{s:Int}{ls:List L}(hp:ls.Pairwise fun a b=>ahd s a.price b.price){l:L}(hl:l∈ls):zCd ls=l.price∨ahd s (zCd ls) l.price:=by
 cases ls with
 | nil=>cases hl
 | cons x t=>
  rcases List.mem_cons.1 hl with rfl|hl
  ·exact .inl rfl
  ·exact .inr ((List.pairwise_cons.1 hp).1 l hl)
theorem zIH{o:O}{s:Int}{ls:List L}{q:Int}(hq:0≤q)(h:schk s ls=0):schk s (tkl o ls q).1=0:=by
 obtain⟨z1,z2,z3,z4⟩:=zAd h;have hE:=zAs z2;obtain⟨i1,i2,i3,i4⟩:=zFK (o:=o) ls q hq hE;refine zEd z1 (zLJ z1 ls q none hq z2) ?_ (by rw[zBe] at *;exact i2 z4)
 rw[zAP] at *;omega
theorem zOy{bs ss:List L}{o:O}(h:zAt bs ss o=0):zAc (metB bs ss o) (metS bs ss o)=0:=by
 obtain⟨hb,hc,-,-⟩:=zAF h;obtain⟨e1,e2,e3,e4,e5⟩:=zAe hb;have hq:=zLH hc;have hE1:=zAs (zAd e1).2.1;have hE2:=zAs (zAd e2).2.1;have hp1:=(zFI (zAd e1).1 bs none (zAd e1).2.1).1;have hp2:=(zFI (zAd e2).1 ss none (zAd e2).2.1).1;unfold zAK at e4;simp only[decide_eq_false_iff_not,Classical.not_not] at e4;rw[jF] at e4;obtain⟨n1,n2,n3⟩:=List.nodup_append.1 e4;rw[jE] at e5;unfold metB metS metR zAr;by_cases hs:o.side=1
 ·simp only[if_pos hs];obtain⟨i1,i2,i3,i4⟩:=zFK (o:=o) ss o.qty (by omega) hE2
  have k2:=zIH (o:=o) (q:=o.qty) (by omega) e2
  generalize (tkl o ss o.qty).1=S' at *;unfold zAc;rw[if_pos e1,if_pos k2,if_neg,if_neg,if_neg]
  ·rw[jE];omega
  ·unfold zAK;simp only[decide_eq_true_eq,Classical.not_not];rw[jF];exact List.nodup_append.2 ⟨n1,i2 n2,fun a ha b hb=>n3 a ha b (i1 b hb)⟩
  ·intro hx;unfold zBs at hx e3;simp only[Bool.and_eq_true,Bool.not_eq_true',List.isEmpty_eq_false_iff,decide_eq_true_eq] at hx;obtain⟨x1,x2,x3⟩:=hx;obtain⟨l',B9,e'⟩:=zDQ x2;obtain⟨l,hl,el⟩:=i4 l' B9;have H7:ss≠[]:=fun e=>by rw[e] at hl;cases hl
   have Hc:=zCD hp2 hl;simp only[Bool.and_eq_false_iff,Bool.not_eq_false',List.isEmpty_iff,decide_eq_false_iff_not] at e3;rcases e3 with e|e|e
   ·exact x1 e
   ·exact H7 e
   ·unfold ahd at Hc;simp at Hc;omega
 ·simp only[if_neg hs];obtain⟨i1,i2,i3,i4⟩:=zFK (o:=o) bs o.qty (by omega) hE1
  have k1:=zIH (o:=o) (q:=o.qty) (by omega) e1
  generalize (tkl o bs o.qty).1=B' at *;unfold zAc;rw[if_pos k1,if_pos e2,if_neg,if_neg,if_neg]
  ·rw[jE];omega
  ·unfold zAK;simp only[decide_eq_true_eq,Classical.not_not];rw[jF];exact List.nodup_append.2 ⟨i2 n1,n2,fun a ha b hb=>n3 a (i1 a ha) b hb⟩
  ·intro hx;unfold zBs at hx e3;simp only[Bool.and_eq_true,Bool.not_eq_true',List.isEmpty_eq_false_iff,decide_eq_true_eq] at hx;obtain⟨x1,x2,x3⟩:=hx;obtain⟨l',B9,e'⟩:=zDQ x1;obtain⟨l,hl,el⟩:=i4 l' B9;have H7:bs≠[]:=fun e=>by rw[e] at hl;cases hl
   have Hc:=zCD hp1 hl;simp only[Bool.and_eq_false_iff,Bool.not_eq_false',List.isEmpty_iff,decide_eq_false_iff_not] at e3;rcases e3 with e|e|e
   ·exact H7 e
   ·exact x2 e
   ·unfold ahd at Hc;simp at Hc;omega
end mee
namespace mee
open Go.RowKit spn que sid
open ord (O mB chk)
def zAv(p:Int)(z:List R)(t:List L):List L:=if z=[] then t else ⟨p,z⟩::t
theorem zBg{r:R}{rs:List R}(h:qchk (r::rs)=0):1≤r.qty∧r.qty≤10000:=by
 obtain⟨-,hg⟩:=(zAm _).1 h;exact(zAp (hg.1 r (by simp))).1
theorem zJM{q:Int}{r:R}{rs:List R}(h:0<q)(hg:qchk (r::rs)=0):qchk (tk1 (min q r.qty) r rs)=0∧tot (tk1 (min q r.qty) r rs)=tot (r::rs) - min q r.qty:=by
 have hp:=zBg hg;obtain⟨GA,Hs⟩:=(zAm _).1 hg;obtain⟨a,b,c⟩:=zBM Hs (show 1≤min q r.qty by omega) (by omega)
 exact⟨(zAm _).2 ⟨by omega,a⟩,b⟩
theorem zBh{q p:Int}{r:R}{rs:List R}{t:List L}(h:0<q)(hl:∀l∈(⟨p,r::rs⟩::t:List L),lchk l=0):∀l∈zAv p (tk1 (min q r.qty) r rs) t,lchk l=0:=by
 have h1:lchk ⟨p,r::rs⟩=0:=hl _ (by simp)
 obtain⟨hp,-,hq⟩:=zAh h1;have hz:=(zJM h hq).1;intro l hm;unfold zAv at hm;by_cases e:tk1 (min q r.qty) r rs=[]
 ·rw[if_pos e] at hm;exact hl l (by simp[hm])
 ·rw[if_neg e] at hm;rcases List.mem_cons.1 hm with rfl|hm
  ·exact zCL (by show (decide _ && decide _)=true;simp;exact hp) e hz
  ·exact hl l (by simp[hm])
theorem zFL{o:O}{p q:Int}{r:R}{rs:List R}{t:List L}(h:0<q)(hm:mB o p=true)(hg:qchk (r::rs)=0) :
  tkl o (⟨p,r::rs⟩::t) q=((tkl o (zAv p (tk1 (min q r.qty) r rs) t) (q - min q r.qty)).1,trd o p ⟨r.id,r.who,min q r.qty⟩::(tkl o (zAv p (tk1 (min q r.qty) r rs) t) (q - min q r.qty)).2.1,(tkl o (zAv p (tk1 (min q r.qty) r rs) t) (q - min q r.qty)).2.2):=by
 have hp:=zBg hg;have Hs:=((zAm _).1 hg).2;have hc:=zCS q r rs h Hs;generalize hk:min q r.qty=k at *;have dH:1≤k∧k≤q:=by omega
 generalize tk1 k r rs=z at *;unfold zAv;by_cases hz:z=[]
 ·subst hz;rw[zDM] at hc;rw[if_pos rfl,zCU h hm (by rw[hc])]
  simp only[hc];have e:q - sum [⟨r.id,r.who,k⟩]=q - k:=by simp[sum]
  rw[e];rfl
 ·rw[if_neg hz];by_cases h0:q - k≤0
  ·rw[zBT _ _ h0] at hc;rw[zCV h hm (by rw[hc];exact hz),zAZ h0]
   simp only[hc];have e:q - sum [⟨r.id,r.who,k⟩]=q - k:=by simp[sum]
   rw[e];rfl
  ·have hs:∀S:List F,q - sum (⟨r.id,r.who,k⟩::S)=q - k - sum S:=fun S=>by simp only[sum];omega
   by_cases he:(take (q - k) z).2=[]
   ·rw[zCU (l:=⟨p,z⟩) (by omega) hm he,zCU h hm (by rw[hc];exact he)]
    simp only[hc,hs];rfl
   ·rw[zCV (l:=⟨p,z⟩) (by omega) hm he,zCV h hm (by rw[hc];exact he)]
    simp only[hc,hs];rfl
end mee
end Go.Proofs.YtmhcghgfpfainaaGreatDoor
