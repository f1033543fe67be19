import Derived.Test.YtnfilcpnneckkaaGreatMeeDo
set_option maxHeartbeats 4000000
set_option maxRecDepth 100000
namespace Go.Proofs.YtnfilcpnneckkaaGreat
open Tryz
namespace swp
open Go.RowKit spn que sid bok
theorem hidW{P:Prop}(h:P):Hid P:=h
def setL(ls:List L)(i k:Nat)(r:R):List L:=ls.set i ⟨ls[i]!.price,ls[i]!.rests.set k r⟩
def kB(s:Int)(bs:List L)(i k:Nat)(r:R):List L:=if s=1 then setL bs i k r else bs
def kS(s:Int)(ss:List L)(i k:Nat)(r:R):List L:=if s=1 then ss else setL ss i k r
def cB(s:Int)(bs:List L)(i k:Nat):List L:=if s=1 then zBo bs i k else bs
def cS(s:Int)(ss:List L)(i k:Nat):List L:=if s=1 then ss else zBo ss i k
structure Spot (bs ss:List L) (id s:Int) (ls:List L) (i k:Nat):Prop where
 h0:zAc bs ss=0
 hi:i<ls.length
 hk:k<ls[i].rests.length
 hr:ls[i].rests[k].id=id
 side:(s=1∧ls=bs∧zAF 1 bs id=0∧zBn 1 bs id=((i:Int),(k:Int)))∨(s=2∧ls=ss∧zAF 1 bs id=5∧zAF 2 ss id=0∧zBn 2 ss id=((i:Int),(k:Int)))
theorem zQP{bs ss:List L}{id:Int}(h0:zAc bs ss=0)(Hv:zAg bs ss id=true):∃s ls i k,Spot bs ss id s ls i k:=by
 obtain⟨e1,e2,-⟩:=zAh h0;by_cases hb:id∈ids bs
 ·obtain⟨-,i,k,hi,hk,hr,hp⟩:=zDb (zCE e1 hb);exact⟨1,bs,i,k,h0,hi,hk,hr,.inl ⟨rfl,rfl,zCE e1 hb,hp⟩⟩
 ·have hs:id∈ids ss:=by
   unfold zAg at Hv;simpa [hb] using Hv
  obtain⟨-,i,k,hi,hk,hr,hp⟩:=zDb (zCE e2 hs);exact⟨2,ss,i,k,h0,hi,hk,hr,.inr ⟨rfl,rfl,zBh e1 hb,zCE e2 hs,hp⟩⟩
theorem Spot.sides{bs ss:List L}{id s:Int}{ls:List L}{i k:Nat}(h:Spot bs ss id s ls i k):schk s ls=0:=by
 obtain⟨e1,e2,-⟩:=zAh h.h0;rcases h.side with ⟨rfl,rfl,-⟩|⟨rfl,rfl,-⟩
 ·exact e1
 ·exact e2
theorem Spot.level{bs ss:List L}{id s:Int}{ls:List L}{i k:Nat}(h:Spot bs ss id s ls i k):lchk (ls[i]'h.hi)=0:=zAs (zAe h.sides).2.1 _ (jT h.hi)
theorem Spot.rest{bs ss:List L}{id s:Int}{ls:List L}{i k:Nat}(h:Spot bs ss id s ls i k):rchk ((ls[i]'h.hi).rests[k]'h.hk)=0:=
 ((zAn _).1 (zAf h.level).2.2).2.1 _ (jT h.hk)
theorem Spot.wf{bs ss:List L}{id s:Int}{ls:List L}{i k:Nat}(h:Spot bs ss id s ls i k):(Lit.int .i64 id).wf=true:=by
 have:=wf_id h.rest
 rwa [h.hr] at this
theorem zLR{α:Type}{l:List α}{i:Nat}(hi:i<l.length):∃a b,l=a++l[i]::b∧a.length=i:=
 ⟨l.take i,l.drop (i+1),by rw[←List.drop_eq_getElem_cons hi,jR],by rw[jJ];omega⟩
theorem zCs{ls:List L}{i k:Nat}(hi:i<ls.length)(hk:k<ls[i].rests.length):∃a b c d,ls=a++⟨ls[i].price,c++ls[i].rests[k]::d⟩::b∧a.length=i∧ls[i].rests=c++ls[i].rests[k]::d∧c.length=k:=by
 obtain⟨a,b,e1,e2⟩:=zLR hi;obtain⟨c,d,e3,e4⟩:=zLR hk;exact⟨a,b,c,d,by rw[←e3];exact e1,e2,e3,e4⟩
theorem zFN(a b:List L)(p:Int)(c d:List R)(r r' : R):setL (a++⟨p,c++r::d⟩::b) a.length c.length r'=a++⟨p,c++r'::d⟩::b:=by
 unfold setL;rw[zLa,zDp,zDp]
theorem zEq(a b:List L)(p:Int)(c d:List R)(r:R):zBo (a++⟨p,c++r::d⟩::b) a.length c.length=if c.length+d.length=0 then a++b else a++⟨p,c++d⟩::b:=by
 unfold zBo;rw[zLa,zEg,zDp,zEg];simp only[jE,jG];by_cases h:c.length+d.length=0
 ·rw[if_pos h,if_pos (by omega)]
 ·rw[if_neg h,if_neg (by omega)]
theorem zID(ls:List L)(i k:Nat)(r:R):(setL ls i k r).length=ls.length:=by unfold setL;rw[List.length_set]
theorem zHP{ls:List L}{i k:Nat}{r:R}(hi:i<ls.length)(h2:i<(setL ls i k r).length):(setL ls i k r)[i]=⟨ls[i].price,ls[i].rests.set k r⟩:=by
 simp[setL,hi]
theorem zLS(i:Int)(c d:List R){r r' : R}(h:r'.id=r.id):∀j:Int,rowP i j (c++r'::d)=rowP i j (c++r::d):=by
 induction c with
 | nil=>intro j;show (r'.id,i,j)::_=(r.id,i,j)::_;rw[h]
 | cons x t ih=>intro j;show _::rowP i (j+1) (t++r'::d)=_::rowP i (j+1) (t++r::d);rw[ih]
theorem zJM(a b:List L)(p:Int)(c d:List R){r r' : R}(h:r'.id=r.id):∀j:Int,flatP j (a++⟨p,c++r'::d⟩::b)=flatP j (a++⟨p,c++r::d⟩::b):=by
 induction a with
 | nil=>intro j;show rowP j 0 (c++r'::d)++_=rowP j 0 (c++r::d)++_;rw[zLS _ _ _ h]
 | cons x t ih=>intro j;show rowP j 0 x.rests++flatP (j+1) (t++_)=rowP j 0 x.rests++flatP (j+1) (t++_);rw[ih]
theorem zLT{s:Int}(p:Int){zs zs' : List R}(hz:lchk ⟨p,zs'⟩=0)(a b:List L):∀prev,sgo s prev (a++⟨p,zs⟩::b)=0→sgo s prev (a++⟨p,zs'⟩::b)=0:=by
 induction a with
 | nil=>
  intro prev h;obtain⟨-,h2,h3⟩:=zBb h;exact zFa hz h2 h3
 | cons x t ih=>
  intro prev h;obtain⟨h1,h2,h3⟩:=zBb h;exact zFa h1 h2 (ih _ h3)
theorem zDe(a b:List L)(p:Int)(zs:List R):allR (a++⟨p,zs⟩::b)=allR a++(zs++allR b):=by rw[zCd,zAp]
theorem zOE{s:Int}{ls:List L}{i k:Nat}{r' : R}(h:schk s ls=0)(hi:i<ls.length)(hk:k<ls[i].rests.length)(hid:r'.id=ls[i].rests[k].id)(hr:rchk r'=0) :
  schk s (setL ls i k r')=0∧flatP 0 (setL ls i k r')=flatP 0 ls∧cnt (setL ls i k r')=cnt ls∧(allR (setL ls i k r')).map (·.id)=(allR ls).map (·.id):=by
 obtain⟨z1,z2,z3,z4⟩:=zAe h;have hl:lchk ls[i]=0:=zAs z2 _ (jT hi);obtain⟨a,b,c,d,e1,e2,e3,e4⟩:=zCs hi hk;obtain⟨l1,l2,l3⟩:=zAf hl;obtain⟨q1,q2⟩:=(zAn _).1 l3;generalize ls[i].rests[k]=r at *;generalize ls[i].price=p at *;rw[e3] at q1 q2;subst e1;subst e2;subst e4;have hf:=zJM a b p c d hid 0;have hq:qchk (c++r'::d)=0:=(zAn _).2 ⟨by simpa using q1,fun x hx=>by
   rcases List.mem_append.1 hx with hx|hx
   ·exact q2.1 x (by simp[hx])
   ·rcases List.mem_cons.1 hx with rfl|hx
    ·exact hr
    ·exact q2.1 x (by simp[hx]),by have:=q2.2;simpa [hid] using this⟩
 have hpB:tickP.zAo p=true:=by simp[tickP.zAo,l1.1,l1.2]
 have hc:cnt (a++⟨p,c++r'::d⟩::b)=cnt (a++⟨p,c++r::d⟩::b):=by rw[←wAD 0,←wAD 0,hf]
 rw[zFN];refine⟨zEa z1 (zLT p (zCM hpB (by simp) hq) a b none z2) (by rw[hc];omega) (by unfold ids at z4 ⊢;rw[hf];exact z4),hf,hc,?_⟩
 rw[zDe,zDe];simp[hid]
theorem zIE{ls:List L}{i k:Nat}{r' : R}(hi:i<ls.length):zCe (setL ls i k r')=zCe ls:=by
 unfold setL;cases ls with
 | nil=>simp at hi
 | cons x t=>
  cases i with
  | zero=>rfl
  | succ i=>rfl
theorem zLU{a b:List R}(h:a.map (·.id)=b.map (·.id)):zAM a=zAM b:=by
 unfold zAM;rw[h]
theorem zGN{ls:List L}{i k:Nat}{r' : R}:(setL ls i k r').isEmpty=ls.isEmpty:=by
 have:=zID ls i k r';cases ls with
 | nil=>rfl
 | cons x t=>
  cases h:setL (x::t) i k r' with
  | nil=>rw[h] at this;simp at this
  | cons y u=>rfl
theorem zGO{bs ss bs' ss' : List L}(h:zAc bs ss=0)(k1:schk 1 bs'=0)(k2:schk 2 ss'=0)(b1:zCe bs'=zCe bs)(b2:zCe ss'=zCe ss)(m1:bs'.isEmpty=bs.isEmpty)(m2:ss'.isEmpty=ss.isEmpty)(i1:(allR bs').map (·.id)=(allR bs).map (·.id))(i2:(allR ss').map (·.id)=(allR ss).map (·.id)):zAc bs' ss'=0:=by
 obtain⟨-,-,z3,z4,z5⟩:=zAh h;have n1:(allR bs').length=(allR bs).length:=by have:=congrArg List.length i1;simpa using this
 have n2:(allR ss').length=(allR ss).length:=by have:=congrArg List.length i2;simpa using this
 have c:zBv bs' ss'=zBv bs ss:=by unfold zBv;rw[b1,b2,m1,m2]
 have t:zAM (allR bs'++allR ss')=zAM (allR bs++allR ss):=zLU (by rw[jF,jF,i1,i2])
 unfold zAc;rw[if_pos k1,if_pos k2,c,z3,t,z4,if_neg (by simp),if_neg (by simp),if_neg (by rw[jE] at z5 ⊢;omega)]
theorem zGP{s:Int}{ls ls' : List L}{id:Int}(h:schk s ls=0)(h' : schk s ls'=0)(hf:flatP 0 ls'=flatP 0 ls):zAF s ls' id=zAF s ls id∧zBn s ls' id=zBn s ls id:=by
 have e:zAF s ls' id=zAF s ls id:=by unfold zAF;rw[if_pos h,if_pos h',hf]
 exact⟨e,by unfold zBn;rw[e,hf]⟩
theorem Spot.keep{bs ss:List L}{id s:Int}{ls:List L}{i k:Nat}{r' : R}(h:Spot bs ss id s ls i k)(hid:r'.id=id)(hr:rchk r'=0):Spot (kB s bs i k r') (kS s ss i k r') id s (setL ls i k r') i k:=by
 have hi:=h.hi;have hk:=h.hk;obtain⟨g1,g2,g3,g4⟩:=zOE h.sides hi hk (hid.trans h.hr.symm) hr;obtain⟨e1,e2,-⟩:=zAh h.h0;have hl:i<(setL ls i k r').length:=by rw[zID];exact hi
 have ha:=zHP (k:=k) (r:=r') hi hl;have Gg:k<((setL ls i k r')[i]).rests.length:=by rw[ha];simpa using hk
 have P5:((setL ls i k r')[i]).rests[k].id=id:=by
  have:((setL ls i k r')[i]).rests[k]=r':=by
   simp only[ha,List.getElem_set_self]
  rw[this,hid]
 rcases h.side with ⟨rfl,rfl,f1,f2⟩|⟨rfl,rfl,f0,f1,f2⟩
 ·obtain⟨w1,w2⟩:=zGP (id:=id) e1 g1 g2;refine⟨?_,hl,Gg,P5,.inl ⟨rfl,?_,?_,?_⟩⟩
  ·unfold kB kS;rw[if_pos rfl,if_pos rfl];exact zGO h.h0 g1 e2 (zIE hi) rfl zGN rfl g4 rfl
  ·unfold kB;rw[if_pos rfl]
  ·unfold kB;rw[if_pos rfl,w1];exact f1
  ·unfold kB;rw[if_pos rfl,w2];exact f2
 ·obtain⟨w1,w2⟩:=zGP (id:=id) e2 g1 g2;refine⟨?_,hl,Gg,P5,.inr ⟨rfl,?_,?_,?_,?_⟩⟩
  ·unfold kB kS;rw[if_neg (by decide),if_neg (by decide)]
   exact zGO h.h0 e1 g1 rfl (zIE hi) rfl zGN rfl g4
  ·unfold kS;rw[if_neg (by decide)]
  ·unfold kB;rw[if_neg (by decide)];exact f0
  ·unfold kS;rw[if_neg (by decide),w1];exact f1
  ·unfold kS;rw[if_neg (by decide),w2];exact f2
def zAI(r:R)(q:Int):R:=⟨r.id,r.who,min r.qty q,q - min r.qty q,r.shw⟩
theorem zLV{r:R}{q:Int}(h:rchk r=0)(h1:1≤q)(h2:q≤r.qty+r.hid):rchk (zAI r q)=0:=by
 obtain⟨a,b,c,d,e,f,g⟩:=zAq h;refine zHE ⟨?_,?_,c,?_,?_,f,g⟩
 ·show 1≤min r.qty q∧min r.qty q≤10000;omega
 ·show 0≤q - min r.qty q∧q - min r.qty q≤10000;omega
 ·intro h0;have h3:=d h0;show q - min r.qty q=0;omega
 ·intro h0;have h3:=e h0;show min r.qty q≤r.shw;omega
structure Two (w:World) (base F:Nat) (v1 v2:Value) (pa pb:List RP):Prop where
 own1:rlv.OwnQ w base v1 (pa.map (·.1))
 own2:rlv.OwnQ w base v2 (pb.map (·.1))
 each:∀p∈pa++pb,OwnQ w base (sv p.1) p.2
 apart:(pa++pb).Pairwise AP
 far:∀p∈pa++pb,∀x,blkR p.1=some x→v1.ownBlock≠some x∧v2.ownBlock≠some x∧x<F
theorem Two.deep1{w:World}{base F:Nat}{v1 v2:Value}{pa pb:List RP}(h:Two w base F v1 v2 pa pb):Deep w base v1 pa:=
 ⟨by rw[jH];exact h.own1,fun p hp=>h.each p (List.mem_append_left _ hp),(List.pairwise_append.1 h.apart).1,fun p hp x hx=>(h.far p (List.mem_append_left _ hp) x hx).1⟩
theorem Two.deep2{w:World}{base F:Nat}{v1 v2:Value}{pa pb:List RP}(h:Two w base F v1 v2 pa pb):Deep w base v2 pb:=
 ⟨by rw[jH];exact h.own2,fun p hp=>h.each p (List.mem_append_right _ hp),(List.pairwise_append.1 h.apart).2.1,fun p hp x hx=>(h.far p (List.mem_append_right _ hp) x hx).2.1⟩
theorem Two.below{w w' : World}{base F:Nat}{v1 v2:Value}{pa pb:List RP}(h:Two w base F v1 v2 pa pb)(hB:Bw w w'):Two w' base F v1 v2 pa pb:=
 ⟨OwnM.below h.own1 hB,OwnM.below h.own2 hB,fun p hp=>OwnM.below (h.each p hp) hB,h.apart,h.far⟩
theorem Two.set{w w' : World}{base F:Nat}{v1 v2:Value}{pa pb A B:List RP}{x:RP}{zs:List R}(h:Two w base F v1 v2 pa pb)(e:pa++pb=A++x::B)(hg:w.grownBy w' (blkR x.1))(ho:OwnQ w' base (sv x.1) zs) :
  ∃qa qb,Two w' base F v1 v2 qa qb∧qa++qb=A++(x.1,zs)::B∧qa.length=pa.length:=by
 have hm:(A++(x.1,zs)::B).map (·.1)=(pa++pb).map (·.1):=by rw[e];simp
 have Hh:(A++(x.1,zs)::B).length=(pa++pb).length:=by rw[e];simp
 have cj:x∈pa++pb:=by rw[e];simp
 have ha:(A++x::B).Pairwise AP:=by rw[←e];exact h.apart
 obtain⟨p1,p2,p3⟩:=List.pairwise_append.1 ha;obtain⟨p4,p5⟩:=List.pairwise_cons.1 p2;refine⟨(A++(x.1,zs)::B).take pa.length,(A++(x.1,zs)::B).drop pa.length,⟨?_,?_,?_,?_,?_⟩,jR _ _,by rw[jJ,Hh,jE];omega⟩
 ·rw[List.map_take,hm,jF,List.take_left' (by simp)]
  exact zAm h.own1 hg (fun z hz e=>(h.far x cj z e).1 hz)
 ·rw[List.map_drop,hm,jF,List.drop_left' (by simp)]
  exact zAm h.own2 hg (fun z hz e=>(h.far x cj z e).2.1 hz)
 ·rw[jR];intro p hp;rcases List.mem_append.1 hp with hp|hp
  ·exact zAm (h.each p (by rw[e];simp[hp])) hg (fun z hz e=>p3 p hp x (by simp) z hz e)
  ·rcases List.mem_cons.1 hp with rfl|hp
   ·exact ho
   ·exact zAm (h.each p (by rw[e];simp[hp])) hg (fun z hz e=>p4 p hp z e hz)
 ·rw[jR];have h1:((A++(x.1,zs)::B).map (·.1)).Pairwise (fun a b:rlv.RL=>∀x,blkR a=some x→blkR b≠some x):=by
   rw[hm,List.pairwise_map];exact h.apart
  rw[List.pairwise_map] at h1;exact h1
 ·rw[jR];intro p hp z hz;have h1:p.1∈(pa++pb).map (·.1):=by rw[←hm];exact List.mem_map.2 ⟨p,hp,rfl⟩
  obtain⟨p0,hp0,e0⟩:=List.mem_map.1 h1;exact h.far p0 hp0 z (by rw[e0];exact hz)
theorem fr_two{W0 Wa Wb X:World}{base R:Nat}{va vb:Value}{bs ss:List L}(ha:DL Wa W0.heap.size va bs)(h0:W0.heap.size≤Wa.heap.size)(hb:DL Wb Wa.heap.size vb ss)(h2:Bw Wa Wb)(hg:Wb.grownBy X (some R))(hR:R<W0.heap.size)(hB:base≤W0.heap.size) :
  ∃pa pb,pa.map toL=bs∧pb.map toL=ss∧Two X base X.heap.size va vb pa pb:=by
 obtain⟨pa,ea,Da⟩:=ha;obtain⟨pb,eb,Db⟩:=hb;have H9:=h2.size;have UU:=hg.size;have DX:Deep X W0.heap.size va pa:=(Da.below h2).other hg hR;have EX:Deep X Wa.heap.size vb pb:=Db.other hg (by omega)
 refine⟨pa,pb,ea,eb,?_,?_,?_,?_,?_⟩
 ·have:=(DX.mono hB).own;rwa [jH] at this
 ·have:=(EX.mono (base':=base) (by omega)).own;rwa [jH] at this
 ·intro p hp;rcases List.mem_append.1 hp with hp|hp
  ·exact(DX.mono hB).each p hp
  ·exact(EX.mono (base':=base) (by omega)).each p hp
 ·refine List.pairwise_append.2 ⟨DX.apart,EX.apart,fun p hp q hq x hx e=>?_⟩
  have:=(OwnM.lt (Da.each p hp) x hx).2;have:=(OwnM.lt (Db.each q hq) x e).1;omega
 ·intro p hp x hx;rcases List.mem_append.1 hp with hp|hp
  ·have k1:=(OwnM.lt (Da.each p hp) x hx).2;refine⟨DX.far p hp x hx,fun e=>?_,by omega⟩
   have:=(OwnM.lt Db.own x e).1;omega
  ·have k1:=(OwnM.lt (Db.each p hp) x hx);refine⟨fun e=>?_,EX.far p hp x hx,by omega⟩
   have:=(OwnM.lt Da.own x e).2;omega
def BTPost(bs ss:List L)(w:World)(e:Ending)(w' : World):Prop:=
 ∃q1 q2 n1 n2 c1 c2 pa pb,e=.returned (.agg #[.slice q1 n1 c1,.slice q2 n2 c2])∧Bw w w'∧pa.map toL=bs∧pb.map toL=ss∧Two w' w.heap.size w'.heap.size (.slice q1 n1 c1) (.slice q2 n2 c2) pa pb
theorem zJN(q1 q2:Option Addr)(n1 n2 c1 c2:Nat)(bs ss:List L)(w:World)(h1:LS w (.slice q1 n1 c1) bs)(h2:LS w (.slice q2 n2 c2) ss)(k1:schk 1 bs=0)(k2:schk 2 ss=0) :
  Calls prog 49 #[.agg #[.slice q1 n1 c1,.slice q2 n2 c2]] w fun e w'=>BTPost bs ss w e w':=by
 have Hh:∀ {t:Int}{xs:List L},schk t xs=0→xs.length≤1000∧(∀l∈xs,l.rests.length≤1000):=fun {t xs} hk=>by
  obtain⟨-,z2,z3,-⟩:=zAe hk;have:=zDq (zAs z2);exact⟨by omega,fun l hl=>by have:=zAV hl;omega⟩
 obtain⟨V2,gl⟩:∃V2,V2=w.alloc (.cells #[.slice q1 n1 c1,.slice q2 n2 c2] 57):=⟨_,rfl⟩;have Hg:Hid (Below w.heap.size w V2):=by rw[gl];exact(bzR _ _).alloc (nzR _) _
 have H9:V2.heap.size=w.heap.size+1:=by rw[gl];simp
 have G9:Hid (∀W,Below V2.heap.size V2 W→W.heap[V2.heap.size]?=some (.cells #[.slice none 0 0,.slice none 0 0] 57 (0,0))→Calls prog 78 #[.slice q1 n1 c1] W fun e w'=>∃q m c,e=.returned (.slice q m c)∧DL w' W.heap.size (.slice q m c) bs∧Below W.heap.size W w'∧Below V2.heap.size V2 w'∧w'.heap[V2.heap.size]?=some (.cells #[.slice none 0 0,.slice none 0 0] 57 (0,0))):=fun W hW pY=>by
  refine(zBu _ bs W (h1.below (Hg.out.trans (hW.mono Hg.out.size))) (Hh k1).1 (Hh k1).2 (zBg k1)).mono ?_;rintro e w'⟨v',ps,rfl,GC,hD,b1⟩;obtain⟨q',c',gU⟩:=OwnM.form hD.own;subst gU;exact⟨_,_,_,rfl,⟨ps,GC,hD⟩,b1,hW.trans (b1.mono hW.size),(b1.block _ (gzE.1 pY).1).trans pY⟩
 have uW:Hid (∀W,Below V2.heap.size V2 W→W.heap[V2.heap.size]?=some (.cells #[.slice none 0 0,.slice none 0 0] 57 (0,0))→Calls prog 78 #[.slice q2 n2 c2] W fun e w'=>∃q m c,e=.returned (.slice q m c)∧DL w' W.heap.size (.slice q m c) ss∧Below W.heap.size W w'∧Below V2.heap.size V2 w'∧w'.heap[V2.heap.size]?=some (.cells #[.slice none 0 0,.slice none 0 0] 57 (0,0))):=fun W hW pY=>by
  refine(zBu _ ss W (h2.below (Hg.out.trans (hW.mono Hg.out.size))) (Hh k2).1 (Hh k2).2 (zBg k2)).mono ?_;rintro e w'⟨v',ps,rfl,GC,hD,b1⟩;obtain⟨q',c',gU⟩:=OwnM.form hD.own;subst gU;exact⟨_,_,_,rfl,⟨ps,GC,hD⟩,b1,hW.trans (b1.mono hW.size),(b1.block _ (gzE.1 pY).1).trans pY⟩
 obtain⟨V,hV⟩:∃V,V=V2.alloc (.cells #[.slice none 0 0,.slice none 0 0] 57):=⟨_,rfl⟩;have ue:Hid (Below V2.heap.size V2 V):=by rw[hV];exact(bzR _ _).alloc (nzR _) _
 have hR:V.heap[V2.heap.size]?=some (.cells #[.slice none 0 0,.slice none 0 0] 57 (0,0)):=by rw[hV];exact jA V2 _
 have v0:V2.cell? ⟨w.heap.size,0,none⟩=some (.slice q1 n1 c1):=by rw[gl];simp[go_sem]
 have v1:V2.cell? ⟨w.heap.size,1,none⟩=some (.slice q2 n2 c2):=by rw[gl];simp[go_sem]
 have gp:V2.heap.size<V.heap.size:=(gzE.1 hR).1;have SO:Hid (∀W,Below V2.heap.size V2 W→(Below V2.heap.size V2 W∧W.cell? ⟨w.heap.size,0,none⟩=some (.slice q1 n1 c1)∧W.cell? ⟨w.heap.size,1,none⟩=some (.slice q2 n2 c2))):=fun W hW=>⟨hW,zAa hW v0,zAa hW v1⟩
 clear h1 h2 k1 k2 Hh;obtain⟨P,hP⟩:∃P,P=w.heap.size+1:=⟨_,rfl⟩;have pQ:V2.heap.size=P:=by rw[H9,hP]
 rw[pQ] at G9 uW ue hR gp SO;have HP:Hid (V2.heap.size=P∧P=w.heap.size+1):=⟨pQ,hP⟩;clear H9 pQ v0 v1;go_enter func49,ntmps49;go_upto_region 1 with fail
 rw[←gl,←hV];simp only[←hP];clear gl hV hP;obtain⟨z0,z1,Pg⟩:=zAb hR;have z2:=Pg 0;have z3:=Pg 1;obtain⟨-,y0,y1⟩:=SO.out V ue.out;have hRd:V.drew.heap[P]?=some (.cells #[.slice none 0 0,.slice none 0 0] 57 (0,0)):=((bzR _ V).drew.block P gp).trans hR
 go_region_with (first|(go_at_call 78;with_reducible refine(G9.out _ ?_ ?_).mono ?_;(with_reducible repeat' (first|exact ue.out|assumption|refine Below.drew ?_));rintro x Wa ⟨qa,ma,ca,rfl,hDa,hba,hna,bx⟩;obtain⟨-,ka0,ka1⟩:=SO.out Wa hna)|(go_at_call 78;with_reducible refine(uW.out _ ?_ ?_).mono ?_;(with_reducible repeat' (first|assumption|refine Below.drew ?_));rintro x Wb ⟨qb,mb,cb,rfl,hDb,BF,bP,Bx⟩;obtain⟨pb0,pb1,pfb⟩:=zAb Bx;have pb2:=pfb 0;have pb3:=pfb 1))
 all_goals go_wp2_with fail
 all_goals
  have hg:=zAT Wb P (.slice qa ma ca) (.slice qb mb cb);have HX:=zAz Bx (.slice qa ma ca) (.slice qb mb cb);have Hi:P<V.drew.heap.size:=(gzE.1 hRd).1;have hPw:=HP.out;obtain⟨pa,pb,ea,eb,g1⟩:=fr_two (base:=w.heap.size) hDa hba.size hDb BF hg Hi (by omega)
  have Mc:Below w.heap.size w ((Wb.setCell ⟨P,0,none⟩ (.slice qa ma ca)).setCell ⟨P,1,none⟩ (.slice qb mb cb)):=by
   have h1:Below w.heap.size w Wb:=Hg.out.trans (bP.mono (by omega))
   exact h1.grown hg h1.size (fun k hk=>by cases hk;omega)
  generalize (Wb.setCell ⟨P,0,none⟩ (.slice qa ma ca)).setCell ⟨P,1,none⟩ (.slice qb mb cb)=X at *;obtain⟨t0,t1,-⟩:=zAb HX;exact jN (v:=.agg #[.slice qa ma ca,.slice qb mb cb]) (by simp[results,results49,go_sem,t0,t1]) rfl ⟨_,_,_,_,_,_,pa,pb,rfl,Mc,ea,eb,g1⟩
theorem zCt{α:Type}(X Y:List α)(n j:Nat)(u:α)(h:X.length=n):(X++Y).set (n+j) u=X++Y.set j u:=by
 subst h;rw[List.set_append,if_neg (by omega),show X.length+j - X.length=j by omega]
theorem zOF{w:World}{base g off n cap:Nat}{C D:List R}{r:R}(a b c d e:Int)(h:OwnM w base 51 5 (.slice (some ⟨g,off,none⟩) n cap) n (flat (C++r::D))) :
  OwnM (((((w.setCell ⟨g,off+C.length*5,none⟩ (.int .i64 a)).setCell ⟨g,off+C.length*5+1,none⟩ (.int .i64 b)).setCell ⟨g,off+C.length*5+2,none⟩ (.int .i64 c)).setCell ⟨g,off+C.length*5+3,none⟩ (.int .i64 d)).setCell ⟨g,off+C.length*5+4,none⟩ (.int .i64 e)) base 51 5 (.slice (some ⟨g,off,none⟩) n cap) n (flat (C++⟨a,b,c,d,e⟩::D)):=by
 have h0:=OwnM.set h (C.length*5) (.int .i64 a);have h1:=OwnM.set h0 (C.length*5+1) (.int .i64 b);have h2:=OwnM.set h1 (C.length*5+2) (.int .i64 c);have h3:=OwnM.set h2 (C.length*5+3) (.int .i64 d);have h4:=OwnM.set h3 (C.length*5+4) (.int .i64 e);have hl:(flat C).length=C.length*5:=wAl C;have e0:((((((flat (C++r::D)).set (C.length*5) (.int .i64 a)).set (C.length*5+1) (.int .i64 b)).set (C.length*5+2) (.int .i64 c)).set (C.length*5+3) (.int .i64 d)).set (C.length*5+4) (.int .i64 e))=flat (C++⟨a,b,c,d,e⟩::D):=by
  rw[wAg,wAg];have s0:=zCt (flat C) (flat (r::D)) _ 0 (.int .i64 a) hl;rw[Nat.add_zero] at s0;rw[s0,zCt _ _ _ 1 _ hl,zCt _ _ _ 2 _ hl,zCt _ _ _ 3 _ hl,zCt _ _ _ 4 _ hl];rfl
 rw[e0] at h4;simp only[←Nat.add_assoc] at h4;exact h4
theorem gr_at5(w:World)(g o0 o1 o2 o3 o4:Nat)(x0 x1 x2 x3 x4:Value):w.grownBy (((((w.setCell ⟨g,o0,none⟩ x0).setCell ⟨g,o1,none⟩ x1).setCell ⟨g,o2,none⟩ x2).setCell ⟨g,o3,none⟩ x3).setCell ⟨g,o4,none⟩ x4) (some g):=
 wAd (wAd (wAd (wAd (wAc _ _ _ _) (wAc _ _ _ _)) (wAc _ _ _ _)) (wAc _ _ _ _)) (wAc _ _ _ _)
def upR(r' : R)(zs:List R):List R:=if idx r'.id zs<0 then zs else zs.set (idx r'.id zs).toNat r'
def upP(r' : R)(p:RP):RP:=(p.1,upR r' p.2)
structure RepI (V:World) (F:Nat) (v1 v2 vC:Value) (PS:List RP) (m:Nat) (r' : R) (jj:Nat) (wr:World):Prop where
 below:Bw V wr
 row:wr.heap[F]?=some (.cells #[v1,v2] 57 (0,0))
 cat:rlv.OwnQ wr F vC (PS.map (·.1))
 two:∃qa qb,Two wr V.heap.size F v1 v2 qa qb∧qa++qb=(PS.take jj).map (upP r')++PS.drop jj∧qa.length=m
theorem RepI.on{V:World}{F:Nat}{v1 v2 vC:Value}{PS:List RP}{m:Nat}{r' : R}{jj:Nat}{wr w' : World}(h:RepI V F v1 v2 vC PS m r' jj wr)(hB:Bw wr w'):RepI V F v1 v2 vC PS m r' jj w':=by
 obtain⟨qa,qb,h1,h2,h3⟩:=h.two;exact⟨h.below.trans (hB.mono h.below.size),(hB.block F (gzE.1 h.row).1).trans h.row,OwnM.below h.cat hB,qa,qb,h1.below hB,h2,h3⟩
theorem RepI.pass{V:World}{F:Nat}{v1 v2 vC:Value}{PS:List RP}{m:Nat}{r' : R}{jj:Nat}{wr:World}(h:RepI V F v1 v2 vC PS m r' jj wr)(hj:jj<PS.length)(hi:idx r'.id PS[jj].2<0):RepI V F v1 v2 vC PS m r' (jj+1) wr:=by
 obtain⟨qa,qb,h1,h2,h3⟩:=h.two;refine⟨h.below,h.row,h.cat,qa,qb,h1,?_,h3⟩;rw[h2,List.take_succ_eq_append_getElem hj,jF,List.drop_eq_getElem_cons hj,jS];have:upP r' PS[jj]=PS[jj]:=by unfold upP upR;rw[if_pos hi]
 simp[this]
theorem RepI.level{V:World}{F:Nat}{v1 v2 vC:Value}{PS:List RP}{m:Nat}{r' : R}{jj:Nat}{wr:World}(h:RepI V F v1 v2 vC PS m r' jj wr)(hj:jj<PS.length):OwnQ wr V.heap.size (sv PS[jj].1) PS[jj].2:=by
 obtain⟨qa,qb,h1,h2,h3⟩:=h.two;exact h1.each _ (by rw[h2,List.drop_eq_getElem_cons hj];exact List.mem_append_right _ List.mem_cons_self)
theorem RepI.put{V:World}{F:Nat}{v1 v2 vC:Value}{PS:List RP}{m:Nat}{a b c d e:Int}{jj:Nat}{wr:World}(h:RepI V F v1 v2 vC PS m ⟨a,b,c,d,e⟩ jj wr)(hj:jj<PS.length){p:Int}{g off n cap:Nat}{zs:List R}(hp:PS[jj]=(⟨p,some ⟨g,off,none⟩,n,cap⟩,zs)){k:Nat}(hk:idx a zs=(k:Int)) :
  RepI V F v1 v2 vC PS m ⟨a,b,c,d,e⟩ (jj+1) (((((wr.setCell ⟨g,off+k*5,none⟩ (.int .i64 a)).setCell ⟨g,off+k*5+1,none⟩ (.int .i64 b)).setCell ⟨g,off+k*5+2,none⟩ (.int .i64 c)).setCell ⟨g,off+k*5+3,none⟩ (.int .i64 d)).setCell ⟨g,off+k*5+4,none⟩ (.int .i64 e)):=by
 have hO:=h.level hj;obtain⟨qa,qb,h1,h2,h3⟩:=h.two;have hkl:k<zs.length:=by have:=wBj a zs;omega
 have Hy:=gr_at5 wr g (off+k*5) (off+k*5+1) (off+k*5+2) (off+k*5+3) (off+k*5+4) (.int .i64 a) (.int .i64 b) (.int .i64 c) (.int .i64 d) (.int .i64 e);have e2:qa++qb=(PS.take jj).map (upP ⟨a,b,c,d,e⟩)++PS[jj]::PS.drop (jj+1):=by rw[h2,List.drop_eq_getElem_cons hj]
 have hx:PS[jj]∈qa++qb:=by rw[e2];exact List.mem_append_right _ List.mem_cons_self
 rw[hp] at hO;have hn:n=zs.length:=by
  obtain⟨q',c',e⟩:=OwnM.form hO;have e' : Value.slice (some ⟨g,off,none⟩) n cap=.slice q' zs.length c':=e;simp only[Value.slice.injEq] at e';exact e'.2.1
 subst hn;have uB:blkR (⟨p,some ⟨g,off,none⟩,zs.length,cap⟩:rlv.RL)=some g:=rfl;have Hi:=OwnM.lt hO g rfl;have hF:=(h1.far _ hx g (by rw[hp];rfl)).2.2
 obtain⟨C,D,eC,lC⟩:=zLR hkl;generalize zs[k]=rr at eC;have uL:OwnM wr V.heap.size 51 5 (.slice (some ⟨g,off,none⟩) zs.length cap) zs.length (flat (C++rr::D)):=by rw[←eC];exact hO
 have hN:=zOF a b c d e uL;rw[lC] at hN;have PA:zs.set k ⟨a,b,c,d,e⟩=C++⟨a,b,c,d,e⟩::D:=by
  rw[eC,←lC];exact zDp C rr _ D
 have dS:upP ⟨a,b,c,d,e⟩ PS[jj]=(PS[jj].1,C++⟨a,b,c,d,e⟩::D):=by
  rw[hp];unfold upP upR;simp only[];rw[hk,if_neg (by omega),Int.toNat_natCast,PA]
 have Hh:(C++(⟨a,b,c,d,e⟩:R)::D).length=zs.length:=by rw[←PA,List.length_set]
 obtain⟨qa',qb',k1,k2,k3⟩:=h1.set (zs:=C++⟨a,b,c,d,e⟩::D) e2 (by rw[hp,uB];exact Hy) (by
  rw[hp];show OwnM _ _ _ _ _ _ _
  rw[Hh];exact hN)
 refine⟨h.below.grown Hy h.below.size (fun z hz=>by cases hz;exact Hi.1),?_,?_,qa',qb',k1,?_,k3.trans h3⟩
 ·rw[Hy.block F (gzE.1 h.row).1 (by simp;omega)];exact h.row
 ·exact zAm h.cat Hy (fun z hz e=>by have:=(OwnM.lt h.cat z hz).1;simp at e;omega)
 ·rw[k2,List.take_succ_eq_append_getElem hj,jF,jS];simp[dS]
end swp
namespace bok
open Go.RowKit spn que sid
theorem hidB{P:Prop}(h:P):Hid P:=h
theorem wBg(q1 q2:Option Addr)(n1 n2 c1 c2:Nat)(bs ss:List L)(id:Int)(w:World)(h1:LS w (.slice q1 n1 c1) bs)(h2:LS w (.slice q2 n2 c2) ss)(h0:¬zAc bs ss=0) :
  Calls prog 60 #[.agg #[.slice q1 n1 c1,.slice q2 n2 c2],.int .i64 id] w fun e w'=>e=.returned (.tuple #[.int .i64 0,.int .i64 0,.agg #[.int .i64 0,.int .i64 0,.int .i64 0,.int .i64 0,.int .i64 0],.iface 90 (.int .i64 (zAc bs ss))])∧Bw w w':=by
 have gN:=fun W(hW:Bw w W)=>wAf q1 q2 n1 n2 c1 c2 bs ss W (h1.below hW) (h2.below hW)
 rw[wAb h0] at gN;generalize zAc bs ss=K at *;obtain⟨V,hV⟩:∃V,V=(w.alloc (.cells #[.slice q1 n1 c1,.slice q2 n2 c2] 57)).alloc (.cells #[.int .i64 0,.int .i64 0,.int .i64 0,.int .i64 0,.int .i64 0] 51):=⟨_,rfl⟩;have HB:Hid (Bw w V):=by rw[hV];exact((bzR _ _).alloc (nzR _) _).alloc (by simp) _
 have v0:V.cell? ⟨w.heap.size,0,none⟩=some (.slice q1 n1 c1):=by rw[hV];simp[go_sem]
 have v1:V.cell? ⟨w.heap.size,1,none⟩=some (.slice q2 n2 c2):=by rw[hV];simp[go_sem]
 have hR:V.heap[w.heap.size+1]?=some (.cells #[.int .i64 0,.int .i64 0,.int .i64 0,.int .i64 0,.int .i64 0] 51 (0,0)):=by
  rw[hV];have:=jA (w.alloc (.cells #[.slice q1 n1 c1,.slice q2 n2 c2] 57)) (.cells #[.int .i64 0,.int .i64 0,.int .i64 0,.int .i64 0,.int .i64 0] 51);simpa using this
 have gp:w.heap.size+1<V.heap.size:=(gzE.1 hR).1;clear h1 h2;go_enter func60,ntmps60;go_wp2_with fail;rw[←hV];refine(gN V HB.out).mono ?_;rintro x w1⟨rfl,b1⟩;have Gd:=HB.out.trans (b1.mono HB.out.size);have gh:w1.heap[w.heap.size+1]?=some (.cells #[.int .i64 0,.int .i64 0,.int .i64 0,.int .i64 0,.int .i64 0] 51 (0,0)):=by rw[b1.block _ gp];exact hR
 obtain⟨e0,e1,e2,e3,e4,gB⟩:=zAi gh;have f0:=gB 0;have f1:=gB 1;have f2:=gB 2;have f3:=gB 3;have f4:=gB 4;have Hx:=hidB (zBd gh (.int .i64 0) (.int .i64 0) (.int .i64 0) (.int .i64 0) (.int .i64 0));have hg:=zBW w1 (w.heap.size+1) (.int .i64 0) (.int .i64 0) (.int .i64 0) (.int .i64 0) (.int .i64 0);have GA:=hidB (Gd.grown hg Gd.size (fun k hk=>by cases hk;omega))
 clear b1 gN v0 v1 hR hV gB gh hg Gd;go_wp2_with fail;generalize (((((w1.setCell ⟨w.heap.size+1,0,none⟩ (.int .i64 0)).setCell ⟨w.heap.size+1,1,none⟩ (.int .i64 0)).setCell ⟨w.heap.size+1,2,none⟩ (.int .i64 0)).setCell ⟨w.heap.size+1,3,none⟩ (.int .i64 0)).setCell ⟨w.heap.size+1,4,none⟩ (.int .i64 0))=X at *;obtain⟨y0,y1,y2,y3,y4,-⟩:=zAi Hx.out;exact jN (v:=.tuple #[.int .i64 0,.int .i64 0,.agg #[.int .i64 0,.int .i64 0,.int .i64 0,.int .i64 0,.int .i64 0],.iface 90 (.int .i64 K)]) (by simp[results,results60,go_sem,y0,y1,y2,y3,y4]) rfl ⟨rfl,GA.out⟩
end bok
end Go.Proofs.YtnfilcpnneckkaaGreat
