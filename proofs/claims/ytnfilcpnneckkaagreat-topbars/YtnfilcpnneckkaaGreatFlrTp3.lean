import Derived.Test.YtnfilcpnneckkaaGreatFlrWf
namespace Go.Proofs.YtnfilcpnneckkaaGreat
namespace flr
open Go.RowKit que sid mee
open ord (O oV chk prB mB)
open bok (zAc zAg)
open kin (setB setS setG setE zBB zBw mayK)
open slf (V Fine sE lfV gnV repB repS)
open mrg (resv forC forS zBp zBJ zBK zBx zCw zCx putC putS)
open pur (Pz Ok ix on on_at zEr adC adH adS adT)
def sumI{α:Type}(f:α→Int):List α→Int
 | []=>0
 | x::t=>f x+sumI f t
def prs(ls:List L):List (Int × R):=ls.flatMap fun l=>l.rests.map fun r=>(l.price,r)
theorem zAW(l:L)(t:List L):prs (l::t)=l.rests.map (fun r=>(l.price,r))++prs t:=by simp[prs]
theorem zAO(a b:List L):prs (a++b)=prs a++prs b:=by simp[prs]
theorem zHX(ls:List L):(prs ls).map (·.2)=allR ls:=by
 induction ls with
 | nil=>rfl
 | cons l t ih=>rw[zAW,zAp,jF,ih,List.map_map];congr 1;induction l.rests with
  | nil=>rfl
  | cons r u ih=>simp[ih]
theorem zDj(p:Int)(z:List R)(t:List L):prs (zAw p z t)=z.map (fun r=>(p,r))++prs t:=by
 unfold mee.zAw;split
 ·rename_i h;rw[h];rfl
 ·rw[zAW]
def tq(r:R):Int:=r.qty+r.hid
def rC(j:Int)(x:Int × R):Int:=if x.2.who=j then x.1*tq x.2 else 0
def rS(j:Int)(x:Int × R):Int:=if x.2.who=j then tq x.2 else 0
def oC(j:Int)(o:O):Int:=if o.who=j∧o.side=1 then resv o*o.qty else 0
def oS(j:Int)(o:O):Int:=if o.who=j∧¬o.side=1 then o.qty else 0
end flr
namespace sms
open Go.RowKit spn pur
def sumC(ps:List Pz):Int:=(ps.map (·.cash)).sum
def sumS(ps:List Pz):Int:=(ps.map (·.stock)).sum
section
variable {ps:List Pz}{k:Nat}
end
end sms
namespace flr
open Go.RowKit que sid mee
open ord (O oV chk prB mB)
open bok (zAc zAg)
open kin (setB setS setG setE zBB zBw mayK)
open slf (V Fine sE lfV gnV repB repS)
open mrg (resv forC forS zBp zBJ zBK zBx zCw zCx putC putS)
open pur (Pz Ok ix on on_at zEr adC adH adS adT)
open sms (sumC sumS)
theorem ix_lt{a:Int}(h1:1≤a)(h2:a≤9):ix a<9:=by unfold pur.ix;omega
structure IV (s:TS) (c d:Int→Int):Prop where
 wf:Wf s
 held:∀j,1≤j→j≤9→(s.ps[ix j]!).held=sumI (rC j) (prs s.bs)+sumI (oC j) s.ws+sumI (fun x:Sl=>oC j x.o) s.row+c j
 hs:∀j,1≤j→j≤9→(s.ps[ix j]!).hs=sumI (rS j) (prs s.ss)+sumI (oS j) s.ws+sumI (fun x:Sl=>oS j x.o) s.row+d j
 wck:∀o∈s.ws,chk o=0
 rck:∀x∈s.row,chk x.o=0
 last:s.last=0∨prB s.last=true
 evs:¬s.mode=0→∀e∈s.evs,e.what=2→¬e.tr.frm=e.tr.into
theorem zPq{bs ss:List L}{id s p:Int}{r:R}{i k:Nat}(h:swp.At bs ss id s p r i k):(p,r)∈prs (if s=1 then bs else ss)∧(s=1∨s=2):=by
 refine⟨?_,h.side⟩;obtain⟨ls,hS,hp,hr⟩:=h;have hi:=hS.hi;have hk:=hS.hk;have hx:(p,r)∈prs ls:=by
  unfold prs;exact List.mem_flatMap.2 ⟨ls[i],jT hi,List.mem_map.2 ⟨_,jT hk,by rw[hp,hr]⟩⟩
 clear hp hr;rcases hS.side with ⟨rfl,rfl,-⟩|⟨rfl,rfl,-⟩
 ·rw[if_pos rfl];exact hx
 ·rw[if_neg (by decide)];exact hx
end flr
namespace flr
open Go.RowKit que sid mee
open ord (O oV chk prB mB)
open bok (zAc zAg)
open kin (setB setS setG setE zBB zBw mayK)
open slf (V Fine sE lfV gnV repB repS)
open mrg (resv forC forS zBp zBJ zBK zBx zCw zCx putC putS zPg bkC)
open pur (Pz Ok ix on on_at zEr adC adH adS adT)
open sms (sumC sumS)
theorem zRr{o:O}(h:chk o=0):chk (wak.zst o)=0:=by
 obtain⟨h1,h2,h3,h4,-⟩:=ord.zBC h;unfold ord.chk;have e1:ord.zCJ (wak.zst o)=ord.zCJ o:=rfl;have e2:ord.zAL (wak.zst o)=ord.zAL o:=rfl;have e3:ord.qtyB (wak.zst o)=ord.qtyB o:=rfl;have e4:ord.shapeB (wak.zst o)=ord.shapeB o:=rfl;have e5:ord.zFr (wak.zst o)=true:=rfl;rw[e1,e2,e3,e4,e5,h1,h2,h3,h4];rfl
theorem zHY{bs ss:List L}(h:zAc bs ss=0){x y:Int × R}(hx:x∈prs bs)(hy:y∈prs ss):¬x.2.id=y.2.id:=by
 obtain⟨-,-,-,ht,-⟩:=bok.zAh h;have hn:((allR bs++allR ss).map (·.id)).Nodup:=by unfold bok.zAM at ht;simpa using ht
 rw[jF] at hn;intro e;have h1:x.2.id∈(allR bs).map (·.id):=List.mem_map.2 ⟨x.2,by rw[←zHX];exact List.mem_map.2 ⟨x,hx,rfl⟩,rfl⟩
 have h2:y.2.id∈(allR ss).map (·.id):=List.mem_map.2 ⟨y.2,by rw[←zHX];exact List.mem_map.2 ⟨y,hy,rfl⟩,rfl⟩
 exact(List.nodup_append.1 hn).2.2 _ h1 _ h2 e
theorem zRs(o:O)(k:Int):tq (zBw o k)=k:=by unfold tq kin.zBw;simp only[];omega
theorem zMG{o:O}{v:V}(BH:v.left+sumT v.ts=o.qty):(zBB o (lfV v)=true∧resv o=o.price∧o.qty - (gnV v+setG o (lfV v)) - sumT v.ts=lfV v)∨(zBB o (lfV v)=false∧o.qty - (gnV v+setG o (lfV v)) - sumT v.ts=0):=by
 cases Gb:zBB o (lfV v) with
 | true=>
  left;have h1:=Gb;unfold kin.zBB at h1;simp only[Bool.and_eq_true,Bool.not_eq_true',beq_eq_false_iff_ne,ne_eq] at h1;refine⟨rfl,?_,?_⟩
  ·have h2:=h1.2;unfold kin.mayK at h2;simp only[Bool.or_eq_true,beq_iff_eq] at h2;unfold mrg.resv;rw[if_neg (by omega)]
  ·unfold kin.setG;rw[Gb,if_pos rfl];have h3:=h1.1;unfold slf.lfV at h3 ⊢;unfold slf.gnV;split at h3
   ·exact absurd rfl h3
   ·rename_i he;rw[if_neg he,if_neg he];omega
 | false=>
  right;refine⟨rfl,?_⟩;unfold kin.setG;rw[Gb];simp only[Bool.false_eq_true,if_false];unfold slf.lfV slf.gnV;split <;>omega
end flr
namespace flr
open Go.RowKit que sid mee
open ord (O oV chk prB mB)
open bok (zAc zAg)
open mrg (resv forC forS zBp zBJ zBK putC putS)
open pur (Pz Ok ix)
open sms (sumC sumS)
structure IZ (s s1:TS):Prop where
 iv:IV s1 (fun _=>0) (fun _=>0)
 c:sumC s1.ps=sumC s.ps
 s:sumS s1.ps=sumS s.ps
theorem zHf{α:Type}[Inhabited α](l:List α)(k:Nat)(h:k<l.length):l.drop k=l[k]!::l.drop (k+1):=by
 rw[List.drop_eq_getElem_cons h];simp[h]
end flr
namespace flr
open Go.RowKit que sid mee
open ord (O oV chk prB mB)
open bok (zAc zAg)
open mrg (resv forC forS zBp zBJ zBK putC putS)
open pur (Pz Ok ix newL)
open sms (sumC sumS)
theorem zRt(r:R)(q:Int):tq (swp.zAI r q)=q:=by unfold tq swp.zAI;simp only[];omega
theorem zEB:∀ (n:Nat) {s s1:TS},Wf s→s.row.length+s.ws.length≤n→zBy n s=.ok s1→s1.row=[]
 | 0,s,s1,_,hn,e=>by cases e;exact List.eq_nil_of_length_eq_zero (by omega)
 | n+1,s,s1,h,hn,e=>by
  cases hr:s.row with
  | nil=>rw[zBF _ _ hr] at e;cases e;exact hr
  | cons x t=>
   rw[zBq _ _ hr] at e;obtain⟨s2,e1,e⟩:=zAk e;have hw:Wf (tell { s with row:=t } 4 x.o.id x.o.qty x.p):=⟨h.m0,h.m3,h.book,h.ok,h.ws⟩
   have g:=zGb hw e1;have h3:(tell { s with row:=t } 4 x.o.id x.o.qty x.p).row.length+(tell { s with row:=t } 4 x.o.id x.o.qty x.p).ws.length=t.length+s.ws.length:=rfl
   have h4:=g.row;rw[hr] at hn;simp only[jG] at hn;exact zEB n g.wf (by omega) e
structure FI (f:FS) (c s:Int):Prop where
 iv:IV (zBz f) (fun _=>0) (fun _=>0)
 c:sumC f.ps=c
 s:sumS f.ps=s
theorem new_iv{m:Int}(h0:0≤m)(h3:m≤3):FI ⟨m,0,[],[],[],newL 9⟩ 0 0:=by
 refine⟨⟨⟨h0,h3,(show zAc [] []=0 by decide),pur.zRc,jL _⟩,fun j a b=>?_,fun j a b=>?_,(fun x hx=>by cases hx),(fun x hx=>by cases hx),.inl rfl,(fun _ x hx=>by cases hx)⟩,rfl,rfl⟩
 ·show ((newL 9)[ix j]!).held=_
  rw[pur.zDx 9 (ix j) (ix_lt a b)];rfl
 ·show ((newL 9)[ix j]!).hs=_
  rw[pur.zDx 9 (ix j) (ix_lt a b)];rfl
def bIds(bs ss:List L):List Int:=(allR bs++allR ss).map (·.id)
theorem zQb{bs ss:List L}{id:Int}:zAg bs ss id=true↔id∈bIds bs ss:=by
 unfold bok.zAg bIds;rw[decide_eq_true_iff,zBf,zBf,jF,List.mem_append]
theorem zIR{s:Int}{ls:List L}(h:schk s ls=0):∀x∈prs ls,1≤x.1∧x.1≤10000∧rchk x.2=0:=by
 intro x hx;unfold prs at hx;obtain⟨l,hl,hx⟩:=List.mem_flatMap.1 hx;obtain⟨r,hr,rfl⟩:=List.mem_map.1 hx;obtain⟨h1,h2,h3⟩:=zAf (zAs (zAe h).2.1 l hl);exact⟨h1.1,h1.2,((zAn _).1 h3).2.1 r hr⟩
theorem tq_nn{r:R}(h:rchk r=0):0≤tq r:=by have:=mrg.zDy h;unfold tq;omega
theorem zMH(id:Int):∀ (ws:List O),id∈ws.map (·.id)→∃a o b,ws=a++o::b∧o.id=id∧wak.idx id ws=a.length
 | [],h=>by cases h
 | o::t,h=>by
  rw[wak.wAL];by_cases ho:o.id=id
  ·rw[if_pos ho];exact⟨[],o,t,rfl,ho,rfl⟩
  ·rw[if_neg ho];have ht:id∈t.map (·.id):=by
    rcases List.mem_cons.1 h with h|h
    ·exact absurd h.symm ho
    ·exact h
   obtain⟨a,x,b,e1,e2,e3⟩:=zMH id t ht;refine⟨o::a,x,b,by rw[e1];rfl,e2,?_⟩
   rw[e3,if_neg (by omega),jG];omega
end flr
namespace flr
open Go.RowKit que sid mee
open ord (O oV chk prB mB)
open bok (zAc zAg)
open kin (setB setS setG setE zBB zBw mayK)
open slf (V Fine sE lfV gnV repB repS zAR)
abbrev Mp:=Int→Int × Int
def zBZ(t:Mp)(id:Int):Mp:=fun j=>if j=id then (0,(t j).2) else t j
def mTrd(t:Mp)(x:T):Mp:=fun j=>if j=x.maker then (max 0 ((t j).1 - x.qty),(t j).2) else t j
def mPut(t:Mp)(id q p:Int):Mp:=fun j=>if j=id then (q,p) else t j
def mEv(t:Mp)(e:Ev):Mp:=if e.what=1 then mPut t e.id e.qty e.price else if e.what=2 then mTrd t e.tr else if e.what=3 then zBZ t e.id else t
def mEvs(t:Mp)(l:List Ev):Mp:=l.foldl mEv t
theorem zCR(t:Mp)(a b:List Ev):mEvs t (a++b)=mEvs (mEvs t a) b:=List.foldl_append
theorem zDB{t:Mp}{id j:Int}(h:¬j=id):zBZ t id j=t j:=if_neg h
theorem zGd(t:Mp)(id:Int):(zBZ t id id).1=0:=by unfold zBZ;rw[if_pos rfl]
theorem trd_ne{t:Mp}{x:T}{j:Int}(h:¬j=x.maker):mTrd t x j=t j:=if_neg h
theorem zPr(t:Mp)(x:T)(id:Int)(hx:0≤x.qty):zBZ (mTrd t x) id=mTrd (zBZ t id) x:=by
 funext j
 unfold zBZ mTrd;by_cases h1:j=id
 ·simp only[if_pos h1];by_cases h2:j=x.maker
  ·simp only[if_pos h2]
   congr 1
   omega
  ·simp only[if_neg h2]
 ·simp only[if_neg h1]
theorem zHg(id:Int):∀ (ts:List T) (t:Mp),(∀x∈ts,0≤x.qty)→zBZ (ts.foldl mTrd t) id=ts.foldl mTrd (zBZ t id)
 | [],_,_=>rfl
 | x::ts,t,h=>by
  rw[List.foldl_cons,List.foldl_cons,←zPr t x id (h x (by simp))]
  exact zHg id ts _ (fun y hy=>h y (by simp[hy]))
def pid(x:Int × R):Int:=x.2.id
def Kn(t:Mp)(X:List (Int × R)):Prop:=∀x∈X,t (pid x)=(tq x.2,x.1)
def mVis(t:Mp)(v:V):Mp:=v.ids.foldl zBZ (v.ts.foldl mTrd t)
structure Told (t:Mp) (X:List (Int × R)) (t2:Mp) (Y:List (Int × R)):Prop where
 kn:Kn t2 Y
 sub:∀x∈Y,pid x∈X.map pid
 out:∀id∈X.map pid,id ∉ Y.map pid→(t2 id).1=0
 else_:∀id,id ∉ X.map pid→t2 id=t id
theorem Told.refl{t:Mp}{X:List (Int × R)}(h:Kn t X):Told t X t X:=⟨h,fun _ hx=>List.mem_map_of_mem hx,fun _ h1 h2=>absurd h1 h2,fun _ _=>rfl⟩
theorem Told.trans{a b c:Mp}{X Y Z:List (Int × R)}(h:Told a X b Y)(k:Told b Y c Z):Told a X c Z:=by
 refine⟨k.kn,fun z hz=>?_,fun id h1 h2=>?_,fun id h1=>?_⟩
 ·obtain⟨y,hy,e⟩:=List.mem_map.1 (k.sub z hz);rw[←e];exact h.sub y hy
 ·by_cases hy:id∈Y.map pid
  ·exact k.out id hy h2
  ·rw[k.else_ id hy];exact h.out id h1 hy
 ·have hy:id ∉ Y.map pid:=fun x=>by
   obtain⟨y,hy,e⟩:=List.mem_map.1 x;exact h1 (e ▸ h.sub y hy)
  rw[k.else_ id hy,h.else_ id h1]
theorem zGe{t t2:Mp}{a:Int × R}{Y Z:List (Int × R)}(h:Kn t (a::Y))(hn:((a::Y).map pid).Nodup)(he:∀j,¬j=pid a→t2 j=t j)
  (hz:(Z.Perm Y∧(t2 (pid a)).1=0)∨∃b,Z.Perm (b::Y)∧pid b=pid a∧t2 (pid a)=(tq b.2,b.1)):Told t (a::Y) t2 Z:=by
 rw[jK,List.nodup_cons] at hn;have hY:Kn t2 Y:=fun x hx=>by
  rw[he (pid x) (fun e=>hn.1 (e ▸ List.mem_map_of_mem hx))]
  exact h x (List.mem_cons_of_mem _ hx)
 rcases hz with ⟨hp,h0⟩|⟨b,hp,hb,hv⟩
 ·refine⟨fun x hx=>hY x (hp.mem_iff.1 hx),fun x hx=>?_,fun id h1 h2=>?_,fun id h1=>?_⟩
  ·rw[jK];exact List.mem_cons_of_mem _ (List.mem_map_of_mem (hp.mem_iff.1 hx))
  ·rw[jK] at h1;rcases List.mem_cons.1 h1 with rfl|h1
   ·exact h0
   ·exact absurd ((hp.map pid).mem_iff.2 h1) h2
  ·exact he id (fun e=>h1 (by rw[e,jK];exact List.mem_cons_self))
 ·refine⟨fun x hx=>?_,fun x hx=>?_,fun id h1 h2=>?_,fun id h1=>?_⟩
  ·rcases List.mem_cons.1 (hp.mem_iff.1 hx) with rfl|hx
   ·rw[hb];exact hv
   ·exact hY x hx
  ·rw[jK];rcases List.mem_cons.1 (hp.mem_iff.1 hx) with rfl|hx
   ·rw[hb];exact List.mem_cons_self
   ·exact List.mem_cons_of_mem _ (List.mem_map_of_mem hx)
  ·refine absurd ((hp.map pid).mem_iff.2 ?_) h2;rw[jK,hb]
   rwa [jK] at h1
  ·exact he id (fun e=>h1 (by rw[e,jK];exact List.mem_cons_self))
theorem zHh{a:Int × R}{Y Z:List (Int × R)}(hn:((a::Y).map pid).Nodup)(hz:Z.Perm Y∨∃b,Z.Perm (b::Y)∧pid b=pid a):(Z.map pid).Nodup:=by
 rcases hz with hp|⟨b,hp,hb⟩
 ·rw[jK,List.nodup_cons] at hn;exact(hp.map pid).nodup_iff.2 hn.2
 ·refine(hp.map pid).nodup_iff.2 ?_;rw[jK,hb,←jK];exact hn
theorem zPs{m:Int}{o:O}{ls:List L}{k:Int}{v:V}(h:Fil m o ls k v):(∀l∈ls,lchk l=0)→((prs ls).map pid).Nodup→∀t,Kn t (prs ls)→Told t (prs ls) (mVis t v) (prs v.ls)∧∀x∈v.ts,0≤x.qty:=by
 induction h with
 | done=>exact fun _ _ t hk=>⟨Told.refl hk,fun _ hx=>by cases hx⟩
 | stop=>exact fun _ _ t hk=>⟨Told.refl hk,fun _ hx=>by cases hx⟩
 | taker=>exact fun _ _ t hk=>⟨Told.refl hk,fun _ hx=>by cases hx⟩
 | @maker p r rs t k v _ _ _ _ ih=>
  intro hl hn w hk;have e1:prs (⟨p,r::rs⟩::t)=(p,r)::prs (zAw p rs t):=by rw[zAW,zDj,jK,List.cons_append]
  rw[e1] at hn hk ⊢;have h1:Told w ((p,r)::prs (zAw p rs t)) (zBZ w r.id) (prs (zAw p rs t)):=
   zGe hk hn (fun j hj=>zDB hj) (.inl ⟨List.Perm.refl _,zGd w r.id⟩)
  obtain⟨h2,h3⟩:=ih (zAR hl) (zHh hn (.inl (List.Perm.refl _))) _ h1.kn;refine⟨?_,h3⟩;have e2:mVis w ⟨v.ls,v.ts,v.left,v.ends,r.id::v.ids⟩=mVis (zBZ w r.id) v:=by
   unfold mVis;rw[List.foldl_cons,zHg _ _ _ h3]
  rw[e2];exact h1.trans h2
 | @both p r rs t k _ _ _=>
  intro hl hn w hk;have e1:prs (⟨p,r::rs⟩::t)=(p,r)::prs (zAw p rs t):=by rw[zAW,zDj,jK,List.cons_append]
  rw[e1] at hn hk ⊢;exact⟨zGe hk hn (fun j hj=>zDB hj) (.inl ⟨List.Perm.refl _,zGd w r.id⟩),fun _ hx=>by cases hx⟩
 | @fill p r rs t k v h0 hb _ _ ih=>
  intro hl hn w hk;obtain⟨hp,-,hq⟩:=zAf (hl _ (List.mem_cons_self ..));have hr:=zBi hq;have H5:=mrg.zDy (((zAn _).1 hq).2.1 r (by simp))
  have e1:prs (⟨p,r::rs⟩::t)=(p,r)::prs (zAw p rs t):=by rw[zAW,zDj,jK,List.cons_append]
  obtain⟨x,hx⟩:∃x,x=trd o p ⟨r.id,r.who,min k r.qty⟩:=⟨_,rfl⟩;have cj:x.maker=r.id:=by rw[hx];unfold trd;split <;>rfl
  have hxq:x.qty=min k r.qty:=by rw[hx];unfold trd;split <;>rfl
  have hz:((prs (zAw p (tk1 (min k r.qty) r rs) t)).Perm (prs (zAw p rs t))∧(mTrd w x (pid (p,r))).1=0)∨∃b,(prs (zAw p (tk1 (min k r.qty) r rs) t)).Perm (b::prs (zAw p rs t))∧pid b=pid (p,r)∧mTrd w x (pid (p,r))=(tq b.2,b.1):=by
   rw[e1] at hk;have hw:w r.id=(tq r,p):=hk (p,r) (by simp)
   have hm:mTrd w x r.id=(max 0 (tq r - min k r.qty),p):=by unfold mTrd;rw[if_pos cj.symm,hw,hxq]
   have hm' : mTrd w x (pid (p,r))=(max 0 (tq r - min k r.qty),p):=hm;rw[hm',zDj,zDj];unfold que.tk1;by_cases c1:min k r.qty<r.qty
   ·rw[if_pos c1];refine .inr ⟨(p,{ r with qty:=r.qty - min k r.qty }),List.Perm.refl _,rfl,?_⟩
    unfold tq;simp only[]
    congr 1
    omega
   ·rw[if_neg c1];by_cases c2:r.hid=0
    ·rw[if_pos c2];refine .inl ⟨List.Perm.refl _,?_⟩;unfold tq;simp only[];omega
    ·rw[if_neg c2];refine .inr ⟨(p,{ r with qty:=min r.shw r.hid,hid:=r.hid - min r.shw r.hid }),?_,rfl,?_⟩
     ·rw[jF,jS];exact List.perm_middle
     ·unfold tq;simp only[]
      congr 1
      omega
  rw[e1] at hn hk ⊢;have h1:Told w ((p,r)::prs (zAw p rs t)) (mTrd w x) (prs (zAw p (tk1 (min k r.qty) r rs) t)):=
   zGe hk hn (fun j hj=>trd_ne (fun e=>hj (e.trans cj))) hz
  obtain⟨h2,h3⟩:=ih (zBj h0 hl) (zHh hn (hz.imp (·.1) (fun⟨b,c,d,_⟩=>⟨b,c,d⟩))) _ h1.kn
  refine⟨?_,fun y hy=>?_⟩
  ·have e2:mVis w ⟨v.ls,trd o p ⟨r.id,r.who,min k r.qty⟩::v.ts,v.left,v.ends,v.ids⟩=mVis (mTrd w x) v:=by
    unfold mVis;rw[List.foldl_cons,hx]
   rw[e2];exact h1.trans h2
  ·rcases List.mem_cons.1 hy with rfl|hy
   ·rw[←hx,hxq];omega
   ·exact h3 y hy
end flr
namespace flr
open Go.RowKit que sid mee
open ord (O oV chk prB mB)
open bok (zAc zAg)
open kin (setB setS setG setE zBB zBw mayK)
open slf (V Fine sE lfV gnV repB repS zAR)
open mrg (zBx zCw zCx zBp zBJ zBK)
def TBl(t:Mp)(W:List (Int × R)):Prop:=Kn t W∧∀id,id ∉ W.map pid→(t id).1=0
theorem TBl.perm{t:Mp}{W W' : List (Int × R)}(h:TBl t W)(p:W.Perm W'):TBl t W':=⟨fun x hx=>h.1 x (p.mem_iff.2 hx),fun id hid=>h.2 id (fun x=>hid ((p.map pid).mem_iff.1 x))⟩
theorem TBl.told{t t2:Mp}{X Y Z:List (Int × R)}(h:TBl t (X++Z))(hn:((X++Z).map pid).Nodup)(k:Told t X t2 Y):TBl t2 (Y++Z):=by
 rw[jF,List.nodup_append] at hn;refine⟨fun x hx=>?_,fun id hid=>?_⟩
 ·rcases List.mem_append.1 hx with hx|hx
  ·exact k.kn x hx
  ·rw[k.else_ (pid x) (fun e=>hn.2.2 _ e _ (List.mem_map_of_mem hx) rfl)]
   exact h.1 x (List.mem_append_right _ hx)
 ·rw[jF,List.mem_append,not_or] at hid;by_cases hX:id∈X.map pid
  ·exact k.out id hX hid.1
  ·rw[k.else_ id hX];refine h.2 id (fun e=>?_)
   rw[jF,List.mem_append] at e;exact e.elim hX hid.2
theorem TBl.put{t:Mp}{W:List (Int × R)}{x:Int × R}(h:TBl t W)(hid:pid x ∉ W.map pid):TBl (mPut t (pid x) (tq x.2) x.1) (x::W):=by
 refine⟨fun y hy=>?_,fun id hi=>?_⟩
 ·unfold mPut;rcases List.mem_cons.1 hy with rfl|hy
  ·rw[if_pos rfl]
  ·rw[if_neg (show ¬pid y=pid x from fun e=>hid (by rw[←e];exact List.mem_map_of_mem hy))];exact h.1 y hy
 ·rw[jK,List.mem_cons,not_or] at hi;unfold mPut;rw[if_neg hi.1];exact h.2 id hi.2
theorem TBl.drop{t:Mp}{W:List (Int × R)}{x:Int × R}(h:TBl t (x::W))(hn:pid x ∉ W.map pid):TBl (zBZ t (pid x)) W:=by
 refine⟨fun y hy=>?_,fun id hi=>?_⟩
 ·rw[zDB (show ¬pid y=pid x from fun e=>hn (by rw[←e];exact List.mem_map_of_mem hy))]
  exact h.1 y (List.mem_cons_of_mem _ hy)
 ·by_cases e:id=pid x
  ·rw[e];exact zGd t _
  ·rw[zDB e];refine h.2 id ?_;rw[jK,List.mem_cons,not_or];exact⟨e,hi⟩
theorem TBl.gone{t:Mp}{W:List (Int × R)}{id:Int}(h:TBl t W)(hn:id ∉ W.map pid):TBl (zBZ t id) W:=by
 refine⟨fun y hy=>?_,fun j hi=>?_⟩
 ·rw[zDB (show ¬pid y=id from fun e=>hn (by rw[←e];exact List.mem_map_of_mem hy))];exact h.1 y hy
 ·by_cases e:j=id
  ·rw[e];exact zGd t _
  ·rw[zDB e];exact h.2 j hi
def bp(bs ss:List L):List (Int × R):=prs bs++prs ss
theorem zGf(ls:List L):(prs ls).map pid=ids ls:=by
 rw[zBf,←zHX,List.map_map];rfl
theorem zDF(bs ss:List L):(bp bs ss).map pid=bIds bs ss:=by
 unfold bp bIds;rw[jF,jF,zGf,zGf,zBf,zBf]
theorem zGg{bs ss:List L}(h:zAc bs ss=0):((bp bs ss).map pid).Nodup:=by
 obtain⟨e1,e2,-⟩:=bok.zAh h;unfold bp;rw[jF,List.nodup_append];refine⟨by rw[zGf];exact(zAe e1).2.2.2,by rw[zGf];exact(zAe e2).2.2.2,fun a ha b hb e=>?_⟩
 obtain⟨x,hx,rfl⟩:=List.mem_map.1 ha;obtain⟨y,hy,rfl⟩:=List.mem_map.1 hb;exact zHY h hx hy e
theorem zIS(s p:Int)(r:R)(ls:List L):(prs (putL s p r ls)).Perm ((p,r)::prs ls):=by
 obtain⟨a,b,-,⟨zs,h1,h2⟩|⟨h1,h2,-⟩⟩:=zKY s p r ls
 ·rw[h1] at h2 ⊢;rw[h2];simp only[zAO,zAW,jF,jK,List.map_nil,jS,List.cons_append,jU];rw[←jS,←jS];exact List.perm_middle
 ·rw[h2,h1];simp only[zAO,zAW,jK,List.map_nil,List.cons_append,jU];exact List.perm_middle
def Me(t:Mp)(s:TS):Mp:=mEvs t s.evs
theorem zCA(t:Mp)(s:TS)(w id q p:Int):Me t (tell s w id q p)=mEv (Me t s) ⟨w,id,q,p,zeroT⟩:=by
 unfold Me tell;rw[zCR];rfl
structure Sme (a b:TS):Prop where
 bs:b.bs=a.bs
 ss:b.ss=a.ss
 ws:b.ws=a.ws
 row:b.row=a.row
 mode:b.mode=a.mode
theorem Sme.trans{a b c:TS}(h:Sme a b)(k:Sme b c):Sme a c:=⟨k.bs.trans h.bs,k.ss.trans h.ss,k.ws.trans h.ws,k.row.trans h.row,k.mode.trans h.mode⟩
theorem zEC{s s1:TS}{w c d:Int}(t:Mp)(e:zBY s w c d=.ok s1):Me t s1=Me t s∧Sme s s1:=by
 unfold zBY at e;split at e
 ·cases e;exact⟨rfl,rfl,rfl,rfl,rfl,rfl⟩
 ·cases e
theorem zMI{s s1:TS}{w c d:Int}(t:Mp)(e:zDz s w c d=.ok s1):Me t s1=Me t s∧Sme s s1:=by
 unfold zDz at e;split at e
 ·cases e;exact⟨rfl,rfl,rfl,rfl,rfl,rfl⟩
 ·cases e
theorem zGh{s s1:TS}{r:R}{a p:Int}(t:Mp)(e:zCk s r a p=.ok s1):Me t s1=Me t s∧Sme s s1:=by
 unfold zCk at e;split at e
 ·exact zEC t e
 ·cases e
theorem zHZ{s s1:TS}{r:R}{a p:Int}(t:Mp)(e:part s r a p=.ok s1):Me t s1=zBZ (Me t s) r.id∧Sme s s1:=by
 unfold part at e;obtain⟨s2,e1,e2⟩:=zAk e;obtain⟨h1,h2⟩:=zGh t e1;cases e2;refine⟨?_,h2.bs,h2.ss,h2.ws,h2.row,h2.mode⟩;rw[zCA,h1];rfl
theorem zED(t:Mp):∀ (ts:List T) {s s1:TS},trades s ts=.ok s1→Me t s1=ts.foldl mTrd (Me t s)∧Sme s s1
 | [],s,s1,e=>by cases e;exact⟨rfl,rfl,rfl,rfl,rfl,rfl⟩
 | x::ts,s,s1,e=>by
  obtain⟨s2,e1,e2⟩:=zAk e;unfold trade1 at e1;split at e1
  ·cases e1;obtain⟨h1,h2⟩:=zED t ts e2;refine⟨?_,h2.bs,h2.ss,h2.ws,h2.row,h2.mode⟩;rw[h1,List.foldl_cons]
   congr 1
   unfold Me;rw[zCR];rfl
  ·cases e1
theorem zIT(t:Mp):∀ (l:List Int) {s s1:TS},zAc s.bs s.ss=0→parts s l=.ok s1→Me t s1=l.foldl zBZ (Me t s)∧Sme s s1
 | [],s,s1,_,e=>by cases e;exact⟨rfl,rfl,rfl,rfl,rfl,rfl⟩
 | x::l,s,s1,hb,e=>by
  obtain⟨s2,e1,e2⟩:=zAk e;unfold zDE at e1;split at e1
  ·rename_i Hv
   obtain⟨h1,h2⟩:=zHZ t e1;have hid:(spot s.bs s.ss x).r.id=x:=swp.At.id (wAs hb Hv);rw[hid] at h1;obtain⟨h3,h4⟩:=zIT t l (by rw[h2.bs,h2.ss];exact hb) e2
   exact⟨by rw[h3,h1];rfl,h2.trans h4⟩
  ·cases e1
theorem zHi(t:Mp){s s1:TS}{o:O}(hw:Wf s)(hv:vE s.mode s.bs s.ss o=0)(h:TBl (Me t s) (bp s.bs s.ss))(e:settle s o (vR s.mode s.bs s.ss o)=.ok s1) :
  TBl (Me t s1) (bp s1.bs s1.ss)∧(∃s0,s0.ws=s.ws∧s0.row=s.row∧s0.mode=s.mode∧s0.bs=s1.bs∧s0.ss=s1.ss∧zCQ s0 (vR s.mode s.bs s.ss o).ts=.ok s1)∧∀id∈bIds s1.bs s1.ss,id=o.id∨id∈bIds s.bs s.ss:=by
 obtain⟨v,hf⟩:=zHc hw.m0 hw.m3 hv;have BH:=hf.ff;have uB:=hw.book;obtain⟨-,gI,-,M8⟩:=zAG hf.come;have hod:=wAp hf.come;have uN:=zGg uB;have kb:∃Z,(bp s.bs s.ss).Perm (prs (zAr s.bs s.ss o)++Z)∧(bp (repB o s.bs v.ls) (repS o s.ss v.ls)).Perm (prs v.ls++Z):=by
  unfold bp zAr slf.repB slf.repS;by_cases hs:o.side=1
  ·simp only[if_pos hs];exact⟨prs s.bs,List.perm_append_comm,List.perm_append_comm⟩
  ·simp only[if_neg hs];exact⟨prs s.ss,List.Perm.refl _,List.Perm.refl _⟩
 obtain⟨Z,p1,p2⟩:=kb;have CM:((prs (zAr s.bs s.ss o)++Z).map pid).Nodup:=(p1.map pid).nodup_iff.1 uN;have hndY:((prs (zAr s.bs s.ss o)).map pid).Nodup:=by rw[jF,List.nodup_append] at CM;exact CM.1
 have hX:=h.perm p1;have cg:=(zPs hf.fil hod hndY (Me t s) (fun x hx=>hX.1 x (List.mem_append_left _ hx))).1
 have h1:TBl (mVis (Me t s) v) (bp (repB o s.bs v.ls) (repS o s.ss v.ls)):=(hX.told CM cg).perm p2.symm;have me:∀id∈(bp (repB o s.bs v.ls) (repS o s.ss v.ls)).map pid,id∈(bp s.bs s.ss).map pid:=fun id hi=>by
  have h2:=(p2.map pid).mem_iff.1 hi;refine(p1.map pid).mem_iff.2 ?_;rw[jF,List.mem_append] at h2 ⊢;refine h2.imp (fun x=>?_) (fun x=>x)
  obtain⟨y,hy,rfl⟩:=List.mem_map.1 x;exact cg.sub y hy
 have EP:o.id ∉ (bp s.bs s.ss).map pid:=fun x=>by
  rw[zDF] at x;rw[zQb.2 x] at M8;cases M8
 have Ps:=fun x=>EP (me o.id x)
 rw[hf.is] at e ⊢;unfold settle at e;obtain⟨s2,e1,e⟩:=zAk e;obtain⟨a1,b1⟩:=zED t _ e1;split at e
 ·obtain⟨s3,e2,e⟩:=zAk e;obtain⟨a2,b2⟩:=zEC t e2;obtain⟨s4,e3,e⟩:=zAk e;have b12:=b1.trans b2;obtain⟨a3,b3⟩:=zIT t _ (by rw[b12.bs,b12.ss];exact uB) e3
  have b:=b12.trans b3;have hM:Me t s4=mVis (Me t s) v:=by rw[a3,a2,a1];rfl
  obtain⟨s5,UF⟩:∃s5,s5=zAv { s4 with bs:=setB (repB o s.bs v.ls) o (lfV v),ss:=setS (repS o s.ss v.ls) o (lfV v) } o ⟨setB (repB o s.bs v.ls) o (lfV v),setS (repS o s.ss v.ls) o (lfV v),v.ts,gnV v+setG o (lfV v),v.ids⟩:=⟨_,rfl⟩
  have e' : zCQ s5 v.ts=.ok s1:=by rw[UF];exact e
  have hg:TBl (Me t (zAA { s4 with bs:=setB (repB o s.bs v.ls) o (lfV v),ss:=setS (repS o s.ss v.ls) o (lfV v) } o ⟨setB (repB o s.bs v.ls) o (lfV v),setS (repS o s.ss v.ls) o (lfV v),v.ts,gnV v+setG o (lfV v),v.ids⟩)) (bp (repB o s.bs v.ls) (repS o s.ss v.ls)):=by
   unfold zAA;split
   ·rw[zCA];show TBl (zBZ (Me t s4) o.id) _
    rw[hM];exact h1.gone Ps
   ·show TBl (Me t s4) _
    rw[hM];exact h1
  have h5:TBl (Me t s5) (bp (setB (repB o s.bs v.ls) o (lfV v)) (setS (repS o s.ss v.ls) o (lfV v)))∧(∀id∈(bp (setB (repB o s.bs v.ls) o (lfV v)) (setS (repS o s.ss v.ls) o (lfV v))).map pid,id=o.id∨id∈(bp s.bs s.ss).map pid):=by
   have hr:zHb o ⟨setB (repB o s.bs v.ls) o (lfV v),setS (repS o s.ss v.ls) o (lfV v),v.ts,gnV v+setG o (lfV v),v.ids⟩=o.qty - (gnV v+setG o (lfV v)) - sumT v.ts:=rfl;rw[UF];unfold zAv;rw[hr];rcases zMG BH.sum with ⟨Gb,-,hl⟩|⟨Gb,hl⟩
   ·rw[hl];have uz:0<lfV v:=by
     have h1:=Gb;unfold kin.zBB at h1;simp only[Bool.and_eq_true,Bool.not_eq_true',beq_eq_false_iff_ne,ne_eq] at h1;have h2:=BH.left;have h3:=h1.1;unfold slf.lfV at h3 ⊢;split at h3
     ·exact absurd rfl h3
     ·rename_i he;rw[if_neg he];omega
    rw[if_pos uz,zCA];have B0:(bp (setB (repB o s.bs v.ls) o (lfV v)) (setS (repS o s.ss v.ls) o (lfV v))).Perm ((o.price,zBw o (lfV v))::bp (repB o s.bs v.ls) (repS o s.ss v.ls)):=by
     unfold bp kin.setB kin.setS;rw[if_pos Gb,if_pos Gb];unfold bok.put1 bok.put2;by_cases hs:o.side=1
     ·rw[if_pos hs,if_pos hs];exact(zIS _ _ _ _).append_right _
     ·rw[if_neg hs,if_neg hs];exact((zIS _ _ _ _).append_left _).trans List.perm_middle
    have uU:=hg.put (x:=(o.price,zBw o (lfV v))) Ps;refine⟨?_,fun id hi=>?_⟩
    ·have hq:tq (zBw o (lfV v))=lfV v:=zRs o _;have:mPut (Me t (zAA { s4 with bs:=setB (repB o s.bs v.ls) o (lfV v),ss:=setS (repS o s.ss v.ls) o (lfV v) } o ⟨setB (repB o s.bs v.ls) o (lfV v),setS (repS o s.ss v.ls) o (lfV v),v.ts,gnV v+setG o (lfV v),v.ids⟩)) (pid (o.price,zBw o (lfV v))) (tq (o.price,zBw o (lfV v)).2) (o.price,zBw o (lfV v)).1=mPut (Me t (zAA { s4 with bs:=setB (repB o s.bs v.ls) o (lfV v),ss:=setS (repS o s.ss v.ls) o (lfV v) } o ⟨setB (repB o s.bs v.ls) o (lfV v),setS (repS o s.ss v.ls) o (lfV v),v.ts,gnV v+setG o (lfV v),v.ids⟩)) o.id (lfV v) o.price:=(by rw[show tq (o.price,zBw o (lfV v)).2=lfV v from hq];rfl);rw[this] at uU;exact TBl.perm uU B0.symm
    ·have:=(B0.map pid).mem_iff.1 hi;rw[jK,List.mem_cons] at this;exact this.imp (fun x=>x) (me id)
   ·rw[hl,if_neg (by decide)]
    have e1:setB (repB o s.bs v.ls) o (lfV v)=repB o s.bs v.ls:=(by unfold kin.setB;rw[Gb,if_neg (by decide)]);have e2:setS (repS o s.ss v.ls) o (lfV v)=repS o s.ss v.ls:=(by unfold kin.setS;rw[Gb,if_neg (by decide)]);refine⟨?_,fun id hi=>.inr (me id ?_)⟩
    ·have Ge:=hg;rw[e1,e2] at Ge ⊢;exact Ge
    ·rw[e1,e2] at hi;exact hi
  have hk:Me t s1=Me t s5∧s1.bs=s5.bs∧s1.ss=s5.ss:=by
   unfold zCQ at e';split at e'
   ·cases e';exact⟨rfl,rfl,rfl⟩
   ·split at e'
    ·cases e';exact⟨rfl,rfl,rfl⟩
    ·cases e'
  have uI:s5.bs=setB (repB o s.bs v.ls) o (lfV v)∧s5.ss=setS (repS o s.ss v.ls) o (lfV v)∧s5.ws=s.ws∧s5.row=s.row∧s5.mode=s.mode:=by
   rw[UF];unfold zAv zAA;split <;>split <;>exact⟨rfl,rfl,b.ws,b.row,b.mode⟩
  refine⟨?_,⟨s5,uI.2.2.1,uI.2.2.2.1,uI.2.2.2.2,hk.2.1.symm,hk.2.2.symm,e'⟩,fun id hi=>?_⟩
  ·rw[hk.1,hk.2.1,hk.2.2,uI.1,uI.2.1];exact h5.1
  ·rw[hk.2.1,hk.2.2,uI.1,uI.2.1,←zDF] at hi;rw[←zDF];exact h5.2 id hi
 ·cases e
end flr
namespace flr
open Go.RowKit que sid mee
open ord (O oV chk prB mB)
open bok (zAc zAg)
open mrg (zBp zBJ zBK forC forS)
def wIds(s:TS):List Int:=s.ws.map (·.id)++s.row.map (·.o.id)
structure TIt (t:Mp) (s:TS):Prop where
 tb:TBl (Me t s) (bp s.bs s.ss)
 nd:(wIds s).Nodup
 ap:∀id∈wIds s,id ∉ bIds s.bs s.ss
theorem zPt(p:Int)(ws:List O):((wak.left p ws).map (·.id)++(wak.woke p ws).map (·.id)).Perm (ws.map (·.id)):=by
 have h1:(wak.woke p ws).map (·.id)=(wak.srt p ws).map (·.id):=by unfold wak.woke;rw[List.map_map];rfl
 rw[h1,←jF];refine List.Perm.map _ ?_;unfold wak.left wak.srt;refine(List.perm_append_comm).trans (((wak.zDu _ _).append_right _).trans ?_);exact List.filter_append_perm (wak.wkB p) ws
theorem zMJ{s s1:TS}{ts:List T}(e:zCQ s ts=.ok s1):(wIds s1).Perm (wIds s):=by
 unfold zCQ at e;split at e
 ·cases e;exact List.Perm.refl _
 ·split at e
  ·cases e;unfold wIds;simp only[jF,List.map_map];generalize (ts[ts.length - 1]!).price=p;have h1:(wak.woke p s.ws).map ((fun x:Sl=>x.o.id) ∘ fun x=>(⟨x,p⟩:Sl))=(wak.woke p s.ws).map (·.id):=rfl
   rw[h1];have h2:=(zPt p s.ws).append_right (s.row.map (fun x:Sl=>x.o.id))
   refine List.Perm.trans ?_ h2;rw[jS];exact List.Perm.append_left _ List.perm_append_comm
  ·cases e
theorem zEE(t:Mp){s s1:TS}{o:O}(hw:Wf s)(h:TIt t s)(ho:o.id ∉ wIds s)(hv:vE s.mode s.bs s.ss o=0)(e:settle s o (vR s.mode s.bs s.ss o)=.ok s1):TIt t s1:=by
 obtain⟨h1,⟨s0,a,b,-,-,-,hk⟩,h3⟩:=zHi t hw hv h.tb e;have hp:=zMJ hk;have e0:wIds s0=wIds s:=by unfold wIds;rw[a,b]
 rw[e0] at hp;refine⟨h1,hp.nodup_iff.2 h.nd,fun id hi hb=>?_⟩
 have hi':=hp.mem_iff.1 hi;rcases h3 id hb with rfl|hb
 ·exact ho hi'
 ·exact h.ap id hi' hb
theorem TIt.like{t:Mp}{s s1:TS}(h:TIt t s)(hm:Me t s1=Me t s)(k:Sme s s1):TIt t s1:=by
 have e:wIds s1=wIds s:=by unfold wIds;rw[k.ws,k.row]
 exact⟨by rw[hm,k.bs,k.ss];exact h.tb,by rw[e];exact h.nd,by rw[e,k.bs,k.ss];exact h.ap⟩
theorem zEF(t:Mp){s s1:TS}{o:O}(h:TIt t s)(hb:o.id ∉ bIds s.bs s.ss)(e:vanish s o=.ok s1):TIt t s1:=by
 unfold vanish at e;split at e
 ·obtain⟨s2,e1,e2⟩:=zAk e;obtain⟨h1,k⟩:=zEC t e1;cases e2;have hi:=h.like h1 k;refine⟨?_,hi.nd,hi.ap⟩;rw[zCA];refine hi.tb.gone ?_;rw[zDF,k.bs,k.ss];exact hb
 ·cases e
theorem zRu(t:Mp){s s1:TS}{o:O}(hw:Wf s)(h:TIt t s)(ho:o.id ∉ wIds s)(hb:o.id ∉ bIds s.bs s.ss)(e:rise s o=.ok s1):TIt t s1:=by
 unfold rise at e;split at e
 ·rename_i hv;exact zEE t hw h ho hv e
 ·exact zEF t h hb e
theorem zHj(t:Mp):∀ (n:Nat) {s s1:TS},Wf s→TIt t s→zBy n s=.ok s1→TIt t s1
 | 0,s,s1,_,h,e=>by cases e;exact h
 | n+1,s,s1,hw,h,e=>by
  cases hr:s.row with
  | nil=>rw[zBF _ _ hr] at e;cases e;exact h
  | cons x r=>
   rw[zBq _ _ hr] at e;obtain⟨s2,e1,e2⟩:=zAk e;have uC:Wf (tell { s with row:=r } 4 x.o.id x.o.qty x.p):=⟨hw.m0,hw.m3,hw.book,hw.ok,hw.ws⟩
   have uJ:(wIds s).Perm (x.o.id::wIds (tell { s with row:=r } 4 x.o.id x.o.qty x.p)):=by
    show (s.ws.map (·.id)++s.row.map (·.o.id)).Perm (x.o.id::(s.ws.map (·.id)++r.map (·.o.id)))
    rw[hr,jK];exact List.perm_middle
   have uN:=uJ.nodup_iff.1 h.nd;rw[List.nodup_cons] at uN;have h2:TIt t (tell { s with row:=r } 4 x.o.id x.o.qty x.p):=by
    refine⟨?_,uN.2,fun id hi=>h.ap id (uJ.mem_iff.2 (List.mem_cons_of_mem _ hi))⟩
    rw[zCA];exact h.tb
   have g:=zGb uC e1;exact zHj t n g.wf (zRu t uC h2 uN.1 (h.ap _ (uJ.mem_iff.2 List.mem_cons_self)) e1) e2
theorem zQc{s:TS}{id:Int}(hr:s.row=[])(h:¬has s id=true):id ∉ wIds s∧id ∉ bIds s.bs s.ss:=by
 unfold has at h;simp only[Bool.or_eq_true,decide_eq_true_eq,not_or] at h;refine⟨fun hi=>?_,fun hi=>h.1 (zQb.2 hi)⟩
 unfold wIds at hi;rw[hr,List.map_nil,jH] at hi;obtain⟨a,o,b,-,-,e3⟩:=zMH id s.ws hi;rw[e3] at h;omega
theorem zGi(t:Mp){s s1:TS}{o:O}(hw:Wf s)(hr:s.row=[])(h:TIt t s)(e:place s o=.ok s1):TIt t s1:=by
 unfold place at e;split at e
 ·split at e
  ·cases e
  ·rename_i hh
   obtain⟨n1,n2⟩:=zQc hr hh;obtain⟨s2,e1,e2⟩:=zAk e;obtain⟨hm,k⟩:=zMI t e1;have h2:=h.like hm k;have uC:=(wBb hw e1).1;have ew:wIds s2=wIds s:=by unfold wIds;rw[k.ws,k.row]
   split at e2
   ·unfold come at e2;split at e2
    ·rename_i hv;exact zEE t uC h2 (by rw[ew];exact n1) hv e2
    ·cases e2
   ·unfold sleep at e2;split at e2
    ·cases e2;have hp:(wIds (tell { s2 with ws:=s2.ws++[o] } 5 o.id o.qty o.stop)).Perm (o.id::wIds s2):=by
      show ((s2.ws++[o]).map (·.id)++s2.row.map (·.o.id)).Perm _
      rw[jF,jS];exact List.perm_middle
     refine⟨?_,?_,fun id hi=>?_⟩
     ·rw[zCA];exact h2.tb
     ·exact hp.nodup_iff.2 (List.nodup_cons.2 ⟨by rw[ew];exact n1,h2.nd⟩)
     ·rcases List.mem_cons.1 (hp.mem_iff.1 hi) with rfl|hi
      ·show o.id ∉ bIds s2.bs s2.ss
       rw[k.bs,k.ss];exact n2
      ·exact h2.ap id hi
    ·cases e2
 ·cases e
theorem zMK{bs ss:List L}{id a p:Int}{r:R}{i k:Nat}(h:swp.At bs ss id a p r i k):(bp bs ss).Perm ((p,r)::bp (swp.cB a bs i k) (swp.cS a ss i k)):=by
 obtain⟨ls,hS,hp,hr⟩:=h;have hd:(prs ls).Perm ((p,r)::prs (zBo ls i k)):=by
  obtain⟨x,y,c,d,h1,h2,h3,h4⟩:=swp.zCs hS.hi hS.hk;rw[hp,hr] at *;rw[h1,←h2,←h4,swp.zEq];split
  ·rename_i hz
   have hc:c=[]:=List.eq_nil_of_length_eq_zero (by omega)
   have hd:d=[]:=List.eq_nil_of_length_eq_zero (by omega)
   subst hc hd;rw[zAO,zAO,zAW];simp only[jU,jK,List.map_nil,List.singleton_append];exact List.perm_middle
  ·rw[zAO,zAO,zAW,zAW];simp only[jF,jK,jS,List.cons_append];rw[←jS,←jS];exact List.perm_middle
 unfold bp swp.cB swp.cS;rcases hS.side with ⟨rfl,rfl,-⟩|⟨rfl,rfl,-⟩
 ·simp only[if_true];exact hd.append_right _
 ·simp only[if_neg (show ¬(2:Int)=1 by decide)]
  exact(hd.append_left _).trans List.perm_middle
theorem zDU(t:Mp){s s1:TS}{id:Int}(hw:Wf s)(h:TIt t s)(e:leave s id=.ok s1):TIt t s1∧id ∉ bIds s1.bs s1.ss∧Sme { s with bs:=s1.bs,ss:=s1.ss } s1:=by
 unfold leave at e;split at e
 ·rename_i Hv
  have hA:=wAs hw.book Hv;generalize spot s.bs s.ss id=x at *;obtain⟨a,p,r,i,k⟩:=x;simp only[] at e;have dk : swp.At s.bs s.ss id a p r i k:=hA;have hp:=zMK dk;obtain⟨hm,hk⟩:=zHZ t e;have hid:r.id=id:=dk.id;have uN:=(hp.map pid).nodup_iff.1 (zGg hw.book);rw[jK,List.nodup_cons] at uN;have htb:=(h.tb.perm hp).drop uN.1;have hb:s1.bs=swp.cB a s.bs i k:=hk.bs;have hs:s1.ss=swp.cS a s.ss i k:=hk.ss;have hws:wIds s1=wIds s:=by unfold wIds;rw[hk.ws,hk.row]
  have me:∀j∈bIds s1.bs s1.ss,j∈bIds s.bs s.ss:=fun j hj=>by
   rw[hb,hs,←zDF] at hj;rw[←zDF];exact(hp.map pid).mem_iff.2 (by rw[jK];exact List.mem_cons_of_mem _ hj)
  refine⟨⟨?_,by rw[hws];exact h.nd,fun j hj Uo=>h.ap j (by rw[←hws];exact hj) (me j Uo)⟩,?_,⟨rfl,rfl,hk.ws,hk.row,hk.mode⟩⟩
  ·rw[hm,hb,hs];exact htb
  ·rw[hb,hs,←zDF,←hid];exact uN.1
 ·cases e
theorem zML(t:Mp){s s1:TS}{id:Int}(hw:Wf s)(h:TIt t s)(e:cancel s id=.ok s1):TIt t s1:=by
 unfold cancel at e;split at e
 ·exact(zDU t hw h e).1
 ·rename_i Hv
  split at e
  ·cases e
  ·rename_i hi
   have Hi:=wak.wBj id s.ws;have hl:(wak.idx id s.ws).toNat<s.ws.length:=by omega
   unfold drop1 at e;generalize (wak.idx id s.ws).toNat=i at *;have hp:(wIds s).Perm ((s.ws[i]!).id::wIds { s with ws:=s.ws.take i++s.ws.drop (i+1) }):=by
    show (s.ws.map (·.id)++s.row.map (·.o.id)).Perm ((s.ws[i]!).id::((s.ws.take i++s.ws.drop (i+1)).map (·.id)++s.row.map (·.o.id)))
    conv=>lhs;rw[←jR i s.ws,zHf s.ws i hl]
    rw[jF,jK,jF,jS,jS,List.cons_append];exact List.perm_middle
   have uN:=hp.nodup_iff.1 h.nd;rw[List.nodup_cons] at uN;have h2:TIt t { s with ws:=s.ws.take i++s.ws.drop (i+1) }:=⟨h.tb,uN.2,fun j hj=>h.ap j (hp.mem_iff.2 (List.mem_cons_of_mem _ hj))⟩
   exact zEF t h2 (h.ap _ (hp.mem_iff.2 List.mem_cons_self)) e
end flr
end Go.Proofs.YtnfilcpnneckkaaGreat
