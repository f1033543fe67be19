import Derived.Test.YtmhcghgfpfainaaGreatDoorFCPure
namespace Go.Proofs.YtmhcghgfpfainaaGreatDoor
namespace flr
open Go.RowKit que sid mee
open ord (O oV chk prB mB)
open bok (zAc zAf)
open kin (setB setS setG setE zBz zBt mayK)
open slf (V Fine sE lfV gnV repB repS zAQ)
abbrev Mp:=Int→Int × Int
def zBS(t:Mp)(id:Int):Mp:=fun j=>if j=id then (0,(t j).2) else t j
def mTrd(t:Mp)(x:T):Mp:=fun j=>if j=x.maker then (max 0 ((t j).1 - x.qty),(t j).2) else t j
def mPut(t:Mp)(id q p:Int):Mp:=fun j=>if j=id then (q,p) else t j
def mEv(t:Mp)(e:Ev):Mp:=if e.what=1 then mPut t e.id e.qty e.price else if e.what=2 then mTrd t e.tr else if e.what=3 then zBS t e.id else t
def mEvs(t:Mp)(l:List Ev):Mp:=l.foldl mEv t
theorem zCQ(t:Mp)(a b:List Ev):mEvs t (a++b)=mEvs (mEvs t a) b:=List.foldl_append
theorem zDA{t:Mp}{id j:Int}(h:¬j=id):zBS t id j=t j:=if_neg h
theorem zGg(t:Mp)(id:Int):(zBS t id id).1=0:=by unfold zBS;rw[if_pos rfl]
theorem trd_ne{t:Mp}{x:T}{j:Int}(h:¬j=x.maker):mTrd t x j=t j:=if_neg h
theorem zPL(t:Mp)(x:T)(id:Int)(hx:0≤x.qty):zBS (mTrd t x) id=mTrd (zBS t id) x:=by
 funext j
 unfold zBS mTrd;by_cases h1:j=id
 ·simp only[if_pos h1];by_cases h2:j=x.maker
  ·simp only[if_pos h2]
   congr 1
   omega
  ·simp only[if_neg h2]
 ·simp only[if_neg h1]
theorem zHn(id:Int):∀ (ts:List T) (t:Mp),(∀x∈ts,0≤x.qty)→zBS (ts.foldl mTrd t) id=ts.foldl mTrd (zBS t id)
 | [],_,_=>rfl
 | x::ts,t,h=>by
  rw[List.foldl_cons,List.foldl_cons,←zPL t x id (h x (by simp))]
  exact zHn id ts _ (fun y hy=>h y (by simp[hy]))
def pid(x:Int × R):Int:=x.2.id
def Kn(t:Mp)(X:List (Int × R)):Prop:=∀x∈X,t (pid x)=(tq x.2,x.1)
def mVis(t:Mp)(v:V):Mp:=v.ids.foldl zBS (v.ts.foldl mTrd t)
structure Told (t:Mp) (X:List (Int × R)) (t2:Mp) (Y:List (Int × R)):Prop where
 kn:Kn t2 Y
 sub:∀x∈Y,pid x∈X.map pid
 out:∀id∈X.map pid,id ∉ Y.map pid→(t2 id).1=0
 else_:∀id,id ∉ X.map pid→t2 id=t id
theorem Told.refl{t:Mp}{X:List (Int × R)}(h:Kn t X):Told t X t X:=⟨h,fun _ hx=>List.mem_map_of_mem hx,fun _ h1 h2=>absurd h1 h2,fun _ _=>rfl⟩
theorem Told.trans{a b c:Mp}{X Y Z:List (Int × R)}(h:Told a X b Y)(k:Told b Y c Z):Told a X c Z:=by
 refine⟨k.kn,fun z hz=>?_,fun id h1 h2=>?_,fun id h1=>?_⟩
 ·obtain⟨y,hy,e⟩:=List.mem_map.1 (k.sub z hz);rw[←e];exact h.sub y hy
 ·by_cases hy:id∈Y.map pid
  ·exact k.out id hy h2
  ·rw[k.else_ id hy];exact h.out id h1 hy
 ·have hy:id ∉ Y.map pid:=fun x=>by
   obtain⟨y,hy,e⟩:=List.mem_map.1 x;exact h1 (e ▸ h.sub y hy)
  rw[k.else_ id hy,h.else_ id h1]
theorem zGh{t t2:Mp}{a:Int × R}{Y Z:List (Int × R)}(h:Kn t (a::Y))(hn:((a::Y).map pid).Nodup)(he:∀j,¬j=pid a→t2 j=t j)
  (hz:(Z.Perm Y∧(t2 (pid a)).1=0)∨∃b,Z.Perm (b::Y)∧pid b=pid a∧t2 (pid a)=(tq b.2,b.1)):Told t (a::Y) t2 Z:=by
 rw[jK,List.nodup_cons] at hn;have hY:Kn t2 Y:=fun x hx=>by
  rw[he (pid x) (fun e=>hn.1 (e ▸ List.mem_map_of_mem hx))]
  exact h x (List.mem_cons_of_mem _ hx)
 rcases hz with ⟨hp,h0⟩|⟨b,hp,hb,hv⟩
 ·refine⟨fun x hx=>hY x (hp.mem_iff.1 hx),fun x hx=>?_,fun id h1 h2=>?_,fun id h1=>?_⟩
  ·rw[jK];exact List.mem_cons_of_mem _ (List.mem_map_of_mem (hp.mem_iff.1 hx))
  ·rw[jK] at h1;rcases List.mem_cons.1 h1 with rfl|h1
   ·exact h0
   ·exact absurd ((hp.map pid).mem_iff.2 h1) h2
  ·exact he id (fun e=>h1 (by rw[e,jK];exact List.mem_cons_self))
 ·refine⟨fun x hx=>?_,fun x hx=>?_,fun id h1 h2=>?_,fun id h1=>?_⟩
  ·rcases List.mem_cons.1 (hp.mem_iff.1 hx) with rfl|hx
   ·rw[hb];exact hv
   ·exact hY x hx
  ·rw[jK];rcases List.mem_cons.1 (hp.mem_iff.1 hx) with rfl|hx
   ·rw[hb];exact List.mem_cons_self
   ·exact List.mem_cons_of_mem _ (List.mem_map_of_mem hx)
  ·refine absurd ((hp.map pid).mem_iff.2 ?_) h2;rw[jK,hb]
   rwa [jK] at h1
  ·exact he id (fun e=>h1 (by rw[e,jK];exact List.mem_cons_self))
theorem zHo{a:Int × R}{Y Z:List (Int × R)}(hn:((a::Y).map pid).Nodup)(hz:Z.Perm Y∨∃b,Z.Perm (b::Y)∧pid b=pid a):(Z.map pid).Nodup:=by
 rcases hz with hp|⟨b,hp,hb⟩
 ·rw[jK,List.nodup_cons] at hn;exact(hp.map pid).nodup_iff.2 hn.2
 ·refine(hp.map pid).nodup_iff.2 ?_;rw[jK,hb,←jK];exact hn
theorem zPM{m:Int}{o:O}{ls:List L}{k:Int}{v:V}(h:Fil m o ls k v):(∀l∈ls,lchk l=0)→((prs ls).map pid).Nodup→∀t,Kn t (prs ls)→Told t (prs ls) (mVis t v) (prs v.ls)∧∀x∈v.ts,0≤x.qty:=by
 induction h with
 | done=>exact fun _ _ t hk=>⟨Told.refl hk,fun _ hx=>by cases hx⟩
 | stop=>exact fun _ _ t hk=>⟨Told.refl hk,fun _ hx=>by cases hx⟩
 | taker=>exact fun _ _ t hk=>⟨Told.refl hk,fun _ hx=>by cases hx⟩
 | @maker p r rs t k v _ _ _ _ ih=>
  intro hl hn w hk;have e1:prs (⟨p,r::rs⟩::t)=(p,r)::prs (zAv p rs t):=by rw[zAW,zDg,jK,List.cons_append]
  rw[e1] at hn hk ⊢;have h1:Told w ((p,r)::prs (zAv p rs t)) (zBS w r.id) (prs (zAv p rs t)):=
   zGh hk hn (fun j hj=>zDA hj) (.inl ⟨List.Perm.refl _,zGg w r.id⟩)
  obtain⟨h2,h3⟩:=ih (zAQ hl) (zHo hn (.inl (List.Perm.refl _))) _ h1.kn;refine⟨?_,h3⟩;have e2:mVis w ⟨v.ls,v.ts,v.left,v.ends,r.id::v.ids⟩=mVis (zBS w r.id) v:=by
   unfold mVis;rw[List.foldl_cons,zHn _ _ _ h3]
  rw[e2];exact h1.trans h2
 | @both p r rs t k _ _ _=>
  intro hl hn w hk;have e1:prs (⟨p,r::rs⟩::t)=(p,r)::prs (zAv p rs t):=by rw[zAW,zDg,jK,List.cons_append]
  rw[e1] at hn hk ⊢;exact⟨zGh hk hn (fun j hj=>zDA hj) (.inl ⟨List.Perm.refl _,zGg w r.id⟩),fun _ hx=>by cases hx⟩
 | @fill p r rs t k v h0 hb _ _ ih=>
  intro hl hn w hk;obtain⟨hp,-,hq⟩:=zAh (hl _ (List.mem_cons_self ..));have hr:=zBg hq;have H5:=mrg.zDy (((zAm _).1 hq).2.1 r (by simp))
  have e1:prs (⟨p,r::rs⟩::t)=(p,r)::prs (zAv p rs t):=by rw[zAW,zDg,jK,List.cons_append]
  obtain⟨x,hx⟩:∃x,x=trd o p ⟨r.id,r.who,min k r.qty⟩:=⟨_,rfl⟩;have cE:x.maker=r.id:=by rw[hx];unfold trd;split <;>rfl
  have hxq:x.qty=min k r.qty:=by rw[hx];unfold trd;split <;>rfl
  have hz:((prs (zAv p (tk1 (min k r.qty) r rs) t)).Perm (prs (zAv p rs t))∧(mTrd w x (pid (p,r))).1=0)∨∃b,(prs (zAv p (tk1 (min k r.qty) r rs) t)).Perm (b::prs (zAv p rs t))∧pid b=pid (p,r)∧mTrd w x (pid (p,r))=(tq b.2,b.1):=by
   rw[e1] at hk;have hw:w r.id=(tq r,p):=hk (p,r) (by simp)
   have hm:mTrd w x r.id=(max 0 (tq r - min k r.qty),p):=by unfold mTrd;rw[if_pos cE.symm,hw,hxq]
   have hm' : mTrd w x (pid (p,r))=(max 0 (tq r - min k r.qty),p):=hm;rw[hm',zDg,zDg];unfold que.tk1;by_cases c1:min k r.qty<r.qty
   ·rw[if_pos c1];refine .inr ⟨(p,{ r with qty:=r.qty - min k r.qty }),List.Perm.refl _,rfl,?_⟩
    unfold tq;simp only[]
    congr 1
    omega
   ·rw[if_neg c1];by_cases c2:r.hid=0
    ·rw[if_pos c2];refine .inl ⟨List.Perm.refl _,?_⟩;unfold tq;simp only[];omega
    ·rw[if_neg c2];refine .inr ⟨(p,{ r with qty:=min r.shw r.hid,hid:=r.hid - min r.shw r.hid }),?_,rfl,?_⟩
     ·rw[jF,jS];exact List.perm_middle
     ·unfold tq;simp only[]
      congr 1
      omega
  rw[e1] at hn hk ⊢;have h1:Told w ((p,r)::prs (zAv p rs t)) (mTrd w x) (prs (zAv p (tk1 (min k r.qty) r rs) t)):=
   zGh hk hn (fun j hj=>trd_ne (fun e=>hj (e.trans cE))) hz
  obtain⟨h2,h3⟩:=ih (zBh h0 hl) (zHo hn (hz.imp (·.1) (fun⟨b,c,d,_⟩=>⟨b,c,d⟩))) _ h1.kn
  refine⟨?_,fun y hy=>?_⟩
  ·have e2:mVis w ⟨v.ls,trd o p ⟨r.id,r.who,min k r.qty⟩::v.ts,v.left,v.ends,v.ids⟩=mVis (mTrd w x) v:=by
    unfold mVis;rw[List.foldl_cons,hx]
   rw[e2];exact h1.trans h2
  ·rcases List.mem_cons.1 hy with rfl|hy
   ·rw[←hx,hxq];omega
   ·exact h3 y hy
end flr
namespace flr
open Go.RowKit que sid mee
open ord (O oV chk prB mB)
open bok (zAc zAf)
open kin (setB setS setG setE zBz zBt mayK)
open slf (V Fine sE lfV gnV repB repS zAQ)
open mrg (zBu zCu zCv zBm zBJ zBK)
def TBl(t:Mp)(W:List (Int × R)):Prop:=Kn t W∧∀id,id ∉ W.map pid→(t id).1=0
theorem TBl.perm{t:Mp}{W W' : List (Int × R)}(h:TBl t W)(p:W.Perm W'):TBl t W':=⟨fun x hx=>h.1 x (p.mem_iff.2 hx),fun id hid=>h.2 id (fun x=>hid ((p.map pid).mem_iff.1 x))⟩
theorem TBl.told{t t2:Mp}{X Y Z:List (Int × R)}(h:TBl t (X++Z))(hn:((X++Z).map pid).Nodup)(k:Told t X t2 Y):TBl t2 (Y++Z):=by
 rw[jF,List.nodup_append] at hn;refine⟨fun x hx=>?_,fun id hid=>?_⟩
 ·rcases List.mem_append.1 hx with hx|hx
  ·exact k.kn x hx
  ·rw[k.else_ (pid x) (fun e=>hn.2.2 _ e _ (List.mem_map_of_mem hx) rfl)]
   exact h.1 x (List.mem_append_right _ hx)
 ·rw[jF,List.mem_append,not_or] at hid;by_cases hX:id∈X.map pid
  ·exact k.out id hX hid.1
  ·rw[k.else_ id hX];refine h.2 id (fun e=>?_)
   rw[jF,List.mem_append] at e;exact e.elim hX hid.2
theorem TBl.put{t:Mp}{W:List (Int × R)}{x:Int × R}(h:TBl t W)(hid:pid x ∉ W.map pid):TBl (mPut t (pid x) (tq x.2) x.1) (x::W):=by
 refine⟨fun y hy=>?_,fun id hi=>?_⟩
 ·unfold mPut;rcases List.mem_cons.1 hy with rfl|hy
  ·rw[if_pos rfl]
  ·rw[if_neg (show ¬pid y=pid x from fun e=>hid (by rw[←e];exact List.mem_map_of_mem hy))];exact h.1 y hy
 ·rw[jK,List.mem_cons,not_or] at hi;unfold mPut;rw[if_neg hi.1];exact h.2 id hi.2
theorem TBl.drop{t:Mp}{W:List (Int × R)}{x:Int × R}(h:TBl t (x::W))(hn:pid x ∉ W.map pid):TBl (zBS t (pid x)) W:=by
 refine⟨fun y hy=>?_,fun id hi=>?_⟩
 ·rw[zDA (show ¬pid y=pid x from fun e=>hn (by rw[←e];exact List.mem_map_of_mem hy))]
  exact h.1 y (List.mem_cons_of_mem _ hy)
 ·by_cases e:id=pid x
  ·rw[e];exact zGg t _
  ·rw[zDA e];refine h.2 id ?_;rw[jK,List.mem_cons,not_or];exact⟨e,hi⟩
theorem TBl.gone{t:Mp}{W:List (Int × R)}{id:Int}(h:TBl t W)(hn:id ∉ W.map pid):TBl (zBS t id) W:=by
 refine⟨fun y hy=>?_,fun j hi=>?_⟩
 ·rw[zDA (show ¬pid y=id from fun e=>hn (by rw[←e];exact List.mem_map_of_mem hy))];exact h.1 y hy
 ·by_cases e:j=id
  ·rw[e];exact zGg t _
  ·rw[zDA e];exact h.2 j hi
def bp(bs ss:List L):List (Int × R):=prs bs++prs ss
theorem zGi(ls:List L):(prs ls).map pid=ids ls:=by
 rw[zBe,←zEE,List.map_map];rfl
theorem zDh(bs ss:List L):(bp bs ss).map pid=bIds bs ss:=by
 unfold bp bIds;rw[jF,jF,zGi,zGi,zBe,zBe]
theorem zDW{bs ss:List L}(h:zAc bs ss=0):((bp bs ss).map pid).Nodup:=by
 obtain⟨e1,e2,-⟩:=bok.zAe h;unfold bp;rw[jF,List.nodup_append];refine⟨by rw[zGi];exact(zAd e1).2.2.2,by rw[zGi];exact(zAd e2).2.2.2,fun a ha b hb e=>?_⟩
 obtain⟨x,hx,rfl⟩:=List.mem_map.1 ha;obtain⟨y,hy,rfl⟩:=List.mem_map.1 hb;exact zIf h hx hy e
theorem zJi(s p:Int)(r:R)(ls:List L):(prs (putL s p r ls)).Perm ((p,r)::prs ls):=by
 obtain⟨a,b,-,⟨zs,h1,h2⟩|⟨h1,h2,-⟩⟩:=zLr s p r ls
 ·rw[h1] at h2 ⊢;rw[h2];simp only[zAM,zAW,jF,jK,List.map_nil,jS,List.cons_append,jU];rw[←jS,←jS];exact List.perm_middle
 ·rw[h2,h1];simp only[zAM,zAW,jK,List.map_nil,List.cons_append,jU];exact List.perm_middle
def Me(t:Mp)(s:TS):Mp:=mEvs t s.evs
theorem zCx(t:Mp)(s:TS)(w id q p:Int):Me t (tell s w id q p)=mEv (Me t s) ⟨w,id,q,p,zeroT⟩:=by
 unfold Me tell;rw[zCQ];rfl
structure Sme (a b:TS):Prop where
 bs:b.bs=a.bs
 ss:b.ss=a.ss
 ws:b.ws=a.ws
 row:b.row=a.row
 mode:b.mode=a.mode
theorem Sme.trans{a b c:TS}(h:Sme a b)(k:Sme b c):Sme a c:=⟨k.bs.trans h.bs,k.ss.trans h.ss,k.ws.trans h.ws,k.row.trans h.row,k.mode.trans h.mode⟩
theorem zEG{s s1:TS}{w c d:Int}(t:Mp)(e:zBY s w c d=.ok s1):Me t s1=Me t s∧Sme s s1:=by
 unfold zBY at e;split at e
 ·cases e;exact⟨rfl,rfl,rfl,rfl,rfl,rfl⟩
 ·cases e
theorem zMZ{s s1:TS}{w c d:Int}(t:Mp)(e:zDz s w c d=.ok s1):Me t s1=Me t s∧Sme s s1:=by
 unfold zDz at e;split at e
 ·cases e;exact⟨rfl,rfl,rfl,rfl,rfl,rfl⟩
 ·cases e
theorem zGj{s s1:TS}{r:R}{a p:Int}(t:Mp)(e:zCi s r a p=.ok s1):Me t s1=Me t s∧Sme s s1:=by
 unfold zCi at e;split at e
 ·exact zEG t e
 ·cases e
theorem zIg{s s1:TS}{r:R}{a p:Int}(t:Mp)(e:part s r a p=.ok s1):Me t s1=zBS (Me t s) r.id∧Sme s s1:=by
 unfold part at e;obtain⟨s2,e1,e2⟩:=zAk e;obtain⟨h1,h2⟩:=zGj t e1;cases e2;refine⟨?_,h2.bs,h2.ss,h2.ws,h2.row,h2.mode⟩;rw[zCx,h1];rfl
theorem zEH(t:Mp):∀ (ts:List T) {s s1:TS},trades s ts=.ok s1→Me t s1=ts.foldl mTrd (Me t s)∧Sme s s1
 | [],s,s1,e=>by cases e;exact⟨rfl,rfl,rfl,rfl,rfl,rfl⟩
 | x::ts,s,s1,e=>by
  obtain⟨s2,e1,e2⟩:=zAk e;unfold trade1 at e1;split at e1
  ·cases e1;obtain⟨h1,h2⟩:=zEH t ts e2;refine⟨?_,h2.bs,h2.ss,h2.ws,h2.row,h2.mode⟩;rw[h1,List.foldl_cons]
   congr 1
   unfold Me;rw[zCQ];rfl
  ·cases e1
theorem zJj(t:Mp):∀ (l:List Int) {s s1:TS},zAc s.bs s.ss=0→parts s l=.ok s1→Me t s1=l.foldl zBS (Me t s)∧Sme s s1
 | [],s,s1,_,e=>by cases e;exact⟨rfl,rfl,rfl,rfl,rfl,rfl⟩
 | x::l,s,s1,hb,e=>by
  obtain⟨s2,e1,e2⟩:=zAk e;unfold zDG at e1;split at e1
  ·rename_i Ht
   obtain⟨h1,h2⟩:=zIg t e1;have hid:(spot s.bs s.ss x).r.id=x:=swp.At.id (wAq hb Ht);rw[hid] at h1;obtain⟨h3,h4⟩:=zJj t l (by rw[h2.bs,h2.ss];exact hb) e2
   exact⟨by rw[h3,h1];rfl,h2.trans h4⟩
  ·cases e1
theorem zHp(t:Mp){s s1:TS}{o:O}(hw:Wf s)(hv:vE s.mode s.bs s.ss o=0)(h:TBl (Me t s) (bp s.bs s.ss))(e:settle s o (vR s.mode s.bs s.ss o)=.ok s1) :
  TBl (Me t s1) (bp s1.bs s1.ss)∧(∃s0,s0.ws=s.ws∧s0.row=s.row∧s0.mode=s.mode∧s0.bs=s1.bs∧s0.ss=s1.ss∧zCP s0 (vR s.mode s.bs s.ss o).ts=.ok s1)∧∀id∈bIds s1.bs s1.ss,id=o.id∨id∈bIds s.bs s.ss:=by
 obtain⟨v,hf⟩:=zHj hw.m0 hw.m3 hv;have BU:=hf.ff;have uo:=hw.book;obtain⟨-,gF,-,ph⟩:=zAF hf.come;have hod:=wAp hf.come;have uM:=zDW uo;have kb:∃Z,(bp s.bs s.ss).Perm (prs (zAr s.bs s.ss o)++Z)∧(bp (repB o s.bs v.ls) (repS o s.ss v.ls)).Perm (prs v.ls++Z):=by
  unfold bp zAr slf.repB slf.repS;by_cases hs:o.side=1
  ·simp only[if_pos hs];exact⟨prs s.bs,List.perm_append_comm,List.perm_append_comm⟩
  ·simp only[if_neg hs];exact⟨prs s.ss,List.Perm.refl _,List.Perm.refl _⟩
 obtain⟨Z,p1,p2⟩:=kb;have CV:((prs (zAr s.bs s.ss o)++Z).map pid).Nodup:=(p1.map pid).nodup_iff.1 uM;have hndY:((prs (zAr s.bs s.ss o)).map pid).Nodup:=by rw[jF,List.nodup_append] at CV;exact CV.1
 have hX:=h.perm p1;have cz:=(zPM hf.fil hod hndY (Me t s) (fun x hx=>hX.1 x (List.mem_append_left _ hx))).1
 have h1:TBl (mVis (Me t s) v) (bp (repB o s.bs v.ls) (repS o s.ss v.ls)):=(hX.told CV cz).perm p2.symm;have mn:∀id∈(bp (repB o s.bs v.ls) (repS o s.ss v.ls)).map pid,id∈(bp s.bs s.ss).map pid:=fun id hi=>by
  have h2:=(p2.map pid).mem_iff.1 hi;refine(p1.map pid).mem_iff.2 ?_;rw[jF,List.mem_append] at h2 ⊢;refine h2.imp (fun x=>?_) (fun x=>x)
  obtain⟨y,hy,rfl⟩:=List.mem_map.1 x;exact cz.sub y hy
 have ES:o.id ∉ (bp s.bs s.ss).map pid:=fun x=>by
  rw[zDh] at x;rw[zMX.2 x] at ph;cases ph
 have Pt:=fun x=>ES (mn o.id x)
 rw[hf.is] at e ⊢;unfold settle at e;obtain⟨s2,e1,e⟩:=zAk e;obtain⟨a1,b1⟩:=zEH t _ e1;split at e
 ·obtain⟨s3,e2,e⟩:=zAk e;obtain⟨a2,b2⟩:=zEG t e2;obtain⟨s4,e3,e⟩:=zAk e;have b12:=b1.trans b2;obtain⟨a3,b3⟩:=zJj t _ (by rw[b12.bs,b12.ss];exact uo) e3
  have b:=b12.trans b3;have hM:Me t s4=mVis (Me t s) v:=by rw[a3,a2,a1];rfl
  obtain⟨s5,UD⟩:∃s5,s5=zAu { s4 with bs:=setB (repB o s.bs v.ls) o (lfV v),ss:=setS (repS o s.ss v.ls) o (lfV v) } o ⟨setB (repB o s.bs v.ls) o (lfV v),setS (repS o s.ss v.ls) o (lfV v),v.ts,gnV v+setG o (lfV v),v.ids⟩:=⟨_,rfl⟩
  have e' : zCP s5 v.ts=.ok s1:=by rw[UD];exact e
  have hg:TBl (Me t (zAA { s4 with bs:=setB (repB o s.bs v.ls) o (lfV v),ss:=setS (repS o s.ss v.ls) o (lfV v) } o ⟨setB (repB o s.bs v.ls) o (lfV v),setS (repS o s.ss v.ls) o (lfV v),v.ts,gnV v+setG o (lfV v),v.ids⟩)) (bp (repB o s.bs v.ls) (repS o s.ss v.ls)):=by
   unfold zAA;split
   ·rw[zCx];show TBl (zBS (Me t s4) o.id) _
    rw[hM];exact h1.gone Pt
   ·show TBl (Me t s4) _
    rw[hM];exact h1
  have h5:TBl (Me t s5) (bp (setB (repB o s.bs v.ls) o (lfV v)) (setS (repS o s.ss v.ls) o (lfV v)))∧(∀id∈(bp (setB (repB o s.bs v.ls) o (lfV v)) (setS (repS o s.ss v.ls) o (lfV v))).map pid,id=o.id∨id∈(bp s.bs s.ss).map pid):=by
   have hr:zHi o ⟨setB (repB o s.bs v.ls) o (lfV v),setS (repS o s.ss v.ls) o (lfV v),v.ts,gnV v+setG o (lfV v),v.ids⟩=o.qty - (gnV v+setG o (lfV v)) - sumT v.ts:=rfl;rw[UD];unfold zAu;rw[hr];rcases zMW BU.sum with ⟨Gc,-,hl⟩|⟨Gc,hl⟩
   ·rw[hl];have uA:0<lfV v:=by
     have h1:=Gc;unfold kin.zBz at h1;simp only[Bool.and_eq_true,Bool.not_eq_true',beq_eq_false_iff_ne,ne_eq] at h1;have h2:=BU.left;have h3:=h1.1;unfold slf.lfV at h3 ⊢;split at h3
     ·exact absurd rfl h3
     ·rename_i he;rw[if_neg he];omega
    rw[if_pos uA,zCx];have cj:(bp (setB (repB o s.bs v.ls) o (lfV v)) (setS (repS o s.ss v.ls) o (lfV v))).Perm ((o.price,zBt o (lfV v))::bp (repB o s.bs v.ls) (repS o s.ss v.ls)):=by
     unfold bp kin.setB kin.setS;rw[if_pos Gc,if_pos Gc];unfold bok.put1 bok.put2;by_cases hs:o.side=1
     ·rw[if_pos hs,if_pos hs];exact(zJi _ _ _ _).append_right _
     ·rw[if_neg hs,if_neg hs];exact((zJi _ _ _ _).append_left _).trans List.perm_middle
    have uS:=hg.put (x:=(o.price,zBt o (lfV v))) Pt;refine⟨?_,fun id hi=>?_⟩
    ·have hq:tq (zBt o (lfV v))=lfV v:=zRN o _;have:mPut (Me t (zAA { s4 with bs:=setB (repB o s.bs v.ls) o (lfV v),ss:=setS (repS o s.ss v.ls) o (lfV v) } o ⟨setB (repB o s.bs v.ls) o (lfV v),setS (repS o s.ss v.ls) o (lfV v),v.ts,gnV v+setG o (lfV v),v.ids⟩)) (pid (o.price,zBt o (lfV v))) (tq (o.price,zBt o (lfV v)).2) (o.price,zBt o (lfV v)).1=mPut (Me t (zAA { s4 with bs:=setB (repB o s.bs v.ls) o (lfV v),ss:=setS (repS o s.ss v.ls) o (lfV v) } o ⟨setB (repB o s.bs v.ls) o (lfV v),setS (repS o s.ss v.ls) o (lfV v),v.ts,gnV v+setG o (lfV v),v.ids⟩)) o.id (lfV v) o.price:=(by rw[show tq (o.price,zBt o (lfV v)).2=lfV v from hq];rfl);rw[this] at uS;exact TBl.perm uS cj.symm
    ·have:=(cj.map pid).mem_iff.1 hi;rw[jK,List.mem_cons] at this;exact this.imp (fun x=>x) (mn id)
   ·rw[hl,if_neg (by decide)]
    have e1:setB (repB o s.bs v.ls) o (lfV v)=repB o s.bs v.ls:=(by unfold kin.setB;rw[Gc,if_neg (by decide)]);have e2:setS (repS o s.ss v.ls) o (lfV v)=repS o s.ss v.ls:=(by unfold kin.setS;rw[Gc,if_neg (by decide)]);refine⟨?_,fun id hi=>.inr (mn id ?_)⟩
    ·have Gb:=hg;rw[e1,e2] at Gb ⊢;exact Gb
    ·rw[e1,e2] at hi;exact hi
  have hk:Me t s1=Me t s5∧s1.bs=s5.bs∧s1.ss=s5.ss:=by
   unfold zCP at e';split at e'
   ·cases e';exact⟨rfl,rfl,rfl⟩
   ·split at e'
    ·cases e';exact⟨rfl,rfl,rfl⟩
    ·cases e'
  have ug:s5.bs=setB (repB o s.bs v.ls) o (lfV v)∧s5.ss=setS (repS o s.ss v.ls) o (lfV v)∧s5.ws=s.ws∧s5.row=s.row∧s5.mode=s.mode:=by
   rw[UD];unfold zAu zAA;split <;>split <;>exact⟨rfl,rfl,b.ws,b.row,b.mode⟩
  refine⟨?_,⟨s5,ug.2.2.1,ug.2.2.2.1,ug.2.2.2.2,hk.2.1.symm,hk.2.2.symm,e'⟩,fun id hi=>?_⟩
  ·rw[hk.1,hk.2.1,hk.2.2,ug.1,ug.2.1];exact h5.1
  ·rw[hk.2.1,hk.2.2,ug.1,ug.2.1,←zDh] at hi;rw[←zDh];exact h5.2 id hi
 ·cases e
end flr
namespace flr
open Go.RowKit que sid mee
open ord (O oV chk prB mB)
open bok (zAc zAf)
open mrg (zBm zBJ zBK forC forS)
def wIds(s:TS):List Int:=s.ws.map (·.id)++s.row.map (·.o.id)
structure TIt (t:Mp) (s:TS):Prop where
 tb:TBl (Me t s) (bp s.bs s.ss)
 nd:(wIds s).Nodup
 ap:∀id∈wIds s,id ∉ bIds s.bs s.ss
theorem zPN(p:Int)(ws:List O):((wak.left p ws).map (·.id)++(wak.woke p ws).map (·.id)).Perm (ws.map (·.id)):=by
 have h1:(wak.woke p ws).map (·.id)=(wak.srt p ws).map (·.id):=by unfold wak.woke;rw[List.map_map];rfl
 rw[h1,←jF];refine List.Perm.map _ ?_;unfold wak.left wak.srt;refine(List.perm_append_comm).trans (((wak.zDu _ _).append_right _).trans ?_);exact List.filter_append_perm (wak.wkB p) ws
theorem zNa{s s1:TS}{ts:List T}(e:zCP s ts=.ok s1):(wIds s1).Perm (wIds s):=by
 unfold zCP at e;split at e
 ·cases e;exact List.Perm.refl _
 ·split at e
  ·cases e;unfold wIds;simp only[jF,List.map_map];generalize (ts[ts.length - 1]!).price=p;have h1:(wak.woke p s.ws).map ((fun x:Sl=>x.o.id) ∘ fun x=>(⟨x,p⟩:Sl))=(wak.woke p s.ws).map (·.id):=rfl
   rw[h1];have h2:=(zPN p s.ws).append_right (s.row.map (fun x:Sl=>x.o.id))
   refine List.Perm.trans ?_ h2;rw[jS];exact List.Perm.append_left _ List.perm_append_comm
  ·cases e
theorem zEI(t:Mp){s s1:TS}{o:O}(hw:Wf s)(h:TIt t s)(ho:o.id ∉ wIds s)(hv:vE s.mode s.bs s.ss o=0)(e:settle s o (vR s.mode s.bs s.ss o)=.ok s1):TIt t s1:=by
 obtain⟨h1,⟨s0,a,b,-,-,-,hk⟩,h3⟩:=zHp t hw hv h.tb e;have hp:=zNa hk;have e0:wIds s0=wIds s:=by unfold wIds;rw[a,b]
 rw[e0] at hp;refine⟨h1,hp.nodup_iff.2 h.nd,fun id hi hb=>?_⟩
 have hi':=hp.mem_iff.1 hi;rcases h3 id hb with rfl|hb
 ·exact ho hi'
 ·exact h.ap id hi' hb
theorem TIt.like{t:Mp}{s s1:TS}(h:TIt t s)(hm:Me t s1=Me t s)(k:Sme s s1):TIt t s1:=by
 have e:wIds s1=wIds s:=by unfold wIds;rw[k.ws,k.row]
 exact⟨by rw[hm,k.bs,k.ss];exact h.tb,by rw[e];exact h.nd,by rw[e,k.bs,k.ss];exact h.ap⟩
theorem zEJ(t:Mp){s s1:TS}{o:O}(h:TIt t s)(hb:o.id ∉ bIds s.bs s.ss)(e:vanish s o=.ok s1):TIt t s1:=by
 unfold vanish at e;split at e
 ·obtain⟨s2,e1,e2⟩:=zAk e;obtain⟨h1,k⟩:=zEG t e1;cases e2;have hi:=h.like h1 k;refine⟨?_,hi.nd,hi.ap⟩;rw[zCx];refine hi.tb.gone ?_;rw[zDh,k.bs,k.ss];exact hb
 ·cases e
theorem zRP(t:Mp){s s1:TS}{o:O}(hw:Wf s)(h:TIt t s)(ho:o.id ∉ wIds s)(hb:o.id ∉ bIds s.bs s.ss)(e:rise s o=.ok s1):TIt t s1:=by
 unfold rise at e;split at e
 ·rename_i hv;exact zEI t hw h ho hv e
 ·exact zEJ t h hb e
theorem zHq(t:Mp):∀ (n:Nat) {s s1:TS},Wf s→TIt t s→zBv n s=.ok s1→TIt t s1
 | 0,s,s1,_,h,e=>by cases e;exact h
 | n+1,s,s1,hw,h,e=>by
  cases hr:s.row with
  | nil=>rw[zBF _ _ hr] at e;cases e;exact h
  | cons x r=>
   rw[zBn _ _ hr] at e;obtain⟨s2,e1,e2⟩:=zAk e;have uE:Wf (tell { s with row:=r } 4 x.o.id x.o.qty x.p):=⟨hw.m0,hw.m3,hw.book,hw.ok,hw.ws⟩
   have uH:(wIds s).Perm (x.o.id::wIds (tell { s with row:=r } 4 x.o.id x.o.qty x.p)):=by
    show (s.ws.map (·.id)++s.row.map (·.o.id)).Perm (x.o.id::(s.ws.map (·.id)++r.map (·.o.id)))
    rw[hr,jK];exact List.perm_middle
   have uM:=uH.nodup_iff.1 h.nd;rw[List.nodup_cons] at uM;have h2:TIt t (tell { s with row:=r } 4 x.o.id x.o.qty x.p):=by
    refine⟨?_,uM.2,fun id hi=>h.ap id (uH.mem_iff.2 (List.mem_cons_of_mem _ hi))⟩
    rw[zCx];exact h.tb
   have g:=zGe uE e1;exact zHq t n g.wf (zRP t uE h2 uM.1 (h.ap _ (uH.mem_iff.2 List.mem_cons_self)) e1) e2
theorem zQv{s:TS}{id:Int}(hr:s.row=[])(h:¬has s id=true):id ∉ wIds s∧id ∉ bIds s.bs s.ss:=by
 unfold has at h;simp only[Bool.or_eq_true,decide_eq_true_eq,not_or] at h;refine⟨fun hi=>?_,fun hi=>h.1 (zMX.2 hi)⟩
 unfold wIds at hi;rw[hr,List.map_nil,jH] at hi;obtain⟨a,o,b,-,-,e3⟩:=zMY id s.ws hi;rw[e3] at h;omega
theorem zGk(t:Mp){s s1:TS}{o:O}(hw:Wf s)(hr:s.row=[])(h:TIt t s)(e:place s o=.ok s1):TIt t s1:=by
 unfold place at e;split at e
 ·split at e
  ·cases e
  ·rename_i hh
   obtain⟨n1,n2⟩:=zQv hr hh;obtain⟨s2,e1,e2⟩:=zAk e;obtain⟨hm,k⟩:=zMZ t e1;have h2:=h.like hm k;have uE:=(wAW hw e1).1;have ew:wIds s2=wIds s:=by unfold wIds;rw[k.ws,k.row]
   split at e2
   ·unfold come at e2;split at e2
    ·rename_i hv;exact zEI t uE h2 (by rw[ew];exact n1) hv e2
    ·cases e2
   ·unfold sleep at e2;split at e2
    ·cases e2;have hp:(wIds (tell { s2 with ws:=s2.ws++[o] } 5 o.id o.qty o.stop)).Perm (o.id::wIds s2):=by
      show ((s2.ws++[o]).map (·.id)++s2.row.map (·.o.id)).Perm _
      rw[jF,jS];exact List.perm_middle
     refine⟨?_,?_,fun id hi=>?_⟩
     ·rw[zCx];exact h2.tb
     ·exact hp.nodup_iff.2 (List.nodup_cons.2 ⟨by rw[ew];exact n1,h2.nd⟩)
     ·rcases List.mem_cons.1 (hp.mem_iff.1 hi) with rfl|hi
      ·show o.id ∉ bIds s2.bs s2.ss
       rw[k.bs,k.ss];exact n2
      ·exact h2.ap id hi
    ·cases e2
 ·cases e
theorem zNb{bs ss:List L}{id a p:Int}{r:R}{i k:Nat}(h:swp.At bs ss id a p r i k):(bp bs ss).Perm ((p,r)::bp (swp.cB a bs i k) (swp.cS a ss i k)):=by
 obtain⟨ls,hS,hp,hr⟩:=h;have hd:(prs ls).Perm ((p,r)::prs (zBl ls i k)):=by
  obtain⟨x,y,c,d,h1,h2,h3,h4⟩:=swp.zCq hS.hi hS.hk;rw[hp,hr] at *;rw[h1,←h2,←h4,swp.zEt];split
  ·rename_i hz
   have hc:c=[]:=List.eq_nil_of_length_eq_zero (by omega)
   have hd:d=[]:=List.eq_nil_of_length_eq_zero (by omega)
   subst hc hd;rw[zAM,zAM,zAW];simp only[jU,jK,List.map_nil,List.singleton_append];exact List.perm_middle
  ·rw[zAM,zAM,zAW,zAW];simp only[jF,jK,jS,List.cons_append];rw[←jS,←jS];exact List.perm_middle
 unfold bp swp.cB swp.cS;rcases hS.side with ⟨rfl,rfl,-⟩|⟨rfl,rfl,-⟩
 ·simp only[if_true];exact hd.append_right _
 ·simp only[if_neg (show ¬(2:Int)=1 by decide)]
  exact(hd.append_left _).trans List.perm_middle
theorem zDX(t:Mp){s s1:TS}{id:Int}(hw:Wf s)(h:TIt t s)(e:leave s id=.ok s1):TIt t s1∧id ∉ bIds s1.bs s1.ss∧Sme { s with bs:=s1.bs,ss:=s1.ss } s1:=by
 unfold leave at e;split at e
 ·rename_i Ht
  have hA:=wAq hw.book Ht;generalize spot s.bs s.ss id=x at *;obtain⟨a,p,r,i,k⟩:=x;simp only[] at e;have dn : swp.At s.bs s.ss id a p r i k:=hA;have hp:=zNb dn;obtain⟨hm,hk⟩:=zIg t e;have hid:r.id=id:=dn.id;have uM:=(hp.map pid).nodup_iff.1 (zDW hw.book);rw[jK,List.nodup_cons] at uM;have htb:=(h.tb.perm hp).drop uM.1;have hb:s1.bs=swp.cB a s.bs i k:=hk.bs;have hs:s1.ss=swp.cS a s.ss i k:=hk.ss;have cD:wIds s1=wIds s:=by unfold wIds;rw[hk.ws,hk.row]
  have mn:∀j∈bIds s1.bs s1.ss,j∈bIds s.bs s.ss:=fun j hj=>by
   rw[hb,hs,←zDh] at hj;rw[←zDh];exact(hp.map pid).mem_iff.2 (by rw[jK];exact List.mem_cons_of_mem _ hj)
  refine⟨⟨?_,by rw[cD];exact h.nd,fun j hj me=>h.ap j (by rw[←cD];exact hj) (mn j me)⟩,?_,⟨rfl,rfl,hk.ws,hk.row,hk.mode⟩⟩
  ·rw[hm,hb,hs];exact htb
  ·rw[hb,hs,←zDh,←hid];exact uM.1
 ·cases e
theorem zNc(t:Mp){s s1:TS}{id:Int}(hw:Wf s)(h:TIt t s)(e:cancel s id=.ok s1):TIt t s1:=by
 unfold cancel at e;split at e
 ·exact(zDX t hw h e).1
 ·rename_i Ht
  split at e
  ·cases e
  ·rename_i hi
   have Hj:=wak.wBe id s.ws;have hl:(wak.idx id s.ws).toNat<s.ws.length:=by omega
   unfold drop1 at e;generalize (wak.idx id s.ws).toNat=i at *;have hp:(wIds s).Perm ((s.ws[i]!).id::wIds { s with ws:=s.ws.take i++s.ws.drop (i+1) }):=by
    show (s.ws.map (·.id)++s.row.map (·.o.id)).Perm ((s.ws[i]!).id::((s.ws.take i++s.ws.drop (i+1)).map (·.id)++s.row.map (·.o.id)))
    conv=>lhs;rw[←jR i s.ws,zHm s.ws i hl]
    rw[jF,jK,jF,jS,jS,List.cons_append];exact List.perm_middle
   have uM:=hp.nodup_iff.1 h.nd;rw[List.nodup_cons] at uM;have h2:TIt t { s with ws:=s.ws.take i++s.ws.drop (i+1) }:=⟨h.tb,uM.2,fun j hj=>h.ap j (hp.mem_iff.2 (List.mem_cons_of_mem _ hj))⟩
   exact zEJ t h2 (h.ap _ (hp.mem_iff.2 List.mem_cons_self)) e
theorem zRQ{bs ss:List L}{id a p:Int}{r:R}{i k:Nat}(h:swp.At bs ss id a p r i k)(r' : R):(bp (swp.kB a bs i k r') (swp.kS a ss i k r')).Perm ((p,r')::bp (swp.cB a bs i k) (swp.cS a ss i k)):=by
 obtain⟨ls,hS,hp,hr⟩:=h;have hd:(prs (swp.setL ls i k r')).Perm ((p,r')::prs (zBl ls i k)):=by
  obtain⟨x,y,c,d,h1,h2,h3,h4⟩:=swp.zCq hS.hi hS.hk;rw[hp,hr] at *;rw[h1,←h2,←h4,swp.zEt,swp.zFR];split
  ·rename_i hz
   have hc:c=[]:=List.eq_nil_of_length_eq_zero (by omega)
   have hd:d=[]:=List.eq_nil_of_length_eq_zero (by omega)
   subst hc hd;rw[zAM,zAM,zAW];simp only[jU,jK,List.map_nil,List.singleton_append];exact List.perm_middle
  ·rw[zAM,zAM,zAW,zAW];simp only[jF,jK,jS,List.cons_append];rw[←jS,←jS];exact List.perm_middle
 unfold bp swp.kB swp.kS swp.cB swp.cS;rcases hS.side with ⟨rfl,rfl,-⟩|⟨rfl,rfl,-⟩
 ·simp only[if_true];exact hd.append_right _
 ·simp only[if_neg (show ¬(2:Int)=1 by decide)]
  exact(hd.append_left _).trans List.perm_middle
theorem zNd(t:Mp){s s1:TS}{id price qty:Int}(hw:Wf s)(h:TIt t s)(Ht:zAf s.bs s.ss id=true)(hk:swp.zDt (spot s.bs s.ss id).p (spot s.bs s.ss id).r price qty=true)(e:shrink s id price qty=.ok s1):TIt t s1:=by
 have hA:=wAq hw.book Ht;unfold shrink at e;simp only[] at e;generalize spot s.bs s.ss id=x at *;obtain⟨a,p,r,i,k⟩:=x;simp only[] at e hk;have dn : swp.At s.bs s.ss id a p r i k:=hA;split at e
 ·obtain⟨s2,e1,e⟩:=zAk e;have h2:Me t s2=Me t s∧Sme s s2:=by
   split at e1
   ·exact zGj t e1
   ·cases e1;exact⟨rfl,rfl,rfl,rfl,rfl,rfl⟩
  obtain⟨hm,k2⟩:=h2;cases e;unfold swp.zDt at hk;simp only[Bool.and_eq_true,decide_eq_true_eq] at hk;obtain⟨rfl,-⟩:=hk;have hid:r.id=id:=dn.id;have hp:=zNb dn;have hq:=zRQ dn (swp.zAG r qty);have uM:=(hp.map pid).nodup_iff.1 (zDW hw.book);rw[jK,List.nodup_cons] at uM;have hg:=(h.tb.perm hp).drop uM.1;have uS:TBl (mPut (Me t s) id qty price) ((price,swp.zAG r qty)::bp (swp.cB a s.bs i k) (swp.cS a s.ss i k)):=by
   have h1:=hg.put (x:=(price,swp.zAG r qty)) (by show (swp.zAG r qty).id ∉ _;exact uM.1)
   have e2:mPut (zBS (Me t s) (pid (price,r))) (pid (price,swp.zAG r qty)) (tq (price,swp.zAG r qty).2) (price,swp.zAG r qty).1=mPut (Me t s) id qty price:=by
    rw[show tq (price,swp.zAG r qty).2=qty from zRO r qty,show pid (price,swp.zAG r qty)=id from hid,show pid (price,r)=id from hid]
    funext j
    unfold mPut zBS;by_cases hj:j=id
    ·rw[if_pos hj,if_pos hj]
    ·rw[if_neg hj,if_neg hj,if_neg hj]
   rw[e2] at h1;exact h1
  have ml:∀j,j∈bIds (swp.kB a s.bs i k (swp.zAG r qty)) (swp.kS a s.ss i k (swp.zAG r qty))→j∈bIds s.bs s.ss:=fun j hj=>by
   rw[←zDh] at hj ⊢;have h1:=(hq.map pid).mem_iff.1 hj;refine(hp.map pid).mem_iff.2 ?_;rw[jK] at h1 ⊢;exact h1
  refine⟨?_,?_,fun j hj hb=>?_⟩
  ·rw[zCx];show TBl (mPut (Me t s2) id qty price) _
   rw[hm];exact uS.perm hq.symm
  ·have e3:wIds (tell { s2 with bs:=swp.kB a s.bs i k (swp.zAG r qty),ss:=swp.kS a s.ss i k (swp.zAG r qty) } 1 id qty price)=wIds s:=by
    show s2.ws.map (·.id)++s2.row.map (·.o.id)=_
    rw[k2.ws,k2.row];rfl
   rw[e3];exact h.nd
  ·have e3:wIds (tell { s2 with bs:=swp.kB a s.bs i k (swp.zAG r qty),ss:=swp.kS a s.ss i k (swp.zAG r qty) } 1 id qty price)=wIds s:=by
    show s2.ws.map (·.id)++s2.row.map (·.o.id)=_
    rw[k2.ws,k2.row];rfl
   rw[e3] at hj;exact h.ap j hj (ml j hb)
 ·cases e
theorem zRR(t:Mp){s s1:TS}{id price qty:Int}(hw:Wf s)(hr:s.row=[])(h:TIt t s)(e:swap s id price qty=.ok s1):TIt t s1:=by
 unfold swap at e;split at e
 ·rename_i hE
  obtain⟨-,Ht,-⟩:=swp.zFU hE;split at e
  ·rename_i hk;exact zNd t hw h Ht hk e
  ·obtain⟨s2,e1,e⟩:=zAk e;obtain⟨h2,-,k⟩:=zDX t hw h e1;exact zGk t (zDf hw e1).wf (by rw[k.row];exact hr) h2 e
 ·cases e
theorem zQw(t:Mp){s s1:TS}{c:Cm}(hw:Wf s)(hr:s.row=[])(h:TIt t s)(e:doC s c=.ok s1):TIt t s1:=by
 unfold doC at e;split at e
 ·exact zGk t hw hr h e
 split at e
 ·exact zNc t hw h e
 split at e
 ·exact zRR t hw hr h e
 split at e
 ·unfold payS at e;split at e
  ·cases e;exact⟨h.tb,h.nd,h.ap⟩
  ·cases e
 split at e
 ·unfold zEV at e;split at e
  ·cases e;exact⟨h.tb,h.nd,h.ap⟩
  ·cases e
 ·cases e
structure TF (t:Mp) (f:FS):Prop where
 tb:TBl t (bp f.bs f.ss)
 nd:(f.ws.map (·.id)).Nodup
 ap:∀id∈f.ws.map (·.id),id ∉ bIds f.bs f.ss
theorem fdo_tf(t:Mp){f:FS}{c:Cm}{s:TS}(hw:Wf (zBw f))(h:TF t f)(e:fdo f c=.ok s):TF (mEvs t s.evs) (zEw s):=by
 obtain⟨s1,e1,e2⟩:=zAk e;have h0:TIt t (zBw f):=by
  have e0:wIds (zBw f)=f.ws.map (·.id):=by show f.ws.map (·.id)++[]=_;rw[jH]
  exact⟨h.tb,by rw[e0];exact h.nd,by rw[e0];exact h.ap⟩
 have h1:=zQw t hw rfl h0 e1;have g:=zJf hw e1;have h2:=zHq t _ g.wf h1 e2;have hd:=zEF _ g.wf (nzR _) e2;have ew:wIds s=s.ws.map (·.id):=by unfold wIds;rw[hd];simp
 exact⟨h2.tb,by have:=h2.nd;rw[ew] at this;exact this,by have:=h2.ap;rw[ew] at this;exact this⟩
theorem new_tf(m:Int):TF (fun _=>(0,0)) ⟨m,0,[],[],[],pur.newL 9⟩:=⟨⟨(fun x hx=>by cases hx),fun _ _=>rfl⟩,List.nodup_nil,(fun _ h=>by cases h)⟩
end flr
namespace flr
open Go.RowKit que sid mee
open ord (O oV chk prB mB)
open bok (zAc zAf)
open kin (setB setS setG setE zBz zBt mayK)
open slf (V Fine sE lfV gnV repB repS zAQ)
open mrg (zBm zBJ zBK forC forS zBu zCu zCv)
def zEK(p:Int)(l:List Ev):Int:=l.foldl (fun p e=>if e.what=2 then e.tr.price else p) p
theorem zBx(p:Int)(a b:List Ev):zEK p (a++b)=zEK (zEK p a) b:=List.foldl_append
def La(p:Int)(s:TS):Int:=zEK p s.evs
theorem zCh{p:Int}{s:TS}{w id q r:Int}(hw:¬w=2):La p (tell s w id q r)=La p s:=by
 unfold La tell;rw[zBx];show (if w=2 then _ else _)=_
 rw[if_neg hw]
theorem zGl{p:Int}{s s1:TS}{w c d:Int}(e:zBY s w c d=.ok s1):La p s1=La p s∧s1.last=s.last:=by
 unfold zBY at e;split at e
 ·cases e;exact⟨rfl,rfl⟩
 ·cases e
theorem zRS{p:Int}{s s1:TS}{w c d:Int}(e:zDz s w c d=.ok s1):La p s1=La p s∧s1.last=s.last:=by
 unfold zDz at e;split at e
 ·cases e;exact⟨rfl,rfl⟩
 ·cases e
theorem zNe{p:Int}{s s1:TS}{r:R}{a b:Int}(e:part s r a b=.ok s1):La p s1=La p s∧s1.last=s.last:=by
 unfold part at e;obtain⟨s2,e1,e2⟩:=zAk e;unfold zCi at e1;split at e1
 ·obtain⟨h1,h2⟩:=zGl (p:=p) e1;cases e2;exact⟨(zCh (by decide)).trans h1,h2⟩
 ·cases e1
theorem zHr{p:Int}:∀ (ts:List T) {s s1:TS},trades s ts=.ok s1→La p s1=(if ts=[] then La p s else (ts[ts.length - 1]!).price)∧s1.last=s.last
 | [],s,s1,e=>by cases e;exact⟨by rw[if_pos rfl],rfl⟩
 | x::ts,s,s1,e=>by
  obtain⟨s2,e1,e2⟩:=zAk e;unfold trade1 at e1;split at e1
  ·cases e1;obtain⟨h1,h2⟩:=zHr (p:=p) ts e2;refine⟨?_,h2⟩;by_cases h0:ts=[]
   ·subst h0;rw[h1,if_pos rfl,if_neg (show ¬ [x]=[] from fun e=>by cases e)]
    unfold La;rw[zBx];rfl
   ·rw[h1,if_neg h0,if_neg (show ¬x::ts=[] from fun e=>by cases e)]
    obtain⟨y,t,rfl⟩:=List.exists_cons_of_ne_nil h0;simp
  ·cases e1
theorem zJk{p:Int}:∀ (l:List Int) {s s1:TS},parts s l=.ok s1→La p s1=La p s∧s1.last=s.last
 | [],s,s1,e=>by cases e;exact⟨rfl,rfl⟩
 | x::l,s,s1,e=>by
  obtain⟨s2,e1,e2⟩:=zAk e;unfold zDG at e1;split at e1
  ·obtain⟨h1,h2⟩:=zNe (p:=p) e1;obtain⟨h3,h4⟩:=zJk (p:=p) l e2;exact⟨h3.trans h1,h4.trans h2⟩
  ·cases e1
theorem zIh{p:Int}(s:TS)(o:O)(v:Vs):La p (zAu s o v)=La p s∧(zAu s o v).last=s.last:=by
 unfold zAu zAA;split <;>split
 ·exact⟨(zCh (by decide)).trans (zCh (by decide)),rfl⟩
 ·exact⟨zCh (by decide),rfl⟩
 ·exact⟨zCh (by decide),rfl⟩
 ·exact⟨rfl,rfl⟩
theorem zHs{p:Int}{s s1:TS}{o:O}{v:Vs}(h:s.last=La p s)(e:settle s o v=.ok s1):s1.last=La p s1:=by
 unfold settle at e;obtain⟨s2,e1,e⟩:=zAk e;obtain⟨a1,b1⟩:=zHr (p:=p) _ e1;split at e
 ·obtain⟨s3,e2,e⟩:=zAk e;obtain⟨a2,b2⟩:=zGl (p:=p) e2;obtain⟨s4,e3,e⟩:=zAk e;obtain⟨a3,b3⟩:=zJk (p:=p) _ e3;have h5:=zIh (p:=p) { s4 with bs:=v.bs,ss:=v.ss } o v
  have a5:La p (zAu { s4 with bs:=v.bs,ss:=v.ss } o v)=La p s4:=h5.1
  have b5:(zAu { s4 with bs:=v.bs,ss:=v.ss } o v).last=s4.last:=h5.2
  generalize zAu { s4 with bs:=v.bs,ss:=v.ss } o v=s5 at *
  have hA:La p s5=if v.ts=[] then La p s else (v.ts[v.ts.length - 1]!).price:=by rw[a5,a3,a2,a1]
  have hB:s5.last=s.last:=by rw[b5,b3,b2,b1]
  unfold zCP at e;split at e
  ·rename_i h0
   cases e;rw[hA,if_pos h0,hB,h]
  ·rename_i h0
   split at e
   ·cases e;show (v.ts[v.ts.length - 1]!).price=La p s5
    rw[hA,if_neg h0]
   ·cases e
 ·cases e
theorem zHt{p:Int}{s s1:TS}{o:O}(h:s.last=La p s)(e:vanish s o=.ok s1):s1.last=La p s1:=by
 unfold vanish at e;split at e
 ·obtain⟨s2,e1,e2⟩:=zAk e;obtain⟨h1,h2⟩:=zGl (p:=p) e1;cases e2;show s2.last=_
  rw[zCh (by decide),h1,h2,h]
 ·cases e
theorem zRT{p:Int}{s s1:TS}{o:O}(h:s.last=La p s)(e:rise s o=.ok s1):s1.last=La p s1:=by
 unfold rise at e;split at e
 ·exact zHs h e
 ·exact zHt h e
theorem zHu{p:Int}:∀ (n:Nat) {s s1:TS},s.last=La p s→zBv n s=.ok s1→s1.last=La p s1
 | 0,s,s1,h,e=>by cases e;exact h
 | n+1,s,s1,h,e=>by
  cases hr:s.row with
  | nil=>rw[zBF _ _ hr] at e;cases e;exact h
  | cons x r=>
   rw[zBn _ _ hr] at e;obtain⟨s2,e1,e2⟩:=zAk e;refine zHu n (zRT ?_ e1) e2;rw[zCh (by decide)]
   exact h
theorem zJl{p:Int}{s s1:TS}{o:O}(h:s.last=La p s)(e:place s o=.ok s1):s1.last=La p s1:=by
 unfold place at e;split at e
 ·split at e
  ·cases e
  ·obtain⟨s2,e1,e2⟩:=zAk e;obtain⟨h1,h2⟩:=zRS (p:=p) e1;have h3:s2.last=La p s2:=by rw[h1,h2,h]
   split at e2
   ·unfold come at e2;split at e2
    ·exact zHs h3 e2
    ·cases e2
   ·unfold sleep at e2;split at e2
    ·cases e2;rw[zCh (by decide)]
     exact h3
    ·cases e2
 ·cases e
theorem zJm{p:Int}{s s1:TS}{id:Int}(h:s.last=La p s)(e:leave s id=.ok s1):s1.last=La p s1:=by
 unfold leave at e;split at e
 ·obtain⟨h1,h2⟩:=zNe (p:=p) e;rw[h1,h2];exact h
 ·cases e
theorem doC_la{p:Int}{s s1:TS}{c:Cm}(h:s.last=La p s)(e:doC s c=.ok s1):s1.last=La p s1:=by
 unfold doC at e;split at e
 ·exact zJl h e
 split at e
 ·unfold cancel at e;split at e
  ·exact zJm h e
  ·split at e
   ·cases e
   ·exact zHt (s:={ s with ws:=drop1 s.ws c.o.id }) h e
 split at e
 ·unfold swap at e;split at e
  ·split at e
   ·unfold shrink at e;simp only[] at e;split at e
    ·obtain⟨s2,e1,e⟩:=zAk e;have h2:La p s2=La p s∧s2.last=s.last:=by
      split at e1
      ·unfold zCi at e1;split at e1
       ·exact zGl e1
       ·cases e1
      ·cases e1;exact⟨rfl,rfl⟩
     cases e;rw[zCh (by decide)]
     show s2.last=La p s2
     rw[h2.1,h2.2,h]
    ·cases e
   ·obtain⟨s2,e1,e⟩:=zAk e;exact zJl (zJm h e1) e
  ·cases e
 split at e
 ·unfold payS at e;split at e
  ·cases e;exact h
  ·cases e
 split at e
 ·unfold zEV at e;split at e
  ·cases e;exact h
  ·cases e
 ·cases e
theorem zPO{f:FS}{c:Cm}{s:TS}(e:fdo f c=.ok s):s.last=zEK f.last s.evs:=by
 obtain⟨s1,e1,e2⟩:=zAk e;exact zHu (p:=f.last) _ (doC_la (p:=f.last) rfl e1) e2
end flr
end Go.Proofs.YtmhcghgfpfainaaGreatDoor
