import Derived.Test.YtmhcghgfpfainaaGreatDoorFlrTp5
namespace Go.Proofs.YtmhcghgfpfainaaGreatDoor
namespace flr
open Go.RowKit que sid mee
open ord (O oV chk prB mB)
open bok (zAc zAf)
open kin (setB setS setG setE zBz zBt mayK)
open slf (V Fine sE lfV gnV repB repS zAQ)
open mrg (zBm zBJ zBK forC forS zBu zCu zCv)
def EvB(e:Ev):Prop:=
 (e.what=2∧(1≤e.tr.maker∧e.tr.maker≤9999)∧(1≤e.tr.taker∧e.tr.taker≤9999)∧(1≤e.tr.frm∧e.tr.frm≤9)∧(1≤e.tr.into∧e.tr.into≤9)∧(1≤e.tr.price∧e.tr.price≤10000)∧1≤e.tr.qty∧e.tr.qty≤10000)∨
 ((e.what=1∨e.what=3∨e.what=4∨e.what=5)∧(1≤e.id∧e.id≤9999)∧(0≤e.qty∧e.qty≤10000)∧0≤e.price∧e.price≤10000)
def EB(s:TS):Prop:=∀e∈s.evs,EvB e
def Hb(t:Mp):Prop:=∀id,(t id).1≤10000
theorem mEv_hb{t:Mp}{e:Ev}(h:Hb t)(he:EvB e):Hb (mEv t e):=by
 intro id;have h0:=h id;unfold mEv;split
 ·rename_i h1
  rcases he with ⟨h2,-⟩|⟨-,-,hq,-⟩
  ·omega
  ·unfold mPut;split
   ·exact hq.2
   ·exact h0
 ·split
  ·rename_i h1 h2
   rcases he with ⟨-,-,-,-,-,-,hq⟩|⟨hw,-⟩
   ·unfold mTrd;split
    ·show max 0 ((t id).1 - e.tr.qty)≤10000;omega
    ·exact h0
   ·omega
  ·split
   ·unfold zBS;split
    ·show (0:Int)≤10000;decide
    ·exact h0
   ·exact h0
theorem zIi:∀ (l:List Ev) {t:Mp},Hb t→(∀e∈l,EvB e)→Hb (mEvs t l)
 | [],_,h,_=>h
 | e::l,t,h,he=>zIi l (mEv_hb h (he e (by simp))) (fun x hx=>he x (by simp[hx]))
theorem EB.tell{s:TS}(h:EB s){w id q p:Int}(hw:w=1∨w=3∨w=4∨w=5)(hi:1≤id∧id≤9999)(hq:0≤q∧q≤10000)(hp:0≤p∧p≤10000):EB (tell s w id q p):=fun e he=>by
 rcases List.mem_append.1 he with he|he
 ·exact h e he
 ·rcases List.mem_cons.1 he with rfl|he
  ·exact .inr ⟨hw,hi,hq,hp⟩
  ·cases he
theorem zIj{s s1:TS}{w c d:Int}(h:EB s)(e:zBY s w c d=.ok s1):EB s1:=by
 unfold zBY at e;split at e
 ·cases e;exact h
 ·cases e
theorem zJn{s s1:TS}{r:R}{a p:Int}(h:EB s)(e:zCi s r a p=.ok s1):EB s1:=by
 unfold zCi at e;split at e
 ·exact zIj h e
 ·cases e
theorem zNf{s s1:TS}{r:R}{a p:Int}(h:EB s)(hr:rchk r=0)(hq:tq r≤10000)(hp:1≤p∧p≤10000)(e:part s r a p=.ok s1):EB s1:=by
 unfold part at e;obtain⟨s2,e1,e2⟩:=zAk e;cases e2;have hz:=que.zAp hr;have h0:=tq_nn hr;exact(zJn h e1).tell (.inr (.inl rfl)) hz.2.2.2.2.2.1 ⟨h0,hq⟩ ⟨by omega,hp.2⟩
structure Rst (bs ss:List L):Prop where
 book:zAc bs ss=0
 small:∀x∈bp bs ss,tq x.2≤10000
theorem Rst.good{bs ss:List L}(h:Rst bs ss){x:Int × R}(hx:x∈bp bs ss):(1≤x.1∧x.1≤10000)∧rchk x.2=0∧tq x.2≤10000:=by
 obtain⟨e1,e2,-⟩:=bok.zAe h.book;rcases List.mem_append.1 hx with h1|h1
 ·have:=zJh e1 x h1;exact⟨⟨this.1,this.2.1⟩,this.2.2,h.small x hx⟩
 ·have:=zJh e2 x h1;exact⟨⟨this.1,this.2.1⟩,this.2.2,h.small x hx⟩
theorem Rst.at{bs ss:List L}(h:Rst bs ss){id:Int}(Ht:zAf bs ss id=true):(1≤(spot bs ss id).p∧(spot bs ss id).p≤10000)∧rchk (spot bs ss id).r=0∧tq (spot bs ss id).r≤10000∧(spot bs ss id).r.id=id:=by
 have hA:swp.At bs ss id (spot bs ss id).s (spot bs ss id).p (spot bs ss id).r (spot bs ss id).i (spot bs ss id).k:=wAq h.book Ht;obtain⟨hm,ha⟩:=zJg hA;have hx:((spot bs ss id).p,(spot bs ss id).r)∈bp bs ss:=by
  unfold bp;rcases ha with ha|ha
  ·rw[ha,if_pos rfl] at hm;exact List.mem_append_left _ hm
  ·rw[ha,if_neg (by decide)] at hm;exact List.mem_append_right _ hm
 have:=h.good hx;exact⟨this.1,this.2.1,this.2.2,hA.id⟩
theorem zQx{t:Mp}{bs ss:List L}(hb:zAc bs ss=0)(h:TBl t (bp bs ss))(ht:Hb t):Rst bs ss:=⟨hb,fun x hx=>by
 have h1:=h.1 x hx;have h2:=ht (pid x);rw[h1] at h2;exact h2⟩
theorem zJo(t:Mp):∀ (l:List Int) {s s1:TS},EB s→Rst s.bs s.ss→parts s l=.ok s1→EB s1
 | [],s,s1,h,_,e=>by cases e;exact h
 | x::l,s,s1,h,hr,e=>by
  obtain⟨s2,e1,e2⟩:=zAk e;unfold zDG at e1;split at e1
  ·rename_i Ht
   have ha:=hr.at Ht;obtain⟨-,k⟩:=zIg t e1;exact zJo t l (zNf h ha.2.1 ha.2.2.1 ha.1 e1) (by rw[k.bs,k.ss];exact hr) e2
  ·cases e1
theorem zHv:∀ (ts:List T) {s s1:TS},EB s→(∀x∈ts,(1≤x.maker∧x.maker≤9999)∧1≤x.taker∧x.taker≤9999)→trades s ts=.ok s1→EB s1
 | [],s,s1,h,_,e=>by cases e;exact h
 | x::ts,s,s1,h,hx,e=>by
  obtain⟨s2,e1,e2⟩:=zAk e;unfold trade1 at e1;split at e1
  ·rename_i h0
   cases e1;obtain⟨hb,-⟩:=pur.zEv h0;obtain⟨b1,b2,b3,b4,b5,b6,b7,b8⟩:=pur.zIc hb;have mq:=hx x (by simp)
   refine zHv ts (fun e he=>?_) (fun y hy=>hx y (by simp[hy])) e2
   rcases List.mem_append.1 he with he|he
   ·exact h e he
   ·rcases List.mem_cons.1 he with rfl|he
    ·exact .inl ⟨rfl,mq.1,mq.2,⟨b1,b2⟩,⟨b3,b4⟩,⟨b5,b6⟩,b7,b8⟩
    ·cases he
  ·cases e1
theorem zNg{m:Int}{o:O}{ls:List L}{k:Int}{v:V}(h:Fil m o ls k v):(∀l∈ls,lchk l=0)→∀x∈v.ts,1≤x.maker∧x.maker≤9999:=by
 induction h with
 | done=>exact fun _ _ hx=>by cases hx
 | stop=>exact fun _ _ hx=>by cases hx
 | taker=>exact fun _ _ hx=>by cases hx
 | maker _ _ _ _ ih=>exact fun hl=>ih (zAQ hl)
 | both=>exact fun _ _ hx=>by cases hx
 | @fill p r rs t k v h0 _ _ _ ih=>
  intro hl x hx;rcases List.mem_cons.1 hx with rfl|hx
  ·obtain⟨-,-,hq⟩:=zAh (hl _ (List.mem_cons_self ..));have hz:=que.zAp (((zAm _).1 hq).2.1 r (by simp))
   have:(trd o p ⟨r.id,r.who,min k r.qty⟩).maker=r.id:=by unfold trd;split <;>rfl
   rw[this];exact hz.2.2.2.2.2.1
  ·exact ih (zBh h0 hl) x hx
theorem zGm{o:O}(h:chk o=0):(1≤o.id∧o.id≤9999)∧(0≤o.price∧o.price≤10000)∧(1≤o.qty∧o.qty≤10000)∧0≤o.stop∧o.stop≤10000:=by
 obtain⟨h1,h2,h3,h4,h5⟩:=ord.zBB h;simp[ord.zCI] at h1;simp[ord.qtyB] at h3;refine⟨by omega,?_,by omega,?_⟩
 ·unfold ord.zAJ at h2;split at h2
  ·simp only[decide_eq_true_eq] at h2;omega
  ·unfold ord.prB at h2;simp only[Bool.and_eq_true,decide_eq_true_eq] at h2;omega
 ·unfold ord.zFv ord.prB at h5;simp only[Bool.and_eq_true,Bool.or_eq_true,decide_eq_true_eq] at h5;omega
theorem zNh(t:Mp){s s1:TS}{o:O}(hw:Wf s)(h:EB s)(hr:Rst s.bs s.ss)(hv:vE s.mode s.bs s.ss o=0)(e:settle s o (vR s.mode s.bs s.ss o)=.ok s1):EB s1:=by
 obtain⟨v,hf⟩:=zHj hw.m0 hw.m3 hv;have BU:=hf.ff;obtain⟨-,gF,-,-⟩:=zAF hf.come;have ho:=zGm gF;have hod:=wAp hf.come;have hmk:=zNg hf.fil hod;rw[hf.is] at e;unfold settle at e;obtain⟨s2,e1,e⟩:=zAk e;have k2:=zHv _ h (fun x hx=>⟨hmk x hx,by rw[(BU.each x hx).2.2.2.2.1];exact ho.1⟩) e1
 obtain⟨-,b1⟩:=zEH t _ e1;split at e
 ·obtain⟨s3,e2,e⟩:=zAk e;have k3:=zIj k2 e2;obtain⟨-,b2⟩:=zEG t e2;obtain⟨s4,e3,e⟩:=zAk e;have b:=b1.trans b2;have k4:=zJo t _ k3 (by rw[b.bs,b.ss];exact hr) e3
  have PC:=BU.sum;have hleft:=BU.left;have dP:0≤sumT v.ts:=by
   have:∀ (l:List T),(∀x∈l,1≤x.qty)→0≤sumT l:=fun l=>by
    induction l with
    | nil=>exact fun _=>jY _
    | cons x l ih=>intro hx;have h1:=hx x (by simp);have h2:=ih (fun y hy=>hx y (by simp[hy]));simp only[sumT];omega
   exact this v.ts (fun x hx=>(BU.each x hx).1)
  have hgn:0≤gnV v+setG o (lfV v)∧gnV v+setG o (lfV v)≤10000:=by
   have hq:=ho.2.2.1;unfold kin.setG slf.gnV slf.lfV;split <;>split <;>omega
  have k5:∀b' s',EB (zAu { s4 with bs:=b',ss:=s' } o ⟨setB (repB o s.bs v.ls) o (lfV v),setS (repS o s.ss v.ls) o (lfV v),v.ts,gnV v+setG o (lfV v),v.ids⟩):=fun b' s'=>by
   have hg:EB (zAA { s4 with bs:=b',ss:=s' } o ⟨setB (repB o s.bs v.ls) o (lfV v),setS (repS o s.ss v.ls) o (lfV v),v.ts,gnV v+setG o (lfV v),v.ids⟩):=by
    unfold zAA;split
    ·exact EB.tell (s:={ s4 with bs:=b',ss:=s' }) k4 (.inr (.inl rfl)) ho.1 hgn ho.2.1
    ·exact k4
   unfold zAu;split
   ·rename_i uA
    refine hg.tell (.inl rfl) ho.1 ⟨by omega,?_⟩ ho.2.1
    show o.qty - (gnV v+setG o (lfV v)) - sumT v.ts≤10000
    have:=ho.2.2.1;omega
   ·exact hg
  have k6:=k5 (setB (repB o s.bs v.ls) o (lfV v)) (setS (repS o s.ss v.ls) o (lfV v));unfold zCP at e;split at e
  ·cases e;exact k6
  ·split at e
   ·cases e;exact k6
   ·cases e
 ·cases e
end flr
namespace flr
open Go.RowKit que sid mee
open ord (O oV chk prB mB)
open bok (zAc zAf)
open mrg (zBm zBJ zBK forC forS)
structure EI (t:Mp) (s:TS):Prop where
 wf:Wf s
 ti:TIt t s
 eb:EB s
 ws:∀o∈s.ws,chk o=0
 row:∀x∈s.row,chk x.o=0∧0≤x.p∧x.p≤10000
theorem EI.rst{t:Mp}{s:TS}(h:EI t s)(ht:Hb t):Rst s.bs s.ss:=zQx h.wf.book h.ti.tb (zIi _ ht h.eb)
theorem zPP{s s1:TS}{ts:List T}(hw:∀o∈s.ws,chk o=0)(hr:∀x∈s.row,chk x.o=0∧0≤x.p∧x.p≤10000)(e:zCP s ts=.ok s1):(∀o∈s1.ws,chk o=0)∧∀x∈s1.row,chk x.o=0∧0≤x.p∧x.p≤10000:=by
 unfold zCP at e;split at e
 ·cases e;exact⟨hw,hr⟩
 ·split at e
  ·rename_i hp
   cases e;generalize (ts[ts.length - 1]!).price=p at *;unfold ord.prB at hp;simp only[Bool.and_eq_true,decide_eq_true_eq] at hp;refine⟨fun o ho=>hw o (List.mem_filter.1 ho).1,fun x hx=>?_⟩
   rcases List.mem_append.1 hx with hx|hx
   ·exact hr x hx
   ·obtain⟨o,ho,rfl⟩:=List.mem_map.1 hx;unfold wak.woke at ho;obtain⟨o',dN,rfl⟩:=List.mem_map.1 ho;refine⟨zRM (hw o' ?_),by show 0≤p;omega,hp.2⟩
    exact(List.mem_filter.1 ((wak.zDu _ _).mem_iff.1 dN)).1
  ·cases e
theorem zHw(t:Mp)(ht:Hb t){s s1:TS}{o:O}(h:EI t s)(ho:o.id ∉ wIds s)(hv:vE s.mode s.bs s.ss o=0)(e:settle s o (vR s.mode s.bs s.ss o)=.ok s1):EI t s1:=by
 obtain⟨-,⟨s0,a,b,-,-,-,hk⟩,-⟩:=zHp t h.wf hv h.ti.tb e;have M2:=zPP (by rw[a];exact h.ws) (by rw[b];exact h.row) hk
 have mp:Wf s1:=(zEC h.wf (zJc h.wf.m0 h.wf.m3 hv) e).wf;exact⟨mp,zEI t h.wf h.ti ho hv e,zNh t h.wf h.eb (h.rst ht) hv e,M2.1,M2.2⟩
theorem zHx(t:Mp){s s1:TS}{o:O}(h:EI t s)(hb:o.id ∉ bIds s.bs s.ss)(e:vanish s o=.ok s1):EI t s1:=by
 have h1:=zEJ t h.ti hb e;have hw:=(zED h.wf e).wf;unfold vanish at e;split at e
 ·rename_i gF
  obtain⟨s2,e1,e2⟩:=zAk e;obtain⟨-,k⟩:=zEG t e1;have ho:=zGm gF;have hq:=ho.2.2.1;have k2:=zIj h.eb e1;cases e2;exact⟨hw,h1,k2.tell (.inr (.inl rfl)) ho.1 ⟨by omega,hq.2⟩ ho.2.1,by show ∀o∈s2.ws,_;rw[k.ws];exact h.ws,by show ∀x∈s2.row,_;rw[k.row];exact h.row⟩
 ·cases e
theorem zRU(t:Mp)(ht:Hb t){s s1:TS}{o:O}(h:EI t s)(ho:o.id ∉ wIds s)(hb:o.id ∉ bIds s.bs s.ss)(e:rise s o=.ok s1):EI t s1:=by
 unfold rise at e;split at e
 ·rename_i hv;exact zHw t ht h ho hv e
 ·exact zHx t h hb e
theorem zHy(t:Mp)(ht:Hb t):∀ (n:Nat) {s s1:TS},EI t s→zBv n s=.ok s1→EI t s1
 | 0,s,s1,h,e=>by cases e;exact h
 | n+1,s,s1,h,e=>by
  cases hr:s.row with
  | nil=>rw[zBF _ _ hr] at e;cases e;exact h
  | cons x r=>
   rw[zBn _ _ hr] at e;obtain⟨s2,e1,e2⟩:=zAk e;have hx:=h.row x (by rw[hr];simp)
   have ho:=zGm hx.1;have uH:(wIds s).Perm (x.o.id::wIds (tell { s with row:=r } 4 x.o.id x.o.qty x.p)):=by
    show (s.ws.map (·.id)++s.row.map (·.o.id)).Perm (x.o.id::(s.ws.map (·.id)++r.map (·.o.id)))
    rw[hr,jK];exact List.perm_middle
   have uM:=uH.nodup_iff.1 h.ti.nd;rw[List.nodup_cons] at uM;have hq:=ho.2.2.1;have h2:EI t (tell { s with row:=r } 4 x.o.id x.o.qty x.p):=by
    refine⟨⟨h.wf.m0,h.wf.m3,h.wf.book,h.wf.ok,h.wf.ws⟩,⟨?_,uM.2,fun id hi=>h.ti.ap id (uH.mem_iff.2 (List.mem_cons_of_mem _ hi))⟩,?_,h.ws,fun y hy=>h.row y (by rw[hr];exact List.mem_cons_of_mem _ hy)⟩
    ·rw[zCx];exact h.ti.tb
    ·exact EB.tell (s:={ s with row:=r }) h.eb (.inr (.inr (.inl rfl))) ho.1 ⟨by omega,hq.2⟩ hx.2
   exact zHy t ht n (zRU t ht h2 uM.1 (h.ti.ap _ (uH.mem_iff.2 List.mem_cons_self)) e1) e2
theorem zJp(t:Mp)(ht:Hb t){s s1:TS}{o:O}(hr:s.row=[])(h:EI t s)(e:place s o=.ok s1):EI t s1:=by
 have h1:=zGk t h.wf hr h.ti e;have hw:=(zGf h.wf e).wf;unfold place at e;split at e
 ·rename_i gF
  split at e
  ·cases e
  ·rename_i hh
   obtain⟨n1,n2⟩:=zQv hr hh;obtain⟨s2,e1,e2⟩:=zAk e;obtain⟨hm,k⟩:=zMZ t e1;have uE:=(wAW h.wf e1).1;have h2:EI t s2:=by
    refine⟨uE,h.ti.like hm k,?_,by rw[k.ws];exact h.ws,by rw[k.row];exact h.row⟩
    unfold zDz at e1;split at e1
    ·cases e1;exact h.eb
    ·cases e1
   have ew:wIds s2=wIds s:=by unfold wIds;rw[k.ws,k.row]
   split at e2
   ·unfold come at e2;split at e2
    ·rename_i hv;exact zHw t ht h2 (by rw[ew];exact n1) hv e2
    ·cases e2
   ·unfold sleep at e2;split at e2
    ·cases e2;have ho:=zGm gF;have hq:=ho.2.2.1;refine⟨hw,h1,EB.tell (s:={ s2 with ws:=s2.ws++[o] }) h2.eb (.inr (.inr (.inr rfl))) ho.1 ⟨by omega,hq.2⟩ ho.2.2.2,fun y hy=>?_,h2.row⟩
     rcases List.mem_append.1 hy with hy|hy
     ·exact h2.ws y hy
     ·rcases List.mem_cons.1 hy with rfl|hy
      ·exact gF
      ·cases hy
    ·cases e2
 ·cases e
theorem zJq(t:Mp)(ht:Hb t){s s1:TS}{id:Int}(h:EI t s)(e:leave s id=.ok s1):EI t s1:=by
 obtain⟨h1,-,k⟩:=zDX t h.wf h.ti e;have hw:=(zDf h.wf e).wf;have cD:s1.ws=s.ws:=k.ws;have Hd:s1.row=s.row:=k.row;refine⟨hw,h1,?_,by rw[cD];exact h.ws,by rw[Hd];exact h.row⟩
 unfold leave at e;split at e
 ·rename_i Ht
  have ha:=(h.rst ht).at Ht;have h0:EB { s with bs:=swp.cB (spot s.bs s.ss id).s s.bs (spot s.bs s.ss id).i (spot s.bs s.ss id).k,ss:=swp.cS (spot s.bs s.ss id).s s.ss (spot s.bs s.ss id).i (spot s.bs s.ss id).k }:=h.eb
  exact zNf h0 ha.2.1 ha.2.2.1 ha.1 e
 ·cases e
theorem doC_ei(t:Mp)(ht:Hb t){s s1:TS}{c:Cm}(hr:s.row=[])(h:EI t s)(e:doC s c=.ok s1):EI t s1:=by
 have h1:=zQw t h.wf hr h.ti e;have hw:=(zJf h.wf e).wf;unfold doC at e;split at e
 ·exact zJp t ht hr h e
 split at e
 ·unfold cancel at e;split at e
  ·exact zJq t ht h e
  ·rename_i Ht
   split at e
   ·cases e
   ·rename_i hi
    have Hj:=wak.wBe c.o.id s.ws;have hl:(wak.idx c.o.id s.ws).toNat<s.ws.length:=(by omega);unfold drop1 at e;generalize (wak.idx c.o.id s.ws).toNat=i at *;have hp:(wIds s).Perm ((s.ws[i]!).id::wIds { s with ws:=s.ws.take i++s.ws.drop (i+1) }):=by
     show (s.ws.map (·.id)++s.row.map (·.o.id)).Perm ((s.ws[i]!).id::((s.ws.take i++s.ws.drop (i+1)).map (·.id)++s.row.map (·.o.id)))
     conv=>lhs;rw[←jR i s.ws,zHm s.ws i hl]
     rw[jF,jK,jF,jS,jS,List.cons_append];exact List.perm_middle
    have uM:=hp.nodup_iff.1 h.ti.nd;rw[List.nodup_cons] at uM;have m9:∀o∈s.ws.take i++s.ws.drop (i+1),o∈s.ws:=fun o ho=>by
     rcases List.mem_append.1 ho with ho|ho
     ·exact List.mem_of_mem_take ho
     ·exact List.mem_of_mem_drop ho
    have h2:EI t { s with ws:=s.ws.take i++s.ws.drop (i+1) }:=⟨⟨h.wf.m0,h.wf.m3,h.wf.book,h.wf.ok,by have:=h.wf.ws;show (s.ws.take i++s.ws.drop (i+1)).length≤20;simp only[jE,jJ,jQ];omega⟩,⟨h.ti.tb,uM.2,fun j hj=>h.ti.ap j (hp.mem_iff.2 (List.mem_cons_of_mem _ hj))⟩,h.eb,fun o ho=>h.ws o (m9 o ho),h.row⟩
    exact zHx t h2 (h.ti.ap _ (hp.mem_iff.2 List.mem_cons_self)) e
 split at e
 ·unfold swap at e;split at e
  ·rename_i hE
   obtain⟨-,Ht,-⟩:=swp.zFU hE;split at e
   ·rename_i hk
    have ha:=(h.rst ht).at Ht;have hx:EB s1∧s1.ws=s.ws∧s1.row=s.row:=by
     unfold shrink at e;simp only[] at e;split at e
     ·rename_i hq
      obtain⟨s2,e1,e⟩:=zAk e;have h2:EB s2∧s2.ws=s.ws∧s2.row=s.row:=by
       split at e1
       ·have k:=(zGj t e1).2;exact⟨zJn h.eb e1,k.ws,k.row⟩
       ·cases e1;exact⟨h.eb,rfl,rfl⟩
      have hz:=que.zAp ha.2.1;have hid:=hz.2.2.2.2.2.1;rw[ha.2.2.2] at hid;unfold swp.zDt at hk;simp only[Bool.and_eq_true,decide_eq_true_eq] at hk;have pi:=ha.1;have h3:EB { s2 with bs:=swp.kB (spot s.bs s.ss c.o.id).s s.bs (spot s.bs s.ss c.o.id).i (spot s.bs s.ss c.o.id).k (swp.zAG (spot s.bs s.ss c.o.id).r c.o.qty),ss:=swp.kS (spot s.bs s.ss c.o.id).s s.ss (spot s.bs s.ss c.o.id).i (spot s.bs s.ss c.o.id).k (swp.zAG (spot s.bs s.ss c.o.id).r c.o.qty) }:=h2.1
      cases e;exact⟨h3.tell (.inl rfl) hid ⟨by omega,hq.2⟩ ⟨by omega,by omega⟩,h2.2⟩
     ·cases e
    exact⟨hw,h1,hx.1,by rw[hx.2.1];exact h.ws,by rw[hx.2.2];exact h.row⟩
   ·obtain⟨s2,e1,e⟩:=zAk e;obtain⟨-,-,k⟩:=zDX t h.wf h.ti e1;exact zJp t ht (by rw[k.row];exact hr) (zJq t ht h e1) e
  ·cases e
 split at e
 ·unfold payS at e;split at e
  ·cases e;exact⟨hw,h1,h.eb,h.ws,h.row⟩
  ·cases e
 split at e
 ·unfold zEV at e;split at e
  ·cases e;exact⟨hw,h1,h.eb,h.ws,h.row⟩
  ·cases e
 ·cases e
structure EF (t:Mp) (f:FS):Prop where
 wf:Wf (zBw f)
 tf:TF t f
 hb:Hb t
 ws:∀o∈f.ws,chk o=0
theorem fdo_ef(t:Mp){f:FS}{c:Cm}{s:TS}(h:EF t f)(e:fdo f c=.ok s):EF (mEvs t s.evs) (zEw s)∧(∀x∈s.evs,EvB x)∧s.last=zEK f.last s.evs:=by
 have h0:EI t (zBw f):=by
  have e0:wIds (zBw f)=f.ws.map (·.id):=by show f.ws.map (·.id)++[]=_;rw[jH]
  exact⟨h.wf,⟨h.tf.tb,by rw[e0];exact h.tf.nd,by rw[e0];exact h.tf.ap⟩,(fun x hx=>by cases hx),h.ws,(fun x hx=>by cases hx)⟩
 have htf:=fdo_tf t h.wf h.tf e;have EJ:=zPO e;obtain⟨s1,e1,e2⟩:=zAk e;have h1:=doC_ei t h.hb rfl h0 e1;have h2:=zHy t h.hb _ h1 e2;exact⟨⟨⟨h2.wf.m0,h2.wf.m3,h2.wf.book,h2.wf.ok,h2.wf.ws⟩,htf,zIi _ h.hb h2.eb,h2.ws⟩,h2.eb,EJ⟩
theorem new_ef{m:Int}(h0:0≤m)(h3:m≤3):EF (fun _=>(0,0)) ⟨m,0,[],[],[],pur.newL 9⟩:=⟨(new_iv h0 h3).iv.wf,new_tf m,(fun _=>by show (0:Int)≤10000;decide),(fun _ h=>by cases h)⟩
end flr
namespace tap
open Go.RowKit mee flr
theorem hidT{p:Prop}(h:p):Hid p:=h
theorem getE{α:Type}[Inhabited α](l:List α)(j:Nat)(h:j<l.length):l[j]! = l[j]:=by simp[h]
def Lies(w:World)(b o:Nat)(zs:List Ev):Prop:=∀j,j<zs.length→∀i v,(evL zs[j]!)[i]?=some v→w.cell? ⟨b,o+j*10+i,none⟩=some v
def EL(w:World)(v:Value)(zs:List Ev):Prop:=
 (v=.slice none 0 0∧zs=[])∨∃b o c,v=.slice (some ⟨b,o,none⟩) zs.length c∧zs.length≤c∧c≤9223372036854775807∧b<w.heap.size∧Lies w b o zs
theorem Lies.below{w w' : World}{b o:Nat}{zs:List Ev}(h:Lies w b o zs)(hb:b<w.heap.size)(hB:Bw w w'):Lies w' b o zs:=
 fun j hj i v hv=>(hB.cell (p:=⟨b,o+j*10+i,none⟩) hb).trans (h j hj i v hv)
theorem EL.below{w w' : World}{v:Value}{zs:List Ev}(h:EL w v zs)(hB:Bw w w'):EL w' v zs:=by
 rcases h with h|⟨b,o,c,h1,h2,h3,h4,h5⟩
 ·exact .inl h
 ·exact .inr ⟨b,o,c,h1,h2,h3,jC h4 hB.size,h5.below h4 hB⟩
theorem EL.form{w:World}{v:Value}{zs:List Ev}(h:EL w v zs):∃q c,v=.slice q zs.length c∧zs.length≤9223372036854775807:=by
 rcases h with ⟨h1,h2⟩|⟨b,o,c,h1,h2,h3,h4,h5⟩
 ·subst h2;exact⟨none,0,h1,by simp⟩
 ·exact⟨some ⟨b,o,none⟩,c,h1,by omega⟩
theorem EL.at{w:World}{q:Option Addr}{n c:Nat}{zs:List Ev}(h:EL w (.slice q n c) zs){k:Nat}(hk:k<zs.length):∃g off,q=some ⟨g,off,none⟩∧g<w.heap.size∧∀i v,(evL zs[k]!)[i]?=some v→w.cell? ⟨g,off+k*10+i,none⟩=some v:=by
 rcases h with ⟨h1,h2⟩|⟨b,o,c,h1,h2,h3,h4,h5⟩
 ·subst h2;simp at hk
 ·cases h1;exact⟨b,o,rfl,h4,h5 k hk⟩
end tap
end Go.Proofs.YtmhcghgfpfainaaGreatDoor
