import Derived.Test.YtnfilcpnneckkaaGreatFlrTp3
namespace Go.Proofs.YtnfilcpnneckkaaGreat
namespace flr
open Go.RowKit que sid mee
open ord (O oV chk prB mB)
open bok (zAc zAg)
open mrg (zBp zBJ zBK forC forS)
theorem zRv{bs ss:List L}{id a p:Int}{r:R}{i k:Nat}(h:swp.At bs ss id a p r i k)(r' : R):(bp (swp.kB a bs i k r') (swp.kS a ss i k r')).Perm ((p,r')::bp (swp.cB a bs i k) (swp.cS a ss i k)):=by
 obtain⟨ls,hS,hp,hr⟩:=h;have hd:(prs (swp.setL ls i k r')).Perm ((p,r')::prs (zBo ls i k)):=by
  obtain⟨x,y,c,d,h1,h2,h3,h4⟩:=swp.zCs hS.hi hS.hk;rw[hp,hr] at *;rw[h1,←h2,←h4,swp.zEq,swp.zFN];split
  ·rename_i hz
   have hc:c=[]:=List.eq_nil_of_length_eq_zero (by omega)
   have hd:d=[]:=List.eq_nil_of_length_eq_zero (by omega)
   subst hc hd;rw[zAO,zAO,zAW];simp only[jU,jK,List.map_nil,List.singleton_append];exact List.perm_middle
  ·rw[zAO,zAO,zAW,zAW];simp only[jF,jK,jS,List.cons_append];rw[←jS,←jS];exact List.perm_middle
 unfold bp swp.kB swp.kS swp.cB swp.cS;rcases hS.side with ⟨rfl,rfl,-⟩|⟨rfl,rfl,-⟩
 ·simp only[if_true];exact hd.append_right _
 ·simp only[if_neg (show ¬(2:Int)=1 by decide)]
  exact(hd.append_left _).trans List.perm_middle
theorem zMM(t:Mp){s s1:TS}{id price qty:Int}(hw:Wf s)(h:TIt t s)(Hv:zAg s.bs s.ss id=true)(hk:swp.zDt (spot s.bs s.ss id).p (spot s.bs s.ss id).r price qty=true)(e:shrink s id price qty=.ok s1):TIt t s1:=by
 have hA:=wAs hw.book Hv;unfold shrink at e;simp only[] at e;generalize spot s.bs s.ss id=x at *;obtain⟨a,p,r,i,k⟩:=x;simp only[] at e hk;have dk : swp.At s.bs s.ss id a p r i k:=hA;split at e
 ·obtain⟨s2,e1,e⟩:=zAk e;have h2:Me t s2=Me t s∧Sme s s2:=by
   split at e1
   ·exact zGh t e1
   ·cases e1;exact⟨rfl,rfl,rfl,rfl,rfl,rfl⟩
  obtain⟨hm,k2⟩:=h2;cases e;unfold swp.zDt at hk;simp only[Bool.and_eq_true,decide_eq_true_eq] at hk;obtain⟨rfl,-⟩:=hk;have hid:r.id=id:=dk.id;have hp:=zMK dk;have hq:=zRv dk (swp.zAI r qty);have uN:=(hp.map pid).nodup_iff.1 (zGg hw.book);rw[jK,List.nodup_cons] at uN;have hg:=(h.tb.perm hp).drop uN.1;have uU:TBl (mPut (Me t s) id qty price) ((price,swp.zAI r qty)::bp (swp.cB a s.bs i k) (swp.cS a s.ss i k)):=by
   have h1:=hg.put (x:=(price,swp.zAI r qty)) (by show (swp.zAI r qty).id ∉ _;exact uN.1)
   have e2:mPut (zBZ (Me t s) (pid (price,r))) (pid (price,swp.zAI r qty)) (tq (price,swp.zAI r qty).2) (price,swp.zAI r qty).1=mPut (Me t s) id qty price:=by
    rw[show tq (price,swp.zAI r qty).2=qty from zRt r qty,show pid (price,swp.zAI r qty)=id from hid,show pid (price,r)=id from hid]
    funext j
    unfold mPut zBZ;by_cases hj:j=id
    ·rw[if_pos hj,if_pos hj]
    ·rw[if_neg hj,if_neg hj,if_neg hj]
   rw[e2] at h1;exact h1
  have md:∀j,j∈bIds (swp.kB a s.bs i k (swp.zAI r qty)) (swp.kS a s.ss i k (swp.zAI r qty))→j∈bIds s.bs s.ss:=fun j hj=>by
   rw[←zDF] at hj ⊢;have h1:=(hq.map pid).mem_iff.1 hj;refine(hp.map pid).mem_iff.2 ?_;rw[jK] at h1 ⊢;exact h1
  refine⟨?_,?_,fun j hj hb=>?_⟩
  ·rw[zCA];show TBl (mPut (Me t s2) id qty price) _
   rw[hm];exact uU.perm hq.symm
  ·have e3:wIds (tell { s2 with bs:=swp.kB a s.bs i k (swp.zAI r qty),ss:=swp.kS a s.ss i k (swp.zAI r qty) } 1 id qty price)=wIds s:=by
    show s2.ws.map (·.id)++s2.row.map (·.o.id)=_
    rw[k2.ws,k2.row];rfl
   rw[e3];exact h.nd
  ·have e3:wIds (tell { s2 with bs:=swp.kB a s.bs i k (swp.zAI r qty),ss:=swp.kS a s.ss i k (swp.zAI r qty) } 1 id qty price)=wIds s:=by
    show s2.ws.map (·.id)++s2.row.map (·.o.id)=_
    rw[k2.ws,k2.row];rfl
   rw[e3] at hj;exact h.ap j hj (md j hb)
 ·cases e
theorem zRw(t:Mp){s s1:TS}{id price qty:Int}(hw:Wf s)(hr:s.row=[])(h:TIt t s)(e:swap s id price qty=.ok s1):TIt t s1:=by
 unfold swap at e;split at e
 ·rename_i hE
  obtain⟨-,Hv,-⟩:=swp.zFQ hE;split at e
  ·rename_i hk;exact zMM t hw h Hv hk e
  ·obtain⟨s2,e1,e⟩:=zAk e;obtain⟨h2,-,k⟩:=zDU t hw h e1;exact zGi t (zDi hw e1).wf (by rw[k.row];exact hr) h2 e
 ·cases e
theorem zQd(t:Mp){s s1:TS}{c:Cm}(hw:Wf s)(hr:s.row=[])(h:TIt t s)(e:doC s c=.ok s1):TIt t s1:=by
 unfold doC at e;split at e
 ·exact zGi t hw hr h e
 split at e
 ·exact zML t hw h e
 split at e
 ·exact zRw t hw hr h e
 split at e
 ·unfold payS at e;split at e
  ·cases e;exact⟨h.tb,h.nd,h.ap⟩
  ·cases e
 split at e
 ·unfold zES at e;split at e
  ·cases e;exact⟨h.tb,h.nd,h.ap⟩
  ·cases e
 ·cases e
structure TF (t:Mp) (f:FS):Prop where
 tb:TBl t (bp f.bs f.ss)
 nd:(f.ws.map (·.id)).Nodup
 ap:∀id∈f.ws.map (·.id),id ∉ bIds f.bs f.ss
theorem fdo_tf(t:Mp){f:FS}{c:Cm}{s:TS}(hw:Wf (zBz f))(h:TF t f)(e:fdo f c=.ok s):TF (mEvs t s.evs) (zEt s):=by
 obtain⟨s1,e1,e2⟩:=zAk e;have h0:TIt t (zBz f):=by
  have e0:wIds (zBz f)=f.ws.map (·.id):=by show f.ws.map (·.id)++[]=_;rw[jH]
  exact⟨h.tb,by rw[e0];exact h.nd,by rw[e0];exact h.ap⟩
 have h1:=zQd t hw rfl h0 e1;have g:=zIQ hw e1;have h2:=zHj t _ g.wf h1 e2;have hd:=zEB _ g.wf (nzR _) e2;have ew:wIds s=s.ws.map (·.id):=by unfold wIds;rw[hd];simp
 exact⟨h2.tb,by have:=h2.nd;rw[ew] at this;exact this,by have:=h2.ap;rw[ew] at this;exact this⟩
theorem new_tf(m:Int):TF (fun _=>(0,0)) ⟨m,0,[],[],[],pur.newL 9⟩:=⟨⟨(fun x hx=>by cases hx),fun _ _=>rfl⟩,List.nodup_nil,(fun _ h=>by cases h)⟩
end flr
namespace flr
open Go.RowKit que sid mee
open ord (O oV chk prB mB)
open bok (zAc zAg)
open kin (setB setS setG setE zBB zBw mayK)
open slf (V Fine sE lfV gnV repB repS zAR)
open mrg (zBp zBJ zBK forC forS zBx zCw zCx)
def zEG(p:Int)(l:List Ev):Int:=l.foldl (fun p e=>if e.what=2 then e.tr.price else p) p
theorem zCB(p:Int)(a b:List Ev):zEG p (a++b)=zEG (zEG p a) b:=List.foldl_append
def La(p:Int)(s:TS):Int:=zEG p s.evs
theorem zCi{p:Int}{s:TS}{w id q r:Int}(hw:¬w=2):La p (tell s w id q r)=La p s:=by
 unfold La tell;rw[zCB];show (if w=2 then _ else _)=_
 rw[if_neg hw]
theorem zGj{p:Int}{s s1:TS}{w c d:Int}(e:zBY s w c d=.ok s1):La p s1=La p s∧s1.last=s.last:=by
 unfold zBY at e;split at e
 ·cases e;exact⟨rfl,rfl⟩
 ·cases e
theorem zRx{p:Int}{s s1:TS}{w c d:Int}(e:zDz s w c d=.ok s1):La p s1=La p s∧s1.last=s.last:=by
 unfold zDz at e;split at e
 ·cases e;exact⟨rfl,rfl⟩
 ·cases e
theorem zMN{p:Int}{s s1:TS}{r:R}{a b:Int}(e:part s r a b=.ok s1):La p s1=La p s∧s1.last=s.last:=by
 unfold part at e;obtain⟨s2,e1,e2⟩:=zAk e;unfold zCk at e1;split at e1
 ·obtain⟨h1,h2⟩:=zGj (p:=p) e1;cases e2;exact⟨(zCi (by decide)).trans h1,h2⟩
 ·cases e1
theorem zHk{p:Int}:∀ (ts:List T) {s s1:TS},trades s ts=.ok s1→La p s1=(if ts=[] then La p s else (ts[ts.length - 1]!).price)∧s1.last=s.last
 | [],s,s1,e=>by cases e;exact⟨by rw[if_pos rfl],rfl⟩
 | x::ts,s,s1,e=>by
  obtain⟨s2,e1,e2⟩:=zAk e;unfold trade1 at e1;split at e1
  ·cases e1;obtain⟨h1,h2⟩:=zHk (p:=p) ts e2;refine⟨?_,h2⟩;by_cases h0:ts=[]
   ·subst h0;rw[h1,if_pos rfl,if_neg (show ¬ [x]=[] from fun e=>by cases e)]
    unfold La;rw[zCB];rfl
   ·rw[h1,if_neg h0,if_neg (show ¬x::ts=[] from fun e=>by cases e)]
    obtain⟨y,t,rfl⟩:=List.exists_cons_of_ne_nil h0;simp
  ·cases e1
theorem zIU{p:Int}:∀ (l:List Int) {s s1:TS},parts s l=.ok s1→La p s1=La p s∧s1.last=s.last
 | [],s,s1,e=>by cases e;exact⟨rfl,rfl⟩
 | x::l,s,s1,e=>by
  obtain⟨s2,e1,e2⟩:=zAk e;unfold zDE at e1;split at e1
  ·obtain⟨h1,h2⟩:=zMN (p:=p) e1;obtain⟨h3,h4⟩:=zIU (p:=p) l e2;exact⟨h3.trans h1,h4.trans h2⟩
  ·cases e1
theorem zIa{p:Int}(s:TS)(o:O)(v:Vs):La p (zAv s o v)=La p s∧(zAv s o v).last=s.last:=by
 unfold zAv zAA;split <;>split
 ·exact⟨(zCi (by decide)).trans (zCi (by decide)),rfl⟩
 ·exact⟨zCi (by decide),rfl⟩
 ·exact⟨zCi (by decide),rfl⟩
 ·exact⟨rfl,rfl⟩
theorem zHl{p:Int}{s s1:TS}{o:O}{v:Vs}(h:s.last=La p s)(e:settle s o v=.ok s1):s1.last=La p s1:=by
 unfold settle at e;obtain⟨s2,e1,e⟩:=zAk e;obtain⟨a1,b1⟩:=zHk (p:=p) _ e1;split at e
 ·obtain⟨s3,e2,e⟩:=zAk e;obtain⟨a2,b2⟩:=zGj (p:=p) e2;obtain⟨s4,e3,e⟩:=zAk e;obtain⟨a3,b3⟩:=zIU (p:=p) _ e3;have h5:=zIa (p:=p) { s4 with bs:=v.bs,ss:=v.ss } o v
  have a5:La p (zAv { s4 with bs:=v.bs,ss:=v.ss } o v)=La p s4:=h5.1
  have b5:(zAv { s4 with bs:=v.bs,ss:=v.ss } o v).last=s4.last:=h5.2
  generalize zAv { s4 with bs:=v.bs,ss:=v.ss } o v=s5 at *
  have hA:La p s5=if v.ts=[] then La p s else (v.ts[v.ts.length - 1]!).price:=by rw[a5,a3,a2,a1]
  have hB:s5.last=s.last:=by rw[b5,b3,b2,b1]
  unfold zCQ at e;split at e
  ·rename_i h0
   cases e;rw[hA,if_pos h0,hB,h]
  ·rename_i h0
   split at e
   ·cases e;show (v.ts[v.ts.length - 1]!).price=La p s5
    rw[hA,if_neg h0]
   ·cases e
 ·cases e
theorem zHm{p:Int}{s s1:TS}{o:O}(h:s.last=La p s)(e:vanish s o=.ok s1):s1.last=La p s1:=by
 unfold vanish at e;split at e
 ·obtain⟨s2,e1,e2⟩:=zAk e;obtain⟨h1,h2⟩:=zGj (p:=p) e1;cases e2;show s2.last=_
  rw[zCi (by decide),h1,h2,h]
 ·cases e
theorem zRy{p:Int}{s s1:TS}{o:O}(h:s.last=La p s)(e:rise s o=.ok s1):s1.last=La p s1:=by
 unfold rise at e;split at e
 ·exact zHl h e
 ·exact zHm h e
theorem zHn{p:Int}:∀ (n:Nat) {s s1:TS},s.last=La p s→zBy n s=.ok s1→s1.last=La p s1
 | 0,s,s1,h,e=>by cases e;exact h
 | n+1,s,s1,h,e=>by
  cases hr:s.row with
  | nil=>rw[zBF _ _ hr] at e;cases e;exact h
  | cons x r=>
   rw[zBq _ _ hr] at e;obtain⟨s2,e1,e2⟩:=zAk e;refine zHn n (zRy ?_ e1) e2;rw[zCi (by decide)]
   exact h
theorem zIV{p:Int}{s s1:TS}{o:O}(h:s.last=La p s)(e:place s o=.ok s1):s1.last=La p s1:=by
 unfold place at e;split at e
 ·split at e
  ·cases e
  ·obtain⟨s2,e1,e2⟩:=zAk e;obtain⟨h1,h2⟩:=zRx (p:=p) e1;have h3:s2.last=La p s2:=by rw[h1,h2,h]
   split at e2
   ·unfold come at e2;split at e2
    ·exact zHl h3 e2
    ·cases e2
   ·unfold sleep at e2;split at e2
    ·cases e2;rw[zCi (by decide)]
     exact h3
    ·cases e2
 ·cases e
theorem zIW{p:Int}{s s1:TS}{id:Int}(h:s.last=La p s)(e:leave s id=.ok s1):s1.last=La p s1:=by
 unfold leave at e;split at e
 ·obtain⟨h1,h2⟩:=zMN (p:=p) e;rw[h1,h2];exact h
 ·cases e
theorem doC_la{p:Int}{s s1:TS}{c:Cm}(h:s.last=La p s)(e:doC s c=.ok s1):s1.last=La p s1:=by
 unfold doC at e;split at e
 ·exact zIV h e
 split at e
 ·unfold cancel at e;split at e
  ·exact zIW h e
  ·split at e
   ·cases e
   ·exact zHm (s:={ s with ws:=drop1 s.ws c.o.id }) h e
 split at e
 ·unfold swap at e;split at e
  ·split at e
   ·unfold shrink at e;simp only[] at e;split at e
    ·obtain⟨s2,e1,e⟩:=zAk e;have h2:La p s2=La p s∧s2.last=s.last:=by
      split at e1
      ·unfold zCk at e1;split at e1
       ·exact zGj e1
       ·cases e1
      ·cases e1;exact⟨rfl,rfl⟩
     cases e;rw[zCi (by decide)]
     show s2.last=La p s2
     rw[h2.1,h2.2,h]
    ·cases e
   ·obtain⟨s2,e1,e⟩:=zAk e;exact zIV (zIW h e1) e
  ·cases e
 split at e
 ·unfold payS at e;split at e
  ·cases e;exact h
  ·cases e
 split at e
 ·unfold zES at e;split at e
  ·cases e;exact h
  ·cases e
 ·cases e
theorem zPu{f:FS}{c:Cm}{s:TS}(e:fdo f c=.ok s):s.last=zEG f.last s.evs:=by
 obtain⟨s1,e1,e2⟩:=zAk e;exact zHn (p:=f.last) _ (doC_la (p:=f.last) rfl e1) e2
def EvB(e:Ev):Prop:=
 (e.what=2∧(1≤e.tr.maker∧e.tr.maker≤9999)∧(1≤e.tr.taker∧e.tr.taker≤9999)∧(1≤e.tr.frm∧e.tr.frm≤9)∧(1≤e.tr.into∧e.tr.into≤9)∧(1≤e.tr.price∧e.tr.price≤10000)∧1≤e.tr.qty∧e.tr.qty≤10000)∨
 ((e.what=1∨e.what=3∨e.what=4∨e.what=5)∧(1≤e.id∧e.id≤9999)∧(0≤e.qty∧e.qty≤10000)∧0≤e.price∧e.price≤10000)
def EB(s:TS):Prop:=∀e∈s.evs,EvB e
def Hb(t:Mp):Prop:=∀id,(t id).1≤10000
theorem mEv_hb{t:Mp}{e:Ev}(h:Hb t)(he:EvB e):Hb (mEv t e):=by
 intro id;have h0:=h id;unfold mEv;split
 ·rename_i h1
  rcases he with ⟨h2,-⟩|⟨-,-,hq,-⟩
  ·omega
  ·unfold mPut;split
   ·exact hq.2
   ·exact h0
 ·split
  ·rename_i h1 h2
   rcases he with ⟨-,-,-,-,-,-,hq⟩|⟨hw,-⟩
   ·unfold mTrd;split
    ·show max 0 ((t id).1 - e.tr.qty)≤10000;omega
    ·exact h0
   ·omega
  ·split
   ·unfold zBZ;split
    ·show (0:Int)≤10000;decide
    ·exact h0
   ·exact h0
theorem zIb:∀ (l:List Ev) {t:Mp},Hb t→(∀e∈l,EvB e)→Hb (mEvs t l)
 | [],_,h,_=>h
 | e::l,t,h,he=>zIb l (mEv_hb h (he e (by simp))) (fun x hx=>he x (by simp[hx]))
theorem EB.tell{s:TS}(h:EB s){w id q p:Int}(hw:w=1∨w=3∨w=4∨w=5)(hi:1≤id∧id≤9999)(hq:0≤q∧q≤10000)(hp:0≤p∧p≤10000):EB (tell s w id q p):=fun e he=>by
 rcases List.mem_append.1 he with he|he
 ·exact h e he
 ·rcases List.mem_cons.1 he with rfl|he
  ·exact .inr ⟨hw,hi,hq,hp⟩
  ·cases he
theorem zIc{s s1:TS}{w c d:Int}(h:EB s)(e:zBY s w c d=.ok s1):EB s1:=by
 unfold zBY at e;split at e
 ·cases e;exact h
 ·cases e
theorem zIX{s s1:TS}{r:R}{a p:Int}(h:EB s)(e:zCk s r a p=.ok s1):EB s1:=by
 unfold zCk at e;split at e
 ·exact zIc h e
 ·cases e
theorem zMO{s s1:TS}{r:R}{a p:Int}(h:EB s)(hr:rchk r=0)(hq:tq r≤10000)(hp:1≤p∧p≤10000)(e:part s r a p=.ok s1):EB s1:=by
 unfold part at e;obtain⟨s2,e1,e2⟩:=zAk e;cases e2;have hz:=que.zAq hr;have h0:=tq_nn hr;exact(zIX h e1).tell (.inr (.inl rfl)) hz.2.2.2.2.2.1 ⟨h0,hq⟩ ⟨by omega,hp.2⟩
structure Rst (bs ss:List L):Prop where
 book:zAc bs ss=0
 small:∀x∈bp bs ss,tq x.2≤10000
theorem Rst.good{bs ss:List L}(h:Rst bs ss){x:Int × R}(hx:x∈bp bs ss):(1≤x.1∧x.1≤10000)∧rchk x.2=0∧tq x.2≤10000:=by
 obtain⟨e1,e2,-⟩:=bok.zAh h.book;rcases List.mem_append.1 hx with h1|h1
 ·have:=zIR e1 x h1;exact⟨⟨this.1,this.2.1⟩,this.2.2,h.small x hx⟩
 ·have:=zIR e2 x h1;exact⟨⟨this.1,this.2.1⟩,this.2.2,h.small x hx⟩
theorem Rst.at{bs ss:List L}(h:Rst bs ss){id:Int}(Hv:zAg bs ss id=true):(1≤(spot bs ss id).p∧(spot bs ss id).p≤10000)∧rchk (spot bs ss id).r=0∧tq (spot bs ss id).r≤10000∧(spot bs ss id).r.id=id:=by
 have hA:swp.At bs ss id (spot bs ss id).s (spot bs ss id).p (spot bs ss id).r (spot bs ss id).i (spot bs ss id).k:=wAs h.book Hv;obtain⟨hm,ha⟩:=zPq hA;have hx:((spot bs ss id).p,(spot bs ss id).r)∈bp bs ss:=by
  unfold bp;rcases ha with ha|ha
  ·rw[ha,if_pos rfl] at hm;exact List.mem_append_left _ hm
  ·rw[ha,if_neg (by decide)] at hm;exact List.mem_append_right _ hm
 have:=h.good hx;exact⟨this.1,this.2.1,this.2.2,hA.id⟩
theorem rst_of{t:Mp}{bs ss:List L}(hb:zAc bs ss=0)(h:TBl t (bp bs ss))(ht:Hb t):Rst bs ss:=⟨hb,fun x hx=>by
 have h1:=h.1 x hx;have h2:=ht (pid x);rw[h1] at h2;exact h2⟩
theorem zIY(t:Mp):∀ (l:List Int) {s s1:TS},EB s→Rst s.bs s.ss→parts s l=.ok s1→EB s1
 | [],s,s1,h,_,e=>by cases e;exact h
 | x::l,s,s1,h,hr,e=>by
  obtain⟨s2,e1,e2⟩:=zAk e;unfold zDE at e1;split at e1
  ·rename_i Hv
   have ha:=hr.at Hv;obtain⟨-,k⟩:=zHZ t e1;exact zIY t l (zMO h ha.2.1 ha.2.2.1 ha.1 e1) (by rw[k.bs,k.ss];exact hr) e2
  ·cases e1
theorem zHo:∀ (ts:List T) {s s1:TS},EB s→(∀x∈ts,(1≤x.maker∧x.maker≤9999)∧1≤x.taker∧x.taker≤9999)→trades s ts=.ok s1→EB s1
 | [],s,s1,h,_,e=>by cases e;exact h
 | x::ts,s,s1,h,hx,e=>by
  obtain⟨s2,e1,e2⟩:=zAk e;unfold trade1 at e1;split at e1
  ·rename_i h0
   cases e1;obtain⟨hb,-⟩:=pur.zEs h0;obtain⟨b1,b2,b3,b4,b5,b6,b7,b8⟩:=pur.zHU hb;have mg:=hx x (by simp)
   refine zHo ts (fun e he=>?_) (fun y hy=>hx y (by simp[hy])) e2
   rcases List.mem_append.1 he with he|he
   ·exact h e he
   ·rcases List.mem_cons.1 he with rfl|he
    ·exact .inl ⟨rfl,mg.1,mg.2,⟨b1,b2⟩,⟨b3,b4⟩,⟨b5,b6⟩,b7,b8⟩
    ·cases he
  ·cases e1
theorem zMP{m:Int}{o:O}{ls:List L}{k:Int}{v:V}(h:Fil m o ls k v):(∀l∈ls,lchk l=0)→∀x∈v.ts,1≤x.maker∧x.maker≤9999:=by
 induction h with
 | done=>exact fun _ _ hx=>by cases hx
 | stop=>exact fun _ _ hx=>by cases hx
 | taker=>exact fun _ _ hx=>by cases hx
 | maker _ _ _ _ ih=>exact fun hl=>ih (zAR hl)
 | both=>exact fun _ _ hx=>by cases hx
 | @fill p r rs t k v h0 _ _ _ ih=>
  intro hl x hx;rcases List.mem_cons.1 hx with rfl|hx
  ·obtain⟨-,-,hq⟩:=zAf (hl _ (List.mem_cons_self ..));have hz:=que.zAq (((zAn _).1 hq).2.1 r (by simp))
   have:(trd o p ⟨r.id,r.who,min k r.qty⟩).maker=r.id:=by unfold trd;split <;>rfl
   rw[this];exact hz.2.2.2.2.2.1
  ·exact ih (zBj h0 hl) x hx
theorem zGk{o:O}(h:chk o=0):(1≤o.id∧o.id≤9999)∧(0≤o.price∧o.price≤10000)∧(1≤o.qty∧o.qty≤10000)∧0≤o.stop∧o.stop≤10000:=by
 obtain⟨h1,h2,h3,h4,h5⟩:=ord.zBC h;simp[ord.zCJ] at h1;simp[ord.qtyB] at h3;refine⟨by omega,?_,by omega,?_⟩
 ·unfold ord.zAL at h2;split at h2
  ·simp only[decide_eq_true_eq] at h2;omega
  ·unfold ord.prB at h2;simp only[Bool.and_eq_true,decide_eq_true_eq] at h2;omega
 ·unfold ord.zFr ord.prB at h5;simp only[Bool.and_eq_true,Bool.or_eq_true,decide_eq_true_eq] at h5;omega
theorem zMQ(t:Mp){s s1:TS}{o:O}(hw:Wf s)(h:EB s)(hr:Rst s.bs s.ss)(hv:vE s.mode s.bs s.ss o=0)(e:settle s o (vR s.mode s.bs s.ss o)=.ok s1):EB s1:=by
 obtain⟨v,hf⟩:=zHc hw.m0 hw.m3 hv;have BH:=hf.ff;obtain⟨-,gI,-,-⟩:=zAG hf.come;have ho:=zGk gI;have hod:=wAp hf.come;have hmk:=zMP hf.fil hod;rw[hf.is] at e;unfold settle at e;obtain⟨s2,e1,e⟩:=zAk e;have k2:=zHo _ h (fun x hx=>⟨hmk x hx,by rw[(BH.each x hx).2.2.2.2.1];exact ho.1⟩) e1
 obtain⟨-,b1⟩:=zED t _ e1;split at e
 ·obtain⟨s3,e2,e⟩:=zAk e;have k3:=zIc k2 e2;obtain⟨-,b2⟩:=zEC t e2;obtain⟨s4,e3,e⟩:=zAk e;have b:=b1.trans b2;have k4:=zIY t _ k3 (by rw[b.bs,b.ss];exact hr) e3
  have hsum:=BH.sum;have hleft:=BH.left;have dR:0≤sumT v.ts:=by
   have:∀ (l:List T),(∀x∈l,1≤x.qty)→0≤sumT l:=fun l=>by
    induction l with
    | nil=>exact fun _=>jY _
    | cons x l ih=>intro hx;have h1:=hx x (by simp);have h2:=ih (fun y hy=>hx y (by simp[hy]));simp only[sumT];omega
   exact this v.ts (fun x hx=>(BH.each x hx).1)
  have hgn:0≤gnV v+setG o (lfV v)∧gnV v+setG o (lfV v)≤10000:=by
   have hq:=ho.2.2.1;unfold kin.setG slf.gnV slf.lfV;split <;>split <;>omega
  have k5:∀b' s',EB (zAv { s4 with bs:=b',ss:=s' } o ⟨setB (repB o s.bs v.ls) o (lfV v),setS (repS o s.ss v.ls) o (lfV v),v.ts,gnV v+setG o (lfV v),v.ids⟩):=fun b' s'=>by
   have hg:EB (zAA { s4 with bs:=b',ss:=s' } o ⟨setB (repB o s.bs v.ls) o (lfV v),setS (repS o s.ss v.ls) o (lfV v),v.ts,gnV v+setG o (lfV v),v.ids⟩):=by
    unfold zAA;split
    ·exact EB.tell (s:={ s4 with bs:=b',ss:=s' }) k4 (.inr (.inl rfl)) ho.1 hgn ho.2.1
    ·exact k4
   unfold zAv;split
   ·rename_i uz
    refine hg.tell (.inl rfl) ho.1 ⟨by omega,?_⟩ ho.2.1
    show o.qty - (gnV v+setG o (lfV v)) - sumT v.ts≤10000
    have:=ho.2.2.1;omega
   ·exact hg
  have k6:=k5 (setB (repB o s.bs v.ls) o (lfV v)) (setS (repS o s.ss v.ls) o (lfV v));unfold zCQ at e;split at e
  ·cases e;exact k6
  ·split at e
   ·cases e;exact k6
   ·cases e
 ·cases e
end flr
namespace flr
open Go.RowKit que sid mee
open ord (O oV chk prB mB)
open bok (zAc zAg)
open mrg (zBp zBJ zBK forC forS)
structure EI (t:Mp) (s:TS):Prop where
 wf:Wf s
 ti:TIt t s
 eb:EB s
 ws:∀o∈s.ws,chk o=0
 row:∀x∈s.row,chk x.o=0∧0≤x.p∧x.p≤10000
theorem EI.rst{t:Mp}{s:TS}(h:EI t s)(ht:Hb t):Rst s.bs s.ss:=rst_of h.wf.book h.ti.tb (zIb _ ht h.eb)
theorem zPv{s s1:TS}{ts:List T}(hw:∀o∈s.ws,chk o=0)(hr:∀x∈s.row,chk x.o=0∧0≤x.p∧x.p≤10000)(e:zCQ s ts=.ok s1):(∀o∈s1.ws,chk o=0)∧∀x∈s1.row,chk x.o=0∧0≤x.p∧x.p≤10000:=by
 unfold zCQ at e;split at e
 ·cases e;exact⟨hw,hr⟩
 ·split at e
  ·rename_i hp
   cases e;generalize (ts[ts.length - 1]!).price=p at *;unfold ord.prB at hp;simp only[Bool.and_eq_true,decide_eq_true_eq] at hp;refine⟨fun o ho=>hw o (List.mem_filter.1 ho).1,fun x hx=>?_⟩
   rcases List.mem_append.1 hx with hx|hx
   ·exact hr x hx
   ·obtain⟨o,ho,rfl⟩:=List.mem_map.1 hx;unfold wak.woke at ho;obtain⟨o',dN,rfl⟩:=List.mem_map.1 ho;refine⟨zRr (hw o' ?_),by show 0≤p;omega,hp.2⟩
    exact(List.mem_filter.1 ((wak.zDu _ _).mem_iff.1 dN)).1
  ·cases e
theorem zHp(t:Mp)(ht:Hb t){s s1:TS}{o:O}(h:EI t s)(ho:o.id ∉ wIds s)(hv:vE s.mode s.bs s.ss o=0)(e:settle s o (vR s.mode s.bs s.ss o)=.ok s1):EI t s1:=by
 obtain⟨-,⟨s0,a,b,-,-,-,hk⟩,-⟩:=zHi t h.wf hv h.ti.tb e;have mD:=zPv (by rw[a];exact h.ws) (by rw[b];exact h.row) hk
 have MV:Wf s1:=(zEz h.wf (zIO h.wf.m0 h.wf.m3 hv) e).wf;exact⟨MV,zEE t h.wf h.ti ho hv e,zMQ t h.wf h.eb (h.rst ht) hv e,mD.1,mD.2⟩
theorem zHq(t:Mp){s s1:TS}{o:O}(h:EI t s)(hb:o.id ∉ bIds s.bs s.ss)(e:vanish s o=.ok s1):EI t s1:=by
 have h1:=zEF t h.ti hb e;have hw:=(zEA h.wf e).wf;unfold vanish at e;split at e
 ·rename_i gI
  obtain⟨s2,e1,e2⟩:=zAk e;obtain⟨-,k⟩:=zEC t e1;have ho:=zGk gI;have hq:=ho.2.2.1;have k2:=zIc h.eb e1;cases e2;exact⟨hw,h1,k2.tell (.inr (.inl rfl)) ho.1 ⟨by omega,hq.2⟩ ho.2.1,by show ∀o∈s2.ws,_;rw[k.ws];exact h.ws,by show ∀x∈s2.row,_;rw[k.row];exact h.row⟩
 ·cases e
theorem zRz(t:Mp)(ht:Hb t){s s1:TS}{o:O}(h:EI t s)(ho:o.id ∉ wIds s)(hb:o.id ∉ bIds s.bs s.ss)(e:rise s o=.ok s1):EI t s1:=by
 unfold rise at e;split at e
 ·rename_i hv;exact zHp t ht h ho hv e
 ·exact zHq t h hb e
theorem zHr(t:Mp)(ht:Hb t):∀ (n:Nat) {s s1:TS},EI t s→zBy n s=.ok s1→EI t s1
 | 0,s,s1,h,e=>by cases e;exact h
 | n+1,s,s1,h,e=>by
  cases hr:s.row with
  | nil=>rw[zBF _ _ hr] at e;cases e;exact h
  | cons x r=>
   rw[zBq _ _ hr] at e;obtain⟨s2,e1,e2⟩:=zAk e;have hx:=h.row x (by rw[hr];simp)
   have ho:=zGk hx.1;have uJ:(wIds s).Perm (x.o.id::wIds (tell { s with row:=r } 4 x.o.id x.o.qty x.p)):=by
    show (s.ws.map (·.id)++s.row.map (·.o.id)).Perm (x.o.id::(s.ws.map (·.id)++r.map (·.o.id)))
    rw[hr,jK];exact List.perm_middle
   have uN:=uJ.nodup_iff.1 h.ti.nd;rw[List.nodup_cons] at uN;have hq:=ho.2.2.1;have h2:EI t (tell { s with row:=r } 4 x.o.id x.o.qty x.p):=by
    refine⟨⟨h.wf.m0,h.wf.m3,h.wf.book,h.wf.ok,h.wf.ws⟩,⟨?_,uN.2,fun id hi=>h.ti.ap id (uJ.mem_iff.2 (List.mem_cons_of_mem _ hi))⟩,?_,h.ws,fun y hy=>h.row y (by rw[hr];exact List.mem_cons_of_mem _ hy)⟩
    ·rw[zCA];exact h.ti.tb
    ·exact EB.tell (s:={ s with row:=r }) h.eb (.inr (.inr (.inl rfl))) ho.1 ⟨by omega,hq.2⟩ hx.2
   exact zHr t ht n (zRz t ht h2 uN.1 (h.ti.ap _ (uJ.mem_iff.2 List.mem_cons_self)) e1) e2
theorem zIZ(t:Mp)(ht:Hb t){s s1:TS}{o:O}(hr:s.row=[])(h:EI t s)(e:place s o=.ok s1):EI t s1:=by
 have h1:=zGi t h.wf hr h.ti e;have hw:=(zGc h.wf e).wf;unfold place at e;split at e
 ·rename_i gI
  split at e
  ·cases e
  ·rename_i hh
   obtain⟨n1,n2⟩:=zQc hr hh;obtain⟨s2,e1,e2⟩:=zAk e;obtain⟨hm,k⟩:=zMI t e1;have uC:=(wBb h.wf e1).1;have h2:EI t s2:=by
    refine⟨uC,h.ti.like hm k,?_,by rw[k.ws];exact h.ws,by rw[k.row];exact h.row⟩
    unfold zDz at e1;split at e1
    ·cases e1;exact h.eb
    ·cases e1
   have ew:wIds s2=wIds s:=by unfold wIds;rw[k.ws,k.row]
   split at e2
   ·unfold come at e2;split at e2
    ·rename_i hv;exact zHp t ht h2 (by rw[ew];exact n1) hv e2
    ·cases e2
   ·unfold sleep at e2;split at e2
    ·cases e2;have ho:=zGk gI;have hq:=ho.2.2.1;refine⟨hw,h1,EB.tell (s:={ s2 with ws:=s2.ws++[o] }) h2.eb (.inr (.inr (.inr rfl))) ho.1 ⟨by omega,hq.2⟩ ho.2.2.2,fun y hy=>?_,h2.row⟩
     rcases List.mem_append.1 hy with hy|hy
     ·exact h2.ws y hy
     ·rcases List.mem_cons.1 hy with rfl|hy
      ·exact gI
      ·cases hy
    ·cases e2
 ·cases e
theorem zJa(t:Mp)(ht:Hb t){s s1:TS}{id:Int}(h:EI t s)(e:leave s id=.ok s1):EI t s1:=by
 obtain⟨h1,-,k⟩:=zDU t h.wf h.ti e;have hw:=(zDi h.wf e).wf;have hws:s1.ws=s.ws:=k.ws;have Hd:s1.row=s.row:=k.row;refine⟨hw,h1,?_,by rw[hws];exact h.ws,by rw[Hd];exact h.row⟩
 unfold leave at e;split at e
 ·rename_i Hv
  have ha:=(h.rst ht).at Hv;have h0:EB { s with bs:=swp.cB (spot s.bs s.ss id).s s.bs (spot s.bs s.ss id).i (spot s.bs s.ss id).k,ss:=swp.cS (spot s.bs s.ss id).s s.ss (spot s.bs s.ss id).i (spot s.bs s.ss id).k }:=h.eb
  exact zMO h0 ha.2.1 ha.2.2.1 ha.1 e
 ·cases e
theorem doC_ei(t:Mp)(ht:Hb t){s s1:TS}{c:Cm}(hr:s.row=[])(h:EI t s)(e:doC s c=.ok s1):EI t s1:=by
 have h1:=zQd t h.wf hr h.ti e;have hw:=(zIQ h.wf e).wf;unfold doC at e;split at e
 ·exact zIZ t ht hr h e
 split at e
 ·unfold cancel at e;split at e
  ·exact zJa t ht h e
  ·rename_i Hv
   split at e
   ·cases e
   ·rename_i hi
    have Hi:=wak.wBj c.o.id s.ws;have hl:(wak.idx c.o.id s.ws).toNat<s.ws.length:=(by omega);unfold drop1 at e;generalize (wak.idx c.o.id s.ws).toNat=i at *;have hp:(wIds s).Perm ((s.ws[i]!).id::wIds { s with ws:=s.ws.take i++s.ws.drop (i+1) }):=by
     show (s.ws.map (·.id)++s.row.map (·.o.id)).Perm ((s.ws[i]!).id::((s.ws.take i++s.ws.drop (i+1)).map (·.id)++s.row.map (·.o.id)))
     conv=>lhs;rw[←jR i s.ws,zHf s.ws i hl]
     rw[jF,jK,jF,jS,jS,List.cons_append];exact List.perm_middle
    have uN:=hp.nodup_iff.1 h.ti.nd;rw[List.nodup_cons] at uN;have bN:∀o∈s.ws.take i++s.ws.drop (i+1),o∈s.ws:=fun o ho=>by
     rcases List.mem_append.1 ho with ho|ho
     ·exact List.mem_of_mem_take ho
     ·exact List.mem_of_mem_drop ho
    have h2:EI t { s with ws:=s.ws.take i++s.ws.drop (i+1) }:=⟨⟨h.wf.m0,h.wf.m3,h.wf.book,h.wf.ok,by have:=h.wf.ws;show (s.ws.take i++s.ws.drop (i+1)).length≤20;simp only[jE,jJ,jQ];omega⟩,⟨h.ti.tb,uN.2,fun j hj=>h.ti.ap j (hp.mem_iff.2 (List.mem_cons_of_mem _ hj))⟩,h.eb,fun o ho=>h.ws o (bN o ho),h.row⟩
    exact zHq t h2 (h.ti.ap _ (hp.mem_iff.2 List.mem_cons_self)) e
 split at e
 ·unfold swap at e;split at e
  ·rename_i hE
   obtain⟨-,Hv,-⟩:=swp.zFQ hE;split at e
   ·rename_i hk
    have ha:=(h.rst ht).at Hv;have hx:EB s1∧s1.ws=s.ws∧s1.row=s.row:=by
     unfold shrink at e;simp only[] at e;split at e
     ·rename_i hq
      obtain⟨s2,e1,e⟩:=zAk e;have h2:EB s2∧s2.ws=s.ws∧s2.row=s.row:=by
       split at e1
       ·have k:=(zGh t e1).2;exact⟨zIX h.eb e1,k.ws,k.row⟩
       ·cases e1;exact⟨h.eb,rfl,rfl⟩
      have hz:=que.zAq ha.2.1;have hid:=hz.2.2.2.2.2.1;rw[ha.2.2.2] at hid;unfold swp.zDt at hk;simp only[Bool.and_eq_true,decide_eq_true_eq] at hk;have B5:=ha.1;have h3:EB { s2 with bs:=swp.kB (spot s.bs s.ss c.o.id).s s.bs (spot s.bs s.ss c.o.id).i (spot s.bs s.ss c.o.id).k (swp.zAI (spot s.bs s.ss c.o.id).r c.o.qty),ss:=swp.kS (spot s.bs s.ss c.o.id).s s.ss (spot s.bs s.ss c.o.id).i (spot s.bs s.ss c.o.id).k (swp.zAI (spot s.bs s.ss c.o.id).r c.o.qty) }:=h2.1
      cases e;exact⟨h3.tell (.inl rfl) hid ⟨by omega,hq.2⟩ ⟨by omega,by omega⟩,h2.2⟩
     ·cases e
    exact⟨hw,h1,hx.1,by rw[hx.2.1];exact h.ws,by rw[hx.2.2];exact h.row⟩
   ·obtain⟨s2,e1,e⟩:=zAk e;obtain⟨-,-,k⟩:=zDU t h.wf h.ti e1;exact zIZ t ht (by rw[k.row];exact hr) (zJa t ht h e1) e
  ·cases e
 split at e
 ·unfold payS at e;split at e
  ·cases e;exact⟨hw,h1,h.eb,h.ws,h.row⟩
  ·cases e
 split at e
 ·unfold zES at e;split at e
  ·cases e;exact⟨hw,h1,h.eb,h.ws,h.row⟩
  ·cases e
 ·cases e
structure EF (t:Mp) (f:FS):Prop where
 wf:Wf (zBz f)
 tf:TF t f
 hb:Hb t
 ws:∀o∈f.ws,chk o=0
theorem fdo_ef(t:Mp){f:FS}{c:Cm}{s:TS}(h:EF t f)(e:fdo f c=.ok s):EF (mEvs t s.evs) (zEt s)∧(∀x∈s.evs,EvB x)∧s.last=zEG f.last s.evs:=by
 have h0:EI t (zBz f):=by
  have e0:wIds (zBz f)=f.ws.map (·.id):=by show f.ws.map (·.id)++[]=_;rw[jH]
  exact⟨h.wf,⟨h.tf.tb,by rw[e0];exact h.tf.nd,by rw[e0];exact h.tf.ap⟩,(fun x hx=>by cases hx),h.ws,(fun x hx=>by cases hx)⟩
 have htf:=fdo_tf t h.wf h.tf e;have hla:=zPu e;obtain⟨s1,e1,e2⟩:=zAk e;have h1:=doC_ei t h.hb rfl h0 e1;have h2:=zHr t h.hb _ h1 e2;exact⟨⟨⟨h2.wf.m0,h2.wf.m3,h2.wf.book,h2.wf.ok,h2.wf.ws⟩,htf,zIb _ h.hb h2.eb,h2.ws⟩,h2.eb,hla⟩
theorem new_ef{m:Int}(h0:0≤m)(h3:m≤3):EF (fun _=>(0,0)) ⟨m,0,[],[],[],pur.newL 9⟩:=⟨(new_iv h0 h3).iv.wf,new_tf m,(fun _=>by show (0:Int)≤10000;decide),(fun _ h=>by cases h)⟩
end flr
end Go.Proofs.YtnfilcpnneckkaaGreat
