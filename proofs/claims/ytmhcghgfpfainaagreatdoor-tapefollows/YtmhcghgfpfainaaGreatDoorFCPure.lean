import Derived.Test.YtmhcghgfpfainaaGreatDoorFlrCan
namespace Go.Proofs.YtmhcghgfpfainaaGreatDoor
namespace flr
open Go.RowKit
open que (R rchk)
open sid (L DL LS allR)
open mee (T tV OwnT sumT zAr zAv)
open ord (O oV chk errV wAa wAb prB)
open bok (zAc zAf)
open slf (V Fine)
structure Sm (s s1:TS) (k:Nat):Prop where
 mode:s1.mode=s.mode
 last:s1.last=s.last
 bs:s1.bs=s.bs
 ss:s1.ss=s.ss
 ws:s1.ws=s.ws
 row:s1.row=s.row
 evs:s1.evs.length=s.evs.length+k
theorem Sm.refl(s:TS):Sm s s 0:=⟨rfl,rfl,rfl,rfl,rfl,rfl,rfl⟩
theorem Sm.trans{a b c:TS}{i j:Nat}(h:Sm a b i)(k:Sm b c j):Sm a c (i+j):=
 ⟨k.mode.trans h.mode,k.last.trans h.last,k.bs.trans h.bs,k.ss.trans h.ss,k.ws.trans h.ws,k.row.trans h.row,by rw[k.evs,h.evs];omega⟩
theorem zAk{x:Rs}{f:TS→Rs}{s:TS}(h:x.bind f=.ok s):∃s1,x=.ok s1∧f s1=.ok s:=by
 cases x with
 | error k=>cases h
 | ok s1=>exact⟨s1,rfl,h⟩
theorem zMQ{s s1:TS}{x:T}(h:Wf s)(e:trade1 s x=.ok s1):Wf s1∧Sm s s1 1:=by
 unfold trade1 at e;split at e
 ·cases e;exact⟨⟨h.m0,h.m3,h.book,pur.zJa h.ok _ _ _ _,h.ws⟩,rfl,rfl,rfl,rfl,rfl,rfl,by simp⟩
 ·cases e
theorem zEz:∀ (ts:List T) {s s1:TS},Wf s→trades s ts=.ok s1→Wf s1∧Sm s s1 ts.length
 | [],s,s1,h,e=>by cases e;exact⟨h,Sm.refl _⟩
 | x::t,s,s1,h,e=>by
  obtain⟨s2,e1,e2⟩:=zAk e;obtain⟨h1,k1⟩:=zMQ h e1;obtain⟨h2,k2⟩:=zEz t h1 e2;refine⟨h2,?_⟩;have:=k1.trans k2;rw[Nat.add_comm] at this;exact this
theorem zId{s s1:TS}{who c d:Int}(h:Wf s)(e:zBY s who c d=.ok s1):Wf s1∧Sm s s1 0:=by
 obtain⟨h1,rfl⟩:=wAV h e;exact⟨h1,rfl,rfl,rfl,rfl,rfl,rfl,rfl⟩
theorem zMR{s s1:TS}{who c d:Int}(h:Wf s)(e:zDz s who c d=.ok s1):Wf s1∧Sm s s1 0:=by
 obtain⟨h1,rfl⟩:=wAW h e;exact⟨h1,rfl,rfl,rfl,rfl,rfl,rfl,rfl⟩
theorem zEA{s:TS}(h:Wf s)(a b c d:Int):Wf (tell s a b c d):=⟨h.m0,h.m3,h.book,h.ok,h.ws⟩
theorem zMS(s:TS)(a b c d:Int):Sm s (tell s a b c d) 1:=⟨rfl,rfl,rfl,rfl,rfl,rfl,by simp[tell]⟩
theorem zGc{s s1:TS}{r:R}{a p:Int}(h:Wf s)(e:zCi s r a p=.ok s1):Wf s1∧Sm s s1 0:=by
 obtain⟨h1,-,rfl⟩:=zFZ h e;exact⟨h1,rfl,rfl,rfl,rfl,rfl,rfl,rfl⟩
theorem zGd{s s1:TS}{r:R}{a p:Int}(h:Wf s)(e:part s r a p=.ok s1):Wf s1∧Sm s s1 1:=by
 obtain⟨s2,e1,e2⟩:=zAk e;obtain⟨h1,k1⟩:=zGc h e1;cases e2;exact⟨zEA h1 _ _ _ _,k1.trans (zMS _ _ _ _ _)⟩
theorem zMT{s s1:TS}{id:Int}(h:Wf s)(e:zDG s id=.ok s1):Wf s1∧Sm s s1 1:=by
 unfold zDG at e;split at e
 ·exact zGd h e
 ·cases e
theorem zJe:∀ (l:List Int) {s s1:TS},Wf s→parts s l=.ok s1→Wf s1∧Sm s s1 l.length
 | [],s,s1,h,e=>by cases e;exact⟨h,Sm.refl _⟩
 | x::t,s,s1,h,e=>by
  obtain⟨s2,e1,e2⟩:=zAk e;obtain⟨h1,k1⟩:=zMT h e1;obtain⟨h2,k2⟩:=zJe t h1 e2;refine⟨h2,?_⟩;have:=k1.trans k2;rw[Nat.add_comm] at this;exact this
theorem zRH{m:Int}{o:O}{ls:List L}{k:Int}{v:V}(h:Fil m o ls k v):(∀l∈ls,sid.lchk l=0)→0≤k→∀i∈v.ids,i∈(allR ls).map (·.id):=by
 induction h with
 | done=>exact fun _ _ i hi=>by cases hi
 | stop=>exact fun _ _ i hi=>by cases hi
 | taker=>exact fun _ _ i hi=>by cases hi
 | @maker p r rs t k v _ _ _ _ ih=>
  intro hl h0 i hi;rcases List.mem_cons.1 hi with rfl|hi
  ·rw[sid.zAq];simp
  ·exact(slf.zDa hl).ids i (ih (slf.zAQ hl) h0 i hi)
 | @both p r rs t k _ _ _=>
  intro hl h0 i hi;rcases List.mem_cons.1 hi with rfl|hi
  ·rw[sid.zAq];simp
  ·cases hi
 | @fill p r rs t k v h0 hb _ _ ih=>
  intro hl _ i hi;obtain⟨-,-,hq⟩:=sid.zAh (hl _ (List.mem_cons_self ..));have hr:=mee.zBg hq;exact(zEx (o:=o) h0 hb hl).ids i (ih (mee.zBh h0 hl) (by omega) i hi)
theorem zRI{m:Int}{bs ss:List L}{o:O}(h0:0≤m)(h3:m≤3)(h:vE m bs ss o=0):∀i∈(vR m bs ss o).ids,zAf bs ss i=true:=by
 obtain⟨v,hv⟩:=zHj h0 h3 h;obtain⟨uo,gF,-⟩:=mee.zAF hv.come;have hq:=(mrg.zCw gF).2.2.1;intro i hi;rw[hv.is] at hi;have h1:=zRH hv.fil (wAp hv.come) (by omega) i hi
 have h2:i∈sid.ids (zAr bs ss o):=by rw[sid.zBe];exact h1
 unfold bok.zAf;unfold mee.zAr at h2;split at h2
 ·simp[h2]
 ·simp[h2]
end flr
namespace flr
open Go.RowKit
open que (R rchk)
open sid (L DL LS allR)
open mee (T tV OwnT sumT zAr zAv)
open ord (O oV chk errV wAa wAb prB)
open bok (zAc zAf)
structure Gr (s s1:TS) (k n:Nat):Prop where
 wf:Wf s1
 mode:s1.mode=s.mode
 row:s1.row.length+s1.ws.length≤s.row.length+s.ws.length+k
 evs:s1.evs.length≤s.evs.length+n
theorem Gr.trans{a b c:TS}{i j k l:Nat}(h:Gr a b i j)(g:Gr b c k l):Gr a c (i+k) (j+l):=⟨g.wf,g.mode.trans h.mode,by have:=h.row;have:=g.row;omega,by have:=h.evs;have:=g.evs;omega⟩
theorem Gr.mono{a b:TS}{i j k l:Nat}(h:Gr a b i j)(h1:i≤k)(h2:j≤l):Gr a b k l:=⟨h.wf,h.mode,by have:=h.row;omega,by have:=h.evs;omega⟩
theorem Sm.gr{a b:TS}{k:Nat}(h:Sm a b k)(hw:Wf b):Gr a b 0 k:=⟨hw,h.mode,by rw[h.row,h.ws];omega,by rw[h.evs];omega⟩
theorem zEB{s:TS}(h:Wf s)(a b c d:Int):Gr s (tell s a b c d) 0 1:=(zMS s a b c d).gr (zEA h _ _ _ _)
theorem zIe{s:TS}{o:O}{v:Vs}(h:Wf s):Gr s (zAu s o v) 0 2:=by
 have h1:Gr s (zAA s o v) 0 1:=by
  unfold zAA;split
  ·exact zEB h _ _ _ _
  ·exact⟨h,rfl,by omega,by omega⟩
 unfold zAu;split
 ·exact h1.trans (zEB h1.wf _ _ _ _)
 ·exact h1.mono (by omega) (by omega)
theorem zPJ{s s1:TS}{ts:List T}(h:Wf s)(e:zCP s ts=.ok s1):Gr s s1 0 0:=by
 unfold zCP at e;split at e
 ·cases e;exact⟨h,rfl,by omega,by omega⟩
 ·split at e
  ·cases e;have h1:=wak.zIX (ts[ts.length - 1]!).price s.ws;have h2:=h.ws;exact⟨⟨h.m0,h.m3,h.book,h.ok,by show (wak.left _ _).length≤20;omega⟩,rfl,by show (s.row++_).length+(wak.left _ _).length≤_;rw[jE,jP];omega,by show s.evs.length≤s.evs.length+0;omega⟩
  ·cases e
theorem zEC{s s1:TS}{o:O}{v:Vs}(h:Wf s)(hv:VO o v)(e:settle s o v=.ok s1):Gr s s1 0 480:=by
 obtain⟨s2,e1,e⟩:=zAk e;obtain⟨h2,k2⟩:=zEz v.ts h e1;split at e
 ·obtain⟨s3,e3,e⟩:=zAk e;obtain⟨h3,k3⟩:=zId h2 e3;obtain⟨s4,e4,e⟩:=zAk e;obtain⟨h4,k4⟩:=zJe v.ids h3 e4;have h5:Wf { s4 with bs:=v.bs,ss:=v.ss }:=⟨h4.m0,h4.m3,hv.book,h4.ok,h4.ws⟩
  have g1:=((k2.trans k3).trans k4).gr h4;have g2:Gr s4 { s4 with bs:=v.bs,ss:=v.ss } 0 0:=⟨h5,rfl,by simp,by simp⟩
  have g3:=(g1.trans g2).trans (zIe (o:=o) (v:=v) h5);have g4:=g3.trans (zPJ g3.wf e);have:=hv.len;have:=hv.ids;exact g4.mono (by omega) (by omega)
 ·cases e
theorem zED{s s1:TS}{o:O}(h:Wf s)(e:vanish s o=.ok s1):Gr s s1 0 1:=by
 unfold vanish at e;split at e
 ·obtain⟨s2,e1,e⟩:=zAk e;obtain⟨h2,k2⟩:=zId h e1;cases e;exact(k2.gr h2).trans (zEB h2 _ _ _ _)
 ·cases e
theorem zGe{s s1:TS}{o:O}(h:Wf s)(e:rise s o=.ok s1):Gr s s1 0 480:=by
 unfold rise at e;split at e
 ·rename_i h0;exact zEC h (zJc h.m0 h.m3 h0) e
 ·exact(zED h e).mono (nzR _) (by omega)
theorem zRJ{s s1:TS}{o:O}(h:Wf s)(e:come s o=.ok s1):Gr s s1 0 480:=by
 unfold come at e;split at e
 ·rename_i h0;exact zEC h (zJc h.m0 h.m3 h0) e
 ·cases e
theorem zRK{ws:List O}{o:O}(h:wak.putE ws o=0)(hl:ws.length≤20):ws.length<20:=by
 unfold wak.putE at h;by_cases h1:ws.length=20
 ·exfalso;rw[h1] at h;split at h
  ·split at h
   ·omega
   ·split at h
    ·omega
    ·simp at h
  ·rename_i hh;exact hh h
 ·omega
theorem zPK{s s1:TS}{o:O}(h:Wf s)(e:sleep s o=.ok s1):Gr s s1 1 1:=by
 unfold sleep at e;split at e
 ·rename_i h0
  cases e;have:=zRK h0 h.ws;have hw:Wf { s with ws:=s.ws++[o] }:=⟨h.m0,h.m3,h.book,h.ok,by simp;omega⟩
  exact Gr.trans (a:=s) (b:={ s with ws:=s.ws++[o] }) (i:=1) (j:=0) ⟨hw,rfl,by show s.row.length+(s.ws++[o]).length≤s.row.length+s.ws.length+1;simp;omega,by show s.evs.length≤s.evs.length+0;omega⟩ (zEB hw _ _ _ _)
 ·cases e
theorem zGf{s s1:TS}{o:O}(h:Wf s)(e:place s o=.ok s1):Gr s s1 1 481:=by
 unfold place at e;split at e
 ·split at e
  ·cases e
  ·obtain⟨s2,e1,e⟩:=zAk e;obtain⟨h2,k2⟩:=zMR h e1;split at e
   ·exact((k2.gr h2).trans (zRJ h2 e)).mono (by omega) (by omega)
   ·exact((k2.gr h2).trans (zPK h2 e)).mono (by omega) (by omega)
 ·cases e
theorem zDf{s s1:TS}{id:Int}(h:Wf s)(e:leave s id=.ok s1):Gr s s1 0 1:=by
 have hw:=zPI h e;unfold leave at e;split at e
 ·rename_i Ht
  have hb:=zCg (wAq h.book Ht);have mo:Wf { s with bs:=swp.cB (spot s.bs s.ss id).s s.bs (spot s.bs s.ss id).i (spot s.bs s.ss id).k,ss:=swp.cS (spot s.bs s.ss id).s s.ss (spot s.bs s.ss id).i (spot s.bs s.ss id).k }:=⟨h.m0,h.m3,hb,h.ok,h.ws⟩
  obtain⟨-,k⟩:=zGd mo e;exact⟨hw,k.mode,by rw[k.row,k.ws];exact nzR _,by rw[k.evs];exact nzR _⟩
 ·cases e
theorem zMU{s s1:TS}{id:Int}(h:Wf s)(e:cancel s id=.ok s1):Gr s s1 0 1:=by
 unfold cancel at e;split at e
 ·exact zDf h e
 ·split at e
  ·cases e
  ·have hl:(drop1 s.ws id).length≤s.ws.length:=by unfold drop1;simp only[jE,jJ,jQ];omega
   have hw:Wf { s with ws:=drop1 s.ws id }:=⟨h.m0,h.m3,h.book,h.ok,by have:=h.ws;show (drop1 s.ws id).length≤20;omega⟩
   exact(Gr.trans (a:=s) (b:={ s with ws:=drop1 s.ws id }) (i:=0) (j:=0) ⟨hw,rfl,by show s.row.length+(drop1 s.ws id).length≤s.row.length+s.ws.length+0;omega,by show s.evs.length≤s.evs.length+0;omega⟩ (zED hw e)).mono (by omega) (by omega)
theorem zMV{s s1:TS}{id price qty:Int}(h:Wf s)(Ht:zAf s.bs s.ss id=true)(hk:swp.zDt (spot s.bs s.ss id).p (spot s.bs s.ss id).r price qty=true)(e:shrink s id price qty=.ok s1):Gr s s1 0 1:=by
 have hA:=wAq h.book Ht;unfold shrink at e;simp only[] at e;generalize spot s.bs s.ss id=x at *;split at e
 ·rename_i hq
  obtain⟨s2,e1,e⟩:=zAk e;have g1:Wf s2∧Sm s s2 0:=by
   split at e1
   ·exact zGc h e1
   ·cases e1;exact⟨h,Sm.refl _⟩
  cases e;have GR:qty≤x.r.qty+x.r.hid:=by
   unfold swp.zDt at hk;simp only[Bool.and_eq_true,decide_eq_true_eq] at hk;exact hk.2
  have hb:=(hA.keep (r':=swp.zAG x.r qty) (by exact hA.id) (swp.zMm hA.rest hq.1 GR)).book
  have hw:Wf { s2 with bs:=swp.kB x.s s.bs x.i x.k (swp.zAG x.r qty),ss:=swp.kS x.s s.ss x.i x.k (swp.zAG x.r qty) }:=⟨g1.1.m0,g1.1.m3,hb,g1.1.ok,g1.1.ws⟩
  exact((g1.2.gr g1.1).trans (Gr.trans (a:=s2) (b:={ s2 with bs:=swp.kB x.s s.bs x.i x.k (swp.zAG x.r qty),ss:=swp.kS x.s s.ss x.i x.k (swp.zAG x.r qty) }) (i:=0) (j:=0) ⟨hw,rfl,nzR _,nzR _⟩ (zEB hw _ _ _ _))).mono (by omega) (by omega)
 ·cases e
theorem zRL{s s1:TS}{id price qty:Int}(h:Wf s)(e:swap s id price qty=.ok s1):Gr s s1 1 482:=by
 unfold swap at e;split at e
 ·rename_i hE
  obtain⟨-,Ht,-⟩:=swp.zFU hE;split at e
  ·rename_i hk;exact(zMV h Ht hk e).mono (by omega) (by omega)
  ·obtain⟨s2,e1,e⟩:=zAk e;have g:=zDf h e1;exact(g.trans (zGf g.wf e)).mono (by omega) (by omega)
 ·cases e
theorem zJf{s s1:TS}{c:Cm}(h:Wf s)(e:doC s c=.ok s1):Gr s s1 1 482:=by
 unfold doC at e;split at e
 ·exact(zGf h e).mono (by omega) (by omega)
 split at e
 ·exact(zMU h e).mono (by omega) (by omega)
 split at e
 ·exact zRL h e
 split at e
 ·unfold payS at e;split at e
  ·cases e;exact⟨⟨h.m0,h.m3,h.book,pur.pay_ok h.ok _ _,h.ws⟩,rfl,by simp,by simp⟩
  ·cases e
 split at e
 ·unfold zEV at e;split at e
  ·cases e;exact⟨⟨h.m0,h.m3,h.book,pur.zRu h.ok _ _,h.ws⟩,rfl,by simp,by simp⟩
  ·cases e
 ·cases e
theorem zBF(n:Nat)(s:TS)(h:s.row=[]):zBv n s=.ok s:=by
 cases n with
 | zero=>rfl
 | succ n=>unfold zBv;rw[h]
theorem zBn(n:Nat)(s:TS){x:Sl}{t:List Sl}(h:s.row=x::t):zBv (n+1) s=(rise (tell { s with row:=t } 4 x.o.id x.o.qty x.p) x.o).bind (zBv n):=by
 rw[zBv,h]
end flr
namespace flr
open Go.RowKit que sid mee
open ord (O oV chk prB mB)
open bok (zAc zAf)
open kin (setB setS setG setE zBz zBt mayK)
open slf (V Fine sE lfV gnV repB repS)
open mrg (resv forC forS zBm zBJ zBK zBu zCu zCv putC putS)
open pur (Pz Ok ix on on_at zEu adC adH adS adT)
def sumI{α:Type}(f:α→Int):List α→Int
 | []=>0
 | x::t=>f x+sumI f t
def prs(ls:List L):List (Int × R):=ls.flatMap fun l=>l.rests.map fun r=>(l.price,r)
theorem zAW(l:L)(t:List L):prs (l::t)=l.rests.map (fun r=>(l.price,r))++prs t:=by simp[prs]
theorem zAM(a b:List L):prs (a++b)=prs a++prs b:=by simp[prs]
theorem zEE(ls:List L):(prs ls).map (·.2)=allR ls:=by
 induction ls with
 | nil=>rfl
 | cons l t ih=>rw[zAW,zAq,jF,ih,List.map_map];congr 1;induction l.rests with
  | nil=>rfl
  | cons r u ih=>simp[ih]
theorem zDg(p:Int)(z:List R)(t:List L):prs (zAv p z t)=z.map (fun r=>(p,r))++prs t:=by
 unfold mee.zAv;split
 ·rename_i h;rw[h];rfl
 ·rw[zAW]
def tq(r:R):Int:=r.qty+r.hid
def rC(j:Int)(x:Int × R):Int:=if x.2.who=j then x.1*tq x.2 else 0
def rS(j:Int)(x:Int × R):Int:=if x.2.who=j then tq x.2 else 0
def oC(j:Int)(o:O):Int:=if o.who=j∧o.side=1 then resv o*o.qty else 0
def oS(j:Int)(o:O):Int:=if o.who=j∧¬o.side=1 then o.qty else 0
end flr
namespace sms
open Go.RowKit spn pur
def sumC(ps:List Pz):Int:=(ps.map (·.cash)).sum
def sumS(ps:List Pz):Int:=(ps.map (·.stock)).sum
section
variable {ps:List Pz}{k:Nat}
end
end sms
namespace flr
open Go.RowKit que sid mee
open ord (O oV chk prB mB)
open bok (zAc zAf)
open kin (setB setS setG setE zBz zBt mayK)
open slf (V Fine sE lfV gnV repB repS)
open mrg (resv forC forS zBm zBJ zBK zBu zCu zCv putC putS)
open pur (Pz Ok ix on on_at zEu adC adH adS adT)
open sms (sumC sumS)
theorem ix_lt{a:Int}(h1:1≤a)(h2:a≤9):ix a<9:=by unfold pur.ix;omega
structure IV (s:TS) (c d:Int→Int):Prop where
 wf:Wf s
 held:∀j,1≤j→j≤9→(s.ps[ix j]!).held=sumI (rC j) (prs s.bs)+sumI (oC j) s.ws+sumI (fun x:Sl=>oC j x.o) s.row+c j
 hs:∀j,1≤j→j≤9→(s.ps[ix j]!).hs=sumI (rS j) (prs s.ss)+sumI (oS j) s.ws+sumI (fun x:Sl=>oS j x.o) s.row+d j
 wck:∀o∈s.ws,chk o=0
 rck:∀x∈s.row,chk x.o=0
 last:s.last=0∨prB s.last=true
 evs:¬s.mode=0→∀e∈s.evs,e.what=2→¬e.tr.frm=e.tr.into
theorem zJg{bs ss:List L}{id s p:Int}{r:R}{i k:Nat}(h:swp.At bs ss id s p r i k):(p,r)∈prs (if s=1 then bs else ss)∧(s=1∨s=2):=by
 refine⟨?_,h.side⟩;obtain⟨ls,hS,hp,hr⟩:=h;have hi:=hS.hi;have hk:=hS.hk;have hx:(p,r)∈prs ls:=by
  unfold prs;exact List.mem_flatMap.2 ⟨ls[i],jT hi,List.mem_map.2 ⟨_,jT hk,by rw[hp,hr]⟩⟩
 clear hp hr;rcases hS.side with ⟨rfl,rfl,-⟩|⟨rfl,rfl,-⟩
 ·rw[if_pos rfl];exact hx
 ·rw[if_neg (by decide)];exact hx
end flr
namespace flr
open Go.RowKit que sid mee
open ord (O oV chk prB mB)
open bok (zAc zAf)
open kin (setB setS setG setE zBz zBt mayK)
open slf (V Fine sE lfV gnV repB repS)
open mrg (resv forC forS zBm zBJ zBK zBu zCu zCv putC putS zPB bkC)
open pur (Pz Ok ix on on_at zEu adC adH adS adT)
open sms (sumC sumS)
theorem zRM{o:O}(h:chk o=0):chk (wak.zst o)=0:=by
 obtain⟨h1,h2,h3,h4,-⟩:=ord.zBB h;unfold ord.chk;have e1:ord.zCI (wak.zst o)=ord.zCI o:=rfl;have e2:ord.zAJ (wak.zst o)=ord.zAJ o:=rfl;have e3:ord.qtyB (wak.zst o)=ord.qtyB o:=rfl;have e4:ord.shapeB (wak.zst o)=ord.shapeB o:=rfl;have e5:ord.zFv (wak.zst o)=true:=rfl;rw[e1,e2,e3,e4,e5,h1,h2,h3,h4];rfl
theorem zIf{bs ss:List L}(h:zAc bs ss=0){x y:Int × R}(hx:x∈prs bs)(hy:y∈prs ss):¬x.2.id=y.2.id:=by
 obtain⟨-,-,-,ht,-⟩:=bok.zAe h;have hn:((allR bs++allR ss).map (·.id)).Nodup:=by unfold bok.zAK at ht;simpa using ht
 rw[jF] at hn;intro e;have h1:x.2.id∈(allR bs).map (·.id):=List.mem_map.2 ⟨x.2,by rw[←zEE];exact List.mem_map.2 ⟨x,hx,rfl⟩,rfl⟩
 have h2:y.2.id∈(allR ss).map (·.id):=List.mem_map.2 ⟨y.2,by rw[←zEE];exact List.mem_map.2 ⟨y,hy,rfl⟩,rfl⟩
 exact(List.nodup_append.1 hn).2.2 _ h1 _ h2 e
theorem zRN(o:O)(k:Int):tq (zBt o k)=k:=by unfold tq kin.zBt;simp only[];omega
theorem zMW{o:O}{v:V}(BU:v.left+sumT v.ts=o.qty):(zBz o (lfV v)=true∧resv o=o.price∧o.qty - (gnV v+setG o (lfV v)) - sumT v.ts=lfV v)∨(zBz o (lfV v)=false∧o.qty - (gnV v+setG o (lfV v)) - sumT v.ts=0):=by
 cases Gc:zBz o (lfV v) with
 | true=>
  left;have h1:=Gc;unfold kin.zBz at h1;simp only[Bool.and_eq_true,Bool.not_eq_true',beq_eq_false_iff_ne,ne_eq] at h1;refine⟨rfl,?_,?_⟩
  ·have h2:=h1.2;unfold kin.mayK at h2;simp only[Bool.or_eq_true,beq_iff_eq] at h2;unfold mrg.resv;rw[if_neg (by omega)]
  ·unfold kin.setG;rw[Gc,if_pos rfl];have h3:=h1.1;unfold slf.lfV at h3 ⊢;unfold slf.gnV;split at h3
   ·exact absurd rfl h3
   ·rename_i he;rw[if_neg he,if_neg he];omega
 | false=>
  right;refine⟨rfl,?_⟩;unfold kin.setG;rw[Gc];simp only[Bool.false_eq_true,if_false];unfold slf.lfV slf.gnV;split <;>omega
end flr
namespace flr
open Go.RowKit que sid mee
open ord (O oV chk prB mB)
open bok (zAc zAf)
open mrg (resv forC forS zBm zBJ zBK putC putS)
open pur (Pz Ok ix)
open sms (sumC sumS)
structure IZ (s s1:TS):Prop where
 iv:IV s1 (fun _=>0) (fun _=>0)
 c:sumC s1.ps=sumC s.ps
 s:sumS s1.ps=sumS s.ps
theorem zHm{α:Type}[Inhabited α](l:List α)(k:Nat)(h:k<l.length):l.drop k=l[k]!::l.drop (k+1):=by
 rw[List.drop_eq_getElem_cons h];simp[h]
end flr
namespace flr
open Go.RowKit que sid mee
open ord (O oV chk prB mB)
open bok (zAc zAf)
open mrg (resv forC forS zBm zBJ zBK putC putS)
open pur (Pz Ok ix newL)
open sms (sumC sumS)
theorem zRO(r:R)(q:Int):tq (swp.zAG r q)=q:=by unfold tq swp.zAG;simp only[];omega
theorem zEF:∀ (n:Nat) {s s1:TS},Wf s→s.row.length+s.ws.length≤n→zBv n s=.ok s1→s1.row=[]
 | 0,s,s1,_,hn,e=>by cases e;exact List.eq_nil_of_length_eq_zero (by omega)
 | n+1,s,s1,h,hn,e=>by
  cases hr:s.row with
  | nil=>rw[zBF _ _ hr] at e;cases e;exact hr
  | cons x t=>
   rw[zBn _ _ hr] at e;obtain⟨s2,e1,e⟩:=zAk e;have hw:Wf (tell { s with row:=t } 4 x.o.id x.o.qty x.p):=⟨h.m0,h.m3,h.book,h.ok,h.ws⟩
   have g:=zGe hw e1;have h3:(tell { s with row:=t } 4 x.o.id x.o.qty x.p).row.length+(tell { s with row:=t } 4 x.o.id x.o.qty x.p).ws.length=t.length+s.ws.length:=rfl
   have h4:=g.row;rw[hr] at hn;simp only[jG] at hn;exact zEF n g.wf (by omega) e
structure FI (f:FS) (c s:Int):Prop where
 iv:IV (zBw f) (fun _=>0) (fun _=>0)
 c:sumC f.ps=c
 s:sumS f.ps=s
theorem new_iv{m:Int}(h0:0≤m)(h3:m≤3):FI ⟨m,0,[],[],[],newL 9⟩ 0 0:=by
 refine⟨⟨⟨h0,h3,(show zAc [] []=0 by decide),pur.zRw,jL _⟩,fun j a b=>?_,fun j a b=>?_,(fun x hx=>by cases hx),(fun x hx=>by cases hx),.inl rfl,(fun _ x hx=>by cases hx)⟩,rfl,rfl⟩
 ·show ((newL 9)[ix j]!).held=_
  rw[pur.zDx 9 (ix j) (ix_lt a b)];rfl
 ·show ((newL 9)[ix j]!).hs=_
  rw[pur.zDx 9 (ix j) (ix_lt a b)];rfl
def bIds(bs ss:List L):List Int:=(allR bs++allR ss).map (·.id)
theorem zMX{bs ss:List L}{id:Int}:zAf bs ss id=true↔id∈bIds bs ss:=by
 unfold bok.zAf bIds;rw[decide_eq_true_iff,zBe,zBe,jF,List.mem_append]
theorem zJh{s:Int}{ls:List L}(h:schk s ls=0):∀x∈prs ls,1≤x.1∧x.1≤10000∧rchk x.2=0:=by
 intro x hx;unfold prs at hx;obtain⟨l,hl,hx⟩:=List.mem_flatMap.1 hx;obtain⟨r,hr,rfl⟩:=List.mem_map.1 hx;obtain⟨h1,h2,h3⟩:=zAh (zAs (zAd h).2.1 l hl);exact⟨h1.1,h1.2,((zAm _).1 h3).2.1 r hr⟩
theorem tq_nn{r:R}(h:rchk r=0):0≤tq r:=by have:=mrg.zDy h;unfold tq;omega
theorem zMY(id:Int):∀ (ws:List O),id∈ws.map (·.id)→∃a o b,ws=a++o::b∧o.id=id∧wak.idx id ws=a.length
 | [],h=>by cases h
 | o::t,h=>by
  rw[wak.wAL];by_cases ho:o.id=id
  ·rw[if_pos ho];exact⟨[],o,t,rfl,ho,rfl⟩
  ·rw[if_neg ho];have ht:id∈t.map (·.id):=by
    rcases List.mem_cons.1 h with h|h
    ·exact absurd h.symm ho
    ·exact h
   obtain⟨a,x,b,e1,e2,e3⟩:=zMY id t ht;refine⟨o::a,x,b,by rw[e1];rfl,e2,?_⟩
   rw[e3,if_neg (by omega),jG];omega
end flr
end Go.Proofs.YtmhcghgfpfainaaGreatDoor
