import Derived.Test.YtmhcghgfpfainaaGreatDoorFlrMem
namespace Go.Proofs.YtmhcghgfpfainaaGreatDoor
namespace flr
open Go.RowKit
open que (R)
open sid (L DL)
open mee (T tV zAt metR zAr sumT)
open ord (O oV chk prB)
open pur (Pz Pu Ok zCt zCJ zCs zCO zAR zBj payE payP zDd zDv)
open bok (zAc zAf)
open kin (kdoE kdoB kdoS kdoG setB setS setG)
open slf (V Fine sE lfV gnV repB repS)
open mrg (zBm zBJ zBK forC forS zBu zCu zCv)
structure Sp where
 s:Int
 p:Int
 r:R
 i:Nat
 k:Nat
instance:Inhabited Sp:=⟨⟨0,0,⟨0,0,0,0,0⟩,0,0⟩⟩
def AtS(bs ss:List L)(id:Int)(x:Sp):Prop:=swp.At bs ss id x.s x.p x.r x.i x.k
open Classical in
noncomputable def spot(bs ss:List L)(id:Int):Sp:=if h:∃x:Sp,AtS bs ss id x then h.choose else default
theorem wAq{bs ss:List L}{id:Int}(h0:zAc bs ss=0)(Ht:zAf bs ss id=true):AtS bs ss id (spot bs ss id):=by
 obtain⟨s,p,r,i,k,h⟩:=swp.at_of h0 Ht;have hx:∃x:Sp,AtS bs ss id x:=⟨⟨s,p,r,i,k⟩,h⟩;unfold spot;rw[dif_pos hx];exact hx.choose_spec
structure Vs where
 bs:List L
 ss:List L
 ts:List T
 gone:Int
 ids:List Int
open Classical in
noncomputable def theV(m:Int)(o:O)(ls:List L)(k:Int):V:=if h:∃v,Fine m o ls k v then h.choose else ⟨[],[],0,false,[]⟩
theorem zMJ{m:Int}{o:O}{ls:List L}{k:Int}{v:V}(h:Fine m o ls k v):theV m o ls k=v:=by
 have hx:∃v,Fine m o ls k v:=⟨v,h⟩;unfold theV;rw[dif_pos hx];exact slf.zBo h _ hx.choose_spec
noncomputable def vE(m:Int)(bs ss:List L)(o:O):Int:=
 if m=0 then kdoE bs ss o else if zAt bs ss o=0 then sE bs ss o (theV m o (zAr bs ss o) o.qty) else zAt bs ss o
noncomputable def vR(m:Int)(bs ss:List L)(o:O):Vs:=
 if m=0 then ⟨kdoB bs ss o,kdoS bs ss o,(metR bs ss o).2.1,kdoG bs ss o,[]⟩
 else
  let v:=theV m o (zAr bs ss o) o.qty
  ⟨setB (repB o bs v.ls) o (lfV v),setS (repS o ss v.ls) o (lfV v),v.ts,gnV v+setG o (lfV v),v.ids⟩
abbrev Rs:=Except Int TS
def tell(s:TS)(what id qty price:Int):TS:={ s with evs:=s.evs++[⟨what,id,qty,price,zeroT⟩] }
def zBY(s:TS)(who c d:Int):Rs:=if zCt s.ps who c d=0 then .ok { s with ps:=zCJ s.ps who c d } else .error (zCt s.ps who c d)
def zDz(s:TS)(who c d:Int):Rs:=if zCs s.ps who c d=0 then .ok { s with ps:=zCO s.ps who c d } else .error (zCs s.ps who c d)
def zCi(s:TS)(r:R)(side price:Int):Rs:=if zBm r side price=0 then zBY s r.who (zBJ r side price) (zBK r side price) else .error (zBm r side price)
def part(s:TS)(r:R)(side price:Int):Rs:=(zCi s r side price).bind fun s1=>.ok (tell s1 3 r.id (r.qty+r.hid) price)
noncomputable def leave(s:TS)(id:Int):Rs:=
 if zAf s.bs s.ss id=true then part { s with bs:=swp.cB (spot s.bs s.ss id).s s.bs (spot s.bs s.ss id).i (spot s.bs s.ss id).k,ss:=swp.cS (spot s.bs s.ss id).s s.ss (spot s.bs s.ss id).i (spot s.bs s.ss id).k } (spot s.bs s.ss id).r (spot s.bs s.ss id).s (spot s.bs s.ss id).p else .error 5
def vanish(s:TS)(o:O):Rs:=if chk o=0 then (zBY s o.who (forC o) (forS o)).bind fun s1=>.ok (tell s1 3 o.id o.qty o.price) else .error (chk o)
def has(s:TS)(id:Int):Bool:=zAf s.bs s.ss id || decide (0≤wak.idx id s.ws)
def sleep(s:TS)(o:O):Rs:=if wak.putE s.ws o=0 then .ok (tell { s with ws:=s.ws++[o] } 5 o.id o.qty o.stop) else .error (wak.putE s.ws o)
def drop1(ws:List O)(id:Int):List O:=ws.take (wak.idx id ws).toNat++ws.drop ((wak.idx id ws).toNat+1)
noncomputable def cancel(s:TS)(id:Int):Rs:=
 if zAf s.bs s.ss id=true then leave s id else if wak.idx id s.ws<0 then .error 5 else vanish { s with ws:=drop1 s.ws id } s.ws[(wak.idx id s.ws).toNat]!
def trade1(s:TS)(x:T):Rs:=if zAR s.ps x.frm x.into x.price x.qty=0 then .ok { s with ps:=zBj s.ps x.frm x.into x.price x.qty,evs:=s.evs++[⟨2,0,0,0,x⟩] } else .error (zAR s.ps x.frm x.into x.price x.qty)
def trades(s:TS):List T→Rs
 | []=>.ok s
 | x::t=>(trade1 s x).bind fun s1=>trades s1 t
noncomputable def zDG(s:TS)(id:Int):Rs:=if zAf s.bs s.ss id=true then part s (spot s.bs s.ss id).r (spot s.bs s.ss id).s (spot s.bs s.ss id).p else .error 5
noncomputable def parts(s:TS):List Int→Rs
 | []=>.ok s
 | x::t=>(zDG s x).bind fun s1=>parts s1 t
def zHi(o:O)(v:Vs):Int:=o.qty - v.gone - sumT v.ts
def zAA(s:TS)(o:O)(v:Vs):TS:=if 0<v.gone then tell s 3 o.id v.gone o.price else s
def zAu(s:TS)(o:O)(v:Vs):TS:=if 0<zHi o v then tell (zAA s o v) 1 o.id (zHi o v) o.price else zAA s o v
def zCP(s:TS)(ts:List T):Rs:=
 if ts=[] then .ok s else if prB (ts[ts.length - 1]!).price=true then .ok { s with last:=(ts[ts.length - 1]!).price,ws:=wak.left (ts[ts.length - 1]!).price s.ws,row:=s.row++(wak.woke (ts[ts.length - 1]!).price s.ws).map (⟨·,(ts[ts.length - 1]!).price⟩) } else .error 1
noncomputable def settle(s:TS)(o:O)(v:Vs):Rs:=
 (trades s v.ts).bind fun s1=>if zBu o v.ts v.gone=0 then (zBY s1 o.who (zCu o v.ts v.gone) (zCv o v.ts v.gone)).bind fun s2=>(parts s2 v.ids).bind fun s3=>zCP (zAu { s3 with bs:=v.bs,ss:=v.ss } o v) v.ts else .error (zBu o v.ts v.gone)
noncomputable def come(s:TS)(o:O):Rs:=if vE s.mode s.bs s.ss o=0 then settle s o (vR s.mode s.bs s.ss o) else .error (vE s.mode s.bs s.ss o)
noncomputable def place(s:TS)(o:O):Rs:=
 if chk o=0 then (if has s o.id=true then .error 7 else (zDz s o.who (forC o) (forS o)).bind fun s1=>if o.stop=0 then come s1 o else sleep s1 o) else .error (chk o)
noncomputable def rise(s:TS)(o:O):Rs:=if vE s.mode s.bs s.ss o=0 then settle s o (vR s.mode s.bs s.ss o) else vanish s o
noncomputable def zBv:Nat→TS→Rs
 | 0,s=>.ok s
 | n+1,s=>match s.row with
  | []=>.ok s
  | x::t=>(rise (tell { s with row:=t } 4 x.o.id x.o.qty x.p) x.o).bind (zBv n)
noncomputable def shrink(s:TS)(id price qty:Int):Rs:=
 let x:=spot s.bs s.ss id
 if 1≤qty∧qty≤10000 then
  (if 0<x.r.qty+x.r.hid - qty then zCi s ⟨id,x.r.who,x.r.qty+x.r.hid - qty,0,0⟩ x.s price else .ok s).bind fun s1=>
   .ok (tell { s1 with bs:=swp.kB x.s s.bs x.i x.k (swp.zAG x.r qty),ss:=swp.kS x.s s.ss x.i x.k (swp.zAG x.r qty) } 1 id qty price)
 else .error 1
noncomputable def swap(s:TS)(id price qty:Int):Rs:=
 if swp.fE s.bs s.ss id price=0 then
  (if swp.zDt (spot s.bs s.ss id).p (spot s.bs s.ss id).r price qty=true then shrink s id price qty
   else (leave s id).bind fun s1=>place s1 ⟨(spot s.bs s.ss id).r.id,(spot s.bs s.ss id).r.who,(spot s.bs s.ss id).s,1,price,qty,min (spot s.bs s.ss id).r.shw qty,0⟩)
 else .error (swp.fE s.bs s.ss id price)
def payS(s:TS)(who n:Int):Rs:=if payE s.ps who n=0 then .ok { s with ps:=payP s.ps who n } else .error (payE s.ps who n)
def zEV(s:TS)(who n:Int):Rs:=if zDd s.ps who n=0 then .ok { s with ps:=zDv s.ps who n } else .error (zDd s.ps who n)
structure Cm where
 what:Int
 o:O
 who:Int
 n:Int
noncomputable def doC(s:TS)(c:Cm):Rs:=
 if c.what=1 then place s c.o else if c.what=2 then cancel s c.o.id else if c.what=3 then swap s c.o.id c.o.price c.o.qty else if c.what=4 then payS s c.who c.n else if c.what=5 then zEV s c.who c.n else .error 1
structure FS where
 mode:Int
 last:Int
 bs:List L
 ss:List L
 ws:List O
 ps:List Pz
def zBw(f:FS):TS:=⟨f.mode,f.last,f.bs,f.ss,f.ws,f.ps,[],[]⟩
def zEw(s:TS):FS:=⟨s.mode,s.last,s.bs,s.ss,s.ws,s.ps⟩
noncomputable def fdo(f:FS)(c:Cm):Rs:=(doC (zBw f) c).bind fun s=>zBv (s.row.length+s.ws.length) s
structure Wf (s:TS):Prop where
 m0:0≤s.mode
 m3:s.mode≤3
 book:zAc s.bs s.ss=0
 ok:Ok s.ps
 ws:s.ws.length≤20
def Res(S:List TypeId)(b t:Nat)(w:World)(x:Rs)(e:Ending)(w' : World):Prop:=
 Tn S b w w'∧match x with
  | .ok s=>e=.returned .nilIface∧∃v,TM w' b t s v
  | .error k=>¬k=0∧e=.returned (.iface 80 (.int .i64 k))
theorem zQu{S:List TypeId}{b t:Nat}{w w' : World}{x:Rs}{s:TS}{v:TV}(hx:x=.ok s)(h:Tn S b w w')(hm:TM w' b t s v):Res S b t w x (.returned .nilIface) w':=by
 subst hx;exact⟨h,rfl,v,hm⟩
theorem zAD{S:List TypeId}{b t:Nat}{w w' : World}{x:Rs}{k:Int}(hx:x=.error k)(hk:¬k=0)(h:Tn S b w w'):Res S b t w x (.returned (.iface 80 (.int .i64 k))) w':=by
 subst hx;exact⟨h,hk,rfl⟩
theorem Res.step{S S' : List TypeId}{b t:Nat}{w0 w w' : World}{x:Rs}{e:Ending}(h:Res S b t w x e w')(h0:Tn S' b w0 w)(hs:∀t∈S,t∈S'):Res S' b t w0 x e w':=⟨h0.trans (h.1.mono hs),h.2⟩
theorem Res.two{S:List TypeId}{b t:Nat}{w w' : World}{x:Rs}{e:Ending}(h:Res S b t w x e w'):(∃s v,x=.ok s∧e=.returned .nilIface∧TM w' b t s v)∨∃k,x=.error k∧¬k=0∧e=.returned (.iface 80 (.int .i64 k)):=by
 obtain⟨-,h⟩:=h;cases x with
 | ok s=>obtain⟨h1,v,h2⟩:=h;exact .inl ⟨s,v,rfl,h1,h2⟩
 | error k=>exact .inr ⟨k,rfl,h.1,h.2⟩
theorem wAV{s s1:TS}{who c d:Int}(h:Wf s)(e:zBY s who c d=.ok s1):Wf s1∧s1 = { s with ps:=zCJ s.ps who c d }:=by
 unfold zBY at e;split at e
 ·cases e;exact⟨⟨h.m0,h.m3,h.book,pur.wAV h.ok _ _ _,h.ws⟩,rfl⟩
 ·cases e
theorem wAW{s s1:TS}{who c d:Int}(h:Wf s)(e:zDz s who c d=.ok s1):Wf s1∧s1 = { s with ps:=zCO s.ps who c d }:=by
 unfold zDz at e;split at e
 ·cases e;exact⟨⟨h.m0,h.m3,h.book,pur.wAW h.ok _ _ _,h.ws⟩,rfl⟩
 ·cases e
theorem zFZ{s s1:TS}{r:R}{a p:Int}(h:Wf s)(e:zCi s r a p=.ok s1):Wf s1∧zBm r a p=0∧s1 = { s with ps:=zCJ s.ps r.who (zBJ r a p) (zBK r a p) }:=by
 unfold zCi at e;split at e
 ·rename_i h0;have:=wAV h e;exact⟨this.1,h0,this.2⟩
 ·cases e
end flr
namespace sid
open Go.RowKit spn que Go.Maps
open tickP (zAn zAB)
end sid
namespace bok
open Go.RowKit spn que sid
open tickP (zAn zAB)
theorem zPA{bs ss:List L}{s p:Int}{r:R}(h:putE bs ss s p r=0):zAc bs ss=0∧addE s (if s=1 then bs else ss) p r=0∧zAc (put1 bs s p r) (put2 ss s p r)=0:=by
 unfold putE at h;by_cases h0:zAc bs ss=0
 ·rw[if_pos h0] at h;by_cases h1:addE s (if s=1 then bs else ss) p r=0
  ·rw[if_pos h1] at h;exact⟨h0,h1,h⟩
  ·rw[if_neg h1] at h;exact absurd h h1
 ·rw[if_neg h0] at h;exact absurd h h0
structure Held (S:Int) (X bs:List L) (p:Int) (r:R) (i k:Nat):Prop where
 hi:i<X.length
 hk:k<X[i].rests.length
 price:X[i].price=p
 rest:X[i].rests[k]=r
 fe:zAE S X r.id=0
 fp:zBk S X r.id=((i:Int),(k:Int))
 drop:zBl X i k=bs
end bok
namespace kin
open Go.RowKit spn que sid bok mee
open ord (O oV mB mE chk zAz)
open tickP (zAn zAB zBy betR)
theorem zRD{bs ss:List L}{o:O}{k:Int}(h:setE bs ss o k=0)(Gc:zBz o k=true):zBR o k=0∧putE bs ss o.side o.price (zBt o k)=0:=by
 unfold setE at h;rw[if_pos Gc] at h;by_cases hr:zBR o k=0
 ·rw[if_pos hr] at h;exact⟨hr,h⟩
 ·rw[if_neg hr] at h;exact absurd h hr
structure KF (bs ss:List L) (o:O):Prop where
 come:zAt bs ss o=0
 ok:chk o=0
 book:zAc (kdoB bs ss o) (kdoS bs ss o)=0
 sum:sumT (metR bs ss o).2.1+(metR bs ss o).2.2=o.qty
 left0:0≤(metR bs ss o).2.2
 sum0:0≤sumT (metR bs ss o).2.1
 q1:1≤o.qty
 q2:o.qty≤10000
 len:(metR bs ss o).2.1.length≤400
 each:∀x∈(metR bs ss o).2.1,1≤x.qty∧x.qty≤o.qty
 whole:o.kind=4→(metR bs ss o).2.2=0
 post:o.kind=5→(metR bs ss o).2.2=o.qty
end kin
namespace mrg
open Go.RowKit mee que sid bok kin
open ord (O oV chk mB prB errV wAa)
theorem own_tl{w:World}{base:Nat}{v:Value}{ts:List T}(h:OwnT w base v ts):TL w v ts:=by
 rcases h.2 with ⟨e,hn⟩|⟨g,off,cap,cur,e,hb,hg,GM,ga,Gy,H8⟩
 ·exact .inl ⟨e,List.eq_nil_of_length_eq_zero hn⟩
 ·subst e;refine .inr ⟨g,off,cap,rfl,GM,ga,(gzE.1 hg).1,fun j hj i u hu=>?_⟩
  obtain⟨g',off',e,-,z0,z1,z2,z3,z4,z5⟩:=OwnT.at h hj;cases e;have hi:i<6:=(List.getElem?_eq_some_iff.1 hu).1;have:i=0∨i=1∨i=2∨i=3∨i=4∨i=5:=by omega
  rcases this with rfl|rfl|rfl|rfl|rfl|rfl <;>cases hu <;>assumption
def zPB:List T→Int
 | []=>0
 | x::t=>x.price*x.qty+zPB t
theorem zMK(ts:List T)(k:Nat)(hk:k<ts.length):sumT (ts.take (k+1))=sumT (ts.take k)+ts[k]!.qty:=by
 rw[List.take_succ_eq_append_getElem hk,zCN,getE _ _ hk];simp only[sumT];omega
def cA(o:O)(bc:Int)(ts:List T)(k:Nat):Int:=if o.side=1 then bc+zPB (ts.take k) else bc
def dA(o:O)(bs:Int)(ts:List T)(k:Nat):Int:=if o.side=1 then bs else bs+sumT (ts.take k)
structure MF (o:O) (ts:List T) (lf g fc fs bc bst:Int):Prop where
 ok:chk o=0
 fore:forC o=fc∧forS o=fs
 back:zBu o ts g=0∧zCu o ts g=bc∧zCv o ts g=bst
 each:∀x∈ts,1≤x.price∧x.price≤10000∧1≤x.qty∧x.qty≤10000
 cB:∀k,0≤cA o bc ts k∧cA o bc ts k≤1000000000
 dB:∀k,0≤dA o bst ts k∧dA o bst ts k≤1000000000
 out:zBz o lf=false→cA o bc ts ts.length=fc∧dA o bst ts ts.length=fs
 stay:zBz o lf=true→cA o bc ts ts.length+putC o.side o.price lf=fc∧dA o bst ts ts.length+putS o.side lf=fs∧0≤fc∧fc≤100000000∧0≤fs∧fs≤100000000
end mrg
namespace flr
open Go.RowKit que sid mee
open ord (O oV chk prB mB)
open bok (zAc zAf)
open kin (kdoE kdoB kdoS kdoG setB setS setG setE zBz zBt zBR zIP zFQ)
open slf (V Fine sE zEU lfV gnV repB repS Less zDT zDa zCe zAQ)
open tickP (zAn zAB)
inductive Fil (m:Int) (o:O):List L→Int→V→Prop
 | done {ls:List L}{k:Int}:k≤0→Fil m o ls k ⟨ls,[],k,false,[]⟩
 | stop {ls:List L}{k:Int}:(∀l t,ls=l::t→mB o l.price=false)→Fil m o ls k ⟨ls,[],k,false,[]⟩
 | taker {p:Int}{r:R}{rs:List R}{t:List L}{k:Int}:0<k→mB o p=true→r.who=o.who→Fil m o (⟨p,r::rs⟩::t) k ⟨⟨p,r::rs⟩::t,[],k,true,[]⟩
 | maker {p:Int}{r:R}{rs:List R}{t:List L}{k:Int}{v:V}:0<k→mB o p=true→r.who=o.who→Fil m o (zAv p rs t) k v→Fil m o (⟨p,r::rs⟩::t) k ⟨v.ls,v.ts,v.left,v.ends,r.id::v.ids⟩
 | both {p:Int}{r:R}{rs:List R}{t:List L}{k:Int}:0<k→mB o p=true→r.who=o.who→Fil m o (⟨p,r::rs⟩::t) k ⟨zAv p rs t,[],k,true,[r.id]⟩
 | fill {p:Int}{r:R}{rs:List R}{t:List L}{k:Int}{v:V}:0<k→mB o p=true→(¬m=0→¬r.who=o.who)→Fil m o (zAv p (tk1 (min k r.qty) r rs) t) (k - min k r.qty) v→Fil m o (⟨p,r::rs⟩::t) k ⟨v.ls,trd o p ⟨r.id,r.who,min k r.qty⟩::v.ts,v.left,v.ends,v.ids⟩
theorem zPC{m:Int}{o:O}{ls:List L}{k:Int}{v:V}(h:Fine m o ls k v):Fil m o ls k v:=by
 induction h with
 | done h=>exact .done h
 | stop h=>exact .stop h
 | taker a b c _=>exact .taker a b c
 | maker a b c _ _ ih=>exact .maker a b c ih
 | both a b c _=>exact .both a b c
 | fill a b c _ ih=>exact .fill a b (fun _=>c) ih
theorem zRE{o:O}:∀ (n:Nat) (ls:List L) (k:Int),k.toNat≤n→(∀l∈ls,lchk l=0)→Fil 0 o ls k ⟨(tkl o ls k).1,(tkl o ls k).2.1,(tkl o ls k).2.2,false,[]⟩:=by
 intro n;induction n with
 | zero=>
  intro ls k hn _;rw[zAZ (by omega)]
  exact .done (by omega)
 | succ n ih=>
  intro ls k hn hl;by_cases h0:k≤0
  ·rw[zAZ h0];exact .done h0
  cases ls with
  | nil=>exact .stop (fun l t e=>by cases e)
  | cons l t=>
   obtain⟨p,zs⟩:=l;cases hb:mB o p with
   | false=>rw[zFA (l:=⟨p,zs⟩) hb];exact .stop (fun l' t' e=>by cases e;exact hb)
   | true=>
    obtain⟨-,H7,hq⟩:=zAh (hl ⟨p,zs⟩ (by simp))
    cases zs with
    | nil=>exact absurd rfl H7
    | cons r rs=>
     have hr:=zBg hq;rw[zFL (by omega) hb hq]
     exact .fill (by omega) hb (fun h=>absurd rfl h) (ih _ _ (by omega) (zBh (by omega) hl))
theorem zEx{o:O}{p k:Int}{r:R}{rs:List R}{t:List L}(hk:0<k)(hb:mB o p=true)(hl:∀l∈(⟨p,r::rs⟩::t:List L),lchk l=0):Less (⟨p,r::rs⟩::t) (zAv p (tk1 (min k r.qty) r rs) t):=by
 obtain⟨-,-,hq⟩:=zAh (hl _ (List.mem_cons_self ..));have hr:=zBg hq;have h1:=zDT (o:=o) (q:=min k r.qty) (by omega) hl
 rw[zFL (by omega) hb hq,show min (min k r.qty) r.qty=min k r.qty by omega,show min k r.qty - min k r.qty=0 by omega,zAZ (jY 0)] at h1
 exact h1
structure FF (o:O) (ls:List L) (k:Int) (v:V):Prop where
 less:Less ls v.ls
 sum:v.left+sumT v.ts=k
 left:0≤v.left
 ids:v.ids.length+(allR v.ls).length≤(allR ls).length
 each:∀x∈v.ts,1≤x.qty∧x.qty≤10000∧1≤x.price∧x.price≤10000∧x.taker=o.id∧mB o x.price=true
 good:∀l∈v.ls,lchk l=0
theorem zML{m:Int}{o:O}{ls:List L}{k:Int}{v:V}(h:Fil m o ls k v):(∀l∈ls,lchk l=0)→0≤k→FF o ls k v:=by
 induction h with
 | done=>exact fun hl h0=>⟨Less.refl _,by simp[sumT],h0,by simp,(fun _ h=>by cases h),hl⟩
 | stop=>exact fun hl h0=>⟨Less.refl _,by simp[sumT],h0,by simp,(fun _ h=>by cases h),hl⟩
 | taker=>exact fun hl h0=>⟨Less.refl _,by simp[sumT],h0,by simp,(fun _ h=>by cases h),hl⟩
 | @maker p r rs t k v _ _ _ _ ih=>
  intro hl h0;obtain⟨a,b,c,d,e,f⟩:=ih (zAQ hl) h0;have:=slf.zBX (p:=p) (z:=rs) (t:=t);refine⟨(zDa hl).trans a,b,c,?_,e,f⟩;rw[zAq];simp only[jG,jE] at d ⊢;omega
 | @both p r rs t k _ _ _=>
  intro hl h0;have:=slf.zBX (p:=p) (z:=rs) (t:=t);refine⟨zDa hl,by simp[sumT],h0,?_,(fun _ h=>by cases h),zAQ hl⟩
  rw[zAq];simp only[jG,jE,List.length_nil];omega
 | @fill p r rs t k v h0 hb _ _ ih=>
  intro hl _;obtain⟨hp,-,hq⟩:=zAh (hl _ (List.mem_cons_self ..));have hr:=zBg hq;obtain⟨a,b,c,d,e,f⟩:=ih (zBh h0 hl) (by omega)
  have Hi:=(zEx (o:=o) h0 hb hl).len;refine⟨(zEx h0 hb hl).trans a,?_,c,by simp only[] at d ⊢;omega,fun x hx=>?_,f⟩
  ·have:(trd o p ⟨r.id,r.who,min k r.qty⟩).qty=min k r.qty:=by unfold trd;split <;>rfl
   simp only[sumT,this];omega
  ·rcases List.mem_cons.1 hx with rfl|hx
   ·simp only[] at hp;have h1:(trd o p ⟨r.id,r.who,min k r.qty⟩).qty=min k r.qty:=(by unfold trd;split <;>rfl);have h2:(trd o p ⟨r.id,r.who,min k r.qty⟩).price=p:=(by unfold trd;split <;>rfl);have h3:(trd o p ⟨r.id,r.who,min k r.qty⟩).taker=o.id:=(by unfold trd;split <;>rfl);rw[h1,h2,h3];exact⟨by omega,by omega,hp.1,hp.2,rfl,hb⟩
   ·exact e x hx
structure VF (m:Int) (bs ss:List L) (o:O) (v:V):Prop where
 come:zAt bs ss o=0
 fil:Fil m o (zAr bs ss o) o.qty v
 set:setE (repB o bs v.ls) (repS o ss v.ls) o (lfV v)=0
 len:v.ts.length≤400
 is:vR m bs ss o=⟨setB (repB o bs v.ls) o (lfV v),setS (repS o ss v.ls) o (lfV v),v.ts,gnV v+setG o (lfV v),v.ids⟩
theorem wAp{bs ss:List L}{o:O}(h:zAt bs ss o=0):∀l∈zAr bs ss o,lchk l=0:=by
 obtain⟨h0,-⟩:=zAF h;obtain⟨e1,e2,-⟩:=bok.zAe h0;unfold zAr;split
 ·exact zAs (zAd e2).2.1
 ·exact zAs (zAd e1).2.1
theorem zHj{m:Int}{bs ss:List L}{o:O}(h0:0≤m)(h3:m≤3)(h:vE m bs ss o=0):∃v,VF m bs ss o v:=by
 unfold vE at h;by_cases hm:m=0
 ·subst hm;rw[if_pos rfl] at h;obtain⟨h1,h2,h4⟩:=zIP h;obtain⟨h5,h6⟩:=zFQ h1;refine⟨⟨(metR bs ss o).1,(metR bs ss o).2.1,(metR bs ss o).2.2,false,[]⟩,h5,zRE _ _ _ (nzR _) (wAp h5),?_,h6,?_⟩
  ·have e1:repB o bs (metR bs ss o).1=metB bs ss o:=by unfold slf.repB metB;rfl
   have e2:repS o ss (metR bs ss o).1=metS bs ss o:=by unfold slf.repS metS;rfl
   simp only[lfV];rw[e1,e2];exact h4
  ·unfold vR;rw[if_pos rfl];have e1:repB o bs (metR bs ss o).1=metB bs ss o:=by unfold slf.repB metB;rfl
   have e2:repS o ss (metR bs ss o).1=metS bs ss o:=by unfold slf.repS metS;rfl
   simp only[lfV,gnV,e1,e2];simp[kdoB,kdoS,kdoG]
 ·rw[if_neg hm] at h;by_cases hc:zAt bs ss o=0
  ·rw[if_pos hc] at h;obtain⟨v,hv⟩:=slf.zEn (m:=m) (o:=o) (k:=o.qty) (by omega) (wAp hc)
   have C7:=zMJ hv;rw[C7] at h;unfold slf.sE at h;by_cases h4:400<v.ts.length
   ·rw[if_pos h4] at h;omega
   ·rw[if_neg h4] at h;by_cases h5:zEU o (lfV v) (gnV v) v.ids.length=0
    ·rw[if_pos h5] at h;refine⟨v,hc,zPC hv,h,by omega,?_⟩
     unfold vR;rw[if_neg hm];simp only[C7]
    ·rw[if_neg h5] at h;exact absurd h h5
  ·rw[if_neg hc] at h;exact absurd h hc
theorem VF.ff{m:Int}{bs ss:List L}{o:O}{v:V}(h:VF m bs ss o v):FF o (zAr bs ss o) o.qty v:=by
 obtain⟨-,gF,-⟩:=zAF h.come;have:=(mrg.zCw gF).2.2.1;exact zML h.fil (wAp h.come) (by omega)
theorem VF.book{m:Int}{bs ss:List L}{o:O}{v:V}(h:VF m bs ss o v):zAc (repB o bs v.ls) (repS o ss v.ls)=0:=zCe (zAF h.come).1 h.ff.less
theorem zPD{m:Int}{bs ss:List L}{o:O}(h0:0≤m)(h3:m≤3)(h:vE m bs ss o=0):zAc (vR m bs ss o).bs (vR m bs ss o).ss=0:=by
 obtain⟨v,hv⟩:=zHj h0 h3 h;rw[hv.is];simp only[];unfold kin.setB kin.setS;cases Gc:zBz o (lfV v) with
 | true=>
  obtain⟨h5,h6⟩:=kin.zRD hv.set Gc;simp only[if_true];exact(bok.zPA h6).2.2
 | false=>
  simp only[Bool.false_eq_true,if_false];exact hv.book
structure VO (o:O) (v:Vs):Prop where
 ck:chk o=0
 book:zAc v.bs v.ss=0
 g0:0≤v.gone
 g1:v.gone+sumT v.ts≤o.qty
 len:v.ts.length≤400
 ids:v.ids.length≤60
 each:∀x∈v.ts,1≤x.qty∧x.qty≤10000∧1≤x.price∧x.price≤10000∧x.taker=o.id∧mB o x.price=true
theorem zJc{m:Int}{bs ss:List L}{o:O}(h0:0≤m)(h3:m≤3)(h:vE m bs ss o=0):VO o (vR m bs ss o):=by
 have hb:=zPD h0 h3 h;obtain⟨v,hv⟩:=zHj h0 h3 h;obtain⟨uo,gF,-⟩:=zAF hv.come;have hf:=hv.ff;have Hi:(allR (zAr bs ss o)).length≤60:=by
  obtain⟨e1,e2,-⟩:=bok.zAe uo;unfold zAr;split
  ·exact bok.zCB e2
  ·exact bok.zCB e1
 have PC:=hf.sum;have hl:=hf.left;refine⟨gF,hb,?_,?_,?_,?_,?_⟩
 ·rw[hv.is];simp only[gnV,lfV,setG];split <;>split <;>omega
 ·rw[hv.is];simp only[gnV,lfV,setG];split <;>split <;>omega
 ·rw[hv.is];exact hv.len
 ·rw[hv.is];have:=hf.ids;simp only[];omega
 ·rw[hv.is];exact hf.each
theorem zRF{s:Int}(hs:zAB s=true)(x:L)(b:List L):∀ (a:List L) (prev:Option Int),sid.sgo s prev (a++x::b)=0→sid.sgo s prev (a++b)=0:=by
 intro a;induction a with
 | nil=>
  intro prev h;obtain⟨h1,h2,h3⟩:=zBa h;exact zFJ hs h3 h2
 | cons y t ih=>
  intro prev h;obtain⟨h1,h2,h3⟩:=zBa h;exact zFd h1 h2 (ih _ h3)
theorem zHk{ls:List L}{i k:Nat}(hi:i<ls.length)(hk:k<ls[i].rests.length)(hl:∀l∈ls,lchk l=0):Less ls (zBl ls i k):=by
 obtain⟨a,b,c,d,h1,h2,h3,h4⟩:=swp.zCq hi hk;generalize hr:ls[i].rests[k]=r at *;generalize hp:ls[i].price=p at *;have hx:=hl _ (jT hi);have hz:lchk ⟨p,c++r::d⟩=0:=by rw[←h3,←hp];exact hx
 rw[h1,←h2,←h4,swp.zEt];have CJ:allR (if c.length+d.length=0 then a++b else a++⟨p,c++d⟩::b)=allR a++(c++(d++allR b)):=by
  by_cases e:c.length+d.length=0
  ·rw[if_pos e];have e1:c=[]:=List.eq_nil_of_length_eq_zero (by omega)
   have e2:d=[]:=List.eq_nil_of_length_eq_zero (by omega)
   rw[e1,e2,zCc];rfl
  ·rw[if_neg e,swp.zDc];simp
 have Pb:allR (a++⟨p,c++r::d⟩::b)=allR a++(c++r::(d++allR b)):=by rw[swp.zDc];simp
 refine⟨fun j hj=>?_,fun hn=>?_,?_,fun x hx=>?_,fun s prev hs h=>?_⟩
 ·rw[CJ] at hj;rw[Pb];simp only[jF,jK,List.mem_append,List.mem_cons] at hj ⊢;rcases hj with h|h|h|h
  ·exact .inl h
  ·exact .inr (.inl h)
  ·exact .inr (.inr (.inr (.inl h)))
  ·exact .inr (.inr (.inr (.inr h)))
 ·rw[Pb] at hn;rw[CJ];refine List.Nodup.sublist ?_ hn;exact List.Sublist.map _ (List.Sublist.append_left (List.Sublist.append_left (List.sublist_cons_self _ _) _) _)
 ·rw[CJ,Pb];simp
 ·split at hx
  ·rcases List.mem_append.1 hx with hx|hx
   ·exact⟨x,by simp[hx],rfl⟩
   ·exact⟨x,by simp[hx],rfl⟩
  ·rcases List.mem_append.1 hx with hx|hx
   ·exact⟨x,by simp[hx],rfl⟩
   ·rcases List.mem_cons.1 hx with rfl|hx
    ·exact⟨⟨p,c++r::d⟩,by simp,rfl⟩
    ·exact⟨x,by simp[hx],rfl⟩
 ·split
  ·exact zRF hs _ b a prev h
  ·rename_i H7
   obtain⟨pi,-,hq⟩:=zAh hz;obtain⟨GA,hg⟩:=(zAm _).1 hq;refine swp.zMk p (zCL (zCY hz) (fun e=>H7 (by rw[←jE,e];rfl)) ((zAm _).2 ⟨?_,?_,?_⟩)) a b prev h
   ·simp at GA ⊢;omega
   ·intro x hx;exact hg.1 x (by simp at hx ⊢;rcases hx with h|h;exact .inl h;exact .inr (.inr h))
   ·refine List.Nodup.sublist (List.Sublist.map _ ?_) hg.2;exact List.Sublist.append_left (List.sublist_cons_self _ _) _
theorem zCg{bs ss:List L}{id s p:Int}{r:R}{i k:Nat}(h:swp.At bs ss id s p r i k):zAc (swp.cB s bs i k) (swp.cS s ss i k)=0:=by
 obtain⟨ls,hS,-⟩:=h;obtain⟨e1,e2,-⟩:=bok.zAe hS.h0;have hi:=hS.hi;have hk:=hS.hk;have h0:=hS.h0;rcases hS.side with ⟨rfl,rfl,-⟩|⟨rfl,rfl,-⟩
 ·have hL:=zHk hi hk (zAs (zAd e1).2.1);have:=zCe (o:=⟨0,0,2,0,0,0,0,0⟩) h0 hL;exact this
 ·have hL:=zHk hi hk (zAs (zAd e2).2.1);have:=zCe (o:=⟨0,0,1,0,0,0,0,0⟩) h0 hL;exact this
end flr
end Go.Proofs.YtmhcghgfpfainaaGreatDoor
