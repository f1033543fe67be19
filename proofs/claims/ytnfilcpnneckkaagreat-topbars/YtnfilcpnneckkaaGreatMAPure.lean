import Derived.Test.YtnfilcpnneckkaaGreatFlrMem
import Derived.Test.YtnfilcpnneckkaaGreatRows
import Derived.OpenShut
import Derived.Deep.Slices
import Derived.Carry
set_option maxRecDepth 100000
namespace Go.Proofs.YtnfilcpnneckkaaGreat
open Go.Proofs.Tryz
namespace flr
open Go.RowKit
open que (R)
open sid (L DL)
open mee (T tV zAu metR zAr sumT)
open ord (O oV chk prB)
open pur (Pz Pu Ok zCv zCK zCu zCP zAS zBm payE payP zDf zDv)
open bok (zAc zAg)
open kin (kdoE kdoB kdoS kdoG setB setS setG)
open slf (V Fine sE lfV gnV repB repS)
open mrg (zBp zBJ zBK forC forS zBx zCw zCx)
structure Sp where
 s:Int
 p:Int
 r:R
 i:Nat
 k:Nat
instance:Inhabited Sp:=⟨⟨0,0,⟨0,0,0,0,0⟩,0,0⟩⟩
def AtS(bs ss:List L)(id:Int)(x:Sp):Prop:=swp.At bs ss id x.s x.p x.r x.i x.k
open Classical in
noncomputable def spot(bs ss:List L)(id:Int):Sp:=if h:∃x:Sp,AtS bs ss id x then h.choose else default
theorem wAs{bs ss:List L}{id:Int}(h0:zAc bs ss=0)(Hv:zAg bs ss id=true):AtS bs ss id (spot bs ss id):=by
 obtain⟨s,p,r,i,k,h⟩:=swp.at_of h0 Hv;have hx:∃x:Sp,AtS bs ss id x:=⟨⟨s,p,r,i,k⟩,h⟩;unfold spot;rw[dif_pos hx];exact hx.choose_spec
structure Vs where
 bs:List L
 ss:List L
 ts:List T
 gone:Int
 ids:List Int
open Classical in
noncomputable def theV(m:Int)(o:O)(ls:List L)(k:Int):V:=if h:∃v,Fine m o ls k v then h.choose else ⟨[],[],0,false,[]⟩
theorem zMt{m:Int}{o:O}{ls:List L}{k:Int}{v:V}(h:Fine m o ls k v):theV m o ls k=v:=by
 have hx:∃v,Fine m o ls k v:=⟨v,h⟩;unfold theV;rw[dif_pos hx];exact slf.zBr h _ hx.choose_spec
noncomputable def vE(m:Int)(bs ss:List L)(o:O):Int:=
 if m=0 then kdoE bs ss o else if zAu bs ss o=0 then sE bs ss o (theV m o (zAr bs ss o) o.qty) else zAu bs ss o
noncomputable def vR(m:Int)(bs ss:List L)(o:O):Vs:=
 if m=0 then ⟨kdoB bs ss o,kdoS bs ss o,(metR bs ss o).2.1,kdoG bs ss o,[]⟩
 else
  let v:=theV m o (zAr bs ss o) o.qty
  ⟨setB (repB o bs v.ls) o (lfV v),setS (repS o ss v.ls) o (lfV v),v.ts,gnV v+setG o (lfV v),v.ids⟩
abbrev Rs:=Except Int TS
def tell(s:TS)(what id qty price:Int):TS:={ s with evs:=s.evs++[⟨what,id,qty,price,zeroT⟩] }
def zBY(s:TS)(who c d:Int):Rs:=if zCv s.ps who c d=0 then .ok { s with ps:=zCK s.ps who c d } else .error (zCv s.ps who c d)
def zDz(s:TS)(who c d:Int):Rs:=if zCu s.ps who c d=0 then .ok { s with ps:=zCP s.ps who c d } else .error (zCu s.ps who c d)
def zCk(s:TS)(r:R)(side price:Int):Rs:=if zBp r side price=0 then zBY s r.who (zBJ r side price) (zBK r side price) else .error (zBp r side price)
def part(s:TS)(r:R)(side price:Int):Rs:=(zCk s r side price).bind fun s1=>.ok (tell s1 3 r.id (r.qty+r.hid) price)
noncomputable def leave(s:TS)(id:Int):Rs:=
 if zAg s.bs s.ss id=true then part { s with bs:=swp.cB (spot s.bs s.ss id).s s.bs (spot s.bs s.ss id).i (spot s.bs s.ss id).k,ss:=swp.cS (spot s.bs s.ss id).s s.ss (spot s.bs s.ss id).i (spot s.bs s.ss id).k } (spot s.bs s.ss id).r (spot s.bs s.ss id).s (spot s.bs s.ss id).p else .error 5
def vanish(s:TS)(o:O):Rs:=if chk o=0 then (zBY s o.who (forC o) (forS o)).bind fun s1=>.ok (tell s1 3 o.id o.qty o.price) else .error (chk o)
def has(s:TS)(id:Int):Bool:=zAg s.bs s.ss id || decide (0≤wak.idx id s.ws)
def sleep(s:TS)(o:O):Rs:=if wak.putE s.ws o=0 then .ok (tell { s with ws:=s.ws++[o] } 5 o.id o.qty o.stop) else .error (wak.putE s.ws o)
def drop1(ws:List O)(id:Int):List O:=ws.take (wak.idx id ws).toNat++ws.drop ((wak.idx id ws).toNat+1)
noncomputable def cancel(s:TS)(id:Int):Rs:=
 if zAg s.bs s.ss id=true then leave s id else if wak.idx id s.ws<0 then .error 5 else vanish { s with ws:=drop1 s.ws id } s.ws[(wak.idx id s.ws).toNat]!
def trade1(s:TS)(x:T):Rs:=if zAS s.ps x.frm x.into x.price x.qty=0 then .ok { s with ps:=zBm s.ps x.frm x.into x.price x.qty,evs:=s.evs++[⟨2,0,0,0,x⟩] } else .error (zAS s.ps x.frm x.into x.price x.qty)
def trades(s:TS):List T→Rs
 | []=>.ok s
 | x::t=>(trade1 s x).bind fun s1=>trades s1 t
noncomputable def zDE(s:TS)(id:Int):Rs:=if zAg s.bs s.ss id=true then part s (spot s.bs s.ss id).r (spot s.bs s.ss id).s (spot s.bs s.ss id).p else .error 5
noncomputable def parts(s:TS):List Int→Rs
 | []=>.ok s
 | x::t=>(zDE s x).bind fun s1=>parts s1 t
def zHb(o:O)(v:Vs):Int:=o.qty - v.gone - sumT v.ts
def zAA(s:TS)(o:O)(v:Vs):TS:=if 0<v.gone then tell s 3 o.id v.gone o.price else s
def zAv(s:TS)(o:O)(v:Vs):TS:=if 0<zHb o v then tell (zAA s o v) 1 o.id (zHb o v) o.price else zAA s o v
def zCQ(s:TS)(ts:List T):Rs:=
 if ts=[] then .ok s else if prB (ts[ts.length - 1]!).price=true then .ok { s with last:=(ts[ts.length - 1]!).price,ws:=wak.left (ts[ts.length - 1]!).price s.ws,row:=s.row++(wak.woke (ts[ts.length - 1]!).price s.ws).map (⟨·,(ts[ts.length - 1]!).price⟩) } else .error 1
noncomputable def settle(s:TS)(o:O)(v:Vs):Rs:=
 (trades s v.ts).bind fun s1=>if zBx o v.ts v.gone=0 then (zBY s1 o.who (zCw o v.ts v.gone) (zCx o v.ts v.gone)).bind fun s2=>(parts s2 v.ids).bind fun s3=>zCQ (zAv { s3 with bs:=v.bs,ss:=v.ss } o v) v.ts else .error (zBx o v.ts v.gone)
noncomputable def come(s:TS)(o:O):Rs:=if vE s.mode s.bs s.ss o=0 then settle s o (vR s.mode s.bs s.ss o) else .error (vE s.mode s.bs s.ss o)
noncomputable def place(s:TS)(o:O):Rs:=
 if chk o=0 then (if has s o.id=true then .error 7 else (zDz s o.who (forC o) (forS o)).bind fun s1=>if o.stop=0 then come s1 o else sleep s1 o) else .error (chk o)
noncomputable def rise(s:TS)(o:O):Rs:=if vE s.mode s.bs s.ss o=0 then settle s o (vR s.mode s.bs s.ss o) else vanish s o
noncomputable def zBy:Nat→TS→Rs
 | 0,s=>.ok s
 | n+1,s=>match s.row with
  | []=>.ok s
  | x::t=>(rise (tell { s with row:=t } 4 x.o.id x.o.qty x.p) x.o).bind (zBy n)
noncomputable def shrink(s:TS)(id price qty:Int):Rs:=
 let x:=spot s.bs s.ss id
 if 1≤qty∧qty≤10000 then
  (if 0<x.r.qty+x.r.hid - qty then zCk s ⟨id,x.r.who,x.r.qty+x.r.hid - qty,0,0⟩ x.s price else .ok s).bind fun s1=>
   .ok (tell { s1 with bs:=swp.kB x.s s.bs x.i x.k (swp.zAI x.r qty),ss:=swp.kS x.s s.ss x.i x.k (swp.zAI x.r qty) } 1 id qty price)
 else .error 1
noncomputable def swap(s:TS)(id price qty:Int):Rs:=
 if swp.fE s.bs s.ss id price=0 then
  (if swp.zDt (spot s.bs s.ss id).p (spot s.bs s.ss id).r price qty=true then shrink s id price qty
   else (leave s id).bind fun s1=>place s1 ⟨(spot s.bs s.ss id).r.id,(spot s.bs s.ss id).r.who,(spot s.bs s.ss id).s,1,price,qty,min (spot s.bs s.ss id).r.shw qty,0⟩)
 else .error (swp.fE s.bs s.ss id price)
def payS(s:TS)(who n:Int):Rs:=if payE s.ps who n=0 then .ok { s with ps:=payP s.ps who n } else .error (payE s.ps who n)
def zES(s:TS)(who n:Int):Rs:=if zDf s.ps who n=0 then .ok { s with ps:=zDv s.ps who n } else .error (zDf s.ps who n)
structure Cm where
 what:Int
 o:O
 who:Int
 n:Int
noncomputable def doC(s:TS)(c:Cm):Rs:=
 if c.what=1 then place s c.o else if c.what=2 then cancel s c.o.id else if c.what=3 then swap s c.o.id c.o.price c.o.qty else if c.what=4 then payS s c.who c.n else if c.what=5 then zES s c.who c.n else .error 1
structure FS where
 mode:Int
 last:Int
 bs:List L
 ss:List L
 ws:List O
 ps:List Pz
def zBz(f:FS):TS:=⟨f.mode,f.last,f.bs,f.ss,f.ws,f.ps,[],[]⟩
def zEt(s:TS):FS:=⟨s.mode,s.last,s.bs,s.ss,s.ws,s.ps⟩
noncomputable def fdo(f:FS)(c:Cm):Rs:=(doC (zBz f) c).bind fun s=>zBy (s.row.length+s.ws.length) s
structure Wf (s:TS):Prop where
 m0:0≤s.mode
 m3:s.mode≤3
 book:zAc s.bs s.ss=0
 ok:Ok s.ps
 ws:s.ws.length≤20
def Res(S:List TypeId)(b t:Nat)(w:World)(x:Rs)(e:Ending)(w' : World):Prop:=
 Tn S b w w'∧match x with
  | .ok s=>e=.returned .nilIface∧∃v,TM w' b t s v
  | .error k=>¬k=0∧e=.returned (.iface 90 (.int .i64 k))
theorem zQa{S:List TypeId}{b t:Nat}{w w' : World}{x:Rs}{s:TS}{v:TV}(hx:x=.ok s)(h:Tn S b w w')(hm:TM w' b t s v):Res S b t w x (.returned .nilIface) w':=by
 subst hx;exact⟨h,rfl,v,hm⟩
theorem zAE{S:List TypeId}{b t:Nat}{w w' : World}{x:Rs}{k:Int}(hx:x=.error k)(hk:¬k=0)(h:Tn S b w w'):Res S b t w x (.returned (.iface 90 (.int .i64 k))) w':=by
 subst hx;exact⟨h,hk,rfl⟩
theorem Res.step{S S' : List TypeId}{b t:Nat}{w0 w w' : World}{x:Rs}{e:Ending}(h:Res S b t w x e w')(h0:Tn S' b w0 w)(hs:∀t∈S,t∈S'):Res S' b t w0 x e w':=⟨h0.trans (h.1.mono hs),h.2⟩
theorem Res.two{S:List TypeId}{b t:Nat}{w w' : World}{x:Rs}{e:Ending}(h:Res S b t w x e w'):(∃s v,x=.ok s∧e=.returned .nilIface∧TM w' b t s v)∨∃k,x=.error k∧¬k=0∧e=.returned (.iface 90 (.int .i64 k)):=by
 obtain⟨-,h⟩:=h;cases x with
 | ok s=>obtain⟨h1,v,h2⟩:=h;exact .inl ⟨s,v,rfl,h1,h2⟩
 | error k=>exact .inr ⟨k,rfl,h.1,h.2⟩
theorem wBa{s s1:TS}{who c d:Int}(h:Wf s)(e:zBY s who c d=.ok s1):Wf s1∧s1 = { s with ps:=zCK s.ps who c d }:=by
 unfold zBY at e;split at e
 ·cases e;exact⟨⟨h.m0,h.m3,h.book,pur.wBa h.ok _ _ _,h.ws⟩,rfl⟩
 ·cases e
theorem wBb{s s1:TS}{who c d:Int}(h:Wf s)(e:zDz s who c d=.ok s1):Wf s1∧s1 = { s with ps:=zCP s.ps who c d }:=by
 unfold zDz at e;split at e
 ·cases e;exact⟨⟨h.m0,h.m3,h.book,pur.wBb h.ok _ _ _,h.ws⟩,rfl⟩
 ·cases e
theorem zFV{s s1:TS}{r:R}{a p:Int}(h:Wf s)(e:zCk s r a p=.ok s1):Wf s1∧zBp r a p=0∧s1 = { s with ps:=zCK s.ps r.who (zBJ r a p) (zBK r a p) }:=by
 unfold zCk at e;split at e
 ·rename_i h0;have:=wBa h e;exact⟨this.1,h0,this.2⟩
 ·cases e
end flr
namespace flr
open Go.ChangeShapes Go.WideShapes Go.ChangeAt Go.RowKit Go.Deep
open ord (O)
def cmL(c:Cm):List Value:=[.int .i64 c.what,.int .i64 c.o.id,.int .i64 c.o.who,.int .i64 c.o.side,.int .i64 c.o.kind,.int .i64 c.o.price,.int .i64 c.o.qty,.int .i64 c.o.shw,.int .i64 c.o.stop,.int .i64 c.who,.int .i64 c.n]
instance:Inhabited Cm:=⟨⟨0,⟨0,0,0,0,0,0,0,0⟩,0,0⟩⟩
def CLies(w:World)(b o:Nat)(zs:List Cm):Prop:=∀j,j<zs.length→(∀i v,(cmL zs[j]!)[i]?=some v→w.cell? ⟨b,o+j*11+i,none⟩=some v)∧(Lit.int .i64 (zs[j]!).o.id).wf=true
def CL(w:World)(v:Value)(zs:List Cm):Prop:=
 (v=.slice none 0 0∧zs=[])∨∃b o c,v=.slice (some ⟨b,o,none⟩) zs.length c∧zs.length≤c∧c≤9223372036854775807∧b<w.heap.size∧CLies w b o zs
theorem CL.below{w w' : World}{v:Value}{zs:List Cm}(h:CL w v zs)(hB:Bw w w'):CL w' v zs:=by
 rcases h with h|⟨b,o,c,h1,h2,h3,h4,h5⟩
 ·exact .inl h
 ·exact .inr ⟨b,o,c,h1,h2,h3,jC h4 hB.size,fun j hj=>⟨fun i v hv=>(hB.cell (p:=⟨b,o+j*11+i,none⟩) h4).trans ((h5 j hj).1 i v hv),(h5 j hj).2⟩⟩
theorem CL.form{w:World}{v:Value}{zs:List Cm}(h:CL w v zs):∃q c,v=.slice q zs.length c∧zs.length≤9223372036854775807:=by
 rcases h with ⟨h1,h2⟩|⟨b,o,c,h1,h2,h3,h4,h5⟩
 ·subst h2;exact⟨none,0,h1,by simp⟩
 ·exact⟨some ⟨b,o,none⟩,c,h1,by omega⟩
theorem CL.at{w:World}{q:Option Addr}{n c:Nat}{zs:List Cm}(h:CL w (.slice q n c) zs){k:Nat}(hk:k<zs.length):∃g off,q=some ⟨g,off,none⟩∧g<w.heap.size∧(∀i v,(cmL zs[k]!)[i]?=some v→w.cell? ⟨g,off+k*11+i,none⟩=some v)∧(Lit.int .i64 (zs[k]!).o.id).wf=true:=by
 rcases h with ⟨h1,h2⟩|⟨b,o,c,h1,h2,h3,h4,h5⟩
 ·subst h2;simp at hk
 ·cases h1;exact⟨b,o,rfl,h4,(h5 k hk).1,(h5 k hk).2⟩
theorem list4{α:Type}{l:List α}(h:l.length=4):∃c0 c1 c2 c3,l=[c0,c1,c2,c3]:=by
 match l,h with
 | [c0,c1,c2,c3],_=>exact⟨c0,c1,c2,c3,rfl⟩
theorem list8{α:Type}{l:List α}(h:l.length=8):∃c0 c1 c2 c3 c4 c5 c6 c7,l=[c0,c1,c2,c3,c4,c5,c6,c7]:=by
 match l,h with
 | [c0,c1,c2,c3,c4,c5,c6,c7],_=>exact⟨c0,c1,c2,c3,c4,c5,c6,c7,rfl⟩
theorem list11{α:Type}{l:List α}(h:l.length=11):∃c0 c1 c2 c3 c4 c5 c6 c7 c8 c9 c10,l=[c0,c1,c2,c3,c4,c5,c6,c7,c8,c9,c10]:=by
 match l,h with
 | [c0,c1,c2,c3,c4,c5,c6,c7,c8,c9,c10],_=>exact⟨c0,c1,c2,c3,c4,c5,c6,c7,c8,c9,c10,rfl⟩
theorem getC{α:Type}[Inhabited α](l:List α)(j:Nat)(h:j<l.length):l[j]! = l[j]:=by simp[h]
theorem cellsC:prog.cellsOf 36=11:=by kernel_rfl
theorem cellsO:prog.cellsOf 34=8:=by kernel_rfl
theorem zCz:prog.cellsOf 3=1:=by kernel_rfl
section
variable {H:Type}{enc:TypeId × Value→H}{w:World}{base:Nat}{sp:Nat→Bool}{held:Bool}
theorem zDH{n:Nat}{cs:List Value}{x:DataW H × List MemPlace}(h:DataW.trod enc prog w base sp held n 34 cs=some x)(hl:cs.length=8) :
  ∃r:O,cs=wak.oL r∧(Lit.int .i64 r.id).wf=true:=by
 obtain⟨c0,c1,c2,c3,c4,c5,c6,c7,rfl⟩:=list8 hl;obtain⟨xs,n,_,hx,_,Hh,hF⟩:=DataW.trod_struct underlying34 h;obtain⟨y0,y1,y2,y3,y4,y5,y6,y7,rfl⟩:=list8 Hh;have h0:DataW.trod enc prog w base sp held n 3 (([c0,c1,c2,c3,c4,c5,c6,c7].drop 0).take (prog.cellsOf 3))=some y0:=hF 0 _ rfl;rw[zCz] at h0;obtain⟨a0,e0,_,f0⟩:=DataW.trod_int underlying3 h0;have h1:DataW.trod enc prog w base sp held n 3 (([c0,c1,c2,c3,c4,c5,c6,c7].drop 1).take (prog.cellsOf 3))=some y1:=hF 1 _ rfl;rw[zCz] at h1;obtain⟨a1,e1,_,f1⟩:=DataW.trod_int underlying3 h1;have h2:DataW.trod enc prog w base sp held n 3 (([c0,c1,c2,c3,c4,c5,c6,c7].drop 2).take (prog.cellsOf 3))=some y2:=hF 2 _ rfl;rw[zCz] at h2;obtain⟨a2,e2,_,f2⟩:=DataW.trod_int underlying3 h2;have h3:DataW.trod enc prog w base sp held n 3 (([c0,c1,c2,c3,c4,c5,c6,c7].drop 3).take (prog.cellsOf 3))=some y3:=hF 3 _ rfl;rw[zCz] at h3
 obtain⟨a3,e3,_,f3⟩:=DataW.trod_int underlying3 h3;have h4:DataW.trod enc prog w base sp held n 3 (([c0,c1,c2,c3,c4,c5,c6,c7].drop 4).take (prog.cellsOf 3))=some y4:=hF 4 _ rfl;rw[zCz] at h4;obtain⟨a4,e4,_,f4⟩:=DataW.trod_int underlying3 h4;have h5:DataW.trod enc prog w base sp held n 3 (([c0,c1,c2,c3,c4,c5,c6,c7].drop 5).take (prog.cellsOf 3))=some y5:=hF 5 _ rfl;rw[zCz] at h5;obtain⟨a5,e5,_,f5⟩:=DataW.trod_int underlying3 h5;have h6:DataW.trod enc prog w base sp held n 3 (([c0,c1,c2,c3,c4,c5,c6,c7].drop 6).take (prog.cellsOf 3))=some y6:=hF 6 _ rfl;rw[zCz] at h6;obtain⟨a6,e6,_,f6⟩:=DataW.trod_int underlying3 h6;have h7:DataW.trod enc prog w base sp held n 3 (([c0,c1,c2,c3,c4,c5,c6,c7].drop 7).take (prog.cellsOf 3))=some y7:=hF 7 _ rfl;rw[zCz] at h7;obtain⟨a7,e7,_,f7⟩:=DataW.trod_int underlying3 h7;simp at e0 e1 e2 e3 e4 e5 e6 e7;subst e0 e1 e2 e3 e4 e5 e6 e7
 exact⟨⟨a0,a1,a2,a3,a4,a5,a6,a7⟩,rfl,f0⟩
theorem zDg{n:Nat}{cs:List Value}{x:DataW H × List MemPlace}(h:DataW.trod enc prog w base sp held n 36 cs=some x)(hl:cs.length=11) :
  ∃r:Cm,cs=cmL r∧(Lit.int .i64 r.o.id).wf=true:=by
 obtain⟨c0,c1,c2,c3,c4,c5,c6,c7,c8,c9,c10,rfl⟩:=list11 hl;obtain⟨xs,n,_,hx,_,Hh,hF⟩:=DataW.trod_struct underlying36 h;obtain⟨y0,y1,y2,y3,rfl⟩:=list4 Hh;have h0:DataW.trod enc prog w base sp held n 3 (([c0,c1,c2,c3,c4,c5,c6,c7,c8,c9,c10].drop 0).take (prog.cellsOf 3))=some y0:=hF 0 _ rfl;rw[zCz] at h0;obtain⟨a0,e0,_,f0⟩:=DataW.trod_int underlying3 h0;have h2:DataW.trod enc prog w base sp held n 3 (([c0,c1,c2,c3,c4,c5,c6,c7,c8,c9,c10].drop 9).take (prog.cellsOf 3))=some y2:=hF 2 _ rfl;rw[zCz] at h2;obtain⟨a2,e2,_,f2⟩:=DataW.trod_int underlying3 h2;have h3:DataW.trod enc prog w base sp held n 3 (([c0,c1,c2,c3,c4,c5,c6,c7,c8,c9,c10].drop 10).take (prog.cellsOf 3))=some y3:=hF 3 _ rfl;rw[zCz] at h3;obtain⟨a3,e3,_,f3⟩:=DataW.trod_int underlying3 h3;have h1:DataW.trod enc prog w base sp held n 34 (([c0,c1,c2,c3,c4,c5,c6,c7,c8,c9,c10].drop 1).take (prog.cellsOf 34))=some y1:=hF 1 _ rfl
 rw[cellsO] at h1;obtain⟨r,e1,f1⟩:=zDH h1 rfl;obtain⟨b0,b1,b2,b3,b4,b5,b6,b7⟩:=r;simp at e0 e2 e3;have e1' : [c1,c2,c3,c4,c5,c6,c7,c8]=[.int .i64 b0,.int .i64 b1,.int .i64 b2,.int .i64 b3,.int .i64 b4,.int .i64 b5,.int .i64 b6,.int .i64 b7]:=e1;simp only[List.cons.injEq,and_true] at e1';obtain⟨rfl,rfl,rfl,rfl,rfl,rfl,rfl,rfl⟩:=e1';subst e0 e2 e3;exact⟨⟨a0,⟨b0,b1,b2,b3,b4,b5,b6,b7⟩,a2,a3⟩,rfl,f1⟩
theorem zDA{r:Reach}{b0:Nat}{t e:TypeId}{v:Value}(ht:prog.underlying t=some (.slice e))(hv:Value.okWide prog w r b0 t v) :
  v=.slice none 0 0∨∃b o len cap,v=.slice (some ⟨b,o,none⟩) len cap∧len≤cap∧cap≤9223372036854775807∧b<w.heap.size:=by
 obtain⟨a,len,cap,rfl⟩:=okWide_slice ht hv;simp only[Value.okWide,ht,Cell.okWide] at hv;cases a with
 | none=>
  left;cases len with
  | zero=>
   cases cap with
   | zero=>rfl
   | succ c=>simp[Cell.ok,ht] at hv
  | succ l=>simp[Cell.ok,ht] at hv
 | some a=>
  right;simp only[Cell.ok,ht] at hv;obtain⟨h1,h2,_,h4,row,cells,h5,_⟩:=hv;obtain⟨b,o,s⟩:=a;simp only at h4 h5;subst h4;refine⟨b,o,len,cap,rfl,h1,?_,?_⟩
  ·have:IntKind.i64.max=9223372036854775807:=rfl;rw[this] at h2;omega
  ·unfold World.shape? at h5;split at h5
   ·rename_i hh
    exact(gzE.1 hh).1
   ·cases h5
theorem zFW{r:Reach}{b0:Nat}{v:Value}{d:DataW H}{ps:List MemPlace}(hv:Value.okWide prog w r b0 22 v)(h:DataW.Trod enc prog w base sp held 22 v d ps) :
  ∃zs:List Cm,CL w v zs:=by
 rcases zDA underlying22 hv with rfl|⟨b,o,len,cap,rfl,hl,hm,hb⟩
 ·exact⟨[],.inl ⟨rfl,rfl⟩⟩
 obtain⟨fuel,hf⟩:=h;rcases open_slice underlying22 hf with ⟨Gy,_⟩|⟨a,len',cap',m,n,D,Pl,Gy,_,BP,_,mz,_,hx⟩
 ·simp[Value.cells] at Gy
 simp[Value.cells] at Gy;obtain⟨rfl,rfl,rfl⟩:=Gy;have hlm:len≤m:=by rw[mz];split <;>omega
 obtain⟨f,hf2⟩:=choose_lt (α:=Cm) (n:=len) (p:=fun i r=>(∀k v,(cmL r)[k]?=some v→w.cell? ⟨b,o+i*11+k,none⟩=some v)∧(Lit.int .i64 r.o.id).wf=true) (fun i hi=>by
  obtain⟨cs',h1,h2⟩:=hx i (by omega)
  rw[cellsC] at h1;obtain⟨_,Hh,gv⟩:=World.cells?_some h1;obtain⟨r,rfl,GT⟩:=zDg h2 Hh;refine⟨r,fun k v hk=>?_,GT⟩
  have Pi:k<11:=(List.getElem?_eq_some_iff.1 hk).1;have:=gv k Pi;rw[hk,Addr.add_lit,Addr.add_lit] at this;exact this)
 refine⟨(List.range len).map f,.inr ⟨b,o,cap,by simp,by simpa using hl,hm,hb,?_⟩⟩
 intro j hj;have hj' : j<len:=by simpa using hj
 rw[getC _ _ hj];simp only[List.getElem_map,List.getElem_range];exact hf2 j hj'
end
theorem zRh:laidOutB prog=true:=by kernel_rfl
end flr
namespace sid
open Go.RowKit spn que Go.Maps
open tickP (zAo zAB)
end sid
namespace bok
open Go.RowKit spn que sid
open tickP (zAo zAB)
theorem zPf{bs ss:List L}{s p:Int}{r:R}(h:putE bs ss s p r=0):zAc bs ss=0∧addE s (if s=1 then bs else ss) p r=0∧zAc (put1 bs s p r) (put2 ss s p r)=0:=by
 unfold putE at h;by_cases h0:zAc bs ss=0
 ·rw[if_pos h0] at h;by_cases h1:addE s (if s=1 then bs else ss) p r=0
  ·rw[if_pos h1] at h;exact⟨h0,h1,h⟩
  ·rw[if_neg h1] at h;exact absurd h h1
 ·rw[if_neg h0] at h;exact absurd h h0
structure Held (S:Int) (X bs:List L) (p:Int) (r:R) (i k:Nat):Prop where
 hi:i<X.length
 hk:k<X[i].rests.length
 price:X[i].price=p
 rest:X[i].rests[k]=r
 fe:zAF S X r.id=0
 fp:zBn S X r.id=((i:Int),(k:Int))
 drop:zBo X i k=bs
end bok
namespace kin
open Go.RowKit spn que sid bok mee
open ord (O oV mB mE chk zAy)
open tickP (zAo zAB zBA betR)
theorem zRi{bs ss:List L}{o:O}{k:Int}(h:setE bs ss o k=0)(Gb:zBB o k=true):zBS o k=0∧putE bs ss o.side o.price (zBw o k)=0:=by
 unfold setE at h;rw[if_pos Gb] at h;by_cases hr:zBS o k=0
 ·rw[if_pos hr] at h;exact⟨hr,h⟩
 ·rw[if_neg hr] at h;exact absurd h hr
structure KF (bs ss:List L) (o:O):Prop where
 come:zAu bs ss o=0
 ok:chk o=0
 book:zAc (kdoB bs ss o) (kdoS bs ss o)=0
 sum:sumT (metR bs ss o).2.1+(metR bs ss o).2.2=o.qty
 left0:0≤(metR bs ss o).2.2
 sum0:0≤sumT (metR bs ss o).2.1
 q1:1≤o.qty
 q2:o.qty≤10000
 len:(metR bs ss o).2.1.length≤400
 each:∀x∈(metR bs ss o).2.1,1≤x.qty∧x.qty≤o.qty
 whole:o.kind=4→(metR bs ss o).2.2=0
 post:o.kind=5→(metR bs ss o).2.2=o.qty
end kin
namespace mrg
open Go.RowKit mee que sid bok kin
open ord (O oV chk mB prB errV wAa)
theorem own_tl{w:World}{base:Nat}{v:Value}{ts:List T}(h:OwnT w base v ts):TL w v ts:=by
 rcases h.2 with ⟨e,hn⟩|⟨g,off,cap,cur,e,hb,hg,GH,gi,Gy,ga⟩
 ·exact .inl ⟨e,List.eq_nil_of_length_eq_zero hn⟩
 ·subst e;refine .inr ⟨g,off,cap,rfl,GH,gi,(gzE.1 hg).1,fun j hj i u hu=>?_⟩
  obtain⟨g',off',e,-,z0,z1,z2,z3,z4,z5⟩:=OwnT.at h hj;cases e;have hi:i<6:=(List.getElem?_eq_some_iff.1 hu).1;have:i=0∨i=1∨i=2∨i=3∨i=4∨i=5:=by omega
  rcases this with rfl|rfl|rfl|rfl|rfl|rfl <;>cases hu <;>assumption
def zPg:List T→Int
 | []=>0
 | x::t=>x.price*x.qty+zPg t
theorem zMu(ts:List T)(k:Nat)(hk:k<ts.length):sumT (ts.take (k+1))=sumT (ts.take k)+ts[k]!.qty:=by
 rw[List.take_succ_eq_append_getElem hk,zCO,getE _ _ hk];simp only[sumT];omega
def cA(o:O)(bc:Int)(ts:List T)(k:Nat):Int:=if o.side=1 then bc+zPg (ts.take k) else bc
def dA(o:O)(bs:Int)(ts:List T)(k:Nat):Int:=if o.side=1 then bs else bs+sumT (ts.take k)
structure MF (o:O) (ts:List T) (lf g fc fs bc bst:Int):Prop where
 ok:chk o=0
 fore:forC o=fc∧forS o=fs
 back:zBx o ts g=0∧zCw o ts g=bc∧zCx o ts g=bst
 each:∀x∈ts,1≤x.price∧x.price≤10000∧1≤x.qty∧x.qty≤10000
 cB:∀k,0≤cA o bc ts k∧cA o bc ts k≤1000000000
 dB:∀k,0≤dA o bst ts k∧dA o bst ts k≤1000000000
 out:zBB o lf=false→cA o bc ts ts.length=fc∧dA o bst ts ts.length=fs
 stay:zBB o lf=true→cA o bc ts ts.length+putC o.side o.price lf=fc∧dA o bst ts ts.length+putS o.side lf=fs∧0≤fc∧fc≤100000000∧0≤fs∧fs≤100000000
end mrg
end Go.Proofs.YtnfilcpnneckkaaGreat
