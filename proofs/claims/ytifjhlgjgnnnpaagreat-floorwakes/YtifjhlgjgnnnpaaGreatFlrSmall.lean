import Derived.Test.YtifjhlgjgnnnpaaGreatMrgBack
import Derived.Test.YtifjhlgjgnnnpaaGreatQueChk
import Derived.Test.YtifjhlgjgnnnpaaGreatBokAny
import Derived.Test.YtifjhlgjgnnnpaaGreatOwnGen
import Derived.Test.YtifjhlgjgnnnpaaGreatWakDrop
import Derived.Test.YtifjhlgjgnnnpaaGreatMrgSl
import Derived.Deep.RegionHeld3
import Derived.Deep.QuietTactic
import Derived.OwnWalk
set_option maxHeartbeats 2000000
set_option maxRecDepth 100000
namespace Go.Proofs.YtifjhlgjgnnnpaaGreat
namespace mrg
open Go.RowKit mee
open spn (keeps bcell spanB spanV zAQ zAC zAm zAr scheck1 scheck2 rangeE)
open ord (O oV chk errV errV_zero errV_of check_any mB mE zAk bal prB)
open que (R rchk zBF)
def sidB(s:Int):Bool:=decide (1≤s) && decide (s≤2)
def leftE(r:R)(s p:Int):Int:=if rchk r=0 then (if sidB s && prB p then 0 else 1) else rchk r
def leftC(r:R)(s p:Int):Int:=if leftE r s p=0 then putC s p (r.qty+r.hid) else 0
def leftS(r:R)(s p:Int):Int:=if leftE r s p=0 then putS s (r.qty+r.hid) else 0
theorem two_any(s p:Int):[(s,1,2),(p,1,10000)].any spanB = !(sidB s && prB p):=by
 rw[Bool.eq_iff_iff]
 simp[spanB,sidB,prB]
theorem zCg{r:R}(h:rchk r=0):1≤r.qty∧r.qty≤10000∧0≤r.hid∧r.hid≤10000:=by
 unfold rchk at h
 by_cases h1:que.rangeB r=true
 ·simp[que.rangeB,que.inB] at h1
  omega
 ·rw[if_neg h1] at h
  omega
theorem zGI(a b c d e s p:Int)(w:World) :
  Calls Tryz.prog 13 #[.agg #[.int .i64 a,.int .i64 b,.int .i64 c,.int .i64 d,.int .i64 e],.int .i64 s,.int .i64 p] w fun x w'=>x=.returned (.tuple #[.int .i64 (leftC ⟨a,b,c,d,e⟩ s p),.int .i64 (leftS ⟨a,b,c,d,e⟩ s p),errV (leftE ⟨a,b,c,d,e⟩ s p)])∧Below w.heap.size w w':=by
 have HCK:Hid (∀W,Calls Tryz.prog 36 #[.agg #[.int .i64 a,.int .i64 b,.int .i64 c,.int .i64 d,.int .i64 e]] W fun x w'=>x=.returned (errV (rchk ⟨a,b,c,d,e⟩))∧Below W.heap.size W w'):=fun W=>zBF a b c d e W
 by_cases h0:rchk ⟨a,b,c,d,e⟩=0
 rotate_left
 ·have e0:leftE ⟨a,b,c,d,e⟩ s p=rchk ⟨a,b,c,d,e⟩:=if_neg h0
  have e1:leftC ⟨a,b,c,d,e⟩ s p=0:=if_neg (by rw[e0];exact h0)
  have e2:leftS ⟨a,b,c,d,e⟩ s p=0:=if_neg (by rw[e0];exact h0)
  rw[e1,e2,e0,errV_of h0]
  rw[errV_of h0] at HCK
  clear e1 e2 e0
  generalize rchk ⟨a,b,c,d,e⟩=k at *
  go_enter Tryz.func13,Tryz.ntmps13
  go_wp2_with fail
  refine(HCK.out _).mono ?_
  rintro e w1⟨rfl,hb⟩
  have hW:Below w.heap.size w w1:=((bzR _ _).alloc (nzR _) _).trans (hb.mono (by simp))
  go_wp2_with fail
  go_ret3
  exact⟨rfl,hW⟩
 have hs:=zCg h0
 have HSM:Hid (wrap64 (c+d)=c+d):=by
  have h1:1≤c∧c≤10000∧0≤d∧d≤10000:=hs
  show _=_
  unfold wrap64
  omega
 have HR:=hidM (two_any s p)
 have e0:leftE ⟨a,b,c,d,e⟩ s p=(if sidB s && prB p then 0 else 1):=if_pos h0
 rw[h0,errV_zero] at HCK
 unfold leftC leftS
 rw[e0]
 clear e0 h0 hs
 generalize (sidB s && prB p)=r at *
 cases r
 ·show Calls _ _ _ _ fun x w'=>x=.returned (.tuple #[.int .i64 0,.int .i64 0,.iface 91 (.int .i64 1)])∧Below w.heap.size w w'
  go_enter Tryz.func13,Tryz.ntmps13
  go_wp2_with fail
  refine(HCK.out _).mono ?_
  rintro x w1⟨rfl,hb⟩
  have hW:Below w.heap.size w w1:=((bzR _ _).alloc (nzR _) _).trans (hb.mono (by simp))
  clear hb
  go_wp2_with fail
  refine(zAr s _).mono ?_
  rintro x w2⟨rfl,hb2⟩
  have hW2:=hW.trans (hb2.mono hW.size)
  clear hb2
  go_wp2_with fail
  refine(zAm p _).mono ?_
  rintro x w3⟨rfl,hb3⟩
  have hW3:=hW2.trans (hb3.mono hW2.size)
  clear hb3
  go_wp2_with fail
  refine(scheck2 true _ _ _ _ _ _ _ _ rfl HR.out).mono ?_
  rintro x w4⟨rfl,hb4⟩
  have hW4:=hW3.trans (hb4.mono hW3.size)
  clear hb4
  simp only[show spn.errV (rangeE true)=.iface 91 (.int .i64 1) from rfl]
  go_wp2_with fail
  go_ret3
  exact⟨rfl,hW4⟩
 ·show Calls _ _ _ _ fun x w'=>x=.returned (.tuple #[.int .i64 (putC s p (c+d)),.int .i64 (putS s (c+d)),.nilIface])∧Below w.heap.size w w'
  go_enter Tryz.func13,Tryz.ntmps13
  go_wp2_with fail
  refine(HCK.out _).mono ?_
  rintro x w1⟨rfl,hb⟩
  have hW:Below w.heap.size w w1:=((bzR _ _).alloc (nzR _) _).trans (hb.mono (by simp))
  have d2:w1.cell? ⟨w.heap.size,2,none⟩=some (.int .i64 c):=keeps hb (by simp)
  have d3:w1.cell? ⟨w.heap.size,3,none⟩=some (.int .i64 d):=keeps hb (by simp)
  clear hb
  go_wp2_with fail
  refine(zAr s _).mono ?_
  rintro x w2⟨rfl,hb2⟩
  have hW2:=hW.trans (hb2.mono hW.size)
  have c2:=keeps hb2 d2
  have c3:=keeps hb2 d3
  clear hb2 d2 d3
  go_wp2_with fail
  refine(zAm p _).mono ?_
  rintro x w3⟨rfl,hb3⟩
  have hW3:=hW2.trans (hb3.mono hW2.size)
  have d2:=keeps hb3 c2
  have d3:=keeps hb3 c3
  clear hb3 c2 c3
  go_wp2_with fail
  refine(scheck2 false _ _ _ _ _ _ _ _ rfl HR.out).mono ?_
  rintro x w4⟨rfl,hb4⟩
  have hW4:=hW3.trans (hb4.mono hW3.size)
  have c2:=keeps hb4 d2
  have c3:=keeps hb4 d3
  clear hb4 d2 d3
  simp only[show spn.errV (rangeE false)=.nilIface from rfl]
  have x1:=HSM.out
  go_wp2_with fail
  refine(zER _ _ _ _).mono ?_
  rintro x w5⟨rfl,rfl⟩
  go_wp2_with fail
  go_ret3
  exact⟨rfl,hW4⟩
end mrg
namespace flr
open Go.RowKit
open que (R)
open sid (L DL)
open mee (T tV OwnT)
open ord (O oV)
open pur (Pz Pu Ok)
open wak (OwnM St oL)
theorem hidF{P:Prop}(h:P):Hid P:=h
structure Ev where
 what:Int
 id:Int
 qty:Int
 price:Int
 tr:T
deriving Inhabited
def zeroT:T:=⟨0,0,0,0,0,0⟩
def evL(e:Ev):List Value:=[.int .i64 e.what,.int .i64 e.id,.int .i64 e.qty,.int .i64 e.price]++tV e.tr
def flatE(l:List Ev):List Value:=l.flatMap evL
theorem zCn(a b:List Ev):flatE (a++b)=flatE a++flatE b:=by unfold flatE;rw[List.flatMap_append]
theorem zET(e:Ev):flatE [e]=evL e:=by simp[flatE]
structure Sl where
 o:O
 p:Int
instance:Inhabited Sl:=⟨⟨⟨0,0,0,0,0,0,0,0⟩,0⟩⟩
def slL(x:Sl):List Value:=oL x.o++[.int .i64 x.p]
def flatK(l:List Sl):List Value:=l.flatMap slL
theorem zEU(a b:List Sl):flatK (a++b)=flatK a++flatK b:=by unfold flatK;rw[List.flatMap_append]
theorem zKl(e:Sl):flatK [e]=slL e:=by simp[flatK]
theorem zDr(e:Sl)(t:List Sl):flatK (e::t)=slL e++flatK t:=by simp[flatK]
structure TS where
 mode:Int
 last:Int
 bs:List L
 ss:List L
 ws:List O
 ps:List Pz
 evs:List Ev
 row:List Sl
def tA:List TypeId:=[85,110,42]
def tB:List TypeId:=[85,110,42,107,32,115]
theorem tA_tB:∀t∈tA,t∈tB:=by decide
structure Kp (S:List TypeId) (w w' : World):Prop where
 os:w'.os=w.os
 tape:w'.tape=w.tape
 output:w'.output=w.output
 size:w.heap.size≤w'.heap.size
 typ:∀ (k:Nat) (cur:Array Value) (t:TypeId),w.heap[k]?=some (Obj.cells cur t (0,0))→t ∉ S→w'.heap[k]?=some (Obj.cells cur t (0,0))
theorem Kp.refl(S:List TypeId)(w:World):Kp S w w:=⟨rfl,rfl,rfl,nzR _,fun _ _ _ h _=>h⟩
theorem Kp.trans{S:List TypeId}{a b c:World}(h:Kp S a b)(k:Kp S b c):Kp S a c:=
 ⟨k.os.trans h.os,k.tape.trans h.tape,k.output.trans h.output,Nat.le_trans h.size k.size,fun i cur t hi ht=>k.typ i cur t (h.typ i cur t hi ht) ht⟩
theorem Kp.mono{S S' : List TypeId}{a b:World}(h:Kp S a b)(hs:∀t∈S,t∈S'):Kp S' a b:=
 ⟨h.os,h.tape,h.output,h.size,fun i cur t hi ht=>h.typ i cur t hi (fun x=>ht (hs t x))⟩
theorem Kp.below{S:List TypeId}{w w' : World}(h:Below w.heap.size w w'):Kp S w w':=
 ⟨h.os,h.tape,h.output,h.size,fun k _ _ hk _=>(h.block k (gzE.1 hk).1).trans hk⟩
theorem Kp.grown{S:List TypeId}{w w' : World}{P:Nat}{cur:Array Value}{t:TypeId}{f:Nat × Nat}(h:w.grownBy w' (some P))(hP:w.heap[P]?=some (.cells cur t f))(ht:t∈S):Kp S w w':=
 ⟨h.os,h.tape,h.output,h.size,fun k c t' hk ht'=>(h.block k (gzE.1 hk).1 (fun e=>by
  cases e
  rw[hP] at hk
  simp only[Option.some.injEq,Obj.cells.injEq] at hk
  exact ht' (hk.2.1 ▸ ht))).trans hk⟩
theorem Kp.own{S:List TypeId}{w w' : World}(hk:Kp S w w'){base:Nat}{e:TypeId}{sz:Nat}{v:Value}{n:Nat}{xs:List Value}(h:OwnM w base e sz v n xs)(he:e ∉ S):OwnM w' base e sz v n xs:=by
 refine⟨h.1,?_⟩
 rcases h.2 with hn|⟨g,off,cap,cur,rfl,hb,hgg,rest⟩
 ·exact .inl hn
 ·exact .inr ⟨g,off,cap,cur,rfl,hb,hk.typ g cur e hgg he,rest⟩
theorem Kp.ownQ{S:List TypeId}{w w' : World}(hk:Kp S w w'){base:Nat}{e:TypeId}{sz:Nat}{v:Value}{n:Nat}{xs:List Value}(h:que.OwnM w base e sz v n xs)(he:e ∉ S):que.OwnM w' base e sz v n xs:=by
 refine⟨h.1,?_⟩
 rcases h.2 with hn|⟨g,off,cap,cur,rfl,hb,hgg,rest⟩
 ·exact .inl hn
 ·exact .inr ⟨g,off,cap,cur,rfl,hb,hk.typ g cur e hgg he,rest⟩
theorem Kp.dl{S:List TypeId}{w w' : World}(hk:Kp S w w'){base:Nat}{v:Value}{ls:List L}(h:DL w base v ls)(h1:52 ∉ S)(h2:54 ∉ S):DL w' base v ls:=by
 obtain⟨ps,e,hD⟩:=h
 exact⟨ps,e,⟨hk.ownQ hD.own h1,fun p hp=>hk.ownQ (hD.each p hp) h2,hD.apart,hD.far⟩⟩
theorem Kp.pu{S:List TypeId}{w w' : World}(hk:Kp S w w'){P:Nat}{ps:List Pz}(h:Pu 110 9 w P ps)(h1:110 ∉ S):Pu 110 9 w' P ps:=⟨h.1,hk.typ _ _ _ h.2 h1⟩
theorem Kp.st{S:List TypeId}{w w' : World}(hk:Kp S w w'){b p:Nat}{v:Value}{os:List O}(h:St w b p v os)(h1:107 ∉ S)(h2:32 ∉ S):St w' b p v os:=
 ⟨hk.typ _ _ _ h.blk h1,h.le,hk.own h.own h2⟩
structure Tn (S:List TypeId) (b:Nat) (w w' : World):Prop where
 kp:Kp S w w'
 low:∀k,k<b→w'.heap[k]?=w.heap[k]?
theorem Tn.refl(S:List TypeId)(b:Nat)(w:World):Tn S b w w:=⟨Kp.refl S w,fun _ _=>rfl⟩
theorem Tn.trans{S:List TypeId}{b:Nat}{x y z:World}(h:Tn S b x y)(k:Tn S b y z):Tn S b x z:=⟨h.kp.trans k.kp,fun i hi=>(k.low i hi).trans (h.low i hi)⟩
theorem Tn.mono{S S' : List TypeId}{b:Nat}{x y:World}(h:Tn S b x y)(hs:∀t∈S,t∈S'):Tn S' b x y:=⟨h.kp.mono hs,h.low⟩
theorem Tn.below{S:List TypeId}{b:Nat}{w w' : World}(h:Below w.heap.size w w')(hb:b≤w.heap.size):Tn S b w w':=⟨Kp.below h,fun k hk=>h.block k (by omega)⟩
theorem Tn.grown{S:List TypeId}{b:Nat}{w w' : World}{P:Nat}{cur:Array Value}{t:TypeId}{f:Nat × Nat}(h:w.grownBy w' (some P))(hP:w.heap[P]?=some (.cells cur t f))(ht:t∈S)(hb:b≤P):Tn S b w w':=
 ⟨Kp.grown h hP ht,fun k hk=>h.block k (by have:=(gzE.1 hP).1;omega) (fun e=>by cases e;omega)⟩
theorem Tn.bel{S:List TypeId}{b:Nat}{w w' : World}(h:Tn S b w w'):Below b w w':=⟨h.kp.os,h.kp.tape,h.kp.output,h.kp.size,h.low⟩
structure TV where
 q1:Option Addr
 n1:Nat
 c1:Nat
 q2:Option Addr
 n2:Nat
 c2:Nat
 sp:Nat
 vw:Value
 pp:Nat
 qe:Option Addr
 ne:Nat
 ce:Nat
 qk:Option Addr
 nk:Nat
 ck:Nat
def rowT(s:TS)(v:TV):Array Value:=#[.int .i64 s.mode,.slice v.q1 v.n1 v.c1,.slice v.q2 v.n2 v.c2,.pointer (some ⟨v.sp,0,none⟩),.pointer (some ⟨v.pp,0,none⟩),.int .i64 s.last,.slice v.qe v.ne v.ce,.slice v.qk v.nk v.ck]
structure TM (w:World) (b t:Nat) (s:TS) (v:TV):Prop where
 blk:w.heap[t]?=some (.cells (rowT s v) 85 (0,0))
 le:b≤t
 buys:DL w 0 (.slice v.q1 v.n1 v.c1) s.bs
 sells:DL w 0 (.slice v.q2 v.n2 v.c2) s.ss
 stops:St w b v.sp v.vw s.ws
 purs:Pu 110 9 w v.pp s.ps
 ple:b≤v.pp
 evs:OwnM w b 42 10 (.slice v.qe v.ne v.ce) s.evs.length (flatE s.evs)
 row:OwnM w b 115 9 (.slice v.qk v.nk v.ck) s.row.length (flatK s.row)
section
variable {w w' : World}{b t:Nat}{s:TS}{v:TV}
theorem TM.lt(h:TM w b t s v):t<w.heap.size:=(gzE.1 h.blk).1
theorem TM.base(h:TM w b t s v):b≤w.heap.size:=by have:=h.lt;have:=h.le;omega
theorem TM.below(h:TM w b t s v)(hB:Below w.heap.size w w'):TM w' b t s v:=
 have hk:Kp [] w w':=Kp.below hB
 ⟨hk.typ _ _ _ h.blk (by simp),h.le,hk.dl h.buys (by simp) (by simp),hk.dl h.sells (by simp) (by simp),hk.st h.stops (by simp) (by simp),hk.pu h.purs (by simp),h.ple,hk.own h.evs (by simp),hk.own h.row (by simp)⟩
theorem TM.cells(h:TM w b t s v):w.cell? ⟨t,0,none⟩=some (.int .i64 s.mode)∧w.cell? ⟨t,1,none⟩=some (.slice v.q1 v.n1 v.c1)∧w.cell? ⟨t,2,none⟩=some (.slice v.q2 v.n2 v.c2)∧w.cell? ⟨t,3,none⟩=some (.pointer (some ⟨v.sp,0,none⟩))∧w.cell? ⟨t,4,none⟩=some (.pointer (some ⟨v.pp,0,none⟩))∧w.cell? ⟨t,5,none⟩=some (.int .i64 s.last)∧w.cell? ⟨t,6,none⟩=some (.slice v.qe v.ne v.ce)∧w.cell? ⟨t,7,none⟩=some (.slice v.qk v.nk v.ck)∧∀j,w.frozen? ⟨t,j,none⟩=false:=
 wak.row8 h.blk
theorem TM.ne(h:TM w b t s v):v.ne=s.evs.length:=by obtain⟨q,c,e⟩:=OwnM.form h.evs;simp only[Value.slice.injEq] at e;exact e.2.1
theorem TM.nk(h:TM w b t s v):v.nk=s.row.length:=by obtain⟨q,c,e⟩:=OwnM.form h.row;simp only[Value.slice.injEq] at e;exact e.2.1
theorem TM.pay(h:TM w b t s v){ps:List Pz}(hp:Pu 110 9 w' v.pp ps)(hg:w.grownBy w' (some v.pp)):TM w' b t { s with ps:=ps } v∧Tn tA b w w':=by
 have hk:Kp [110] w w':=Kp.grown hg h.purs.2 (by simp)
 exact⟨⟨hk.typ _ _ _ h.blk (by decide),h.le,hk.dl h.buys (by decide) (by decide),hk.dl h.sells (by decide) (by decide),hk.st h.stops (by decide) (by decide),hp,h.ple,hk.own h.evs (by decide),hk.own h.row (by decide)⟩,Tn.grown hg h.purs.2 (by decide) h.ple⟩
theorem TM.book(h:TM w b t s v){q1 q2:Option Addr}{n1 n2 c1 c2:Nat}{bs ss:List L}(h1:DL w 0 (.slice q1 n1 c1) bs)(h2:DL w 0 (.slice q2 n2 c2) ss) :
  TM ((w.setCell ⟨t,1,none⟩ (.slice q1 n1 c1)).setCell ⟨t,2,none⟩ (.slice q2 n2 c2)) b t { s with bs:=bs,ss:=ss } { v with q1:=q1,n1:=n1,c1:=c1,q2:=q2,n2:=n2,c2:=c2 }∧Tn tA b w ((w.setCell ⟨t,1,none⟩ (.slice q1 n1 c1)).setCell ⟨t,2,none⟩ (.slice q2 n2 c2)):=by
 have hg:w.grownBy ((w.setCell ⟨t,1,none⟩ (.slice q1 n1 c1)).setCell ⟨t,2,none⟩ (.slice q2 n2 c2)) (some t):=wak.gr_trans (wak.gr_setCell _ _ _ _) (wak.gr_setCell _ _ _ _)
 have hk:Kp [85] w _:=Kp.grown hg h.blk (by simp)
 refine⟨⟨?_,h.le,hk.dl h1 (by decide) (by decide),hk.dl h2 (by decide) (by decide),hk.st h.stops (by decide) (by decide),hk.pu h.purs (by decide),h.ple,hk.own h.evs (by decide),hk.own h.row (by decide)⟩,Tn.grown hg h.blk (by decide) h.le⟩
 have x1:=heap_setCell_same w t 1 _ _ (.slice q1 n1 c1) h.blk
 exact heap_setCell_same _ t 2 _ _ (.slice q2 n2 c2) x1
theorem TM.lastP(h:TM w b t s v)(p:Int):TM (w.setCell ⟨t,5,none⟩ (.int .i64 p)) b t { s with last:=p } v∧Tn tA b w (w.setCell ⟨t,5,none⟩ (.int .i64 p)):=by
 have hg:=wak.gr_setCell w t 5 (.int .i64 p)
 have hk:Kp [85] w _:=Kp.grown hg h.blk (by simp)
 exact⟨⟨heap_setCell_same w t 5 _ _ _ h.blk,h.le,hk.dl h.buys (by decide) (by decide),hk.dl h.sells (by decide) (by decide),hk.st h.stops (by decide) (by decide),hk.pu h.purs (by decide),h.ple,hk.own h.evs (by decide),hk.own h.row (by decide)⟩,Tn.grown hg h.blk (by decide) h.le⟩
theorem TM.told(h:TM w b t s v){q:Option Addr}{n c:Nat}{evs:List Ev}(ho:OwnM w' b 42 10 (.slice q n c) evs.length (flatE evs))(hg:w.grownBy w' (Value.slice v.qe v.ne v.ce).ownBlock) :
  TM (w'.setCell ⟨t,6,none⟩ (.slice q n c)) b t { s with evs:=evs } { v with qe:=q,ne:=n,ce:=c }∧Tn tA b w (w'.setCell ⟨t,6,none⟩ (.slice q n c)):=by
 have hk:Kp [42] w w'∧∀k,k<b→w'.heap[k]?=w.heap[k]?:=by
  rcases h.evs.2 with ⟨h1,_⟩|⟨g,off,cap,cur,h1,h2,h3,_⟩
  ·rw[h1] at hg
   have hB:Below w.heap.size w w':=⟨hg.os,hg.tape,hg.output,hg.size,fun k hk=>hg.block k hk (by simp[Value.ownBlock])⟩
   exact⟨Kp.below hB,fun k hk=>hB.block k (by have:=h.base;omega)⟩
  ·rw[h1] at hg
   have hg' : w.grownBy w' (some g):=hg
   exact⟨Kp.grown hg' h3 (by simp),fun k hk=>hg'.block k (by have:=h.base;omega) (fun e=>by cases e;omega)⟩
 have hb:=hk.1.typ _ _ _ h.blk (by decide)
 have hg2:=wak.gr_setCell w' t 6 (.slice q n c)
 have hk2:Kp [85] w' _:=Kp.grown hg2 hb (by simp)
 have hk3:Kp [85,42] w (w'.setCell ⟨t,6,none⟩ (.slice q n c)):=(hk.1.mono (by simp)).trans (hk2.mono (by simp))
 refine⟨⟨heap_setCell_same w' t 6 _ _ _ hb,h.le,hk3.dl h.buys (by decide) (by decide),hk3.dl h.sells (by decide) (by decide),hk3.st h.stops (by decide) (by decide),hk3.pu h.purs (by decide),h.ple,hk2.own ho (by decide),hk3.own h.row (by decide)⟩,hk3.mono (by decide),fun k hk'=>?_⟩
 rw[hg2.block k (by have:=h.base;have:=hk.1.size;omega) (fun e=>by cases e;have:=h.le;omega)]
 exact hk.2 k hk'
end
def zeroE:Value:=.agg #[.int .i64 0,.int .i64 0,.int .i64 0,.int .i64 0,.int .i64 0,.int .i64 0,.int .i64 0,.int .i64 0,.int .i64 0,.int .i64 0]
theorem infoE:(Tryz.prog.info? 42).map (fun i=>(i.zero,i.size,i.bytes))=some (some zeroE,10,80):=by kernel_rfl
theorem infoE' : ∃i,Tryz.prog.info? 42=some i∧i.zero=some zeroE∧i.size=10∧i.bytes=80:=by
 have h:=infoE
 cases hq:Tryz.prog.info? 42 with
 | none=>rw[hq] at h;simp at h
 | some i=>
  rw[hq] at h
  simp only[Option.map_some,Option.some.injEq,Prod.mk.injEq] at h
  exact⟨i,rfl,h.1,h.2.1,h.2.2⟩
def zeroK:Value:=.agg #[.int .i64 0,.int .i64 0,.int .i64 0,.int .i64 0,.int .i64 0,.int .i64 0,.int .i64 0,.int .i64 0,.int .i64 0]
theorem infoK:(Tryz.prog.info? 115).map (fun i=>(i.zero,i.size,i.bytes))=some (some zeroK,9,72):=by kernel_rfl
theorem infoK' : ∃i,Tryz.prog.info? 115=some i∧i.zero=some zeroK∧i.size=9∧i.bytes=72:=by
 have h:=infoK
 cases hq:Tryz.prog.info? 115 with
 | none=>rw[hq] at h;simp at h
 | some i=>
  rw[hq] at h
  simp only[Option.map_some,Option.some.injEq,Prod.mk.injEq] at h
  exact⟨i,rfl,h.1,h.2.1,h.2.2⟩
end flr
namespace flr
open Go.RowKit
open que (R)
open sid (L DL)
open mee (T tV comeE metR otherL sumT)
open ord (O oV chk prB)
open pur (Pz Pu Ok freeE freeP holdE holdP tradeE tradeP payE payP giveE giveP)
open bok (bookE inBook)
open kin (kdoE kdoB kdoS kdoG setB setS setG)
open slf (V Fine sE lfV gnV repB repS)
open mrg (leftE leftC leftS forC forS backE backC backS)
structure Sp where
 s:Int
 p:Int
 r:R
 i:Nat
 k:Nat
instance:Inhabited Sp:=⟨⟨0,0,⟨0,0,0,0,0⟩,0,0⟩⟩
def AtS(bs ss:List L)(id:Int)(x:Sp):Prop:=swp.At bs ss id x.s x.p x.r x.i x.k
open Classical in
noncomputable def spot(bs ss:List L)(id:Int):Sp:=if h:∃x:Sp,AtS bs ss id x then h.choose else default
theorem spot_at{bs ss:List L}{id:Int}(h0:bookE bs ss=0)(hin:inBook bs ss id=true):AtS bs ss id (spot bs ss id):=by
 obtain⟨s,p,r,i,k,h⟩:=swp.at_of h0 hin
 have hx:∃x:Sp,AtS bs ss id x:=⟨⟨s,p,r,i,k⟩,h⟩
 unfold spot
 rw[dif_pos hx]
 exact hx.choose_spec
structure Vs where
 bs:List L
 ss:List L
 ts:List T
 gone:Int
 ids:List Int
open Classical in
noncomputable def theV(m:Int)(o:O)(ls:List L)(k:Int):V:=if h:∃v,Fine m o ls k v then h.choose else ⟨[],[],0,false,[]⟩
theorem zCh{m:Int}{o:O}{ls:List L}{k:Int}{v:V}(h:Fine m o ls k v):theV m o ls k=v:=by
 have hx:∃v,Fine m o ls k v:=⟨v,h⟩
 unfold theV
 rw[dif_pos hx]
 exact slf.zAI h _ hx.choose_spec
noncomputable def vE(m:Int)(bs ss:List L)(o:O):Int:=
 if m=0 then kdoE bs ss o else if comeE bs ss o=0 then sE bs ss o (theV m o (otherL bs ss o) o.qty) else comeE bs ss o
noncomputable def vR(m:Int)(bs ss:List L)(o:O):Vs:=
 if m=0 then ⟨kdoB bs ss o,kdoS bs ss o,(metR bs ss o).2.1,kdoG bs ss o,[]⟩
 else
  let v:=theV m o (otherL bs ss o) o.qty
  ⟨setB (repB o bs v.ls) o (lfV v),setS (repS o ss v.ls) o (lfV v),v.ts,gnV v+setG o (lfV v),v.ids⟩
abbrev Rs:=Except Int TS
def tell(s:TS)(what id qty price:Int):TS:={ s with evs:=s.evs++[⟨what,id,qty,price,zeroT⟩] }
def freeS(s:TS)(who c d:Int):Rs:=if freeE s.ps who c d=0 then .ok { s with ps:=freeP s.ps who c d } else .error (freeE s.ps who c d)
def holdS(s:TS)(who c d:Int):Rs:=if holdE s.ps who c d=0 then .ok { s with ps:=holdP s.ps who c d } else .error (holdE s.ps who c d)
def freeR(s:TS)(r:R)(side price:Int):Rs:=if leftE r side price=0 then freeS s r.who (leftC r side price) (leftS r side price) else .error (leftE r side price)
def part(s:TS)(r:R)(side price:Int):Rs:=(freeR s r side price).bind fun s1=>.ok (tell s1 3 r.id (r.qty+r.hid) price)
noncomputable def leave(s:TS)(id:Int):Rs:=
 if inBook s.bs s.ss id=true then part { s with bs:=swp.cB (spot s.bs s.ss id).s s.bs (spot s.bs s.ss id).i (spot s.bs s.ss id).k,ss:=swp.cS (spot s.bs s.ss id).s s.ss (spot s.bs s.ss id).i (spot s.bs s.ss id).k } (spot s.bs s.ss id).r (spot s.bs s.ss id).s (spot s.bs s.ss id).p else .error 5
def vanish(s:TS)(o:O):Rs:=if chk o=0 then (freeS s o.who (forC o) (forS o)).bind fun s1=>.ok (tell s1 3 o.id o.qty o.price) else .error (chk o)
def has(s:TS)(id:Int):Bool:=inBook s.bs s.ss id || decide (0≤wak.idx id s.ws)
def sleep(s:TS)(o:O):Rs:=if wak.putE s.ws o=0 then .ok (tell { s with ws:=s.ws++[o] } 5 o.id o.qty o.stop) else .error (wak.putE s.ws o)
def drop1(ws:List O)(id:Int):List O:=ws.take (wak.idx id ws).toNat++ws.drop ((wak.idx id ws).toNat+1)
noncomputable def cancel(s:TS)(id:Int):Rs:=
 if inBook s.bs s.ss id=true then leave s id else if wak.idx id s.ws<0 then .error 5 else vanish { s with ws:=drop1 s.ws id } s.ws[(wak.idx id s.ws).toNat]!
def trade1(s:TS)(x:T):Rs:=if tradeE s.ps x.frm x.into x.price x.qty=0 then .ok { s with ps:=tradeP s.ps x.frm x.into x.price x.qty,evs:=s.evs++[⟨2,0,0,0,x⟩] } else .error (tradeE s.ps x.frm x.into x.price x.qty)
def trades(s:TS):List T→Rs
 | []=>.ok s
 | x::t=>(trade1 s x).bind fun s1=>trades s1 t
noncomputable def partId(s:TS)(id:Int):Rs:=if inBook s.bs s.ss id=true then part s (spot s.bs s.ss id).r (spot s.bs s.ss id).s (spot s.bs s.ss id).p else .error 5
noncomputable def parts(s:TS):List Int→Rs
 | []=>.ok s
 | x::t=>(partId s x).bind fun s1=>parts s1 t
def restOf(o:O)(v:Vs):Int:=o.qty - v.gone - sumT v.ts
def tellGone(s:TS)(o:O)(v:Vs):TS:=if 0<v.gone then tell s 3 o.id v.gone o.price else s
def tellLeft(s:TS)(o:O)(v:Vs):TS:=if 0<restOf o v then tell (tellGone s o v) 1 o.id (restOf o v) o.price else tellGone s o v
def wakeS(s:TS)(ts:List T):Rs:=
 if ts=[] then .ok s else if prB (ts[ts.length - 1]!).price=true then .ok { s with last:=(ts[ts.length - 1]!).price,ws:=wak.left (ts[ts.length - 1]!).price s.ws,row:=s.row++(wak.woke (ts[ts.length - 1]!).price s.ws).map (⟨·,(ts[ts.length - 1]!).price⟩) } else .error 1
noncomputable def settle(s:TS)(o:O)(v:Vs):Rs:=
 (trades s v.ts).bind fun s1=>if backE o v.ts v.gone=0 then (freeS s1 o.who (backC o v.ts v.gone) (backS o v.ts v.gone)).bind fun s2=>(parts s2 v.ids).bind fun s3=>wakeS (tellLeft { s3 with bs:=v.bs,ss:=v.ss } o v) v.ts else .error (backE o v.ts v.gone)
noncomputable def come(s:TS)(o:O):Rs:=if vE s.mode s.bs s.ss o=0 then settle s o (vR s.mode s.bs s.ss o) else .error (vE s.mode s.bs s.ss o)
noncomputable def place(s:TS)(o:O):Rs:=
 if chk o=0 then (if has s o.id=true then .error 7 else (holdS s o.who (forC o) (forS o)).bind fun s1=>if o.stop=0 then come s1 o else sleep s1 o) else .error (chk o)
noncomputable def rise(s:TS)(o:O):Rs:=if vE s.mode s.bs s.ss o=0 then settle s o (vR s.mode s.bs s.ss o) else vanish s o
noncomputable def wakeUp:Nat→TS→Rs
 | 0,s=>.ok s
 | n+1,s=>match s.row with
  | []=>.ok s
  | x::t=>(rise (tell { s with row:=t } 4 x.o.id x.o.qty x.p) x.o).bind (wakeUp n)
noncomputable def shrink(s:TS)(id price qty:Int):Rs:=
 let x:=spot s.bs s.ss id
 if 1≤qty∧qty≤10000 then
  (if 0<x.r.qty+x.r.hid - qty then freeR s ⟨id,x.r.who,x.r.qty+x.r.hid - qty,0,0⟩ x.s price else .ok s).bind fun s1=>
   .ok (tell { s1 with bs:=swp.kB x.s s.bs x.i x.k (swp.lessR x.r qty),ss:=swp.kS x.s s.ss x.i x.k (swp.lessR x.r qty) } 1 id qty price)
 else .error 1
noncomputable def swap(s:TS)(id price qty:Int):Rs:=
 if swp.fE s.bs s.ss id price=0 then
  (if swp.keepB (spot s.bs s.ss id).p (spot s.bs s.ss id).r price qty=true then shrink s id price qty
   else (leave s id).bind fun s1=>place s1 ⟨(spot s.bs s.ss id).r.id,(spot s.bs s.ss id).r.who,(spot s.bs s.ss id).s,1,price,qty,min (spot s.bs s.ss id).r.shw qty,0⟩)
 else .error (swp.fE s.bs s.ss id price)
def payS(s:TS)(who n:Int):Rs:=if payE s.ps who n=0 then .ok { s with ps:=payP s.ps who n } else .error (payE s.ps who n)
def giveS(s:TS)(who n:Int):Rs:=if giveE s.ps who n=0 then .ok { s with ps:=giveP s.ps who n } else .error (giveE s.ps who n)
structure Cm where
 what:Int
 o:O
 who:Int
 n:Int
noncomputable def doC(s:TS)(c:Cm):Rs:=
 if c.what=1 then place s c.o else if c.what=2 then cancel s c.o.id else if c.what=3 then swap s c.o.id c.o.price c.o.qty else if c.what=4 then payS s c.who c.n else if c.what=5 then giveS s c.who c.n else .error 1
structure FS where
 mode:Int
 last:Int
 bs:List L
 ss:List L
 ws:List O
 ps:List Pz
def turnOf(f:FS):TS:=⟨f.mode,f.last,f.bs,f.ss,f.ws,f.ps,[],[]⟩
def floorOf(s:TS):FS:=⟨s.mode,s.last,s.bs,s.ss,s.ws,s.ps⟩
noncomputable def fdo(f:FS)(c:Cm):Rs:=(doC (turnOf f) c).bind fun s=>wakeUp (s.row.length+s.ws.length) s
structure Wf (s:TS):Prop where
 m0:0≤s.mode
 m3:s.mode≤3
 book:bookE s.bs s.ss=0
 ok:Ok s.ps
 ws:s.ws.length≤20
def Res(S:List TypeId)(b t:Nat)(w:World)(x:Rs)(e:Ending)(w' : World):Prop:=
 Tn S b w w'∧match x with
  | .ok s=>e=.returned .nilIface∧∃v,TM w' b t s v
  | .error k=>¬k=0∧e=.returned (.iface 91 (.int .i64 k))
theorem res_ok{S:List TypeId}{b t:Nat}{w w' : World}{x:Rs}{s:TS}{v:TV}(hx:x=.ok s)(h:Tn S b w w')(hm:TM w' b t s v):Res S b t w x (.returned .nilIface) w':=by
 subst hx;exact⟨h,rfl,v,hm⟩
theorem zAn{S:List TypeId}{b t:Nat}{w w' : World}{x:Rs}{k:Int}(hx:x=.error k)(hk:¬k=0)(h:Tn S b w w'):Res S b t w x (.returned (.iface 91 (.int .i64 k))) w':=by
 subst hx;exact⟨h,hk,rfl⟩
theorem Res.step{S S' : List TypeId}{b t:Nat}{w0 w w' : World}{x:Rs}{e:Ending}(h:Res S b t w x e w')(h0:Tn S' b w0 w)(hs:∀t∈S,t∈S'):Res S' b t w0 x e w':=⟨h0.trans (h.1.mono hs),h.2⟩
theorem Res.two{S:List TypeId}{b t:Nat}{w w' : World}{x:Rs}{e:Ending}(h:Res S b t w x e w'):(∃s v,x=.ok s∧e=.returned .nilIface∧TM w' b t s v)∨∃k,x=.error k∧¬k=0∧e=.returned (.iface 91 (.int .i64 k)):=by
 obtain⟨-,h⟩:=h
 cases x with
 | ok s=>obtain⟨h1,v,h2⟩:=h;exact .inl ⟨s,v,rfl,h1,h2⟩
 | error k=>exact .inr ⟨k,rfl,h.1,h.2⟩
theorem free_ok{s s1:TS}{who c d:Int}(h:Wf s)(e:freeS s who c d=.ok s1):Wf s1∧s1 = { s with ps:=freeP s.ps who c d }:=by
 unfold freeS at e
 split at e
 ·cases e;exact⟨⟨h.m0,h.m3,h.book,pur.free_ok h.ok _ _ _,h.ws⟩,rfl⟩
 ·cases e
theorem hold_ok{s s1:TS}{who c d:Int}(h:Wf s)(e:holdS s who c d=.ok s1):Wf s1∧s1 = { s with ps:=holdP s.ps who c d }:=by
 unfold holdS at e
 split at e
 ·cases e;exact⟨⟨h.m0,h.m3,h.book,pur.hold_ok h.ok _ _ _,h.ws⟩,rfl⟩
 ·cases e
theorem zDV{s s1:TS}{r:R}{a p:Int}(h:Wf s)(e:freeR s r a p=.ok s1):Wf s1∧leftE r a p=0∧s1 = { s with ps:=freeP s.ps r.who (leftC r a p) (leftS r a p) }:=by
 unfold freeR at e
 split at e
 ·rename_i h0;have:=free_ok h e;exact⟨this.1,h0,this.2⟩
 ·cases e
end flr
namespace flr
open Go.RowKit
open que (R rchk)
open sid (L DL)
open mee (T tV)
open ord (O oV chk errV errV_zero errV_of)
open pur (Pz Pu Ok)
open wak (OwnM St oL wpList_append_mid)
open mrg (leftE leftC leftS zGI)
theorem TM.evrow{w w' : World}{b t:Nat}{s:TS}{v:TV}(h:TM w b t s v)(hg:w.grownBy w' (Value.slice v.qe v.ne v.ce).ownBlock):w'.heap[t]?=some (.cells (rowT s v) 85 (0,0)):=by
 rcases h.evs.2 with ⟨h1,_⟩|⟨g,off,cap,cur,h1,h2,h3,_⟩
 ·rw[h1] at hg
  exact(hg.block t h.lt (by simp[Value.ownBlock])).trans h.blk
 ·rw[h1] at hg
  have hg' : w.grownBy w' (some g):=hg
  exact(Kp.grown (S:=[42]) hg' h3 (by simp)).typ _ _ _ h.blk (by decide)
theorem all_any(a b c d e:Int)(w:World)(h:rchk ⟨a,b,c,d,e⟩=0) :
  Calls Tryz.prog 112 #[.agg #[.int .i64 a,.int .i64 b,.int .i64 c,.int .i64 d,.int .i64 e]] w fun x w'=>x=.returned (.int .i64 (c+d))∧Below w.heap.size w w':=by
 have hs:wrap64 (c+d)=c+d:=by
  obtain⟨a,b,-⟩:=que.zAg h
  simp only[] at a b
  unfold wrap64;omega
 have hB:Below w.heap.size w (w.alloc (.cells #[.int .i64 a,.int .i64 b,.int .i64 c,.int .i64 d,.int .i64 e] 54)):=(bzR _ _).alloc (nzR _) _
 clear h
 go_enter Tryz.func112,Tryz.ntmps112
 go_wp2
 go_ret
 exact⟨congrArg Ending.returned (congrArg (Value.int IntKind.i64) hs),hB⟩
theorem zDW(b t:Nat)(s:TS)(v:TV)(what id qty price:Int)(w:World)(h:TM w b t s v)(hl:s.evs.length≤1000000) :
  Calls Tryz.prog 54 #[.pointer (some ⟨t,0,none⟩),.int .i64 what,.int .i64 id,.int .i64 qty,.int .i64 price] w fun e w'=>e=.returned (.tuple #[])∧(∃v',TM w' b t (tell s what id qty price) v')∧Tn tA b w w':=by
 obtain⟨i0,hi0,hz0,hz1,hz2⟩:=infoE'
 have HI:=hidF hi0
 have HN:=hidF h.ne
 obtain⟨W,hW⟩:∃W,W=w.alloc (.cells #[.int .i64 what,.int .i64 id,.int .i64 qty,.int .i64 price,.int .i64 0,.int .i64 0,.int .i64 0,.int .i64 0,.int .i64 0,.int .i64 0] 42):=⟨_,rfl⟩
 have hBW:Below w.heap.size w W:=by rw[hW];exact(bzR _ _).alloc (nzR _) _
 have HT:=hidF (h.below hBW)
 have HTN:=hidF (Tn.below (S:=tA) hBW h.base)
 have hrow:W.heap[w.heap.size]?=some (.cells #[.int .i64 what,.int .i64 id,.int .i64 qty,.int .i64 price,.int .i64 0,.int .i64 0,.int .i64 0,.int .i64 0,.int .i64 0,.int .i64 0] 42 (0,0)):=by rw[hW];exact heap_alloc_new w _
 have HR:=hidF hrow
 have HL:=hidF hl
 obtain⟨x0,x1,x2,x3,x4,x5,x6,x7,-⟩:=h.cells
 obtain⟨q1,n1,c1,q2,n2,c2,sp,vw,pp,qe,ne,ce,qk,nk,ck⟩:=v
 simp only[] at x0 x1 x2 x3 x4 x5 x6 x7 HN
 have HPX:Hid (∀w' v',OwnM w' b 42 10 v' (ne+1) (flatE s.evs++[.int .i64 what,.int .i64 id,.int .i64 qty,.int .i64 price,.int .i64 0,.int .i64 0,.int .i64 0,.int .i64 0,.int .i64 0,.int .i64 0])→W.grownBy w' (Value.slice qe ne ce).ownBlock→∃q n c,v'=.slice q n c∧(w'.cell? ⟨t,6,none⟩=some (.slice qe ne ce)∧w'.frozen? ⟨t,6,none⟩=false)∧(∃v',TM (w'.setCell ⟨t,6,none⟩ (.slice q n c)) b t (tell s what id qty price) v')∧Tn tA b w (w'.setCell ⟨t,6,none⟩ (.slice q n c))):=fun w' v' ho hg=>by
  have hr:=HT.out.evrow hg
  obtain⟨-,-,-,-,-,-,y6,-,yf⟩:=wak.row8 hr
  obtain⟨q,c,rfl⟩:=OwnM.form ho
  have e1:ne+1=(s.evs++[(⟨what,id,qty,price,zeroT⟩:Ev)]).length:=by rw[List.length_append,HN.out];rfl
  have e2:flatE s.evs++[.int .i64 what,.int .i64 id,.int .i64 qty,.int .i64 price,.int .i64 0,.int .i64 0,.int .i64 0,.int .i64 0,.int .i64 0,.int .i64 0]=flatE (s.evs++[(⟨what,id,qty,price,zeroT⟩:Ev)]):=by rw[zCn,zET];rfl
  rw[e2] at ho
  have ho2:OwnM w' b 42 10 (.slice q (ne+1) c) (s.evs++[(⟨what,id,qty,price,zeroT⟩:Ev)]).length (flatE (s.evs++[(⟨what,id,qty,price,zeroT⟩:Ev)])):=by rw[←e1];exact ho
  obtain⟨a1,a2⟩:=HT.out.told ho2 hg
  exact⟨q,ne+1,c,rfl,⟨y6,yf 6⟩,⟨_,a1⟩,HTN.out.trans a2⟩
 have HO:Hid (OwnM W b 42 10 (.slice qe ne ce) ne (flatE s.evs)):=by
  have:=HT.out.evs
  rwa [←HN.out] at this
 have HBS:Hid (b≤W.heap.size):=HT.out.base
 clear h hi0 hl hBW hrow
 go_enter Tryz.func54,Tryz.ntmps54
 go_wp2_with (at_builtin;(rw[←hW];refine wpList_append_mid _ rfl _ _ 28 rfl b 42 i0 zeroE 10 80 Tryz.underlying28 HI.out hz0 hz1 hz2 rfl (.slice qe ne ce) ne (flatE s.evs) rfl ?p0 ⟨w.heap.size,0,none⟩ 1 1 [.int .i64 what,.int .i64 id,.int .i64 qty,.int .i64 price,.int .i64 0,.int .i64 0,.int .i64 0,.int .i64 0,.int .i64 0,.int .i64 0] rfl rfl (World.news_of_block (cs:=#[.int .i64 what,.int .i64 id,.int .i64 qty,.int .i64 price,.int .i64 0,.int .i64 0,.int .i64 0,.int .i64 0,.int .i64 0,.int .i64 0]) HR.out) (by simp[Value.oneCell']) ?p1 ?p2 ?p3 ?_))
 case p0=>exact HO.out
 case p1=>have:=HN.out;have:=HL.out;unfold maxLen;omega
 case p2=>have:=HN.out;have:=HL.out;omega
 case p3=>exact HBS.out
 intro v' w' hO' hgr _
 rw[←hW] at hgr
 obtain⟨q,n,c,rfl,⟨y1,y2⟩,hPX⟩:=HPX.out w' v' hO' hgr
 have HPY:=hidF hPX
 clear hPX HPX hO' hgr
 go_wp2_with fail
 go_end0
 exact⟨rfl,HPY.out⟩
theorem zCU{w0 w w' : World}{b t:Nat}{s:TS}{v:TV}{who c d:Int}(h:TM w b t s v)(h0:Tn tA b w0 w)(hp:Pu 110 9 w' v.pp (pur.freeP s.ps who c d))(hg:w.grownBy w' (some v.pp)):Res tA b t w0 (freeS s who c d) (.returned (errV (pur.freeE s.ps who c d))) w':=by
 unfold freeS
 by_cases e:pur.freeE s.ps who c d=0
 ·rw[if_pos e,e];obtain⟨a1,a2⟩:=h.pay hp hg;exact⟨h0.trans a2,rfl,v,a1⟩
 ·rw[if_neg e,errV_of e];exact⟨h0.trans (h.pay hp hg).2,e,rfl⟩
theorem free_any(b t:Nat)(s:TS)(v:TV)(a1 a2 a3 a4 a5 side price:Int)(w:World)(h:TM w b t s v)(hw:Wf s) :
  Calls Tryz.prog 113 #[.pointer (some ⟨t,0,none⟩),.agg #[.int .i64 a1,.int .i64 a2,.int .i64 a3,.int .i64 a4,.int .i64 a5],.int .i64 side,.int .i64 price] w (Res tA b t w (freeR s ⟨a1,a2,a3,a4,a5⟩ side price)):=by
 obtain⟨W,hW⟩:∃W,W=w.alloc (.cells #[.int .i64 a1,.int .i64 a2,.int .i64 a3,.int .i64 a4,.int .i64 a5] 54):=⟨_,rfl⟩
 have hBW:Below w.heap.size w W:=by rw[hW];exact(bzR _ _).alloc (nzR _) _
 have hrow:W.heap[w.heap.size]?=some (.cells #[.int .i64 a1,.int .i64 a2,.int .i64 a3,.int .i64 a4,.int .i64 a5] 54 (0,0)):=by rw[hW];exact heap_alloc_new w _
 have HLF:=hidF (zGI a1 a2 a3 a4 a5 side price W)
 have HSO:Hid (∀U,Below W.heap.size W U→TM U b t s v∧Tn tA b w U∧U.heap[w.heap.size]?=some (.cells #[.int .i64 a1,.int .i64 a2,.int .i64 a3,.int .i64 a4,.int .i64 a5] 54 (0,0))):=fun U hU=>by
  have hwU:=hBW.trans (hU.mono hBW.size)
  exact⟨h.below hwU,Tn.below hwU h.base,(hU.block _ (gzE.1 hrow).1).trans hrow⟩
 have HOK:=hidF hw.ok
 obtain⟨G,hG⟩:∃G,G=w.heap.size:=⟨_,rfl⟩
 rw[←hG] at HSO
 obtain⟨q1,n1,c1,q2,n2,c2,sp,vw,pp,qe,ne,ce,qk,nk,ck⟩:=v
 generalize hC:leftC ⟨a1,a2,a3,a4,a5⟩ side price=C at *
 generalize hD:leftS ⟨a1,a2,a3,a4,a5⟩ side price=D at *
 by_cases hE:leftE ⟨a1,a2,a3,a4,a5⟩ side price=0
 ·have HX:Hid (freeR s ⟨a1,a2,a3,a4,a5⟩ side price=freeS s a2 C D):=by show _=_;unfold freeR;rw[if_pos hE,hC,hD]
  rw[HX.out]
  rw[hE,errV_zero] at HLF
  have HFR:Hid (∀U,Below W.heap.size W U→Calls Tryz.prog 101 #[.pointer (some ⟨pp,0,none⟩),.int .i64 a2,.int .i64 C,.int .i64 D] U fun e w'=>∃x,e=.returned x∧Hid (Res tA b t w (freeS s a2 C D) (.returned x) w')):=fun U hU=>by
   obtain⟨k1,k2,-⟩:=HSO.out U hU
   refine(pur.free_any pp s.ps a2 C D U k1.purs HOK.out).mono ?_
   rintro e w'⟨rfl,k3,k4⟩
   exact⟨_,rfl,zCU k1 k2 k3 k4⟩
  clear h hw hBW hrow hC hD hE HOK
  go_enter Tryz.func113,Tryz.ntmps113
  go_wp2_with fail
  rw[←hW]
  simp only[←hG]
  clear hW hG
  refine HLF.out.mono ?_
  rintro e w1⟨rfl,b1⟩
  have HB1:=hidF b1
  obtain⟨k1,-,k3⟩:=HSO.out w1 b1
  obtain⟨-,-,-,-,x4,-⟩:=k1.cells
  obtain⟨-,y1,-⟩:=sid.rowFive k3
  simp only[] at x4
  clear b1 k1 k3 HLF
  go_upto_region 4 with fail
  go_region_with (go_at_call 101;with_reducible refine(HFR.out _ ?_).mono ?_;(with_reducible repeat' (first|exact HB1.out|assumption|refine Below.drew ?_));rintro x w2 ⟨X,rfl,HR⟩)
  all_goals
   go_wp2_with fail
   go_ret
   exact HR.out
 ·have HX:Hid (freeR s ⟨a1,a2,a3,a4,a5⟩ side price=.error (leftE ⟨a1,a2,a3,a4,a5⟩ side price)):=by show _=_;unfold freeR;rw[if_neg hE]
  rw[HX.out]
  rw[errV_of hE] at HLF
  generalize leftE ⟨a1,a2,a3,a4,a5⟩ side price=K at *
  clear h hw hBW hrow hC hD HOK HX
  go_enter Tryz.func113,Tryz.ntmps113
  go_wp2_with fail
  rw[←hW]
  clear hW hG
  refine HLF.out.mono ?_
  rintro e w1⟨rfl,b1⟩
  have HB1:=hidF (HSO.out w1 b1).2.1
  clear b1 HLF
  go_wp2_with fail
  go_ret
  exact zAn rfl hE HB1.out
end flr
end Go.Proofs.YtifjhlgjgnnnpaaGreat
