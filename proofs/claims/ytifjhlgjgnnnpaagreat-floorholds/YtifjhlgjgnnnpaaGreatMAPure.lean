import Derived.Test.YtifjhlgjgnnnpaaGreatMrgBack
import Derived.Test.YtifjhlgjgnnnpaaGreatQueChk
import Derived.Test.YtifjhlgjgnnnpaaGreatSelDo
import Derived.Test.YtifjhlgjgnnnpaaGreatOwnGen
import Derived.Test.YtifjhlgjgnnnpaaGreatWakDrop
import Derived.Test.YtifjhlgjgnnnpaaGreatPurTrd
import Derived.Test.YtifjhlgjgnnnpaaGreatMrgSl
import Derived.Test.YtifjhlgjgnnnpaaGreatRows
import Derived.OpenShut
import Derived.Deep.Slices
import Derived.Carry
import Derived.Test.YtifjhlgjgnnnpaaGreatSidDrop
import Derived.Test.YtifjhlgjgnnnpaaGreatQueOwn
import Derived.Test.YtifjhlgjgnnnpaaGreatQueFil
import Derived.Test.YtifjhlgjgnnnpaaGreatBokPut2
import Derived.Test.YtifjhlgjgnnnpaaGreatBokFind
import Derived.Test.YtifjhlgjgnnnpaaGreatKinDo
import Derived.Test.YtifjhlgjgnnnpaaGreatMeeDo
import Derived.Test.YtifjhlgjgnnnpaaGreatSelMem
set_option maxHeartbeats 2000000
set_option maxRecDepth 100000
namespace Go.Proofs.YtifjhlgjgnnnpaaGreat
namespace mrg
open Go.RowKit mee
open spn (zAa bcell zAo zBC zBL zBb zAA zAO scheck1 scheck2 zAk)
open ord (O oV chk errV errV_zero errV_of check_any mB mE zAx bal prB)
open que (R rchk zCX)
def sidB(s:Int):Bool:=decide (1≤s) && decide (s≤2)
def zBi(r:R)(s p:Int):Int:=if rchk r=0 then (if sidB s && prB p then 0 else 1) else rchk r
def zBF(r:R)(s p:Int):Int:=if zBi r s p=0 then putC s p (r.qty+r.hid) else 0
def zBG(r:R)(s p:Int):Int:=if zBi r s p=0 then putS s (r.qty+r.hid) else 0
theorem zQp(s p:Int):[(s,1,2),(p,1,10000)].any zAo = !(sidB s && prB p):=by
 rw[Bool.eq_iff_iff]
 simp[zAo,sidB,prB]
theorem zDv{r:R}(h:rchk r=0):1≤r.qty∧r.qty≤10000∧0≤r.hid∧r.hid≤10000:=by
 unfold rchk at h
 by_cases h1:que.zBN r=true
 ·simp[que.zBN,que.inB] at h1
  omega
 ·rw[if_neg h1] at h
  omega
theorem zFu(a b c d e s p:Int)(w:World) :
  Calls Tryz.prog 13 #[.agg #[.int .i64 a,.int .i64 b,.int .i64 c,.int .i64 d,.int .i64 e],.int .i64 s,.int .i64 p] w fun x w'=>x=.returned (.tuple #[.int .i64 (zBF ⟨a,b,c,d,e⟩ s p),.int .i64 (zBG ⟨a,b,c,d,e⟩ s p),errV (zBi ⟨a,b,c,d,e⟩ s p)])∧Below w.heap.size w w':=by
 have HCK:Hid (∀W,Calls Tryz.prog 36 #[.agg #[.int .i64 a,.int .i64 b,.int .i64 c,.int .i64 d,.int .i64 e]] W fun x w'=>x=.returned (errV (rchk ⟨a,b,c,d,e⟩))∧Below W.heap.size W w'):=fun W=>zCX a b c d e W
 by_cases h0:rchk ⟨a,b,c,d,e⟩=0
 rotate_left
 ·have e0:zBi ⟨a,b,c,d,e⟩ s p=rchk ⟨a,b,c,d,e⟩:=if_neg h0
  have e1:zBF ⟨a,b,c,d,e⟩ s p=0:=if_neg (by rw[e0];exact h0)
  have e2:zBG ⟨a,b,c,d,e⟩ s p=0:=if_neg (by rw[e0];exact h0)
  rw[e1,e2,e0,errV_of h0]
  rw[errV_of h0] at HCK
  clear e1 e2 e0
  generalize rchk ⟨a,b,c,d,e⟩=k at *
  go_enter Tryz.func13,Tryz.ntmps13
  go_wp2_with fail
  refine(HCK.out _).mono ?_
  rintro e w1⟨rfl,hb⟩
  have hW:Below w.heap.size w w1:=((bzR _ _).alloc (nzR _) _).trans (hb.mono (by simp))
  go_wp2_with fail
  go_ret3
  exact⟨rfl,hW⟩
 have hs:=zDv h0
 have HSM:Hid (wrap64 (c+d)=c+d):=by
  have h1:1≤c∧c≤10000∧0≤d∧d≤10000:=hs
  show _=_
  unfold wrap64
  omega
 have HR:=hidM (zQp s p)
 have e0:zBi ⟨a,b,c,d,e⟩ s p=(if sidB s && prB p then 0 else 1):=if_pos h0
 rw[h0,errV_zero] at HCK
 unfold zBF zBG
 rw[e0]
 clear e0 h0 hs
 generalize (sidB s && prB p)=r at *
 cases r
 ·show Calls _ _ _ _ fun x w'=>x=.returned (.tuple #[.int .i64 0,.int .i64 0,.iface 91 (.int .i64 1)])∧Below w.heap.size w w'
  go_enter Tryz.func13,Tryz.ntmps13
  go_wp2_with fail
  refine(HCK.out _).mono ?_
  rintro x w1⟨rfl,hb⟩
  have hW:Below w.heap.size w w1:=((bzR _ _).alloc (nzR _) _).trans (hb.mono (by simp))
  clear hb
  go_wp2_with fail
  refine(zAO s _).mono ?_
  rintro x w2⟨rfl,hb2⟩
  have hW2:=hW.trans (hb2.mono hW.size)
  clear hb2
  go_wp2_with fail
  refine(zAA p _).mono ?_
  rintro x w3⟨rfl,hb3⟩
  have hW3:=hW2.trans (hb3.mono hW2.size)
  clear hb3
  go_wp2_with fail
  refine(scheck2 true _ _ _ _ _ _ _ _ rfl HR.out).mono ?_
  rintro x w4⟨rfl,hb4⟩
  have hW4:=hW3.trans (hb4.mono hW3.size)
  clear hb4
  simp only[show spn.errV (zAk true)=.iface 91 (.int .i64 1) from rfl]
  go_wp2_with fail
  go_ret3
  exact⟨rfl,hW4⟩
 ·show Calls _ _ _ _ fun x w'=>x=.returned (.tuple #[.int .i64 (putC s p (c+d)),.int .i64 (putS s (c+d)),.nilIface])∧Below w.heap.size w w'
  go_enter Tryz.func13,Tryz.ntmps13
  go_wp2_with fail
  refine(HCK.out _).mono ?_
  rintro x w1⟨rfl,hb⟩
  have hW:Below w.heap.size w w1:=((bzR _ _).alloc (nzR _) _).trans (hb.mono (by simp))
  have d2:w1.cell? ⟨w.heap.size,2,none⟩=some (.int .i64 c):=zAa hb (by simp)
  have d3:w1.cell? ⟨w.heap.size,3,none⟩=some (.int .i64 d):=zAa hb (by simp)
  clear hb
  go_wp2_with fail
  refine(zAO s _).mono ?_
  rintro x w2⟨rfl,hb2⟩
  have hW2:=hW.trans (hb2.mono hW.size)
  have c2:=zAa hb2 d2
  have c3:=zAa hb2 d3
  clear hb2 d2 d3
  go_wp2_with fail
  refine(zAA p _).mono ?_
  rintro x w3⟨rfl,hb3⟩
  have hW3:=hW2.trans (hb3.mono hW2.size)
  have d2:=zAa hb3 c2
  have d3:=zAa hb3 c3
  clear hb3 c2 c3
  go_wp2_with fail
  refine(scheck2 false _ _ _ _ _ _ _ _ rfl HR.out).mono ?_
  rintro x w4⟨rfl,hb4⟩
  have hW4:=hW3.trans (hb4.mono hW3.size)
  have c2:=zAa hb4 d2
  have c3:=zAa hb4 d3
  clear hb4 d2 d3
  simp only[show spn.errV (zAk false)=.nilIface from rfl]
  have x1:=HSM.out
  go_wp2_with fail
  refine(zGt _ _ _ _).mono ?_
  rintro x w5⟨rfl,rfl⟩
  go_wp2_with fail
  go_ret3
  exact⟨rfl,hW4⟩
end mrg
namespace flr
open Go.RowKit
open que (R)
open sid (L DL)
open mee (T tV OwnT)
open ord (O oV)
open pur (Pz Pu Ok)
open wak (OwnM St oL)
theorem hidF{P:Prop}(h:P):Hid P:=h
structure Ev where
 what:Int
 id:Int
 qty:Int
 price:Int
 tr:T
deriving Inhabited
def zeroT:T:=⟨0,0,0,0,0,0⟩
def evL(e:Ev):List Value:=[.int .i64 e.what,.int .i64 e.id,.int .i64 e.qty,.int .i64 e.price]++tV e.tr
def zAY(l:List Ev):List Value:=l.flatMap evL
theorem zDD(a b:List Ev):zAY (a++b)=zAY a++zAY b:=by unfold zAY;rw[List.flatMap_append]
theorem zGv(e:Ev):zAY [e]=evL e:=by simp[zAY]
structure Sl where
 o:O
 p:Int
instance:Inhabited Sl:=⟨⟨⟨0,0,0,0,0,0,0,0⟩,0⟩⟩
def slL(x:Sl):List Value:=oL x.o++[.int .i64 x.p]
def flatK(l:List Sl):List Value:=l.flatMap slL
theorem zGw(a b:List Sl):flatK (a++b)=flatK a++flatK b:=by unfold flatK;rw[List.flatMap_append]
theorem zLx(e:Sl):flatK [e]=slL e:=by simp[flatK]
theorem zEO(e:Sl)(t:List Sl):flatK (e::t)=slL e++flatK t:=by simp[flatK]
structure TS where
 mode:Int
 last:Int
 bs:List L
 ss:List L
 ws:List O
 ps:List Pz
 evs:List Ev
 row:List Sl
def tA:List TypeId:=[85,110,42]
def tB:List TypeId:=[85,110,42,107,32,115]
theorem tA_tB:∀t∈tA,t∈tB:=by decide
structure Kp (S:List TypeId) (w w' : World):Prop where
 os:w'.os=w.os
 tape:w'.tape=w.tape
 output:w'.output=w.output
 size:w.heap.size≤w'.heap.size
 typ:∀ (k:Nat) (cur:Array Value) (t:TypeId),w.heap[k]?=some (Obj.cells cur t (0,0))→t ∉ S→w'.heap[k]?=some (Obj.cells cur t (0,0))
theorem Kp.refl(S:List TypeId)(w:World):Kp S w w:=⟨rfl,rfl,rfl,nzR _,fun _ _ _ h _=>h⟩
theorem Kp.trans{S:List TypeId}{a b c:World}(h:Kp S a b)(k:Kp S b c):Kp S a c:=
 ⟨k.os.trans h.os,k.tape.trans h.tape,k.output.trans h.output,jM h.size k.size,fun i cur t hi ht=>k.typ i cur t (h.typ i cur t hi ht) ht⟩
theorem Kp.mono{S S' : List TypeId}{a b:World}(h:Kp S a b)(hs:∀t∈S,t∈S'):Kp S' a b:=
 ⟨h.os,h.tape,h.output,h.size,fun i cur t hi ht=>h.typ i cur t hi (fun x=>ht (hs t x))⟩
theorem Kp.below{S:List TypeId}{w w' : World}(h:Below w.heap.size w w'):Kp S w w':=
 ⟨h.os,h.tape,h.output,h.size,fun k _ _ hk _=>(h.block k (gzE.1 hk).1).trans hk⟩
theorem Kp.grown{S:List TypeId}{w w' : World}{P:Nat}{cur:Array Value}{t:TypeId}{f:Nat × Nat}(h:w.grownBy w' (some P))(hP:w.heap[P]?=some (.cells cur t f))(ht:t∈S):Kp S w w':=
 ⟨h.os,h.tape,h.output,h.size,fun k c t' hk ht'=>(h.block k (gzE.1 hk).1 (fun e=>by
  cases e
  rw[hP] at hk
  simp only[Option.some.injEq,Obj.cells.injEq] at hk
  exact ht' (hk.2.1 ▸ ht))).trans hk⟩
theorem Kp.own{S:List TypeId}{w w' : World}(hk:Kp S w w'){base:Nat}{e:TypeId}{sz:Nat}{v:Value}{n:Nat}{xs:List Value}(h:OwnM w base e sz v n xs)(he:e ∉ S):OwnM w' base e sz v n xs:=by
 refine⟨h.1,?_⟩
 rcases h.2 with hn|⟨g,off,cap,cur,rfl,hb,hgg,rest⟩
 ·exact .inl hn
 ·exact .inr ⟨g,off,cap,cur,rfl,hb,hk.typ g cur e hgg he,rest⟩
theorem Kp.ownQ{S:List TypeId}{w w' : World}(hk:Kp S w w'){base:Nat}{e:TypeId}{sz:Nat}{v:Value}{n:Nat}{xs:List Value}(h:que.OwnM w base e sz v n xs)(he:e ∉ S):que.OwnM w' base e sz v n xs:=by
 refine⟨h.1,?_⟩
 rcases h.2 with hn|⟨g,off,cap,cur,rfl,hb,hgg,rest⟩
 ·exact .inl hn
 ·exact .inr ⟨g,off,cap,cur,rfl,hb,hk.typ g cur e hgg he,rest⟩
theorem Kp.dl{S:List TypeId}{w w' : World}(hk:Kp S w w'){base:Nat}{v:Value}{ls:List L}(h:DL w base v ls)(h1:52 ∉ S)(h2:54 ∉ S):DL w' base v ls:=by
 obtain⟨ps,e,hD⟩:=h
 exact⟨ps,e,⟨hk.ownQ hD.own h1,fun p hp=>hk.ownQ (hD.each p hp) h2,hD.apart,hD.far⟩⟩
theorem Kp.pu{S:List TypeId}{w w' : World}(hk:Kp S w w'){P:Nat}{ps:List Pz}(h:Pu 110 9 w P ps)(h1:110 ∉ S):Pu 110 9 w' P ps:=⟨h.1,hk.typ _ _ _ h.2 h1⟩
theorem Kp.st{S:List TypeId}{w w' : World}(hk:Kp S w w'){b p:Nat}{v:Value}{os:List O}(h:St w b p v os)(h1:107 ∉ S)(h2:32 ∉ S):St w' b p v os:=
 ⟨hk.typ _ _ _ h.blk h1,h.le,hk.own h.own h2⟩
structure Tn (S:List TypeId) (b:Nat) (w w' : World):Prop where
 kp:Kp S w w'
 low:∀k,k<b→w'.heap[k]?=w.heap[k]?
theorem Tn.refl(S:List TypeId)(b:Nat)(w:World):Tn S b w w:=⟨Kp.refl S w,fun _ _=>rfl⟩
theorem Tn.trans{S:List TypeId}{b:Nat}{x y z:World}(h:Tn S b x y)(k:Tn S b y z):Tn S b x z:=⟨h.kp.trans k.kp,fun i hi=>(k.low i hi).trans (h.low i hi)⟩
theorem Tn.mono{S S' : List TypeId}{b:Nat}{x y:World}(h:Tn S b x y)(hs:∀t∈S,t∈S'):Tn S' b x y:=⟨h.kp.mono hs,h.low⟩
theorem Tn.below{S:List TypeId}{b:Nat}{w w' : World}(h:Below w.heap.size w w')(hb:b≤w.heap.size):Tn S b w w':=⟨Kp.below h,fun k hk=>h.block k (by omega)⟩
theorem Tn.grown{S:List TypeId}{b:Nat}{w w' : World}{P:Nat}{cur:Array Value}{t:TypeId}{f:Nat × Nat}(h:w.grownBy w' (some P))(hP:w.heap[P]?=some (.cells cur t f))(ht:t∈S)(hb:b≤P):Tn S b w w':=
 ⟨Kp.grown h hP ht,fun k hk=>h.block k (by have:=(gzE.1 hP).1;omega) (fun e=>by cases e;omega)⟩
theorem Tn.bel{S:List TypeId}{b:Nat}{w w' : World}(h:Tn S b w w'):Below b w w':=⟨h.kp.os,h.kp.tape,h.kp.output,h.kp.size,h.low⟩
structure TV where
 q1:Option Addr
 n1:Nat
 c1:Nat
 q2:Option Addr
 n2:Nat
 c2:Nat
 sp:Nat
 vw:Value
 pp:Nat
 qe:Option Addr
 ne:Nat
 ce:Nat
 qk:Option Addr
 nk:Nat
 ck:Nat
def rowT(s:TS)(v:TV):Array Value:=#[.int .i64 s.mode,.slice v.q1 v.n1 v.c1,.slice v.q2 v.n2 v.c2,.pointer (some ⟨v.sp,0,none⟩),.pointer (some ⟨v.pp,0,none⟩),.int .i64 s.last,.slice v.qe v.ne v.ce,.slice v.qk v.nk v.ck]
structure TM (w:World) (b t:Nat) (s:TS) (v:TV):Prop where
 blk:w.heap[t]?=some (.cells (rowT s v) 85 (0,0))
 le:b≤t
 buys:DL w 0 (.slice v.q1 v.n1 v.c1) s.bs
 sells:DL w 0 (.slice v.q2 v.n2 v.c2) s.ss
 stops:St w b v.sp v.vw s.ws
 purs:Pu 110 9 w v.pp s.ps
 ple:b≤v.pp
 evs:OwnM w b 42 10 (.slice v.qe v.ne v.ce) s.evs.length (zAY s.evs)
 row:OwnM w b 115 9 (.slice v.qk v.nk v.ck) s.row.length (flatK s.row)
section
variable {w w' : World}{b t:Nat}{s:TS}{v:TV}
theorem TM.lt(h:TM w b t s v):t<w.heap.size:=(gzE.1 h.blk).1
theorem TM.base(h:TM w b t s v):b≤w.heap.size:=by have:=h.lt;have:=h.le;omega
theorem TM.below(h:TM w b t s v)(hB:Below w.heap.size w w'):TM w' b t s v:=
 have hk:Kp [] w w':=Kp.below hB
 ⟨hk.typ _ _ _ h.blk (by simp),h.le,hk.dl h.buys (by simp) (by simp),hk.dl h.sells (by simp) (by simp),hk.st h.stops (by simp) (by simp),hk.pu h.purs (by simp),h.ple,hk.own h.evs (by simp),hk.own h.row (by simp)⟩
theorem TM.cells(h:TM w b t s v):w.cell? ⟨t,0,none⟩=some (.int .i64 s.mode)∧w.cell? ⟨t,1,none⟩=some (.slice v.q1 v.n1 v.c1)∧w.cell? ⟨t,2,none⟩=some (.slice v.q2 v.n2 v.c2)∧w.cell? ⟨t,3,none⟩=some (.pointer (some ⟨v.sp,0,none⟩))∧w.cell? ⟨t,4,none⟩=some (.pointer (some ⟨v.pp,0,none⟩))∧w.cell? ⟨t,5,none⟩=some (.int .i64 s.last)∧w.cell? ⟨t,6,none⟩=some (.slice v.qe v.ne v.ce)∧w.cell? ⟨t,7,none⟩=some (.slice v.qk v.nk v.ck)∧∀j,w.frozen? ⟨t,j,none⟩=false:=
 wak.row8 h.blk
theorem TM.ne(h:TM w b t s v):v.ne=s.evs.length:=by obtain⟨q,c,e⟩:=OwnM.form h.evs;simp only[Value.slice.injEq] at e;exact e.2.1
theorem TM.nk(h:TM w b t s v):v.nk=s.row.length:=by obtain⟨q,c,e⟩:=OwnM.form h.row;simp only[Value.slice.injEq] at e;exact e.2.1
theorem TM.pay(h:TM w b t s v){ps:List Pz}(hp:Pu 110 9 w' v.pp ps)(hg:w.grownBy w' (some v.pp)):TM w' b t { s with ps:=ps } v∧Tn tA b w w':=by
 have hk:Kp [110] w w':=Kp.grown hg h.purs.2 (by simp)
 exact⟨⟨hk.typ _ _ _ h.blk (by decide),h.le,hk.dl h.buys (by decide) (by decide),hk.dl h.sells (by decide) (by decide),hk.st h.stops (by decide) (by decide),hp,h.ple,hk.own h.evs (by decide),hk.own h.row (by decide)⟩,Tn.grown hg h.purs.2 (by decide) h.ple⟩
theorem TM.book(h:TM w b t s v){q1 q2:Option Addr}{n1 n2 c1 c2:Nat}{bs ss:List L}(h1:DL w 0 (.slice q1 n1 c1) bs)(h2:DL w 0 (.slice q2 n2 c2) ss) :
  TM ((w.setCell ⟨t,1,none⟩ (.slice q1 n1 c1)).setCell ⟨t,2,none⟩ (.slice q2 n2 c2)) b t { s with bs:=bs,ss:=ss } { v with q1:=q1,n1:=n1,c1:=c1,q2:=q2,n2:=n2,c2:=c2 }∧Tn tA b w ((w.setCell ⟨t,1,none⟩ (.slice q1 n1 c1)).setCell ⟨t,2,none⟩ (.slice q2 n2 c2)):=by
 have hg:w.grownBy ((w.setCell ⟨t,1,none⟩ (.slice q1 n1 c1)).setCell ⟨t,2,none⟩ (.slice q2 n2 c2)) (some t):=wak.gr_trans (wak.gr_setCell _ _ _ _) (wak.gr_setCell _ _ _ _)
 have hk:Kp [85] w _:=Kp.grown hg h.blk (by simp)
 refine⟨⟨?_,h.le,hk.dl h1 (by decide) (by decide),hk.dl h2 (by decide) (by decide),hk.st h.stops (by decide) (by decide),hk.pu h.purs (by decide),h.ple,hk.own h.evs (by decide),hk.own h.row (by decide)⟩,Tn.grown hg h.blk (by decide) h.le⟩
 have x1:=jB w t 1 _ _ (.slice q1 n1 c1) h.blk
 exact jB _ t 2 _ _ (.slice q2 n2 c2) x1
theorem TM.lastP(h:TM w b t s v)(p:Int):TM (w.setCell ⟨t,5,none⟩ (.int .i64 p)) b t { s with last:=p } v∧Tn tA b w (w.setCell ⟨t,5,none⟩ (.int .i64 p)):=by
 have hg:=wak.gr_setCell w t 5 (.int .i64 p)
 have hk:Kp [85] w _:=Kp.grown hg h.blk (by simp)
 exact⟨⟨jB w t 5 _ _ _ h.blk,h.le,hk.dl h.buys (by decide) (by decide),hk.dl h.sells (by decide) (by decide),hk.st h.stops (by decide) (by decide),hk.pu h.purs (by decide),h.ple,hk.own h.evs (by decide),hk.own h.row (by decide)⟩,Tn.grown hg h.blk (by decide) h.le⟩
theorem TM.told(h:TM w b t s v){q:Option Addr}{n c:Nat}{evs:List Ev}(ho:OwnM w' b 42 10 (.slice q n c) evs.length (zAY evs))(hg:w.grownBy w' (Value.slice v.qe v.ne v.ce).ownBlock) :
  TM (w'.setCell ⟨t,6,none⟩ (.slice q n c)) b t { s with evs:=evs } { v with qe:=q,ne:=n,ce:=c }∧Tn tA b w (w'.setCell ⟨t,6,none⟩ (.slice q n c)):=by
 have hk:Kp [42] w w'∧∀k,k<b→w'.heap[k]?=w.heap[k]?:=by
  rcases h.evs.2 with ⟨h1,_⟩|⟨g,off,cap,cur,h1,h2,h3,_⟩
  ·rw[h1] at hg
   have hB:Below w.heap.size w w':=⟨hg.os,hg.tape,hg.output,hg.size,fun k hk=>hg.block k hk (by simp[Value.ownBlock])⟩
   exact⟨Kp.below hB,fun k hk=>hB.block k (by have:=h.base;omega)⟩
  ·rw[h1] at hg
   have hg' : w.grownBy w' (some g):=hg
   exact⟨Kp.grown hg' h3 (by simp),fun k hk=>hg'.block k (by have:=h.base;omega) (fun e=>by cases e;omega)⟩
 have hb:=hk.1.typ _ _ _ h.blk (by decide)
 have hg2:=wak.gr_setCell w' t 6 (.slice q n c)
 have hk2:Kp [85] w' _:=Kp.grown hg2 hb (by simp)
 have hk3:Kp [85,42] w (w'.setCell ⟨t,6,none⟩ (.slice q n c)):=(hk.1.mono (by simp)).trans (hk2.mono (by simp))
 refine⟨⟨jB w' t 6 _ _ _ hb,h.le,hk3.dl h.buys (by decide) (by decide),hk3.dl h.sells (by decide) (by decide),hk3.st h.stops (by decide) (by decide),hk3.pu h.purs (by decide),h.ple,hk2.own ho (by decide),hk3.own h.row (by decide)⟩,hk3.mono (by decide),fun k hk'=>?_⟩
 rw[hg2.block k (by have:=h.base;have:=hk.1.size;omega) (fun e=>by cases e;have:=h.le;omega)]
 exact hk.2 k hk'
end
def zOp:Value:=.agg #[.int .i64 0,.int .i64 0,.int .i64 0,.int .i64 0,.int .i64 0,.int .i64 0,.int .i64 0,.int .i64 0,.int .i64 0,.int .i64 0]
theorem infoE:(Tryz.prog.info? 42).map (fun i=>(i.zero,i.size,i.bytes))=some (some zOp,10,80):=by kernel_rfl
theorem infoE' : ∃i,Tryz.prog.info? 42=some i∧i.zero=some zOp∧i.size=10∧i.bytes=80:=by
 have h:=infoE
 cases hq:Tryz.prog.info? 42 with
 | none=>rw[hq] at h;simp at h
 | some i=>
  rw[hq] at h
  simp only[Option.map_some,Option.some.injEq,Prod.mk.injEq] at h
  exact⟨i,rfl,h.1,h.2.1,h.2.2⟩
def zQq:Value:=.agg #[.int .i64 0,.int .i64 0,.int .i64 0,.int .i64 0,.int .i64 0,.int .i64 0,.int .i64 0,.int .i64 0,.int .i64 0]
theorem infoK:(Tryz.prog.info? 115).map (fun i=>(i.zero,i.size,i.bytes))=some (some zQq,9,72):=by kernel_rfl
theorem infoK' : ∃i,Tryz.prog.info? 115=some i∧i.zero=some zQq∧i.size=9∧i.bytes=72:=by
 have h:=infoK
 cases hq:Tryz.prog.info? 115 with
 | none=>rw[hq] at h;simp at h
 | some i=>
  rw[hq] at h
  simp only[Option.map_some,Option.some.injEq,Prod.mk.injEq] at h
  exact⟨i,rfl,h.1,h.2.1,h.2.2⟩
end flr
namespace flr
open Go.RowKit
open que (R)
open sid (L DL)
open mee (T tV zAu metR zAr sumT)
open ord (O oV chk prB)
open pur (Pz Pu Ok zBE zBv zBD zBu zAI zAH payE payP zCC zCk)
open bok (zAd zAh)
open kin (kdoE kdoB kdoS kdoG setB setS setG)
open slf (V Fine sE lfV gnV repB repS)
open mrg (zBi zBF zBG forC forS zBh zBW zBX)
structure Sp where
 s:Int
 p:Int
 r:R
 i:Nat
 k:Nat
instance:Inhabited Sp:=⟨⟨0,0,⟨0,0,0,0,0⟩,0,0⟩⟩
def AtS(bs ss:List L)(id:Int)(x:Sp):Prop:=swp.At bs ss id x.s x.p x.r x.i x.k
open Classical in
noncomputable def spot(bs ss:List L)(id:Int):Sp:=if h:∃x:Sp,AtS bs ss id x then h.choose else default
theorem spot_at{bs ss:List L}{id:Int}(h0:zAd bs ss=0)(hin:zAh bs ss id=true):AtS bs ss id (spot bs ss id):=by
 obtain⟨s,p,r,i,k,h⟩:=swp.at_of h0 hin
 have hx:∃x:Sp,AtS bs ss id x:=⟨⟨s,p,r,i,k⟩,h⟩
 unfold spot
 rw[dif_pos hx]
 exact hx.choose_spec
structure Vs where
 bs:List L
 ss:List L
 ts:List T
 gone:Int
 ids:List Int
open Classical in
noncomputable def theV(m:Int)(o:O)(ls:List L)(k:Int):V:=if h:∃v,Fine m o ls k v then h.choose else ⟨[],[],0,false,[]⟩
theorem zHr{m:Int}{o:O}{ls:List L}{k:Int}{v:V}(h:Fine m o ls k v):theV m o ls k=v:=by
 have hx:∃v,Fine m o ls k v:=⟨v,h⟩
 unfold theV
 rw[dif_pos hx]
 exact slf.zBn h _ hx.choose_spec
noncomputable def vE(m:Int)(bs ss:List L)(o:O):Int:=
 if m=0 then kdoE bs ss o else if zAu bs ss o=0 then sE bs ss o (theV m o (zAr bs ss o) o.qty) else zAu bs ss o
noncomputable def vR(m:Int)(bs ss:List L)(o:O):Vs:=
 if m=0 then ⟨kdoB bs ss o,kdoS bs ss o,(metR bs ss o).2.1,kdoG bs ss o,[]⟩
 else
  let v:=theV m o (zAr bs ss o) o.qty
  ⟨setB (repB o bs v.ls) o (lfV v),setS (repS o ss v.ls) o (lfV v),v.ts,gnV v+setG o (lfV v),v.ids⟩
abbrev Rs:=Except Int TS
def tell(s:TS)(what id qty price:Int):TS:={ s with evs:=s.evs++[⟨what,id,qty,price,zeroT⟩] }
def zCq(s:TS)(who c d:Int):Rs:=if zBE s.ps who c d=0 then .ok { s with ps:=zBv s.ps who c d } else .error (zBE s.ps who c d)
def zDw(s:TS)(who c d:Int):Rs:=if zBD s.ps who c d=0 then .ok { s with ps:=zBu s.ps who c d } else .error (zBD s.ps who c d)
def zCU(s:TS)(r:R)(side price:Int):Rs:=if zBi r side price=0 then zCq s r.who (zBF r side price) (zBG r side price) else .error (zBi r side price)
def part(s:TS)(r:R)(side price:Int):Rs:=(zCU s r side price).bind fun s1=>.ok (tell s1 3 r.id (r.qty+r.hid) price)
noncomputable def leave(s:TS)(id:Int):Rs:=
 if zAh s.bs s.ss id=true then part { s with bs:=swp.cB (spot s.bs s.ss id).s s.bs (spot s.bs s.ss id).i (spot s.bs s.ss id).k,ss:=swp.cS (spot s.bs s.ss id).s s.ss (spot s.bs s.ss id).i (spot s.bs s.ss id).k } (spot s.bs s.ss id).r (spot s.bs s.ss id).s (spot s.bs s.ss id).p else .error 5
def vanish(s:TS)(o:O):Rs:=if chk o=0 then (zCq s o.who (forC o) (forS o)).bind fun s1=>.ok (tell s1 3 o.id o.qty o.price) else .error (chk o)
def has(s:TS)(id:Int):Bool:=zAh s.bs s.ss id || decide (0≤wak.idx id s.ws)
def sleep(s:TS)(o:O):Rs:=if wak.putE s.ws o=0 then .ok (tell { s with ws:=s.ws++[o] } 5 o.id o.qty o.stop) else .error (wak.putE s.ws o)
def drop1(ws:List O)(id:Int):List O:=ws.take (wak.idx id ws).toNat++ws.drop ((wak.idx id ws).toNat+1)
noncomputable def cancel(s:TS)(id:Int):Rs:=
 if zAh s.bs s.ss id=true then leave s id else if wak.idx id s.ws<0 then .error 5 else vanish { s with ws:=drop1 s.ws id } s.ws[(wak.idx id s.ws).toNat]!
def trade1(s:TS)(x:T):Rs:=if zAI s.ps x.frm x.into x.price x.qty=0 then .ok { s with ps:=zAH s.ps x.frm x.into x.price x.qty,evs:=s.evs++[⟨2,0,0,0,x⟩] } else .error (zAI s.ps x.frm x.into x.price x.qty)
def trades(s:TS):List T→Rs
 | []=>.ok s
 | x::t=>(trade1 s x).bind fun s1=>trades s1 t
noncomputable def zEP(s:TS)(id:Int):Rs:=if zAh s.bs s.ss id=true then part s (spot s.bs s.ss id).r (spot s.bs s.ss id).s (spot s.bs s.ss id).p else .error 5
noncomputable def parts(s:TS):List Int→Rs
 | []=>.ok s
 | x::t=>(zEP s x).bind fun s1=>parts s1 t
def zIe(o:O)(v:Vs):Int:=o.qty - v.gone - sumT v.ts
def zAJ(s:TS)(o:O)(v:Vs):TS:=if 0<v.gone then tell s 3 o.id v.gone o.price else s
def tellLeft(s:TS)(o:O)(v:Vs):TS:=if 0<zIe o v then tell (zAJ s o v) 1 o.id (zIe o v) o.price else zAJ s o v
def zGx(s:TS)(ts:List T):Rs:=
 if ts=[] then .ok s else if prB (ts[ts.length - 1]!).price=true then .ok { s with last:=(ts[ts.length - 1]!).price,ws:=wak.left (ts[ts.length - 1]!).price s.ws,row:=s.row++(wak.woke (ts[ts.length - 1]!).price s.ws).map (⟨·,(ts[ts.length - 1]!).price⟩) } else .error 1
noncomputable def settle(s:TS)(o:O)(v:Vs):Rs:=
 (trades s v.ts).bind fun s1=>if zBh o v.ts v.gone=0 then (zCq s1 o.who (zBW o v.ts v.gone) (zBX o v.ts v.gone)).bind fun s2=>(parts s2 v.ids).bind fun s3=>zGx (tellLeft { s3 with bs:=v.bs,ss:=v.ss } o v) v.ts else .error (zBh o v.ts v.gone)
noncomputable def come(s:TS)(o:O):Rs:=if vE s.mode s.bs s.ss o=0 then settle s o (vR s.mode s.bs s.ss o) else .error (vE s.mode s.bs s.ss o)
noncomputable def place(s:TS)(o:O):Rs:=
 if chk o=0 then (if has s o.id=true then .error 7 else (zDw s o.who (forC o) (forS o)).bind fun s1=>if o.stop=0 then come s1 o else sleep s1 o) else .error (chk o)
noncomputable def rise(s:TS)(o:O):Rs:=if vE s.mode s.bs s.ss o=0 then settle s o (vR s.mode s.bs s.ss o) else vanish s o
noncomputable def zBI:Nat→TS→Rs
 | 0,s=>.ok s
 | n+1,s=>match s.row with
  | []=>.ok s
  | x::t=>(rise (tell { s with row:=t } 4 x.o.id x.o.qty x.p) x.o).bind (zBI n)
noncomputable def shrink(s:TS)(id price qty:Int):Rs:=
 let x:=spot s.bs s.ss id
 if 1≤qty∧qty≤10000 then
  (if 0<x.r.qty+x.r.hid - qty then zCU s ⟨id,x.r.who,x.r.qty+x.r.hid - qty,0,0⟩ x.s price else .ok s).bind fun s1=>
   .ok (tell { s1 with bs:=swp.kB x.s s.bs x.i x.k (swp.zAS x.r qty),ss:=swp.kS x.s s.ss x.i x.k (swp.zAS x.r qty) } 1 id qty price)
 else .error 1
noncomputable def swap(s:TS)(id price qty:Int):Rs:=
 if swp.fE s.bs s.ss id price=0 then
  (if swp.zDF (spot s.bs s.ss id).p (spot s.bs s.ss id).r price qty=true then shrink s id price qty
   else (leave s id).bind fun s1=>place s1 ⟨(spot s.bs s.ss id).r.id,(spot s.bs s.ss id).r.who,(spot s.bs s.ss id).s,1,price,qty,min (spot s.bs s.ss id).r.shw qty,0⟩)
 else .error (swp.fE s.bs s.ss id price)
def payS(s:TS)(who n:Int):Rs:=if payE s.ps who n=0 then .ok { s with ps:=payP s.ps who n } else .error (payE s.ps who n)
def zGy(s:TS)(who n:Int):Rs:=if zCC s.ps who n=0 then .ok { s with ps:=zCk s.ps who n } else .error (zCC s.ps who n)
structure Cm where
 what:Int
 o:O
 who:Int
 n:Int
noncomputable def doC(s:TS)(c:Cm):Rs:=
 if c.what=1 then place s c.o else if c.what=2 then cancel s c.o.id else if c.what=3 then swap s c.o.id c.o.price c.o.qty else if c.what=4 then payS s c.who c.n else if c.what=5 then zGy s c.who c.n else .error 1
structure FS where
 mode:Int
 last:Int
 bs:List L
 ss:List L
 ws:List O
 ps:List Pz
def zAq(f:FS):TS:=⟨f.mode,f.last,f.bs,f.ss,f.ws,f.ps,[],[]⟩
def zCm(s:TS):FS:=⟨s.mode,s.last,s.bs,s.ss,s.ws,s.ps⟩
noncomputable def fdo(f:FS)(c:Cm):Rs:=(doC (zAq f) c).bind fun s=>zBI (s.row.length+s.ws.length) s
structure Wf (s:TS):Prop where
 m0:0≤s.mode
 m3:s.mode≤3
 book:zAd s.bs s.ss=0
 ok:Ok s.ps
 ws:s.ws.length≤20
def Res(S:List TypeId)(b t:Nat)(w:World)(x:Rs)(e:Ending)(w' : World):Prop:=
 Tn S b w w'∧match x with
  | .ok s=>e=.returned .nilIface∧∃v,TM w' b t s v
  | .error k=>¬k=0∧e=.returned (.iface 91 (.int .i64 k))
theorem zPg{S:List TypeId}{b t:Nat}{w w' : World}{x:Rs}{s:TS}{v:TV}(hx:x=.ok s)(h:Tn S b w w')(hm:TM w' b t s v):Res S b t w x (.returned .nilIface) w':=by
 subst hx;exact⟨h,rfl,v,hm⟩
theorem zAD{S:List TypeId}{b t:Nat}{w w' : World}{x:Rs}{k:Int}(hx:x=.error k)(hk:¬k=0)(h:Tn S b w w'):Res S b t w x (.returned (.iface 91 (.int .i64 k))) w':=by
 subst hx;exact⟨h,hk,rfl⟩
theorem Res.step{S S' : List TypeId}{b t:Nat}{w0 w w' : World}{x:Rs}{e:Ending}(h:Res S b t w x e w')(h0:Tn S' b w0 w)(hs:∀t∈S,t∈S'):Res S' b t w0 x e w':=⟨h0.trans (h.1.mono hs),h.2⟩
theorem Res.two{S:List TypeId}{b t:Nat}{w w' : World}{x:Rs}{e:Ending}(h:Res S b t w x e w'):(∃s v,x=.ok s∧e=.returned .nilIface∧TM w' b t s v)∨∃k,x=.error k∧¬k=0∧e=.returned (.iface 91 (.int .i64 k)):=by
 obtain⟨-,h⟩:=h
 cases x with
 | ok s=>obtain⟨h1,v,h2⟩:=h;exact .inl ⟨s,v,rfl,h1,h2⟩
 | error k=>exact .inr ⟨k,rfl,h.1,h.2⟩
theorem free_ok{s s1:TS}{who c d:Int}(h:Wf s)(e:zCq s who c d=.ok s1):Wf s1∧s1 = { s with ps:=zBv s.ps who c d }:=by
 unfold zCq at e
 split at e
 ·cases e;exact⟨⟨h.m0,h.m3,h.book,pur.free_ok h.ok _ _ _,h.ws⟩,rfl⟩
 ·cases e
theorem hold_ok{s s1:TS}{who c d:Int}(h:Wf s)(e:zDw s who c d=.ok s1):Wf s1∧s1 = { s with ps:=zBu s.ps who c d }:=by
 unfold zDw at e
 split at e
 ·cases e;exact⟨⟨h.m0,h.m3,h.book,pur.hold_ok h.ok _ _ _,h.ws⟩,rfl⟩
 ·cases e
theorem zFv{s s1:TS}{r:R}{a p:Int}(h:Wf s)(e:zCU s r a p=.ok s1):Wf s1∧zBi r a p=0∧s1 = { s with ps:=zBv s.ps r.who (zBF r a p) (zBG r a p) }:=by
 unfold zCU at e
 split at e
 ·rename_i h0;have:=free_ok h e;exact⟨this.1,h0,this.2⟩
 ·cases e
end flr
namespace flr
open Go.ChangeShapes Go.WideShapes Go.ChangeAt Go.RowKit Go.Deep
open ord (O)
def cmL(c:Cm):List Value:=[.int .i64 c.what,.int .i64 c.o.id,.int .i64 c.o.who,.int .i64 c.o.side,.int .i64 c.o.kind,.int .i64 c.o.price,.int .i64 c.o.qty,.int .i64 c.o.shw,.int .i64 c.o.stop,.int .i64 c.who,.int .i64 c.n]
instance:Inhabited Cm:=⟨⟨0,⟨0,0,0,0,0,0,0,0⟩,0,0⟩⟩
def CLies(w:World)(b o:Nat)(zs:List Cm):Prop:=∀j,j<zs.length→(∀i v,(cmL zs[j]!)[i]?=some v→w.cell? ⟨b,o+j*11+i,none⟩=some v)∧(Lit.int .i64 (zs[j]!).o.id).wf=true
def CL(w:World)(v:Value)(zs:List Cm):Prop:=
 (v=.slice none 0 0∧zs=[])∨∃b o c,v=.slice (some ⟨b,o,none⟩) zs.length c∧zs.length≤c∧c≤9223372036854775807∧b<w.heap.size∧CLies w b o zs
theorem CL.below{w w' : World}{v:Value}{zs:List Cm}(h:CL w v zs)(hB:Below w.heap.size w w'):CL w' v zs:=by
 rcases h with h|⟨b,o,c,h1,h2,h3,h4,h5⟩
 ·exact .inl h
 ·exact .inr ⟨b,o,c,h1,h2,h3,jC h4 hB.size,fun j hj=>⟨fun i v hv=>(hB.cell (p:=⟨b,o+j*11+i,none⟩) h4).trans ((h5 j hj).1 i v hv),(h5 j hj).2⟩⟩
theorem CL.form{w:World}{v:Value}{zs:List Cm}(h:CL w v zs):∃q c,v=.slice q zs.length c∧zs.length≤9223372036854775807:=by
 rcases h with ⟨h1,h2⟩|⟨b,o,c,h1,h2,h3,h4,h5⟩
 ·subst h2;exact⟨none,0,h1,by simp⟩
 ·exact⟨some ⟨b,o,none⟩,c,h1,by omega⟩
theorem CL.at{w:World}{q:Option Addr}{n c:Nat}{zs:List Cm}(h:CL w (.slice q n c) zs){k:Nat}(hk:k<zs.length):∃g off,q=some ⟨g,off,none⟩∧g<w.heap.size∧(∀i v,(cmL zs[k]!)[i]?=some v→w.cell? ⟨g,off+k*11+i,none⟩=some v)∧(Lit.int .i64 (zs[k]!).o.id).wf=true:=by
 rcases h with ⟨h1,h2⟩|⟨b,o,c,h1,h2,h3,h4,h5⟩
 ·subst h2;simp at hk
 ·cases h1
  exact⟨b,o,rfl,h4,(h5 k hk).1,(h5 k hk).2⟩
theorem list4{α:Type}{l:List α}(h:l.length=4):∃c0 c1 c2 c3,l=[c0,c1,c2,c3]:=by
 match l,h with
 | [c0,c1,c2,c3],_=>exact⟨c0,c1,c2,c3,rfl⟩
theorem list8{α:Type}{l:List α}(h:l.length=8):∃c0 c1 c2 c3 c4 c5 c6 c7,l=[c0,c1,c2,c3,c4,c5,c6,c7]:=by
 match l,h with
 | [c0,c1,c2,c3,c4,c5,c6,c7],_=>exact⟨c0,c1,c2,c3,c4,c5,c6,c7,rfl⟩
theorem list11{α:Type}{l:List α}(h:l.length=11):∃c0 c1 c2 c3 c4 c5 c6 c7 c8 c9 c10,l=[c0,c1,c2,c3,c4,c5,c6,c7,c8,c9,c10]:=by
 match l,h with
 | [c0,c1,c2,c3,c4,c5,c6,c7,c8,c9,c10],_=>exact⟨c0,c1,c2,c3,c4,c5,c6,c7,c8,c9,c10,rfl⟩
theorem getC{α:Type}[Inhabited α](l:List α)(j:Nat)(h:j<l.length):l[j]! = l[j]:=by simp[h]
theorem cellsC:Tryz.prog.cellsOf 34=11:=by kernel_rfl
theorem cellsO:Tryz.prog.cellsOf 32=8:=by kernel_rfl
theorem zCD:Tryz.prog.cellsOf 3=1:=by kernel_rfl
section
variable {H:Type}{enc:TypeId × Value→H}{w:World}{base:Nat}{sp:Nat→Bool}{held:Bool}
theorem zDG{n:Nat}{cs:List Value}{x:DataW H × List MemPlace}(h:DataW.trod enc Tryz.prog w base sp held n 32 cs=some x)(hl:cs.length=8) :
  ∃r:O,cs=wak.oL r∧(Lit.int .i64 r.id).wf=true:=by
 obtain⟨c0,c1,c2,c3,c4,c5,c6,c7,rfl⟩:=list8 hl
 obtain⟨xs,n,_,hx,_,hlen,hF⟩:=DataW.trod_struct Tryz.underlying32 h
 obtain⟨y0,y1,y2,y3,y4,y5,y6,y7,rfl⟩:=list8 hlen
 have h0:DataW.trod enc Tryz.prog w base sp held n 3 (([c0,c1,c2,c3,c4,c5,c6,c7].drop 0).take (Tryz.prog.cellsOf 3))=some y0:=hF 0 _ rfl
 rw[zCD] at h0
 obtain⟨a0,e0,_,f0⟩:=DataW.trod_int Tryz.underlying3 h0
 have h1:DataW.trod enc Tryz.prog w base sp held n 3 (([c0,c1,c2,c3,c4,c5,c6,c7].drop 1).take (Tryz.prog.cellsOf 3))=some y1:=hF 1 _ rfl
 rw[zCD] at h1
 obtain⟨a1,e1,_,f1⟩:=DataW.trod_int Tryz.underlying3 h1
 have h2:DataW.trod enc Tryz.prog w base sp held n 3 (([c0,c1,c2,c3,c4,c5,c6,c7].drop 2).take (Tryz.prog.cellsOf 3))=some y2:=hF 2 _ rfl
 rw[zCD] at h2
 obtain⟨a2,e2,_,f2⟩:=DataW.trod_int Tryz.underlying3 h2
 have h3:DataW.trod enc Tryz.prog w base sp held n 3 (([c0,c1,c2,c3,c4,c5,c6,c7].drop 3).take (Tryz.prog.cellsOf 3))=some y3:=hF 3 _ rfl
 rw[zCD] at h3
 obtain⟨a3,e3,_,f3⟩:=DataW.trod_int Tryz.underlying3 h3
 have h4:DataW.trod enc Tryz.prog w base sp held n 3 (([c0,c1,c2,c3,c4,c5,c6,c7].drop 4).take (Tryz.prog.cellsOf 3))=some y4:=hF 4 _ rfl
 rw[zCD] at h4
 obtain⟨a4,e4,_,f4⟩:=DataW.trod_int Tryz.underlying3 h4
 have h5:DataW.trod enc Tryz.prog w base sp held n 3 (([c0,c1,c2,c3,c4,c5,c6,c7].drop 5).take (Tryz.prog.cellsOf 3))=some y5:=hF 5 _ rfl
 rw[zCD] at h5
 obtain⟨a5,e5,_,f5⟩:=DataW.trod_int Tryz.underlying3 h5
 have h6:DataW.trod enc Tryz.prog w base sp held n 3 (([c0,c1,c2,c3,c4,c5,c6,c7].drop 6).take (Tryz.prog.cellsOf 3))=some y6:=hF 6 _ rfl
 rw[zCD] at h6
 obtain⟨a6,e6,_,f6⟩:=DataW.trod_int Tryz.underlying3 h6
 have h7:DataW.trod enc Tryz.prog w base sp held n 3 (([c0,c1,c2,c3,c4,c5,c6,c7].drop 7).take (Tryz.prog.cellsOf 3))=some y7:=hF 7 _ rfl
 rw[zCD] at h7
 obtain⟨a7,e7,_,f7⟩:=DataW.trod_int Tryz.underlying3 h7
 simp at e0 e1 e2 e3 e4 e5 e6 e7
 subst e0 e1 e2 e3 e4 e5 e6 e7
 exact⟨⟨a0,a1,a2,a3,a4,a5,a6,a7⟩,rfl,f0⟩
theorem zDh{n:Nat}{cs:List Value}{x:DataW H × List MemPlace}(h:DataW.trod enc Tryz.prog w base sp held n 34 cs=some x)(hl:cs.length=11) :
  ∃r:Cm,cs=cmL r∧(Lit.int .i64 r.o.id).wf=true:=by
 obtain⟨c0,c1,c2,c3,c4,c5,c6,c7,c8,c9,c10,rfl⟩:=list11 hl
 obtain⟨xs,n,_,hx,_,hlen,hF⟩:=DataW.trod_struct Tryz.underlying34 h
 obtain⟨y0,y1,y2,y3,rfl⟩:=list4 hlen
 have h0:DataW.trod enc Tryz.prog w base sp held n 3 (([c0,c1,c2,c3,c4,c5,c6,c7,c8,c9,c10].drop 0).take (Tryz.prog.cellsOf 3))=some y0:=hF 0 _ rfl
 rw[zCD] at h0
 obtain⟨a0,e0,_,f0⟩:=DataW.trod_int Tryz.underlying3 h0
 have h2:DataW.trod enc Tryz.prog w base sp held n 3 (([c0,c1,c2,c3,c4,c5,c6,c7,c8,c9,c10].drop 9).take (Tryz.prog.cellsOf 3))=some y2:=hF 2 _ rfl
 rw[zCD] at h2
 obtain⟨a2,e2,_,f2⟩:=DataW.trod_int Tryz.underlying3 h2
 have h3:DataW.trod enc Tryz.prog w base sp held n 3 (([c0,c1,c2,c3,c4,c5,c6,c7,c8,c9,c10].drop 10).take (Tryz.prog.cellsOf 3))=some y3:=hF 3 _ rfl
 rw[zCD] at h3
 obtain⟨a3,e3,_,f3⟩:=DataW.trod_int Tryz.underlying3 h3
 have h1:DataW.trod enc Tryz.prog w base sp held n 32 (([c0,c1,c2,c3,c4,c5,c6,c7,c8,c9,c10].drop 1).take (Tryz.prog.cellsOf 32))=some y1:=hF 1 _ rfl
 rw[cellsO] at h1
 obtain⟨r,e1,f1⟩:=zDG h1 rfl
 obtain⟨b0,b1,b2,b3,b4,b5,b6,b7⟩:=r
 simp at e0 e2 e3
 have e1' : [c1,c2,c3,c4,c5,c6,c7,c8]=[.int .i64 b0,.int .i64 b1,.int .i64 b2,.int .i64 b3,.int .i64 b4,.int .i64 b5,.int .i64 b6,.int .i64 b7]:=e1
 simp only[List.cons.injEq,and_true] at e1'
 obtain⟨rfl,rfl,rfl,rfl,rfl,rfl,rfl,rfl⟩:=e1'
 subst e0 e2 e3
 exact⟨⟨a0,⟨b0,b1,b2,b3,b4,b5,b6,b7⟩,a2,a3⟩,rfl,f1⟩
theorem zDx{r:Reach}{b0:Nat}{t e:TypeId}{v:Value}(ht:Tryz.prog.underlying t=some (.slice e))(hv:Value.okWide Tryz.prog w r b0 t v) :
  v=.slice none 0 0∨∃b o len cap,v=.slice (some ⟨b,o,none⟩) len cap∧len≤cap∧cap≤9223372036854775807∧b<w.heap.size:=by
 obtain⟨a,len,cap,rfl⟩:=okWide_slice ht hv
 simp only[Value.okWide,ht,Cell.okWide] at hv
 cases a with
 | none=>
  left
  cases len with
  | zero=>
   cases cap with
   | zero=>rfl
   | succ c=>simp[Cell.ok,ht] at hv
  | succ l=>simp[Cell.ok,ht] at hv
 | some a=>
  right
  simp only[Cell.ok,ht] at hv
  obtain⟨h1,h2,_,h4,row,cells,h5,_⟩:=hv
  obtain⟨b,o,s⟩:=a
  simp only at h4 h5
  subst h4
  refine⟨b,o,len,cap,rfl,h1,?_,?_⟩
  ·have:IntKind.i64.max=9223372036854775807:=rfl
   rw[this] at h2
   omega
  ·unfold World.shape? at h5
   split at h5
   ·rename_i hh
    exact(gzE.1 hh).1
   ·cases h5
theorem zFw{r:Reach}{b0:Nat}{v:Value}{d:DataW H}{ps:List MemPlace}(hv:Value.okWide Tryz.prog w r b0 22 v)(h:DataW.Trod enc Tryz.prog w base sp held 22 v d ps) :
  ∃zs:List Cm,CL w v zs:=by
 rcases zDx Tryz.underlying22 hv with rfl|⟨b,o,len,cap,rfl,hl,hm,hb⟩
 ·exact⟨[],.inl ⟨rfl,rfl⟩⟩
 obtain⟨fuel,hf⟩:=h
 rcases open_slice Tryz.underlying22 hf with ⟨hcs,_⟩|⟨a,len',cap',m,n,D,Pl,hcs,_,hl',_,hmm,_,hx⟩
 ·simp[Value.cells] at hcs
 simp[Value.cells] at hcs
 obtain⟨rfl,rfl,rfl⟩:=hcs
 have hlm:len≤m:=by rw[hmm];split <;>omega
 obtain⟨f,hf2⟩:=choose_lt (α:=Cm) (n:=len) (p:=fun i r=>(∀k v,(cmL r)[k]?=some v→w.cell? ⟨b,o+i*11+k,none⟩=some v)∧(Lit.int .i64 r.o.id).wf=true) (fun i hi=>by
  obtain⟨cs',h1,h2⟩:=hx i (by omega)
  rw[cellsC] at h1
  obtain⟨_,hlen,hcell⟩:=World.cells?_some h1
  obtain⟨r,rfl,hwf⟩:=zDh h2 hlen
  refine⟨r,fun k v hk=>?_,hwf⟩
  have hk6:k<11:=(List.getElem?_eq_some_iff.1 hk).1
  have:=hcell k hk6
  rw[hk,Addr.add_lit,Addr.add_lit] at this
  exact this)
 refine⟨(List.range len).map f,.inr ⟨b,o,cap,by simp,by simpa using hl,hm,hb,?_⟩⟩
 intro j hj
 have hj' : j<len:=by simpa using hj
 rw[getC _ _ hj]
 simp only[List.getElem_map,List.getElem_range]
 exact hf2 j hj'
end
theorem zQr:laidOutB Tryz.prog=true:=by kernel_rfl
end flr
namespace sid
open Go.RowKit spn que Go.Maps
open tickP (zAm zAz)
end sid
namespace bok
open Go.RowKit spn que sid
open tickP (zAm zAz)
theorem zOq{bs ss:List L}{s p:Int}{r:R}(h:putE bs ss s p r=0):zAd bs ss=0∧addE s (if s=1 then bs else ss) p r=0∧zAd (put1 bs s p r) (put2 ss s p r)=0:=by
 unfold putE at h
 by_cases h0:zAd bs ss=0
 ·rw[if_pos h0] at h
  by_cases h1:addE s (if s=1 then bs else ss) p r=0
  ·rw[if_pos h1] at h;exact⟨h0,h1,h⟩
  ·rw[if_neg h1] at h;exact absurd h h1
 ·rw[if_neg h0] at h;exact absurd h h0
structure Held (S:Int) (X bs:List L) (p:Int) (r:R) (i k:Nat):Prop where
 hi:i<X.length
 hk:k<X[i].rests.length
 price:X[i].price=p
 rest:X[i].rests[k]=r
 fe:zAE S X r.id=0
 fp:zBk S X r.id=((i:Int),(k:Int))
 drop:zBq X i k=bs
end bok
namespace kin
open Go.RowKit spn que sid bok mee
open ord (O oV mB mE chk zAx)
open tickP (zAm zAz zBt betR)
theorem zQs{bs ss:List L}{o:O}{k:Int}(h:setE bs ss o k=0)(hst:zCc o k=true):zBU o k=0∧putE bs ss o.side o.price (zCy o k)=0:=by
 unfold setE at h
 rw[if_pos hst] at h
 by_cases hr:zBU o k=0
 ·rw[if_pos hr] at h;exact⟨hr,h⟩
 ·rw[if_neg hr] at h;exact absurd h hr
structure KF (bs ss:List L) (o:O):Prop where
 come:zAu bs ss o=0
 ok:chk o=0
 book:zAd (kdoB bs ss o) (kdoS bs ss o)=0
 sum:sumT (metR bs ss o).2.1+(metR bs ss o).2.2=o.qty
 left0:0≤(metR bs ss o).2.2
 sum0:0≤sumT (metR bs ss o).2.1
 q1:1≤o.qty
 q2:o.qty≤10000
 len:(metR bs ss o).2.1.length≤400
 each:∀x∈(metR bs ss o).2.1,1≤x.qty∧x.qty≤o.qty
 whole:o.kind=4→(metR bs ss o).2.2=0
 post:o.kind=5→(metR bs ss o).2.2=o.qty
end kin
namespace mrg
open Go.RowKit mee que sid bok kin
open ord (O oV chk mB prB errV errV_zero)
theorem own_tl{w:World}{base:Nat}{v:Value}{ts:List T}(h:OwnT w base v ts):TL w v ts:=by
 rcases h.2 with ⟨e,hn⟩|⟨g,off,cap,cur,e,hb,hg,hnc,hcm,hcs,htake⟩
 ·exact .inl ⟨e,List.eq_nil_of_length_eq_zero hn⟩
 ·subst e
  refine .inr ⟨g,off,cap,rfl,hnc,hcm,(gzE.1 hg).1,fun j hj i u hu=>?_⟩
  obtain⟨g',off',e,-,z0,z1,z2,z3,z4,z5⟩:=OwnT.at h hj
  cases e
  have hi:i<6:=(List.getElem?_eq_some_iff.1 hu).1
  have:i=0∨i=1∨i=2∨i=3∨i=4∨i=5:=by omega
  rcases this with rfl|rfl|rfl|rfl|rfl|rfl <;>cases hu <;>assumption
def zCE:List T→Int
 | []=>0
 | x::t=>x.price*x.qty+zCE t
theorem zLy(ts:List T)(k:Nat)(hk:k<ts.length):sumT (ts.take (k+1))=sumT (ts.take k)+ts[k]!.qty:=by
 rw[List.take_succ_eq_append_getElem hk,zCS,getE _ _ hk];simp only[sumT];omega
theorem zOr{x y:Int}(h1:1≤x)(h2:x≤10000)(h3:1≤y):1≤x*y∧x*y≤10000*y:=by
 have a1:1*y≤x*y:=Int.mul_le_mul_of_nonneg_right h1 (by omega)
 have a2:x*y≤10000*y:=Int.mul_le_mul_of_nonneg_right h2 (by omega)
 omega
theorem zEQ(ts:List T)(h:∀x∈ts,1≤x.price∧x.price≤10000∧1≤x.qty):0≤sumT ts∧0≤zCE ts∧zCE ts≤10000*sumT ts:=by
 induction ts with
 | nil=>simp[sumT,zCE]
 | cons x t ih=>
  have h1:=h x (by simp)
  have h2:=ih (fun y hy=>h y (by simp[hy]))
  have h3:=zOr h1.1 h1.2.1 h1.2.2
  simp only[sumT,zCE]
  omega
theorem zOs{o:O}{x:Int}(hs:o.side=1)(hm:mB o x=true)(hx:x≤10000):x≤resv o:=by
 unfold mB at hm
 unfold resv
 rw[if_pos hs] at hm
 by_cases hk:o.kind=2
 ·rw[if_pos hk];exact hx
 ·rw[if_neg hk]
  simp[hk] at hm
  exact hm
theorem bk_buy{o:O}(hs:o.side=1)(hr:0≤resv o∧resv o≤10000):∀ (ts:List T) (c:Int),(∀x∈ts,1≤x.price∧x.price≤resv o∧1≤x.qty)→0≤c→c+10000*sumT ts≤1000000000000→bkC o c ts=c+resv o*sumT ts - zCE ts:=by
 intro ts
 induction ts with
 | nil=>intro c _ _ _;simp[bkC,sumT,zCE]
 | cons x t ih=>
  intro c h h0 hb
  have hx:=h x (by simp)
  have ht:∀y∈t,1≤y.price∧y.price≤resv o∧1≤y.qty:=fun y hy=>h y (by simp[hy])
  have hb2:=zEQ t (fun y hy=>⟨(ht y hy).1,by have:=(ht y hy).2.1;omega,(ht y hy).2.2⟩)
  simp only[sumT] at hb
  have a1:0*x.qty≤(resv o - x.price)*x.qty:=Int.mul_le_mul_of_nonneg_right (by omega) (by omega)
  have a2:(resv o - x.price)*x.qty≤10000*x.qty:=Int.mul_le_mul_of_nonneg_right (by omega) (by omega)
  have e1:wrap64 (c+(resv o - x.price)*x.qty)=c+(resv o - x.price)*x.qty:=by
   generalize (resv o - x.price)*x.qty=z at *
   unfold wrap64
   omega
  unfold bkC
  rw[if_pos hs,e1,ih _ ht (by omega) (by omega)]
  simp only[sumT,zCE]
  rw[Int.mul_add,Int.sub_mul]
  omega
theorem zQt{o:O}(hs:¬o.side=1):∀ (ts:List T) (c:Int),bkC o c ts=c:=by
 intro ts
 induction ts with
 | nil=>intro c;rfl
 | cons x t ih=>intro c;unfold bkC;rw[if_neg hs];exact ih c
def cA(o:O)(bc:Int)(ts:List T)(k:Nat):Int:=if o.side=1 then bc+zCE (ts.take k) else bc
def dA(o:O)(bs:Int)(ts:List T)(k:Nat):Int:=if o.side=1 then bs else bs+sumT (ts.take k)
structure MF (o:O) (ts:List T) (lf g fc fs bc bst:Int):Prop where
 ok:chk o=0
 fore:forC o=fc∧forS o=fs
 back:zBh o ts g=0∧zBW o ts g=bc∧zBX o ts g=bst
 each:∀x∈ts,1≤x.price∧x.price≤10000∧1≤x.qty∧x.qty≤10000
 cB:∀k,0≤cA o bc ts k∧cA o bc ts k≤1000000000
 dB:∀k,0≤dA o bst ts k∧dA o bst ts k≤1000000000
 out:zCc o lf=false→cA o bc ts ts.length=fc∧dA o bst ts ts.length=fs
 stay:zCc o lf=true→cA o bc ts ts.length+putC o.side o.price lf=fc∧dA o bst ts ts.length+putS o.side lf=fs∧0≤fc∧fc≤100000000∧0≤fs∧fs≤100000000
end mrg
end Go.Proofs.YtifjhlgjgnnnpaaGreat
