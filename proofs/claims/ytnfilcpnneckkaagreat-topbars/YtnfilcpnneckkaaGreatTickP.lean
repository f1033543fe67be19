import Derived.Shelf.SlicesQ.IndexFunc
import Derived.Shelf.SlSortCmp.InsertionK
import Derived.Shelf.SlicesG.Cmp
import Derived.Test.YtnfilcpnneckkaaGreatProg
import Derived.WalkKit
import Derived.ProofKit
import Derived.Outline
import Derived.WalkSpells
import Derived.WalkLawsBesides
import Derived.Below
import Derived.Handy
import Derived.Deep.RegionHeld3
import Derived.Deep.AppendLies
import Derived.Deep.DrawnRows
import Derived.Deep.CutRange
import Derived.Deep.DeepCutAuto
import Derived.Deep.MidRow
import Derived.BigQuiet
set_option maxHeartbeats 1000000
set_option maxRecDepth 100000
namespace Go.Proofs.YtnfilcpnneckkaaGreat
open Go.RowKit
abbrev Bw(w w':World):Prop:=Below w.heap.size w w'
theorem jA(w:World)(o:Obj):(w.alloc o).heap[w.heap.size]? = some o:=heap_alloc_new w o
theorem jB(w:World)(g i:Nat)(cs:Array Value)(t:TypeId)(v:Value)(h:w.heap[g]? = some (.cells cs t (0,0))):(w.setCell ⟨g,i,none⟩ v).heap[g]? = some (.cells (cs.setIfInBounds i v) t (0,0)):=heap_setCell_same w g i cs t v h
theorem jC{n m k:Nat}(h:n<m)(h2:m≤k):n<k:=Nat.lt_of_lt_of_le h h2
theorem jD{n m:Nat}(h:n≤m):n≤m.succ:=Nat.le_succ_of_le h
theorem jE{α:Type}{a b:List α}:(a++b).length=a.length+b.length:=List.length_append
theorem jF{α β:Type}{f:α→β}{a b:List α}:(a++b).map f=a.map f++b.map f:=List.map_append
theorem jG{α:Type}{a:α}{b:List α}:(a::b).length=b.length+1:=List.length_cons
theorem jH{α:Type}(a:List α):a++[]=a:=List.append_nil a
theorem jJ{α:Type}{i:Nat}{l:List α}:(l.take i).length=min i l.length:=List.length_take
theorem jK{α β:Type}{f:α→β}{a:α}{l:List α}:(a::l).map f=f a::l.map f:=List.map_cons
theorem jL(n:Nat):0≤n:=Nat.zero_le n
theorem jM{n m k:Nat}(h:n≤m)(h2:m≤k):n≤k:=Nat.le_trans h h2
theorem jN{P:Program}{fn:Func}{R:Ending→World→Prop}{a:Act}{w:World}{v:Value}(h:(results fn a.tmps).run P w=.ok v w)(h2:a.defers=[])(h3:R (.returned v) w):bodyPost P fn R .ret a w:=bodyPost_ret h h2 h3
theorem jP{α β:Type}{a:List α}(f:α→β):(a.map f).length=a.length:=List.length_map f
theorem jQ{α:Type}{i:Nat}{l:List α}:(l.drop i).length=l.length-i:=List.length_drop
theorem jR{α:Type}(i:Nat)(l:List α):l.take i++l.drop i=l:=List.take_append_drop i l
theorem jS{α:Type}(a b c:List α):a++b++c=a++(b++c):=List.append_assoc a b c
theorem jT{α:Type}{l:List α}{n:Nat}(h:n<l.length):l[n]∈l:=List.getElem_mem h
theorem jU{α:Type}(a:List α):[]++a=a:=List.nil_append a
theorem jV{α:Type}{a b:List α}{i:Nat}(h:a.length≤i):(a++b)[i]? = b[i-a.length]?:=List.getElem?_append_right h
theorem jW(n:Nat):¬n<n:=Nat.lt_irrefl n
theorem jX{n m:Nat}(h:n<m):n≤m:=Nat.le_of_lt h
theorem jY(a:Int):a≤a:=Int.le_refl a
theorem jZ(w:World)(g j:Nat)(cs:Array Value)(t:TypeId)(fr:Nat×Nat)(h:w.heap[g]? = some (.cells cs t fr)):w.cell? ⟨g,j,none⟩ = cs[j]?:=cell_of_row w g j cs t fr h
theorem gzE{α:Type}{xs:Array α}{i:Nat}{a:α}:xs[i]? = some a↔∃ h:i<xs.size,xs[i] = a:=Array.getElem?_eq_some_iff
theorem nzR(n:Nat):n≤n:=Nat.le_refl n
theorem bzR(B:Nat)(w:World):Below B w w:=Below.refl B w
end Go.Proofs.YtnfilcpnneckkaaGreat
namespace Go.Proofs
open Go.Shelf
def Tryz.lh8_ren:Go.Shelf.Ren:=⟨fun|8=>27|6=>52|n=>n,fun|22=>87|23=>62|25=>89|4=>4|3=>3|0=>0|n=>n,fun|n=>n⟩
theorem Tryz.lh8:Go.Proofs.SlLaysH0.n8 Tryz.prog Tryz.lh8_ren:={
 mixed:=by kernel_rfl
 f6:=⟨Tryz.f52.name,by decide,Tryz.func52.trans (congrArg some (by kernel_rfl))⟩
 f8:=⟨Tryz.f27.name,by decide,Tryz.func27.trans (congrArg some (by kernel_rfl))⟩
 t0:=Tryz.underlying0
 a0:=Tryz.isAgg0
 z0:=Tryz.sizeOf0
 v0:=Tryz.zeroValue0
 t3:=Tryz.underlying3
 a3:=Tryz.isAgg3
 z3:=Tryz.sizeOf3
 v3:=Tryz.zeroValue3
 t4:=Tryz.underlying4
 a4:=Tryz.isAgg4
 z4:=Tryz.sizeOf4
 v4:=Tryz.zeroValue4
 t22:=Tryz.underlying87
 a22:=Tryz.isAgg87
 z22:=Tryz.sizeOf87
 v22:=Tryz.zeroValue87
 t25:=Tryz.underlying89
 a25:=Tryz.isAgg89
 z25:=Tryz.sizeOf89
 v25:=Tryz.zeroValue89 }
def Tryz.lq6_ren:Go.Shelf.Ren:=⟨fun|6=>160|n=>n,fun|22=>52|23=>51|25=>236|3=>3|0=>0|4=>4|n=>n,fun|n=>n⟩
theorem Tryz.lq6:Go.Proofs.SlLaysH0.n6 Tryz.prog Tryz.lq6_ren:={
 mixed:=by kernel_rfl
 f6:=⟨Tryz.f160.name,by decide,Tryz.func160.trans (congrArg some (by kernel_rfl))⟩
 t0:=Tryz.underlying0
 a0:=Tryz.isAgg0
 z0:=Tryz.sizeOf0
 v0:=Tryz.zeroValue0
 t3:=Tryz.underlying3
 a3:=Tryz.isAgg3
 z3:=Tryz.sizeOf3
 v3:=Tryz.zeroValue3
 t4:=Tryz.underlying4
 a4:=Tryz.isAgg4
 z4:=Tryz.sizeOf4
 v4:=Tryz.zeroValue4
 t22:=Tryz.underlying52
 a22:=Tryz.isAgg52
 z22:=Tryz.sizeOf52
 v22:=Tryz.zeroValue52
 t25:=Tryz.underlying236
 a25:=Tryz.isAgg236
 z25:=Tryz.sizeOf236
 v25:=Tryz.zeroValue236 }
def Tryz.lq6l_ren:Go.Shelf.Ren:=⟨fun|6=>147|n=>n,fun|22=>55|23=>54|25=>227|3=>3|0=>0|4=>4|n=>n,fun|n=>n⟩
theorem Tryz.lq6l:Go.Proofs.SlLaysH0.n6 Tryz.prog Tryz.lq6l_ren:={
 mixed:=by kernel_rfl
 f6:=⟨Tryz.f147.name,by decide,Tryz.func147.trans (congrArg some (by kernel_rfl))⟩
 t0:=Tryz.underlying0
 a0:=Tryz.isAgg0
 z0:=Tryz.sizeOf0
 v0:=Tryz.zeroValue0
 t3:=Tryz.underlying3
 a3:=Tryz.isAgg3
 z3:=Tryz.sizeOf3
 v3:=Tryz.zeroValue3
 t4:=Tryz.underlying4
 a4:=Tryz.isAgg4
 z4:=Tryz.sizeOf4
 v4:=Tryz.zeroValue4
 t22:=Tryz.underlying55
 a22:=Tryz.isAgg55
 z22:=Tryz.sizeOf55
 v22:=Tryz.zeroValue55
 t25:=Tryz.underlying227
 a25:=Tryz.isAgg227
 z25:=Tryz.sizeOf227
 v25:=Tryz.zeroValue227 }
def Tryz.lq6o_ren:Go.Shelf.Ren:=⟨fun|6=>133|n=>n,fun|22=>91|23=>34|25=>201|3=>3|0=>0|4=>4|n=>n,fun|n=>n⟩
theorem Tryz.lq6o:Go.Proofs.SlLaysH0.n6 Tryz.prog Tryz.lq6o_ren:={
 mixed:=by kernel_rfl
 f6:=⟨Tryz.f133.name,by decide,Tryz.func133.trans (congrArg some (by kernel_rfl))⟩
 t0:=Tryz.underlying0
 a0:=Tryz.isAgg0
 z0:=Tryz.sizeOf0
 v0:=Tryz.zeroValue0
 t3:=Tryz.underlying3
 a3:=Tryz.isAgg3
 z3:=Tryz.sizeOf3
 v3:=Tryz.zeroValue3
 t4:=Tryz.underlying4
 a4:=Tryz.isAgg4
 z4:=Tryz.sizeOf4
 v4:=Tryz.zeroValue4
 t22:=Tryz.underlying91
 a22:=Tryz.isAgg91
 z22:=Tryz.sizeOf91
 v22:=Tryz.zeroValue91
 t25:=Tryz.underlying201
 a25:=Tryz.isAgg201
 z25:=Tryz.sizeOf201
 v25:=Tryz.zeroValue201 }
def Tryz.lh8e_ren:Go.Shelf.Ren:=⟨fun|8=>38|6=>70|n=>n,fun|22=>29|23=>40|25=>109|4=>4|3=>3|0=>0|n=>n,fun|n=>n⟩
theorem Tryz.lh8e:Go.Proofs.SlLaysH0.n8 Tryz.prog Tryz.lh8e_ren:={
 mixed:=by kernel_rfl
 f6:=⟨Tryz.f70.name,by decide,Tryz.func70.trans (congrArg some (by kernel_rfl))⟩
 f8:=⟨Tryz.f38.name,by decide,Tryz.func38.trans (congrArg some (by kernel_rfl))⟩
 t0:=Tryz.underlying0
 a0:=Tryz.isAgg0
 z0:=Tryz.sizeOf0
 v0:=Tryz.zeroValue0
 t3:=Tryz.underlying3
 a3:=Tryz.isAgg3
 z3:=Tryz.sizeOf3
 v3:=Tryz.zeroValue3
 t4:=Tryz.underlying4
 a4:=Tryz.isAgg4
 z4:=Tryz.sizeOf4
 v4:=Tryz.zeroValue4
 t22:=Tryz.underlying29
 a22:=Tryz.isAgg29
 z22:=Tryz.sizeOf29
 v22:=Tryz.zeroValue29
 t25:=Tryz.underlying109
 a25:=Tryz.isAgg109
 z25:=Tryz.sizeOf109
 v25:=Tryz.zeroValue109 }
def Tryz.lh8t_ren:Go.Shelf.Ren:=⟨fun|8=>41|6=>73|n=>n,fun|22=>30|23=>38|25=>112|4=>4|3=>3|0=>0|n=>n,fun|n=>n⟩
theorem Tryz.lh8t:Go.Proofs.SlLaysH0.n8 Tryz.prog Tryz.lh8t_ren:={
 mixed:=by kernel_rfl
 f6:=⟨Tryz.f73.name,by decide,Tryz.func73.trans (congrArg some (by kernel_rfl))⟩
 f8:=⟨Tryz.f41.name,by decide,Tryz.func41.trans (congrArg some (by kernel_rfl))⟩
 t0:=Tryz.underlying0
 a0:=Tryz.isAgg0
 z0:=Tryz.sizeOf0
 v0:=Tryz.zeroValue0
 t3:=Tryz.underlying3
 a3:=Tryz.isAgg3
 z3:=Tryz.sizeOf3
 v3:=Tryz.zeroValue3
 t4:=Tryz.underlying4
 a4:=Tryz.isAgg4
 z4:=Tryz.sizeOf4
 v4:=Tryz.zeroValue4
 t22:=Tryz.underlying30
 a22:=Tryz.isAgg30
 z22:=Tryz.sizeOf30
 v22:=Tryz.zeroValue30
 t25:=Tryz.underlying112
 a25:=Tryz.isAgg112
 z25:=Tryz.sizeOf112
 v25:=Tryz.zeroValue112 }
def Tryz.lins_ren:Go.Shelf.Ren:=⟨fun|20=>179|n=>n,fun|24=>34|22=>91|3=>3|25=>247|4=>4|0=>0|n=>n,fun|n=>n⟩
theorem Tryz.lins:Go.Proofs.SlLaysF0.n20 Tryz.prog Tryz.lins_ren:={
 mixed:=by kernel_rfl
 f20:=⟨Tryz.f179.name,by decide,Tryz.func179.trans (congrArg some (by kernel_rfl))⟩
 t0:=Tryz.underlying0
 a0:=Tryz.isAgg0
 z0:=Tryz.sizeOf0
 v0:=Tryz.zeroValue0
 t3:=Tryz.underlying3
 a3:=Tryz.isAgg3
 z3:=Tryz.sizeOf3
 v3:=Tryz.zeroValue3
 t4:=Tryz.underlying4
 a4:=Tryz.isAgg4
 z4:=Tryz.sizeOf4
 v4:=Tryz.zeroValue4
 t22:=Tryz.underlying91
 a22:=Tryz.isAgg91
 z22:=Tryz.sizeOf91
 v22:=Tryz.zeroValue91
 t25:=Tryz.underlying247
 a25:=Tryz.isAgg247
 z25:=Tryz.sizeOf247
 v25:=Tryz.zeroValue247 }
def Tryz.lcmp_ren:Go.Shelf.Ren:=⟨fun|5=>172|7=>176|n=>n,fun|22=>3|3=>3|4=>4|n=>n,fun|n=>n⟩
theorem Tryz.lcmp:Go.Proofs.SlLaysC2.n5 Tryz.prog Tryz.lcmp_ren:={
 mixed:=by kernel_rfl
 f5:=⟨Tryz.f172.name,by decide,Tryz.func172.trans (congrArg some (by kernel_rfl))⟩
 f7:=⟨Tryz.f176.name,by decide,Tryz.func176.trans (congrArg some (by kernel_rfl))⟩
 t3:=Tryz.underlying3
 a3:=Tryz.isAgg3
 z3:=Tryz.sizeOf3
 v3:=Tryz.zeroValue3
 t4:=Tryz.underlying4
 a4:=Tryz.isAgg4
 z4:=Tryz.sizeOf4
 v4:=Tryz.zeroValue4
 t22:=Tryz.underlying3
 a22:=Tryz.isAgg3
 z22:=Tryz.sizeOf3
 v22:=Tryz.zeroValue3 }
end Go.Proofs
namespace Go.Proofs.YtnfilcpnneckkaaGreat.spn
open Go.RowKit
theorem zAa{V W:World}(h:Bw V W){a:Addr}{v:Value}(hc:V.cell? a=some v):W.cell? a=some v:=
 (h.cell (p:=a) (World.block_lt_of_cell? V a hc)).trans hc
def zAl(x:Int × Int × Int):Bool:=decide (x.1<x.2.1) || decide (x.2.2<x.1)
def zBc(x:Int × Int × Int):List Value:=[.int .i64 x.1,.int .i64 x.2.1,.int .i64 x.2.2]
theorem zAY(n lo hi:Int)(w:World) :
  Calls Tryz.prog 21 #[.int .i64 n,.int .i64 lo,.int .i64 hi] w fun e w'=>e=.returned (.agg #[.int .i64 n,.int .i64 lo,.int .i64 hi])∧Bw w w':=by
 go_enter Tryz.func21,Tryz.ntmps21
 go_wp2
 go_returns
 exact⟨rfl,(bzR _ _).alloc (nzR _) _⟩
theorem zDI(n:Int)(w:World) :
  Calls Tryz.prog 12 #[.int .i64 n] w fun e w'=>e=.returned (.agg #[.int .i64 n,.int .i64 0,.int .i64 3])∧Bw w w':=by
 go_enter Tryz.func12,Tryz.ntmps12
 go_wp2
 go_returns
 exact⟨rfl,((bzR _ _).alloc (nzR _) _).alloc (by simp) _⟩
theorem zGn(n:Int)(w:World) :
  Calls Tryz.prog 72 #[.int .i64 n] w fun e w'=>e=.returned (.agg #[.int .i64 n,.int .i64 1,.int .i64 9999])∧Bw w w':=by
 go_enter Tryz.func72,Tryz.ntmps72
 go_wp2
 go_returns
 exact⟨rfl,((bzR _ _).alloc (nzR _) _).alloc (by simp) _⟩
theorem zCl(n:Int)(w:World) :
  Calls Tryz.prog 106 #[.int .i64 n] w fun e w'=>e=.returned (.agg #[.int .i64 n,.int .i64 1,.int .i64 9])∧Bw w w':=by
 go_enter Tryz.func106,Tryz.ntmps106
 go_wp2
 go_returns
 exact⟨rfl,((bzR _ _).alloc (nzR _) _).alloc (by simp) _⟩
theorem zAK(n:Int)(w:World) :
  Calls Tryz.prog 75 #[.int .i64 n] w fun e w'=>e=.returned (.agg #[.int .i64 n,.int .i64 1,.int .i64 10000])∧Bw w w':=by
 go_enter Tryz.func75,Tryz.ntmps75
 go_wp2
 go_returns
 exact⟨rfl,((bzR _ _).alloc (nzR _) _).alloc (by simp) _⟩
theorem zAt(n:Int)(w:World) :
  Calls Tryz.prog 74 #[.int .i64 n] w fun e w'=>e=.returned (.agg #[.int .i64 n,.int .i64 1,.int .i64 10000])∧Bw w w':=by
 go_enter Tryz.func74,Tryz.ntmps74
 go_wp2
 go_returns
 exact⟨rfl,((bzR _ _).alloc (nzR _) _).alloc (by simp) _⟩
theorem zAP(n:Int)(w:World) :
  Calls Tryz.prog 114 #[.int .i64 n] w fun e w'=>e=.returned (.agg #[.int .i64 n,.int .i64 1,.int .i64 2])∧Bw w w':=by
 go_enter Tryz.func114,Tryz.ntmps114
 go_wp2
 go_returns
 exact⟨rfl,((bzR _ _).alloc (nzR _) _).alloc (by simp) _⟩
end Go.Proofs.YtnfilcpnneckkaaGreat.spn
namespace Go.Proofs.YtnfilcpnneckkaaGreat.mee
open Go.RowKit
structure T where
 maker:Int
 taker:Int
 frm:Int
 into:Int
 price:Int
 qty:Int
deriving DecidableEq,Inhabited
def tV(t:T):List Value:=[.int .i64 t.maker,.int .i64 t.taker,.int .i64 t.frm,.int .i64 t.into,.int .i64 t.price,.int .i64 t.qty]
end Go.Proofs.YtnfilcpnneckkaaGreat.mee
namespace Go.Proofs.YtnfilcpnneckkaaGreat.flr
open Go.RowKit
open mee (T tV)
structure Ev where
 what:Int
 id:Int
 qty:Int
 price:Int
 tr:T
deriving Inhabited
def zeroT:T:=⟨0,0,0,0,0,0⟩
def evL(e:Ev):List Value:=[.int .i64 e.what,.int .i64 e.id,.int .i64 e.qty,.int .i64 e.price]++tV e.tr
def zAD(l:List Ev):List Value:=l.flatMap evL
theorem zCm(a b:List Ev):zAD (a++b)=zAD a++zAD b:=by unfold zAD;rw[List.flatMap_append]
theorem zGo(e:Ev):zAD [e]=evL e:=by simp[zAD]
theorem zEU(e:Ev)(t:List Ev):zAD (e::t)=evL e++zAD t:=by simp[zAD]
theorem zFq(e:Ev):(evL e).length=10:=rfl
theorem zKs(l:List Ev):(zAD l).length=l.length*10:=by
 induction l with
 | nil=>rfl
 | cons r t ih=>rw[zEU,jE,ih,jG,zFq];omega
theorem zKt(l:List Ev):∀j,j<l.length→∀i,i<10→(zAD l)[j*10+i]?=(evL l[j]!)[i]?:=by
 induction l with
 | nil=>intro j hj;simp at hj
 | cons r t ih=>
  intro j hj i hi;rw[zEU];cases j with
  | zero=>rw[Nat.zero_mul,Nat.zero_add,List.getElem?_append_left (by rw[zFq];exact hi)];rfl
  | succ j=>
   rw[jV (by rw[zFq];omega)]
   have:(j+1)*10+i - (evL r).length=j*10+i:=by rw[zFq];omega
   rw[this,ih j (by simpa using hj) i hi]
   rfl
end Go.Proofs.YtnfilcpnneckkaaGreat.flr
namespace Go.Proofs.YtnfilcpnneckkaaGreat.spn
open Go.RowKit
def errV(k:Int):Value:=if k=0 then .nilIface else .iface 90 (.int .i64 k)
theorem wAa:errV 0=.nilIface:=rfl
theorem wAb{k:Int}(h:¬k=0):errV k=.iface 90 (.int .i64 k):=if_neg h
def zAd(r:Bool):Int:=if r=true then 1 else 0
theorem zKu(w:World):PredBelow Tryz.prog 28 #[] (fun x=>.agg (zBc x).toArray) zAl w:=by
 intro W x hb;obtain⟨n,lo,hi⟩:=x;show Calls Tryz.prog 28 #[.agg #[.int .i64 n,.int .i64 lo,.int .i64 hi]] W _
 by_cases h:n<lo
 ·go_enter Tryz.func28,Tryz.ntmps28
  go_wp2
  go_ret;exact⟨by simp[zAl,h],hb.alloc hb.size _⟩
 ·go_enter Tryz.func28,Tryz.ntmps28
  go_wp2
  go_ret;have e1:zAl (n,lo,hi)=decide (hi<n):=by
   unfold zAl;rw[show decide (n<lo)=false from by simp;omega]
   rfl
  exact⟨by rw[e1];rfl,hb.alloc hb.size _⟩
theorem zBs(r:Bool)(b c:Nat)(zs:List (Int × Int × Int))(w:World)(hb:b<w.heap.size)(hn:zs.length≤9)
  (hc:∀j,j<zs.length→∀i v,(zBc zs[j]!)[i]?=some v→w.cell? ⟨b,0+j*3+i,none⟩=some v) (hr:zs.any zAl=r) :
  Calls Tryz.prog 11 #[.slice (some ⟨b,0,none⟩) zs.length c] w fun e w'=>e=.returned (errV (zAd r))∧Bw w w':=by
 have eg:∀args w,(callFunc 28 args).run Tryz.prog w=.ok (.enter 28 args) w:=enters_of Tryz.func28 (by kernel_rfl) rfl
 have Hf:=AnyQ.slices_ContainsFunc Tryz.lh8 3 Tryz.isAgg62 Tryz.sizeOf62 zBc (fun x=>rfl) zAl 28 #[] eg b 0 zs.length c zs w
  (zKu w) (nzR _) (by omega) hb hc
 change Calls Tryz.prog 27 _ _ _ at Hf
 rw[List.take_length,hr] at Hf;clear hc hr;generalize zs.length=n at *;cases r
 ·go_enter Tryz.func11,Tryz.ntmps11;go_wp2_with (go_at_call 27;refine Hf.mono ?_;rintro e w' ⟨rfl,Uo⟩)
  go_ret;exact⟨rfl,Uo⟩
 ·go_enter Tryz.func11,Tryz.ntmps11;go_wp2_with (go_at_call 27;refine Hf.mono ?_;rintro e w' ⟨rfl,Uo⟩)
  go_ret;exact⟨rfl,Uo⟩
theorem bcell{W w1:World}(hb:Bw W w1):(∀b o,b<W.heap.size→w1.cell? ⟨b,o,none⟩=W.cell? ⟨b,o,none⟩)∧(∀b o,b<W.heap.size→w1.frozen? ⟨b,o,none⟩=W.frozen? ⟨b,o,none⟩):=
 ⟨fun b o h=>hb.cell (p:=⟨b,o,none⟩) h,fun b o h=>hb.frozen (p:=⟨b,o,none⟩) h⟩
theorem scheck1(r:Bool)(a1 a2 a3:Int)(n:Nat)(V:World)(hn:V.heap.size=n)
  (hr:[(a1,a2,a3)].any zAl=r) :
  Calls Tryz.prog 11 #[.slice (some ⟨n,0,none⟩) 1 1] (V.alloc (.cells #[.int .i64 a1,.int .i64 a2,.int .i64 a3] 62))
   fun e w'=>e=.returned (errV (zAd r))∧Below V.heap.size V w':=by
 refine(zBs r n 1 [(a1,a2,a3)] _ (by simp[←hn]) (by simp) ?_ hr).mono ?_
 ·intro j hj i v hv;have EA:j<1:=hj;rw[World.cell?_alloc_at _ _ _ _ hn.symm];rcases j with _|j
  ·rcases i with _|_|_|i <;>simp_all [zBc]
  ·omega
 ·rintro e w' ⟨rfl,hb⟩;exact⟨rfl,((bzR _ V).alloc (nzR _) _).trans (hb.mono (by simp))⟩
theorem scheck2(r:Bool)(a1 a2 a3 b1 b2 b3:Int)(n:Nat)(V:World)(hn:V.heap.size=n)
  (hr:[(a1,a2,a3),(b1,b2,b3)].any zAl=r) :
  Calls Tryz.prog 11 #[.slice (some ⟨n,0,none⟩) 2 2] (V.alloc (.cells #[.int .i64 a1,.int .i64 a2,.int .i64 a3,.int .i64 b1,.int .i64 b2,.int .i64 b3] 62))
   fun e w'=>e=.returned (errV (zAd r))∧Below V.heap.size V w':=by
 refine(zBs r n 2 [(a1,a2,a3),(b1,b2,b3)] _ (by simp[←hn]) (by simp) ?_ hr).mono ?_
 ·intro j hj i v hv;have EA:j<2:=hj;rw[World.cell?_alloc_at _ _ _ _ hn.symm];rcases j with _|_|j
  ·rcases i with _|_|_|i <;>simp_all [zBc]
  ·rcases i with _|_|_|i <;>simp_all [zBc]
  ·omega
 ·rintro e w' ⟨rfl,hb⟩;exact⟨rfl,((bzR _ V).alloc (nzR _) _).trans (hb.mono (by simp))⟩
theorem scheck3(r:Bool)(a1 a2 a3 b1 b2 b3 c1 c2 c3:Int)(n:Nat)(V:World)(hn:V.heap.size=n)
  (hr:[(a1,a2,a3),(b1,b2,b3),(c1,c2,c3)].any zAl=r) :
  Calls Tryz.prog 11 #[.slice (some ⟨n,0,none⟩) 3 3] (V.alloc (.cells #[.int .i64 a1,.int .i64 a2,.int .i64 a3,.int .i64 b1,.int .i64 b2,.int .i64 b3,.int .i64 c1,.int .i64 c2,.int .i64 c3] 62))
   fun e w'=>e=.returned (errV (zAd r))∧Below V.heap.size V w':=by
 refine(zBs r n 3 [(a1,a2,a3),(b1,b2,b3),(c1,c2,c3)] _ (by simp[←hn]) (by simp) ?_ hr).mono ?_
 ·intro j hj i v hv;have EA:j<3:=hj;rw[World.cell?_alloc_at _ _ _ _ hn.symm];rcases j with _|_|_|j
  ·rcases i with _|_|_|i <;>simp_all [zBc]
  ·rcases i with _|_|_|i <;>simp_all [zBc]
  ·rcases i with _|_|_|i <;>simp_all [zBc]
  ·omega
 ·rintro e w' ⟨rfl,hb⟩;exact⟨rfl,((bzR _ V).alloc (nzR _) _).trans (hb.mono (by simp))⟩
theorem scheck4(r:Bool)(a1 a2 a3 b1 b2 b3 c1 c2 c3 d1 d2 d3:Int)(n:Nat)(V:World)(hn:V.heap.size=n)
  (hr:[(a1,a2,a3),(b1,b2,b3),(c1,c2,c3),(d1,d2,d3)].any zAl=r) :
  Calls Tryz.prog 11 #[.slice (some ⟨n,0,none⟩) 4 4] (V.alloc (.cells #[.int .i64 a1,.int .i64 a2,.int .i64 a3,.int .i64 b1,.int .i64 b2,.int .i64 b3,.int .i64 c1,.int .i64 c2,.int .i64 c3,.int .i64 d1,.int .i64 d2,.int .i64 d3] 62))
   fun e w'=>e=.returned (errV (zAd r))∧Below V.heap.size V w':=by
 refine(zBs r n 4 [(a1,a2,a3),(b1,b2,b3),(c1,c2,c3),(d1,d2,d3)] _ (by simp[←hn]) (by simp) ?_ hr).mono ?_
 ·intro j hj i v hv;have EA:j<4:=hj;rw[World.cell?_alloc_at _ _ _ _ hn.symm];rcases j with _|_|_|_|j
  ·rcases i with _|_|_|i <;>simp_all [zBc]
  ·rcases i with _|_|_|i <;>simp_all [zBc]
  ·rcases i with _|_|_|i <;>simp_all [zBc]
  ·rcases i with _|_|_|i <;>simp_all [zBc]
  ·omega
 ·rintro e w' ⟨rfl,hb⟩;exact⟨rfl,((bzR _ V).alloc (nzR _) _).trans (hb.mono (by simp))⟩
theorem scheck5(r:Bool)(a1 a2 a3 b1 b2 b3 c1 c2 c3 d1 d2 d3 e1 e2 e3:Int)(n:Nat)(V:World)(hn:V.heap.size=n)
  (hr:[(a1,a2,a3),(b1,b2,b3),(c1,c2,c3),(d1,d2,d3),(e1,e2,e3)].any zAl=r) :
  Calls Tryz.prog 11 #[.slice (some ⟨n,0,none⟩) 5 5] (V.alloc (.cells #[.int .i64 a1,.int .i64 a2,.int .i64 a3,.int .i64 b1,.int .i64 b2,.int .i64 b3,.int .i64 c1,.int .i64 c2,.int .i64 c3,.int .i64 d1,.int .i64 d2,.int .i64 d3,.int .i64 e1,.int .i64 e2,.int .i64 e3] 62))
   fun e w'=>e=.returned (errV (zAd r))∧Below V.heap.size V w':=by
 refine(zBs r n 5 [(a1,a2,a3),(b1,b2,b3),(c1,c2,c3),(d1,d2,d3),(e1,e2,e3)] _ (by simp[←hn]) (by simp) ?_ hr).mono ?_
 ·intro j hj i v hv;have EA:j<5:=hj;rw[World.cell?_alloc_at _ _ _ _ hn.symm];rcases j with _|_|_|_|_|j
  ·rcases i with _|_|_|i <;>simp_all [zBc]
  ·rcases i with _|_|_|i <;>simp_all [zBc]
  ·rcases i with _|_|_|i <;>simp_all [zBc]
  ·rcases i with _|_|_|i <;>simp_all [zBc]
  ·rcases i with _|_|_|i <;>simp_all [zBc]
  ·omega
 ·rintro e w' ⟨rfl,hb⟩;exact⟨rfl,((bzR _ V).alloc (nzR _) _).trans (hb.mono (by simp))⟩
end Go.Proofs.YtnfilcpnneckkaaGreat.spn
namespace Go.Proofs.YtnfilcpnneckkaaGreat.tickP
open Go.RowKit spn
def errB(ok:Bool):Value:=if ok=true then .nilIface else .iface 90 (.int .i64 1)
def zAo(p:Int):Bool:=decide (1≤p) && decide (p≤10000)
def zAB(s:Int):Bool:=decide (s=1) || decide (s=2)
def zBA(s a b:Int):Bool:=zAB s && (zAo a && zAo b)
def betR(s a b:Int):Bool:=zBA s a b && (if s=1 then decide (a<b) else decide (b<a))
theorem zJf(p:Int):[(p,1,10000)].any zAl = !zAo p:=by
 rw[Bool.eq_iff_iff];simp[zAl,zAo]
theorem zNs(s a b:Int):[(s,1,2),(a,1,10000),(b,1,10000)].any zAl = !zBA s a b:=by
 rw[Bool.eq_iff_iff];simp[zAl,zBA,zAo,zAB];omega
theorem zAU(V:World)(p:Int)(w:World)(hV:Bw V w) :
  Calls Tryz.prog 116 #[.int .i64 p] w fun e w'=>e=.returned (errB (zAo p))∧Bw V w':=by
 have HS:Hid ([(p,1,10000)].any zAl = !zAo p):=zJf p;have HV:Hid (Bw V w):=hV;clear hV;cases hk:zAo p
 ·rw[hk] at HS;clear hk;go_enter Tryz.func116,Tryz.ntmps116;go_wp2_with fail;refine(zAt p w).mono ?_;rintro e w1⟨rfl,h1⟩;go_wp2_with fail;refine(scheck1 true _ _ _ _ _ rfl HS.out).mono ?_;rintro e w2⟨rfl,h2⟩;simp only[show errV (zAd true)=.iface 90 (.int .i64 1) from rfl]
  have G2:=HV.out;have GO:=G2.trans (h1.mono G2.size);have Ul:=GO.trans (h2.mono GO.size);have HD:Hid (Bw V w2):=Ul;clear h1 h2 G2 GO Ul;go_wp2_with fail;go_ret;exact⟨rfl,HD.out⟩
 ·rw[hk] at HS;clear hk;go_enter Tryz.func116,Tryz.ntmps116;go_wp2_with fail;refine(zAt p w).mono ?_;rintro e w1⟨rfl,h1⟩;go_wp2_with fail;refine(scheck1 false _ _ _ _ _ rfl HS.out).mono ?_;rintro e w2⟨rfl,h2⟩;simp only[show errV (zAd false)=.nilIface from rfl]
  have G2:=HV.out;have GO:=G2.trans (h1.mono G2.size);have Ul:=GO.trans (h2.mono GO.size);have HD:Hid (Bw V w2):=Ul;clear h1 h2 G2 GO Ul;go_wp2_with fail;go_ret;exact⟨rfl,HD.out⟩
theorem zIi(V:World)(s a b:Int)(w:World)(hV:Bw V w) :
  Calls Tryz.prog 163 #[.int .i64 s,.int .i64 a,.int .i64 b] w fun e w'=>e=.returned (.tuple #[.bool (betR s a b),errB (zBA s a b)])∧Bw V w':=by
 have HS:Hid ([(s,1,2),(a,1,10000),(b,1,10000)].any zAl = !zBA s a b):=zNs s a b;have HV:Hid (Bw V w):=hV;clear hV;cases hk:zBA s a b
 ·rw[hk] at HS;have e0:betR s a b=false:=by unfold betR;rw[hk];rfl
  rw[e0];clear e0 hk;go_enter Tryz.func163,Tryz.ntmps163;go_wp2_with fail;refine(zAP s w).mono ?_;rintro e w1⟨rfl,h1⟩;go_wp2_with fail;refine(zAt a w1).mono ?_;rintro e w2⟨rfl,h2⟩;go_wp2_with fail;refine(zAt b w2).mono ?_;rintro e w3⟨rfl,h3⟩;go_wp2_with fail;refine(scheck3 true _ _ _ _ _ _ _ _ _ _ _ rfl HS.out).mono ?_;rintro e w4⟨rfl,h4⟩;simp only[show errV (zAd true)=.iface 90 (.int .i64 1) from rfl]
  have G2:=HV.out;have GO:=G2.trans (h1.mono G2.size);have Ul:=GO.trans (h2.mono GO.size);have uH:=Ul.trans (h3.mono Ul.size);have um:=uH.trans (h4.mono uH.size);have HD:Hid (Bw V w4):=um;clear h1 h2 h3 h4 G2 GO Ul uH um;go_wp2_with fail
  go_ret2
  exact⟨rfl,HD.out⟩
 rw[hk] at HS;by_cases hs:s=1
 ·subst hs;have e0:betR 1 a b=decide (a<b):=by unfold betR;rw[hk,if_pos rfl];rfl
  rw[e0];clear e0 hk;go_enter Tryz.func163,Tryz.ntmps163;go_wp2_with fail;refine(zAP 1 w).mono ?_;rintro e w1⟨rfl,h1⟩;go_wp2_with fail;refine(zAt a w1).mono ?_;rintro e w2⟨rfl,h2⟩;go_wp2_with fail;refine(zAt b w2).mono ?_;rintro e w3⟨rfl,h3⟩;go_wp2_with fail;refine(scheck3 false _ _ _ _ _ _ _ _ _ _ _ rfl HS.out).mono ?_;rintro e w4⟨rfl,h4⟩;simp only[show errV (zAd false)=.nilIface from rfl]
  have G2:=HV.out;have GO:=G2.trans (h1.mono G2.size);have Ul:=GO.trans (h2.mono GO.size);have uH:=Ul.trans (h3.mono Ul.size);have um:=uH.trans (h4.mono uH.size);have HD:Hid (Bw V w4):=um;clear h1 h2 h3 h4 G2 GO Ul uH um;go_wp2_with fail
  go_ret2
  exact⟨rfl,HD.out⟩
 ·have Hl:(s == 1)=false:=by simp[hs]
  have e0:betR s a b=decide (b<a):=by unfold betR;rw[hk,if_neg hs];rfl
  rw[e0];clear e0 hk;go_enter Tryz.func163,Tryz.ntmps163;go_wp2_with fail;refine(zAP s w).mono ?_;rintro e w1⟨rfl,h1⟩;go_wp2_with fail;refine(zAt a w1).mono ?_;rintro e w2⟨rfl,h2⟩;go_wp2_with fail;refine(zAt b w2).mono ?_;rintro e w3⟨rfl,h3⟩;go_wp2_with fail;refine(scheck3 false _ _ _ _ _ _ _ _ _ _ _ rfl HS.out).mono ?_;rintro e w4⟨rfl,h4⟩;simp only[show errV (zAd false)=.nilIface from rfl]
  have G2:=HV.out;have GO:=G2.trans (h1.mono G2.size);have Ul:=GO.trans (h2.mono GO.size);have uH:=Ul.trans (h3.mono Ul.size);have um:=uH.trans (h4.mono uH.size);have HD:Hid (Bw V w4):=um;clear h1 h2 h3 h4 G2 GO Ul uH um;go_wp2_with fail
  go_ret2
  exact⟨rfl,HD.out⟩
end Go.Proofs.YtnfilcpnneckkaaGreat.tickP
