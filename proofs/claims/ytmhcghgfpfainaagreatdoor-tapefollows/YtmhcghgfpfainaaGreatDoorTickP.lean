import Derived.Shelf.SlicesQ.IndexFunc
import Derived.Shelf.SlSortCmp.InsertionK
import Derived.Shelf.SlicesG.Cmp
import Derived.Test.YtmhcghgfpfainaaGreatDoorProg
import Derived.WalkKit
import Derived.ProofKit
import Derived.Outline
import Derived.WalkSpells
import Derived.WalkLawsBesides
import Derived.Below
import Derived.Handy
import Derived.Deep.RegionHeld3
import Derived.Deep.AppendLies
import Derived.Deep.DrawnRows
import Derived.Deep.CutRange
import Derived.Deep.DeepCutAuto
import Derived.Deep.MidRow
import Derived.BigQuiet
set_option maxHeartbeats 1000000
set_option maxRecDepth 100000
namespace Go.Proofs.YtmhcghgfpfainaaGreatDoor
open Go.RowKit
abbrev Bw(w w':World):Prop:=Below w.heap.size w w'
theorem jA(w:World)(o:Obj):(w.alloc o).heap[w.heap.size]? = some o:=heap_alloc_new w o
theorem jB(w:World)(g i:Nat)(cs:Array Value)(t:TypeId)(v:Value)(h:w.heap[g]? = some (.cells cs t (0,0))):(w.setCell ⟨g,i,none⟩ v).heap[g]? = some (.cells (cs.setIfInBounds i v) t (0,0)):=heap_setCell_same w g i cs t v h
theorem jC{n m k:Nat}(h:n<m)(h2:m≤k):n<k:=Nat.lt_of_lt_of_le h h2
theorem jD{n m:Nat}(h:n≤m):n≤m.succ:=Nat.le_succ_of_le h
theorem jE{α:Type}{a b:List α}:(a++b).length=a.length+b.length:=List.length_append
theorem jF{α β:Type}{f:α→β}{a b:List α}:(a++b).map f=a.map f++b.map f:=List.map_append
theorem jG{α:Type}{a:α}{b:List α}:(a::b).length=b.length+1:=List.length_cons
theorem jH{α:Type}(a:List α):a++[]=a:=List.append_nil a
theorem jJ{α:Type}{i:Nat}{l:List α}:(l.take i).length=min i l.length:=List.length_take
theorem jK{α β:Type}{f:α→β}{a:α}{l:List α}:(a::l).map f=f a::l.map f:=List.map_cons
theorem jL(n:Nat):0≤n:=Nat.zero_le n
theorem jM{n m k:Nat}(h:n≤m)(h2:m≤k):n≤k:=Nat.le_trans h h2
theorem jN{P:Program}{fn:Func}{R:Ending→World→Prop}{a:Act}{w:World}{v:Value}(h:(results fn a.tmps).run P w=.ok v w)(h2:a.defers=[])(h3:R (.returned v) w):bodyPost P fn R .ret a w:=bodyPost_ret h h2 h3
theorem jP{α β:Type}{a:List α}(f:α→β):(a.map f).length=a.length:=List.length_map f
theorem jQ{α:Type}{i:Nat}{l:List α}:(l.drop i).length=l.length-i:=List.length_drop
theorem jR{α:Type}(i:Nat)(l:List α):l.take i++l.drop i=l:=List.take_append_drop i l
theorem jS{α:Type}(a b c:List α):a++b++c=a++(b++c):=List.append_assoc a b c
theorem jT{α:Type}{l:List α}{n:Nat}(h:n<l.length):l[n]∈l:=List.getElem_mem h
theorem jU{α:Type}(a:List α):[]++a=a:=List.nil_append a
theorem jV{α:Type}{a b:List α}{i:Nat}(h:a.length≤i):(a++b)[i]? = b[i-a.length]?:=List.getElem?_append_right h
theorem jW(n:Nat):¬n<n:=Nat.lt_irrefl n
theorem jX{n m:Nat}(h:n<m):n≤m:=Nat.le_of_lt h
theorem jY(a:Int):a≤a:=Int.le_refl a
theorem jZ(w:World)(g j:Nat)(cs:Array Value)(t:TypeId)(fr:Nat×Nat)(h:w.heap[g]? = some (.cells cs t fr)):w.cell? ⟨g,j,none⟩ = cs[j]?:=cell_of_row w g j cs t fr h
theorem gzE{α:Type}{xs:Array α}{i:Nat}{a:α}:xs[i]? = some a↔∃ h:i<xs.size,xs[i] = a:=Array.getElem?_eq_some_iff
theorem nzR(n:Nat):n≤n:=Nat.le_refl n
theorem bzR(B:Nat)(w:World):Below B w w:=Below.refl B w
end Go.Proofs.YtmhcghgfpfainaaGreatDoor
namespace Go.Proofs
open Go.Shelf
def Tryz.lh8_ren:Go.Shelf.Ren:=⟨fun|8=>38|6=>62|n=>n,fun|22=>101|23=>66|25=>103|4=>4|3=>3|0=>0|n=>n,fun|n=>n⟩
theorem Tryz.lh8:Go.Proofs.SlLaysH0.n8 Tryz.prog Tryz.lh8_ren:={
 mixed:=by kernel_rfl
 f6:=⟨Tryz.f62.name,by decide,Tryz.func62.trans (congrArg some (by kernel_rfl))⟩
 f8:=⟨Tryz.f38.name,by decide,Tryz.func38.trans (congrArg some (by kernel_rfl))⟩
 t0:=Tryz.underlying0
 a0:=Tryz.isAgg0
 z0:=Tryz.sizeOf0
 v0:=Tryz.zeroValue0
 t3:=Tryz.underlying3
 a3:=Tryz.isAgg3
 z3:=Tryz.sizeOf3
 v3:=Tryz.zeroValue3
 t4:=Tryz.underlying4
 a4:=Tryz.isAgg4
 z4:=Tryz.sizeOf4
 v4:=Tryz.zeroValue4
 t22:=Tryz.underlying101
 a22:=Tryz.isAgg101
 z22:=Tryz.sizeOf101
 v22:=Tryz.zeroValue101
 t25:=Tryz.underlying103
 a25:=Tryz.isAgg103
 z25:=Tryz.sizeOf103
 v25:=Tryz.zeroValue103 }
def Tryz.lq6_ren:Go.Shelf.Ren:=⟨fun|6=>177|n=>n,fun|22=>88|23=>54|25=>275|3=>3|0=>0|4=>4|n=>n,fun|n=>n⟩
theorem Tryz.lq6:Go.Proofs.SlLaysH0.n6 Tryz.prog Tryz.lq6_ren:={
 mixed:=by kernel_rfl
 f6:=⟨Tryz.f177.name,by decide,Tryz.func177.trans (congrArg some (by kernel_rfl))⟩
 t0:=Tryz.underlying0
 a0:=Tryz.isAgg0
 z0:=Tryz.sizeOf0
 v0:=Tryz.zeroValue0
 t3:=Tryz.underlying3
 a3:=Tryz.isAgg3
 z3:=Tryz.sizeOf3
 v3:=Tryz.zeroValue3
 t4:=Tryz.underlying4
 a4:=Tryz.isAgg4
 z4:=Tryz.sizeOf4
 v4:=Tryz.zeroValue4
 t22:=Tryz.underlying88
 a22:=Tryz.isAgg88
 z22:=Tryz.sizeOf88
 v22:=Tryz.zeroValue88
 t25:=Tryz.underlying275
 a25:=Tryz.isAgg275
 z25:=Tryz.sizeOf275
 v25:=Tryz.zeroValue275 }
def Tryz.lq6l_ren:Go.Shelf.Ren:=⟨fun|6=>196|n=>n,fun|22=>48|23=>94|25=>298|3=>3|0=>0|4=>4|n=>n,fun|n=>n⟩
theorem Tryz.lq6l:Go.Proofs.SlLaysH0.n6 Tryz.prog Tryz.lq6l_ren:={
 mixed:=by kernel_rfl
 f6:=⟨Tryz.f196.name,by decide,Tryz.func196.trans (congrArg some (by kernel_rfl))⟩
 t0:=Tryz.underlying0
 a0:=Tryz.isAgg0
 z0:=Tryz.sizeOf0
 v0:=Tryz.zeroValue0
 t3:=Tryz.underlying3
 a3:=Tryz.isAgg3
 z3:=Tryz.sizeOf3
 v3:=Tryz.zeroValue3
 t4:=Tryz.underlying4
 a4:=Tryz.isAgg4
 z4:=Tryz.sizeOf4
 v4:=Tryz.zeroValue4
 t22:=Tryz.underlying48
 a22:=Tryz.isAgg48
 z22:=Tryz.sizeOf48
 v22:=Tryz.zeroValue48
 t25:=Tryz.underlying298
 a25:=Tryz.isAgg298
 z25:=Tryz.sizeOf298
 v25:=Tryz.zeroValue298 }
def Tryz.lq6o_ren:Go.Shelf.Ren:=⟨fun|6=>154|n=>n,fun|22=>105|23=>40|25=>239|3=>3|0=>0|4=>4|n=>n,fun|n=>n⟩
theorem Tryz.lq6o:Go.Proofs.SlLaysH0.n6 Tryz.prog Tryz.lq6o_ren:={
 mixed:=by kernel_rfl
 f6:=⟨Tryz.f154.name,by decide,Tryz.func154.trans (congrArg some (by kernel_rfl))⟩
 t0:=Tryz.underlying0
 a0:=Tryz.isAgg0
 z0:=Tryz.sizeOf0
 v0:=Tryz.zeroValue0
 t3:=Tryz.underlying3
 a3:=Tryz.isAgg3
 z3:=Tryz.sizeOf3
 v3:=Tryz.zeroValue3
 t4:=Tryz.underlying4
 a4:=Tryz.isAgg4
 z4:=Tryz.sizeOf4
 v4:=Tryz.zeroValue4
 t22:=Tryz.underlying105
 a22:=Tryz.isAgg105
 z22:=Tryz.sizeOf105
 v22:=Tryz.zeroValue105
 t25:=Tryz.underlying239
 a25:=Tryz.isAgg239
 z25:=Tryz.sizeOf239
 v25:=Tryz.zeroValue239 }
def Tryz.lh8e_ren:Go.Shelf.Ren:=⟨fun|8=>24|6=>50|n=>n,fun|22=>32|23=>31|25=>83|4=>4|3=>3|0=>0|n=>n,fun|n=>n⟩
theorem Tryz.lh8e:Go.Proofs.SlLaysH0.n8 Tryz.prog Tryz.lh8e_ren:={
 mixed:=by kernel_rfl
 f6:=⟨Tryz.f50.name,by decide,Tryz.func50.trans (congrArg some (by kernel_rfl))⟩
 f8:=⟨Tryz.f24.name,by decide,Tryz.func24.trans (congrArg some (by kernel_rfl))⟩
 t0:=Tryz.underlying0
 a0:=Tryz.isAgg0
 z0:=Tryz.sizeOf0
 v0:=Tryz.zeroValue0
 t3:=Tryz.underlying3
 a3:=Tryz.isAgg3
 z3:=Tryz.sizeOf3
 v3:=Tryz.zeroValue3
 t4:=Tryz.underlying4
 a4:=Tryz.isAgg4
 z4:=Tryz.sizeOf4
 v4:=Tryz.zeroValue4
 t22:=Tryz.underlying32
 a22:=Tryz.isAgg32
 z22:=Tryz.sizeOf32
 v22:=Tryz.zeroValue32
 t25:=Tryz.underlying83
 a25:=Tryz.isAgg83
 z25:=Tryz.sizeOf83
 v25:=Tryz.zeroValue83 }
def Tryz.lins_ren:Go.Shelf.Ren:=⟨fun|20=>199|n=>n,fun|24=>40|22=>105|3=>3|25=>284|4=>4|0=>0|n=>n,fun|n=>n⟩
theorem Tryz.lins:Go.Proofs.SlLaysF0.n20 Tryz.prog Tryz.lins_ren:={
 mixed:=by kernel_rfl
 f20:=⟨Tryz.f199.name,by decide,Tryz.func199.trans (congrArg some (by kernel_rfl))⟩
 t0:=Tryz.underlying0
 a0:=Tryz.isAgg0
 z0:=Tryz.sizeOf0
 v0:=Tryz.zeroValue0
 t3:=Tryz.underlying3
 a3:=Tryz.isAgg3
 z3:=Tryz.sizeOf3
 v3:=Tryz.zeroValue3
 t4:=Tryz.underlying4
 a4:=Tryz.isAgg4
 z4:=Tryz.sizeOf4
 v4:=Tryz.zeroValue4
 t22:=Tryz.underlying105
 a22:=Tryz.isAgg105
 z22:=Tryz.sizeOf105
 v22:=Tryz.zeroValue105
 t25:=Tryz.underlying284
 a25:=Tryz.isAgg284
 z25:=Tryz.sizeOf284
 v25:=Tryz.zeroValue284 }
def Tryz.lcmp_ren:Go.Shelf.Ren:=⟨fun|5=>37|7=>61|n=>n,fun|22=>3|3=>3|4=>4|n=>n,fun|n=>n⟩
theorem Tryz.lcmp:Go.Proofs.SlLaysC2.n5 Tryz.prog Tryz.lcmp_ren:={
 mixed:=by kernel_rfl
 f5:=⟨Tryz.f37.name,by decide,Tryz.func37.trans (congrArg some (by kernel_rfl))⟩
 f7:=⟨Tryz.f61.name,by decide,Tryz.func61.trans (congrArg some (by kernel_rfl))⟩
 t3:=Tryz.underlying3
 a3:=Tryz.isAgg3
 z3:=Tryz.sizeOf3
 v3:=Tryz.zeroValue3
 t4:=Tryz.underlying4
 a4:=Tryz.isAgg4
 z4:=Tryz.sizeOf4
 v4:=Tryz.zeroValue4
 t22:=Tryz.underlying3
 a22:=Tryz.isAgg3
 z22:=Tryz.sizeOf3
 v22:=Tryz.zeroValue3 }
end Go.Proofs
namespace Go.Proofs.YtmhcghgfpfainaaGreatDoor.spn
open Go.RowKit
theorem zAa{V W:World}(h:Bw V W){a:Addr}{v:Value}(hc:V.cell? a=some v):W.cell? a=some v:=
 (h.cell (p:=a) (World.block_lt_of_cell? V a hc)).trans hc
def zAo(x:Int × Int × Int):Bool:=decide (x.1<x.2.1) || decide (x.2.2<x.1)
def zBd(x:Int × Int × Int):List Value:=[.int .i64 x.1,.int .i64 x.2.1,.int .i64 x.2.2]
theorem zBp(n lo hi:Int)(w:World) :
  Calls Tryz.prog 40 #[.int .i64 n,.int .i64 lo,.int .i64 hi] w fun e w'=>e=.returned (.agg #[.int .i64 n,.int .i64 lo,.int .i64 hi])∧Bw w w':=by
 go_enter Tryz.func40,Tryz.ntmps40
 go_wp2
 go_returns
 exact⟨rfl,(bzR _ _).alloc (nzR _) _⟩
theorem zDK(n:Int)(w:World) :
  Calls Tryz.prog 18 #[.int .i64 n] w fun e w'=>e=.returned (.agg #[.int .i64 n,.int .i64 0,.int .i64 3])∧Bw w w':=by
 go_enter Tryz.func18,Tryz.ntmps18
 go_wp2
 go_returns
 exact⟨rfl,((bzR _ _).alloc (nzR _) _).alloc (by simp) _⟩
theorem zGt(n:Int)(w:World) :
  Calls Tryz.prog 52 #[.int .i64 n] w fun e w'=>e=.returned (.agg #[.int .i64 n,.int .i64 1,.int .i64 9999])∧Bw w w':=by
 go_enter Tryz.func52,Tryz.ntmps52
 go_wp2
 go_returns
 exact⟨rfl,((bzR _ _).alloc (nzR _) _).alloc (by simp) _⟩
theorem zCj(n:Int)(w:World) :
  Calls Tryz.prog 79 #[.int .i64 n] w fun e w'=>e=.returned (.agg #[.int .i64 n,.int .i64 1,.int .i64 9])∧Bw w w':=by
 go_enter Tryz.func79,Tryz.ntmps79
 go_wp2
 go_returns
 exact⟨rfl,((bzR _ _).alloc (nzR _) _).alloc (by simp) _⟩
theorem zAS(n:Int)(w:World) :
  Calls Tryz.prog 81 #[.int .i64 n] w fun e w'=>e=.returned (.agg #[.int .i64 n,.int .i64 1,.int .i64 10000])∧Bw w w':=by
 go_enter Tryz.func81,Tryz.ntmps81
 go_wp2
 go_returns
 exact⟨rfl,((bzR _ _).alloc (nzR _) _).alloc (by simp) _⟩
theorem zAy(n:Int)(w:World) :
  Calls Tryz.prog 80 #[.int .i64 n] w fun e w'=>e=.returned (.agg #[.int .i64 n,.int .i64 1,.int .i64 10000])∧Bw w w':=by
 go_enter Tryz.func80,Tryz.ntmps80
 go_wp2
 go_returns
 exact⟨rfl,((bzR _ _).alloc (nzR _) _).alloc (by simp) _⟩
theorem zAO(n:Int)(w:World) :
  Calls Tryz.prog 89 #[.int .i64 n] w fun e w'=>e=.returned (.agg #[.int .i64 n,.int .i64 1,.int .i64 2])∧Bw w w':=by
 go_enter Tryz.func89,Tryz.ntmps89
 go_wp2
 go_returns
 exact⟨rfl,((bzR _ _).alloc (nzR _) _).alloc (by simp) _⟩
end Go.Proofs.YtmhcghgfpfainaaGreatDoor.spn
namespace Go.Proofs.YtmhcghgfpfainaaGreatDoor.mee
open Go.RowKit
structure T where
 maker:Int
 taker:Int
 frm:Int
 into:Int
 price:Int
 qty:Int
deriving DecidableEq,Inhabited
def tV(t:T):List Value:=[.int .i64 t.maker,.int .i64 t.taker,.int .i64 t.frm,.int .i64 t.into,.int .i64 t.price,.int .i64 t.qty]
end Go.Proofs.YtmhcghgfpfainaaGreatDoor.mee
namespace Go.Proofs.YtmhcghgfpfainaaGreatDoor.flr
open Go.RowKit
open mee (T tV)
structure Ev where
 what:Int
 id:Int
 qty:Int
 price:Int
 tr:T
deriving Inhabited
def zeroT:T:=⟨0,0,0,0,0,0⟩
def evL(e:Ev):List Value:=[.int .i64 e.what,.int .i64 e.id,.int .i64 e.qty,.int .i64 e.price]++tV e.tr
def zAH(l:List Ev):List Value:=l.flatMap evL
theorem zCk(a b:List Ev):zAH (a++b)=zAH a++zAH b:=by unfold zAH;rw[List.flatMap_append]
theorem zGu(e:Ev):zAH [e]=evL e:=by simp[zAH]
theorem zEX(e:Ev)(t:List Ev):zAH (e::t)=evL e++zAH t:=by simp[zAH]
theorem zFu(e:Ev):(evL e).length=10:=rfl
theorem zKL(l:List Ev):(zAH l).length=l.length*10:=by
 induction l with
 | nil=>rfl
 | cons r t ih=>rw[zEX,jE,ih,jG,zFu];omega
theorem zKM(l:List Ev):∀j,j<l.length→∀i,i<10→(zAH l)[j*10+i]?=(evL l[j]!)[i]?:=by
 induction l with
 | nil=>intro j hj;simp at hj
 | cons r t ih=>
  intro j hj i hi;rw[zEX];cases j with
  | zero=>rw[Nat.zero_mul,Nat.zero_add,List.getElem?_append_left (by rw[zFu];exact hi)];rfl
  | succ j=>
   rw[jV (by rw[zFu];omega)]
   have:(j+1)*10+i - (evL r).length=j*10+i:=by rw[zFu];omega
   rw[this,ih j (by simpa using hj) i hi]
   rfl
end Go.Proofs.YtmhcghgfpfainaaGreatDoor.flr
namespace Go.Proofs.YtmhcghgfpfainaaGreatDoor.spn
open Go.RowKit
def errV(k:Int):Value:=if k=0 then .nilIface else .iface 80 (.int .i64 k)
theorem wAa:errV 0=.nilIface:=rfl
theorem wAb{k:Int}(h:¬k=0):errV k=.iface 80 (.int .i64 k):=if_neg h
def zAg(r:Bool):Int:=if r=true then 1 else 0
theorem zKN(w:World):PredBelow Tryz.prog 39 #[] (fun x=>.agg (zBd x).toArray) zAo w:=by
 intro W x hb;obtain⟨n,lo,hi⟩:=x;show Calls Tryz.prog 39 #[.agg #[.int .i64 n,.int .i64 lo,.int .i64 hi]] W _
 by_cases h:n<lo
 ·go_enter Tryz.func39,Tryz.ntmps39
  go_wp2
  go_ret;exact⟨by simp[zAo,h],hb.alloc hb.size _⟩
 ·go_enter Tryz.func39,Tryz.ntmps39
  go_wp2
  go_ret;have e1:zAo (n,lo,hi)=decide (hi<n):=by
   unfold zAo;rw[show decide (n<lo)=false from by simp;omega]
   rfl
  exact⟨by rw[e1];rfl,hb.alloc hb.size _⟩
theorem zBG(r:Bool)(b c:Nat)(zs:List (Int × Int × Int))(w:World)(hb:b<w.heap.size)(hn:zs.length≤9)
  (hc:∀j,j<zs.length→∀i v,(zBd zs[j]!)[i]?=some v→w.cell? ⟨b,0+j*3+i,none⟩=some v) (hr:zs.any zAo=r) :
  Calls Tryz.prog 17 #[.slice (some ⟨b,0,none⟩) zs.length c] w fun e w'=>e=.returned (errV (zAg r))∧Bw w w':=by
 have eg:∀args w,(callFunc 39 args).run Tryz.prog w=.ok (.enter 39 args) w:=enters_of Tryz.func39 (by kernel_rfl) rfl
 have Hf:=AnyQ.slices_ContainsFunc Tryz.lh8 3 Tryz.isAgg66 Tryz.sizeOf66 zBd (fun x=>rfl) zAo 39 #[] eg b 0 zs.length c zs w
  (zKN w) (nzR _) (by omega) hb hc
 change Calls Tryz.prog 38 _ _ _ at Hf
 rw[List.take_length,hr] at Hf;clear hc hr;generalize zs.length=n at *;cases r
 ·go_enter Tryz.func17,Tryz.ntmps17;go_wp2_with (go_at_call 38;refine Hf.mono ?_;rintro e w' ⟨rfl,me⟩)
  go_ret;exact⟨rfl,me⟩
 ·go_enter Tryz.func17,Tryz.ntmps17;go_wp2_with (go_at_call 38;refine Hf.mono ?_;rintro e w' ⟨rfl,me⟩)
  go_ret;exact⟨rfl,me⟩
theorem bcell{W w1:World}(hb:Bw W w1):(∀b o,b<W.heap.size→w1.cell? ⟨b,o,none⟩=W.cell? ⟨b,o,none⟩)∧(∀b o,b<W.heap.size→w1.frozen? ⟨b,o,none⟩=W.frozen? ⟨b,o,none⟩):=
 ⟨fun b o h=>hb.cell (p:=⟨b,o,none⟩) h,fun b o h=>hb.frozen (p:=⟨b,o,none⟩) h⟩
theorem scheck1(r:Bool)(a1 a2 a3:Int)(n:Nat)(V:World)(hn:V.heap.size=n)
  (hr:[(a1,a2,a3)].any zAo=r) :
  Calls Tryz.prog 17 #[.slice (some ⟨n,0,none⟩) 1 1] (V.alloc (.cells #[.int .i64 a1,.int .i64 a2,.int .i64 a3] 66))
   fun e w'=>e=.returned (errV (zAg r))∧Below V.heap.size V w':=by
 refine(zBG r n 1 [(a1,a2,a3)] _ (by simp[←hn]) (by simp) ?_ hr).mono ?_
 ·intro j hj i v hv;have Ew:j<1:=hj;rw[World.cell?_alloc_at _ _ _ _ hn.symm];rcases j with _|j
  ·rcases i with _|_|_|i <;>simp_all [zBd]
  ·omega
 ·rintro e w' ⟨rfl,hb⟩;exact⟨rfl,((bzR _ V).alloc (nzR _) _).trans (hb.mono (by simp))⟩
theorem scheck2(r:Bool)(a1 a2 a3 b1 b2 b3:Int)(n:Nat)(V:World)(hn:V.heap.size=n)
  (hr:[(a1,a2,a3),(b1,b2,b3)].any zAo=r) :
  Calls Tryz.prog 17 #[.slice (some ⟨n,0,none⟩) 2 2] (V.alloc (.cells #[.int .i64 a1,.int .i64 a2,.int .i64 a3,.int .i64 b1,.int .i64 b2,.int .i64 b3] 66))
   fun e w'=>e=.returned (errV (zAg r))∧Below V.heap.size V w':=by
 refine(zBG r n 2 [(a1,a2,a3),(b1,b2,b3)] _ (by simp[←hn]) (by simp) ?_ hr).mono ?_
 ·intro j hj i v hv;have Ew:j<2:=hj;rw[World.cell?_alloc_at _ _ _ _ hn.symm];rcases j with _|_|j
  ·rcases i with _|_|_|i <;>simp_all [zBd]
  ·rcases i with _|_|_|i <;>simp_all [zBd]
  ·omega
 ·rintro e w' ⟨rfl,hb⟩;exact⟨rfl,((bzR _ V).alloc (nzR _) _).trans (hb.mono (by simp))⟩
theorem scheck3(r:Bool)(a1 a2 a3 b1 b2 b3 c1 c2 c3:Int)(n:Nat)(V:World)(hn:V.heap.size=n)
  (hr:[(a1,a2,a3),(b1,b2,b3),(c1,c2,c3)].any zAo=r) :
  Calls Tryz.prog 17 #[.slice (some ⟨n,0,none⟩) 3 3] (V.alloc (.cells #[.int .i64 a1,.int .i64 a2,.int .i64 a3,.int .i64 b1,.int .i64 b2,.int .i64 b3,.int .i64 c1,.int .i64 c2,.int .i64 c3] 66))
   fun e w'=>e=.returned (errV (zAg r))∧Below V.heap.size V w':=by
 refine(zBG r n 3 [(a1,a2,a3),(b1,b2,b3),(c1,c2,c3)] _ (by simp[←hn]) (by simp) ?_ hr).mono ?_
 ·intro j hj i v hv;have Ew:j<3:=hj;rw[World.cell?_alloc_at _ _ _ _ hn.symm];rcases j with _|_|_|j
  ·rcases i with _|_|_|i <;>simp_all [zBd]
  ·rcases i with _|_|_|i <;>simp_all [zBd]
  ·rcases i with _|_|_|i <;>simp_all [zBd]
  ·omega
 ·rintro e w' ⟨rfl,hb⟩;exact⟨rfl,((bzR _ V).alloc (nzR _) _).trans (hb.mono (by simp))⟩
theorem scheck4(r:Bool)(a1 a2 a3 b1 b2 b3 c1 c2 c3 d1 d2 d3:Int)(n:Nat)(V:World)(hn:V.heap.size=n)
  (hr:[(a1,a2,a3),(b1,b2,b3),(c1,c2,c3),(d1,d2,d3)].any zAo=r) :
  Calls Tryz.prog 17 #[.slice (some ⟨n,0,none⟩) 4 4] (V.alloc (.cells #[.int .i64 a1,.int .i64 a2,.int .i64 a3,.int .i64 b1,.int .i64 b2,.int .i64 b3,.int .i64 c1,.int .i64 c2,.int .i64 c3,.int .i64 d1,.int .i64 d2,.int .i64 d3] 66))
   fun e w'=>e=.returned (errV (zAg r))∧Below V.heap.size V w':=by
 refine(zBG r n 4 [(a1,a2,a3),(b1,b2,b3),(c1,c2,c3),(d1,d2,d3)] _ (by simp[←hn]) (by simp) ?_ hr).mono ?_
 ·intro j hj i v hv;have Ew:j<4:=hj;rw[World.cell?_alloc_at _ _ _ _ hn.symm];rcases j with _|_|_|_|j
  ·rcases i with _|_|_|i <;>simp_all [zBd]
  ·rcases i with _|_|_|i <;>simp_all [zBd]
  ·rcases i with _|_|_|i <;>simp_all [zBd]
  ·rcases i with _|_|_|i <;>simp_all [zBd]
  ·omega
 ·rintro e w' ⟨rfl,hb⟩;exact⟨rfl,((bzR _ V).alloc (nzR _) _).trans (hb.mono (by simp))⟩
theorem scheck5(r:Bool)(a1 a2 a3 b1 b2 b3 c1 c2 c3 d1 d2 d3 e1 e2 e3:Int)(n:Nat)(V:World)(hn:V.heap.size=n)
  (hr:[(a1,a2,a3),(b1,b2,b3),(c1,c2,c3),(d1,d2,d3),(e1,e2,e3)].any zAo=r) :
  Calls Tryz.prog 17 #[.slice (some ⟨n,0,none⟩) 5 5] (V.alloc (.cells #[.int .i64 a1,.int .i64 a2,.int .i64 a3,.int .i64 b1,.int .i64 b2,.int .i64 b3,.int .i64 c1,.int .i64 c2,.int .i64 c3,.int .i64 d1,.int .i64 d2,.int .i64 d3,.int .i64 e1,.int .i64 e2,.int .i64 e3] 66))
   fun e w'=>e=.returned (errV (zAg r))∧Below V.heap.size V w':=by
 refine(zBG r n 5 [(a1,a2,a3),(b1,b2,b3),(c1,c2,c3),(d1,d2,d3),(e1,e2,e3)] _ (by simp[←hn]) (by simp) ?_ hr).mono ?_
 ·intro j hj i v hv;have Ew:j<5:=hj;rw[World.cell?_alloc_at _ _ _ _ hn.symm];rcases j with _|_|_|_|_|j
  ·rcases i with _|_|_|i <;>simp_all [zBd]
  ·rcases i with _|_|_|i <;>simp_all [zBd]
  ·rcases i with _|_|_|i <;>simp_all [zBd]
  ·rcases i with _|_|_|i <;>simp_all [zBd]
  ·rcases i with _|_|_|i <;>simp_all [zBd]
  ·omega
 ·rintro e w' ⟨rfl,hb⟩;exact⟨rfl,((bzR _ V).alloc (nzR _) _).trans (hb.mono (by simp))⟩
end Go.Proofs.YtmhcghgfpfainaaGreatDoor.spn
namespace Go.Proofs.YtmhcghgfpfainaaGreatDoor.tickP
open Go.RowKit spn
def errB(ok:Bool):Value:=if ok=true then .nilIface else .iface 80 (.int .i64 1)
def zAn(p:Int):Bool:=decide (1≤p) && decide (p≤10000)
def zAB(s:Int):Bool:=decide (s=1) || decide (s=2)
def zBy(s a b:Int):Bool:=zAB s && (zAn a && zAn b)
def betR(s a b:Int):Bool:=zBy s a b && (if s=1 then decide (a<b) else decide (b<a))
theorem zJx(p:Int):[(p,1,10000)].any zAo = !zAn p:=by
 rw[Bool.eq_iff_iff];simp[zAo,zAn]
theorem zNM(s a b:Int):[(s,1,2),(a,1,10000),(b,1,10000)].any zAo = !zBy s a b:=by
 rw[Bool.eq_iff_iff];simp[zAo,zBy,zAn,zAB];omega
theorem zAU(V:World)(p:Int)(w:World)(hV:Bw V w) :
  Calls Tryz.prog 132 #[.int .i64 p] w fun e w'=>e=.returned (errB (zAn p))∧Bw V w':=by
 have HS:Hid ([(p,1,10000)].any zAo = !zAn p):=zJx p;have HV:Hid (Bw V w):=hV;clear hV;cases hk:zAn p
 ·rw[hk] at HS;clear hk;go_enter Tryz.func132,Tryz.ntmps132;go_wp2_with fail;refine(zAy p w).mono ?_;rintro e w1⟨rfl,h1⟩;go_wp2_with fail;refine(scheck1 true _ _ _ _ _ rfl HS.out).mono ?_;rintro e w2⟨rfl,h2⟩;simp only[show errV (zAg true)=.iface 80 (.int .i64 1) from rfl]
  have ub:=HV.out;have GI:=ub.trans (h1.mono ub.size);have Ul:=GI.trans (h2.mono GI.size);have HD:Hid (Bw V w2):=Ul;clear h1 h2 ub GI Ul;go_wp2_with fail;go_ret;exact⟨rfl,HD.out⟩
 ·rw[hk] at HS;clear hk;go_enter Tryz.func132,Tryz.ntmps132;go_wp2_with fail;refine(zAy p w).mono ?_;rintro e w1⟨rfl,h1⟩;go_wp2_with fail;refine(scheck1 false _ _ _ _ _ rfl HS.out).mono ?_;rintro e w2⟨rfl,h2⟩;simp only[show errV (zAg false)=.nilIface from rfl]
  have ub:=HV.out;have GI:=ub.trans (h1.mono ub.size);have Ul:=GI.trans (h2.mono GI.size);have HD:Hid (Bw V w2):=Ul;clear h1 h2 ub GI Ul;go_wp2_with fail;go_ret;exact⟨rfl,HD.out⟩
theorem zIv(V:World)(s a b:Int)(w:World)(hV:Bw V w) :
  Calls Tryz.prog 134 #[.int .i64 s,.int .i64 a,.int .i64 b] w fun e w'=>e=.returned (.tuple #[.bool (betR s a b),errB (zBy s a b)])∧Bw V w':=by
 have HS:Hid ([(s,1,2),(a,1,10000),(b,1,10000)].any zAo = !zBy s a b):=zNM s a b;have HV:Hid (Bw V w):=hV;clear hV;cases hk:zBy s a b
 ·rw[hk] at HS;have e0:betR s a b=false:=by unfold betR;rw[hk];rfl
  rw[e0];clear e0 hk;go_enter Tryz.func134,Tryz.ntmps134;go_wp2_with fail;refine(zAO s w).mono ?_;rintro e w1⟨rfl,h1⟩;go_wp2_with fail;refine(zAy a w1).mono ?_;rintro e w2⟨rfl,h2⟩;go_wp2_with fail;refine(zAy b w2).mono ?_;rintro e w3⟨rfl,h3⟩;go_wp2_with fail;refine(scheck3 true _ _ _ _ _ _ _ _ _ _ _ rfl HS.out).mono ?_;rintro e w4⟨rfl,h4⟩;simp only[show errV (zAg true)=.iface 80 (.int .i64 1) from rfl]
  have ub:=HV.out;have GI:=ub.trans (h1.mono ub.size);have Ul:=GI.trans (h2.mono GI.size);have uG:=Ul.trans (h3.mono Ul.size);have uk:=uG.trans (h4.mono uG.size);have HD:Hid (Bw V w4):=uk;clear h1 h2 h3 h4 ub GI Ul uG uk;go_wp2_with fail
  go_ret2
  exact⟨rfl,HD.out⟩
 rw[hk] at HS;by_cases hs:s=1
 ·subst hs;have e0:betR 1 a b=decide (a<b):=by unfold betR;rw[hk,if_pos rfl];rfl
  rw[e0];clear e0 hk;go_enter Tryz.func134,Tryz.ntmps134;go_wp2_with fail;refine(zAO 1 w).mono ?_;rintro e w1⟨rfl,h1⟩;go_wp2_with fail;refine(zAy a w1).mono ?_;rintro e w2⟨rfl,h2⟩;go_wp2_with fail;refine(zAy b w2).mono ?_;rintro e w3⟨rfl,h3⟩;go_wp2_with fail;refine(scheck3 false _ _ _ _ _ _ _ _ _ _ _ rfl HS.out).mono ?_;rintro e w4⟨rfl,h4⟩;simp only[show errV (zAg false)=.nilIface from rfl]
  have ub:=HV.out;have GI:=ub.trans (h1.mono ub.size);have Ul:=GI.trans (h2.mono GI.size);have uG:=Ul.trans (h3.mono Ul.size);have uk:=uG.trans (h4.mono uG.size);have HD:Hid (Bw V w4):=uk;clear h1 h2 h3 h4 ub GI Ul uG uk;go_wp2_with fail
  go_ret2
  exact⟨rfl,HD.out⟩
 ·have Hm:(s == 1)=false:=by simp[hs]
  have e0:betR s a b=decide (b<a):=by unfold betR;rw[hk,if_neg hs];rfl
  rw[e0];clear e0 hk;go_enter Tryz.func134,Tryz.ntmps134;go_wp2_with fail;refine(zAO s w).mono ?_;rintro e w1⟨rfl,h1⟩;go_wp2_with fail;refine(zAy a w1).mono ?_;rintro e w2⟨rfl,h2⟩;go_wp2_with fail;refine(zAy b w2).mono ?_;rintro e w3⟨rfl,h3⟩;go_wp2_with fail;refine(scheck3 false _ _ _ _ _ _ _ _ _ _ _ rfl HS.out).mono ?_;rintro e w4⟨rfl,h4⟩;simp only[show errV (zAg false)=.nilIface from rfl]
  have ub:=HV.out;have GI:=ub.trans (h1.mono ub.size);have Ul:=GI.trans (h2.mono GI.size);have uG:=Ul.trans (h3.mono Ul.size);have uk:=uG.trans (h4.mono uG.size);have HD:Hid (Bw V w4):=uk;clear h1 h2 h3 h4 ub GI Ul uG uk;go_wp2_with fail
  go_ret2
  exact⟨rfl,HD.out⟩
end Go.Proofs.YtmhcghgfpfainaaGreatDoor.tickP
