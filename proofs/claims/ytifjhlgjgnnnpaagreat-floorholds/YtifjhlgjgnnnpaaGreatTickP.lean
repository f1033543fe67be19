import Derived.Shelf.SlicesQ.IndexFunc
import Derived.Shelf.SlSortCmp.InsertionK
import Derived.Shelf.SlicesG.Cmp
import Derived.Test.YtifjhlgjgnnnpaaGreatProg
import Derived.WalkKit
import Derived.ProofKit
import Derived.Outline
import Derived.WalkSpells
import Derived.WalkLawsBesides
import Derived.Below
import Derived.Handy
import Derived.Deep.RegionHeld3
import Derived.Deep.AppendLies
import Derived.Deep.DrawnRows
import Derived.Deep.CutRange
import Derived.Deep.DeepCutAuto
import Derived.Deep.MidRow
import Derived.BigQuiet
set_option maxHeartbeats 1000000
set_option maxRecDepth 100000
namespace Go.Proofs.YtifjhlgjgnnnpaaGreat
open Go.RowKit
theorem jA(w:World)(o:Obj):(w.alloc o).heap[w.heap.size]? = some o:=heap_alloc_new w o
theorem jB(w:World)(g i:Nat)(cs:Array Value)(t:TypeId)(v:Value)(h:w.heap[g]? = some (.cells cs t (0,0))):(w.setCell ⟨g,i,none⟩ v).heap[g]? = some (.cells (cs.setIfInBounds i v) t (0,0)):=heap_setCell_same w g i cs t v h
theorem jC{n m k:Nat}(h:n<m)(h2:m≤k):n<k:=Nat.lt_of_lt_of_le h h2
theorem jD{n m:Nat}(h:n≤m):n≤m.succ:=Nat.le_succ_of_le h
theorem jE{α:Type}{a b:List α}:(a++b).length=a.length+b.length:=List.length_append
theorem jF{α β:Type}{f:α→β}{a b:List α}:(a++b).map f=a.map f++b.map f:=List.map_append
theorem jG{α:Type}{a:α}{b:List α}:(a::b).length=b.length+1:=List.length_cons
theorem jH{α:Type}(a:List α):a++[]=a:=List.append_nil a
theorem jJ{α:Type}{i:Nat}{l:List α}:(l.take i).length=min i l.length:=List.length_take
theorem jK{α β:Type}{f:α→β}{a:α}{l:List α}:(a::l).map f=f a::l.map f:=List.map_cons
theorem jL(n:Nat):0≤n:=Nat.zero_le n
theorem jM{n m k:Nat}(h:n≤m)(h2:m≤k):n≤k:=Nat.le_trans h h2
theorem jN{P:Program}{fn:Func}{R:Ending→World→Prop}{a:Act}{w:World}{v:Value}(h:(results fn a.tmps).run P w=.ok v w)(h2:a.defers=[])(h3:R (.returned v) w):bodyPost P fn R .ret a w:=bodyPost_ret h h2 h3
theorem jP{α β:Type}{a:List α}(f:α→β):(a.map f).length=a.length:=List.length_map f
theorem jQ{α:Type}{i:Nat}{l:List α}:(l.drop i).length=l.length-i:=List.length_drop
theorem jR{α:Type}(i:Nat)(l:List α):l.take i++l.drop i=l:=List.take_append_drop i l
theorem jS{α:Type}(a b c:List α):a++b++c=a++(b++c):=List.append_assoc a b c
theorem jT{α:Type}{l:List α}{n:Nat}(h:n<l.length):l[n]∈l:=List.getElem_mem h
theorem jU{α:Type}(a:List α):[]++a=a:=List.nil_append a
theorem jV{α:Type}{a b:List α}{i:Nat}(h:a.length≤i):(a++b)[i]? = b[i-a.length]?:=List.getElem?_append_right h
theorem jW(n:Nat):¬n<n:=Nat.lt_irrefl n
theorem jX{n m:Nat}(h:n<m):n≤m:=Nat.le_of_lt h
theorem jY(a:Int):a≤a:=Int.le_refl a
theorem jZ(w:World)(g j:Nat)(cs:Array Value)(t:TypeId)(fr:Nat×Nat)(h:w.heap[g]? = some (.cells cs t fr)):w.cell? ⟨g,j,none⟩ = cs[j]?:=cell_of_row w g j cs t fr h
theorem gzE{α:Type}{xs:Array α}{i:Nat}{a:α}:xs[i]? = some a↔∃ h:i<xs.size,xs[i] = a:=Array.getElem?_eq_some_iff
theorem nzR(n:Nat):n≤n:=Nat.le_refl n
theorem bzR(B:Nat)(w:World):Below B w w:=Below.refl B w
end Go.Proofs.YtifjhlgjgnnnpaaGreat
namespace Go.Proofs
open Go.Shelf
def Tryz.lh8_ren:Go.Shelf.Ren:=⟨fun|8=>44|6=>70|n=>n,fun|22=>102|23=>74|25=>104|4=>4|3=>3|0=>0|n=>n,fun|n=>n⟩
theorem Tryz.lh8:Go.Proofs.SlLaysH0.n8 Tryz.prog Tryz.lh8_ren:={
 mixed:=by kernel_rfl
 f6:=⟨Tryz.f70.name,by decide,Tryz.func70.trans (congrArg some (by kernel_rfl))⟩
 f8:=⟨Tryz.f44.name,by decide,Tryz.func44.trans (congrArg some (by kernel_rfl))⟩
 t0:=Tryz.underlying0
 a0:=Tryz.isAgg0
 z0:=Tryz.sizeOf0
 v0:=Tryz.zeroValue0
 t3:=Tryz.underlying3
 a3:=Tryz.isAgg3
 z3:=Tryz.sizeOf3
 v3:=Tryz.zeroValue3
 t4:=Tryz.underlying4
 a4:=Tryz.isAgg4
 z4:=Tryz.sizeOf4
 v4:=Tryz.zeroValue4
 t22:=Tryz.underlying102
 a22:=Tryz.isAgg102
 z22:=Tryz.sizeOf102
 v22:=Tryz.zeroValue102
 t25:=Tryz.underlying104
 a25:=Tryz.isAgg104
 z25:=Tryz.sizeOf104
 v25:=Tryz.zeroValue104 }
def Tryz.lq6_ren:Go.Shelf.Ren:=⟨fun|6=>151|n=>n,fun|22=>50|23=>54|25=>223|3=>3|0=>0|4=>4|n=>n,fun|n=>n⟩
theorem Tryz.lq6:Go.Proofs.SlLaysH0.n6 Tryz.prog Tryz.lq6_ren:={
 mixed:=by kernel_rfl
 f6:=⟨Tryz.f151.name,by decide,Tryz.func151.trans (congrArg some (by kernel_rfl))⟩
 t0:=Tryz.underlying0
 a0:=Tryz.isAgg0
 z0:=Tryz.sizeOf0
 v0:=Tryz.zeroValue0
 t3:=Tryz.underlying3
 a3:=Tryz.isAgg3
 z3:=Tryz.sizeOf3
 v3:=Tryz.zeroValue3
 t4:=Tryz.underlying4
 a4:=Tryz.isAgg4
 z4:=Tryz.sizeOf4
 v4:=Tryz.zeroValue4
 t22:=Tryz.underlying50
 a22:=Tryz.isAgg50
 z22:=Tryz.sizeOf50
 v22:=Tryz.zeroValue50
 t25:=Tryz.underlying223
 a25:=Tryz.isAgg223
 z25:=Tryz.sizeOf223
 v25:=Tryz.zeroValue223 }
def Tryz.lq6l_ren:Go.Shelf.Ren:=⟨fun|6=>155|n=>n,fun|22=>44|23=>52|25=>226|3=>3|0=>0|4=>4|n=>n,fun|n=>n⟩
theorem Tryz.lq6l:Go.Proofs.SlLaysH0.n6 Tryz.prog Tryz.lq6l_ren:={
 mixed:=by kernel_rfl
 f6:=⟨Tryz.f155.name,by decide,Tryz.func155.trans (congrArg some (by kernel_rfl))⟩
 t0:=Tryz.underlying0
 a0:=Tryz.isAgg0
 z0:=Tryz.sizeOf0
 v0:=Tryz.zeroValue0
 t3:=Tryz.underlying3
 a3:=Tryz.isAgg3
 z3:=Tryz.sizeOf3
 v3:=Tryz.zeroValue3
 t4:=Tryz.underlying4
 a4:=Tryz.isAgg4
 z4:=Tryz.sizeOf4
 v4:=Tryz.zeroValue4
 t22:=Tryz.underlying44
 a22:=Tryz.isAgg44
 z22:=Tryz.sizeOf44
 v22:=Tryz.zeroValue44
 t25:=Tryz.underlying226
 a25:=Tryz.isAgg226
 z25:=Tryz.sizeOf226
 v25:=Tryz.zeroValue226 }
def Tryz.lq6o_ren:Go.Shelf.Ren:=⟨fun|6=>131|n=>n,fun|22=>57|23=>32|25=>189|3=>3|0=>0|4=>4|n=>n,fun|n=>n⟩
theorem Tryz.lq6o:Go.Proofs.SlLaysH0.n6 Tryz.prog Tryz.lq6o_ren:={
 mixed:=by kernel_rfl
 f6:=⟨Tryz.f131.name,by decide,Tryz.func131.trans (congrArg some (by kernel_rfl))⟩
 t0:=Tryz.underlying0
 a0:=Tryz.isAgg0
 z0:=Tryz.sizeOf0
 v0:=Tryz.zeroValue0
 t3:=Tryz.underlying3
 a3:=Tryz.isAgg3
 z3:=Tryz.sizeOf3
 v3:=Tryz.zeroValue3
 t4:=Tryz.underlying4
 a4:=Tryz.isAgg4
 z4:=Tryz.sizeOf4
 v4:=Tryz.zeroValue4
 t22:=Tryz.underlying57
 a22:=Tryz.isAgg57
 z22:=Tryz.sizeOf57
 v22:=Tryz.zeroValue57
 t25:=Tryz.underlying189
 a25:=Tryz.isAgg189
 z25:=Tryz.sizeOf189
 v25:=Tryz.zeroValue189 }
def Tryz.lins_ren:Go.Shelf.Ren:=⟨fun|20=>171|n=>n,fun|24=>32|22=>57|3=>3|25=>233|4=>4|0=>0|n=>n,fun|n=>n⟩
theorem Tryz.lins:Go.Proofs.SlLaysF0.n20 Tryz.prog Tryz.lins_ren:={
 mixed:=by kernel_rfl
 f20:=⟨Tryz.f171.name,by decide,Tryz.func171.trans (congrArg some (by kernel_rfl))⟩
 t0:=Tryz.underlying0
 a0:=Tryz.isAgg0
 z0:=Tryz.sizeOf0
 v0:=Tryz.zeroValue0
 t3:=Tryz.underlying3
 a3:=Tryz.isAgg3
 z3:=Tryz.sizeOf3
 v3:=Tryz.zeroValue3
 t4:=Tryz.underlying4
 a4:=Tryz.isAgg4
 z4:=Tryz.sizeOf4
 v4:=Tryz.zeroValue4
 t22:=Tryz.underlying57
 a22:=Tryz.isAgg57
 z22:=Tryz.sizeOf57
 v22:=Tryz.zeroValue57
 t25:=Tryz.underlying233
 a25:=Tryz.isAgg233
 z25:=Tryz.sizeOf233
 v25:=Tryz.zeroValue233 }
def Tryz.lcmp_ren:Go.Shelf.Ren:=⟨fun|5=>164|7=>169|n=>n,fun|22=>3|3=>3|4=>4|n=>n,fun|n=>n⟩
theorem Tryz.lcmp:Go.Proofs.SlLaysC2.n5 Tryz.prog Tryz.lcmp_ren:={
 mixed:=by kernel_rfl
 f5:=⟨Tryz.f164.name,by decide,Tryz.func164.trans (congrArg some (by kernel_rfl))⟩
 f7:=⟨Tryz.f169.name,by decide,Tryz.func169.trans (congrArg some (by kernel_rfl))⟩
 t3:=Tryz.underlying3
 a3:=Tryz.isAgg3
 z3:=Tryz.sizeOf3
 v3:=Tryz.zeroValue3
 t4:=Tryz.underlying4
 a4:=Tryz.isAgg4
 z4:=Tryz.sizeOf4
 v4:=Tryz.zeroValue4
 t22:=Tryz.underlying3
 a22:=Tryz.isAgg3
 z22:=Tryz.sizeOf3
 v22:=Tryz.zeroValue3 }
end Go.Proofs
namespace Go.Proofs.YtifjhlgjgnnnpaaGreat.spn
open Go.RowKit
theorem zAa{V W:World}(h:Below V.heap.size V W){a:Addr}{v:Value}(hc:V.cell? a=some v):W.cell? a=some v:=
 (h.cell (p:=a) (World.block_lt_of_cell? V a hc)).trans hc
def zAo(x:Int × Int × Int):Bool:=decide (x.1<x.2.1) || decide (x.2.2<x.1)
def zBC(x:Int × Int × Int):List Value:=[.int .i64 x.1,.int .i64 x.2.1,.int .i64 x.2.2]
theorem zBL(n lo hi:Int)(w:World) :
  Calls Tryz.prog 46 #[.int .i64 n,.int .i64 lo,.int .i64 hi] w fun e w'=>e=.returned (.agg #[.int .i64 n,.int .i64 lo,.int .i64 hi])∧Below w.heap.size w w':=by
 go_enter Tryz.func46,Tryz.ntmps46
 go_wp2
 go_returns
 exact⟨rfl,(bzR _ _).alloc (nzR _) _⟩
theorem zDH(n:Int)(w:World) :
  Calls Tryz.prog 24 #[.int .i64 n] w fun e w'=>e=.returned (.agg #[.int .i64 n,.int .i64 0,.int .i64 3])∧Below w.heap.size w w':=by
 go_enter Tryz.func24,Tryz.ntmps24
 go_wp2
 go_returns
 exact⟨rfl,((bzR _ _).alloc (nzR _) _).alloc (by simp) _⟩
theorem zJA(n:Int)(w:World) :
  Calls Tryz.prog 62 #[.int .i64 n] w fun e w'=>e=.returned (.agg #[.int .i64 n,.int .i64 1,.int .i64 9999])∧Below w.heap.size w w':=by
 go_enter Tryz.func62,Tryz.ntmps62
 go_wp2
 go_returns
 exact⟨rfl,((bzR _ _).alloc (nzR _) _).alloc (by simp) _⟩
theorem zCr(n:Int)(w:World) :
  Calls Tryz.prog 56 #[.int .i64 n] w fun e w'=>e=.returned (.agg #[.int .i64 n,.int .i64 1,.int .i64 9])∧Below w.heap.size w w':=by
 go_enter Tryz.func56,Tryz.ntmps56
 go_wp2
 go_returns
 exact⟨rfl,((bzR _ _).alloc (nzR _) _).alloc (by simp) _⟩
theorem zBb(n:Int)(w:World) :
  Calls Tryz.prog 63 #[.int .i64 n] w fun e w'=>e=.returned (.agg #[.int .i64 n,.int .i64 1,.int .i64 10000])∧Below w.heap.size w w':=by
 go_enter Tryz.func63,Tryz.ntmps63
 go_wp2
 go_returns
 exact⟨rfl,((bzR _ _).alloc (nzR _) _).alloc (by simp) _⟩
theorem zAA(n:Int)(w:World) :
  Calls Tryz.prog 38 #[.int .i64 n] w fun e w'=>e=.returned (.agg #[.int .i64 n,.int .i64 1,.int .i64 10000])∧Below w.heap.size w w':=by
 go_enter Tryz.func38,Tryz.ntmps38
 go_wp2
 go_returns
 exact⟨rfl,((bzR _ _).alloc (nzR _) _).alloc (by simp) _⟩
theorem zAO(n:Int)(w:World) :
  Calls Tryz.prog 37 #[.int .i64 n] w fun e w'=>e=.returned (.agg #[.int .i64 n,.int .i64 1,.int .i64 2])∧Below w.heap.size w w':=by
 go_enter Tryz.func37,Tryz.ntmps37
 go_wp2
 go_returns
 exact⟨rfl,((bzR _ _).alloc (nzR _) _).alloc (by simp) _⟩
def errV(k:Int):Value:=if k=0 then .nilIface else .iface 91 (.int .i64 k)
theorem errV_zero:errV 0=.nilIface:=rfl
theorem errV_of{k:Int}(h:¬k=0):errV k=.iface 91 (.int .i64 k):=if_neg h
def zAk(r:Bool):Int:=if r=true then 1 else 0
theorem zJB(w:World):PredBelow Tryz.prog 45 #[] (fun x=>.agg (zBC x).toArray) zAo w:=by
 intro W x hb
 obtain⟨n,lo,hi⟩:=x
 show Calls Tryz.prog 45 #[.agg #[.int .i64 n,.int .i64 lo,.int .i64 hi]] W _
 by_cases h:n<lo
 ·go_enter Tryz.func45,Tryz.ntmps45
  go_wp2
  go_ret
  exact⟨by simp[zAo,h],hb.alloc hb.size _⟩
 ·go_enter Tryz.func45,Tryz.ntmps45
  go_wp2
  go_ret
  have e1:zAo (n,lo,hi)=decide (hi<n):=by
   unfold zAo
   rw[show decide (n<lo)=false from by simp;omega]
   rfl
  exact⟨by rw[e1];rfl,hb.alloc hb.size _⟩
theorem zCs(r:Bool)(b c:Nat)(zs:List (Int × Int × Int))(w:World)(hb:b<w.heap.size)(hn:zs.length≤9)
  (hc:∀j,j<zs.length→∀i v,(zBC zs[j]!)[i]?=some v→w.cell? ⟨b,0+j*3+i,none⟩=some v) (hr:zs.any zAo=r) :
  Calls Tryz.prog 23 #[.slice (some ⟨b,0,none⟩) zs.length c] w fun e w'=>e=.returned (errV (zAk r))∧Below w.heap.size w w':=by
 have eg:∀args w,(callFunc 45 args).run Tryz.prog w=.ok (.enter 45 args) w:=enters_of Tryz.func45 (by kernel_rfl) rfl
 have hcon:=AnyQ.slices_ContainsFunc Tryz.lh8 3 Tryz.isAgg74 Tryz.sizeOf74 zBC (fun x=>rfl) zAo 45 #[] eg b 0 zs.length c zs w
  (zJB w) (nzR _) (by omega) hb hc
 change Calls Tryz.prog 44 _ _ _ at hcon
 rw[List.take_length,hr] at hcon
 clear hc hr
 generalize zs.length=n at *
 cases r
 ·go_enter Tryz.func23,Tryz.ntmps23
  go_wp2_with (go_at_call 44;refine hcon.mono ?_;rintro e w' ⟨rfl,hb'⟩)
  go_ret
  exact⟨rfl,hb'⟩
 ·go_enter Tryz.func23,Tryz.ntmps23
  go_wp2_with (go_at_call 44;refine hcon.mono ?_;rintro e w' ⟨rfl,hb'⟩)
  go_ret
  exact⟨rfl,hb'⟩
theorem bcell{W w1:World}(hb:Below W.heap.size W w1):(∀b o,b<W.heap.size→w1.cell? ⟨b,o,none⟩=W.cell? ⟨b,o,none⟩)∧(∀b o,b<W.heap.size→w1.frozen? ⟨b,o,none⟩=W.frozen? ⟨b,o,none⟩):=
 ⟨fun b o h=>hb.cell (p:=⟨b,o,none⟩) h,fun b o h=>hb.frozen (p:=⟨b,o,none⟩) h⟩
theorem scheck1(r:Bool)(a1 a2 a3:Int)(n:Nat)(V:World)(hn:V.heap.size=n)
  (hr:[(a1,a2,a3)].any zAo=r) :
  Calls Tryz.prog 23 #[.slice (some ⟨n,0,none⟩) 1 1] (V.alloc (.cells #[.int .i64 a1,.int .i64 a2,.int .i64 a3] 74))
   fun e w'=>e=.returned (errV (zAk r))∧Below V.heap.size V w':=by
 refine(zCs r n 1 [(a1,a2,a3)] _ (by simp[←hn]) (by simp) ?_ hr).mono ?_
 ·intro j hj i v hv
  have hj4:j<1:=hj
  rw[World.cell?_alloc_at _ _ _ _ hn.symm]
  rcases j with _|j
  ·rcases i with _|_|_|i <;>simp_all [zBC]
  ·omega
 ·rintro e w' ⟨rfl,hb⟩
  exact⟨rfl,((bzR _ V).alloc (nzR _) _).trans (hb.mono (by simp))⟩
theorem scheck2(r:Bool)(a1 a2 a3 b1 b2 b3:Int)(n:Nat)(V:World)(hn:V.heap.size=n)
  (hr:[(a1,a2,a3),(b1,b2,b3)].any zAo=r) :
  Calls Tryz.prog 23 #[.slice (some ⟨n,0,none⟩) 2 2] (V.alloc (.cells #[.int .i64 a1,.int .i64 a2,.int .i64 a3,.int .i64 b1,.int .i64 b2,.int .i64 b3] 74))
   fun e w'=>e=.returned (errV (zAk r))∧Below V.heap.size V w':=by
 refine(zCs r n 2 [(a1,a2,a3),(b1,b2,b3)] _ (by simp[←hn]) (by simp) ?_ hr).mono ?_
 ·intro j hj i v hv
  have hj4:j<2:=hj
  rw[World.cell?_alloc_at _ _ _ _ hn.symm]
  rcases j with _|_|j
  ·rcases i with _|_|_|i <;>simp_all [zBC]
  ·rcases i with _|_|_|i <;>simp_all [zBC]
  ·omega
 ·rintro e w' ⟨rfl,hb⟩
  exact⟨rfl,((bzR _ V).alloc (nzR _) _).trans (hb.mono (by simp))⟩
theorem scheck3(r:Bool)(a1 a2 a3 b1 b2 b3 c1 c2 c3:Int)(n:Nat)(V:World)(hn:V.heap.size=n)
  (hr:[(a1,a2,a3),(b1,b2,b3),(c1,c2,c3)].any zAo=r) :
  Calls Tryz.prog 23 #[.slice (some ⟨n,0,none⟩) 3 3] (V.alloc (.cells #[.int .i64 a1,.int .i64 a2,.int .i64 a3,.int .i64 b1,.int .i64 b2,.int .i64 b3,.int .i64 c1,.int .i64 c2,.int .i64 c3] 74))
   fun e w'=>e=.returned (errV (zAk r))∧Below V.heap.size V w':=by
 refine(zCs r n 3 [(a1,a2,a3),(b1,b2,b3),(c1,c2,c3)] _ (by simp[←hn]) (by simp) ?_ hr).mono ?_
 ·intro j hj i v hv
  have hj4:j<3:=hj
  rw[World.cell?_alloc_at _ _ _ _ hn.symm]
  rcases j with _|_|_|j
  ·rcases i with _|_|_|i <;>simp_all [zBC]
  ·rcases i with _|_|_|i <;>simp_all [zBC]
  ·rcases i with _|_|_|i <;>simp_all [zBC]
  ·omega
 ·rintro e w' ⟨rfl,hb⟩
  exact⟨rfl,((bzR _ V).alloc (nzR _) _).trans (hb.mono (by simp))⟩
theorem scheck4(r:Bool)(a1 a2 a3 b1 b2 b3 c1 c2 c3 d1 d2 d3:Int)(n:Nat)(V:World)(hn:V.heap.size=n)
  (hr:[(a1,a2,a3),(b1,b2,b3),(c1,c2,c3),(d1,d2,d3)].any zAo=r) :
  Calls Tryz.prog 23 #[.slice (some ⟨n,0,none⟩) 4 4] (V.alloc (.cells #[.int .i64 a1,.int .i64 a2,.int .i64 a3,.int .i64 b1,.int .i64 b2,.int .i64 b3,.int .i64 c1,.int .i64 c2,.int .i64 c3,.int .i64 d1,.int .i64 d2,.int .i64 d3] 74))
   fun e w'=>e=.returned (errV (zAk r))∧Below V.heap.size V w':=by
 refine(zCs r n 4 [(a1,a2,a3),(b1,b2,b3),(c1,c2,c3),(d1,d2,d3)] _ (by simp[←hn]) (by simp) ?_ hr).mono ?_
 ·intro j hj i v hv
  have hj4:j<4:=hj
  rw[World.cell?_alloc_at _ _ _ _ hn.symm]
  rcases j with _|_|_|_|j
  ·rcases i with _|_|_|i <;>simp_all [zBC]
  ·rcases i with _|_|_|i <;>simp_all [zBC]
  ·rcases i with _|_|_|i <;>simp_all [zBC]
  ·rcases i with _|_|_|i <;>simp_all [zBC]
  ·omega
 ·rintro e w' ⟨rfl,hb⟩
  exact⟨rfl,((bzR _ V).alloc (nzR _) _).trans (hb.mono (by simp))⟩
theorem scheck5(r:Bool)(a1 a2 a3 b1 b2 b3 c1 c2 c3 d1 d2 d3 e1 e2 e3:Int)(n:Nat)(V:World)(hn:V.heap.size=n)
  (hr:[(a1,a2,a3),(b1,b2,b3),(c1,c2,c3),(d1,d2,d3),(e1,e2,e3)].any zAo=r) :
  Calls Tryz.prog 23 #[.slice (some ⟨n,0,none⟩) 5 5] (V.alloc (.cells #[.int .i64 a1,.int .i64 a2,.int .i64 a3,.int .i64 b1,.int .i64 b2,.int .i64 b3,.int .i64 c1,.int .i64 c2,.int .i64 c3,.int .i64 d1,.int .i64 d2,.int .i64 d3,.int .i64 e1,.int .i64 e2,.int .i64 e3] 74))
   fun e w'=>e=.returned (errV (zAk r))∧Below V.heap.size V w':=by
 refine(zCs r n 5 [(a1,a2,a3),(b1,b2,b3),(c1,c2,c3),(d1,d2,d3),(e1,e2,e3)] _ (by simp[←hn]) (by simp) ?_ hr).mono ?_
 ·intro j hj i v hv
  have hj4:j<5:=hj
  rw[World.cell?_alloc_at _ _ _ _ hn.symm]
  rcases j with _|_|_|_|_|j
  ·rcases i with _|_|_|i <;>simp_all [zBC]
  ·rcases i with _|_|_|i <;>simp_all [zBC]
  ·rcases i with _|_|_|i <;>simp_all [zBC]
  ·rcases i with _|_|_|i <;>simp_all [zBC]
  ·rcases i with _|_|_|i <;>simp_all [zBC]
  ·omega
 ·rintro e w' ⟨rfl,hb⟩
  exact⟨rfl,((bzR _ V).alloc (nzR _) _).trans (hb.mono (by simp))⟩
end Go.Proofs.YtifjhlgjgnnnpaaGreat.spn
namespace Go.Proofs.YtifjhlgjgnnnpaaGreat.tickP
open Go.RowKit spn
def errB(ok:Bool):Value:=if ok=true then .nilIface else .iface 91 (.int .i64 1)
def zAm(p:Int):Bool:=decide (1≤p) && decide (p≤10000)
def zAz(s:Int):Bool:=decide (s=1) || decide (s=2)
def zBt(s a b:Int):Bool:=zAz s && (zAm a && zAm b)
def betR(s a b:Int):Bool:=zBt s a b && (if s=1 then decide (a<b) else decide (b<a))
theorem zIu(p:Int):[(p,1,10000)].any zAo = !zAm p:=by
 rw[Bool.eq_iff_iff];simp[zAo,zAm]
theorem zMB(s a b:Int):[(s,1,2),(a,1,10000),(b,1,10000)].any zAo = !zBt s a b:=by
 rw[Bool.eq_iff_iff];simp[zAo,zBt,zAm,zAz];omega
theorem zAT(V:World)(p:Int)(w:World)(hV:Below V.heap.size V w) :
  Calls Tryz.prog 17 #[.int .i64 p] w fun e w'=>e=.returned (errB (zAm p))∧Below V.heap.size V w':=by
 have HS:Hid ([(p,1,10000)].any zAo = !zAm p):=zIu p
 have HV:Hid (Below V.heap.size V w):=hV
 clear hV
 cases hk:zAm p
 ·rw[hk] at HS
  clear hk
  go_enter Tryz.func17,Tryz.ntmps17
  go_wp2_with fail
  refine(zAA p w).mono ?_
  rintro e w1⟨rfl,h1⟩
  go_wp2_with fail
  refine(scheck1 true _ _ _ _ _ rfl HS.out).mono ?_
  rintro e w2⟨rfl,h2⟩
  simp only[show errV (zAk true)=.iface 91 (.int .i64 1) from rfl]
  have hA0:=HV.out
  have hA1:=hA0.trans (h1.mono hA0.size)
  have hA2:=hA1.trans (h2.mono hA1.size)
  have HD:Hid (Below V.heap.size V w2):=hA2
  clear h1 h2 hA0 hA1 hA2
  go_wp2_with fail
  go_ret
  exact⟨rfl,HD.out⟩
 ·rw[hk] at HS
  clear hk
  go_enter Tryz.func17,Tryz.ntmps17
  go_wp2_with fail
  refine(zAA p w).mono ?_
  rintro e w1⟨rfl,h1⟩
  go_wp2_with fail
  refine(scheck1 false _ _ _ _ _ rfl HS.out).mono ?_
  rintro e w2⟨rfl,h2⟩
  simp only[show errV (zAk false)=.nilIface from rfl]
  have hA0:=HV.out
  have hA1:=hA0.trans (h1.mono hA0.size)
  have hA2:=hA1.trans (h2.mono hA1.size)
  have HD:Hid (Below V.heap.size V w2):=hA2
  clear h1 h2 hA0 hA1 hA2
  go_wp2_with fail
  go_ret
  exact⟨rfl,HD.out⟩
theorem zHy(V:World)(s a b:Int)(w:World)(hV:Below V.heap.size V w) :
  Calls Tryz.prog 118 #[.int .i64 s,.int .i64 a,.int .i64 b] w fun e w'=>e=.returned (.tuple #[.bool (betR s a b),errB (zBt s a b)])∧Below V.heap.size V w':=by
 have HS:Hid ([(s,1,2),(a,1,10000),(b,1,10000)].any zAo = !zBt s a b):=zMB s a b
 have HV:Hid (Below V.heap.size V w):=hV
 clear hV
 cases hk:zBt s a b
 ·rw[hk] at HS
  have e0:betR s a b=false:=by unfold betR;rw[hk];rfl
  rw[e0]
  clear e0 hk
  go_enter Tryz.func118,Tryz.ntmps118
  go_wp2_with fail
  refine(zAO s w).mono ?_
  rintro e w1⟨rfl,h1⟩
  go_wp2_with fail
  refine(zAA a w1).mono ?_
  rintro e w2⟨rfl,h2⟩
  go_wp2_with fail
  refine(zAA b w2).mono ?_
  rintro e w3⟨rfl,h3⟩
  go_wp2_with fail
  refine(scheck3 true _ _ _ _ _ _ _ _ _ _ _ rfl HS.out).mono ?_
  rintro e w4⟨rfl,h4⟩
  simp only[show errV (zAk true)=.iface 91 (.int .i64 1) from rfl]
  have hA0:=HV.out
  have hA1:=hA0.trans (h1.mono hA0.size)
  have hA2:=hA1.trans (h2.mono hA1.size)
  have hA3:=hA2.trans (h3.mono hA2.size)
  have hA4:=hA3.trans (h4.mono hA3.size)
  have HD:Hid (Below V.heap.size V w4):=hA4
  clear h1 h2 h3 h4 hA0 hA1 hA2 hA3 hA4
  go_wp2_with fail
  go_ret2
  exact⟨rfl,HD.out⟩
 rw[hk] at HS
 by_cases hs:s=1
 ·subst hs
  have e0:betR 1 a b=decide (a<b):=by unfold betR;rw[hk,if_pos rfl];rfl
  rw[e0]
  clear e0 hk
  go_enter Tryz.func118,Tryz.ntmps118
  go_wp2_with fail
  refine(zAO 1 w).mono ?_
  rintro e w1⟨rfl,h1⟩
  go_wp2_with fail
  refine(zAA a w1).mono ?_
  rintro e w2⟨rfl,h2⟩
  go_wp2_with fail
  refine(zAA b w2).mono ?_
  rintro e w3⟨rfl,h3⟩
  go_wp2_with fail
  refine(scheck3 false _ _ _ _ _ _ _ _ _ _ _ rfl HS.out).mono ?_
  rintro e w4⟨rfl,h4⟩
  simp only[show errV (zAk false)=.nilIface from rfl]
  have hA0:=HV.out
  have hA1:=hA0.trans (h1.mono hA0.size)
  have hA2:=hA1.trans (h2.mono hA1.size)
  have hA3:=hA2.trans (h3.mono hA2.size)
  have hA4:=hA3.trans (h4.mono hA3.size)
  have HD:Hid (Below V.heap.size V w4):=hA4
  clear h1 h2 h3 h4 hA0 hA1 hA2 hA3 hA4
  go_wp2_with fail
  go_ret2
  exact⟨rfl,HD.out⟩
 ·have hs1:(s == 1)=false:=by simp[hs]
  have e0:betR s a b=decide (b<a):=by unfold betR;rw[hk,if_neg hs];rfl
  rw[e0]
  clear e0 hk
  go_enter Tryz.func118,Tryz.ntmps118
  go_wp2_with fail
  refine(zAO s w).mono ?_
  rintro e w1⟨rfl,h1⟩
  go_wp2_with fail
  refine(zAA a w1).mono ?_
  rintro e w2⟨rfl,h2⟩
  go_wp2_with fail
  refine(zAA b w2).mono ?_
  rintro e w3⟨rfl,h3⟩
  go_wp2_with fail
  refine(scheck3 false _ _ _ _ _ _ _ _ _ _ _ rfl HS.out).mono ?_
  rintro e w4⟨rfl,h4⟩
  simp only[show errV (zAk false)=.nilIface from rfl]
  have hA0:=HV.out
  have hA1:=hA0.trans (h1.mono hA0.size)
  have hA2:=hA1.trans (h2.mono hA1.size)
  have hA3:=hA2.trans (h3.mono hA2.size)
  have hA4:=hA3.trans (h4.mono hA3.size)
  have HD:Hid (Below V.heap.size V w4):=hA4
  clear h1 h2 h3 h4 hA0 hA1 hA2 hA3 hA4
  go_wp2_with fail
  go_ret2
  exact⟨rfl,HD.out⟩
end Go.Proofs.YtifjhlgjgnnnpaaGreat.tickP
