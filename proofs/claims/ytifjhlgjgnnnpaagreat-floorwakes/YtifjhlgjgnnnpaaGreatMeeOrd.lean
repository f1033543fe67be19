import Derived.Shelf.SlicesQ.IndexFunc
import Derived.Shelf.SlSortCmp.InsertionK
import Derived.Shelf.SlicesG.Cmp
import Derived.Test.YtifjhlgjgnnnpaaGreatProg
import Derived.WalkKit
import Derived.ProofKit
import Derived.Outline
import Derived.WalkSpells
import Derived.WalkLawsBesides
import Derived.Below
import Derived.Handy
import Derived.Deep.RegionHeld3
import Derived.Deep.AppendLies
import Derived.Deep.DrawnRows
import Derived.Deep.CutRange
import Derived.Deep.DeepCutAuto
import Derived.Deep.MidRow
import Derived.BigQuiet
set_option maxHeartbeats 2000000
set_option maxRecDepth 100000
namespace Go.Proofs.YtifjhlgjgnnnpaaGreat
open Go.RowKit
theorem gzE{α:Type}{xs:Array α}{i:Nat}{a:α}:xs[i]? = some a↔∃ h:i<xs.size,xs[i] = a:=Array.getElem?_eq_some_iff
theorem nzR(n:Nat):n≤n:=Nat.le_refl n
theorem bzR(B:Nat)(w:World):Below B w w:=Below.refl B w
end Go.Proofs.YtifjhlgjgnnnpaaGreat
namespace Go.Proofs
open Go.Shelf
def Tryz.lh8_ren:Go.Shelf.Ren:=⟨fun|8=>44|6=>70|n=>n,fun|22=>102|23=>74|25=>104|4=>4|3=>3|0=>0|n=>n,fun|n=>n⟩
theorem Tryz.lh8:Go.Proofs.SlLaysH0.n8 Tryz.prog Tryz.lh8_ren:={
 mixed:=by kernel_rfl
 f6:=⟨Tryz.f70.name,by decide,Tryz.func70.trans (congrArg some (by kernel_rfl))⟩
 f8:=⟨Tryz.f44.name,by decide,Tryz.func44.trans (congrArg some (by kernel_rfl))⟩
 t0:=Tryz.underlying0
 a0:=Tryz.isAgg0
 z0:=Tryz.sizeOf0
 v0:=Tryz.zeroValue0
 t3:=Tryz.underlying3
 a3:=Tryz.isAgg3
 z3:=Tryz.sizeOf3
 v3:=Tryz.zeroValue3
 t4:=Tryz.underlying4
 a4:=Tryz.isAgg4
 z4:=Tryz.sizeOf4
 v4:=Tryz.zeroValue4
 t22:=Tryz.underlying102
 a22:=Tryz.isAgg102
 z22:=Tryz.sizeOf102
 v22:=Tryz.zeroValue102
 t25:=Tryz.underlying104
 a25:=Tryz.isAgg104
 z25:=Tryz.sizeOf104
 v25:=Tryz.zeroValue104 }
def Tryz.lq6_ren:Go.Shelf.Ren:=⟨fun|6=>151|n=>n,fun|22=>50|23=>54|25=>223|3=>3|0=>0|4=>4|n=>n,fun|n=>n⟩
theorem Tryz.lq6:Go.Proofs.SlLaysH0.n6 Tryz.prog Tryz.lq6_ren:={
 mixed:=by kernel_rfl
 f6:=⟨Tryz.f151.name,by decide,Tryz.func151.trans (congrArg some (by kernel_rfl))⟩
 t0:=Tryz.underlying0
 a0:=Tryz.isAgg0
 z0:=Tryz.sizeOf0
 v0:=Tryz.zeroValue0
 t3:=Tryz.underlying3
 a3:=Tryz.isAgg3
 z3:=Tryz.sizeOf3
 v3:=Tryz.zeroValue3
 t4:=Tryz.underlying4
 a4:=Tryz.isAgg4
 z4:=Tryz.sizeOf4
 v4:=Tryz.zeroValue4
 t22:=Tryz.underlying50
 a22:=Tryz.isAgg50
 z22:=Tryz.sizeOf50
 v22:=Tryz.zeroValue50
 t25:=Tryz.underlying223
 a25:=Tryz.isAgg223
 z25:=Tryz.sizeOf223
 v25:=Tryz.zeroValue223 }
def Tryz.lq6l_ren:Go.Shelf.Ren:=⟨fun|6=>155|n=>n,fun|22=>44|23=>52|25=>226|3=>3|0=>0|4=>4|n=>n,fun|n=>n⟩
theorem Tryz.lq6l:Go.Proofs.SlLaysH0.n6 Tryz.prog Tryz.lq6l_ren:={
 mixed:=by kernel_rfl
 f6:=⟨Tryz.f155.name,by decide,Tryz.func155.trans (congrArg some (by kernel_rfl))⟩
 t0:=Tryz.underlying0
 a0:=Tryz.isAgg0
 z0:=Tryz.sizeOf0
 v0:=Tryz.zeroValue0
 t3:=Tryz.underlying3
 a3:=Tryz.isAgg3
 z3:=Tryz.sizeOf3
 v3:=Tryz.zeroValue3
 t4:=Tryz.underlying4
 a4:=Tryz.isAgg4
 z4:=Tryz.sizeOf4
 v4:=Tryz.zeroValue4
 t22:=Tryz.underlying44
 a22:=Tryz.isAgg44
 z22:=Tryz.sizeOf44
 v22:=Tryz.zeroValue44
 t25:=Tryz.underlying226
 a25:=Tryz.isAgg226
 z25:=Tryz.sizeOf226
 v25:=Tryz.zeroValue226 }
def Tryz.lq6o_ren:Go.Shelf.Ren:=⟨fun|6=>131|n=>n,fun|22=>57|23=>32|25=>189|3=>3|0=>0|4=>4|n=>n,fun|n=>n⟩
theorem Tryz.lq6o:Go.Proofs.SlLaysH0.n6 Tryz.prog Tryz.lq6o_ren:={
 mixed:=by kernel_rfl
 f6:=⟨Tryz.f131.name,by decide,Tryz.func131.trans (congrArg some (by kernel_rfl))⟩
 t0:=Tryz.underlying0
 a0:=Tryz.isAgg0
 z0:=Tryz.sizeOf0
 v0:=Tryz.zeroValue0
 t3:=Tryz.underlying3
 a3:=Tryz.isAgg3
 z3:=Tryz.sizeOf3
 v3:=Tryz.zeroValue3
 t4:=Tryz.underlying4
 a4:=Tryz.isAgg4
 z4:=Tryz.sizeOf4
 v4:=Tryz.zeroValue4
 t22:=Tryz.underlying57
 a22:=Tryz.isAgg57
 z22:=Tryz.sizeOf57
 v22:=Tryz.zeroValue57
 t25:=Tryz.underlying189
 a25:=Tryz.isAgg189
 z25:=Tryz.sizeOf189
 v25:=Tryz.zeroValue189 }
def Tryz.lins_ren:Go.Shelf.Ren:=⟨fun|20=>171|n=>n,fun|24=>32|22=>57|3=>3|25=>233|4=>4|0=>0|n=>n,fun|n=>n⟩
theorem Tryz.lins:Go.Proofs.SlLaysF0.n20 Tryz.prog Tryz.lins_ren:={
 mixed:=by kernel_rfl
 f20:=⟨Tryz.f171.name,by decide,Tryz.func171.trans (congrArg some (by kernel_rfl))⟩
 t0:=Tryz.underlying0
 a0:=Tryz.isAgg0
 z0:=Tryz.sizeOf0
 v0:=Tryz.zeroValue0
 t3:=Tryz.underlying3
 a3:=Tryz.isAgg3
 z3:=Tryz.sizeOf3
 v3:=Tryz.zeroValue3
 t4:=Tryz.underlying4
 a4:=Tryz.isAgg4
 z4:=Tryz.sizeOf4
 v4:=Tryz.zeroValue4
 t22:=Tryz.underlying57
 a22:=Tryz.isAgg57
 z22:=Tryz.sizeOf57
 v22:=Tryz.zeroValue57
 t25:=Tryz.underlying233
 a25:=Tryz.isAgg233
 z25:=Tryz.sizeOf233
 v25:=Tryz.zeroValue233 }
def Tryz.lcmp_ren:Go.Shelf.Ren:=⟨fun|5=>164|7=>169|n=>n,fun|22=>3|3=>3|4=>4|n=>n,fun|n=>n⟩
theorem Tryz.lcmp:Go.Proofs.SlLaysC2.n5 Tryz.prog Tryz.lcmp_ren:={
 mixed:=by kernel_rfl
 f5:=⟨Tryz.f164.name,by decide,Tryz.func164.trans (congrArg some (by kernel_rfl))⟩
 f7:=⟨Tryz.f169.name,by decide,Tryz.func169.trans (congrArg some (by kernel_rfl))⟩
 t3:=Tryz.underlying3
 a3:=Tryz.isAgg3
 z3:=Tryz.sizeOf3
 v3:=Tryz.zeroValue3
 t4:=Tryz.underlying4
 a4:=Tryz.isAgg4
 z4:=Tryz.sizeOf4
 v4:=Tryz.zeroValue4
 t22:=Tryz.underlying3
 a22:=Tryz.isAgg3
 z22:=Tryz.sizeOf3
 v22:=Tryz.zeroValue3 }
end Go.Proofs
namespace Go.Proofs.YtifjhlgjgnnnpaaGreat.spn
open Go.RowKit
theorem keeps{V W:World}(h:Below V.heap.size V W){a:Addr}{v:Value}(hc:V.cell? a=some v):W.cell? a=some v:=
 (h.cell (p:=a) (World.block_lt_of_cell? V a hc)).trans hc
def spanB(x:Int × Int × Int):Bool:=decide (x.1<x.2.1) || decide (x.2.2<x.1)
def spanV(x:Int × Int × Int):List Value:=[.int .i64 x.1,.int .i64 x.2.1,.int .i64 x.2.2]
theorem zAQ(n lo hi:Int)(w:World) :
  Calls Tryz.prog 46 #[.int .i64 n,.int .i64 lo,.int .i64 hi] w fun e w'=>e=.returned (.agg #[.int .i64 n,.int .i64 lo,.int .i64 hi])∧Below w.heap.size w w':=by
 go_enter Tryz.func46,Tryz.ntmps46
 go_wp2
 go_returns
 exact⟨rfl,(bzR _ _).alloc (nzR _) _⟩
theorem zCp(n:Int)(w:World) :
  Calls Tryz.prog 24 #[.int .i64 n] w fun e w'=>e=.returned (.agg #[.int .i64 n,.int .i64 0,.int .i64 3])∧Below w.heap.size w w':=by
 go_enter Tryz.func24,Tryz.ntmps24
 go_wp2
 go_returns
 exact⟨rfl,((bzR _ _).alloc (nzR _) _).alloc (by simp) _⟩
theorem zIq(n:Int)(w:World) :
  Calls Tryz.prog 62 #[.int .i64 n] w fun e w'=>e=.returned (.agg #[.int .i64 n,.int .i64 1,.int .i64 9999])∧Below w.heap.size w w':=by
 go_enter Tryz.func62,Tryz.ntmps62
 go_wp2
 go_returns
 exact⟨rfl,((bzR _ _).alloc (nzR _) _).alloc (by simp) _⟩
theorem zBh(n:Int)(w:World) :
  Calls Tryz.prog 56 #[.int .i64 n] w fun e w'=>e=.returned (.agg #[.int .i64 n,.int .i64 1,.int .i64 9])∧Below w.heap.size w w':=by
 go_enter Tryz.func56,Tryz.ntmps56
 go_wp2
 go_returns
 exact⟨rfl,((bzR _ _).alloc (nzR _) _).alloc (by simp) _⟩
theorem zAC(n:Int)(w:World) :
  Calls Tryz.prog 63 #[.int .i64 n] w fun e w'=>e=.returned (.agg #[.int .i64 n,.int .i64 1,.int .i64 10000])∧Below w.heap.size w w':=by
 go_enter Tryz.func63,Tryz.ntmps63
 go_wp2
 go_returns
 exact⟨rfl,((bzR _ _).alloc (nzR _) _).alloc (by simp) _⟩
theorem zAm(n:Int)(w:World) :
  Calls Tryz.prog 38 #[.int .i64 n] w fun e w'=>e=.returned (.agg #[.int .i64 n,.int .i64 1,.int .i64 10000])∧Below w.heap.size w w':=by
 go_enter Tryz.func38,Tryz.ntmps38
 go_wp2
 go_returns
 exact⟨rfl,((bzR _ _).alloc (nzR _) _).alloc (by simp) _⟩
theorem zAr(n:Int)(w:World) :
  Calls Tryz.prog 37 #[.int .i64 n] w fun e w'=>e=.returned (.agg #[.int .i64 n,.int .i64 1,.int .i64 2])∧Below w.heap.size w w':=by
 go_enter Tryz.func37,Tryz.ntmps37
 go_wp2
 go_returns
 exact⟨rfl,((bzR _ _).alloc (nzR _) _).alloc (by simp) _⟩
def errV(k:Int):Value:=if k=0 then .nilIface else .iface 91 (.int .i64 k)
theorem errV_zero:errV 0=.nilIface:=rfl
theorem errV_of{k:Int}(h:¬k=0):errV k=.iface 91 (.int .i64 k):=if_neg h
def rangeE(r:Bool):Int:=if r=true then 1 else 0
theorem zIr(w:World):PredBelow Tryz.prog 45 #[] (fun x=>.agg (spanV x).toArray) spanB w:=by
 intro W x hb
 obtain⟨n,lo,hi⟩:=x
 show Calls Tryz.prog 45 #[.agg #[.int .i64 n,.int .i64 lo,.int .i64 hi]] W _
 by_cases h:n<lo
 ·go_enter Tryz.func45,Tryz.ntmps45
  go_wp2
  go_ret
  exact⟨by simp[spanB,h],hb.alloc hb.size _⟩
 ·go_enter Tryz.func45,Tryz.ntmps45
  go_wp2
  go_ret
  have e1:spanB (n,lo,hi)=decide (hi<n):=by
   unfold spanB
   rw[show decide (n<lo)=false from by simp;omega]
   rfl
  exact⟨by rw[e1];rfl,hb.alloc hb.size _⟩
theorem zBi(r:Bool)(b c:Nat)(zs:List (Int × Int × Int))(w:World)(hb:b<w.heap.size)(hn:zs.length≤9)
  (hc:∀j,j<zs.length→∀i v,(spanV zs[j]!)[i]?=some v→w.cell? ⟨b,0+j*3+i,none⟩=some v) (hr:zs.any spanB=r) :
  Calls Tryz.prog 23 #[.slice (some ⟨b,0,none⟩) zs.length c] w fun e w'=>e=.returned (errV (rangeE r))∧Below w.heap.size w w':=by
 have eg:∀args w,(callFunc 45 args).run Tryz.prog w=.ok (.enter 45 args) w:=enters_of Tryz.func45 (by kernel_rfl) rfl
 have hcon:=AnyQ.slices_ContainsFunc Tryz.lh8 3 Tryz.isAgg74 Tryz.sizeOf74 spanV (fun x=>rfl) spanB 45 #[] eg b 0 zs.length c zs w
  (zIr w) (nzR _) (by omega) hb hc
 change Calls Tryz.prog 44 _ _ _ at hcon
 rw[List.take_length,hr] at hcon
 clear hc hr
 generalize zs.length=n at *
 cases r
 ·go_enter Tryz.func23,Tryz.ntmps23
  go_wp2_with (go_at_call 44;refine hcon.mono ?_;rintro e w' ⟨rfl,hb'⟩)
  go_ret
  exact⟨rfl,hb'⟩
 ·go_enter Tryz.func23,Tryz.ntmps23
  go_wp2_with (go_at_call 44;refine hcon.mono ?_;rintro e w' ⟨rfl,hb'⟩)
  go_ret
  exact⟨rfl,hb'⟩
theorem bcell{W w1:World}(hb:Below W.heap.size W w1):(∀b o,b<W.heap.size→w1.cell? ⟨b,o,none⟩=W.cell? ⟨b,o,none⟩)∧(∀b o,b<W.heap.size→w1.frozen? ⟨b,o,none⟩=W.frozen? ⟨b,o,none⟩):=
 ⟨fun b o h=>hb.cell (p:=⟨b,o,none⟩) h,fun b o h=>hb.frozen (p:=⟨b,o,none⟩) h⟩
theorem scheck1(r:Bool)(a1 a2 a3:Int)(n:Nat)(V:World)(hn:V.heap.size=n)
  (hr:[(a1,a2,a3)].any spanB=r) :
  Calls Tryz.prog 23 #[.slice (some ⟨n,0,none⟩) 1 1] (V.alloc (.cells #[.int .i64 a1,.int .i64 a2,.int .i64 a3] 74))
   fun e w'=>e=.returned (errV (rangeE r))∧Below V.heap.size V w':=by
 refine(zBi r n 1 [(a1,a2,a3)] _ (by simp[←hn]) (by simp) ?_ hr).mono ?_
 ·intro j hj i v hv
  have hj4:j<1:=hj
  rw[World.cell?_alloc_at _ _ _ _ hn.symm]
  rcases j with _|j
  ·rcases i with _|_|_|i <;>simp_all [spanV]
  ·omega
 ·rintro e w' ⟨rfl,hb⟩
  exact⟨rfl,((bzR _ V).alloc (nzR _) _).trans (hb.mono (by simp))⟩
theorem scheck2(r:Bool)(a1 a2 a3 b1 b2 b3:Int)(n:Nat)(V:World)(hn:V.heap.size=n)
  (hr:[(a1,a2,a3),(b1,b2,b3)].any spanB=r) :
  Calls Tryz.prog 23 #[.slice (some ⟨n,0,none⟩) 2 2] (V.alloc (.cells #[.int .i64 a1,.int .i64 a2,.int .i64 a3,.int .i64 b1,.int .i64 b2,.int .i64 b3] 74))
   fun e w'=>e=.returned (errV (rangeE r))∧Below V.heap.size V w':=by
 refine(zBi r n 2 [(a1,a2,a3),(b1,b2,b3)] _ (by simp[←hn]) (by simp) ?_ hr).mono ?_
 ·intro j hj i v hv
  have hj4:j<2:=hj
  rw[World.cell?_alloc_at _ _ _ _ hn.symm]
  rcases j with _|_|j
  ·rcases i with _|_|_|i <;>simp_all [spanV]
  ·rcases i with _|_|_|i <;>simp_all [spanV]
  ·omega
 ·rintro e w' ⟨rfl,hb⟩
  exact⟨rfl,((bzR _ V).alloc (nzR _) _).trans (hb.mono (by simp))⟩
theorem scheck3(r:Bool)(a1 a2 a3 b1 b2 b3 c1 c2 c3:Int)(n:Nat)(V:World)(hn:V.heap.size=n)
  (hr:[(a1,a2,a3),(b1,b2,b3),(c1,c2,c3)].any spanB=r) :
  Calls Tryz.prog 23 #[.slice (some ⟨n,0,none⟩) 3 3] (V.alloc (.cells #[.int .i64 a1,.int .i64 a2,.int .i64 a3,.int .i64 b1,.int .i64 b2,.int .i64 b3,.int .i64 c1,.int .i64 c2,.int .i64 c3] 74))
   fun e w'=>e=.returned (errV (rangeE r))∧Below V.heap.size V w':=by
 refine(zBi r n 3 [(a1,a2,a3),(b1,b2,b3),(c1,c2,c3)] _ (by simp[←hn]) (by simp) ?_ hr).mono ?_
 ·intro j hj i v hv
  have hj4:j<3:=hj
  rw[World.cell?_alloc_at _ _ _ _ hn.symm]
  rcases j with _|_|_|j
  ·rcases i with _|_|_|i <;>simp_all [spanV]
  ·rcases i with _|_|_|i <;>simp_all [spanV]
  ·rcases i with _|_|_|i <;>simp_all [spanV]
  ·omega
 ·rintro e w' ⟨rfl,hb⟩
  exact⟨rfl,((bzR _ V).alloc (nzR _) _).trans (hb.mono (by simp))⟩
theorem scheck4(r:Bool)(a1 a2 a3 b1 b2 b3 c1 c2 c3 d1 d2 d3:Int)(n:Nat)(V:World)(hn:V.heap.size=n)
  (hr:[(a1,a2,a3),(b1,b2,b3),(c1,c2,c3),(d1,d2,d3)].any spanB=r) :
  Calls Tryz.prog 23 #[.slice (some ⟨n,0,none⟩) 4 4] (V.alloc (.cells #[.int .i64 a1,.int .i64 a2,.int .i64 a3,.int .i64 b1,.int .i64 b2,.int .i64 b3,.int .i64 c1,.int .i64 c2,.int .i64 c3,.int .i64 d1,.int .i64 d2,.int .i64 d3] 74))
   fun e w'=>e=.returned (errV (rangeE r))∧Below V.heap.size V w':=by
 refine(zBi r n 4 [(a1,a2,a3),(b1,b2,b3),(c1,c2,c3),(d1,d2,d3)] _ (by simp[←hn]) (by simp) ?_ hr).mono ?_
 ·intro j hj i v hv
  have hj4:j<4:=hj
  rw[World.cell?_alloc_at _ _ _ _ hn.symm]
  rcases j with _|_|_|_|j
  ·rcases i with _|_|_|i <;>simp_all [spanV]
  ·rcases i with _|_|_|i <;>simp_all [spanV]
  ·rcases i with _|_|_|i <;>simp_all [spanV]
  ·rcases i with _|_|_|i <;>simp_all [spanV]
  ·omega
 ·rintro e w' ⟨rfl,hb⟩
  exact⟨rfl,((bzR _ V).alloc (nzR _) _).trans (hb.mono (by simp))⟩
theorem scheck5(r:Bool)(a1 a2 a3 b1 b2 b3 c1 c2 c3 d1 d2 d3 e1 e2 e3:Int)(n:Nat)(V:World)(hn:V.heap.size=n)
  (hr:[(a1,a2,a3),(b1,b2,b3),(c1,c2,c3),(d1,d2,d3),(e1,e2,e3)].any spanB=r) :
  Calls Tryz.prog 23 #[.slice (some ⟨n,0,none⟩) 5 5] (V.alloc (.cells #[.int .i64 a1,.int .i64 a2,.int .i64 a3,.int .i64 b1,.int .i64 b2,.int .i64 b3,.int .i64 c1,.int .i64 c2,.int .i64 c3,.int .i64 d1,.int .i64 d2,.int .i64 d3,.int .i64 e1,.int .i64 e2,.int .i64 e3] 74))
   fun e w'=>e=.returned (errV (rangeE r))∧Below V.heap.size V w':=by
 refine(zBi r n 5 [(a1,a2,a3),(b1,b2,b3),(c1,c2,c3),(d1,d2,d3),(e1,e2,e3)] _ (by simp[←hn]) (by simp) ?_ hr).mono ?_
 ·intro j hj i v hv
  have hj4:j<5:=hj
  rw[World.cell?_alloc_at _ _ _ _ hn.symm]
  rcases j with _|_|_|_|_|j
  ·rcases i with _|_|_|i <;>simp_all [spanV]
  ·rcases i with _|_|_|i <;>simp_all [spanV]
  ·rcases i with _|_|_|i <;>simp_all [spanV]
  ·rcases i with _|_|_|i <;>simp_all [spanV]
  ·rcases i with _|_|_|i <;>simp_all [spanV]
  ·omega
 ·rintro e w' ⟨rfl,hb⟩
  exact⟨rfl,((bzR _ V).alloc (nzR _) _).trans (hb.mono (by simp))⟩
end Go.Proofs.YtifjhlgjgnnnpaaGreat.spn
namespace Go.Proofs.YtifjhlgjgnnnpaaGreat.tickP
open Go.RowKit spn
def errB(ok:Bool):Value:=if ok=true then .nilIface else .iface 91 (.int .i64 1)
def priceB(p:Int):Bool:=decide (1≤p) && decide (p≤10000)
def sideB(s:Int):Bool:=decide (s=1) || decide (s=2)
def betOk(s a b:Int):Bool:=sideB s && (priceB a && priceB b)
def betR(s a b:Int):Bool:=betOk s a b && (if s=1 then decide (a<b) else decide (b<a))
theorem zHe(p:Int):[(p,1,10000)].any spanB = !priceB p:=by
 rw[Bool.eq_iff_iff];simp[spanB,priceB]
theorem zLx(s a b:Int):[(s,1,2),(a,1,10000),(b,1,10000)].any spanB = !betOk s a b:=by
 rw[Bool.eq_iff_iff];simp[spanB,betOk,priceB,sideB];omega
theorem zAx(V:World)(p:Int)(w:World)(hV:Below V.heap.size V w) :
  Calls Tryz.prog 17 #[.int .i64 p] w fun e w'=>e=.returned (errB (priceB p))∧Below V.heap.size V w':=by
 have HS:Hid ([(p,1,10000)].any spanB = !priceB p):=zHe p
 have HV:Hid (Below V.heap.size V w):=hV
 clear hV
 cases hk:priceB p
 ·rw[hk] at HS
  clear hk
  go_enter Tryz.func17,Tryz.ntmps17
  go_wp2_with fail
  refine(zAm p w).mono ?_
  rintro e w1⟨rfl,h1⟩
  go_wp2_with fail
  refine(scheck1 true _ _ _ _ _ rfl HS.out).mono ?_
  rintro e w2⟨rfl,h2⟩
  simp only[show errV (rangeE true)=.iface 91 (.int .i64 1) from rfl]
  have hA0:=HV.out
  have hA1:=hA0.trans (h1.mono hA0.size)
  have hA2:=hA1.trans (h2.mono hA1.size)
  have HD:Hid (Below V.heap.size V w2):=hA2
  clear h1 h2 hA0 hA1 hA2
  go_wp2_with fail
  go_ret
  exact⟨rfl,HD.out⟩
 ·rw[hk] at HS
  clear hk
  go_enter Tryz.func17,Tryz.ntmps17
  go_wp2_with fail
  refine(zAm p w).mono ?_
  rintro e w1⟨rfl,h1⟩
  go_wp2_with fail
  refine(scheck1 false _ _ _ _ _ rfl HS.out).mono ?_
  rintro e w2⟨rfl,h2⟩
  simp only[show errV (rangeE false)=.nilIface from rfl]
  have hA0:=HV.out
  have hA1:=hA0.trans (h1.mono hA0.size)
  have hA2:=hA1.trans (h2.mono hA1.size)
  have HD:Hid (Below V.heap.size V w2):=hA2
  clear h1 h2 hA0 hA1 hA2
  go_wp2_with fail
  go_ret
  exact⟨rfl,HD.out⟩
theorem zGb(V:World)(s a b:Int)(w:World)(hV:Below V.heap.size V w) :
  Calls Tryz.prog 118 #[.int .i64 s,.int .i64 a,.int .i64 b] w fun e w'=>e=.returned (.tuple #[.bool (betR s a b),errB (betOk s a b)])∧Below V.heap.size V w':=by
 have HS:Hid ([(s,1,2),(a,1,10000),(b,1,10000)].any spanB = !betOk s a b):=zLx s a b
 have HV:Hid (Below V.heap.size V w):=hV
 clear hV
 cases hk:betOk s a b
 ·rw[hk] at HS
  have e0:betR s a b=false:=by unfold betR;rw[hk];rfl
  rw[e0]
  clear e0 hk
  go_enter Tryz.func118,Tryz.ntmps118
  go_wp2_with fail
  refine(zAr s w).mono ?_
  rintro e w1⟨rfl,h1⟩
  go_wp2_with fail
  refine(zAm a w1).mono ?_
  rintro e w2⟨rfl,h2⟩
  go_wp2_with fail
  refine(zAm b w2).mono ?_
  rintro e w3⟨rfl,h3⟩
  go_wp2_with fail
  refine(scheck3 true _ _ _ _ _ _ _ _ _ _ _ rfl HS.out).mono ?_
  rintro e w4⟨rfl,h4⟩
  simp only[show errV (rangeE true)=.iface 91 (.int .i64 1) from rfl]
  have hA0:=HV.out
  have hA1:=hA0.trans (h1.mono hA0.size)
  have hA2:=hA1.trans (h2.mono hA1.size)
  have hA3:=hA2.trans (h3.mono hA2.size)
  have hA4:=hA3.trans (h4.mono hA3.size)
  have HD:Hid (Below V.heap.size V w4):=hA4
  clear h1 h2 h3 h4 hA0 hA1 hA2 hA3 hA4
  go_wp2_with fail
  go_ret2
  exact⟨rfl,HD.out⟩
 rw[hk] at HS
 by_cases hs:s=1
 ·subst hs
  have e0:betR 1 a b=decide (a<b):=by unfold betR;rw[hk,if_pos rfl];rfl
  rw[e0]
  clear e0 hk
  go_enter Tryz.func118,Tryz.ntmps118
  go_wp2_with fail
  refine(zAr 1 w).mono ?_
  rintro e w1⟨rfl,h1⟩
  go_wp2_with fail
  refine(zAm a w1).mono ?_
  rintro e w2⟨rfl,h2⟩
  go_wp2_with fail
  refine(zAm b w2).mono ?_
  rintro e w3⟨rfl,h3⟩
  go_wp2_with fail
  refine(scheck3 false _ _ _ _ _ _ _ _ _ _ _ rfl HS.out).mono ?_
  rintro e w4⟨rfl,h4⟩
  simp only[show errV (rangeE false)=.nilIface from rfl]
  have hA0:=HV.out
  have hA1:=hA0.trans (h1.mono hA0.size)
  have hA2:=hA1.trans (h2.mono hA1.size)
  have hA3:=hA2.trans (h3.mono hA2.size)
  have hA4:=hA3.trans (h4.mono hA3.size)
  have HD:Hid (Below V.heap.size V w4):=hA4
  clear h1 h2 h3 h4 hA0 hA1 hA2 hA3 hA4
  go_wp2_with fail
  go_ret2
  exact⟨rfl,HD.out⟩
 ·have hs1:(s == 1)=false:=by simp[hs]
  have e0:betR s a b=decide (b<a):=by unfold betR;rw[hk,if_neg hs];rfl
  rw[e0]
  clear e0 hk
  go_enter Tryz.func118,Tryz.ntmps118
  go_wp2_with fail
  refine(zAr s w).mono ?_
  rintro e w1⟨rfl,h1⟩
  go_wp2_with fail
  refine(zAm a w1).mono ?_
  rintro e w2⟨rfl,h2⟩
  go_wp2_with fail
  refine(zAm b w2).mono ?_
  rintro e w3⟨rfl,h3⟩
  go_wp2_with fail
  refine(scheck3 false _ _ _ _ _ _ _ _ _ _ _ rfl HS.out).mono ?_
  rintro e w4⟨rfl,h4⟩
  simp only[show errV (rangeE false)=.nilIface from rfl]
  have hA0:=HV.out
  have hA1:=hA0.trans (h1.mono hA0.size)
  have hA2:=hA1.trans (h2.mono hA1.size)
  have hA3:=hA2.trans (h3.mono hA2.size)
  have hA4:=hA3.trans (h4.mono hA3.size)
  have HD:Hid (Below V.heap.size V w4):=hA4
  clear h1 h2 h3 h4 hA0 hA1 hA2 hA3 hA4
  go_wp2_with fail
  go_ret2
  exact⟨rfl,HD.out⟩
end Go.Proofs.YtifjhlgjgnnnpaaGreat.tickP
namespace Go.Proofs.YtifjhlgjgnnnpaaGreat.ord
open Go.RowKit
open spn (keeps bcell spanB spanV zAQ zIq zBh zAC zAr scheck2 scheck4 rangeE)
structure O where
 id:Int
 who:Int
 side:Int
 kind:Int
 price:Int
 qty:Int
 shw:Int
 stop:Int
def zeroO:O:=⟨0,0,0,0,0,0,0,0⟩
def prB(p:Int):Bool:=decide (1≤p) && decide (p≤10000)
def headB(o:O):Bool:=decide (1≤o.id) && decide (o.id≤9999) && decide (1≤o.who) && decide (o.who≤9) && decide (1≤o.side) && decide (o.side≤2) && decide (1≤o.kind) && decide (o.kind≤5)
def priceOkB(o:O):Bool:=if o.kind=2 then decide (o.price=0) else prB o.price
def qtyB(o:O):Bool:=decide (1≤o.qty) && decide (o.qty≤10000) && decide (0≤o.shw) && decide (o.shw≤o.qty)
def shapeB(o:O):Bool:=decide (o.shw=0) || decide (o.kind=1) || decide (o.kind=5)
def stopB(o:O):Bool:=decide (o.stop=0) || prB o.stop
def chk(o:O):Int:=if headB o && priceOkB o && qtyB o then (if shapeB o then (if stopB o then 0 else 1) else 3) else 1
theorem zAH{o:O}(h:chk o=0):headB o=true∧priceOkB o=true∧qtyB o=true∧shapeB o=true∧stopB o=true:=by
 unfold chk at h
 by_cases h1:(headB o && priceOkB o && qtyB o)=true
 ·rw[if_pos h1] at h
  by_cases h2:shapeB o=true
  ·rw[if_pos h2] at h
   by_cases h3:stopB o=true
   ·simp only[Bool.and_eq_true] at h1
    exact⟨h1.1.1,h1.1.2,h1.2,h2,h3⟩
   ·rw[if_neg h3] at h;omega
  ·rw[if_neg h2] at h;omega
 ·rw[if_neg h1] at h;omega
def errV(k:Int):Value:=if k=0 then .nilIface else .iface 91 (.int .i64 k)
theorem errV_zero:errV 0=.nilIface:=rfl
theorem errV_of{k:Int}(h:¬k=0):errV k=.iface 91 (.int .i64 k):=if_neg h
def oV(o:O):Value:=.agg #[.int .i64 o.id,.int .i64 o.who,.int .i64 o.side,.int .i64 o.kind,.int .i64 o.price,.int .i64 o.qty,.int .i64 o.shw,.int .i64 o.stop]
theorem pr_is(n:Int):tickP.priceB n=prB n:=rfl
theorem zBc(n:Int)(w:World)(h:prB n=true) :
  Calls Tryz.prog 17 #[.int .i64 n] w fun e w'=>e=.returned .nilIface∧Below w.heap.size w w':=by
 refine(tickP.zAx w n w (bzR _ _)).mono ?_
 rintro e w'⟨rfl,hb⟩
 rw[pr_is,h]
 exact⟨rfl,hb⟩
theorem zCq(n:Int)(w:World)(h:prB n=false) :
  Calls Tryz.prog 17 #[.int .i64 n] w fun e w'=>e=.returned (.iface 91 (.int .i64 1))∧Below w.heap.size w w':=by
 refine(tickP.zAx w n w (bzR _ _)).mono ?_
 rintro e w'⟨rfl,hb⟩
 rw[pr_is,h]
 exact⟨rfl,hb⟩
theorem zFC(k:Int)(w:World) :
  Calls Tryz.prog 66 #[.int .i64 k] w fun e w'=>e=.returned (.bool (k == 1 || k == 5))∧w'=w:=by
 cases h:(k == 1) <;>
 ·go_enter Tryz.func66,Tryz.ntmps66
  go_wp2
  go_ret
  exact⟨rfl,rfl⟩
theorem zDv(a b c d p q s t:Int)(w:World)(h:priceOkB ⟨a,b,c,d,p,q,s,t⟩=true) :
  Calls Tryz.prog 65 #[.agg #[.int .i64 a,.int .i64 b,.int .i64 c,.int .i64 d,.int .i64 p,.int .i64 q,.int .i64 s,.int .i64 t]] w
   fun e w'=>e=.returned .nilIface∧Below w.heap.size w w':=by
 have hpo:(if d=2 then decide (p=0) else prB p)=true:=h
 clear h
 by_cases hd:d=2
 ·rw[if_pos hd] at hpo
  have hp:p=0:=of_decide_eq_true hpo
  subst hd hp
  clear hpo
  go_enter Tryz.func65,Tryz.ntmps65
  go_wp2
  go_ret
  exact⟨rfl,(bzR _ _).alloc (nzR _) _⟩
 ·rw[if_neg hd] at hpo
  have hd2:(d != 2)=true:=by rw[bne_iff_ne];exact hd
  go_enter Tryz.func65,Tryz.ntmps65
  go_wp2_with (go_at_call 17;refine(zBc _ _ hpo).mono ?_;rintro e w' ⟨rfl,hb⟩)
  go_ret
  exact⟨rfl,((bzR _ _).alloc (nzR _) _).trans (hb.mono (by simp))⟩
theorem zDw(a b c d p q s t:Int)(w:World)(h:priceOkB ⟨a,b,c,d,p,q,s,t⟩=false) :
  Calls Tryz.prog 65 #[.agg #[.int .i64 a,.int .i64 b,.int .i64 c,.int .i64 d,.int .i64 p,.int .i64 q,.int .i64 s,.int .i64 t]] w
   fun e w'=>e=.returned (.iface 91 (.int .i64 1))∧Below w.heap.size w w':=by
 have hpo:(if d=2 then decide (p=0) else prB p)=false:=h
 clear h
 by_cases hd:d=2
 ·rw[if_pos hd] at hpo
  have hp:(p != 0)=true:=by rw[bne_iff_ne];exact of_decide_eq_false hpo
  subst hd
  clear hpo
  go_enter Tryz.func65,Tryz.ntmps65
  go_wp2
  go_ret
  exact⟨rfl,(bzR _ _).alloc (nzR _) _⟩
 ·rw[if_neg hd] at hpo
  have hd2:(d != 2)=true:=by rw[bne_iff_ne];exact hd
  go_enter Tryz.func65,Tryz.ntmps65
  go_wp2_with (go_at_call 17;refine(zCq _ _ hpo).mono ?_;rintro e w' ⟨rfl,hb⟩)
  go_ret
  exact⟨rfl,((bzR _ _).alloc (nzR _) _).trans (hb.mono (by simp))⟩
theorem zLy(a b c d p q s t:Int):[(a,1,9999),(b,1,9),(c,1,2),(d,1,5)].any spanB = !headB ⟨a,b,c,d,p,q,s,t⟩:=by
 rw[Bool.eq_iff_iff]
 simp[spanB,headB]
 omega
theorem zLz(a b c d p q s t:Int):[(q,1,10000),(s,0,q)].any spanB = !qtyB ⟨a,b,c,d,p,q,s,t⟩:=by
 rw[Bool.eq_iff_iff]
 simp[spanB,qtyB]
 omega
theorem bal{V W:World}(h:Below V.heap.size V W)(o:Obj):Below V.heap.size V (W.alloc o):=h.alloc h.size o
theorem of_V(V:World)(n lo hi:Int)(w:World)(h:Below V.heap.size V w) :
  Calls Tryz.prog 46 #[.int .i64 n,.int .i64 lo,.int .i64 hi] w fun e w'=>e=.returned (.agg #[.int .i64 n,.int .i64 lo,.int .i64 hi])∧Below V.heap.size V w':=
 (zAQ n lo hi w).mono fun _ _ h'=>⟨h'.1,h.trans (h'.2.mono h.size)⟩
theorem id_V(V:World)(n:Int)(w:World)(h:Below V.heap.size V w) :
  Calls Tryz.prog 62 #[.int .i64 n] w fun e w'=>e=.returned (.agg #[.int .i64 n,.int .i64 1,.int .i64 9999])∧Below V.heap.size V w':=
 (zIq n w).mono fun _ _ h'=>⟨h'.1,h.trans (h'.2.mono h.size)⟩
theorem who_V(V:World)(n:Int)(w:World)(h:Below V.heap.size V w) :
  Calls Tryz.prog 56 #[.int .i64 n] w fun e w'=>e=.returned (.agg #[.int .i64 n,.int .i64 1,.int .i64 9])∧Below V.heap.size V w':=
 (zBh n w).mono fun _ _ h'=>⟨h'.1,h.trans (h'.2.mono h.size)⟩
theorem qty_V(V:World)(n:Int)(w:World)(h:Below V.heap.size V w) :
  Calls Tryz.prog 63 #[.int .i64 n] w fun e w'=>e=.returned (.agg #[.int .i64 n,.int .i64 1,.int .i64 10000])∧Below V.heap.size V w':=
 (zAC n w).mono fun _ _ h'=>⟨h'.1,h.trans (h'.2.mono h.size)⟩
theorem side_V(V:World)(n:Int)(w:World)(h:Below V.heap.size V w) :
  Calls Tryz.prog 37 #[.int .i64 n] w fun e w'=>e=.returned (.agg #[.int .i64 n,.int .i64 1,.int .i64 2])∧Below V.heap.size V w':=
 (zAr n w).mono fun _ _ h'=>⟨h'.1,h.trans (h'.2.mono h.size)⟩
theorem zAO(r:Bool)(k:Int)(w:World)(h:(k == 1 || k == 5)=r) :
  Calls Tryz.prog 66 #[.int .i64 k] w fun e w'=>e=.returned (.bool r)∧w'=w:=by
 rw[←h];exact zFC k w
theorem zAT{j k:Int}{v:Value}(h:errV j=v)(h2:k=j):Ending.returned v=.returned (errV k):=by rw[h2,h]
theorem zLA{o:O}(h:headB o=false):chk o=1:=by unfold chk;simp[h]
theorem zIs{o:O}(h:priceOkB o=false):chk o=1:=by unfold chk;simp[h]
theorem chk_qty{o:O}(h:qtyB o=false):chk o=1:=by unfold chk;simp[h]
theorem zLB{o:O}(h1:headB o=true)(h2:priceOkB o=true)(h3:qtyB o=true):chk o=(if shapeB o then (if stopB o then 0 else 1) else 3):=by unfold chk;simp[h1,h2,h3]
theorem zBV(a b c d p q s t:Int)(w:World) :
  Calls Tryz.prog 41 #[.agg #[.int .i64 a,.int .i64 b,.int .i64 c,.int .i64 d,.int .i64 p,.int .i64 q,.int .i64 s,.int .i64 t]] w fun e w'=>e=.returned (errV (chk ⟨a,b,c,d,p,q,s,t⟩))∧Below w.heap.size w w':=by
 generalize hk:chk ⟨a,b,c,d,p,q,s,t⟩=k
 have HK:Hid (chk ⟨a,b,c,d,p,q,s,t⟩=k):=hk
 clear hk
 generalize hr:[(a,1,9999),(b,1,9),(c,1,2),(d,1,5)].any spanB=r
 have HR:Hid ([(a,1,9999),(b,1,9),(c,1,2),(d,1,5)].any spanB=r):=hr
 clear hr
 generalize hr:[(q,1,10000),(s,0,q)].any spanB=r2
 have HR2:Hid ([(q,1,10000),(s,0,q)].any spanB=r2):=hr
 clear hr
 go_enter Tryz.func41,Tryz.ntmps41
 go_wp2_with fail
 refine(zAQ d 1 5 _).mono ?_
 rintro e w1⟨rfl,hb1⟩
 have hR1:w1.heap[w.heap.size]?=some (.cells #[.int .i64 a,.int .i64 b,.int .i64 c,.int .i64 d,.int .i64 p,.int .i64 q,.int .i64 s,.int .i64 t] 32 (0,0)):=by
  rw[hb1.block w.heap.size (by simp)]
  exact heap_alloc_new w _
 have hB1:Below w.heap.size w w1:=((bzR _ _).alloc (nzR _) _).trans (hb1.mono (by simp))
 clear hb1
 go_upto_region 2 with fail
 have hV:Below w.heap.size w (w1.alloc (.cells #[.int .i64 d,.int .i64 1,.int .i64 5] 74)):=hB1.alloc hB1.size _
 have hRV:=Below.block ((bzR w1.heap.size w1).alloc (nzR _) (.cells #[.int .i64 d,.int .i64 1,.int .i64 5] 74)) w.heap.size (gzE.1 hR1).1
 rw[hR1] at hRV
 have hRP:=heap_alloc_new w1 (.cells #[.int .i64 d,.int .i64 1,.int .i64 5] 74)
 generalize w1.alloc (.cells #[.int .i64 d,.int .i64 1,.int .i64 5] 74)=V at *
 generalize w1.heap.size=P at *
 have cel:∀i,V.cell? ⟨w.heap.size,i,none⟩=(#[.int .i64 a,.int .i64 b,.int .i64 c,.int .i64 d,.int .i64 p,.int .i64 q,.int .i64 s,.int .i64 t]:Array Value)[i]?:=fun i=>by simp[World.cell?,hRV]
 have c0:=cel 0
 have c1:=cel 1
 have c2:=cel 2
 have c3:=cel 3
 have c4:=cel 4
 have c5:=cel 5
 have c6:=cel 6
 have c7:=cel 7
 simp only[List.getElem?_toArray,List.getElem?_cons_zero,List.getElem?_cons_succ] at c0 c1 c2 c3 c4 c5 c6 c7
 have cep:∀i,V.cell? ⟨P,i,none⟩=(#[.int .i64 d,.int .i64 1,.int .i64 5]:Array Value)[i]?:=fun i=>by simp[World.cell?,hRP]
 have p0:=cep 0
 have p1:=cep 1
 have p2:=cep 2
 simp only[List.getElem?_toArray,List.getElem?_cons_zero,List.getElem?_cons_succ] at p0 p1 p2
 clear cel cep hRP hRV hR1 hB1
 have SO:Hid (∀W,Below V.heap.size V W→(Below V.heap.size V W∧W.cell? ⟨w.heap.size,0,none⟩=some (.int .i64 a)∧W.cell? ⟨w.heap.size,1,none⟩=some (.int .i64 b)∧W.cell? ⟨w.heap.size,2,none⟩=some (.int .i64 c)∧W.cell? ⟨P,0,none⟩=some (.int .i64 d)∧W.cell? ⟨P,1,none⟩=some (.int .i64 1)∧W.cell? ⟨P,2,none⟩=some (.int .i64 5))):=fun W hW=>⟨hW,keeps hW c0,keeps hW c1,keeps hW c2,keeps hW p0,keeps hW p1,keeps hW p2⟩
 go_region_held3 (fun W=>Below V.heap.size V W∧W.cell? ⟨w.heap.size,0,none⟩=some (.int .i64 a)∧W.cell? ⟨w.heap.size,1,none⟩=some (.int .i64 b)∧W.cell? ⟨w.heap.size,2,none⟩=some (.int .i64 c)∧W.cell? ⟨P,0,none⟩=some (.int .i64 d)∧W.cell? ⟨P,1,none⟩=some (.int .i64 1)∧W.cell? ⟨P,2,none⟩=some (.int .i64 5))
  ((refine SO.out _ ?_;(with_reducible repeat' (first|assumption|refine bal ?_ _|refine Below.setCell ?_ ?_ _|refine Below.drew ?_|exact bzR _ _|exact nzR _|exact Below.size (by assumption)|refine Nat.le_succ_of_le ?_))))
  (first|(go_at_call 62;refine(id_V V _ _ ?_).mono ?_;(with_reducible repeat' (first|assumption|refine bal ?_ _|refine Below.setCell ?_ ?_ _|refine Below.drew ?_|exact bzR _ _|exact nzR _|exact Below.size (by assumption)|refine Nat.le_succ_of_le ?_));rintro x W ⟨rfl,hbn⟩)|(go_at_call 56;refine(who_V V _ _ ?_).mono ?_;(with_reducible repeat' (first|assumption|refine bal ?_ _|refine Below.setCell ?_ ?_ _|refine Below.drew ?_|exact bzR _ _|exact nzR _|exact Below.size (by assumption)|refine Nat.le_succ_of_le ?_));rintro x W ⟨rfl,hbn⟩)|(go_at_call 37;refine(side_V V _ _ ?_).mono ?_;(with_reducible repeat' (first|assumption|refine bal ?_ _|refine Below.setCell ?_ ?_ _|refine Below.drew ?_|exact bzR _ _|exact nzR _|exact Below.size (by assumption)|refine Nat.le_succ_of_le ?_));rintro x W ⟨rfl,hbn⟩)|(go_at_call 23;refine(scheck4 r _ _ _ _ _ _ _ _ _ _ _ _ _ _ rfl HR.out).mono ?_;rintro x W2 ⟨rfl,hbs⟩;have hbn:=Below.trans (by with_reducible assumption) (hbs.mono (Below.size (by with_reducible assumption)))))
 have hW2:Below w.heap.size w W2:=hV.trans (hbn.mono hV.size)
 have d0:=keeps hbn c0
 have d1:=keeps hbn c1
 have d2:=keeps hbn c2
 have d3:=keeps hbn c3
 have d4:=keeps hbn c4
 have d5:=keeps hbn c5
 have d6:=keeps hbn c6
 have d7:=keeps hbn c7
 clear SO hbs hbn hV c0 c1 c2 c3 c4 c5 c6 c7 p0 p1 p2
 have HG:Hid ((!headB ⟨a,b,c,d,p,q,s,t⟩)=r):=(zLy a b c d p q s t).symm.trans HR.out
 clear HR
 cases r
 rotate_left
 ·have hk:k=1:=by rw[←HK.out];exact zLA (by have:=HG.out;simpa using this)
  simp only[show spn.errV (rangeE true)=.iface 91 (.int .i64 1) from rfl]
  go_wp2_with fail
  go_ret
  exact⟨zAT (j:=1) rfl hk,hW2⟩
 simp only[show spn.errV (rangeE false)=.nilIface from rfl]
 have HH:Hid (headB ⟨a,b,c,d,p,q,s,t⟩=true):=by
  show _=_
  have:=HG.out
  simpa using this
 clear HG
 cases hp:priceOkB ⟨a,b,c,d,p,q,s,t⟩
 ·have hk:k=1:=by rw[←HK.out];exact zIs hp
  have HP:Hid (priceOkB ⟨a,b,c,d,p,q,s,t⟩=false):=hp
  clear hp
  go_wp2_with fail
  refine(zDw _ _ _ _ _ _ _ _ _ HP.out).mono ?_
  rintro e w3⟨rfl,hb3⟩
  have hW3:=hW2.trans (hb3.mono hW2.size)
  clear hb3
  go_wp2_with fail
  go_ret
  exact⟨zAT (j:=1) rfl hk,hW3⟩
 have HP:Hid (priceOkB ⟨a,b,c,d,p,q,s,t⟩=true):=hp
 clear hp
 go_wp2_with fail
 refine(zDv _ _ _ _ _ _ _ _ _ HP.out).mono ?_
 rintro e V2⟨rfl,hb3⟩
 have hW3:=hW2.trans (hb3.mono hW2.size)
 have e0:=keeps hb3 d0
 have e1:=keeps hb3 d1
 have e2:=keeps hb3 d2
 have e3:=keeps hb3 d3
 have e4:=keeps hb3 d4
 have e5:=keeps hb3 d5
 have e6:=keeps hb3 d6
 have e7:=keeps hb3 d7
 clear hb3 hW2 d0 d1 d2 d3 d4 d5 d6 d7
 have SO:Hid (∀W,Below V2.heap.size V2 W→(Below V2.heap.size V2 W∧W.cell? ⟨w.heap.size,5,none⟩=some (.int .i64 q)∧W.cell? ⟨w.heap.size,6,none⟩=some (.int .i64 s))):=fun W hW=>⟨hW,keeps hW e5,keeps hW e6⟩
 go_upto_region 8 with fail
 go_region_held3 (fun W=>Below V2.heap.size V2 W∧W.cell? ⟨w.heap.size,5,none⟩=some (.int .i64 q)∧W.cell? ⟨w.heap.size,6,none⟩=some (.int .i64 s))
  ((refine SO.out _ ?_;(with_reducible repeat' (first|assumption|refine bal ?_ _|refine Below.setCell ?_ ?_ _|refine Below.drew ?_|exact bzR _ _|exact nzR _|exact Below.size (by assumption)|refine Nat.le_succ_of_le ?_))))
  (first|(go_at_call 63;refine(qty_V V2 _ _ ?_).mono ?_;(with_reducible repeat' (first|assumption|refine bal ?_ _|refine Below.setCell ?_ ?_ _|refine Below.drew ?_|exact bzR _ _|exact nzR _|exact Below.size (by assumption)|refine Nat.le_succ_of_le ?_));rintro x W ⟨rfl,hbn⟩)|(go_at_call 46;refine(of_V V2 _ _ _ _ ?_).mono ?_;(with_reducible repeat' (first|assumption|refine bal ?_ _|refine Below.setCell ?_ ?_ _|refine Below.drew ?_|exact bzR _ _|exact nzR _|exact Below.size (by assumption)|refine Nat.le_succ_of_le ?_));rintro x W ⟨rfl,hbn⟩)|(go_at_call 23;refine(scheck2 r2 _ _ _ _ _ _ _ _ rfl HR2.out).mono ?_;rintro x W2 ⟨rfl,hbs⟩;have hbn:=Below.trans (by with_reducible assumption) (hbs.mono (Below.size (by with_reducible assumption)))))
 have hW4:Below w.heap.size w W2:=hW3.trans (hbn.mono hW3.size)
 have f3:=keeps hbn e3
 have f6:=keeps hbn e6
 have f7:=keeps hbn e7
 clear SO hbs hbn hW3 e0 e1 e2 e3 e4 e5 e6 e7
 have HG:Hid ((!qtyB ⟨a,b,c,d,p,q,s,t⟩)=r2):=(zLz a b c d p q s t).symm.trans HR2.out
 clear HR2
 cases r2
 rotate_left
 ·have hk:k=1:=by rw[←HK.out];exact chk_qty (by have:=HG.out;simpa using this)
  simp only[show spn.errV (rangeE true)=.iface 91 (.int .i64 1) from rfl]
  go_wp2_with fail
  go_ret
  exact⟨zAT (j:=1) rfl hk,hW4⟩
 simp only[show spn.errV (rangeE false)=.nilIface from rfl]
 have HF:Hid (k=(if shapeB ⟨a,b,c,d,p,q,s,t⟩ then (if stopB ⟨a,b,c,d,p,q,s,t⟩ then 0 else 1) else 3)):=by
  have hq:qtyB ⟨a,b,c,d,p,q,s,t⟩=true:=by have:=HG.out;simpa using this
  rw[←HK.out]
  exact zLB HH.out HP.out hq
 clear HG HP HH HK
 generalize hm:(d == 1 || d == 5)=m
 have HM:Hid ((d == 1 || d == 5)=m):=hm
 have HSH:Hid (shapeB ⟨a,b,c,d,p,q,s,t⟩=(decide (s=0) || m)):=by
  show _=_
  rw[←hm]
  unfold shapeB
  rw[Bool.or_assoc]
  rfl
 clear hm
 have HST:Hid (stopB ⟨a,b,c,d,p,q,s,t⟩=(decide (t=0) || prB t)):=rfl
 rw[HSH.out,HST.out] at HF
 clear HSH HST
 by_cases hs:s=0
 ·subst hs
  by_cases ht:t=0
  ·subst ht
   go_wp2_with fail
   go_ret
   exact⟨zAT (j:=0) rfl (by rw[HF.out];simp),hW4⟩
  ·have ht1:(t != 0)=true:=by simp[ht]
   cases hpt:prB t
   ·have HPT:Hid (prB t=false):=hpt
    clear hpt
    go_wp2_with fail
    refine(zCq _ _ HPT.out).mono ?_
    rintro e w5⟨rfl,hb5⟩
    have hW5:=hW4.trans (hb5.mono hW4.size)
    clear hb5
    go_wp2_with fail
    go_ret
    exact⟨zAT (j:=1) rfl (by rw[HF.out,HPT.out];simp[ht]),hW5⟩
   ·have HPT:Hid (prB t=true):=hpt
    clear hpt
    go_wp2_with fail
    refine(zBc _ _ HPT.out).mono ?_
    rintro e w5⟨rfl,hb5⟩
    have hW5:=hW4.trans (hb5.mono hW4.size)
    clear hb5
    go_wp2_with fail
    go_ret
    exact⟨zAT (j:=0) rfl (by rw[HF.out,HPT.out];simp),hW5⟩
 ·have hs1:(s != 0)=true:=by simp[hs]
  cases m
  ·go_wp2_with fail
   refine(zAO false d _ HM.out).mono ?_
   rintro e w5⟨rfl,rfl⟩
   go_wp2_with fail
   go_ret
   exact⟨zAT (j:=3) rfl (by rw[HF.out];simp[hs]),hW4⟩
  ·by_cases ht:t=0
   ·subst ht
    go_wp2_with fail
    refine(zAO true d _ HM.out).mono ?_
    rintro e w5⟨rfl,rfl⟩
    go_wp2_with fail
    go_ret
    exact⟨zAT (j:=0) rfl (by rw[HF.out];simp),hW4⟩
   ·have ht1:(t != 0)=true:=by simp[ht]
    cases hpt:prB t
    ·have HPT:Hid (prB t=false):=hpt
     clear hpt
     go_wp2_with fail
     refine(zAO true d _ HM.out).mono ?_
     rintro e w5⟨rfl,rfl⟩
     go_wp2_with fail
     refine(zCq _ _ HPT.out).mono ?_
     rintro e w6⟨rfl,hb6⟩
     have hW6:=hW4.trans (hb6.mono hW4.size)
     clear hb6
     go_wp2_with fail
     go_ret
     exact⟨zAT (j:=1) rfl (by rw[HF.out,HPT.out];simp[ht]),hW6⟩
    ·have HPT:Hid (prB t=true):=hpt
     clear hpt
     go_wp2_with fail
     refine(zAO true d _ HM.out).mono ?_
     rintro e w5⟨rfl,rfl⟩
     go_wp2_with fail
     refine(zBc _ _ HPT.out).mono ?_
     rintro e w6⟨rfl,hb6⟩
     have hW6:=hW4.trans (hb6.mono hW4.size)
     clear hb6
     go_wp2_with fail
     go_ret
     exact⟨zAT (j:=0) rfl (by rw[HF.out,HPT.out];simp),hW6⟩
theorem check_any(o:O)(w:World) :
  Calls Tryz.prog 41 #[oV o] w fun e w'=>e=.returned (errV (chk o))∧Below w.heap.size w w':=by
 obtain⟨a,b,c,d,p,q,s,t⟩:=o
 exact zBV a b c d p q s t w
def mE(o:O)(x:Int):Int:=if chk o=0 then (if prB x then 0 else 1) else chk o
def mB(o:O)(x:Int):Bool:=decide (o.kind=2) || (if o.side=1 then decide (x≤o.price) else decide (o.price≤x))
set_option linter.unusedSimpArgs false in
theorem zIt(a b c d p q s t x:Int)(w:World)(k:Int)(hck:∀W,Calls Tryz.prog 41 #[.agg #[.int .i64 a,.int .i64 b,.int .i64 c,.int .i64 d,.int .i64 p,.int .i64 q,.int .i64 s,.int .i64 t]] W fun e w'=>e=.returned (.iface 91 (.int .i64 k))∧Below W.heap.size W w') :
  Calls Tryz.prog 136 #[.agg #[.int .i64 a,.int .i64 b,.int .i64 c,.int .i64 d,.int .i64 p,.int .i64 q,.int .i64 s,.int .i64 t],.int .i64 x] w fun e w'=>e=.returned (.tuple #[.bool false,.iface 91 (.int .i64 k)])∧Below w.heap.size w w':=by
 have HCK:Hid (∀W,Calls Tryz.prog 41 #[.agg #[.int .i64 a,.int .i64 b,.int .i64 c,.int .i64 d,.int .i64 p,.int .i64 q,.int .i64 s,.int .i64 t]] W fun e w'=>e=.returned (.iface 91 (.int .i64 k))∧Below W.heap.size W w'):=hck
 clear hck
 go_enter Tryz.func136,Tryz.ntmps136
 go_wp2_with fail
 refine(HCK.out _).mono ?_
 rintro e w1⟨rfl,hb⟩
 have hW:Below w.heap.size w w1:=((bzR _ _).alloc (nzR _) _).trans (hb.mono (by simp))
 go_wp2_with fail
 go_ret2
 exact⟨rfl,hW⟩
set_option linter.unusedSimpArgs false in
theorem zDx(a b c d p q s t x:Int)(w:World)(hck:∀W,Calls Tryz.prog 41 #[.agg #[.int .i64 a,.int .i64 b,.int .i64 c,.int .i64 d,.int .i64 p,.int .i64 q,.int .i64 s,.int .i64 t]] W fun e w'=>e=.returned .nilIface∧Below W.heap.size W w')(hx:prB x=false) :
  Calls Tryz.prog 136 #[.agg #[.int .i64 a,.int .i64 b,.int .i64 c,.int .i64 d,.int .i64 p,.int .i64 q,.int .i64 s,.int .i64 t],.int .i64 x] w fun e w'=>e=.returned (.tuple #[.bool false,.iface 91 (.int .i64 1)])∧Below w.heap.size w w':=by
 have HP:Hid (prB x=false):=hx
 clear hx
 have HCK:Hid (∀W,Calls Tryz.prog 41 #[.agg #[.int .i64 a,.int .i64 b,.int .i64 c,.int .i64 d,.int .i64 p,.int .i64 q,.int .i64 s,.int .i64 t]] W fun e w'=>e=.returned .nilIface∧Below W.heap.size W w'):=hck
 clear hck
 go_enter Tryz.func136,Tryz.ntmps136
 go_wp2_with fail
 refine(HCK.out _).mono ?_
 rintro e w1⟨rfl,hb⟩
 have hW:Below w.heap.size w w1:=((bzR _ _).alloc (nzR _) _).trans (hb.mono (by simp))
 go_wp2_with fail
 refine(zCq _ _ HP.out).mono ?_
 rintro e w2⟨rfl,hb2⟩
 have hW2:=hW.trans (hb2.mono hW.size)
 clear hb2
 go_wp2_with fail
 go_ret2
 exact⟨rfl,hW2⟩
set_option linter.unusedSimpArgs false in
theorem zEk(a b c d p q s t x:Int)(w:World)(hck:∀W,Calls Tryz.prog 41 #[.agg #[.int .i64 a,.int .i64 b,.int .i64 c,.int .i64 d,.int .i64 p,.int .i64 q,.int .i64 s,.int .i64 t]] W fun e w'=>e=.returned .nilIface∧Below W.heap.size W w')(hx:prB x=true)(hd:(d == 2)=true) :
  Calls Tryz.prog 136 #[.agg #[.int .i64 a,.int .i64 b,.int .i64 c,.int .i64 d,.int .i64 p,.int .i64 q,.int .i64 s,.int .i64 t],.int .i64 x] w fun e w'=>e=.returned (.tuple #[.bool true,.nilIface])∧Below w.heap.size w w':=by
 have HP:Hid (prB x=true):=hx
 clear hx
 have HCK:Hid (∀W,Calls Tryz.prog 41 #[.agg #[.int .i64 a,.int .i64 b,.int .i64 c,.int .i64 d,.int .i64 p,.int .i64 q,.int .i64 s,.int .i64 t]] W fun e w'=>e=.returned .nilIface∧Below W.heap.size W w'):=hck
 clear hck
 go_enter Tryz.func136,Tryz.ntmps136
 go_wp2_with fail
 refine(HCK.out _).mono ?_
 rintro e w1⟨rfl,hb⟩
 have hW:Below w.heap.size w w1:=((bzR _ _).alloc (nzR _) _).trans (hb.mono (by simp))
 have d2:w1.cell? ⟨w.heap.size,2,none⟩=some (.int .i64 c):=keeps hb (by simp)
 have d3:w1.cell? ⟨w.heap.size,3,none⟩=some (.int .i64 d):=keeps hb (by simp)
 have d4:w1.cell? ⟨w.heap.size,4,none⟩=some (.int .i64 p):=keeps hb (by simp)
 clear hb
 go_wp2_with fail
 refine(zBc _ _ HP.out).mono ?_
 rintro e w2⟨rfl,hb2⟩
 have hW2:=hW.trans (hb2.mono hW.size)
 have c2:=keeps hb2 d2
 have c3:=keeps hb2 d3
 have c4:=keeps hb2 d4
 clear hb2 d2 d3 d4
 go_wp2_with fail
 go_ret2
 exact⟨rfl,hW2⟩
set_option linter.unusedSimpArgs false in
theorem zIu(a b c d p q s t x:Int)(w:World)(hck:∀W,Calls Tryz.prog 41 #[.agg #[.int .i64 a,.int .i64 b,.int .i64 c,.int .i64 d,.int .i64 p,.int .i64 q,.int .i64 s,.int .i64 t]] W fun e w'=>e=.returned .nilIface∧Below W.heap.size W w')(hx:prB x=true)(hd:(d == 2)=false)(hc:(c == 1)=true) :
  Calls Tryz.prog 136 #[.agg #[.int .i64 a,.int .i64 b,.int .i64 c,.int .i64 d,.int .i64 p,.int .i64 q,.int .i64 s,.int .i64 t],.int .i64 x] w fun e w'=>e=.returned (.tuple #[.bool (decide (x≤p)),.nilIface])∧Below w.heap.size w w':=by
 have HP:Hid (prB x=true):=hx
 clear hx
 have HCK:Hid (∀W,Calls Tryz.prog 41 #[.agg #[.int .i64 a,.int .i64 b,.int .i64 c,.int .i64 d,.int .i64 p,.int .i64 q,.int .i64 s,.int .i64 t]] W fun e w'=>e=.returned .nilIface∧Below W.heap.size W w'):=hck
 clear hck
 go_enter Tryz.func136,Tryz.ntmps136
 go_wp2_with fail
 refine(HCK.out _).mono ?_
 rintro e w1⟨rfl,hb⟩
 have hW:Below w.heap.size w w1:=((bzR _ _).alloc (nzR _) _).trans (hb.mono (by simp))
 have d2:w1.cell? ⟨w.heap.size,2,none⟩=some (.int .i64 c):=keeps hb (by simp)
 have d3:w1.cell? ⟨w.heap.size,3,none⟩=some (.int .i64 d):=keeps hb (by simp)
 have d4:w1.cell? ⟨w.heap.size,4,none⟩=some (.int .i64 p):=keeps hb (by simp)
 clear hb
 go_wp2_with fail
 refine(zBc _ _ HP.out).mono ?_
 rintro e w2⟨rfl,hb2⟩
 have hW2:=hW.trans (hb2.mono hW.size)
 have c2:=keeps hb2 d2
 have c3:=keeps hb2 d3
 have c4:=keeps hb2 d4
 clear hb2 d2 d3 d4
 go_wp2_with fail
 go_ret2
 exact⟨rfl,hW2⟩
set_option linter.unusedSimpArgs false in
theorem zHf(a b c d p q s t x:Int)(w:World)(hck:∀W,Calls Tryz.prog 41 #[.agg #[.int .i64 a,.int .i64 b,.int .i64 c,.int .i64 d,.int .i64 p,.int .i64 q,.int .i64 s,.int .i64 t]] W fun e w'=>e=.returned .nilIface∧Below W.heap.size W w')(hx:prB x=true)(hd:(d == 2)=false)(hc:(c == 1)=false) :
  Calls Tryz.prog 136 #[.agg #[.int .i64 a,.int .i64 b,.int .i64 c,.int .i64 d,.int .i64 p,.int .i64 q,.int .i64 s,.int .i64 t],.int .i64 x] w fun e w'=>e=.returned (.tuple #[.bool (decide (p≤x)),.nilIface])∧Below w.heap.size w w':=by
 have HP:Hid (prB x=true):=hx
 clear hx
 have HCK:Hid (∀W,Calls Tryz.prog 41 #[.agg #[.int .i64 a,.int .i64 b,.int .i64 c,.int .i64 d,.int .i64 p,.int .i64 q,.int .i64 s,.int .i64 t]] W fun e w'=>e=.returned .nilIface∧Below W.heap.size W w'):=hck
 clear hck
 go_enter Tryz.func136,Tryz.ntmps136
 go_wp2_with fail
 refine(HCK.out _).mono ?_
 rintro e w1⟨rfl,hb⟩
 have hW:Below w.heap.size w w1:=((bzR _ _).alloc (nzR _) _).trans (hb.mono (by simp))
 have d2:w1.cell? ⟨w.heap.size,2,none⟩=some (.int .i64 c):=keeps hb (by simp)
 have d3:w1.cell? ⟨w.heap.size,3,none⟩=some (.int .i64 d):=keeps hb (by simp)
 have d4:w1.cell? ⟨w.heap.size,4,none⟩=some (.int .i64 p):=keeps hb (by simp)
 clear hb
 go_wp2_with fail
 refine(zBc _ _ HP.out).mono ?_
 rintro e w2⟨rfl,hb2⟩
 have hW2:=hW.trans (hb2.mono hW.size)
 have c2:=keeps hb2 d2
 have c3:=keeps hb2 d3
 have c4:=keeps hb2 d4
 clear hb2 d2 d3 d4
 go_wp2_with fail
 go_ret2
 exact⟨rfl,hW2⟩
theorem zAk(o:O)(x:Int)(w:World) :
  Calls Tryz.prog 136 #[oV o,.int .i64 x] w fun e w'=>e=.returned (.tuple #[.bool (if mE o x=0 then mB o x else false),errV (mE o x)])∧Below w.heap.size w w':=by
 have hck:=fun W=>check_any o W
 obtain⟨a,b,c,d,p,q,s,t⟩:=o
 by_cases h0:chk ⟨a,b,c,d,p,q,s,t⟩=0
 ·rw[h0] at hck
  cases hx:prB x
  ·have e:mE ⟨a,b,c,d,p,q,s,t⟩ x=1:=by unfold mE;rw[if_pos h0,hx];rfl
   rw[e,if_neg (by omega)]
   exact zDx a b c d p q s t x w hck hx
  ·have e:mE ⟨a,b,c,d,p,q,s,t⟩ x=0:=by unfold mE;rw[if_pos h0,hx];rfl
   rw[e,if_pos rfl]
   have em:mB ⟨a,b,c,d,p,q,s,t⟩ x=(decide (d=2) || (if c=1 then decide (x≤p) else decide (p≤x))):=rfl
   rw[em]
   by_cases hd:d=2
   ·rw[show decide (d=2)=true from decide_eq_true hd,Bool.true_or]
    exact zEk a b c d p q s t x w hck hx (beq_iff_eq.2 hd)
   ·rw[show decide (d=2)=false from decide_eq_false hd,Bool.false_or]
    by_cases hc:c=1
    ·rw[if_pos hc]
     exact zIu a b c d p q s t x w hck hx (beq_eq_false_iff_ne.2 hd) (beq_iff_eq.2 hc)
    ·rw[if_neg hc]
     exact zHf a b c d p q s t x w hck hx (beq_eq_false_iff_ne.2 hd) (beq_eq_false_iff_ne.2 hc)
 ·have e:mE ⟨a,b,c,d,p,q,s,t⟩ x=chk ⟨a,b,c,d,p,q,s,t⟩:=by unfold mE;rw[if_neg h0]
  rw[e,if_neg h0]
  rw[errV_of h0] at hck ⊢
  exact zIt a b c d p q s t x w _ hck
end Go.Proofs.YtifjhlgjgnnnpaaGreat.ord
