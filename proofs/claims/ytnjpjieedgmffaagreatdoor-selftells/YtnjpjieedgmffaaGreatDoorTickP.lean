import Derived.Shelf.SlicesQ.IndexFunc
import Derived.Test.YtnjpjieedgmffaaGreatDoorProg
import Derived.WalkKit
import Derived.ProofKit
import Derived.Outline
import Derived.WalkSpells
import Derived.WalkLawsBesides
import Derived.Below
import Derived.Handy
import Derived.Deep.RegionHeld3
import Derived.Deep.AppendLies
import Derived.Deep.DrawnRows
import Derived.Deep.CutRange
import Derived.Deep.DeepCutAuto
import Derived.Deep.MidRow
import Derived.BigQuiet
namespace Go.Proofs.YtnjpjieedgmffaaGreatDoor
open Go.RowKit
theorem gzE {α:Type} {xs:Array α} {i:Nat} {a:α}:xs[i]? = some a↔∃ h:i < xs.size,xs[i] = a:=Array.getElem?_eq_some_iff
theorem nzR (n:Nat):n≤n:=Nat.le_refl n
theorem bzR (B:Nat) (w:World):Below B w w:=Below.refl B w
end Go.Proofs.YtnjpjieedgmffaaGreatDoor
namespace Go.Proofs
open Go.Shelf
def Tryz.lh8_ren:Go.Shelf.Ren:=⟨fun|8=>36|6=>60|n=>n,fun|22=>85|23=>59|25=>87|4=>4|3=>3|0=>0|n=>n,fun|n=>n⟩
theorem Tryz.lh8:Go.Proofs.SlLaysH0.n8 Tryz.prog Tryz.lh8_ren:={
 mixed:=by kernel_rfl
 f6:=⟨Tryz.f60.name,by decide,Tryz.func60.trans (congrArg some (by kernel_rfl))⟩
 f8:=⟨Tryz.f36.name,by decide,Tryz.func36.trans (congrArg some (by kernel_rfl))⟩
 t0:=Tryz.underlying0
 a0:=Tryz.isAgg0
 z0:=Tryz.sizeOf0
 v0:=Tryz.zeroValue0
 t3:=Tryz.underlying3
 a3:=Tryz.isAgg3
 z3:=Tryz.sizeOf3
 v3:=Tryz.zeroValue3
 t4:=Tryz.underlying4
 a4:=Tryz.isAgg4
 z4:=Tryz.sizeOf4
 v4:=Tryz.zeroValue4
 t22:=Tryz.underlying85
 a22:=Tryz.isAgg85
 z22:=Tryz.sizeOf85
 v22:=Tryz.zeroValue85
 t25:=Tryz.underlying87
 a25:=Tryz.isAgg87
 z25:=Tryz.sizeOf87
 v25:=Tryz.zeroValue87 }
def Tryz.lq6_ren:Go.Shelf.Ren:=⟨fun|6=>67|n=>n,fun|22=>49|23=>55|25=>119|3=>3|0=>0|4=>4|n=>n,fun|n=>n⟩
theorem Tryz.lq6:Go.Proofs.SlLaysH0.n6 Tryz.prog Tryz.lq6_ren:={
 mixed:=by kernel_rfl
 f6:=⟨Tryz.f67.name,by decide,Tryz.func67.trans (congrArg some (by kernel_rfl))⟩
 t0:=Tryz.underlying0
 a0:=Tryz.isAgg0
 z0:=Tryz.sizeOf0
 v0:=Tryz.zeroValue0
 t3:=Tryz.underlying3
 a3:=Tryz.isAgg3
 z3:=Tryz.sizeOf3
 v3:=Tryz.zeroValue3
 t4:=Tryz.underlying4
 a4:=Tryz.isAgg4
 z4:=Tryz.sizeOf4
 v4:=Tryz.zeroValue4
 t22:=Tryz.underlying49
 a22:=Tryz.isAgg49
 z22:=Tryz.sizeOf49
 v22:=Tryz.zeroValue49
 t25:=Tryz.underlying119
 a25:=Tryz.isAgg119
 z25:=Tryz.sizeOf119
 v25:=Tryz.zeroValue119 }
def Tryz.lq6l_ren:Go.Shelf.Ren:=⟨fun|6=>116|n=>n,fun|22=>22|23=>51|25=>191|3=>3|0=>0|4=>4|n=>n,fun|n=>n⟩
theorem Tryz.lq6l:Go.Proofs.SlLaysH0.n6 Tryz.prog Tryz.lq6l_ren:={
 mixed:=by kernel_rfl
 f6:=⟨Tryz.f116.name,by decide,Tryz.func116.trans (congrArg some (by kernel_rfl))⟩
 t0:=Tryz.underlying0
 a0:=Tryz.isAgg0
 z0:=Tryz.sizeOf0
 v0:=Tryz.zeroValue0
 t3:=Tryz.underlying3
 a3:=Tryz.isAgg3
 z3:=Tryz.sizeOf3
 v3:=Tryz.zeroValue3
 t4:=Tryz.underlying4
 a4:=Tryz.isAgg4
 z4:=Tryz.sizeOf4
 v4:=Tryz.zeroValue4
 t22:=Tryz.underlying22
 a22:=Tryz.isAgg22
 z22:=Tryz.sizeOf22
 v22:=Tryz.zeroValue22
 t25:=Tryz.underlying191
 a25:=Tryz.isAgg191
 z25:=Tryz.sizeOf191
 v25:=Tryz.zeroValue191 }
end Go.Proofs
namespace Go.Proofs.YtnjpjieedgmffaaGreatDoor.spn
open Go.RowKit
theorem keeps {V W:World}(h:Below V.heap.size V W) {a:Addr}{v:Value}(hc:V.cell? a=some v):W.cell? a=some v:=
 (h.cell (p:=a) (World.block_lt_of_cell? V a hc)).trans hc
def spanB (x:Int × Int × Int):Bool:=decide (x.1 < x.2.1) || decide (x.2.2 < x.1)
def spanV (x:Int × Int × Int):List Value:=[.int .i64 x.1,.int .i64 x.2.1,.int .i64 x.2.2]
theorem of_any (n lo hi:Int) (w:World) :
  Calls Tryz.prog 38 #[.int .i64 n,.int .i64 lo,.int .i64 hi] w fun e w'=>e=.returned (.agg #[.int .i64 n,.int .i64 lo,.int .i64 hi])∧Below w.heap.size w w':=by
 go_enter Tryz.func38,Tryz.ntmps38
 go_wp2
 go_returns
 exact⟨rfl,(bzR _ _).alloc (nzR _) _⟩
theorem mode_any (n:Int) (w:World) :
  Calls Tryz.prog 20 #[.int .i64 n] w fun e w'=>e=.returned (.agg #[.int .i64 n,.int .i64 0,.int .i64 3])∧Below w.heap.size w w':=by
 go_enter Tryz.func20,Tryz.ntmps20
 go_wp2
 go_returns
 exact⟨rfl,((bzR _ _).alloc (nzR _) _).alloc (by simp) _⟩
theorem id_any (n:Int) (w:World) :
  Calls Tryz.prog 85 #[.int .i64 n] w fun e w'=>e=.returned (.agg #[.int .i64 n,.int .i64 1,.int .i64 9999])∧Below w.heap.size w w':=by
 go_enter Tryz.func85,Tryz.ntmps85
 go_wp2
 go_returns
 exact⟨rfl,((bzR _ _).alloc (nzR _) _).alloc (by simp) _⟩
theorem who_any (n:Int) (w:World) :
  Calls Tryz.prog 86 #[.int .i64 n] w fun e w'=>e=.returned (.agg #[.int .i64 n,.int .i64 1,.int .i64 9])∧Below w.heap.size w w':=by
 go_enter Tryz.func86,Tryz.ntmps86
 go_wp2
 go_returns
 exact⟨rfl,((bzR _ _).alloc (nzR _) _).alloc (by simp) _⟩
theorem qty_any (n:Int) (w:World) :
  Calls Tryz.prog 89 #[.int .i64 n] w fun e w'=>e=.returned (.agg #[.int .i64 n,.int .i64 1,.int .i64 10000])∧Below w.heap.size w w':=by
 go_enter Tryz.func89,Tryz.ntmps89
 go_wp2
 go_returns
 exact⟨rfl,((bzR _ _).alloc (nzR _) _).alloc (by simp) _⟩
theorem price_any (n:Int) (w:World) :
  Calls Tryz.prog 106 #[.int .i64 n] w fun e w'=>e=.returned (.agg #[.int .i64 n,.int .i64 1,.int .i64 10000])∧Below w.heap.size w w':=by
 go_enter Tryz.func106,Tryz.ntmps106
 go_wp2
 go_returns
 exact⟨rfl,((bzR _ _).alloc (nzR _) _).alloc (by simp) _⟩
theorem side_any (n:Int) (w:World) :
  Calls Tryz.prog 87 #[.int .i64 n] w fun e w'=>e=.returned (.agg #[.int .i64 n,.int .i64 1,.int .i64 2])∧Below w.heap.size w w':=by
 go_enter Tryz.func87,Tryz.ntmps87
 go_wp2
 go_returns
 exact⟨rfl,((bzR _ _).alloc (nzR _) _).alloc (by simp) _⟩
end Go.Proofs.YtnjpjieedgmffaaGreatDoor.spn
namespace Go.Proofs.YtnjpjieedgmffaaGreatDoor.spn
open Go.RowKit
def errV (k:Int):Value:=if k=0 then .nilIface else .iface 70 (.int .i64 k)
theorem errV_zero:errV 0=.nilIface:=rfl
theorem errV_of {k:Int}(h:¬k=0):errV k=.iface 70 (.int .i64 k):=if_neg h
def rangeE (r:Bool):Int:=if r=true then 1 else 0
theorem span_pred (w:World):PredBelow Tryz.prog 37 #[] (fun x=>.agg (spanV x).toArray) spanB w:=by
 intro W x hb
 obtain⟨n,lo,hi⟩:=x
 show Calls Tryz.prog 37 #[.agg #[.int .i64 n,.int .i64 lo,.int .i64 hi]] W _
 by_cases h:n < lo
 ·go_enter Tryz.func37,Tryz.ntmps37
  go_wp2
  go_ret
  exact⟨by simp[spanB,h],hb.alloc hb.size _⟩
 ·go_enter Tryz.func37,Tryz.ntmps37
  go_wp2
  go_ret
  have e1:spanB (n,lo,hi)=decide (hi < n):=by
   unfold spanB
   rw[show decide (n < lo)=false from by simp;omega]
   rfl
  exact⟨by rw[e1];rfl,hb.alloc hb.size _⟩
theorem scheck_is (r:Bool) (b c:Nat) (zs:List (Int × Int × Int)) (w:World) (hb:b < w.heap.size) (hn:zs.length≤9)
  (hc:∀j,j < zs.length→∀i v,(spanV zs[j]!)[i]?=some v→w.cell? ⟨b,0+j * 3+i,none⟩=some v) (hr:zs.any spanB=r) :
  Calls Tryz.prog 19 #[.slice (some ⟨b,0,none⟩) zs.length c] w fun e w'=>e=.returned (errV (rangeE r))∧Below w.heap.size w w':=by
 have eg:∀args w,(callFunc 37 args).run Tryz.prog w=.ok (.enter 37 args) w:=enters_of Tryz.func37 (by kernel_rfl) rfl
 have hcon:=AnyQ.slices_ContainsFunc Tryz.lh8 3 Tryz.isAgg59 Tryz.sizeOf59 spanV (fun x=>rfl) spanB 37 #[] eg b 0 zs.length c zs w
  (span_pred w) (nzR _) (by omega) hb hc
 change Calls Tryz.prog 36 _ _ _ at hcon
 rw[List.take_length,hr] at hcon
 clear hc hr
 generalize zs.length=n at *
 cases r
 ·go_enter Tryz.func19,Tryz.ntmps19
  go_wp2_with (go_at_call 36;refine hcon.mono ?_;rintro e w' ⟨rfl,hb'⟩)
  go_ret
  exact⟨rfl,hb'⟩
 ·go_enter Tryz.func19,Tryz.ntmps19
  go_wp2_with (go_at_call 36;refine hcon.mono ?_;rintro e w' ⟨rfl,hb'⟩)
  go_ret
  exact⟨rfl,hb'⟩
theorem bcell {W w1:World}(hb:Below W.heap.size W w1):(∀b o,b < W.heap.size→w1.cell? ⟨b,o,none⟩=W.cell? ⟨b,o,none⟩)∧(∀b o,b < W.heap.size→w1.frozen? ⟨b,o,none⟩=W.frozen? ⟨b,o,none⟩):=
 ⟨fun b o h=>hb.cell (p:=⟨b,o,none⟩) h,fun b o h=>hb.frozen (p:=⟨b,o,none⟩) h⟩
theorem scheck1 (r:Bool) (a1 a2 a3:Int) (n:Nat) (V:World) (hn:V.heap.size=n)
  (hr:[(a1,a2,a3)].any spanB=r) :
  Calls Tryz.prog 19 #[.slice (some ⟨n,0,none⟩) 1 1] (V.alloc (.cells #[.int .i64 a1,.int .i64 a2,.int .i64 a3] 59))
   fun e w'=>e=.returned (errV (rangeE r))∧Below V.heap.size V w':=by
 refine(scheck_is r n 1 [(a1,a2,a3)] _ (by simp[←hn]) (by simp) ?_ hr).mono ?_
 ·intro j hj i v hv
  have hj4:j < 1:=hj
  rw[World.cell?_alloc_at _ _ _ _ hn.symm]
  rcases j with _|j
  ·rcases i with _|_|_|i <;> simp_all [spanV]
  ·omega
 ·rintro e w' ⟨rfl,hb⟩
  exact⟨rfl,((bzR _ V).alloc (nzR _) _).trans (hb.mono (by simp))⟩
theorem scheck2 (r:Bool) (a1 a2 a3 b1 b2 b3:Int) (n:Nat) (V:World) (hn:V.heap.size=n)
  (hr:[(a1,a2,a3),(b1,b2,b3)].any spanB=r) :
  Calls Tryz.prog 19 #[.slice (some ⟨n,0,none⟩) 2 2] (V.alloc (.cells #[.int .i64 a1,.int .i64 a2,.int .i64 a3,.int .i64 b1,.int .i64 b2,.int .i64 b3] 59))
   fun e w'=>e=.returned (errV (rangeE r))∧Below V.heap.size V w':=by
 refine(scheck_is r n 2 [(a1,a2,a3),(b1,b2,b3)] _ (by simp[←hn]) (by simp) ?_ hr).mono ?_
 ·intro j hj i v hv
  have hj4:j < 2:=hj
  rw[World.cell?_alloc_at _ _ _ _ hn.symm]
  rcases j with _|_|j
  ·rcases i with _|_|_|i <;> simp_all [spanV]
  ·rcases i with _|_|_|i <;> simp_all [spanV]
  ·omega
 ·rintro e w' ⟨rfl,hb⟩
  exact⟨rfl,((bzR _ V).alloc (nzR _) _).trans (hb.mono (by simp))⟩
theorem scheck3 (r:Bool) (a1 a2 a3 b1 b2 b3 c1 c2 c3:Int) (n:Nat) (V:World) (hn:V.heap.size=n)
  (hr:[(a1,a2,a3),(b1,b2,b3),(c1,c2,c3)].any spanB=r) :
  Calls Tryz.prog 19 #[.slice (some ⟨n,0,none⟩) 3 3] (V.alloc (.cells #[.int .i64 a1,.int .i64 a2,.int .i64 a3,.int .i64 b1,.int .i64 b2,.int .i64 b3,.int .i64 c1,.int .i64 c2,.int .i64 c3] 59))
   fun e w'=>e=.returned (errV (rangeE r))∧Below V.heap.size V w':=by
 refine(scheck_is r n 3 [(a1,a2,a3),(b1,b2,b3),(c1,c2,c3)] _ (by simp[←hn]) (by simp) ?_ hr).mono ?_
 ·intro j hj i v hv
  have hj4:j < 3:=hj
  rw[World.cell?_alloc_at _ _ _ _ hn.symm]
  rcases j with _|_|_|j
  ·rcases i with _|_|_|i <;> simp_all [spanV]
  ·rcases i with _|_|_|i <;> simp_all [spanV]
  ·rcases i with _|_|_|i <;> simp_all [spanV]
  ·omega
 ·rintro e w' ⟨rfl,hb⟩
  exact⟨rfl,((bzR _ V).alloc (nzR _) _).trans (hb.mono (by simp))⟩
theorem scheck4 (r:Bool) (a1 a2 a3 b1 b2 b3 c1 c2 c3 d1 d2 d3:Int) (n:Nat) (V:World) (hn:V.heap.size=n)
  (hr:[(a1,a2,a3),(b1,b2,b3),(c1,c2,c3),(d1,d2,d3)].any spanB=r) :
  Calls Tryz.prog 19 #[.slice (some ⟨n,0,none⟩) 4 4] (V.alloc (.cells #[.int .i64 a1,.int .i64 a2,.int .i64 a3,.int .i64 b1,.int .i64 b2,.int .i64 b3,.int .i64 c1,.int .i64 c2,.int .i64 c3,.int .i64 d1,.int .i64 d2,.int .i64 d3] 59))
   fun e w'=>e=.returned (errV (rangeE r))∧Below V.heap.size V w':=by
 refine(scheck_is r n 4 [(a1,a2,a3),(b1,b2,b3),(c1,c2,c3),(d1,d2,d3)] _ (by simp[←hn]) (by simp) ?_ hr).mono ?_
 ·intro j hj i v hv
  have hj4:j < 4:=hj
  rw[World.cell?_alloc_at _ _ _ _ hn.symm]
  rcases j with _|_|_|_|j
  ·rcases i with _|_|_|i <;> simp_all [spanV]
  ·rcases i with _|_|_|i <;> simp_all [spanV]
  ·rcases i with _|_|_|i <;> simp_all [spanV]
  ·rcases i with _|_|_|i <;> simp_all [spanV]
  ·omega
 ·rintro e w' ⟨rfl,hb⟩
  exact⟨rfl,((bzR _ V).alloc (nzR _) _).trans (hb.mono (by simp))⟩
theorem scheck5 (r:Bool) (a1 a2 a3 b1 b2 b3 c1 c2 c3 d1 d2 d3 e1 e2 e3:Int) (n:Nat) (V:World) (hn:V.heap.size=n)
  (hr:[(a1,a2,a3),(b1,b2,b3),(c1,c2,c3),(d1,d2,d3),(e1,e2,e3)].any spanB=r) :
  Calls Tryz.prog 19 #[.slice (some ⟨n,0,none⟩) 5 5] (V.alloc (.cells #[.int .i64 a1,.int .i64 a2,.int .i64 a3,.int .i64 b1,.int .i64 b2,.int .i64 b3,.int .i64 c1,.int .i64 c2,.int .i64 c3,.int .i64 d1,.int .i64 d2,.int .i64 d3,.int .i64 e1,.int .i64 e2,.int .i64 e3] 59))
   fun e w'=>e=.returned (errV (rangeE r))∧Below V.heap.size V w':=by
 refine(scheck_is r n 5 [(a1,a2,a3),(b1,b2,b3),(c1,c2,c3),(d1,d2,d3),(e1,e2,e3)] _ (by simp[←hn]) (by simp) ?_ hr).mono ?_
 ·intro j hj i v hv
  have hj4:j < 5:=hj
  rw[World.cell?_alloc_at _ _ _ _ hn.symm]
  rcases j with _|_|_|_|_|j
  ·rcases i with _|_|_|i <;> simp_all [spanV]
  ·rcases i with _|_|_|i <;> simp_all [spanV]
  ·rcases i with _|_|_|i <;> simp_all [spanV]
  ·rcases i with _|_|_|i <;> simp_all [spanV]
  ·rcases i with _|_|_|i <;> simp_all [spanV]
  ·omega
 ·rintro e w' ⟨rfl,hb⟩
  exact⟨rfl,((bzR _ V).alloc (nzR _) _).trans (hb.mono (by simp))⟩
end Go.Proofs.YtnjpjieedgmffaaGreatDoor.spn
namespace Go.Proofs.YtnjpjieedgmffaaGreatDoor.tickP
open Go.RowKit spn
def errB (ok:Bool):Value:=if ok=true then .nilIface else .iface 70 (.int .i64 1)
def priceB (p:Int):Bool:=decide (1≤p) && decide (p≤10000)
def sideB (s:Int):Bool:=decide (s=1) || decide (s=2)
def betOk (s a b:Int):Bool:=sideB s && (priceB a && priceB b)
def betR (s a b:Int):Bool:=betOk s a b && (if s=1 then decide (a < b) else decide (b < a))
theorem price_span (p:Int):[(p,1,10000)].any spanB = !priceB p:=by
 rw[Bool.eq_iff_iff];simp[spanB,priceB]
theorem bet_span (s a b:Int):[(s,1,2),(a,1,10000),(b,1,10000)].any spanB = !betOk s a b:=by
 rw[Bool.eq_iff_iff];simp[spanB,betOk,priceB,sideB];omega
set_option maxRecDepth 100000 in
set_option maxHeartbeats 1000000 in
theorem tprice_V (V:World) (p:Int) (w:World) (hV:Below V.heap.size V w) :
  Calls Tryz.prog 90 #[.int .i64 p] w fun e w'=>e=.returned (errB (priceB p))∧Below V.heap.size V w':=by
 have HS:Hid ([(p,1,10000)].any spanB = !priceB p):=price_span p
 have HV:Hid (Below V.heap.size V w):=hV
 clear hV
 cases hk:priceB p
 ·rw[hk] at HS
  clear hk
  go_enter Tryz.func90,Tryz.ntmps90
  go_wp2_with fail
  refine(price_any p w).mono ?_
  rintro e w1 ⟨rfl,h1⟩
  go_wp2_with fail
  refine(scheck1 true _ _ _ _ _ rfl HS.out).mono ?_
  rintro e w2 ⟨rfl,h2⟩
  simp only[show errV (rangeE true)=.iface 70 (.int .i64 1) from rfl]
  have hA0:=HV.out
  have hA1:=hA0.trans (h1.mono hA0.size)
  have hA2:=hA1.trans (h2.mono hA1.size)
  have HD:Hid (Below V.heap.size V w2):=hA2
  clear h1 h2 hA0 hA1 hA2
  go_wp2_with fail
  go_ret
  exact⟨rfl,HD.out⟩
 ·rw[hk] at HS
  clear hk
  go_enter Tryz.func90,Tryz.ntmps90
  go_wp2_with fail
  refine(price_any p w).mono ?_
  rintro e w1 ⟨rfl,h1⟩
  go_wp2_with fail
  refine(scheck1 false _ _ _ _ _ rfl HS.out).mono ?_
  rintro e w2 ⟨rfl,h2⟩
  simp only[show errV (rangeE false)=.nilIface from rfl]
  have hA0:=HV.out
  have hA1:=hA0.trans (h1.mono hA0.size)
  have hA2:=hA1.trans (h2.mono hA1.size)
  have HD:Hid (Below V.heap.size V w2):=hA2
  clear h1 h2 hA0 hA1 hA2
  go_wp2_with fail
  go_ret
  exact⟨rfl,HD.out⟩
set_option maxRecDepth 100000 in
set_option maxHeartbeats 1000000 in
theorem better_V (V:World) (s a b:Int) (w:World) (hV:Below V.heap.size V w) :
  Calls Tryz.prog 121 #[.int .i64 s,.int .i64 a,.int .i64 b] w fun e w'=>e=.returned (.tuple #[.bool (betR s a b),errB (betOk s a b)])∧Below V.heap.size V w':=by
 have HS:Hid ([(s,1,2),(a,1,10000),(b,1,10000)].any spanB = !betOk s a b):=bet_span s a b
 have HV:Hid (Below V.heap.size V w):=hV
 clear hV
 cases hk:betOk s a b
 ·rw[hk] at HS
  have e0:betR s a b=false:=by unfold betR;rw[hk];rfl
  rw[e0]
  clear e0 hk
  go_enter Tryz.func121,Tryz.ntmps121
  go_wp2_with fail
  refine(side_any s w).mono ?_
  rintro e w1 ⟨rfl,h1⟩
  go_wp2_with fail
  refine(price_any a w1).mono ?_
  rintro e w2 ⟨rfl,h2⟩
  go_wp2_with fail
  refine(price_any b w2).mono ?_
  rintro e w3 ⟨rfl,h3⟩
  go_wp2_with fail
  refine(scheck3 true _ _ _ _ _ _ _ _ _ _ _ rfl HS.out).mono ?_
  rintro e w4 ⟨rfl,h4⟩
  simp only[show errV (rangeE true)=.iface 70 (.int .i64 1) from rfl]
  have hA0:=HV.out
  have hA1:=hA0.trans (h1.mono hA0.size)
  have hA2:=hA1.trans (h2.mono hA1.size)
  have hA3:=hA2.trans (h3.mono hA2.size)
  have hA4:=hA3.trans (h4.mono hA3.size)
  have HD:Hid (Below V.heap.size V w4):=hA4
  clear h1 h2 h3 h4 hA0 hA1 hA2 hA3 hA4
  go_wp2_with fail
  go_ret2
  exact⟨rfl,HD.out⟩
 rw[hk] at HS
 by_cases hs:s=1
 ·subst hs
  have e0:betR 1 a b=decide (a < b):=by unfold betR;rw[hk,if_pos rfl];rfl
  rw[e0]
  clear e0 hk
  go_enter Tryz.func121,Tryz.ntmps121
  go_wp2_with fail
  refine(side_any 1 w).mono ?_
  rintro e w1 ⟨rfl,h1⟩
  go_wp2_with fail
  refine(price_any a w1).mono ?_
  rintro e w2 ⟨rfl,h2⟩
  go_wp2_with fail
  refine(price_any b w2).mono ?_
  rintro e w3 ⟨rfl,h3⟩
  go_wp2_with fail
  refine(scheck3 false _ _ _ _ _ _ _ _ _ _ _ rfl HS.out).mono ?_
  rintro e w4 ⟨rfl,h4⟩
  simp only[show errV (rangeE false)=.nilIface from rfl]
  have hA0:=HV.out
  have hA1:=hA0.trans (h1.mono hA0.size)
  have hA2:=hA1.trans (h2.mono hA1.size)
  have hA3:=hA2.trans (h3.mono hA2.size)
  have hA4:=hA3.trans (h4.mono hA3.size)
  have HD:Hid (Below V.heap.size V w4):=hA4
  clear h1 h2 h3 h4 hA0 hA1 hA2 hA3 hA4
  go_wp2_with fail
  go_ret2
  exact⟨rfl,HD.out⟩
 ·have hs1:(s == 1)=false:=by simp[hs]
  have e0:betR s a b=decide (b < a):=by unfold betR;rw[hk,if_neg hs];rfl
  rw[e0]
  clear e0 hk
  go_enter Tryz.func121,Tryz.ntmps121
  go_wp2_with fail
  refine(side_any s w).mono ?_
  rintro e w1 ⟨rfl,h1⟩
  go_wp2_with fail
  refine(price_any a w1).mono ?_
  rintro e w2 ⟨rfl,h2⟩
  go_wp2_with fail
  refine(price_any b w2).mono ?_
  rintro e w3 ⟨rfl,h3⟩
  go_wp2_with fail
  refine(scheck3 false _ _ _ _ _ _ _ _ _ _ _ rfl HS.out).mono ?_
  rintro e w4 ⟨rfl,h4⟩
  simp only[show errV (rangeE false)=.nilIface from rfl]
  have hA0:=HV.out
  have hA1:=hA0.trans (h1.mono hA0.size)
  have hA2:=hA1.trans (h2.mono hA1.size)
  have hA3:=hA2.trans (h3.mono hA2.size)
  have hA4:=hA3.trans (h4.mono hA3.size)
  have HD:Hid (Below V.heap.size V w4):=hA4
  clear h1 h2 h3 h4 hA0 hA1 hA2 hA3 hA4
  go_wp2_with fail
  go_ret2
  exact⟨rfl,HD.out⟩
end Go.Proofs.YtnjpjieedgmffaaGreatDoor.tickP
