import Derived.Test.YtnjpjieedgmffaaGreatDoorMeeFact2
import Derived.Test.YtnjpjieedgmffaaGreatDoorBokPut2
namespace Go.Proofs.YtnjpjieedgmffaaGreatDoor.kin
open Go.RowKit spn que sid bok mee
open ord (O oV mB mE chk meets_any)
open tickP (priceB sideB betOk betR)
theorem hidK {P:Prop}(h:P):Hid P:=h
def shownK (o:O) (k:Int):Int:=if o.shw=0 then k else min o.shw k
def keptR (o:O) (k:Int):R:=⟨o.id,o.who,shownK o k,k - shownK o k,o.shw⟩
def restE (o:O) (k:Int):Int:=if chk o=0 then (if 1≤k∧k≤o.qty then 0 else 1) else chk o
def zeroR:R:=⟨0,0,0,0,0⟩
def restV (o:O) (k:Int):R:=if restE o k=0 then keptR o k else zeroR
def mayK (o:O):Bool:=o.kind == 1 || o.kind == 5
def refE (o:O) (left:Int):Int:=if o.kind=4∧0 < left then 9 else if o.kind=5∧left < o.qty then 8 else 0
def stayB (o:O) (left:Int):Bool:=!(left == 0) && mayK o
def setE (bs ss:List L) (o:O) (left:Int):Int:=if stayB o left=true then (if restE o left=0 then putE bs ss o.side o.price (keptR o left) else restE o left) else 0
def setB (bs:List L) (o:O) (left:Int):List L:=if stayB o left=true then put1 bs o.side o.price (keptR o left) else bs
def setS (ss:List L) (o:O) (left:Int):List L:=if stayB o left=true then put2 ss o.side o.price (keptR o left) else ss
def setG (o:O) (left:Int):Int:=if stayB o left=true then 0 else left
def kdoE (bs ss:List L) (o:O):Int:=
 if doE bs ss o=0 then (if refE o (metR bs ss o).2.2=0 then setE (metB bs ss o) (metS bs ss o) o (metR bs ss o).2.2 else refE o (metR bs ss o).2.2) else doE bs ss o
def kdoB (bs ss:List L) (o:O):List L:=setB (metB bs ss o) o (metR bs ss o).2.2
def kdoS (bs ss:List L) (o:O):List L:=setS (metS bs ss o) o (metR bs ss o).2.2
def kdoG (bs ss:List L) (o:O):Int:=setG o (metR bs ss o).2.2
theorem shw_of {o:O}(h:chk o=0):0≤o.shw∧o.shw≤o.qty∧1≤o.qty∧o.qty≤10000:=by
 obtain⟨-,-,h3,-,-⟩:=ord.chk_zero h
 simp[ord.qtyB] at h3
 omega
theorem doE_zero {bs ss:List L}{o:O}(h:doE bs ss o=0):comeE bs ss o=0∧(metR bs ss o).2.1.length≤400:=by
 unfold doE at h
 by_cases hC:comeE bs ss o=0
 ·rw[if_pos hC] at h
  by_cases h4:400 < (metR bs ss o).2.1.length
  ·rw[if_pos h4] at h;omega
  ·exact⟨hC,by omega⟩
 ·rw[if_neg hC] at h;exact absurd h hC
theorem kdo_zero {bs ss:List L}{o:O}(h:kdoE bs ss o=0):doE bs ss o=0∧refE o (metR bs ss o).2.2=0∧setE (metB bs ss o) (metS bs ss o) o (metR bs ss o).2.2=0:=by
 unfold kdoE at h
 by_cases h1:doE bs ss o=0
 ·rw[if_pos h1] at h
  by_cases h2:refE o (metR bs ss o).2.2=0
  ·rw[if_pos h2] at h;exact⟨h1,h2,h⟩
  ·rw[if_neg h2] at h;exact absurd h h2
 ·rw[if_neg h1] at h;exact absurd h h1
end Go.Proofs.YtnjpjieedgmffaaGreatDoor.kin
namespace Go.Proofs.YtnjpjieedgmffaaGreatDoor.kin
open Go.RowKit spn que sid bok mee
open ord (O oV mB mE chk meets_any)
theorem span_one (k lo hi:Int):[(k,lo,hi)].any spanB = !(decide (lo≤k∧k≤hi)):=by
 rw[Bool.eq_iff_iff]
 simp[spanB]
def rB (r:R):Value:=.agg #[.int .i64 r.id,.int .i64 r.who,.int .i64 r.qty,.int .i64 r.hid,.int .i64 r.shw]
set_option maxRecDepth 100000 in
set_option maxHeartbeats 2000000 in
theorem krest_any (a b c d p q s t k:Int) (w:World) :
  Calls Tryz.prog 47 #[.agg #[.int .i64 a,.int .i64 b,.int .i64 c,.int .i64 d,.int .i64 p,.int .i64 q,.int .i64 s,.int .i64 t],.int .i64 k] w fun e w'=>e=.returned (.tuple #[rB (restV ⟨a,b,c,d,p,q,s,t⟩ k),errV (restE ⟨a,b,c,d,p,q,s,t⟩ k)])∧Below w.heap.size w w':=by
 obtain⟨V2,hV2⟩:∃V2,V2=w.alloc (.cells #[.int .i64 a,.int .i64 b,.int .i64 c,.int .i64 d,.int .i64 p,.int .i64 q,.int .i64 s,.int .i64 t] 26):=⟨_,rfl⟩
 have hs2:V2.heap.size=w.heap.size+1:=by rw[hV2];simp
 have hB2:Below w.heap.size w V2:=by rw[hV2];exact(bzR _ _).alloc (nzR _) _
 have hO2:V2.heap[w.heap.size]?=some (.cells #[.int .i64 a,.int .i64 b,.int .i64 c,.int .i64 d,.int .i64 p,.int .i64 q,.int .i64 s,.int .i64 t] 26 (0,0)):=by rw[hV2];exact heap_alloc_new w _
 obtain⟨V,hV⟩:∃V,V=V2.alloc (.cells #[.int .i64 0,.int .i64 0,.int .i64 0,.int .i64 0,.int .i64 0] 55):=⟨_,rfl⟩
 have hBV:Below V2.heap.size V2 V:=by rw[hV];exact(bzR _ _).alloc (nzR _) _
 have HB:Hid (Below w.heap.size w V):=hB2.trans (hBV.mono hB2.size)
 have hR0:V.heap[V2.heap.size]?=some (.cells #[.int .i64 0,.int .i64 0,.int .i64 0,.int .i64 0,.int .i64 0] 55 (0,0)):=by rw[hV];exact heap_alloc_new V2 _
 have hO0:V.heap[w.heap.size]?=some (.cells #[.int .i64 a,.int .i64 b,.int .i64 c,.int .i64 d,.int .i64 p,.int .i64 q,.int .i64 s,.int .i64 t] 26 (0,0)):=(hBV.block _ (by omega)).trans hO2
 obtain⟨P,hP⟩:∃P,P=w.heap.size+1:=⟨_,rfl⟩
 rw[show V2.heap.size=P by rw[hs2,hP]] at hR0
 have HP:Hid (P=w.heap.size+1):=hP
 have HOK:Hid (∀W,Calls Tryz.prog 63 #[.agg #[.int .i64 a,.int .i64 b,.int .i64 c,.int .i64 d,.int .i64 p,.int .i64 q,.int .i64 s,.int .i64 t]] W fun e w'=>e=.returned (errV (chk ⟨a,b,c,d,p,q,s,t⟩))∧Below W.heap.size W w'):=fun W=>ord.check_walk a b c d p q s t W
 have hPV:P < V.heap.size:=(gzE.1 hR0).1
 have hwV:w.heap.size < V.heap.size:=(gzE.1 hO0).1
 have HSO:Hid (∀W,Below V.heap.size V W→Below w.heap.size w W∧W.heap[P]?=some (.cells #[.int .i64 0,.int .i64 0,.int .i64 0,.int .i64 0,.int .i64 0] 55 (0,0))∧∀i,W.cell? ⟨w.heap.size,i,none⟩=(#[.int .i64 a,.int .i64 b,.int .i64 c,.int .i64 d,.int .i64 p,.int .i64 q,.int .i64 s,.int .i64 t]:Array Value)[i]?):=fun W hW=>
  ⟨HB.out.trans (hW.mono HB.out.size),(hW.block P hPV).trans hR0,fun i=>by have h:=(hW.block w.heap.size hwV).trans hO0;simp[World.cell?,h]⟩
 have HBAD:Hid (∀W kk,Below w.heap.size w W→restE ⟨a,b,c,d,p,q,s,t⟩ k=kk→¬kk=0→(Ending.returned (.tuple #[.agg #[.int .i64 0,.int .i64 0,.int .i64 0,.int .i64 0,.int .i64 0],.iface 70 (.int .i64 kk)])=.returned (.tuple #[rB (restV ⟨a,b,c,d,p,q,s,t⟩ k),errV (restE ⟨a,b,c,d,p,q,s,t⟩ k)])∧Below w.heap.size w W)):=fun W kk hW h1 h2=>⟨by
   unfold restV
   rw[h1,if_neg h2,errV_of h2]
   rfl,hW⟩
 clear hs2 hB2 hBV hO2 hR0 hO0 hPV hwV
 go_enter Tryz.func47,Tryz.ntmps47
 obtain⟨-,hR1,cel⟩:=HSO.out V (bzR _ _)
 have c0:=cel 0
 have c1:=cel 1
 have c2:=cel 2
 have c3:=cel 3
 have c4:=cel 4
 have c5:=cel 5
 have c6:=cel 6
 have c7:=cel 7
 simp only[List.getElem?_toArray,List.getElem?_cons_zero,List.getElem?_cons_succ] at c0 c1 c2 c3 c4 c5 c6 c7
 clear cel hR1
 go_wp2_with fail
 rw[←hV2,←hV]
 simp only[←hP]
 clear hV2 hV hP
 refine(HOK.out V).mono ?_
 rintro e w1 ⟨rfl,b1⟩
 have HV1:Hid (Below V.heap.size V w1):=b1
 obtain⟨hW1,hR1,cel⟩:=HSO.out w1 b1
 clear b1 c0 c1 c2 c3 c4 c5 c6 c7
 by_cases e1:chk ⟨a,b,c,d,p,q,s,t⟩=0
 rotate_left
 ·have hE:restE ⟨a,b,c,d,p,q,s,t⟩ k=chk ⟨a,b,c,d,p,q,s,t⟩:=by unfold restE;rw[if_neg e1]
  rw[errV_of e1]
  obtain⟨z0,z1,z2,z3,z4,zf⟩:=rowFive hR1
  have f0:=zf 0
  have f1:=zf 1
  have f2:=zf 2
  have f3:=zf 3
  have f4:=zf 4
  have HHX:Hid ((((((w1.setCell ⟨P,0,none⟩ (.int .i64 0)).setCell ⟨P,1,none⟩ (.int .i64 0)).setCell ⟨P,2,none⟩ (.int .i64 0)).setCell ⟨P,3,none⟩ (.int .i64 0)).setCell ⟨P,4,none⟩ (.int .i64 0)).heap[P]?=some (.cells #[.int .i64 0,.int .i64 0,.int .i64 0,.int .i64 0,.int .i64 0] 55 (0,0))):=setFive hR1 _ _ _ _ _
  have hg:=grFive w1 P (.int .i64 0) (.int .i64 0) (.int .i64 0) (.int .i64 0) (.int .i64 0)
  have HPO:=hidK (HBAD.out _ _ (hW1.grown hg hW1.size (fun k hk=>by cases hk;have:=HP.out;omega)) hE e1)
  generalize chk ⟨a,b,c,d,p,q,s,t⟩=kk at *
  clear zf hg hE HBAD hR1 cel
  go_wp2_with fail
  generalize (((((w1.setCell ⟨P,0,none⟩ (.int .i64 0)).setCell ⟨P,1,none⟩ (.int .i64 0)).setCell ⟨P,2,none⟩ (.int .i64 0)).setCell ⟨P,3,none⟩ (.int .i64 0)).setCell ⟨P,4,none⟩ (.int .i64 0))=X at *
  obtain⟨y0,y1,y2,y3,y4,-⟩:=rowFive HHX.out
  exact bodyPost_ret (v:=.tuple #[.agg #[.int .i64 0,.int .i64 0,.int .i64 0,.int .i64 0,.int .i64 0],.iface 70 (.int .i64 kk)]) (by simp[results,Tryz.results47,go_sem,y0,y1,y2,y3,y4]) rfl HPO.out
 have HE:Hid (chk ⟨a,b,c,d,p,q,s,t⟩=0):=e1
 rw[e1,errV_zero]
 have c5:=cel 5
 simp only[List.getElem?_toArray,List.getElem?_cons_zero,List.getElem?_cons_succ] at c5
 clear e1 cel
 go_wp2_with fail
 refine(of_any k 1 q w1).mono ?_
 rintro e w2 ⟨rfl,b2⟩
 have HV2:Hid (Below V.heap.size V w2):=HV1.out.trans (b2.mono HV1.out.size)
 clear b2 c5
 go_wp2_with fail
 generalize hr:[(k,1,q)].any spanB=r
 have HR:Hid ([(k,1,q)].any spanB=r):=hr
 clear hr
 refine(scheck1 r _ _ _ _ _ rfl HR.out).mono ?_
 rintro e w3 ⟨rfl,b3⟩
 have HV3:Hid (Below V.heap.size V w3):=HV2.out.trans (b3.mono HV2.out.size)
 clear b3 hR1 hW1
 obtain⟨hW3,hR3,cel⟩:=HSO.out w3 HV3.out
 have HIN:Hid ((!(decide (1≤k∧k≤q)))=r):=(span_one k 1 q).symm.trans HR.out
 clear HR
 obtain⟨z0,z1,z2,z3,z4,zf⟩:=rowFive hR3
 have f0:=zf 0
 have f1:=zf 1
 have f2:=zf 2
 have f3:=zf 3
 have f4:=zf 4
 cases r
 rotate_left
 ·have hE:restE ⟨a,b,c,d,p,q,s,t⟩ k=1:=by
   unfold restE
   have h:=HIN.out
   simp at h
   rw[if_pos HE.out,if_neg (show ¬(1≤k∧k≤q) by omega)]
  rw[show spn.errV (rangeE true)=.iface 70 (.int .i64 1) from rfl]
  have HHX:Hid ((((((w3.setCell ⟨P,0,none⟩ (.int .i64 0)).setCell ⟨P,1,none⟩ (.int .i64 0)).setCell ⟨P,2,none⟩ (.int .i64 0)).setCell ⟨P,3,none⟩ (.int .i64 0)).setCell ⟨P,4,none⟩ (.int .i64 0)).heap[P]?=some (.cells #[.int .i64 0,.int .i64 0,.int .i64 0,.int .i64 0,.int .i64 0] 55 (0,0))):=setFive hR3 _ _ _ _ _
  have hg:=grFive w3 P (.int .i64 0) (.int .i64 0) (.int .i64 0) (.int .i64 0) (.int .i64 0)
  have HPO:=hidK (HBAD.out _ _ (hW3.grown hg hW3.size (fun k hk=>by cases hk;have:=HP.out;omega)) hE (by decide))
  clear zf hg hE HBAD hR3 cel
  go_wp2_with fail
  generalize (((((w3.setCell ⟨P,0,none⟩ (.int .i64 0)).setCell ⟨P,1,none⟩ (.int .i64 0)).setCell ⟨P,2,none⟩ (.int .i64 0)).setCell ⟨P,3,none⟩ (.int .i64 0)).setCell ⟨P,4,none⟩ (.int .i64 0))=X at *
  obtain⟨y0,y1,y2,y3,y4,-⟩:=rowFive HHX.out
  exact bodyPost_ret (v:=.tuple #[.agg #[.int .i64 0,.int .i64 0,.int .i64 0,.int .i64 0,.int .i64 0],.iface 70 (.int .i64 1)]) (by simp[results,Tryz.results47,go_sem,y0,y1,y2,y3,y4]) rfl HPO.out
 rw[show spn.errV (rangeE false)=.nilIface from rfl]
 have hk:1≤k∧k≤q:=by have h:=HIN.out;simpa using h
 have hq:=shw_of HE.out
 simp only[] at hq
 have hE:restE ⟨a,b,c,d,p,q,s,t⟩ k=0:=by
  unfold restE
  rw[if_pos HE.out,if_pos (show 1≤k∧k≤q from hk)]
 have c0:=cel 0
 have c1:=cel 1
 have c6:=cel 6
 simp only[List.getElem?_toArray,List.getElem?_cons_zero,List.getElem?_cons_succ] at c0 c1 c6
 have HGO:Hid (∀W x y,Below w.heap.size w W→shownK ⟨a,b,c,d,p,q,s,t⟩ k=x→k - x=y→(Ending.returned (.tuple #[.agg #[.int .i64 a,.int .i64 b,.int .i64 x,.int .i64 y,.int .i64 s],.nilIface])=.returned (.tuple #[rB (restV ⟨a,b,c,d,p,q,s,t⟩ k),errV (restE ⟨a,b,c,d,p,q,s,t⟩ k)])∧Below w.heap.size w W)):=fun W x y hW h1 h2=>⟨by
   unfold restV
   rw[hE,if_pos rfl,errV_zero]
   unfold keptR
   rw[h1,h2]
   rfl,hW⟩
 have HWW:Hid (Below w.heap.size w w3):=hW3
 clear HIN HE hE zf cel hW3 HBAD HSO HOK HV1 HV2 HV3
 by_cases hs:s=0
 ·subst hs
  have E1:Hid (wrap64 (k - k)=0):=by show _=_;unfold wrap64;omega
  have HHX:Hid ((((((w3.setCell ⟨P,0,none⟩ (.int .i64 a)).setCell ⟨P,1,none⟩ (.int .i64 b)).setCell ⟨P,2,none⟩ (.int .i64 k)).setCell ⟨P,3,none⟩ (.int .i64 0)).setCell ⟨P,4,none⟩ (.int .i64 0)).heap[P]?=some (.cells #[.int .i64 a,.int .i64 b,.int .i64 k,.int .i64 0,.int .i64 0] 55 (0,0))):=setFive hR3 _ _ _ _ _
  have hg:=grFive w3 P (.int .i64 a) (.int .i64 b) (.int .i64 k) (.int .i64 0) (.int .i64 0)
  have HPO:=hidK (HGO.out _ k 0 (HWW.out.grown hg HWW.out.size (fun k hk=>by cases hk;have:=HP.out;omega)) (by unfold shownK;rw[if_pos rfl]) (by omega))
  clear hR3 hg HGO hk hq
  have x1:=E1.out
  go_wp2_with fail
  generalize (((((w3.setCell ⟨P,0,none⟩ (.int .i64 a)).setCell ⟨P,1,none⟩ (.int .i64 b)).setCell ⟨P,2,none⟩ (.int .i64 k)).setCell ⟨P,3,none⟩ (.int .i64 0)).setCell ⟨P,4,none⟩ (.int .i64 0))=X at *
  obtain⟨y0,y1,y2,y3,y4,-⟩:=rowFive HHX.out
  exact bodyPost_ret (v:=.tuple #[.agg #[.int .i64 a,.int .i64 b,.int .i64 k,.int .i64 0,.int .i64 0],.nilIface]) (by simp[results,Tryz.results47,go_sem,y0,y1,y2,y3,y4]) rfl HPO.out
 ·have hs1:(s != 0)=true:=by simp[hs]
  obtain⟨m,hm⟩:∃m,min s k=m:=⟨_,rfl⟩
  obtain⟨y,hy⟩:∃y,k - m=y:=⟨_,rfl⟩
  have E1:Hid (wrap64 (k - m)=y):=by show _=_;unfold wrap64;omega
  have HM:Hid (min s k=m):=hm
  have HHX:Hid ((((((w3.setCell ⟨P,0,none⟩ (.int .i64 a)).setCell ⟨P,1,none⟩ (.int .i64 b)).setCell ⟨P,2,none⟩ (.int .i64 m)).setCell ⟨P,3,none⟩ (.int .i64 y)).setCell ⟨P,4,none⟩ (.int .i64 s)).heap[P]?=some (.cells #[.int .i64 a,.int .i64 b,.int .i64 m,.int .i64 y,.int .i64 s] 55 (0,0))):=setFive hR3 _ _ _ _ _
  have hg:=grFive w3 P (.int .i64 a) (.int .i64 b) (.int .i64 m) (.int .i64 y) (.int .i64 s)
  have HPO:=hidK (HGO.out _ m y (HWW.out.grown hg HWW.out.size (fun k hk=>by cases hk;have:=HP.out;omega)) (by unfold shownK;rw[if_neg hs];exact hm) hy)
  clear hR3 hg HGO hk hq hs hy hm
  have x1:=E1.out
  have x2:=HM.out
  go_wp2_with fail
  trace_state
  generalize (((((w3.setCell ⟨P,0,none⟩ (.int .i64 a)).setCell ⟨P,1,none⟩ (.int .i64 b)).setCell ⟨P,2,none⟩ (.int .i64 m)).setCell ⟨P,3,none⟩ (.int .i64 y)).setCell ⟨P,4,none⟩ (.int .i64 s))=X at *
  obtain⟨y0,y1,y2,y3,y4,-⟩:=rowFive HHX.out
  exact bodyPost_ret (v:=.tuple #[.agg #[.int .i64 a,.int .i64 b,.int .i64 m,.int .i64 y,.int .i64 s],.nilIface]) (by simp[results,Tryz.results47,go_sem,y0,y1,y2,y3,y4]) rfl HPO.out
set_option maxRecDepth 100000 in
set_option maxHeartbeats 2000000 in
theorem refuse_any (a b c d p q s t k:Int) (w:World) :
  Calls Tryz.prog 40 #[.agg #[.int .i64 a,.int .i64 b,.int .i64 c,.int .i64 d,.int .i64 p,.int .i64 q,.int .i64 s,.int .i64 t],.int .i64 k] w fun e w'=>e=.returned (errV (refE ⟨a,b,c,d,p,q,s,t⟩ k))∧Below w.heap.size w w':=by
 have hB:Below w.heap.size w (w.alloc (.cells #[.int .i64 a,.int .i64 b,.int .i64 c,.int .i64 d,.int .i64 p,.int .i64 q,.int .i64 s,.int .i64 t] 26)):=(bzR _ _).alloc (nzR _) _
 generalize hk:refE ⟨a,b,c,d,p,q,s,t⟩ k=kk
 have HK:Hid ((if d=4∧0 < k then 9 else if d=5∧k < q then 8 else 0)=kk):=hk
 clear hk
 by_cases h4:d=4
 ·subst h4
  by_cases h0:0 < k
  ·have hkk:kk=9:=by rw[←HK.out,if_pos ⟨rfl,h0⟩]
   subst hkk
   go_enter Tryz.func40,Tryz.ntmps40
   go_wp2_with fail
   go_ret
   exact⟨rfl,hB⟩
  ·have hkk:kk=0:=by rw[←HK.out,if_neg (fun h=>h0 h.2),if_neg (by omega)]
   subst hkk
   go_enter Tryz.func40,Tryz.ntmps40
   go_wp2_with fail
   go_ret
   exact⟨rfl,hB⟩
 ·have h4b:(d == 4)=false:=by simp[h4]
  by_cases h5:d=5
  ·subst h5
   by_cases h0:k < q
   ·have hkk:kk=8:=by rw[←HK.out,if_neg (by omega),if_pos ⟨rfl,h0⟩]
    subst hkk
    go_enter Tryz.func40,Tryz.ntmps40
    go_wp2_with fail
    go_ret
    exact⟨rfl,hB⟩
   ·have hkk:kk=0:=by rw[←HK.out,if_neg (by omega),if_neg (fun h=>h0 h.2)]
    subst hkk
    go_enter Tryz.func40,Tryz.ntmps40
    go_wp2_with fail
    go_ret
    exact⟨rfl,hB⟩
  ·have h5b:(d == 5)=false:=by simp[h5]
   have hkk:kk=0:=by rw[←HK.out,if_neg (fun h=>h4 h.1),if_neg (fun h=>h5 h.1)]
   subst hkk
   go_enter Tryz.func40,Tryz.ntmps40
   go_wp2_with fail
   go_ret
   exact⟨rfl,hB⟩
end Go.Proofs.YtnjpjieedgmffaaGreatDoor.kin
