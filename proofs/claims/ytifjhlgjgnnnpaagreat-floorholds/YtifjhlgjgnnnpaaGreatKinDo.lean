import Derived.Test.YtifjhlgjgnnnpaaGreatMeeStep
import Derived.Test.YtifjhlgjgnnnpaaGreatBokPut2
set_option maxHeartbeats 4000000
set_option maxRecDepth 100000
namespace Go.Proofs.YtifjhlgjgnnnpaaGreat
namespace kin
open Go.RowKit spn que sid bok mee
open ord (O oV mB mE chk zAx)
open tickP (zAm zAz zBt betR)
theorem hidK{P:Prop}(h:P):Hid P:=h
def zGg(o:O)(k:Int):Int:=if o.shw=0 then k else min o.shw k
def zCy(o:O)(k:Int):R:=⟨o.id,o.who,zGg o k,k - zGg o k,o.shw⟩
def zBU(o:O)(k:Int):Int:=if chk o=0 then (if 1≤k∧k≤o.qty then 0 else 1) else chk o
def zeroR:R:=⟨0,0,0,0,0⟩
def zEx(o:O)(k:Int):R:=if zBU o k=0 then zCy o k else zeroR
def mayK(o:O):Bool:=o.kind == 1 || o.kind == 5
def refE(o:O)(left:Int):Int:=if o.kind=4∧0<left then 9 else if o.kind=5∧left<o.qty then 8 else 0
def zCc(o:O)(left:Int):Bool:=!(left == 0) && mayK o
def setE(bs ss:List L)(o:O)(left:Int):Int:=if zCc o left=true then (if zBU o left=0 then putE bs ss o.side o.price (zCy o left) else zBU o left) else 0
def setB(bs:List L)(o:O)(left:Int):List L:=if zCc o left=true then put1 bs o.side o.price (zCy o left) else bs
def setS(ss:List L)(o:O)(left:Int):List L:=if zCc o left=true then put2 ss o.side o.price (zCy o left) else ss
def setG(o:O)(left:Int):Int:=if zCc o left=true then 0 else left
def kdoE(bs ss:List L)(o:O):Int:=
 if doE bs ss o=0 then (if refE o (metR bs ss o).2.2=0 then setE (metB bs ss o) (metS bs ss o) o (metR bs ss o).2.2 else refE o (metR bs ss o).2.2) else doE bs ss o
def kdoB(bs ss:List L)(o:O):List L:=setB (metB bs ss o) o (metR bs ss o).2.2
def kdoS(bs ss:List L)(o:O):List L:=setS (metS bs ss o) o (metR bs ss o).2.2
def kdoG(bs ss:List L)(o:O):Int:=setG o (metR bs ss o).2.2
theorem shw_of{o:O}(h:chk o=0):0≤o.shw∧o.shw≤o.qty∧1≤o.qty∧o.qty≤10000:=by
 obtain⟨-,-,h3,-,-⟩:=ord.zBx h
 simp[ord.qtyB] at h3
 omega
theorem zFo{bs ss:List L}{o:O}(h:doE bs ss o=0):zAu bs ss o=0∧(metR bs ss o).2.1.length≤400:=by
 unfold doE at h
 by_cases hC:zAu bs ss o=0
 ·rw[if_pos hC] at h
  by_cases h4:400<(metR bs ss o).2.1.length
  ·rw[if_pos h4] at h;omega
  ·exact⟨hC,by omega⟩
 ·rw[if_neg hC] at h;exact absurd h hC
theorem zHS{bs ss:List L}{o:O}(h:kdoE bs ss o=0):doE bs ss o=0∧refE o (metR bs ss o).2.2=0∧setE (metB bs ss o) (metS bs ss o) o (metR bs ss o).2.2=0:=by
 unfold kdoE at h
 by_cases h1:doE bs ss o=0
 ·rw[if_pos h1] at h
  by_cases h2:refE o (metR bs ss o).2.2=0
  ·rw[if_pos h2] at h;exact⟨h1,h2,h⟩
  ·rw[if_neg h2] at h;exact absurd h h2
 ·rw[if_neg h1] at h;exact absurd h h1
end kin
namespace kin
open Go.RowKit spn que sid bok mee
open ord (O oV mB mE chk zAx)
theorem zHT(k lo hi:Int):[(k,lo,hi)].any zAo = !(decide (lo≤k∧k≤hi)):=by
 rw[Bool.eq_iff_iff]
 simp[zAo]
def rB(r:R):Value:=.agg #[.int .i64 r.id,.int .i64 r.who,.int .i64 r.qty,.int .i64 r.hid,.int .i64 r.shw]
theorem zKW(a b c d p q s t k:Int)(w:World) :
  Calls Tryz.prog 93 #[.agg #[.int .i64 a,.int .i64 b,.int .i64 c,.int .i64 d,.int .i64 p,.int .i64 q,.int .i64 s,.int .i64 t],.int .i64 k] w fun e w'=>e=.returned (.tuple #[rB (zEx ⟨a,b,c,d,p,q,s,t⟩ k),errV (zBU ⟨a,b,c,d,p,q,s,t⟩ k)])∧Below w.heap.size w w':=by
 obtain⟨V2,hV2⟩:∃V2,V2=w.alloc (.cells #[.int .i64 a,.int .i64 b,.int .i64 c,.int .i64 d,.int .i64 p,.int .i64 q,.int .i64 s,.int .i64 t] 32):=⟨_,rfl⟩
 have hs2:V2.heap.size=w.heap.size+1:=by rw[hV2];simp
 have hB2:Below w.heap.size w V2:=by rw[hV2];exact(bzR _ _).alloc (nzR _) _
 have hO2:V2.heap[w.heap.size]?=some (.cells #[.int .i64 a,.int .i64 b,.int .i64 c,.int .i64 d,.int .i64 p,.int .i64 q,.int .i64 s,.int .i64 t] 32 (0,0)):=by rw[hV2];exact jA w _
 obtain⟨V,hV⟩:∃V,V=V2.alloc (.cells #[.int .i64 0,.int .i64 0,.int .i64 0,.int .i64 0,.int .i64 0] 54):=⟨_,rfl⟩
 have hBV:Below V2.heap.size V2 V:=by rw[hV];exact(bzR _ _).alloc (nzR _) _
 have HB:Hid (Below w.heap.size w V):=hB2.trans (hBV.mono hB2.size)
 have hR0:V.heap[V2.heap.size]?=some (.cells #[.int .i64 0,.int .i64 0,.int .i64 0,.int .i64 0,.int .i64 0] 54 (0,0)):=by rw[hV];exact jA V2 _
 have hO0:V.heap[w.heap.size]?=some (.cells #[.int .i64 a,.int .i64 b,.int .i64 c,.int .i64 d,.int .i64 p,.int .i64 q,.int .i64 s,.int .i64 t] 32 (0,0)):=(hBV.block _ (by omega)).trans hO2
 obtain⟨P,hP⟩:∃P,P=w.heap.size+1:=⟨_,rfl⟩
 rw[show V2.heap.size=P by rw[hs2,hP]] at hR0
 have HP:Hid (P=w.heap.size+1):=hP
 have HOK:Hid (∀W,Calls Tryz.prog 41 #[.agg #[.int .i64 a,.int .i64 b,.int .i64 c,.int .i64 d,.int .i64 p,.int .i64 q,.int .i64 s,.int .i64 t]] W fun e w'=>e=.returned (errV (chk ⟨a,b,c,d,p,q,s,t⟩))∧Below W.heap.size W w'):=fun W=>ord.zDm a b c d p q s t W
 have hPV:P<V.heap.size:=(gzE.1 hR0).1
 have hwV:w.heap.size<V.heap.size:=(gzE.1 hO0).1
 have HSO:Hid (∀W,Below V.heap.size V W→Below w.heap.size w W∧W.heap[P]?=some (.cells #[.int .i64 0,.int .i64 0,.int .i64 0,.int .i64 0,.int .i64 0] 54 (0,0))∧∀i,W.cell? ⟨w.heap.size,i,none⟩=(#[.int .i64 a,.int .i64 b,.int .i64 c,.int .i64 d,.int .i64 p,.int .i64 q,.int .i64 s,.int .i64 t]:Array Value)[i]?):=fun W hW=>
  ⟨HB.out.trans (hW.mono HB.out.size),(hW.block P hPV).trans hR0,fun i=>by have h:=(hW.block w.heap.size hwV).trans hO0;simp[World.cell?,h]⟩
 have HBAD:Hid (∀W kk,Below w.heap.size w W→zBU ⟨a,b,c,d,p,q,s,t⟩ k=kk→¬kk=0→(Ending.returned (.tuple #[.agg #[.int .i64 0,.int .i64 0,.int .i64 0,.int .i64 0,.int .i64 0],.iface 91 (.int .i64 kk)])=.returned (.tuple #[rB (zEx ⟨a,b,c,d,p,q,s,t⟩ k),errV (zBU ⟨a,b,c,d,p,q,s,t⟩ k)])∧Below w.heap.size w W)):=fun W kk hW h1 h2=>⟨by
   unfold zEx
   rw[h1,if_neg h2,errV_of h2]
   rfl,hW⟩
 clear hs2 hB2 hBV hO2 hR0 hO0 hPV hwV
 go_enter Tryz.func93,Tryz.ntmps93
 obtain⟨-,hR1,cel⟩:=HSO.out V (bzR _ _)
 have c0:=cel 0
 have c1:=cel 1
 have c2:=cel 2
 have c3:=cel 3
 have c4:=cel 4
 have c5:=cel 5
 have c6:=cel 6
 have c7:=cel 7
 simp only[List.getElem?_toArray,List.getElem?_cons_zero,List.getElem?_cons_succ] at c0 c1 c2 c3 c4 c5 c6 c7
 clear cel hR1
 go_wp2_with fail
 rw[←hV2,←hV]
 simp only[←hP]
 clear hV2 hV hP
 refine(HOK.out V).mono ?_
 rintro e w1⟨rfl,b1⟩
 have HV1:Hid (Below V.heap.size V w1):=b1
 obtain⟨hW1,hR1,cel⟩:=HSO.out w1 b1
 clear b1 c0 c1 c2 c3 c4 c5 c6 c7
 by_cases e1:chk ⟨a,b,c,d,p,q,s,t⟩=0
 rotate_left
 ·have hE:zBU ⟨a,b,c,d,p,q,s,t⟩ k=chk ⟨a,b,c,d,p,q,s,t⟩:=by unfold zBU;rw[if_neg e1]
  rw[errV_of e1]
  obtain⟨z0,z1,z2,z3,z4,zf⟩:=zAe hR1
  have f0:=zf 0
  have f1:=zf 1
  have f2:=zf 2
  have f3:=zf 3
  have f4:=zf 4
  have HHX:Hid ((((((w1.setCell ⟨P,0,none⟩ (.int .i64 0)).setCell ⟨P,1,none⟩ (.int .i64 0)).setCell ⟨P,2,none⟩ (.int .i64 0)).setCell ⟨P,3,none⟩ (.int .i64 0)).setCell ⟨P,4,none⟩ (.int .i64 0)).heap[P]?=some (.cells #[.int .i64 0,.int .i64 0,.int .i64 0,.int .i64 0,.int .i64 0] 54 (0,0))):=zAV hR1 _ _ _ _ _
  have hg:=zBP w1 P (.int .i64 0) (.int .i64 0) (.int .i64 0) (.int .i64 0) (.int .i64 0)
  have HPO:=hidK (HBAD.out _ _ (hW1.grown hg hW1.size (fun k hk=>by cases hk;have:=HP.out;omega)) hE e1)
  generalize chk ⟨a,b,c,d,p,q,s,t⟩=kk at *
  clear zf hg hE HBAD hR1 cel
  go_wp2_with fail
  generalize (((((w1.setCell ⟨P,0,none⟩ (.int .i64 0)).setCell ⟨P,1,none⟩ (.int .i64 0)).setCell ⟨P,2,none⟩ (.int .i64 0)).setCell ⟨P,3,none⟩ (.int .i64 0)).setCell ⟨P,4,none⟩ (.int .i64 0))=X at *
  obtain⟨y0,y1,y2,y3,y4,-⟩:=zAe HHX.out
  exact jN (v:=.tuple #[.agg #[.int .i64 0,.int .i64 0,.int .i64 0,.int .i64 0,.int .i64 0],.iface 91 (.int .i64 kk)]) (by simp[results,Tryz.results93,go_sem,y0,y1,y2,y3,y4]) rfl HPO.out
 have HE:Hid (chk ⟨a,b,c,d,p,q,s,t⟩=0):=e1
 rw[e1,errV_zero]
 have c5:=cel 5
 simp only[List.getElem?_toArray,List.getElem?_cons_zero,List.getElem?_cons_succ] at c5
 clear e1 cel
 go_wp2_with fail
 refine(zBL k 1 q w1).mono ?_
 rintro e w2⟨rfl,b2⟩
 have HV2:Hid (Below V.heap.size V w2):=HV1.out.trans (b2.mono HV1.out.size)
 clear b2 c5
 go_wp2_with fail
 generalize hr:[(k,1,q)].any zAo=r
 have HR:Hid ([(k,1,q)].any zAo=r):=hr
 clear hr
 refine(scheck1 r _ _ _ _ _ rfl HR.out).mono ?_
 rintro e w3⟨rfl,b3⟩
 have HV3:Hid (Below V.heap.size V w3):=HV2.out.trans (b3.mono HV2.out.size)
 clear b3 hR1 hW1
 obtain⟨hW3,hR3,cel⟩:=HSO.out w3 HV3.out
 have HIN:Hid ((!(decide (1≤k∧k≤q)))=r):=(zHT k 1 q).symm.trans HR.out
 clear HR
 obtain⟨z0,z1,z2,z3,z4,zf⟩:=zAe hR3
 have f0:=zf 0
 have f1:=zf 1
 have f2:=zf 2
 have f3:=zf 3
 have f4:=zf 4
 cases r
 rotate_left
 ·have hE:zBU ⟨a,b,c,d,p,q,s,t⟩ k=1:=by
   unfold zBU
   have h:=HIN.out
   simp at h
   rw[if_pos HE.out,if_neg (show ¬(1≤k∧k≤q) by omega)]
  rw[show spn.errV (zAk true)=.iface 91 (.int .i64 1) from rfl]
  have HHX:Hid ((((((w3.setCell ⟨P,0,none⟩ (.int .i64 0)).setCell ⟨P,1,none⟩ (.int .i64 0)).setCell ⟨P,2,none⟩ (.int .i64 0)).setCell ⟨P,3,none⟩ (.int .i64 0)).setCell ⟨P,4,none⟩ (.int .i64 0)).heap[P]?=some (.cells #[.int .i64 0,.int .i64 0,.int .i64 0,.int .i64 0,.int .i64 0] 54 (0,0))):=zAV hR3 _ _ _ _ _
  have hg:=zBP w3 P (.int .i64 0) (.int .i64 0) (.int .i64 0) (.int .i64 0) (.int .i64 0)
  have HPO:=hidK (HBAD.out _ _ (hW3.grown hg hW3.size (fun k hk=>by cases hk;have:=HP.out;omega)) hE (by decide))
  clear zf hg hE HBAD hR3 cel
  go_wp2_with fail
  generalize (((((w3.setCell ⟨P,0,none⟩ (.int .i64 0)).setCell ⟨P,1,none⟩ (.int .i64 0)).setCell ⟨P,2,none⟩ (.int .i64 0)).setCell ⟨P,3,none⟩ (.int .i64 0)).setCell ⟨P,4,none⟩ (.int .i64 0))=X at *
  obtain⟨y0,y1,y2,y3,y4,-⟩:=zAe HHX.out
  exact jN (v:=.tuple #[.agg #[.int .i64 0,.int .i64 0,.int .i64 0,.int .i64 0,.int .i64 0],.iface 91 (.int .i64 1)]) (by simp[results,Tryz.results93,go_sem,y0,y1,y2,y3,y4]) rfl HPO.out
 rw[show spn.errV (zAk false)=.nilIface from rfl]
 have hk:1≤k∧k≤q:=by have h:=HIN.out;simpa using h
 have hq:=shw_of HE.out
 simp only[] at hq
 have hE:zBU ⟨a,b,c,d,p,q,s,t⟩ k=0:=by
  unfold zBU
  rw[if_pos HE.out,if_pos (show 1≤k∧k≤q from hk)]
 have c0:=cel 0
 have c1:=cel 1
 have c6:=cel 6
 simp only[List.getElem?_toArray,List.getElem?_cons_zero,List.getElem?_cons_succ] at c0 c1 c6
 have HGO:Hid (∀W x y,Below w.heap.size w W→zGg ⟨a,b,c,d,p,q,s,t⟩ k=x→k - x=y→(Ending.returned (.tuple #[.agg #[.int .i64 a,.int .i64 b,.int .i64 x,.int .i64 y,.int .i64 s],.nilIface])=.returned (.tuple #[rB (zEx ⟨a,b,c,d,p,q,s,t⟩ k),errV (zBU ⟨a,b,c,d,p,q,s,t⟩ k)])∧Below w.heap.size w W)):=fun W x y hW h1 h2=>⟨by
   unfold zEx
   rw[hE,if_pos rfl,errV_zero]
   unfold zCy
   rw[h1,h2]
   rfl,hW⟩
 have HWW:Hid (Below w.heap.size w w3):=hW3
 clear HIN HE hE zf cel hW3 HBAD HSO HOK HV1 HV2 HV3
 by_cases hs:s=0
 ·subst hs
  have E1:Hid (wrap64 (k - k)=0):=by show _=_;unfold wrap64;omega
  have HHX:Hid ((((((w3.setCell ⟨P,0,none⟩ (.int .i64 a)).setCell ⟨P,1,none⟩ (.int .i64 b)).setCell ⟨P,2,none⟩ (.int .i64 k)).setCell ⟨P,3,none⟩ (.int .i64 0)).setCell ⟨P,4,none⟩ (.int .i64 0)).heap[P]?=some (.cells #[.int .i64 a,.int .i64 b,.int .i64 k,.int .i64 0,.int .i64 0] 54 (0,0))):=zAV hR3 _ _ _ _ _
  have hg:=zBP w3 P (.int .i64 a) (.int .i64 b) (.int .i64 k) (.int .i64 0) (.int .i64 0)
  have HPO:=hidK (HGO.out _ k 0 (HWW.out.grown hg HWW.out.size (fun k hk=>by cases hk;have:=HP.out;omega)) (by unfold zGg;rw[if_pos rfl]) (by omega))
  clear hR3 hg HGO hk hq
  have x1:=E1.out
  go_wp2_with fail
  generalize (((((w3.setCell ⟨P,0,none⟩ (.int .i64 a)).setCell ⟨P,1,none⟩ (.int .i64 b)).setCell ⟨P,2,none⟩ (.int .i64 k)).setCell ⟨P,3,none⟩ (.int .i64 0)).setCell ⟨P,4,none⟩ (.int .i64 0))=X at *
  obtain⟨y0,y1,y2,y3,y4,-⟩:=zAe HHX.out
  exact jN (v:=.tuple #[.agg #[.int .i64 a,.int .i64 b,.int .i64 k,.int .i64 0,.int .i64 0],.nilIface]) (by simp[results,Tryz.results93,go_sem,y0,y1,y2,y3,y4]) rfl HPO.out
 ·have hs1:(s != 0)=true:=by simp[hs]
  obtain⟨m,hm⟩:∃m,min s k=m:=⟨_,rfl⟩
  obtain⟨y,hy⟩:∃y,k - m=y:=⟨_,rfl⟩
  have E1:Hid (wrap64 (k - m)=y):=by show _=_;unfold wrap64;omega
  have HM:Hid (min s k=m):=hm
  have HHX:Hid ((((((w3.setCell ⟨P,0,none⟩ (.int .i64 a)).setCell ⟨P,1,none⟩ (.int .i64 b)).setCell ⟨P,2,none⟩ (.int .i64 m)).setCell ⟨P,3,none⟩ (.int .i64 y)).setCell ⟨P,4,none⟩ (.int .i64 s)).heap[P]?=some (.cells #[.int .i64 a,.int .i64 b,.int .i64 m,.int .i64 y,.int .i64 s] 54 (0,0))):=zAV hR3 _ _ _ _ _
  have hg:=zBP w3 P (.int .i64 a) (.int .i64 b) (.int .i64 m) (.int .i64 y) (.int .i64 s)
  have HPO:=hidK (HGO.out _ m y (HWW.out.grown hg HWW.out.size (fun k hk=>by cases hk;have:=HP.out;omega)) (by unfold zGg;rw[if_neg hs];exact hm) hy)
  clear hR3 hg HGO hk hq hs hy hm
  have x1:=E1.out
  have x2:=HM.out
  go_wp2_with fail
  trace_state
  generalize (((((w3.setCell ⟨P,0,none⟩ (.int .i64 a)).setCell ⟨P,1,none⟩ (.int .i64 b)).setCell ⟨P,2,none⟩ (.int .i64 m)).setCell ⟨P,3,none⟩ (.int .i64 y)).setCell ⟨P,4,none⟩ (.int .i64 s))=X at *
  obtain⟨y0,y1,y2,y3,y4,-⟩:=zAe HHX.out
  exact jN (v:=.tuple #[.agg #[.int .i64 a,.int .i64 b,.int .i64 m,.int .i64 y,.int .i64 s],.nilIface]) (by simp[results,Tryz.results93,go_sem,y0,y1,y2,y3,y4]) rfl HPO.out
theorem zJa(a b c d p q s t k:Int)(w:World) :
  Calls Tryz.prog 68 #[.agg #[.int .i64 a,.int .i64 b,.int .i64 c,.int .i64 d,.int .i64 p,.int .i64 q,.int .i64 s,.int .i64 t],.int .i64 k] w fun e w'=>e=.returned (errV (refE ⟨a,b,c,d,p,q,s,t⟩ k))∧Below w.heap.size w w':=by
 have hB:Below w.heap.size w (w.alloc (.cells #[.int .i64 a,.int .i64 b,.int .i64 c,.int .i64 d,.int .i64 p,.int .i64 q,.int .i64 s,.int .i64 t] 32)):=(bzR _ _).alloc (nzR _) _
 generalize hk:refE ⟨a,b,c,d,p,q,s,t⟩ k=kk
 have HK:Hid ((if d=4∧0<k then 9 else if d=5∧k<q then 8 else 0)=kk):=hk
 clear hk
 by_cases h4:d=4
 ·subst h4
  by_cases h0:0<k
  ·have hkk:kk=9:=by rw[←HK.out,if_pos ⟨rfl,h0⟩]
   subst hkk
   go_enter Tryz.func68,Tryz.ntmps68
   go_wp2_with fail
   go_ret
   exact⟨rfl,hB⟩
  ·have hkk:kk=0:=by rw[←HK.out,if_neg (fun h=>h0 h.2),if_neg (by omega)]
   subst hkk
   go_enter Tryz.func68,Tryz.ntmps68
   go_wp2_with fail
   go_ret
   exact⟨rfl,hB⟩
 ·have h4b:(d == 4)=false:=by simp[h4]
  by_cases h5:d=5
  ·subst h5
   by_cases h0:k<q
   ·have hkk:kk=8:=by rw[←HK.out,if_neg (by omega),if_pos ⟨rfl,h0⟩]
    subst hkk
    go_enter Tryz.func68,Tryz.ntmps68
    go_wp2_with fail
    go_ret
    exact⟨rfl,hB⟩
   ·have hkk:kk=0:=by rw[←HK.out,if_neg (by omega),if_neg (fun h=>h0 h.2)]
    subst hkk
    go_enter Tryz.func68,Tryz.ntmps68
    go_wp2_with fail
    go_ret
    exact⟨rfl,hB⟩
  ·have h5b:(d == 5)=false:=by simp[h5]
   have hkk:kk=0:=by rw[←HK.out,if_neg (fun h=>h4 h.1),if_neg (fun h=>h5 h.1)]
   subst hkk
   go_enter Tryz.func68,Tryz.ntmps68
   go_wp2_with fail
   go_ret
   exact⟨rfl,hB⟩
end kin
namespace kin
open Go.RowKit spn que sid bok mee
open ord (O oV mB mE chk zAx zBA)
def SetPost(bs ss:List L)(o:O)(left:Int)(b0:Nat)(w:World)(e:Ending)(w' : World):Prop:=
 (setE bs ss o left=0→∃q1 q2 n1 n2 c1 c2,e=.returned (.tuple #[.agg #[.slice q1 n1 c1,.slice q2 n2 c2],.int .i64 (setG o left),.nilIface])∧DL w' b0 (.slice q1 n1 c1) (setB bs o left)∧DL w' b0 (.slice q2 n2 c2) (setS ss o left))∧
 (¬setE bs ss o left=0→∃q1 q2 n1 n2 c1 c2,e=.returned (.tuple #[.agg #[.slice q1 n1 c1,.slice q2 n2 c2],.int .i64 0,errV (setE bs ss o left)]))∧Below w.heap.size w w'
theorem settle_any(q1 q2:Option Addr)(n1 n2 c1 c2:Nat)(bs ss:List L)(a b c d p q s t k:Int)(b0:Nat)(w:World)(h1:LS w (.slice q1 n1 c1) bs)(h2:LS w (.slice q2 n2 c2) ss)(hb0:b0≤w.heap.size)(hk1:schk 1 bs=0)(hk2:schk 2 ss=0) :
  Calls Tryz.prog 69 #[.agg #[.slice q1 n1 c1,.slice q2 n2 c2],.agg #[.int .i64 a,.int .i64 b,.int .i64 c,.int .i64 d,.int .i64 p,.int .i64 q,.int .i64 s,.int .i64 t],.int .i64 k] w fun e w'=>SetPost bs ss ⟨a,b,c,d,p,q,s,t⟩ k b0 w e w':=by
 obtain⟨V1,hV1⟩:∃V1,V1=w.alloc (.cells #[.slice q1 n1 c1,.slice q2 n2 c2] 46):=⟨_,rfl⟩
 have hs1:V1.heap.size=w.heap.size+1:=by rw[hV1];simp
 have hb1:Below w.heap.size w V1:=by rw[hV1];exact(bzR _ _).alloc (nzR _) _
 have hr1:V1.heap[w.heap.size]?=some (.cells #[.slice q1 n1 c1,.slice q2 n2 c2] 46 (0,0)):=by rw[hV1];exact jA w _
 obtain⟨V2,hV2⟩:∃V2,V2=V1.alloc (.cells #[.int .i64 a,.int .i64 b,.int .i64 c,.int .i64 d,.int .i64 p,.int .i64 q,.int .i64 s,.int .i64 t] 32):=⟨_,rfl⟩
 have hs2:V2.heap.size=w.heap.size+2:=by rw[hV2];simp[hs1]
 have hb2:Below V1.heap.size V1 V2:=by rw[hV2];exact(bzR _ _).alloc (nzR _) _
 have hr2:V2.heap[w.heap.size+1]?=some (.cells #[.int .i64 a,.int .i64 b,.int .i64 c,.int .i64 d,.int .i64 p,.int .i64 q,.int .i64 s,.int .i64 t] 32 (0,0)):=by rw[←hs1,hV2];exact jA V1 _
 obtain⟨V,hV⟩:∃V,V=V2.alloc (.cells #[.slice none 0 0,.slice none 0 0] 46):=⟨_,rfl⟩
 have hb3:Below V2.heap.size V2 V:=by rw[hV];exact(bzR _ _).alloc (nzR _) _
 have hr3:V.heap[w.heap.size+2]?=some (.cells #[.slice none 0 0,.slice none 0 0] 46 (0,0)):=by rw[←hs2,hV];exact jA V2 _
 have hBV:Below w.heap.size w V:=by
  have h:=hb1.trans (hb2.mono hb1.size)
  exact h.trans (hb3.mono h.size)
 have hB0:V.heap[w.heap.size]?=some (.cells #[.slice q1 n1 c1,.slice q2 n2 c2] 46 (0,0)):=by rw[hb3.block _ (by omega),hb2.block _ (by omega)];exact hr1
 have hO0:V.heap[w.heap.size+1]?=some (.cells #[.int .i64 a,.int .i64 b,.int .i64 c,.int .i64 d,.int .i64 p,.int .i64 q,.int .i64 s,.int .i64 t] 32 (0,0)):=by rw[hb3.block _ (by omega)];exact hr2
 obtain⟨P,hP⟩:∃P,P=w.heap.size+2:=⟨_,rfl⟩
 obtain⟨G,hG⟩:∃G,G=w.heap.size:=⟨_,rfl⟩
 obtain⟨Q,hQ⟩:∃Q,Q=w.heap.size+1:=⟨_,rfl⟩
 rw[←hP] at hr3
 have hPV:P<V.heap.size:=(gzE.1 hr3).1
 have HP:Hid (P=w.heap.size+2∧G=w.heap.size∧Q=w.heap.size+1∧P<V.heap.size):=⟨hP,hG,hQ,hPV⟩
 have HSO:Hid (∀W,Below V.heap.size V W→Below w.heap.size w W∧W.heap[P]?=some (.cells #[.slice none 0 0,.slice none 0 0] 46 (0,0))∧W.heap[G]?=some (.cells #[.slice q1 n1 c1,.slice q2 n2 c2] 46 (0,0))∧∀i,W.cell? ⟨Q,i,none⟩=(#[.int .i64 a,.int .i64 b,.int .i64 c,.int .i64 d,.int .i64 p,.int .i64 q,.int .i64 s,.int .i64 t]:Array Value)[i]?):=fun W hW=>
  ⟨hBV.trans (hW.mono hBV.size),(hW.block P hPV).trans hr3,by rw[hG];exact(hW.block _ (by omega)).trans hB0,fun i=>by have h:=(hW.block (w.heap.size+1) (by omega)).trans hO0;rw[←hQ] at h;simp[World.cell?,h]⟩
 have HD:Hid (∀W,Below w.heap.size w W→LS W (.slice q1 n1 c1) bs∧LS W (.slice q2 n2 c2) ss):=fun W hW=>⟨h1.below hW,h2.below hW⟩
 have HFR:Hid (∀W,Below w.heap.size w W→Calls Tryz.prog 31 #[.agg #[.slice q1 n1 c1,.slice q2 n2 c2]] W fun e w'=>BFPost bs ss W e w'):=fun W hW=>zDp q1 q2 n1 n2 c1 c2 bs ss W (h1.below hW) (h2.below hW) hk1 hk2
 have HB0:Hid (b0≤w.heap.size):=hb0
 have HMR:Hid (∀m W,(d == 1 || d == 5)=m→Calls Tryz.prog 66 #[.int .i64 d] W fun e w'=>e=.returned (.bool m)∧w'=W):=fun m W h=>zBA m d W h
 have HRE:Hid (∀W,Calls Tryz.prog 93 #[.agg #[.int .i64 a,.int .i64 b,.int .i64 c,.int .i64 d,.int .i64 p,.int .i64 q,.int .i64 s,.int .i64 t],.int .i64 k] W fun e w'=>e=.returned (.tuple #[rB (zEx ⟨a,b,c,d,p,q,s,t⟩ k),errV (zBU ⟨a,b,c,d,p,q,s,t⟩ k)])∧Below W.heap.size W w'):=fun W=>zKW a b c d p q s t k W
 clear hs1 hs2 hb1 hb2 hb3 hr1 hr2 hr3 hB0 hO0 hBV h1 h2 hb0 hPV
 obtain⟨-,hRP,hRG,cel⟩:=HSO.out V (bzR _ _)
 obtain⟨g0,g1,-⟩:=zAb hRG
 obtain⟨z0,z1,zf⟩:=zAb hRP
 have zf0:=zf 0
 have zf1:=zf 1
 have u0:=cel 0
 have u1:=cel 1
 have u2:=cel 2
 have u3:=cel 3
 have u4:=cel 4
 have u5:=cel 5
 have u6:=cel 6
 have u7':=cel 7
 simp only[List.getElem?_toArray,List.getElem?_cons_zero,List.getElem?_cons_succ] at u0 u1 u2 u3 u4 u5 u6 u7'
 have HBV:Hid (Below w.heap.size w V):=(HSO.out V (bzR _ _)).1
 have HNO:Hid (zCc ⟨a,b,c,d,p,q,s,t⟩ k=false→∀W qa qb ma mb ca cb,Below V.heap.size V W→DL W V.heap.size (.slice qa ma ca) bs→DL W V.heap.size (.slice qb mb cb) ss→SetPost bs ss ⟨a,b,c,d,p,q,s,t⟩ k b0 w (.returned (.tuple #[.agg #[.slice qa ma ca,.slice qb mb cb],.int .i64 k,.nilIface])) ((W.setCell ⟨P,0,none⟩ (.slice qa ma ca)).setCell ⟨P,1,none⟩ (.slice qb mb cb))∧
   ((W.setCell ⟨P,0,none⟩ (.slice qa ma ca)).setCell ⟨P,1,none⟩ (.slice qb mb cb)).heap[P]?=some (.cells #[.slice qa ma ca,.slice qb mb cb] 46 (0,0))):=fun hst W qa qb ma mb ca cb hVW d1 d2=>by
  obtain⟨hwW,hRPW,-,-⟩:=HSO.out W hVW
  have hE:setE bs ss ⟨a,b,c,d,p,q,s,t⟩ k=0:=by unfold setE;rw[hst];rfl
  have hgg:=zAN W P (.slice qa ma ca) (.slice qb mb cb)
  have hPV2:P<V.heap.size:=HP.out.2.2.2
  have hb0V:b0≤V.heap.size:=by have h1:=HB0.out;have h2:=HP.out;omega
  refine⟨⟨fun _=>⟨_,_,_,_,_,_,by unfold setG;rw[hst];rfl,?_,?_⟩,fun h=>absurd hE h,hwW.grown hgg hwW.size (fun k hk=>by cases hk;have:=HP.out.1;omega)⟩,zAw hRPW _ _⟩
  ·unfold setB;rw[hst];exact(d1.other hgg hPV2).mono hb0V
  ·unfold setS;rw[hst];exact(d2.other hgg hPV2).mono hb0V
 clear cel zf hRP hRG
 go_enter Tryz.func69,Tryz.ntmps69
 by_cases hk0:k=0
 ·subst hk0
  go_wp2_with fail
  rw[←hV1,←hV2,←hV]
  simp only[←hP]
  simp only[←hQ]
  simp only[←hG]
  clear hV1 hV2 hV hP hG hQ g0 g1 z0 z1 zf0 zf1 u0 u1 u2 u3 u4 u5 u6 u7'
  refine(HFR.out V HBV.out).mono ?_
  rintro e w2⟨qa,qb,ma,mb,ca,cb,rfl,bF,D1,D2,-,-⟩
  obtain⟨hPO,hHX⟩:=HNO.out rfl w2 qa qb ma mb ca cb bF D1 D2
  have HPO:=hidK hPO
  have HHX:=hidK hHX
  obtain⟨-,hRP2,-,-⟩:=HSO.out w2 bF
  obtain⟨z0,z1,zf⟩:=zAb hRP2
  have zf0:=zf 0
  have zf1:=zf 1
  clear zf hRP2 hPO hHX bF D1 D2 HNO HSO HD HMR HRE
  go_wp2_with fail
  generalize ((w2.setCell ⟨P,0,none⟩ (.slice qa ma ca)).setCell ⟨P,1,none⟩ (.slice qb mb cb))=Z at *
  obtain⟨y0,y1,-⟩:=zAb HHX.out
  exact jN (v:=.tuple #[.agg #[.slice qa ma ca,.slice qb mb cb],.int .i64 0,.nilIface]) (by simp[results,Tryz.results69,go_sem,y0,y1]) rfl HPO.out
 have hkb:(k == 0)=false:=by simp[hk0]
 generalize hm:(d == 1 || d == 5)=m
 have HM:Hid ((d == 1 || d == 5)=m):=hm
 have HST:Hid (zCc ⟨a,b,c,d,p,q,s,t⟩ k=m):=by
  show _=_
  unfold zCc mayK
  rw[hkb]
  exact hm
 clear hm hk0
 go_wp2_with fail
 rw[←hV1,←hV2,←hV]
 simp only[←hP]
 simp only[←hQ]
 simp only[←hG]
 clear hV1 hV2 hV hP hG hQ
 refine(HMR.out m V HM.out).mono ?_
 rintro e w1⟨rfl,rfl⟩
 cases m
 ·go_wp2_with fail
  clear g0 g1 z0 z1 zf0 zf1 u0 u1 u2 u3 u4 u5 u6 u7'
  refine(HFR.out w1 HBV.out).mono ?_
  rintro e w2⟨qa,qb,ma,mb,ca,cb,rfl,bF,D1,D2,-,-⟩
  obtain⟨hPO,hHX⟩:=HNO.out HST.out w2 qa qb ma mb ca cb bF D1 D2
  have HPO:=hidK hPO
  have HHX:=hidK hHX
  obtain⟨-,hRP2,-,-⟩:=HSO.out w2 bF
  obtain⟨z0,z1,zf⟩:=zAb hRP2
  have zf0:=zf 0
  have zf1:=zf 1
  clear zf hRP2 hPO hHX bF D1 D2 HNO HSO HD HMR HRE
  go_wp2_with fail
  generalize ((w2.setCell ⟨P,0,none⟩ (.slice qa ma ca)).setCell ⟨P,1,none⟩ (.slice qb mb cb))=Z at *
  obtain⟨y0,y1,-⟩:=zAb HHX.out
  exact jN (v:=.tuple #[.agg #[.slice qa ma ca,.slice qb mb cb],.int .i64 k,.nilIface]) (by simp[results,Tryz.results69,go_sem,y0,y1]) rfl HPO.out
 clear HNO HFR
 go_wp2_with fail
 refine(HRE.out w1).mono ?_
 rintro e w2⟨rfl,b2⟩
 have HW2:Hid (Below w1.heap.size w1 w2):=b2
 clear b2 g0 g1 z0 z1 zf0 zf1 u0 u1 u2 u3 u4 u5 u6 u7'
 by_cases hE:zBU ⟨a,b,c,d,p,q,s,t⟩ k=0
 rotate_left
 ·have hSE:setE bs ss ⟨a,b,c,d,p,q,s,t⟩ k=zBU ⟨a,b,c,d,p,q,s,t⟩ k:=by unfold setE;rw[HST.out,if_pos rfl,if_neg hE]
  rw[show zEx ⟨a,b,c,d,p,q,s,t⟩ k=zeroR by unfold zEx;rw[if_neg hE],errV_of hE,show rB zeroR=.agg #[.int .i64 0,.int .i64 0,.int .i64 0,.int .i64 0,.int .i64 0] from rfl]
  have hBa:Below w2.heap.size w2 (w2.alloc (.cells #[.int .i64 0,.int .i64 0,.int .i64 0,.int .i64 0,.int .i64 0] 54)):=(bzR _ _).alloc (nzR _) _
  have hWa:Below w1.heap.size w1 (w2.alloc (.cells #[.int .i64 0,.int .i64 0,.int .i64 0,.int .i64 0,.int .i64 0] 54)):=HW2.out.trans (hBa.mono HW2.out.size)
  obtain⟨hWW,hRP,hRG,cel⟩:=HSO.out _ hWa
  have HHX:Hid ((((w2.alloc (.cells #[.int .i64 0,.int .i64 0,.int .i64 0,.int .i64 0,.int .i64 0] 54)).setCell ⟨P,0,none⟩ (.slice none 0 0)).setCell ⟨P,1,none⟩ (.slice none 0 0)).heap[P]?=some (.cells #[.slice none 0 0,.slice none 0 0] 46 (0,0))):=zAw hRP _ _
  have hgg:=zAN (w2.alloc (.cells #[.int .i64 0,.int .i64 0,.int .i64 0,.int .i64 0,.int .i64 0] 54)) P (.slice none 0 0) (.slice none 0 0)
  have HPO:Hid (SetPost bs ss ⟨a,b,c,d,p,q,s,t⟩ k b0 w (.returned (.tuple #[.agg #[.slice none 0 0,.slice none 0 0],.int .i64 0,.iface 91 (.int .i64 (zBU ⟨a,b,c,d,p,q,s,t⟩ k))])) (((w2.alloc (.cells #[.int .i64 0,.int .i64 0,.int .i64 0,.int .i64 0,.int .i64 0] 54)).setCell ⟨P,0,none⟩ (.slice none 0 0)).setCell ⟨P,1,none⟩ (.slice none 0 0))):=
   ⟨fun h=>absurd (hSE.symm.trans h) hE,fun _=>⟨_,_,_,_,_,_,by rw[hSE,errV_of hE]⟩,hWW.grown hgg hWW.size (fun k hk=>by cases hk;have:=HP.out.1;omega)⟩
  obtain⟨z0,z1,zf⟩:=zAb hRP
  have zf0:=zf 0
  have zf1:=zf 1
  generalize zBU ⟨a,b,c,d,p,q,s,t⟩ k=kk at *
  clear zf hgg hRP hRG cel hSE hBa hWa hWW HSO HRE HMR HD
  go_upto_region 4 with fail
  generalize w2.alloc (.cells #[.int .i64 0,.int .i64 0,.int .i64 0,.int .i64 0,.int .i64 0] 54)=W at *
  go_wp2_with fail
  generalize ((W.setCell ⟨P,0,none⟩ (.slice none 0 0)).setCell ⟨P,1,none⟩ (.slice none 0 0))=Z at *
  obtain⟨y0,y1,-⟩:=zAb HHX.out
  exact jN (v:=.tuple #[.agg #[.slice none 0 0,.slice none 0 0],.int .i64 0,.iface 91 (.int .i64 kk)]) (by simp[results,Tryz.results69,go_sem,y0,y1]) rfl HPO.out
 have hRV:zEx ⟨a,b,c,d,p,q,s,t⟩ k=zCy ⟨a,b,c,d,p,q,s,t⟩ k:=by unfold zEx;rw[if_pos hE]
 rw[hRV,hE,errV_zero]
 obtain⟨r1,r2,r3,r4,r5,hkr⟩:∃r1 r2 r3 r4 r5,zCy ⟨a,b,c,d,p,q,s,t⟩ k=⟨r1,r2,r3,r4,r5⟩:=⟨_,_,_,_,_,rfl⟩
 rw[hkr,show rB ⟨r1,r2,r3,r4,r5⟩=.agg #[.int .i64 r1,.int .i64 r2,.int .i64 r3,.int .i64 r4,.int .i64 r5] from rfl]
 have hBa:Below w2.heap.size w2 (w2.alloc (.cells #[.int .i64 r1,.int .i64 r2,.int .i64 r3,.int .i64 r4,.int .i64 r5] 54)):=(bzR _ _).alloc (nzR _) _
 have hRR:(w2.alloc (.cells #[.int .i64 r1,.int .i64 r2,.int .i64 r3,.int .i64 r4,.int .i64 r5] 54)).heap[w2.heap.size]?=some (.cells #[.int .i64 r1,.int .i64 r2,.int .i64 r3,.int .i64 r4,.int .i64 r5] 54 (0,0)):=jA w2 _
 have hWa:Below w1.heap.size w1 (w2.alloc (.cells #[.int .i64 r1,.int .i64 r2,.int .i64 r3,.int .i64 r4,.int .i64 r5] 54)):=HW2.out.trans (hBa.mono HW2.out.size)
 obtain⟨hWW,hRP,hRG,cel⟩:=HSO.out _ hWa
 have HSE:Hid (setE bs ss ⟨a,b,c,d,p,q,s,t⟩ k=putE bs ss c p ⟨r1,r2,r3,r4,r5⟩∧setB bs ⟨a,b,c,d,p,q,s,t⟩ k=put1 bs c p ⟨r1,r2,r3,r4,r5⟩∧setS ss ⟨a,b,c,d,p,q,s,t⟩ k=put2 ss c p ⟨r1,r2,r3,r4,r5⟩∧setG ⟨a,b,c,d,p,q,s,t⟩ k=0):=by
  refine⟨?_,?_,?_,?_⟩
  ·unfold setE;rw[HST.out,if_pos rfl,if_pos hE,hkr]
  ·unfold setB;rw[HST.out,if_pos rfl,hkr]
  ·unfold setS;rw[HST.out,if_pos rfl,hkr]
  ·unfold setG;rw[HST.out,if_pos rfl]
 obtain⟨g0,g1,-⟩:=zAb hRG
 obtain⟨x0,x1,x2,x3,x4,-⟩:=zAe hRR
 have u2:=cel 2
 have u4:=cel 4
 simp only[List.getElem?_toArray,List.getElem?_cons_zero,List.getElem?_cons_succ] at u2 u4
 have HWa:=hidK hWa
 have HWW:=hidK hWW
 clear hRV hkr hE hBa hRR hRP hRG cel hWa hWW HRE HMR
 go_upto_region 4 with fail
 generalize w2.alloc (.cells #[.int .i64 r1,.int .i64 r2,.int .i64 r3,.int .i64 r4,.int .i64 r5] 54)=W at *
 generalize w2.heap.size=RB at *
 have HPU:Hid (Calls Tryz.prog 94 #[.agg #[.slice q1 n1 c1,.slice q2 n2 c2],.int .i64 c,.int .i64 p,.agg #[.int .i64 r1,.int .i64 r2,.int .i64 r3,.int .i64 r4,.int .i64 r5]] W fun x w'=>PutPostD bs ss c p ⟨r1,r2,r3,r4,r5⟩ W x w'):=zNK c p q1 q2 n1 n2 c1 c2 r1 r2 r3 r4 r5 bs ss W (HD.out W HWW.out).1 (HD.out W HWW.out).2
 go_wp2_with fail
 refine HPU.out.mono ?_
 rintro e w3⟨v1,v2,m1,m2,k1,k2,rfl,D1,D2,b3⟩
 have HW3:Hid (Below w1.heap.size w1 w3):=HWa.out.trans (b3.mono HWa.out.size)
 obtain⟨hw3,hRP,hRG,-⟩:=HSO.out w3 HW3.out
 obtain⟨t0,t1,tf⟩:=zAb hRG
 have tf0:=tf 0
 have tf1:=tf 1
 have hG4:=zAw hRG (.slice v1 m1 k1) (.slice v2 m2 k2)
 have hg1:=zAN w3 G (.slice v1 m1 k1) (.slice v2 m2 k2)
 have hlt:P<w3.heap.size∧G≠P∧G<W.heap.size∧P<W.heap.size:=by
  have h1:=HP.out
  have h2:=HWa.out.size
  have h3:=HW3.out.size
  omega
 have hP4:((w3.setCell ⟨G,0,none⟩ (.slice v1 m1 k1)).setCell ⟨G,1,none⟩ (.slice v2 m2 k2)).heap[P]?=some (.cells #[.slice none 0 0,.slice none 0 0] 46 (0,0)):=(hg1.block P hlt.1 (fun e=>by cases e;exact hlt.2.1 rfl)).trans hRP
 obtain⟨s0,s1,-⟩:=zAb hG4
 obtain⟨z0,z1,zf⟩:=zAb hP4
 have zf0:=zf 0
 have zf1:=zf 1
 have HHX:=hidK (zAw hP4 (.slice v1 m1 k1) (.slice v2 m2 k2))
 have hg2:=zAN ((w3.setCell ⟨G,0,none⟩ (.slice v1 m1 k1)).setCell ⟨G,1,none⟩ (.slice v2 m2 k2)) P (.slice v1 m1 k1) (.slice v2 m2 k2)
 have HPO:Hid (SetPost bs ss ⟨a,b,c,d,p,q,s,t⟩ k b0 w (.returned (.tuple #[.agg #[.slice v1 m1 k1,.slice v2 m2 k2],.int .i64 0,errV (putE bs ss c p ⟨r1,r2,r3,r4,r5⟩)])) ((((w3.setCell ⟨G,0,none⟩ (.slice v1 m1 k1)).setCell ⟨G,1,none⟩ (.slice v2 m2 k2)).setCell ⟨P,0,none⟩ (.slice v1 m1 k1)).setCell ⟨P,1,none⟩ (.slice v2 m2 k2))):=by
  obtain⟨e1,e2,e3,e4⟩:=HSE.out
  have hbw:b0≤W.heap.size:=by have h1:=HB0.out;have h2:=HWW.out.size;omega
  have hB4:Below w.heap.size w ((w3.setCell ⟨G,0,none⟩ (.slice v1 m1 k1)).setCell ⟨G,1,none⟩ (.slice v2 m2 k2)):=hw3.grown hg1 hw3.size (fun k hk=>by cases hk;have:=HP.out;omega)
  refine⟨fun h=>⟨v1,v2,m1,m2,k1,k2,?_,?_,?_⟩,fun h=>⟨_,_,_,_,_,_,by rw[e1]⟩,hB4.grown hg2 hB4.size (fun k hk=>by cases hk;have:=HP.out;omega)⟩
  ·rw[e1] at h;rw[h,e4];rfl
  ·rw[e1] at h;rw[if_pos h] at D1;rw[e2]
   exact((D1.other hg1 hlt.2.2.1).other hg2 hlt.2.2.2).mono hbw
  ·rw[e1] at h;rw[if_pos h] at D2;rw[e3]
   exact((D2.other hg1 hlt.2.2.1).other hg2 hlt.2.2.2).mono hbw
 generalize errV (putE bs ss c p ⟨r1,r2,r3,r4,r5⟩)=EV at *
 clear zf tf hg1 hg2 hlt hP4 hG4 hRP hRG hw3 b3 D1 D2 HPU HSE HD HSO
 go_wp2_with fail
 generalize ((((w3.setCell ⟨G,0,none⟩ (.slice v1 m1 k1)).setCell ⟨G,1,none⟩ (.slice v2 m2 k2)).setCell ⟨P,0,none⟩ (.slice v1 m1 k1)).setCell ⟨P,1,none⟩ (.slice v2 m2 k2))=Z at *
 obtain⟨y0,y1,-⟩:=zAb HHX.out
 exact jN (v:=.tuple #[.agg #[.slice v1 m1 k1,.slice v2 m2 k2],.int .i64 0,EV]) (by simp[results,Tryz.results69,go_sem,y0,y1]) rfl HPO.out
def KDPost(bs ss:List L)(o:O)(w:World)(e:Ending)(w' : World):Prop:=
 (kdoE bs ss o=0→∃q1 q2 n1 n2 c1 c2 tv,e=.returned (.tuple #[.agg #[.slice q1 n1 c1,.slice q2 n2 c2],tv,.int .i64 (kdoG bs ss o),.nilIface])∧DL w' w.heap.size (.slice q1 n1 c1) (kdoB bs ss o)∧DL w' w.heap.size (.slice q2 n2 c2) (kdoS bs ss o)∧OwnT w' w.heap.size tv (metR bs ss o).2.1)∧
 (¬kdoE bs ss o=0→e=.returned (.tuple #[.agg #[.slice none 0 0,.slice none 0 0],.slice none 0 0,.int .i64 0,errV (kdoE bs ss o)]))∧Below w.heap.size w w'
theorem zPR(q1 q2:Option Addr)(n1 n2 c1 c2:Nat)(bs ss:List L)(a b c d p q s t:Int)(w:World)(h1:LS w (.slice q1 n1 c1) bs)(h2:LS w (.slice q2 n2 c2) ss) :
  Calls Tryz.prog 43 #[.agg #[.slice q1 n1 c1,.slice q2 n2 c2],.agg #[.int .i64 a,.int .i64 b,.int .i64 c,.int .i64 d,.int .i64 p,.int .i64 q,.int .i64 s,.int .i64 t]] w fun e w'=>KDPost bs ss ⟨a,b,c,d,p,q,s,t⟩ w e w':=by
 obtain⟨V1,hV1⟩:∃V1,V1=w.alloc (.cells #[.slice q1 n1 c1,.slice q2 n2 c2] 46):=⟨_,rfl⟩
 have hs1:V1.heap.size=w.heap.size+1:=by rw[hV1];simp
 have hb1:Below w.heap.size w V1:=by rw[hV1];exact(bzR _ _).alloc (nzR _) _
 have hr1:V1.heap[w.heap.size]?=some (.cells #[.slice q1 n1 c1,.slice q2 n2 c2] 46 (0,0)):=by rw[hV1];exact jA w _
 obtain⟨V2,hV2⟩:∃V2,V2=V1.alloc (.cells #[.int .i64 a,.int .i64 b,.int .i64 c,.int .i64 d,.int .i64 p,.int .i64 q,.int .i64 s,.int .i64 t] 32):=⟨_,rfl⟩
 have hs2:V2.heap.size=w.heap.size+2:=by rw[hV2];simp[hs1]
 have hb2:Below V1.heap.size V1 V2:=by rw[hV2];exact(bzR _ _).alloc (nzR _) _
 have hr2:V2.heap[w.heap.size+1]?=some (.cells #[.int .i64 a,.int .i64 b,.int .i64 c,.int .i64 d,.int .i64 p,.int .i64 q,.int .i64 s,.int .i64 t] 32 (0,0)):=by rw[←hs1,hV2];exact jA V1 _
 obtain⟨V,hV⟩:∃V,V=V2.alloc (.cells #[.slice none 0 0,.slice none 0 0] 46):=⟨_,rfl⟩
 have hb3:Below V2.heap.size V2 V:=by rw[hV];exact(bzR _ _).alloc (nzR _) _
 have hr3:V.heap[w.heap.size+2]?=some (.cells #[.slice none 0 0,.slice none 0 0] 46 (0,0)):=by rw[←hs2,hV];exact jA V2 _
 have hBV:Below w.heap.size w V:=by
  have h:=hb1.trans (hb2.mono hb1.size)
  exact h.trans (hb3.mono h.size)
 have hB0:V.heap[w.heap.size]?=some (.cells #[.slice q1 n1 c1,.slice q2 n2 c2] 46 (0,0)):=by rw[hb3.block _ (by omega),hb2.block _ (by omega)];exact hr1
 have hO0:V.heap[w.heap.size+1]?=some (.cells #[.int .i64 a,.int .i64 b,.int .i64 c,.int .i64 d,.int .i64 p,.int .i64 q,.int .i64 s,.int .i64 t] 32 (0,0)):=by rw[hb3.block _ (by omega)];exact hr2
 obtain⟨P,hP⟩:∃P,P=w.heap.size+2:=⟨_,rfl⟩
 obtain⟨G,hG⟩:∃G,G=w.heap.size:=⟨_,rfl⟩
 obtain⟨Q,hQ⟩:∃Q,Q=w.heap.size+1:=⟨_,rfl⟩
 rw[←hP] at hr3
 have hPV:P<V.heap.size:=(gzE.1 hr3).1
 have HP:Hid (P=w.heap.size+2∧G=w.heap.size∧Q=w.heap.size+1∧P<V.heap.size):=⟨hP,hG,hQ,hPV⟩
 have HSO:Hid (∀W,Below V.heap.size V W→Below w.heap.size w W∧W.heap[P]?=some (.cells #[.slice none 0 0,.slice none 0 0] 46 (0,0))∧W.heap[G]?=some (.cells #[.slice q1 n1 c1,.slice q2 n2 c2] 46 (0,0))∧∀i,W.cell? ⟨Q,i,none⟩=(#[.int .i64 a,.int .i64 b,.int .i64 c,.int .i64 d,.int .i64 p,.int .i64 q,.int .i64 s,.int .i64 t]:Array Value)[i]?):=fun W hW=>
  ⟨hBV.trans (hW.mono hBV.size),(hW.block P hPV).trans hr3,by rw[hG];exact(hW.block _ (by omega)).trans hB0,fun i=>by have h:=(hW.block (w.heap.size+1) (by omega)).trans hO0;rw[←hQ] at h;simp[World.cell?,h]⟩
 have HDO:Hid (Calls Tryz.prog 67 #[.agg #[.slice q1 n1 c1,.slice q2 n2 c2],.agg #[.int .i64 a,.int .i64 b,.int .i64 c,.int .i64 d,.int .i64 p,.int .i64 q,.int .i64 s,.int .i64 t]] V fun e w'=>DoPostD bs ss ⟨a,b,c,d,p,q,s,t⟩ V e w'):=zKx q1 q2 n1 n2 c1 c2 bs ss a b c d p q s t V (h1.below hBV) (h2.below hBV)
 have HERR:Hid (∀W kk,Below V.heap.size V W→kdoE bs ss ⟨a,b,c,d,p,q,s,t⟩=kk→¬kk=0→KDPost bs ss ⟨a,b,c,d,p,q,s,t⟩ w (.returned (.tuple #[.agg #[.slice none 0 0,.slice none 0 0],.slice none 0 0,.int .i64 0,.iface 91 (.int .i64 kk)])) ((W.setCell ⟨P,0,none⟩ (.slice none 0 0)).setCell ⟨P,1,none⟩ (.slice none 0 0))∧
   ((W.setCell ⟨P,0,none⟩ (.slice none 0 0)).setCell ⟨P,1,none⟩ (.slice none 0 0)).heap[P]?=some (.cells #[.slice none 0 0,.slice none 0 0] 46 (0,0))):=fun W kk hW hE hk=>by
  obtain⟨hw,hRP,-,-⟩:=HSO.out W hW
  have hgg:=zAN W P (.slice none 0 0) (.slice none 0 0)
  exact⟨⟨fun h=>absurd (hE.symm.trans h) hk,fun _=>by rw[hE,errV_of hk],hw.grown hgg hw.size (fun k hk=>by cases hk;have:=HP.out.1;omega)⟩,zAw hRP _ _⟩
 clear hs1 hs2 hb1 hb2 hb3 hr1 hr2 hr3 hB0 hO0 hBV h1 h2 hPV
 obtain⟨-,hRP,hRG,cel⟩:=HSO.out V (bzR _ _)
 obtain⟨g0,g1,-⟩:=zAb hRG
 have u0:=cel 0
 have u1:=cel 1
 have u2:=cel 2
 have u3:=cel 3
 have u4:=cel 4
 have u5:=cel 5
 have u6:=cel 6
 have u7':=cel 7
 simp only[List.getElem?_toArray,List.getElem?_cons_zero,List.getElem?_cons_succ] at u0 u1 u2 u3 u4 u5 u6 u7'
 clear cel hRP hRG
 go_enter Tryz.func43,Tryz.ntmps43
 go_wp2_with fail
 rw[←hV1,←hV2,←hV]
 simp only[←hP]
 simp only[←hQ]
 simp only[←hG]
 clear hV1 hV2 hV hP hG hQ
 refine HDO.out.mono ?_
 rintro e w1⟨i1,i2,b1⟩
 have HW1:=hidK b1
 clear g0 g1 u0 u1 u2 u3 u4 u5 u6 u7' b1 HDO
 by_cases hD:doE bs ss ⟨a,b,c,d,p,q,s,t⟩=0
 rotate_left
 ·have e2:=i2 hD
  subst e2
  have hKE:kdoE bs ss ⟨a,b,c,d,p,q,s,t⟩=doE bs ss ⟨a,b,c,d,p,q,s,t⟩:=by unfold kdoE;rw[if_neg hD]
  rw[errV_of hD]
  have hBa:Below w1.heap.size w1 (w1.alloc (.cells #[.slice none 0 0,.slice none 0 0] 46)):=(bzR _ _).alloc (nzR _) _
  have HWa:=hidK (HW1.out.trans (hBa.mono HW1.out.size))
  obtain⟨hPO,hHX⟩:=HERR.out _ _ HWa.out hKE hD
  have HPO:=hidK hPO
  have HHX:=hidK hHX
  obtain⟨-,hRP,-,-⟩:=HSO.out _ HWa.out
  obtain⟨z0,z1,zf⟩:=zAb hRP
  have zf0:=zf 0
  have zf1:=zf 1
  generalize doE bs ss ⟨a,b,c,d,p,q,s,t⟩=kk at *
  clear i1 i2 hPO hHX HERR hRP zf hBa hKE HSO
  go_upto_region 2 with fail
  generalize w1.alloc (.cells #[.slice none 0 0,.slice none 0 0] 46)=W at *
  go_wp2_with fail
  generalize ((W.setCell ⟨P,0,none⟩ (.slice none 0 0)).setCell ⟨P,1,none⟩ (.slice none 0 0))=Z at *
  obtain⟨y0,y1,-⟩:=zAb HHX.out
  exact jN (v:=.tuple #[.agg #[.slice none 0 0,.slice none 0 0],.slice none 0 0,.int .i64 0,.iface 91 (.int .i64 kk)]) (by simp[results,Tryz.results43,go_sem,y0,y1]) rfl HPO.out
 obtain⟨v1,v2,m1,m2,k1,k2,tv,rfl,D1,D2,OT⟩:=i1 hD
 obtain⟨tq,tc,htv⟩:=OwnM.form OT
 subst htv
 obtain⟨BM,hBM⟩:∃BM,metB bs ss ⟨a,b,c,d,p,q,s,t⟩=BM:=⟨_,rfl⟩
 obtain⟨SM,hSM⟩:∃SM,metS bs ss ⟨a,b,c,d,p,q,s,t⟩=SM:=⟨_,rfl⟩
 obtain⟨TT,hTT⟩:∃TT,(metR bs ss ⟨a,b,c,d,p,q,s,t⟩).2.1=TT:=⟨_,rfl⟩
 obtain⟨lf,hlf⟩:∃lf,(metR bs ss ⟨a,b,c,d,p,q,s,t⟩).2.2=lf:=⟨_,rfl⟩
 have HKD:Hid (kdoE bs ss ⟨a,b,c,d,p,q,s,t⟩=(if refE ⟨a,b,c,d,p,q,s,t⟩ lf=0 then setE BM SM ⟨a,b,c,d,p,q,s,t⟩ lf else refE ⟨a,b,c,d,p,q,s,t⟩ lf)∧kdoB bs ss ⟨a,b,c,d,p,q,s,t⟩=setB BM ⟨a,b,c,d,p,q,s,t⟩ lf∧kdoS bs ss ⟨a,b,c,d,p,q,s,t⟩=setS SM ⟨a,b,c,d,p,q,s,t⟩ lf∧kdoG bs ss ⟨a,b,c,d,p,q,s,t⟩=setG ⟨a,b,c,d,p,q,s,t⟩ lf):=by
  unfold kdoE kdoB kdoS kdoG
  rw[if_pos hD,hBM,hSM,hlf]
  exact⟨rfl,rfl,rfl,rfl⟩
 have HBK:Hid (schk 1 BM=0∧schk 2 SM=0):=by
  have h:=zAf (zNn (zFo hD).1)
  rw[hBM,hSM] at h
  exact⟨h.1,h.2.1⟩
 rw[hBM] at D1
 rw[hSM] at D2
 rw[hTT] at OT
 rw[hTT,hlf]
 have HTT:=hidK hTT
 have hBa:Below w1.heap.size w1 (w1.alloc (.cells #[.slice v1 m1 k1,.slice v2 m2 k2] 46)):=(bzR _ _).alloc (nzR _) _
 have hRG1:(w1.alloc (.cells #[.slice v1 m1 k1,.slice v2 m2 k2] 46)).heap[w1.heap.size]?=some (.cells #[.slice v1 m1 k1,.slice v2 m2 k2] 46 (0,0)):=jA w1 _
 have HWa:=hidK (HW1.out.trans (hBa.mono HW1.out.size))
 have HD1:=hidK (D1.below hBa)
 have HD2:=hidK (D2.below hBa)
 have HOT:=hidK (OwnM.below OT hBa)
 clear i1 i2 D1 D2 OT hBa hBM hSM hTT hlf hD
 go_upto_region 2 with fail
 generalize w1.alloc (.cells #[.slice v1 m1 k1,.slice v2 m2 k2] 46)=W at *
 generalize w1.heap.size=G1 at *
 obtain⟨-,-,-,cel⟩:=HSO.out W HWa.out
 have u0:=cel 0
 have u1:=cel 1
 have u2:=cel 2
 have u3:=cel 3
 have u4:=cel 4
 have u5:=cel 5
 have u6:=cel 6
 have u7':=cel 7
 simp only[List.getElem?_toArray,List.getElem?_cons_zero,List.getElem?_cons_succ] at u0 u1 u2 u3 u4 u5 u6 u7'
 have hG1:G1<W.heap.size:=(gzE.1 hRG1).1
 clear cel
 go_wp2_with fail
 refine(zJa a b c d p q s t lf W).mono ?_
 rintro e w2⟨rfl,b2⟩
 have HW2:=hidK (HWa.out.trans (b2.mono HWa.out.size))
 have HE1:=hidK (HD1.out.below b2)
 have HE2:=hidK (HD2.out.below b2)
 have HOT2:=hidK (OwnM.below HOT.out b2)
 have hRG2:=(b2.block G1 hG1).trans hRG1
 clear b2 hRG1 u0 u1 u2 u3 u4 u5 u6 u7' HD1 HD2 HOT
 by_cases hF:refE ⟨a,b,c,d,p,q,s,t⟩ lf=0
 rotate_left
 ·rw[errV_of hF]
  obtain⟨hPO,hHX⟩:=HERR.out w2 _ HW2.out (by rw[HKD.out.1,if_neg hF]) hF
  have HPO:=hidK hPO
  have HHX:=hidK hHX
  obtain⟨-,hRP,-,-⟩:=HSO.out _ HW2.out
  obtain⟨z0,z1,zf⟩:=zAb hRP
  have zf0:=zf 0
  have zf1:=zf 1
  generalize refE ⟨a,b,c,d,p,q,s,t⟩ lf=kk at *
  clear hPO hHX HERR hRP zf HSO hRG2
  go_wp2_with fail
  generalize ((w2.setCell ⟨P,0,none⟩ (.slice none 0 0)).setCell ⟨P,1,none⟩ (.slice none 0 0))=Z at *
  obtain⟨y0,y1,-⟩:=zAb HHX.out
  exact jN (v:=.tuple #[.agg #[.slice none 0 0,.slice none 0 0],.slice none 0 0,.int .i64 0,.iface 91 (.int .i64 kk)]) (by simp[results,Tryz.results43,go_sem,y0,y1]) rfl HPO.out
 rw[hF,errV_zero]
 have HKE:Hid (kdoE bs ss ⟨a,b,c,d,p,q,s,t⟩=setE BM SM ⟨a,b,c,d,p,q,s,t⟩ lf):=by show _=_;rw[HKD.out.1,if_pos hF]
 have HSE:=hidK (settle_any v1 v2 m1 m2 k1 k2 BM SM a b c d p q s t lf V.heap.size w2 HE1.out.ls HE2.out.ls HW2.out.size HBK.out.1 HBK.out.2)
 obtain⟨-,-,-,cel⟩:=HSO.out w2 HW2.out
 have u0:=cel 0
 have u1:=cel 1
 have u2:=cel 2
 have u3:=cel 3
 have u4:=cel 4
 have u5:=cel 5
 have u6:=cel 6
 have u7':=cel 7
 simp only[List.getElem?_toArray,List.getElem?_cons_zero,List.getElem?_cons_succ] at u0 u1 u2 u3 u4 u5 u6 u7'
 obtain⟨g0,g1,-⟩:=zAb hRG2
 clear cel hRG2 hF HE1 HE2
 go_wp2_with fail
 refine HSE.out.mono ?_
 rintro e w3⟨j1,j2,b3⟩
 have HW3:=hidK (HW2.out.trans (b3.mono HW2.out.size))
 have HOT3:=hidK (OwnM.below HOT2.out b3)
 clear b3 u0 u1 u2 u3 u4 u5 u6 u7' g0 g1 HSE HOT2
 by_cases hS:setE BM SM ⟨a,b,c,d,p,q,s,t⟩ lf=0
 rotate_left
 ·obtain⟨x1,x2,y1,y2,l1,l2,rfl⟩:=j2 hS
  rw[errV_of hS]
  have hBa:Below w3.heap.size w3 (w3.alloc (.cells #[.slice x1 y1 l1,.slice x2 y2 l2] 46)):=(bzR _ _).alloc (nzR _) _
  have HW4:=hidK (HW3.out.trans (hBa.mono HW3.out.size))
  obtain⟨hPO,hHX⟩:=HERR.out _ _ HW4.out HKE.out hS
  have HPO:=hidK hPO
  have HHX:=hidK hHX
  obtain⟨-,hRP,-,-⟩:=HSO.out _ HW4.out
  obtain⟨z0,z1,zf⟩:=zAb hRP
  have zf0:=zf 0
  have zf1:=zf 1
  generalize setE BM SM ⟨a,b,c,d,p,q,s,t⟩ lf=kk at *
  clear hPO hHX HERR hRP zf HSO j1 j2 hBa
  go_upto_region 8 with fail
  generalize w3.alloc (.cells #[.slice x1 y1 l1,.slice x2 y2 l2] 46)=W4 at *
  go_wp2_with fail
  generalize ((W4.setCell ⟨P,0,none⟩ (.slice none 0 0)).setCell ⟨P,1,none⟩ (.slice none 0 0))=Z at *
  obtain⟨y0,y1,-⟩:=zAb HHX.out
  exact jN (v:=.tuple #[.agg #[.slice none 0 0,.slice none 0 0],.slice none 0 0,.int .i64 0,.iface 91 (.int .i64 kk)]) (by simp[results,Tryz.results43,go_sem,y0,y1]) rfl HPO.out
 obtain⟨x1,x2,y1,y2,l1,l2,rfl,F1,F2⟩:=j1 hS
 have hBa:Below w3.heap.size w3 (w3.alloc (.cells #[.slice x1 y1 l1,.slice x2 y2 l2] 46)):=(bzR _ _).alloc (nzR _) _
 have HW4:=hidK (HW3.out.trans (hBa.mono HW3.out.size))
 have hRG3:(w3.alloc (.cells #[.slice x1 y1 l1,.slice x2 y2 l2] 46)).heap[w3.heap.size]?=some (.cells #[.slice x1 y1 l1,.slice x2 y2 l2] 46 (0,0)):=jA w3 _
 have HF1:=hidK (F1.below hBa)
 have HF2:=hidK (F2.below hBa)
 have HOT4:=hidK (OwnM.below HOT3.out hBa)
 clear hBa F1 F2 HOT3 j1 j2
 go_upto_region 8 with fail
 generalize w3.alloc (.cells #[.slice x1 y1 l1,.slice x2 y2 l2] 46)=W4 at *
 generalize w3.heap.size=G3 at *
 obtain⟨hw4,hRP,-,-⟩:=HSO.out _ HW4.out
 obtain⟨z0,z1,zf⟩:=zAb hRP
 have zf0:=zf 0
 have zf1:=zf 1
 obtain⟨g0,g1,-⟩:=zAb hRG3
 have HHX:=hidK (zAw hRP (.slice x1 y1 l1) (.slice x2 y2 l2))
 have hgg:=zAN W4 P (.slice x1 y1 l1) (.slice x2 y2 l2)
 have hsw:w.heap.size≤V.heap.size:=by have:=HP.out;omega
 have hPV:P<V.heap.size:=HP.out.2.2.2
 have HPO:Hid (KDPost bs ss ⟨a,b,c,d,p,q,s,t⟩ w (.returned (.tuple #[.agg #[.slice x1 y1 l1,.slice x2 y2 l2],.slice tq TT.length tc,.int .i64 (setG ⟨a,b,c,d,p,q,s,t⟩ lf),.nilIface])) ((W4.setCell ⟨P,0,none⟩ (.slice x1 y1 l1)).setCell ⟨P,1,none⟩ (.slice x2 y2 l2))):=by
  obtain⟨e1,e2,e3,e4⟩:=HKD.out
  refine⟨fun _=>⟨_,_,_,_,_,_,_,by rw[e4],?_,?_,?_⟩,fun h=>absurd (HKE.out.trans hS) h,hw4.grown hgg hw4.size (fun k hk=>by cases hk;have:=HP.out.1;omega)⟩
  ·rw[e2];exact(HF1.out.other hgg hPV).mono hsw
  ·rw[e3];exact(HF2.out.other hgg hPV).mono hsw
  ·rw[HTT.out];exact OwnM.mono (zAj HOT4.out hgg (fun z hz e=>by cases e;have:=(OwnM.lt HOT4.out P hz).1;omega)) hsw
 generalize setG ⟨a,b,c,d,p,q,s,t⟩ lf=GG at *
 generalize TT.length=tl at *
 clear zf hgg hRP hRG3 hw4 HSO HERR HKD HKE hS HOT4 HF1 HF2 hsw hPV
 go_wp2_with fail
 generalize ((W4.setCell ⟨P,0,none⟩ (.slice x1 y1 l1)).setCell ⟨P,1,none⟩ (.slice x2 y2 l2))=Z at *
 obtain⟨y0,y1,-⟩:=zAb HHX.out
 exact jN (v:=.tuple #[.agg #[.slice x1 _ l1,.slice x2 _ l2],.slice tq tl tc,.int .i64 GG,.nilIface]) (by simp[results,Tryz.results43,go_sem,y0,y1]) rfl HPO.out
end kin
end Go.Proofs.YtifjhlgjgnnnpaaGreat
