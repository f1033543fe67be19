import Derived.Test.YtmhcghgfpfainaaGreatDoorBokPut2
set_option maxHeartbeats 4000000
set_option maxRecDepth 100000
namespace Go.Proofs.YtmhcghgfpfainaaGreatDoor
open Tryz
namespace kin
open Go.RowKit spn que sid bok mee
open ord (O oV mB mE chk zAz)
open tickP (zAn zAB zBy betR)
theorem hidK{P:Prop}(h:P):Hid P:=h
def zGT(o:O)(k:Int):Int:=if o.shw=0 then k else min o.shw k
def zBt(o:O)(k:Int):R:=⟨o.id,o.who,zGT o k,k - zGT o k,o.shw⟩
def zBR(o:O)(k:Int):Int:=if chk o=0 then (if 1≤k∧k≤o.qty then 0 else 1) else chk o
def zeroR:R:=⟨0,0,0,0,0⟩
def zET(o:O)(k:Int):R:=if zBR o k=0 then zBt o k else zeroR
def mayK(o:O):Bool:=o.kind == 1 || o.kind == 5
def refE(o:O)(left:Int):Int:=if o.kind=4∧0<left then 9 else if o.kind=5∧left<o.qty then 8 else 0
def zBz(o:O)(left:Int):Bool:=!(left == 0) && mayK o
def setE(bs ss:List L)(o:O)(left:Int):Int:=if zBz o left=true then (if zBR o left=0 then putE bs ss o.side o.price (zBt o left) else zBR o left) else 0
def setB(bs:List L)(o:O)(left:Int):List L:=if zBz o left=true then put1 bs o.side o.price (zBt o left) else bs
def setS(ss:List L)(o:O)(left:Int):List L:=if zBz o left=true then put2 ss o.side o.price (zBt o left) else ss
def setG(o:O)(left:Int):Int:=if zBz o left=true then 0 else left
def kdoE(bs ss:List L)(o:O):Int:=
 if doE bs ss o=0 then (if refE o (metR bs ss o).2.2=0 then setE (metB bs ss o) (metS bs ss o) o (metR bs ss o).2.2 else refE o (metR bs ss o).2.2) else doE bs ss o
def kdoB(bs ss:List L)(o:O):List L:=setB (metB bs ss o) o (metR bs ss o).2.2
def kdoS(bs ss:List L)(o:O):List L:=setS (metS bs ss o) o (metR bs ss o).2.2
def kdoG(bs ss:List L)(o:O):Int:=setG o (metR bs ss o).2.2
theorem shw_of{o:O}(h:chk o=0):0≤o.shw∧o.shw≤o.qty∧1≤o.qty∧o.qty≤10000:=by
 obtain⟨-,-,h3,-,-⟩:=ord.zBB h;simp[ord.qtyB] at h3;omega
theorem zFQ{bs ss:List L}{o:O}(h:doE bs ss o=0):zAt bs ss o=0∧(metR bs ss o).2.1.length≤400:=by
 unfold doE at h;by_cases hC:zAt bs ss o=0
 ·rw[if_pos hC] at h;by_cases h4:400<(metR bs ss o).2.1.length
  ·rw[if_pos h4] at h;omega
  ·exact⟨hC,by omega⟩
 ·rw[if_neg hC] at h;exact absurd h hC
theorem zIP{bs ss:List L}{o:O}(h:kdoE bs ss o=0):doE bs ss o=0∧refE o (metR bs ss o).2.2=0∧setE (metB bs ss o) (metS bs ss o) o (metR bs ss o).2.2=0:=by
 unfold kdoE at h;by_cases h1:doE bs ss o=0
 ·rw[if_pos h1] at h;by_cases h2:refE o (metR bs ss o).2.2=0
  ·rw[if_pos h2] at h;exact⟨h1,h2,h⟩
  ·rw[if_neg h2] at h;exact absurd h h2
 ·rw[if_neg h1] at h;exact absurd h h1
end kin
namespace kin
open Go.RowKit spn que sid bok mee
open ord (O oV mB mE chk zAz)
theorem zIQ(k lo hi:Int):[(k,lo,hi)].any zAo = !(decide (lo≤k∧k≤hi)):=by
 rw[Bool.eq_iff_iff];simp[zAo]
def rB(r:R):Value:=.agg #[.int .i64 r.id,.int .i64 r.who,.int .i64 r.qty,.int .i64 r.hid,.int .i64 r.shw]
theorem zMg(a b c d p q s t k:Int)(w:World) :
  Calls prog 167 #[.agg #[.int .i64 a,.int .i64 b,.int .i64 c,.int .i64 d,.int .i64 p,.int .i64 q,.int .i64 s,.int .i64 t],.int .i64 k] w fun e w'=>e=.returned (.tuple #[rB (zET ⟨a,b,c,d,p,q,s,t⟩ k),errV (zBR ⟨a,b,c,d,p,q,s,t⟩ k)])∧Below w.heap.size w w':=by
 obtain⟨V2,gl⟩:∃V2,V2=w.alloc (.cells #[.int .i64 a,.int .i64 b,.int .i64 c,.int .i64 d,.int .i64 p,.int .i64 q,.int .i64 s,.int .i64 t] 40):=⟨_,rfl⟩;have gd:V2.heap.size=w.heap.size+1:=by rw[gl];simp
 have gO:Below w.heap.size w V2:=by rw[gl];exact(bzR _ _).alloc (nzR _) _
 have ul:V2.heap[w.heap.size]?=some (.cells #[.int .i64 a,.int .i64 b,.int .i64 c,.int .i64 d,.int .i64 p,.int .i64 q,.int .i64 s,.int .i64 t] 40 (0,0)):=by rw[gl];exact jA w _
 obtain⟨V,hV⟩:∃V,V=V2.alloc (.cells #[.int .i64 0,.int .i64 0,.int .i64 0,.int .i64 0,.int .i64 0] 54):=⟨_,rfl⟩;have gj:Below V2.heap.size V2 V:=by rw[hV];exact(bzR _ _).alloc (nzR _) _
 have HB:Hid (Below w.heap.size w V):=gO.trans (gj.mono gO.size);have GF:V.heap[V2.heap.size]?=some (.cells #[.int .i64 0,.int .i64 0,.int .i64 0,.int .i64 0,.int .i64 0] 54 (0,0)):=by rw[hV];exact jA V2 _
 have Un:V.heap[w.heap.size]?=some (.cells #[.int .i64 a,.int .i64 b,.int .i64 c,.int .i64 d,.int .i64 p,.int .i64 q,.int .i64 s,.int .i64 t] 40 (0,0)):=(gj.block _ (by omega)).trans ul
 obtain⟨P,hP⟩:∃P,P=w.heap.size+1:=⟨_,rfl⟩;rw[show V2.heap.size=P by rw[gd,hP]] at GF
 have HP:Hid (P=w.heap.size+1):=hP;have uF:Hid (∀W,Calls prog 105 #[.agg #[.int .i64 a,.int .i64 b,.int .i64 c,.int .i64 d,.int .i64 p,.int .i64 q,.int .i64 s,.int .i64 t]] W fun e w'=>e=.returned (errV (chk ⟨a,b,c,d,p,q,s,t⟩))∧Below W.heap.size W w'):=fun W=>ord.zDm a b c d p q s t W
 have gY:P<V.heap.size:=(gzE.1 GF).1;have hwV:w.heap.size<V.heap.size:=(gzE.1 Un).1;have Hn:Hid (∀W,Below V.heap.size V W→Below w.heap.size w W∧W.heap[P]?=some (.cells #[.int .i64 0,.int .i64 0,.int .i64 0,.int .i64 0,.int .i64 0] 54 (0,0))∧∀i,W.cell? ⟨w.heap.size,i,none⟩=(#[.int .i64 a,.int .i64 b,.int .i64 c,.int .i64 d,.int .i64 p,.int .i64 q,.int .i64 s,.int .i64 t]:Array Value)[i]?):=fun W hW=>
  ⟨HB.out.trans (hW.mono HB.out.size),(hW.block P gY).trans GF,fun i=>by have h:=(hW.block w.heap.size hwV).trans Un;simp[World.cell?,h]⟩
 have My:Hid (∀W kk,Below w.heap.size w W→zBR ⟨a,b,c,d,p,q,s,t⟩ k=kk→¬kk=0→(Ending.returned (.tuple #[.agg #[.int .i64 0,.int .i64 0,.int .i64 0,.int .i64 0,.int .i64 0],.iface 80 (.int .i64 kk)])=.returned (.tuple #[rB (zET ⟨a,b,c,d,p,q,s,t⟩ k),errV (zBR ⟨a,b,c,d,p,q,s,t⟩ k)])∧Below w.heap.size w W)):=fun W kk hW h1 h2=>⟨by
   unfold zET;rw[h1,if_neg h2,wAb h2];rfl,hW⟩
 clear gd gO gj ul GF Un gY hwV;go_enter func167,ntmps167;obtain⟨-,gc,cel⟩:=Hn.out V (bzR _ _);have c0:=cel 0;have c1:=cel 1;have c2:=cel 2;have c3:=cel 3;have c4:=cel 4;have c5:=cel 5;have c6:=cel 6;have c7:=cel 7;simp only[List.getElem?_toArray,List.getElem?_cons_zero,List.getElem?_cons_succ] at c0 c1 c2 c3 c4 c5 c6 c7;clear cel gc;go_wp2_with fail;rw[←gl,←hV];simp only[←hP];clear gl hV hP;refine(uF.out V).mono ?_;rintro e w1⟨rfl,b1⟩;have M6:Hid (Below V.heap.size V w1):=b1;obtain⟨gb,gc,cel⟩:=Hn.out w1 b1;clear b1 c0 c1 c2 c3 c4 c5 c6 c7;by_cases e1:chk ⟨a,b,c,d,p,q,s,t⟩=0
 rotate_left
 ·have hE:zBR ⟨a,b,c,d,p,q,s,t⟩ k=chk ⟨a,b,c,d,p,q,s,t⟩:=by unfold zBR;rw[if_neg e1]
  rw[wAb e1];obtain⟨z0,z1,z2,z3,z4,zf⟩:=zAi gc;have f0:=zf 0;have f1:=zf 1;have f2:=zf 2;have f3:=zf 3;have f4:=zf 4;have Hy:Hid ((((((w1.setCell ⟨P,0,none⟩ (.int .i64 0)).setCell ⟨P,1,none⟩ (.int .i64 0)).setCell ⟨P,2,none⟩ (.int .i64 0)).setCell ⟨P,3,none⟩ (.int .i64 0)).setCell ⟨P,4,none⟩ (.int .i64 0)).heap[P]?=some (.cells #[.int .i64 0,.int .i64 0,.int .i64 0,.int .i64 0,.int .i64 0] 54 (0,0))):=zBb gc _ _ _ _ _;have hg:=zBW w1 P (.int .i64 0) (.int .i64 0) (.int .i64 0) (.int .i64 0) (.int .i64 0);have Hz:=hidK (My.out _ _ (gb.grown hg gb.size (fun k hk=>by cases hk;have:=HP.out;omega)) hE e1)
  generalize chk ⟨a,b,c,d,p,q,s,t⟩=kk at *;clear zf hg hE My gc cel;go_wp2_with fail;generalize (((((w1.setCell ⟨P,0,none⟩ (.int .i64 0)).setCell ⟨P,1,none⟩ (.int .i64 0)).setCell ⟨P,2,none⟩ (.int .i64 0)).setCell ⟨P,3,none⟩ (.int .i64 0)).setCell ⟨P,4,none⟩ (.int .i64 0))=X at *;obtain⟨y0,y1,y2,y3,y4,-⟩:=zAi Hy.out;exact jN (v:=.tuple #[.agg #[.int .i64 0,.int .i64 0,.int .i64 0,.int .i64 0,.int .i64 0],.iface 80 (.int .i64 kk)]) (by simp[results,results167,go_sem,y0,y1,y2,y3,y4]) rfl Hz.out
 have HE:Hid (chk ⟨a,b,c,d,p,q,s,t⟩=0):=e1;rw[e1,wAa];have c5:=cel 5;simp only[List.getElem?_toArray,List.getElem?_cons_zero,List.getElem?_cons_succ] at c5;clear e1 cel;go_wp2_with fail;refine(zBp k 1 q w1).mono ?_;rintro e w2⟨rfl,b2⟩;have GO:Hid (Below V.heap.size V w2):=M6.out.trans (b2.mono M6.out.size);clear b2 c5;go_wp2_with fail;generalize hr:[(k,1,q)].any zAo=r;have HR:Hid ([(k,1,q)].any zAo=r):=hr;clear hr;refine(scheck1 r _ _ _ _ _ rfl HR.out).mono ?_;rintro e w3⟨rfl,b3⟩;have Ub:Hid (Below V.heap.size V w3):=GO.out.trans (b3.mono GO.out.size);clear b3 gc gb;obtain⟨gS,Ga,cel⟩:=Hn.out w3 Ub.out;have bt:Hid ((!(decide (1≤k∧k≤q)))=r):=(zIQ k 1 q).symm.trans HR.out;clear HR;obtain⟨z0,z1,z2,z3,z4,zf⟩:=zAi Ga;have f0:=zf 0;have f1:=zf 1;have f2:=zf 2;have f3:=zf 3;have f4:=zf 4;cases r
 rotate_left
 ·have hE:zBR ⟨a,b,c,d,p,q,s,t⟩ k=1:=by
   unfold zBR;have h:=bt.out;simp at h;rw[if_pos HE.out,if_neg (show ¬(1≤k∧k≤q) by omega)]
  rw[show spn.errV (zAg true)=.iface 80 (.int .i64 1) from rfl]
  have Hy:Hid ((((((w3.setCell ⟨P,0,none⟩ (.int .i64 0)).setCell ⟨P,1,none⟩ (.int .i64 0)).setCell ⟨P,2,none⟩ (.int .i64 0)).setCell ⟨P,3,none⟩ (.int .i64 0)).setCell ⟨P,4,none⟩ (.int .i64 0)).heap[P]?=some (.cells #[.int .i64 0,.int .i64 0,.int .i64 0,.int .i64 0,.int .i64 0] 54 (0,0))):=zBb Ga _ _ _ _ _;have hg:=zBW w3 P (.int .i64 0) (.int .i64 0) (.int .i64 0) (.int .i64 0) (.int .i64 0);have Hz:=hidK (My.out _ _ (gS.grown hg gS.size (fun k hk=>by cases hk;have:=HP.out;omega)) hE (by decide))
  clear zf hg hE My Ga cel;go_wp2_with fail;generalize (((((w3.setCell ⟨P,0,none⟩ (.int .i64 0)).setCell ⟨P,1,none⟩ (.int .i64 0)).setCell ⟨P,2,none⟩ (.int .i64 0)).setCell ⟨P,3,none⟩ (.int .i64 0)).setCell ⟨P,4,none⟩ (.int .i64 0))=X at *;obtain⟨y0,y1,y2,y3,y4,-⟩:=zAi Hy.out;exact jN (v:=.tuple #[.agg #[.int .i64 0,.int .i64 0,.int .i64 0,.int .i64 0,.int .i64 0],.iface 80 (.int .i64 1)]) (by simp[results,results167,go_sem,y0,y1,y2,y3,y4]) rfl Hz.out
 rw[show spn.errV (zAg false)=.nilIface from rfl]
 have hk:1≤k∧k≤q:=by have h:=bt.out;simpa using h
 have hq:=shw_of HE.out;simp only[] at hq;have hE:zBR ⟨a,b,c,d,p,q,s,t⟩ k=0:=by
  unfold zBR;rw[if_pos HE.out,if_pos (show 1≤k∧k≤q from hk)]
 have c0:=cel 0;have c1:=cel 1;have c6:=cel 6;simp only[List.getElem?_toArray,List.getElem?_cons_zero,List.getElem?_cons_succ] at c0 c1 c6;have PT:Hid (∀W x y,Below w.heap.size w W→zGT ⟨a,b,c,d,p,q,s,t⟩ k=x→k - x=y→(Ending.returned (.tuple #[.agg #[.int .i64 a,.int .i64 b,.int .i64 x,.int .i64 y,.int .i64 s],.nilIface])=.returned (.tuple #[rB (zET ⟨a,b,c,d,p,q,s,t⟩ k),errV (zBR ⟨a,b,c,d,p,q,s,t⟩ k)])∧Below w.heap.size w W)):=fun W x y hW h1 h2=>⟨by
   unfold zET;rw[hE,if_pos rfl,wAa];unfold zBt;rw[h1,h2];rfl,hW⟩
 have MJ:Hid (Below w.heap.size w w3):=gS;clear bt HE hE zf cel gS My Hn uF M6 GO Ub;by_cases hs:s=0
 ·subst hs;have E1:Hid (wrap64 (k - k)=0):=by show _=_;unfold wrap64;omega
  have Hy:Hid ((((((w3.setCell ⟨P,0,none⟩ (.int .i64 a)).setCell ⟨P,1,none⟩ (.int .i64 b)).setCell ⟨P,2,none⟩ (.int .i64 k)).setCell ⟨P,3,none⟩ (.int .i64 0)).setCell ⟨P,4,none⟩ (.int .i64 0)).heap[P]?=some (.cells #[.int .i64 a,.int .i64 b,.int .i64 k,.int .i64 0,.int .i64 0] 54 (0,0))):=zBb Ga _ _ _ _ _;have hg:=zBW w3 P (.int .i64 a) (.int .i64 b) (.int .i64 k) (.int .i64 0) (.int .i64 0);have Hz:=hidK (PT.out _ k 0 (MJ.out.grown hg MJ.out.size (fun k hk=>by cases hk;have:=HP.out;omega)) (by unfold zGT;rw[if_pos rfl]) (by omega))
  clear Ga hg PT hk hq;have x1:=E1.out;go_wp2_with fail;generalize (((((w3.setCell ⟨P,0,none⟩ (.int .i64 a)).setCell ⟨P,1,none⟩ (.int .i64 b)).setCell ⟨P,2,none⟩ (.int .i64 k)).setCell ⟨P,3,none⟩ (.int .i64 0)).setCell ⟨P,4,none⟩ (.int .i64 0))=X at *;obtain⟨y0,y1,y2,y3,y4,-⟩:=zAi Hy.out;exact jN (v:=.tuple #[.agg #[.int .i64 a,.int .i64 b,.int .i64 k,.int .i64 0,.int .i64 0],.nilIface]) (by simp[results,results167,go_sem,y0,y1,y2,y3,y4]) rfl Hz.out
 ·have Hm:(s != 0)=true:=by simp[hs]
  obtain⟨m,hm⟩:∃m,min s k=m:=⟨_,rfl⟩;obtain⟨y,hy⟩:∃y,k - m=y:=⟨_,rfl⟩;have E1:Hid (wrap64 (k - m)=y):=by show _=_;unfold wrap64;omega
  have HM:Hid (min s k=m):=hm;have Hy:Hid ((((((w3.setCell ⟨P,0,none⟩ (.int .i64 a)).setCell ⟨P,1,none⟩ (.int .i64 b)).setCell ⟨P,2,none⟩ (.int .i64 m)).setCell ⟨P,3,none⟩ (.int .i64 y)).setCell ⟨P,4,none⟩ (.int .i64 s)).heap[P]?=some (.cells #[.int .i64 a,.int .i64 b,.int .i64 m,.int .i64 y,.int .i64 s] 54 (0,0))):=zBb Ga _ _ _ _ _;have hg:=zBW w3 P (.int .i64 a) (.int .i64 b) (.int .i64 m) (.int .i64 y) (.int .i64 s);have Hz:=hidK (PT.out _ m y (MJ.out.grown hg MJ.out.size (fun k hk=>by cases hk;have:=HP.out;omega)) (by unfold zGT;rw[if_neg hs];exact hm) hy)
  clear Ga hg PT hk hq hs hy hm;have x1:=E1.out;have x2:=HM.out;go_wp2_with fail
  trace_state
  generalize (((((w3.setCell ⟨P,0,none⟩ (.int .i64 a)).setCell ⟨P,1,none⟩ (.int .i64 b)).setCell ⟨P,2,none⟩ (.int .i64 m)).setCell ⟨P,3,none⟩ (.int .i64 y)).setCell ⟨P,4,none⟩ (.int .i64 s))=X at *;obtain⟨y0,y1,y2,y3,y4,-⟩:=zAi Hy.out;exact jN (v:=.tuple #[.agg #[.int .i64 a,.int .i64 b,.int .i64 m,.int .i64 y,.int .i64 s],.nilIface]) (by simp[results,results167,go_sem,y0,y1,y2,y3,y4]) rfl Hz.out
theorem zKd(a b c d p q s t k:Int)(w:World) :
  Calls prog 162 #[.agg #[.int .i64 a,.int .i64 b,.int .i64 c,.int .i64 d,.int .i64 p,.int .i64 q,.int .i64 s,.int .i64 t],.int .i64 k] w fun e w'=>e=.returned (errV (refE ⟨a,b,c,d,p,q,s,t⟩ k))∧Bw w w':=by
 have hB:Bw w (w.alloc (.cells #[.int .i64 a,.int .i64 b,.int .i64 c,.int .i64 d,.int .i64 p,.int .i64 q,.int .i64 s,.int .i64 t] 40)):=(bzR _ _).alloc (nzR _) _;generalize hk:refE ⟨a,b,c,d,p,q,s,t⟩ k=kk;have HK:Hid ((if d=4∧0<k then 9 else if d=5∧k<q then 8 else 0)=kk):=hk
 clear hk;by_cases h4:d=4
 ·subst h4;by_cases h0:0<k
  ·have gh:kk=9:=by rw[←HK.out,if_pos ⟨rfl,h0⟩]
   subst gh;go_enter func162,ntmps162;go_wp2_with fail;go_ret;exact⟨rfl,hB⟩
  ·have gh:kk=0:=by rw[←HK.out,if_neg (fun h=>h0 h.2),if_neg (by omega)]
   subst gh;go_enter func162,ntmps162;go_wp2_with fail;go_ret;exact⟨rfl,hB⟩
 ·have h4b:(d == 4)=false:=by simp[h4]
  by_cases h5:d=5
  ·subst h5;by_cases h0:k<q
   ·have gh:kk=8:=(by rw[←HK.out,if_neg (by omega),if_pos ⟨rfl,h0⟩]);subst gh;go_enter func162,ntmps162;go_wp2_with fail;go_ret;exact⟨rfl,hB⟩
   ·have gh:kk=0:=by rw[←HK.out,if_neg (by omega),if_neg (fun h=>h0 h.2)]
    subst gh;go_enter func162,ntmps162;go_wp2_with fail;go_ret;exact⟨rfl,hB⟩
  ·have h5b:(d == 5)=false:=by simp[h5]
   have gh:kk=0:=by rw[←HK.out,if_neg (fun h=>h4 h.1),if_neg (fun h=>h5 h.1)]
   subst gh;go_enter func162,ntmps162;go_wp2_with fail;go_ret;exact⟨rfl,hB⟩
end kin
namespace kin
open Go.RowKit spn que sid bok mee
open ord (O oV mB mE chk zAz zBE)
def SetPost(bs ss:List L)(o:O)(left:Int)(b0:Nat)(w:World)(e:Ending)(w' : World):Prop:=
 (setE bs ss o left=0→∃q1 q2 n1 n2 c1 c2,e=.returned (.tuple #[.agg #[.slice q1 n1 c1,.slice q2 n2 c2],.int .i64 (setG o left),.nilIface])∧DL w' b0 (.slice q1 n1 c1) (setB bs o left)∧DL w' b0 (.slice q2 n2 c2) (setS ss o left))∧
 (¬setE bs ss o left=0→∃q1 q2 n1 n2 c1 c2,e=.returned (.tuple #[.agg #[.slice q1 n1 c1,.slice q2 n2 c2],.int .i64 0,errV (setE bs ss o left)]))∧Bw w w'
theorem wAM(q1 q2:Option Addr)(n1 n2 c1 c2:Nat)(bs ss:List L)(a b c d p q s t k:Int)(b0:Nat)(w:World)(h1:LS w (.slice q1 n1 c1) bs)(h2:LS w (.slice q2 n2 c2) ss)(Uo:b0≤w.heap.size)(MV:schk 1 bs=0)(GB:schk 2 ss=0) :
  Calls prog 148 #[.agg #[.slice q1 n1 c1,.slice q2 n2 c2],.agg #[.int .i64 a,.int .i64 b,.int .i64 c,.int .i64 d,.int .i64 p,.int .i64 q,.int .i64 s,.int .i64 t],.int .i64 k] w fun e w'=>SetPost bs ss ⟨a,b,c,d,p,q,s,t⟩ k b0 w e w':=by
 obtain⟨V1,gy⟩:∃V1,V1=w.alloc (.cells #[.slice q1 n1 c1,.slice q2 n2 c2] 50):=⟨_,rfl⟩;have Hm:V1.heap.size=w.heap.size+1:=by rw[gy];simp
 have Ha:Below w.heap.size w V1:=by rw[gy];exact(bzR _ _).alloc (nzR _) _
 have go:V1.heap[w.heap.size]?=some (.cells #[.slice q1 n1 c1,.slice q2 n2 c2] 50 (0,0)):=by rw[gy];exact jA w _
 obtain⟨V2,gl⟩:∃V2,V2=V1.alloc (.cells #[.int .i64 a,.int .i64 b,.int .i64 c,.int .i64 d,.int .i64 p,.int .i64 q,.int .i64 s,.int .i64 t] 40):=⟨_,rfl⟩;have gd:V2.heap.size=w.heap.size+2:=by rw[gl];simp[Hm]
 have Hc:Below V1.heap.size V1 V2:=by rw[gl];exact(bzR _ _).alloc (nzR _) _
 have H5:V2.heap[w.heap.size+1]?=some (.cells #[.int .i64 a,.int .i64 b,.int .i64 c,.int .i64 d,.int .i64 p,.int .i64 q,.int .i64 s,.int .i64 t] 40 (0,0)):=by rw[←Hm,gl];exact jA V1 _
 obtain⟨V,hV⟩:∃V,V=V2.alloc (.cells #[.slice none 0 0,.slice none 0 0] 50):=⟨_,rfl⟩;have Hr:Below V2.heap.size V2 V:=by rw[hV];exact(bzR _ _).alloc (nzR _) _
 have Gm:V.heap[w.heap.size+2]?=some (.cells #[.slice none 0 0,.slice none 0 0] 50 (0,0)):=by rw[←gd,hV];exact jA V2 _
 have gj:Below w.heap.size w V:=by
  have h:=Ha.trans (Hc.mono Ha.size);exact h.trans (Hr.mono h.size)
 have gR:V.heap[w.heap.size]?=some (.cells #[.slice q1 n1 c1,.slice q2 n2 c2] 50 (0,0)):=by rw[Hr.block _ (by omega),Hc.block _ (by omega)];exact go
 have Un:V.heap[w.heap.size+1]?=some (.cells #[.int .i64 a,.int .i64 b,.int .i64 c,.int .i64 d,.int .i64 p,.int .i64 q,.int .i64 s,.int .i64 t] 40 (0,0)):=by rw[Hr.block _ (by omega)];exact H5
 obtain⟨P,hP⟩:∃P,P=w.heap.size+2:=⟨_,rfl⟩;obtain⟨G,hG⟩:∃G,G=w.heap.size:=⟨_,rfl⟩;obtain⟨Q,hQ⟩:∃Q,Q=w.heap.size+1:=⟨_,rfl⟩;rw[←hP] at Gm;have gY:P<V.heap.size:=(gzE.1 Gm).1;have HP:Hid (P=w.heap.size+2∧G=w.heap.size∧Q=w.heap.size+1∧P<V.heap.size):=⟨hP,hG,hQ,gY⟩;have Hn:Hid (∀W,Below V.heap.size V W→Below w.heap.size w W∧W.heap[P]?=some (.cells #[.slice none 0 0,.slice none 0 0] 50 (0,0))∧W.heap[G]?=some (.cells #[.slice q1 n1 c1,.slice q2 n2 c2] 50 (0,0))∧∀i,W.cell? ⟨Q,i,none⟩=(#[.int .i64 a,.int .i64 b,.int .i64 c,.int .i64 d,.int .i64 p,.int .i64 q,.int .i64 s,.int .i64 t]:Array Value)[i]?):=fun W hW=>
  ⟨gj.trans (hW.mono gj.size),(hW.block P gY).trans Gm,by rw[hG];exact(hW.block _ (by omega)).trans gR,fun i=>by have h:=(hW.block (w.heap.size+1) (by omega)).trans Un;rw[←hQ] at h;simp[World.cell?,h]⟩
 have HD:Hid (∀W,Below w.heap.size w W→LS W (.slice q1 n1 c1) bs∧LS W (.slice q2 n2 c2) ss):=fun W hW=>⟨h1.below hW,h2.below hW⟩
 have uC:Hid (∀W,Below w.heap.size w W→Calls prog 31 #[.agg #[.slice q1 n1 c1,.slice q2 n2 c2]] W fun e w'=>BFPost bs ss W e w'):=fun W hW=>zDq q1 q2 n1 n2 c1 c2 bs ss W (h1.below hW) (h2.below hW) MV GB
 have uO:Hid (b0≤w.heap.size):=Uo;have PV:Hid (∀m W,(d == 1 || d == 5)=m→Calls prog 142 #[.int .i64 d] W fun e w'=>e=.returned (.bool m)∧w'=W):=fun m W h=>zBE m d W h
 have uj:Hid (∀W,Calls prog 167 #[.agg #[.int .i64 a,.int .i64 b,.int .i64 c,.int .i64 d,.int .i64 p,.int .i64 q,.int .i64 s,.int .i64 t],.int .i64 k] W fun e w'=>e=.returned (.tuple #[rB (zET ⟨a,b,c,d,p,q,s,t⟩ k),errV (zBR ⟨a,b,c,d,p,q,s,t⟩ k)])∧Below W.heap.size W w'):=fun W=>zMg a b c d p q s t k W
 clear Hm gd Ha Hc Hr go H5 Gm gR Un gj h1 h2 Uo gY;obtain⟨-,gm,UU,cel⟩:=Hn.out V (bzR _ _);obtain⟨g0,g1,-⟩:=zAb UU;obtain⟨z0,z1,zf⟩:=zAb gm;have zf0:=zf 0;have zf1:=zf 1;have u0:=cel 0;have u1:=cel 1;have u2:=cel 2;have u3:=cel 3;have u4:=cel 4;have u5:=cel 5;have u6:=cel 6;have u7':=cel 7;simp only[List.getElem?_toArray,List.getElem?_cons_zero,List.getElem?_cons_succ] at u0 u1 u2 u3 u4 u5 u6 u7';have uB:Hid (Below w.heap.size w V):=(Hn.out V (bzR _ _)).1;have Mg:Hid (zBz ⟨a,b,c,d,p,q,s,t⟩ k=false→∀W qa qb ma mb ca cb,Below V.heap.size V W→DL W V.heap.size (.slice qa ma ca) bs→DL W V.heap.size (.slice qb mb cb) ss→SetPost bs ss ⟨a,b,c,d,p,q,s,t⟩ k b0 w (.returned (.tuple #[.agg #[.slice qa ma ca,.slice qb mb cb],.int .i64 k,.nilIface])) ((W.setCell ⟨P,0,none⟩ (.slice qa ma ca)).setCell ⟨P,1,none⟩ (.slice qb mb cb))∧
   ((W.setCell ⟨P,0,none⟩ (.slice qa ma ca)).setCell ⟨P,1,none⟩ (.slice qb mb cb)).heap[P]?=some (.cells #[.slice qa ma ca,.slice qb mb cb] 50 (0,0))):=fun Gc W qa qb ma mb ca cb hVW d1 d2=>by
  obtain⟨PI,hRPW,-,-⟩:=Hn.out W hVW;have hE:setE bs ss ⟨a,b,c,d,p,q,s,t⟩ k=0:=by unfold setE;rw[Gc];rfl
  have Hs:=zAN W P (.slice qa ma ca) (.slice qb mb cb);have eT:P<V.heap.size:=HP.out.2.2.2;have Ej:b0≤V.heap.size:=by have h1:=uO.out;have h2:=HP.out;omega
  refine⟨⟨fun _=>⟨_,_,_,_,_,_,by unfold setG;rw[Gc];rfl,?_,?_⟩,fun h=>absurd hE h,PI.grown Hs PI.size (fun k hk=>by cases hk;have:=HP.out.1;omega)⟩,zAx hRPW _ _⟩
  ·unfold setB;rw[Gc];exact(d1.other Hs eT).mono Ej
  ·unfold setS;rw[Gc];exact(d2.other Hs eT).mono Ej
 clear cel zf gm UU;go_enter func148,ntmps148;by_cases Ug:k=0
 ·subst Ug;go_wp2_with fail;rw[←gy,←gl,←hV];simp only[←hP];simp only[←hQ];simp only[←hG];clear gy gl hV hP hG hQ g0 g1 z0 z1 zf0 zf1 u0 u1 u2 u3 u4 u5 u6 u7';refine(uC.out V uB.out).mono ?_;rintro e w2⟨qa,qb,ma,mb,ca,cb,rfl,bF,D1,D2,-,-⟩;obtain⟨gC,gL⟩:=Mg.out rfl w2 qa qb ma mb ca cb bF D1 D2;have Hz:=hidK gC;have Hy:=hidK gL;obtain⟨-,pW,-,-⟩:=Hn.out w2 bF;obtain⟨z0,z1,zf⟩:=zAb pW;have zf0:=zf 0;have zf1:=zf 1;clear zf pW gC gL bF D1 D2 Mg Hn HD PV uj;go_wp2_with fail;generalize ((w2.setCell ⟨P,0,none⟩ (.slice qa ma ca)).setCell ⟨P,1,none⟩ (.slice qb mb cb))=Z at *;obtain⟨y0,y1,-⟩:=zAb Hy.out;exact jN (v:=.tuple #[.agg #[.slice qa ma ca,.slice qb mb cb],.int .i64 0,.nilIface]) (by simp[results,results148,go_sem,y0,y1]) rfl Hz.out
 have Uh:(k == 0)=false:=by simp[Ug]
 generalize hm:(d == 1 || d == 5)=m;have HM:Hid ((d == 1 || d == 5)=m):=hm;have uY:Hid (zBz ⟨a,b,c,d,p,q,s,t⟩ k=m):=by
  show _=_
  unfold zBz mayK;rw[Uh];exact hm
 clear hm Ug;go_wp2_with fail;rw[←gy,←gl,←hV];simp only[←hP];simp only[←hQ];simp only[←hG];clear gy gl hV hP hG hQ;refine(PV.out m V HM.out).mono ?_;rintro e w1⟨rfl,rfl⟩;cases m
 ·go_wp2_with fail;clear g0 g1 z0 z1 zf0 zf1 u0 u1 u2 u3 u4 u5 u6 u7';refine(uC.out w1 uB.out).mono ?_;rintro e w2⟨qa,qb,ma,mb,ca,cb,rfl,bF,D1,D2,-,-⟩;obtain⟨gC,gL⟩:=Mg.out uY.out w2 qa qb ma mb ca cb bF D1 D2;have Hz:=hidK gC;have Hy:=hidK gL;obtain⟨-,pW,-,-⟩:=Hn.out w2 bF;obtain⟨z0,z1,zf⟩:=zAb pW;have zf0:=zf 0;have zf1:=zf 1;clear zf pW gC gL bF D1 D2 Mg Hn HD PV uj;go_wp2_with fail;generalize ((w2.setCell ⟨P,0,none⟩ (.slice qa ma ca)).setCell ⟨P,1,none⟩ (.slice qb mb cb))=Z at *;obtain⟨y0,y1,-⟩:=zAb Hy.out;exact jN (v:=.tuple #[.agg #[.slice qa ma ca,.slice qb mb cb],.int .i64 k,.nilIface]) (by simp[results,results148,go_sem,y0,y1]) rfl Hz.out
 clear Mg uC;go_wp2_with fail;refine(uj.out w1).mono ?_;rintro e w2⟨rfl,b2⟩;have H6:Hid (Below w1.heap.size w1 w2):=b2;clear b2 g0 g1 z0 z1 zf0 zf1 u0 u1 u2 u3 u4 u5 u6 u7';by_cases hE:zBR ⟨a,b,c,d,p,q,s,t⟩ k=0
 rotate_left
 ·have hSE:setE bs ss ⟨a,b,c,d,p,q,s,t⟩ k=zBR ⟨a,b,c,d,p,q,s,t⟩ k:=by unfold setE;rw[uY.out,if_pos rfl,if_neg hE]
  rw[show zET ⟨a,b,c,d,p,q,s,t⟩ k=zeroR by unfold zET;rw[if_neg hE],wAb hE,show rB zeroR=.agg #[.int .i64 0,.int .i64 0,.int .i64 0,.int .i64 0,.int .i64 0] from rfl]
  have Hu:Below w2.heap.size w2 (w2.alloc (.cells #[.int .i64 0,.int .i64 0,.int .i64 0,.int .i64 0,.int .i64 0] 54)):=(bzR _ _).alloc (nzR _) _;have bI:Below w1.heap.size w1 (w2.alloc (.cells #[.int .i64 0,.int .i64 0,.int .i64 0,.int .i64 0,.int .i64 0] 54)):=H6.out.trans (Hu.mono H6.out.size);obtain⟨UA,gm,UU,cel⟩:=Hn.out _ bI;have Hy:Hid ((((w2.alloc (.cells #[.int .i64 0,.int .i64 0,.int .i64 0,.int .i64 0,.int .i64 0] 54)).setCell ⟨P,0,none⟩ (.slice none 0 0)).setCell ⟨P,1,none⟩ (.slice none 0 0)).heap[P]?=some (.cells #[.slice none 0 0,.slice none 0 0] 50 (0,0))):=zAx gm _ _;have Hs:=zAN (w2.alloc (.cells #[.int .i64 0,.int .i64 0,.int .i64 0,.int .i64 0,.int .i64 0] 54)) P (.slice none 0 0) (.slice none 0 0)
  have Hz:Hid (SetPost bs ss ⟨a,b,c,d,p,q,s,t⟩ k b0 w (.returned (.tuple #[.agg #[.slice none 0 0,.slice none 0 0],.int .i64 0,.iface 80 (.int .i64 (zBR ⟨a,b,c,d,p,q,s,t⟩ k))])) (((w2.alloc (.cells #[.int .i64 0,.int .i64 0,.int .i64 0,.int .i64 0,.int .i64 0] 54)).setCell ⟨P,0,none⟩ (.slice none 0 0)).setCell ⟨P,1,none⟩ (.slice none 0 0))):=
   ⟨fun h=>absurd (hSE.symm.trans h) hE,fun _=>⟨_,_,_,_,_,_,by rw[hSE,wAb hE]⟩,UA.grown Hs UA.size (fun k hk=>by cases hk;have:=HP.out.1;omega)⟩
  obtain⟨z0,z1,zf⟩:=zAb gm;have zf0:=zf 0;have zf1:=zf 1;generalize zBR ⟨a,b,c,d,p,q,s,t⟩ k=kk at *;clear zf Hs gm UU cel hSE Hu bI UA Hn uj PV HD;go_upto_region 4 with fail
  generalize w2.alloc (.cells #[.int .i64 0,.int .i64 0,.int .i64 0,.int .i64 0,.int .i64 0] 54)=W at *;go_wp2_with fail;generalize ((W.setCell ⟨P,0,none⟩ (.slice none 0 0)).setCell ⟨P,1,none⟩ (.slice none 0 0))=Z at *;obtain⟨y0,y1,-⟩:=zAb Hy.out;exact jN (v:=.tuple #[.agg #[.slice none 0 0,.slice none 0 0],.int .i64 0,.iface 80 (.int .i64 kk)]) (by simp[results,results148,go_sem,y0,y1]) rfl Hz.out
 have mV:zET ⟨a,b,c,d,p,q,s,t⟩ k=zBt ⟨a,b,c,d,p,q,s,t⟩ k:=by unfold zET;rw[if_pos hE]
 rw[mV,hE,wAa];obtain⟨r1,r2,r3,r4,r5,dI⟩:∃r1 r2 r3 r4 r5,zBt ⟨a,b,c,d,p,q,s,t⟩ k=⟨r1,r2,r3,r4,r5⟩:=⟨_,_,_,_,_,rfl⟩;rw[dI,show rB ⟨r1,r2,r3,r4,r5⟩=.agg #[.int .i64 r1,.int .i64 r2,.int .i64 r3,.int .i64 r4,.int .i64 r5] from rfl]
 have Hu:Below w2.heap.size w2 (w2.alloc (.cells #[.int .i64 r1,.int .i64 r2,.int .i64 r3,.int .i64 r4,.int .i64 r5] 54)):=(bzR _ _).alloc (nzR _) _;have dv:(w2.alloc (.cells #[.int .i64 r1,.int .i64 r2,.int .i64 r3,.int .i64 r4,.int .i64 r5] 54)).heap[w2.heap.size]?=some (.cells #[.int .i64 r1,.int .i64 r2,.int .i64 r3,.int .i64 r4,.int .i64 r5] 54 (0,0)):=jA w2 _;have bI:Below w1.heap.size w1 (w2.alloc (.cells #[.int .i64 r1,.int .i64 r2,.int .i64 r3,.int .i64 r4,.int .i64 r5] 54)):=H6.out.trans (Hu.mono H6.out.size);obtain⟨UA,gm,UU,cel⟩:=Hn.out _ bI;have P4:Hid (setE bs ss ⟨a,b,c,d,p,q,s,t⟩ k=putE bs ss c p ⟨r1,r2,r3,r4,r5⟩∧setB bs ⟨a,b,c,d,p,q,s,t⟩ k=put1 bs c p ⟨r1,r2,r3,r4,r5⟩∧setS ss ⟨a,b,c,d,p,q,s,t⟩ k=put2 ss c p ⟨r1,r2,r3,r4,r5⟩∧setG ⟨a,b,c,d,p,q,s,t⟩ k=0):=by
  refine⟨?_,?_,?_,?_⟩
  ·unfold setE;rw[uY.out,if_pos rfl,if_pos hE,dI]
  ·unfold setB;rw[uY.out,if_pos rfl,dI]
  ·unfold setS;rw[uY.out,if_pos rfl,dI]
  ·unfold setG;rw[uY.out,if_pos rfl]
 obtain⟨g0,g1,-⟩:=zAb UU;obtain⟨x0,x1,x2,x3,x4,-⟩:=zAi dv;have u2:=cel 2;have u4:=cel 4;simp only[List.getElem?_toArray,List.getElem?_cons_zero,List.getElem?_cons_succ] at u2 u4;have M7:=hidK bI;have MJ:=hidK UA;clear mV dI hE Hu dv gm UU cel bI UA uj PV;go_upto_region 4 with fail
 generalize w2.alloc (.cells #[.int .i64 r1,.int .i64 r2,.int .i64 r3,.int .i64 r4,.int .i64 r5] 54)=W at *;generalize w2.heap.size=RB at *;have Cb:Hid (Calls prog 168 #[.agg #[.slice q1 n1 c1,.slice q2 n2 c2],.int .i64 c,.int .i64 p,.agg #[.int .i64 r1,.int .i64 r2,.int .i64 r3,.int .i64 r4,.int .i64 r5]] W fun x w'=>PutPostD bs ss c p ⟨r1,r2,r3,r4,r5⟩ W x w'):=zOV c p q1 q2 n1 n2 c1 c2 r1 r2 r3 r4 r5 bs ss W (HD.out W MJ.out).1 (HD.out W MJ.out).2
 go_wp2_with fail;refine Cb.out.mono ?_;rintro e w3⟨v1,v2,m1,m2,k1,k2,rfl,D1,D2,b3⟩;have gZ:Hid (Below w1.heap.size w1 w3):=M7.out.trans (b3.mono M7.out.size);obtain⟨pk,gm,UU,-⟩:=Hn.out w3 gZ.out;obtain⟨t0,t1,tf⟩:=zAb UU;have tf0:=tf 0;have tf1:=tf 1;have hG4:=zAx UU (.slice v1 m1 k1) (.slice v2 m2 k2);have m7:=zAN w3 G (.slice v1 m1 k1) (.slice v2 m2 k2);have Hj:P<w3.heap.size∧G≠P∧G<W.heap.size∧P<W.heap.size:=by
  have h1:=HP.out;have h2:=M7.out.size;have h3:=gZ.out.size;omega
 have hP4:((w3.setCell ⟨G,0,none⟩ (.slice v1 m1 k1)).setCell ⟨G,1,none⟩ (.slice v2 m2 k2)).heap[P]?=some (.cells #[.slice none 0 0,.slice none 0 0] 50 (0,0)):=(m7.block P Hj.1 (fun e=>by cases e;exact Hj.2.1 rfl)).trans gm
 obtain⟨s0,s1,-⟩:=zAb hG4;obtain⟨z0,z1,zf⟩:=zAb hP4;have zf0:=zf 0;have zf1:=zf 1;have Hy:=hidK (zAx hP4 (.slice v1 m1 k1) (.slice v2 m2 k2));have Gb:=zAN ((w3.setCell ⟨G,0,none⟩ (.slice v1 m1 k1)).setCell ⟨G,1,none⟩ (.slice v2 m2 k2)) P (.slice v1 m1 k1) (.slice v2 m2 k2);have Hz:Hid (SetPost bs ss ⟨a,b,c,d,p,q,s,t⟩ k b0 w (.returned (.tuple #[.agg #[.slice v1 m1 k1,.slice v2 m2 k2],.int .i64 0,errV (putE bs ss c p ⟨r1,r2,r3,r4,r5⟩)])) ((((w3.setCell ⟨G,0,none⟩ (.slice v1 m1 k1)).setCell ⟨G,1,none⟩ (.slice v2 m2 k2)).setCell ⟨P,0,none⟩ (.slice v1 m1 k1)).setCell ⟨P,1,none⟩ (.slice v2 m2 k2))):=by
  obtain⟨e1,e2,e3,e4⟩:=P4.out;have mG:b0≤W.heap.size:=by have h1:=uO.out;have h2:=MJ.out.size;omega
  have Uc:Below w.heap.size w ((w3.setCell ⟨G,0,none⟩ (.slice v1 m1 k1)).setCell ⟨G,1,none⟩ (.slice v2 m2 k2)):=pk.grown m7 pk.size (fun k hk=>by cases hk;have:=HP.out;omega)
  refine⟨fun h=>⟨v1,v2,m1,m2,k1,k2,?_,?_,?_⟩,fun h=>⟨_,_,_,_,_,_,by rw[e1]⟩,Uc.grown Gb Uc.size (fun k hk=>by cases hk;have:=HP.out;omega)⟩
  ·rw[e1] at h;rw[h,e4];rfl
  ·rw[e1] at h;rw[if_pos h] at D1;rw[e2];exact((D1.other m7 Hj.2.2.1).other Gb Hj.2.2.2).mono mG
  ·rw[e1] at h;rw[if_pos h] at D2;rw[e3];exact((D2.other m7 Hj.2.2.1).other Gb Hj.2.2.2).mono mG
 generalize errV (putE bs ss c p ⟨r1,r2,r3,r4,r5⟩)=EV at *;clear zf tf m7 Gb Hj hP4 hG4 gm UU pk b3 D1 D2 Cb P4 HD Hn;go_wp2_with fail;generalize ((((w3.setCell ⟨G,0,none⟩ (.slice v1 m1 k1)).setCell ⟨G,1,none⟩ (.slice v2 m2 k2)).setCell ⟨P,0,none⟩ (.slice v1 m1 k1)).setCell ⟨P,1,none⟩ (.slice v2 m2 k2))=Z at *;obtain⟨y0,y1,-⟩:=zAb Hy.out;exact jN (v:=.tuple #[.agg #[.slice v1 m1 k1,.slice v2 m2 k2],.int .i64 0,EV]) (by simp[results,results148,go_sem,y0,y1]) rfl Hz.out
def KDPost(bs ss:List L)(o:O)(w:World)(e:Ending)(w' : World):Prop:=
 (kdoE bs ss o=0→∃q1 q2 n1 n2 c1 c2 tv,e=.returned (.tuple #[.agg #[.slice q1 n1 c1,.slice q2 n2 c2],tv,.int .i64 (kdoG bs ss o),.nilIface])∧DL w' w.heap.size (.slice q1 n1 c1) (kdoB bs ss o)∧DL w' w.heap.size (.slice q2 n2 c2) (kdoS bs ss o)∧OwnT w' w.heap.size tv (metR bs ss o).2.1)∧
 (¬kdoE bs ss o=0→e=.returned (.tuple #[.agg #[.slice none 0 0,.slice none 0 0],.slice none 0 0,.int .i64 0,errV (kdoE bs ss o)]))∧Bw w w'
theorem zRh(q1 q2:Option Addr)(n1 n2 c1 c2:Nat)(bs ss:List L)(a b c d p q s t:Int)(w:World)(h1:LS w (.slice q1 n1 c1) bs)(h2:LS w (.slice q2 n2 c2) ss) :
  Calls prog 145 #[.agg #[.slice q1 n1 c1,.slice q2 n2 c2],.agg #[.int .i64 a,.int .i64 b,.int .i64 c,.int .i64 d,.int .i64 p,.int .i64 q,.int .i64 s,.int .i64 t]] w fun e w'=>KDPost bs ss ⟨a,b,c,d,p,q,s,t⟩ w e w':=by
 obtain⟨V1,gy⟩:∃V1,V1=w.alloc (.cells #[.slice q1 n1 c1,.slice q2 n2 c2] 50):=⟨_,rfl⟩;have Hm:V1.heap.size=w.heap.size+1:=by rw[gy];simp
 have Ha:Below w.heap.size w V1:=by rw[gy];exact(bzR _ _).alloc (nzR _) _
 have go:V1.heap[w.heap.size]?=some (.cells #[.slice q1 n1 c1,.slice q2 n2 c2] 50 (0,0)):=by rw[gy];exact jA w _
 obtain⟨V2,gl⟩:∃V2,V2=V1.alloc (.cells #[.int .i64 a,.int .i64 b,.int .i64 c,.int .i64 d,.int .i64 p,.int .i64 q,.int .i64 s,.int .i64 t] 40):=⟨_,rfl⟩;have gd:V2.heap.size=w.heap.size+2:=by rw[gl];simp[Hm]
 have Hc:Below V1.heap.size V1 V2:=by rw[gl];exact(bzR _ _).alloc (nzR _) _
 have H5:V2.heap[w.heap.size+1]?=some (.cells #[.int .i64 a,.int .i64 b,.int .i64 c,.int .i64 d,.int .i64 p,.int .i64 q,.int .i64 s,.int .i64 t] 40 (0,0)):=by rw[←Hm,gl];exact jA V1 _
 obtain⟨V,hV⟩:∃V,V=V2.alloc (.cells #[.slice none 0 0,.slice none 0 0] 50):=⟨_,rfl⟩;have Hr:Below V2.heap.size V2 V:=by rw[hV];exact(bzR _ _).alloc (nzR _) _
 have Gm:V.heap[w.heap.size+2]?=some (.cells #[.slice none 0 0,.slice none 0 0] 50 (0,0)):=by rw[←gd,hV];exact jA V2 _
 have gj:Below w.heap.size w V:=by
  have h:=Ha.trans (Hc.mono Ha.size);exact h.trans (Hr.mono h.size)
 have gR:V.heap[w.heap.size]?=some (.cells #[.slice q1 n1 c1,.slice q2 n2 c2] 50 (0,0)):=by rw[Hr.block _ (by omega),Hc.block _ (by omega)];exact go
 have Un:V.heap[w.heap.size+1]?=some (.cells #[.int .i64 a,.int .i64 b,.int .i64 c,.int .i64 d,.int .i64 p,.int .i64 q,.int .i64 s,.int .i64 t] 40 (0,0)):=by rw[Hr.block _ (by omega)];exact H5
 obtain⟨P,hP⟩:∃P,P=w.heap.size+2:=⟨_,rfl⟩;obtain⟨G,hG⟩:∃G,G=w.heap.size:=⟨_,rfl⟩;obtain⟨Q,hQ⟩:∃Q,Q=w.heap.size+1:=⟨_,rfl⟩;rw[←hP] at Gm;have gY:P<V.heap.size:=(gzE.1 Gm).1;have HP:Hid (P=w.heap.size+2∧G=w.heap.size∧Q=w.heap.size+1∧P<V.heap.size):=⟨hP,hG,hQ,gY⟩;have Hn:Hid (∀W,Below V.heap.size V W→Below w.heap.size w W∧W.heap[P]?=some (.cells #[.slice none 0 0,.slice none 0 0] 50 (0,0))∧W.heap[G]?=some (.cells #[.slice q1 n1 c1,.slice q2 n2 c2] 50 (0,0))∧∀i,W.cell? ⟨Q,i,none⟩=(#[.int .i64 a,.int .i64 b,.int .i64 c,.int .i64 d,.int .i64 p,.int .i64 q,.int .i64 s,.int .i64 t]:Array Value)[i]?):=fun W hW=>
  ⟨gj.trans (hW.mono gj.size),(hW.block P gY).trans Gm,by rw[hG];exact(hW.block _ (by omega)).trans gR,fun i=>by have h:=(hW.block (w.heap.size+1) (by omega)).trans Un;rw[←hQ] at h;simp[World.cell?,h]⟩
 have MA:Hid (Calls prog 161 #[.agg #[.slice q1 n1 c1,.slice q2 n2 c2],.agg #[.int .i64 a,.int .i64 b,.int .i64 c,.int .i64 d,.int .i64 p,.int .i64 q,.int .i64 s,.int .i64 t]] V fun e w'=>DoPostD bs ss ⟨a,b,c,d,p,q,s,t⟩ V e w'):=zLI q1 q2 n1 n2 c1 c2 bs ss a b c d p q s t V (h1.below gj) (h2.below gj)
 have gi:Hid (∀W kk,Below V.heap.size V W→kdoE bs ss ⟨a,b,c,d,p,q,s,t⟩=kk→¬kk=0→KDPost bs ss ⟨a,b,c,d,p,q,s,t⟩ w (.returned (.tuple #[.agg #[.slice none 0 0,.slice none 0 0],.slice none 0 0,.int .i64 0,.iface 80 (.int .i64 kk)])) ((W.setCell ⟨P,0,none⟩ (.slice none 0 0)).setCell ⟨P,1,none⟩ (.slice none 0 0))∧
   ((W.setCell ⟨P,0,none⟩ (.slice none 0 0)).setCell ⟨P,1,none⟩ (.slice none 0 0)).heap[P]?=some (.cells #[.slice none 0 0,.slice none 0 0] 50 (0,0))):=fun W kk hW hE hk=>by
  obtain⟨hw,gm,-,-⟩:=Hn.out W hW;have Hs:=zAN W P (.slice none 0 0) (.slice none 0 0);exact⟨⟨fun h=>absurd (hE.symm.trans h) hk,fun _=>by rw[hE,wAb hk],hw.grown Hs hw.size (fun k hk=>by cases hk;have:=HP.out.1;omega)⟩,zAx gm _ _⟩
 clear Hm gd Ha Hc Hr go H5 Gm gR Un gj h1 h2 gY;obtain⟨-,gm,UU,cel⟩:=Hn.out V (bzR _ _);obtain⟨g0,g1,-⟩:=zAb UU;have u0:=cel 0;have u1:=cel 1;have u2:=cel 2;have u3:=cel 3;have u4:=cel 4;have u5:=cel 5;have u6:=cel 6;have u7':=cel 7;simp only[List.getElem?_toArray,List.getElem?_cons_zero,List.getElem?_cons_succ] at u0 u1 u2 u3 u4 u5 u6 u7';clear cel gm UU;go_enter func145,ntmps145;go_wp2_with fail;rw[←gy,←gl,←hV];simp only[←hP];simp only[←hQ];simp only[←hG];clear gy gl hV hP hG hQ;refine MA.out.mono ?_;rintro e w1⟨i1,i2,b1⟩;have gq:=hidK b1;clear g0 g1 u0 u1 u2 u3 u4 u5 u6 u7' b1 MA;by_cases hD:doE bs ss ⟨a,b,c,d,p,q,s,t⟩=0
 rotate_left
 ·have e2:=i2 hD;subst e2;have hKE:kdoE bs ss ⟨a,b,c,d,p,q,s,t⟩=doE bs ss ⟨a,b,c,d,p,q,s,t⟩:=by unfold kdoE;rw[if_neg hD]
  rw[wAb hD];have Hu:Below w1.heap.size w1 (w1.alloc (.cells #[.slice none 0 0,.slice none 0 0] 50)):=(bzR _ _).alloc (nzR _) _;have M7:=hidK (gq.out.trans (Hu.mono gq.out.size));obtain⟨gC,gL⟩:=gi.out _ _ M7.out hKE hD;have Hz:=hidK gC;have Hy:=hidK gL;obtain⟨-,gm,-,-⟩:=Hn.out _ M7.out;obtain⟨z0,z1,zf⟩:=zAb gm;have zf0:=zf 0;have zf1:=zf 1;generalize doE bs ss ⟨a,b,c,d,p,q,s,t⟩=kk at *;clear i1 i2 gC gL gi gm zf Hu hKE Hn;go_upto_region 2 with fail
  generalize w1.alloc (.cells #[.slice none 0 0,.slice none 0 0] 50)=W at *;go_wp2_with fail;generalize ((W.setCell ⟨P,0,none⟩ (.slice none 0 0)).setCell ⟨P,1,none⟩ (.slice none 0 0))=Z at *;obtain⟨y0,y1,-⟩:=zAb Hy.out;exact jN (v:=.tuple #[.agg #[.slice none 0 0,.slice none 0 0],.slice none 0 0,.int .i64 0,.iface 80 (.int .i64 kk)]) (by simp[results,results145,go_sem,y0,y1]) rfl Hz.out
 obtain⟨v1,v2,m1,m2,k1,k2,tv,rfl,D1,D2,OT⟩:=i1 hD;obtain⟨tq,tc,Bg⟩:=OwnM.form OT;subst Bg;obtain⟨BM,hBM⟩:∃BM,metB bs ss ⟨a,b,c,d,p,q,s,t⟩=BM:=⟨_,rfl⟩;obtain⟨SM,hSM⟩:∃SM,metS bs ss ⟨a,b,c,d,p,q,s,t⟩=SM:=⟨_,rfl⟩;obtain⟨TT,mX⟩:∃TT,(metR bs ss ⟨a,b,c,d,p,q,s,t⟩).2.1=TT:=⟨_,rfl⟩;obtain⟨lf,dJ⟩:∃lf,(metR bs ss ⟨a,b,c,d,p,q,s,t⟩).2.2=lf:=⟨_,rfl⟩;have cU:Hid (kdoE bs ss ⟨a,b,c,d,p,q,s,t⟩=(if refE ⟨a,b,c,d,p,q,s,t⟩ lf=0 then setE BM SM ⟨a,b,c,d,p,q,s,t⟩ lf else refE ⟨a,b,c,d,p,q,s,t⟩ lf)∧kdoB bs ss ⟨a,b,c,d,p,q,s,t⟩=setB BM ⟨a,b,c,d,p,q,s,t⟩ lf∧kdoS bs ss ⟨a,b,c,d,p,q,s,t⟩=setS SM ⟨a,b,c,d,p,q,s,t⟩ lf∧kdoG bs ss ⟨a,b,c,d,p,q,s,t⟩=setG ⟨a,b,c,d,p,q,s,t⟩ lf):=by
  unfold kdoE kdoB kdoS kdoG;rw[if_pos hD,hBM,hSM,dJ];exact⟨rfl,rfl,rfl,rfl⟩
 have UF:Hid (schk 1 BM=0∧schk 2 SM=0):=by
  have h:=zAe (zOy (zFQ hD).1);rw[hBM,hSM] at h;exact⟨h.1,h.2.1⟩
 rw[hBM] at D1;rw[hSM] at D2;rw[mX] at OT;rw[mX,dJ];have HTT:=hidK mX;have Hu:Below w1.heap.size w1 (w1.alloc (.cells #[.slice v1 m1 k1,.slice v2 m2 k2] 50)):=(bzR _ _).alloc (nzR _) _;have CB:(w1.alloc (.cells #[.slice v1 m1 k1,.slice v2 m2 k2] 50)).heap[w1.heap.size]?=some (.cells #[.slice v1 m1 k1,.slice v2 m2 k2] 50 (0,0)):=jA w1 _;have M7:=hidK (gq.out.trans (Hu.mono gq.out.size));have uU:=hidK (D1.below Hu);have uu:=hidK (D2.below Hu);have PX:=hidK (OwnM.below OT Hu);clear i1 i2 D1 D2 OT Hu hBM hSM mX dJ hD;go_upto_region 2 with fail
 generalize w1.alloc (.cells #[.slice v1 m1 k1,.slice v2 m2 k2] 50)=W at *;generalize w1.heap.size=G1 at *;obtain⟨-,-,-,cel⟩:=Hn.out W M7.out;have u0:=cel 0;have u1:=cel 1;have u2:=cel 2;have u3:=cel 3;have u4:=cel 4;have u5:=cel 5;have u6:=cel 6;have u7':=cel 7;simp only[List.getElem?_toArray,List.getElem?_cons_zero,List.getElem?_cons_succ] at u0 u1 u2 u3 u4 u5 u6 u7';have eG:G1<W.heap.size:=(gzE.1 CB).1;clear cel;go_wp2_with fail;refine(zKd a b c d p q s t lf W).mono ?_;rintro e w2⟨rfl,b2⟩;have H6:=hidK (M7.out.trans (b2.mono M7.out.size));have Bo:=hidK (uU.out.below b2);have Gp:=hidK (uu.out.below b2);have DI:=hidK (OwnM.below PX.out b2);have CC:=(b2.block G1 eG).trans CB;clear b2 CB u0 u1 u2 u3 u4 u5 u6 u7' uU uu PX;by_cases hF:refE ⟨a,b,c,d,p,q,s,t⟩ lf=0
 rotate_left
 ·rw[wAb hF];obtain⟨gC,gL⟩:=gi.out w2 _ H6.out (by rw[cU.out.1,if_neg hF]) hF
  have Hz:=hidK gC;have Hy:=hidK gL;obtain⟨-,gm,-,-⟩:=Hn.out _ H6.out;obtain⟨z0,z1,zf⟩:=zAb gm;have zf0:=zf 0;have zf1:=zf 1;generalize refE ⟨a,b,c,d,p,q,s,t⟩ lf=kk at *;clear gC gL gi gm zf Hn CC;go_wp2_with fail;generalize ((w2.setCell ⟨P,0,none⟩ (.slice none 0 0)).setCell ⟨P,1,none⟩ (.slice none 0 0))=Z at *;obtain⟨y0,y1,-⟩:=zAb Hy.out;exact jN (v:=.tuple #[.agg #[.slice none 0 0,.slice none 0 0],.slice none 0 0,.int .i64 0,.iface 80 (.int .i64 kk)]) (by simp[results,results145,go_sem,y0,y1]) rfl Hz.out
 rw[hF,wAa];have df:Hid (kdoE bs ss ⟨a,b,c,d,p,q,s,t⟩=setE BM SM ⟨a,b,c,d,p,q,s,t⟩ lf):=by show _=_;rw[cU.out.1,if_pos hF]
 have P4:=hidK (wAM v1 v2 m1 m2 k1 k2 BM SM a b c d p q s t lf V.heap.size w2 Bo.out.ls Gp.out.ls H6.out.size UF.out.1 UF.out.2);obtain⟨-,-,-,cel⟩:=Hn.out w2 H6.out;have u0:=cel 0;have u1:=cel 1;have u2:=cel 2;have u3:=cel 3;have u4:=cel 4;have u5:=cel 5;have u6:=cel 6;have u7':=cel 7;simp only[List.getElem?_toArray,List.getElem?_cons_zero,List.getElem?_cons_succ] at u0 u1 u2 u3 u4 u5 u6 u7';obtain⟨g0,g1,-⟩:=zAb CC;clear cel CC hF Bo Gp;go_wp2_with fail;refine P4.out.mono ?_;rintro e w3⟨j1,j2,b3⟩;have gZ:=hidK (H6.out.trans (b3.mono H6.out.size));have DJ:=hidK (OwnM.below DI.out b3);clear b3 u0 u1 u2 u3 u4 u5 u6 u7' g0 g1 P4 DI;by_cases hS:setE BM SM ⟨a,b,c,d,p,q,s,t⟩ lf=0
 rotate_left
 ·obtain⟨x1,x2,y1,y2,l1,l2,rfl⟩:=j2 hS;rw[wAb hS];have Hu:Below w3.heap.size w3 (w3.alloc (.cells #[.slice x1 y1 l1,.slice x2 y2 l2] 50)):=(bzR _ _).alloc (nzR _) _;have GP:=hidK (gZ.out.trans (Hu.mono gZ.out.size));obtain⟨gC,gL⟩:=gi.out _ _ GP.out df.out hS;have Hz:=hidK gC;have Hy:=hidK gL;obtain⟨-,gm,-,-⟩:=Hn.out _ GP.out;obtain⟨z0,z1,zf⟩:=zAb gm;have zf0:=zf 0;have zf1:=zf 1;generalize setE BM SM ⟨a,b,c,d,p,q,s,t⟩ lf=kk at *;clear gC gL gi gm zf Hn j1 j2 Hu;go_upto_region 8 with fail
  generalize w3.alloc (.cells #[.slice x1 y1 l1,.slice x2 y2 l2] 50)=W4 at *;go_wp2_with fail;generalize ((W4.setCell ⟨P,0,none⟩ (.slice none 0 0)).setCell ⟨P,1,none⟩ (.slice none 0 0))=Z at *;obtain⟨y0,y1,-⟩:=zAb Hy.out;exact jN (v:=.tuple #[.agg #[.slice none 0 0,.slice none 0 0],.slice none 0 0,.int .i64 0,.iface 80 (.int .i64 kk)]) (by simp[results,results145,go_sem,y0,y1]) rfl Hz.out
 obtain⟨x1,x2,y1,y2,l1,l2,rfl,F1,F2⟩:=j1 hS;have Hu:Below w3.heap.size w3 (w3.alloc (.cells #[.slice x1 y1 l1,.slice x2 y2 l2] 50)):=(bzR _ _).alloc (nzR _) _;have GP:=hidK (gZ.out.trans (Hu.mono gZ.out.size));have eZ:(w3.alloc (.cells #[.slice x1 y1 l1,.slice x2 y2 l2] 50)).heap[w3.heap.size]?=some (.cells #[.slice x1 y1 l1,.slice x2 y2 l2] 50 (0,0)):=jA w3 _;have G5:=hidK (F1.below Hu);have uV:=hidK (F2.below Hu);have Ca:=hidK (OwnM.below DJ.out Hu);clear Hu F1 F2 DJ j1 j2;go_upto_region 8 with fail
 generalize w3.alloc (.cells #[.slice x1 y1 l1,.slice x2 y2 l2] 50)=W4 at *;generalize w3.heap.size=G3 at *;obtain⟨Bi,gm,-,-⟩:=Hn.out _ GP.out;obtain⟨z0,z1,zf⟩:=zAb gm;have zf0:=zf 0;have zf1:=zf 1;obtain⟨g0,g1,-⟩:=zAb eZ;have Hy:=hidK (zAx gm (.slice x1 y1 l1) (.slice x2 y2 l2));have Hs:=zAN W4 P (.slice x1 y1 l1) (.slice x2 y2 l2);have dO:w.heap.size≤V.heap.size:=by have:=HP.out;omega
 have gY:P<V.heap.size:=HP.out.2.2.2;have Hz:Hid (KDPost bs ss ⟨a,b,c,d,p,q,s,t⟩ w (.returned (.tuple #[.agg #[.slice x1 y1 l1,.slice x2 y2 l2],.slice tq TT.length tc,.int .i64 (setG ⟨a,b,c,d,p,q,s,t⟩ lf),.nilIface])) ((W4.setCell ⟨P,0,none⟩ (.slice x1 y1 l1)).setCell ⟨P,1,none⟩ (.slice x2 y2 l2))):=by
  obtain⟨e1,e2,e3,e4⟩:=cU.out;refine⟨fun _=>⟨_,_,_,_,_,_,_,by rw[e4],?_,?_,?_⟩,fun h=>absurd (df.out.trans hS) h,Bi.grown Hs Bi.size (fun k hk=>by cases hk;have:=HP.out.1;omega)⟩
  ·rw[e2];exact(G5.out.other Hs gY).mono dO
  ·rw[e3];exact(uV.out.other Hs gY).mono dO
  ·rw[HTT.out];exact OwnM.mono (zAl Ca.out Hs (fun z hz e=>by cases e;have:=(OwnM.lt Ca.out P hz).1;omega)) dO
 generalize setG ⟨a,b,c,d,p,q,s,t⟩ lf=GG at *;generalize TT.length=tl at *;clear zf Hs gm eZ Bi Hn gi cU df hS Ca G5 uV dO gY;go_wp2_with fail;generalize ((W4.setCell ⟨P,0,none⟩ (.slice x1 y1 l1)).setCell ⟨P,1,none⟩ (.slice x2 y2 l2))=Z at *;obtain⟨y0,y1,-⟩:=zAb Hy.out;exact jN (v:=.tuple #[.agg #[.slice x1 _ l1,.slice x2 _ l2],.slice tq tl tc,.int .i64 GG,.nilIface]) (by simp[results,results145,go_sem,y0,y1]) rfl Hz.out
end kin
end Go.Proofs.YtmhcghgfpfainaaGreatDoor
