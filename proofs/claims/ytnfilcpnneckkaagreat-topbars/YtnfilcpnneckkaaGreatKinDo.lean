import Derived.Test.YtnfilcpnneckkaaGreatBokPut2
set_option maxHeartbeats 4000000
set_option maxRecDepth 100000
namespace Go.Proofs.YtnfilcpnneckkaaGreat
open Tryz
namespace kin
open Go.RowKit spn que sid bok mee
open ord (O oV mB mE chk zAy)
open tickP (zAo zAB zBA betR)
theorem hidK{P:Prop}(h:P):Hid P:=h
def zGM(o:O)(k:Int):Int:=if o.shw=0 then k else min o.shw k
def zBw(o:O)(k:Int):R:=⟨o.id,o.who,zGM o k,k - zGM o k,o.shw⟩
def zBS(o:O)(k:Int):Int:=if chk o=0 then (if 1≤k∧k≤o.qty then 0 else 1) else chk o
def zeroR:R:=⟨0,0,0,0,0⟩
def zEQ(o:O)(k:Int):R:=if zBS o k=0 then zBw o k else zeroR
def mayK(o:O):Bool:=o.kind == 1 || o.kind == 5
def refE(o:O)(left:Int):Int:=if o.kind=4∧0<left then 9 else if o.kind=5∧left<o.qty then 8 else 0
def zBB(o:O)(left:Int):Bool:=!(left == 0) && mayK o
def setE(bs ss:List L)(o:O)(left:Int):Int:=if zBB o left=true then (if zBS o left=0 then putE bs ss o.side o.price (zBw o left) else zBS o left) else 0
def setB(bs:List L)(o:O)(left:Int):List L:=if zBB o left=true then put1 bs o.side o.price (zBw o left) else bs
def setS(ss:List L)(o:O)(left:Int):List L:=if zBB o left=true then put2 ss o.side o.price (zBw o left) else ss
def setG(o:O)(left:Int):Int:=if zBB o left=true then 0 else left
def kdoE(bs ss:List L)(o:O):Int:=
 if doE bs ss o=0 then (if refE o (metR bs ss o).2.2=0 then setE (metB bs ss o) (metS bs ss o) o (metR bs ss o).2.2 else refE o (metR bs ss o).2.2) else doE bs ss o
def kdoB(bs ss:List L)(o:O):List L:=setB (metB bs ss o) o (metR bs ss o).2.2
def kdoS(bs ss:List L)(o:O):List L:=setS (metS bs ss o) o (metR bs ss o).2.2
def kdoG(bs ss:List L)(o:O):Int:=setG o (metR bs ss o).2.2
theorem shw_of{o:O}(h:chk o=0):0≤o.shw∧o.shw≤o.qty∧1≤o.qty∧o.qty≤10000:=by
 obtain⟨-,-,h3,-,-⟩:=ord.zBC h;simp[ord.qtyB] at h3;omega
theorem zFM{bs ss:List L}{o:O}(h:doE bs ss o=0):zAu bs ss o=0∧(metR bs ss o).2.1.length≤400:=by
 unfold doE at h;by_cases hC:zAu bs ss o=0
 ·rw[if_pos hC] at h;by_cases h4:400<(metR bs ss o).2.1.length
  ·rw[if_pos h4] at h;omega
  ·exact⟨hC,by omega⟩
 ·rw[if_neg hC] at h;exact absurd h hC
theorem zIB{bs ss:List L}{o:O}(h:kdoE bs ss o=0):doE bs ss o=0∧refE o (metR bs ss o).2.2=0∧setE (metB bs ss o) (metS bs ss o) o (metR bs ss o).2.2=0:=by
 unfold kdoE at h;by_cases h1:doE bs ss o=0
 ·rw[if_pos h1] at h;by_cases h2:refE o (metR bs ss o).2.2=0
  ·rw[if_pos h2] at h;exact⟨h1,h2,h⟩
  ·rw[if_neg h2] at h;exact absurd h h2
 ·rw[if_neg h1] at h;exact absurd h h1
end kin
namespace kin
open Go.RowKit spn que sid bok mee
open ord (O oV mB mE chk zAy)
theorem zIC(k lo hi:Int):[(k,lo,hi)].any zAl = !(decide (lo≤k∧k≤hi)):=by
 rw[Bool.eq_iff_iff];simp[zAl]
def rB(r:R):Value:=.agg #[.int .i64 r.id,.int .i64 r.who,.int .i64 r.qty,.int .i64 r.hid,.int .i64 r.shw]
theorem zLO(a b c d p q s t k:Int)(w:World) :
  Calls prog 50 #[.agg #[.int .i64 a,.int .i64 b,.int .i64 c,.int .i64 d,.int .i64 p,.int .i64 q,.int .i64 s,.int .i64 t],.int .i64 k] w fun e w'=>e=.returned (.tuple #[rB (zEQ ⟨a,b,c,d,p,q,s,t⟩ k),errV (zBS ⟨a,b,c,d,p,q,s,t⟩ k)])∧Below w.heap.size w w':=by
 obtain⟨V2,gl⟩:∃V2,V2=w.alloc (.cells #[.int .i64 a,.int .i64 b,.int .i64 c,.int .i64 d,.int .i64 p,.int .i64 q,.int .i64 s,.int .i64 t] 34):=⟨_,rfl⟩;have H9:V2.heap.size=w.heap.size+1:=by rw[gl];simp
 have gG:Below w.heap.size w V2:=by rw[gl];exact(bzR _ _).alloc (nzR _) _
 have uL:V2.heap[w.heap.size]?=some (.cells #[.int .i64 a,.int .i64 b,.int .i64 c,.int .i64 d,.int .i64 p,.int .i64 q,.int .i64 s,.int .i64 t] 34 (0,0)):=by rw[gl];exact jA w _
 obtain⟨V,hV⟩:∃V,V=V2.alloc (.cells #[.int .i64 0,.int .i64 0,.int .i64 0,.int .i64 0,.int .i64 0] 51):=⟨_,rfl⟩;have gc:Below V2.heap.size V2 V:=by rw[hV];exact(bzR _ _).alloc (nzR _) _
 have HB:Hid (Below w.heap.size w V):=gG.trans (gc.mono gG.size);have GL:V.heap[V2.heap.size]?=some (.cells #[.int .i64 0,.int .i64 0,.int .i64 0,.int .i64 0,.int .i64 0] 51 (0,0)):=by rw[hV];exact jA V2 _
 have Un:V.heap[w.heap.size]?=some (.cells #[.int .i64 a,.int .i64 b,.int .i64 c,.int .i64 d,.int .i64 p,.int .i64 q,.int .i64 s,.int .i64 t] 34 (0,0)):=(gc.block _ (by omega)).trans uL
 obtain⟨P,hP⟩:∃P,P=w.heap.size+1:=⟨_,rfl⟩;rw[show V2.heap.size=P by rw[H9,hP]] at GL
 have HP:Hid (P=w.heap.size+1):=hP;have uF:Hid (∀W,Calls prog 79 #[.agg #[.int .i64 a,.int .i64 b,.int .i64 c,.int .i64 d,.int .i64 p,.int .i64 q,.int .i64 s,.int .i64 t]] W fun e w'=>e=.returned (errV (chk ⟨a,b,c,d,p,q,s,t⟩))∧Below W.heap.size W w'):=fun W=>ord.zDn a b c d p q s t W
 have gV:P<V.heap.size:=(gzE.1 GL).1;have hwV:w.heap.size<V.heap.size:=(gzE.1 Un).1;have Ho:Hid (∀W,Below V.heap.size V W→Below w.heap.size w W∧W.heap[P]?=some (.cells #[.int .i64 0,.int .i64 0,.int .i64 0,.int .i64 0,.int .i64 0] 51 (0,0))∧∀i,W.cell? ⟨w.heap.size,i,none⟩=(#[.int .i64 a,.int .i64 b,.int .i64 c,.int .i64 d,.int .i64 p,.int .i64 q,.int .i64 s,.int .i64 t]:Array Value)[i]?):=fun W hW=>
  ⟨HB.out.trans (hW.mono HB.out.size),(hW.block P gV).trans GL,fun i=>by have h:=(hW.block w.heap.size hwV).trans Un;simp[World.cell?,h]⟩
 have Mn:Hid (∀W kk,Below w.heap.size w W→zBS ⟨a,b,c,d,p,q,s,t⟩ k=kk→¬kk=0→(Ending.returned (.tuple #[.agg #[.int .i64 0,.int .i64 0,.int .i64 0,.int .i64 0,.int .i64 0],.iface 90 (.int .i64 kk)])=.returned (.tuple #[rB (zEQ ⟨a,b,c,d,p,q,s,t⟩ k),errV (zBS ⟨a,b,c,d,p,q,s,t⟩ k)])∧Below w.heap.size w W)):=fun W kk hW h1 h2=>⟨by
   unfold zEQ;rw[h1,if_neg h2,wAb h2];rfl,hW⟩
 clear H9 gG gc uL GL Un gV hwV;go_enter func50,ntmps50;obtain⟨-,gh,cel⟩:=Ho.out V (bzR _ _);have c0:=cel 0;have c1:=cel 1;have c2:=cel 2;have c3:=cel 3;have c4:=cel 4;have c5:=cel 5;have c6:=cel 6;have c7:=cel 7;simp only[List.getElem?_toArray,List.getElem?_cons_zero,List.getElem?_cons_succ] at c0 c1 c2 c3 c4 c5 c6 c7;clear cel gh;go_wp2_with fail;rw[←gl,←hV];simp only[←hP];clear gl hV hP;refine(uF.out V).mono ?_;rintro e w1⟨rfl,b1⟩;have di:Hid (Below V.heap.size V w1):=b1;obtain⟨H7,gh,cel⟩:=Ho.out w1 b1;clear b1 c0 c1 c2 c3 c4 c5 c6 c7;by_cases e1:chk ⟨a,b,c,d,p,q,s,t⟩=0
 rotate_left
 ·have hE:zBS ⟨a,b,c,d,p,q,s,t⟩ k=chk ⟨a,b,c,d,p,q,s,t⟩:=by unfold zBS;rw[if_neg e1]
  rw[wAb e1];obtain⟨z0,z1,z2,z3,z4,zf⟩:=zAi gh;have f0:=zf 0;have f1:=zf 1;have f2:=zf 2;have f3:=zf 3;have f4:=zf 4;have Hx:Hid ((((((w1.setCell ⟨P,0,none⟩ (.int .i64 0)).setCell ⟨P,1,none⟩ (.int .i64 0)).setCell ⟨P,2,none⟩ (.int .i64 0)).setCell ⟨P,3,none⟩ (.int .i64 0)).setCell ⟨P,4,none⟩ (.int .i64 0)).heap[P]?=some (.cells #[.int .i64 0,.int .i64 0,.int .i64 0,.int .i64 0,.int .i64 0] 51 (0,0))):=zBd gh _ _ _ _ _;have hg:=zBW w1 P (.int .i64 0) (.int .i64 0) (.int .i64 0) (.int .i64 0) (.int .i64 0);have Hz:=hidK (Mn.out _ _ (H7.grown hg H7.size (fun k hk=>by cases hk;have:=HP.out;omega)) hE e1)
  generalize chk ⟨a,b,c,d,p,q,s,t⟩=kk at *;clear zf hg hE Mn gh cel;go_wp2_with fail;generalize (((((w1.setCell ⟨P,0,none⟩ (.int .i64 0)).setCell ⟨P,1,none⟩ (.int .i64 0)).setCell ⟨P,2,none⟩ (.int .i64 0)).setCell ⟨P,3,none⟩ (.int .i64 0)).setCell ⟨P,4,none⟩ (.int .i64 0))=X at *;obtain⟨y0,y1,y2,y3,y4,-⟩:=zAi Hx.out;exact jN (v:=.tuple #[.agg #[.int .i64 0,.int .i64 0,.int .i64 0,.int .i64 0,.int .i64 0],.iface 90 (.int .i64 kk)]) (by simp[results,results50,go_sem,y0,y1,y2,y3,y4]) rfl Hz.out
 have HE:Hid (chk ⟨a,b,c,d,p,q,s,t⟩=0):=e1;rw[e1,wAa];have c5:=cel 5;simp only[List.getElem?_toArray,List.getElem?_cons_zero,List.getElem?_cons_succ] at c5;clear e1 cel;go_wp2_with fail;refine(zAY k 1 q w1).mono ?_;rintro e w2⟨rfl,b2⟩;have ul:Hid (Below V.heap.size V w2):=di.out.trans (b2.mono di.out.size);clear b2 c5;go_wp2_with fail;generalize hr:[(k,1,q)].any zAl=r;have HR:Hid ([(k,1,q)].any zAl=r):=hr;clear hr;refine(scheck1 r _ _ _ _ _ rfl HR.out).mono ?_;rintro e w3⟨rfl,b3⟩;have mp:Hid (Below V.heap.size V w3):=ul.out.trans (b3.mono ul.out.size);clear b3 gh H7;obtain⟨gQ,gZ,cel⟩:=Ho.out w3 mp.out;have bh:Hid ((!(decide (1≤k∧k≤q)))=r):=(zIC k 1 q).symm.trans HR.out;clear HR;obtain⟨z0,z1,z2,z3,z4,zf⟩:=zAi gZ;have f0:=zf 0;have f1:=zf 1;have f2:=zf 2;have f3:=zf 3;have f4:=zf 4;cases r
 rotate_left
 ·have hE:zBS ⟨a,b,c,d,p,q,s,t⟩ k=1:=by
   unfold zBS;have h:=bh.out;simp at h;rw[if_pos HE.out,if_neg (show ¬(1≤k∧k≤q) by omega)]
  rw[show spn.errV (zAd true)=.iface 90 (.int .i64 1) from rfl]
  have Hx:Hid ((((((w3.setCell ⟨P,0,none⟩ (.int .i64 0)).setCell ⟨P,1,none⟩ (.int .i64 0)).setCell ⟨P,2,none⟩ (.int .i64 0)).setCell ⟨P,3,none⟩ (.int .i64 0)).setCell ⟨P,4,none⟩ (.int .i64 0)).heap[P]?=some (.cells #[.int .i64 0,.int .i64 0,.int .i64 0,.int .i64 0,.int .i64 0] 51 (0,0))):=zBd gZ _ _ _ _ _;have hg:=zBW w3 P (.int .i64 0) (.int .i64 0) (.int .i64 0) (.int .i64 0) (.int .i64 0);have Hz:=hidK (Mn.out _ _ (gQ.grown hg gQ.size (fun k hk=>by cases hk;have:=HP.out;omega)) hE (by decide))
  clear zf hg hE Mn gZ cel;go_wp2_with fail;generalize (((((w3.setCell ⟨P,0,none⟩ (.int .i64 0)).setCell ⟨P,1,none⟩ (.int .i64 0)).setCell ⟨P,2,none⟩ (.int .i64 0)).setCell ⟨P,3,none⟩ (.int .i64 0)).setCell ⟨P,4,none⟩ (.int .i64 0))=X at *;obtain⟨y0,y1,y2,y3,y4,-⟩:=zAi Hx.out;exact jN (v:=.tuple #[.agg #[.int .i64 0,.int .i64 0,.int .i64 0,.int .i64 0,.int .i64 0],.iface 90 (.int .i64 1)]) (by simp[results,results50,go_sem,y0,y1,y2,y3,y4]) rfl Hz.out
 rw[show spn.errV (zAd false)=.nilIface from rfl]
 have hk:1≤k∧k≤q:=by have h:=bh.out;simpa using h
 have hq:=shw_of HE.out;simp only[] at hq;have hE:zBS ⟨a,b,c,d,p,q,s,t⟩ k=0:=by
  unfold zBS;rw[if_pos HE.out,if_pos (show 1≤k∧k≤q from hk)]
 have c0:=cel 0;have c1:=cel 1;have c6:=cel 6;simp only[List.getElem?_toArray,List.getElem?_cons_zero,List.getElem?_cons_succ] at c0 c1 c6;have PL:Hid (∀W x y,Below w.heap.size w W→zGM ⟨a,b,c,d,p,q,s,t⟩ k=x→k - x=y→(Ending.returned (.tuple #[.agg #[.int .i64 a,.int .i64 b,.int .i64 x,.int .i64 y,.int .i64 s],.nilIface])=.returned (.tuple #[rB (zEQ ⟨a,b,c,d,p,q,s,t⟩ k),errV (zBS ⟨a,b,c,d,p,q,s,t⟩ k)])∧Below w.heap.size w W)):=fun W x y hW h1 h2=>⟨by
   unfold zEQ;rw[hE,if_pos rfl,wAa];unfold zBw;rw[h1,h2];rfl,hW⟩
 have MB:Hid (Below w.heap.size w w3):=gQ;clear bh HE hE zf cel gQ Mn Ho uF di ul mp;by_cases hs:s=0
 ·subst hs;have E1:Hid (wrap64 (k - k)=0):=by show _=_;unfold wrap64;omega
  have Hx:Hid ((((((w3.setCell ⟨P,0,none⟩ (.int .i64 a)).setCell ⟨P,1,none⟩ (.int .i64 b)).setCell ⟨P,2,none⟩ (.int .i64 k)).setCell ⟨P,3,none⟩ (.int .i64 0)).setCell ⟨P,4,none⟩ (.int .i64 0)).heap[P]?=some (.cells #[.int .i64 a,.int .i64 b,.int .i64 k,.int .i64 0,.int .i64 0] 51 (0,0))):=zBd gZ _ _ _ _ _;have hg:=zBW w3 P (.int .i64 a) (.int .i64 b) (.int .i64 k) (.int .i64 0) (.int .i64 0);have Hz:=hidK (PL.out _ k 0 (MB.out.grown hg MB.out.size (fun k hk=>by cases hk;have:=HP.out;omega)) (by unfold zGM;rw[if_pos rfl]) (by omega))
  clear gZ hg PL hk hq;have x1:=E1.out;go_wp2_with fail;generalize (((((w3.setCell ⟨P,0,none⟩ (.int .i64 a)).setCell ⟨P,1,none⟩ (.int .i64 b)).setCell ⟨P,2,none⟩ (.int .i64 k)).setCell ⟨P,3,none⟩ (.int .i64 0)).setCell ⟨P,4,none⟩ (.int .i64 0))=X at *;obtain⟨y0,y1,y2,y3,y4,-⟩:=zAi Hx.out;exact jN (v:=.tuple #[.agg #[.int .i64 a,.int .i64 b,.int .i64 k,.int .i64 0,.int .i64 0],.nilIface]) (by simp[results,results50,go_sem,y0,y1,y2,y3,y4]) rfl Hz.out
 ·have Hl:(s != 0)=true:=by simp[hs]
  obtain⟨m,hm⟩:∃m,min s k=m:=⟨_,rfl⟩;obtain⟨y,hy⟩:∃y,k - m=y:=⟨_,rfl⟩;have E1:Hid (wrap64 (k - m)=y):=by show _=_;unfold wrap64;omega
  have HM:Hid (min s k=m):=hm;have Hx:Hid ((((((w3.setCell ⟨P,0,none⟩ (.int .i64 a)).setCell ⟨P,1,none⟩ (.int .i64 b)).setCell ⟨P,2,none⟩ (.int .i64 m)).setCell ⟨P,3,none⟩ (.int .i64 y)).setCell ⟨P,4,none⟩ (.int .i64 s)).heap[P]?=some (.cells #[.int .i64 a,.int .i64 b,.int .i64 m,.int .i64 y,.int .i64 s] 51 (0,0))):=zBd gZ _ _ _ _ _;have hg:=zBW w3 P (.int .i64 a) (.int .i64 b) (.int .i64 m) (.int .i64 y) (.int .i64 s);have Hz:=hidK (PL.out _ m y (MB.out.grown hg MB.out.size (fun k hk=>by cases hk;have:=HP.out;omega)) (by unfold zGM;rw[if_neg hs];exact hm) hy)
  clear gZ hg PL hk hq hs hy hm;have x1:=E1.out;have x2:=HM.out;go_wp2_with fail
  trace_state
  generalize (((((w3.setCell ⟨P,0,none⟩ (.int .i64 a)).setCell ⟨P,1,none⟩ (.int .i64 b)).setCell ⟨P,2,none⟩ (.int .i64 m)).setCell ⟨P,3,none⟩ (.int .i64 y)).setCell ⟨P,4,none⟩ (.int .i64 s))=X at *;obtain⟨y0,y1,y2,y3,y4,-⟩:=zAi Hx.out;exact jN (v:=.tuple #[.agg #[.int .i64 a,.int .i64 b,.int .i64 m,.int .i64 y,.int .i64 s],.nilIface]) (by simp[results,results50,go_sem,y0,y1,y2,y3,y4]) rfl Hz.out
theorem zJL(a b c d p q s t k:Int)(w:World) :
  Calls prog 25 #[.agg #[.int .i64 a,.int .i64 b,.int .i64 c,.int .i64 d,.int .i64 p,.int .i64 q,.int .i64 s,.int .i64 t],.int .i64 k] w fun e w'=>e=.returned (errV (refE ⟨a,b,c,d,p,q,s,t⟩ k))∧Bw w w':=by
 have hB:Bw w (w.alloc (.cells #[.int .i64 a,.int .i64 b,.int .i64 c,.int .i64 d,.int .i64 p,.int .i64 q,.int .i64 s,.int .i64 t] 34)):=(bzR _ _).alloc (nzR _) _;generalize hk:refE ⟨a,b,c,d,p,q,s,t⟩ k=kk;have HK:Hid ((if d=4∧0<k then 9 else if d=5∧k<q then 8 else 0)=kk):=hk
 clear hk;by_cases h4:d=4
 ·subst h4;by_cases h0:0<k
  ·have gd:kk=9:=by rw[←HK.out,if_pos ⟨rfl,h0⟩]
   subst gd;go_enter func25,ntmps25;go_wp2_with fail;go_ret;exact⟨rfl,hB⟩
  ·have gd:kk=0:=by rw[←HK.out,if_neg (fun h=>h0 h.2),if_neg (by omega)]
   subst gd;go_enter func25,ntmps25;go_wp2_with fail;go_ret;exact⟨rfl,hB⟩
 ·have h4b:(d == 4)=false:=by simp[h4]
  by_cases h5:d=5
  ·subst h5;by_cases h0:k<q
   ·have gd:kk=8:=(by rw[←HK.out,if_neg (by omega),if_pos ⟨rfl,h0⟩]);subst gd;go_enter func25,ntmps25;go_wp2_with fail;go_ret;exact⟨rfl,hB⟩
   ·have gd:kk=0:=by rw[←HK.out,if_neg (by omega),if_neg (fun h=>h0 h.2)]
    subst gd;go_enter func25,ntmps25;go_wp2_with fail;go_ret;exact⟨rfl,hB⟩
  ·have h5b:(d == 5)=false:=by simp[h5]
   have gd:kk=0:=by rw[←HK.out,if_neg (fun h=>h4 h.1),if_neg (fun h=>h5 h.1)]
   subst gd;go_enter func25,ntmps25;go_wp2_with fail;go_ret;exact⟨rfl,hB⟩
end kin
namespace kin
open Go.RowKit spn que sid bok mee
open ord (O oV mB mE chk zAy zBE)
def SetPost(bs ss:List L)(o:O)(left:Int)(b0:Nat)(w:World)(e:Ending)(w' : World):Prop:=
 (setE bs ss o left=0→∃q1 q2 n1 n2 c1 c2,e=.returned (.tuple #[.agg #[.slice q1 n1 c1,.slice q2 n2 c2],.int .i64 (setG o left),.nilIface])∧DL w' b0 (.slice q1 n1 c1) (setB bs o left)∧DL w' b0 (.slice q2 n2 c2) (setS ss o left))∧
 (¬setE bs ss o left=0→∃q1 q2 n1 n2 c1 c2,e=.returned (.tuple #[.agg #[.slice q1 n1 c1,.slice q2 n2 c2],.int .i64 0,errV (setE bs ss o left)]))∧Bw w w'
theorem wAM(q1 q2:Option Addr)(n1 n2 c1 c2:Nat)(bs ss:List L)(a b c d p q s t k:Int)(b0:Nat)(w:World)(h1:LS w (.slice q1 n1 c1) bs)(h2:LS w (.slice q2 n2 c2) ss)(Up:b0≤w.heap.size)(my:schk 1 bs=0)(Gg:schk 2 ss=0) :
  Calls prog 26 #[.agg #[.slice q1 n1 c1,.slice q2 n2 c2],.agg #[.int .i64 a,.int .i64 b,.int .i64 c,.int .i64 d,.int .i64 p,.int .i64 q,.int .i64 s,.int .i64 t],.int .i64 k] w fun e w'=>SetPost bs ss ⟨a,b,c,d,p,q,s,t⟩ k b0 w e w':=by
 obtain⟨V1,gx⟩:∃V1,V1=w.alloc (.cells #[.slice q1 n1 c1,.slice q2 n2 c2] 57):=⟨_,rfl⟩;have Hl:V1.heap.size=w.heap.size+1:=by rw[gx];simp
 have Hc:Below w.heap.size w V1:=by rw[gx];exact(bzR _ _).alloc (nzR _) _
 have gq:V1.heap[w.heap.size]?=some (.cells #[.slice q1 n1 c1,.slice q2 n2 c2] 57 (0,0)):=by rw[gx];exact jA w _
 obtain⟨V2,gl⟩:∃V2,V2=V1.alloc (.cells #[.int .i64 a,.int .i64 b,.int .i64 c,.int .i64 d,.int .i64 p,.int .i64 q,.int .i64 s,.int .i64 t] 34):=⟨_,rfl⟩;have H9:V2.heap.size=w.heap.size+2:=by rw[gl];simp[Hl]
 have Ha:Below V1.heap.size V1 V2:=by rw[gl];exact(bzR _ _).alloc (nzR _) _
 have H5:V2.heap[w.heap.size+1]?=some (.cells #[.int .i64 a,.int .i64 b,.int .i64 c,.int .i64 d,.int .i64 p,.int .i64 q,.int .i64 s,.int .i64 t] 34 (0,0)):=by rw[←Hl,gl];exact jA V1 _
 obtain⟨V,hV⟩:∃V,V=V2.alloc (.cells #[.slice none 0 0,.slice none 0 0] 57):=⟨_,rfl⟩;have Hr:Below V2.heap.size V2 V:=by rw[hV];exact(bzR _ _).alloc (nzR _) _
 have GD:V.heap[w.heap.size+2]?=some (.cells #[.slice none 0 0,.slice none 0 0] 57 (0,0)):=by rw[←H9,hV];exact jA V2 _
 have gc:Below w.heap.size w V:=by
  have h:=Hc.trans (Ha.mono Hc.size);exact h.trans (Hr.mono h.size)
 have gP:V.heap[w.heap.size]?=some (.cells #[.slice q1 n1 c1,.slice q2 n2 c2] 57 (0,0)):=by rw[Hr.block _ (by omega),Ha.block _ (by omega)];exact gq
 have Un:V.heap[w.heap.size+1]?=some (.cells #[.int .i64 a,.int .i64 b,.int .i64 c,.int .i64 d,.int .i64 p,.int .i64 q,.int .i64 s,.int .i64 t] 34 (0,0)):=by rw[Hr.block _ (by omega)];exact H5
 obtain⟨P,hP⟩:∃P,P=w.heap.size+2:=⟨_,rfl⟩;obtain⟨G,hG⟩:∃G,G=w.heap.size:=⟨_,rfl⟩;obtain⟨Q,hQ⟩:∃Q,Q=w.heap.size+1:=⟨_,rfl⟩;rw[←hP] at GD;have gV:P<V.heap.size:=(gzE.1 GD).1;have HP:Hid (P=w.heap.size+2∧G=w.heap.size∧Q=w.heap.size+1∧P<V.heap.size):=⟨hP,hG,hQ,gV⟩;have Ho:Hid (∀W,Below V.heap.size V W→Below w.heap.size w W∧W.heap[P]?=some (.cells #[.slice none 0 0,.slice none 0 0] 57 (0,0))∧W.heap[G]?=some (.cells #[.slice q1 n1 c1,.slice q2 n2 c2] 57 (0,0))∧∀i,W.cell? ⟨Q,i,none⟩=(#[.int .i64 a,.int .i64 b,.int .i64 c,.int .i64 d,.int .i64 p,.int .i64 q,.int .i64 s,.int .i64 t]:Array Value)[i]?):=fun W hW=>
  ⟨gc.trans (hW.mono gc.size),(hW.block P gV).trans GD,by rw[hG];exact(hW.block _ (by omega)).trans gP,fun i=>by have h:=(hW.block (w.heap.size+1) (by omega)).trans Un;rw[←hQ] at h;simp[World.cell?,h]⟩
 have HD:Hid (∀W,Below w.heap.size w W→LS W (.slice q1 n1 c1) bs∧LS W (.slice q2 n2 c2) ss):=fun W hW=>⟨h1.below hW,h2.below hW⟩
 have uA:Hid (∀W,Below w.heap.size w W→Calls prog 49 #[.agg #[.slice q1 n1 c1,.slice q2 n2 c2]] W fun e w'=>BFPost bs ss W e w'):=fun W hW=>zFe q1 q2 n1 n2 c1 c2 bs ss W (h1.below hW) (h2.below hW) my Gg
 have Gq:Hid (b0≤w.heap.size):=Up;have PN:Hid (∀m W,(d == 1 || d == 5)=m→Calls prog 48 #[.int .i64 d] W fun e w'=>e=.returned (.bool m)∧w'=W):=fun m W h=>zBE m d W h
 have uG:Hid (∀W,Calls prog 50 #[.agg #[.int .i64 a,.int .i64 b,.int .i64 c,.int .i64 d,.int .i64 p,.int .i64 q,.int .i64 s,.int .i64 t],.int .i64 k] W fun e w'=>e=.returned (.tuple #[rB (zEQ ⟨a,b,c,d,p,q,s,t⟩ k),errV (zBS ⟨a,b,c,d,p,q,s,t⟩ k)])∧Below W.heap.size W w'):=fun W=>zLO a b c d p q s t k W
 clear Hl H9 Hc Ha Hr gq H5 GD gP Un gc h1 h2 Up gV;obtain⟨-,gm,UR,cel⟩:=Ho.out V (bzR _ _);obtain⟨g0,g1,-⟩:=zAb UR;obtain⟨z0,z1,zf⟩:=zAb gm;have zf0:=zf 0;have zf1:=zf 1;have u0:=cel 0;have u1:=cel 1;have u2:=cel 2;have u3:=cel 3;have u4:=cel 4;have u5:=cel 5;have u6:=cel 6;have u7':=cel 7;simp only[List.getElem?_toArray,List.getElem?_cons_zero,List.getElem?_cons_succ] at u0 u1 u2 u3 u4 u5 u6 u7';have ue:Hid (Below w.heap.size w V):=(Ho.out V (bzR _ _)).1;have m9:Hid (zBB ⟨a,b,c,d,p,q,s,t⟩ k=false→∀W qa qb ma mb ca cb,Below V.heap.size V W→DL W V.heap.size (.slice qa ma ca) bs→DL W V.heap.size (.slice qb mb cb) ss→SetPost bs ss ⟨a,b,c,d,p,q,s,t⟩ k b0 w (.returned (.tuple #[.agg #[.slice qa ma ca,.slice qb mb cb],.int .i64 k,.nilIface])) ((W.setCell ⟨P,0,none⟩ (.slice qa ma ca)).setCell ⟨P,1,none⟩ (.slice qb mb cb))∧
   ((W.setCell ⟨P,0,none⟩ (.slice qa ma ca)).setCell ⟨P,1,none⟩ (.slice qb mb cb)).heap[P]?=some (.cells #[.slice qa ma ca,.slice qb mb cb] 57 (0,0))):=fun Gb W qa qb ma mb ca cb hVW d1 d2=>by
  obtain⟨PG,hRPW,-,-⟩:=Ho.out W hVW;have hE:setE bs ss ⟨a,b,c,d,p,q,s,t⟩ k=0:=by unfold setE;rw[Gb];rfl
  have Hu:=zAT W P (.slice qa ma ca) (.slice qb mb cb);have eU:P<V.heap.size:=HP.out.2.2.2;have En:b0≤V.heap.size:=by have h1:=Gq.out;have h2:=HP.out;omega
  refine⟨⟨fun _=>⟨_,_,_,_,_,_,by unfold setG;rw[Gb];rfl,?_,?_⟩,fun h=>absurd hE h,PG.grown Hu PG.size (fun k hk=>by cases hk;have:=HP.out.1;omega)⟩,zAz hRPW _ _⟩
  ·unfold setB;rw[Gb];exact(d1.other Hu eU).mono En
  ·unfold setS;rw[Gb];exact(d2.other Hu eU).mono En
 clear cel zf gm UR;go_enter func26,ntmps26;by_cases mx:k=0
 ·subst mx;go_wp2_with fail;rw[←gx,←gl,←hV];simp only[←hP];simp only[←hQ];simp only[←hG];clear gx gl hV hP hG hQ g0 g1 z0 z1 zf0 zf1 u0 u1 u2 u3 u4 u5 u6 u7';refine(uA.out V ue.out).mono ?_;rintro e w2⟨qa,qb,ma,mb,ca,cb,rfl,bF,D1,D2,-,-⟩;obtain⟨gD,gK⟩:=m9.out rfl w2 qa qb ma mb ca cb bF D1 D2;have Hz:=hidK gD;have Hx:=hidK gK;obtain⟨-,pS,-,-⟩:=Ho.out w2 bF;obtain⟨z0,z1,zf⟩:=zAb pS;have zf0:=zf 0;have zf1:=zf 1;clear zf pS gD gK bF D1 D2 m9 Ho HD PN uG;go_wp2_with fail;generalize ((w2.setCell ⟨P,0,none⟩ (.slice qa ma ca)).setCell ⟨P,1,none⟩ (.slice qb mb cb))=Z at *;obtain⟨y0,y1,-⟩:=zAb Hx.out;exact jN (v:=.tuple #[.agg #[.slice qa ma ca,.slice qb mb cb],.int .i64 0,.nilIface]) (by simp[results,results26,go_sem,y0,y1]) rfl Hz.out
 have Ue:(k == 0)=false:=by simp[mx]
 generalize hm:(d == 1 || d == 5)=m;have HM:Hid ((d == 1 || d == 5)=m):=hm;have uY:Hid (zBB ⟨a,b,c,d,p,q,s,t⟩ k=m):=by
  show _=_
  unfold zBB mayK;rw[Ue];exact hm
 clear hm mx;go_wp2_with fail;rw[←gx,←gl,←hV];simp only[←hP];simp only[←hQ];simp only[←hG];clear gx gl hV hP hG hQ;refine(PN.out m V HM.out).mono ?_;rintro e w1⟨rfl,rfl⟩;cases m
 ·go_wp2_with fail;clear g0 g1 z0 z1 zf0 zf1 u0 u1 u2 u3 u4 u5 u6 u7';refine(uA.out w1 ue.out).mono ?_;rintro e w2⟨qa,qb,ma,mb,ca,cb,rfl,bF,D1,D2,-,-⟩;obtain⟨gD,gK⟩:=m9.out uY.out w2 qa qb ma mb ca cb bF D1 D2;have Hz:=hidK gD;have Hx:=hidK gK;obtain⟨-,pS,-,-⟩:=Ho.out w2 bF;obtain⟨z0,z1,zf⟩:=zAb pS;have zf0:=zf 0;have zf1:=zf 1;clear zf pS gD gK bF D1 D2 m9 Ho HD PN uG;go_wp2_with fail;generalize ((w2.setCell ⟨P,0,none⟩ (.slice qa ma ca)).setCell ⟨P,1,none⟩ (.slice qb mb cb))=Z at *;obtain⟨y0,y1,-⟩:=zAb Hx.out;exact jN (v:=.tuple #[.agg #[.slice qa ma ca,.slice qb mb cb],.int .i64 k,.nilIface]) (by simp[results,results26,go_sem,y0,y1]) rfl Hz.out
 clear m9 uA;go_wp2_with fail;refine(uG.out w1).mono ?_;rintro e w2⟨rfl,b2⟩;have H6:Hid (Below w1.heap.size w1 w2):=b2;clear b2 g0 g1 z0 z1 zf0 zf1 u0 u1 u2 u3 u4 u5 u6 u7';by_cases hE:zBS ⟨a,b,c,d,p,q,s,t⟩ k=0
 rotate_left
 ·have hSE:setE bs ss ⟨a,b,c,d,p,q,s,t⟩ k=zBS ⟨a,b,c,d,p,q,s,t⟩ k:=by unfold setE;rw[uY.out,if_pos rfl,if_neg hE]
  rw[show zEQ ⟨a,b,c,d,p,q,s,t⟩ k=zeroR by unfold zEQ;rw[if_neg hE],wAb hE,show rB zeroR=.agg #[.int .i64 0,.int .i64 0,.int .i64 0,.int .i64 0,.int .i64 0] from rfl]
  have Ht:Below w2.heap.size w2 (w2.alloc (.cells #[.int .i64 0,.int .i64 0,.int .i64 0,.int .i64 0,.int .i64 0] 51)):=(bzR _ _).alloc (nzR _) _;have bz:Below w1.heap.size w1 (w2.alloc (.cells #[.int .i64 0,.int .i64 0,.int .i64 0,.int .i64 0,.int .i64 0] 51)):=H6.out.trans (Ht.mono H6.out.size);obtain⟨UC,gm,UR,cel⟩:=Ho.out _ bz;have Hx:Hid ((((w2.alloc (.cells #[.int .i64 0,.int .i64 0,.int .i64 0,.int .i64 0,.int .i64 0] 51)).setCell ⟨P,0,none⟩ (.slice none 0 0)).setCell ⟨P,1,none⟩ (.slice none 0 0)).heap[P]?=some (.cells #[.slice none 0 0,.slice none 0 0] 57 (0,0))):=zAz gm _ _;have Hu:=zAT (w2.alloc (.cells #[.int .i64 0,.int .i64 0,.int .i64 0,.int .i64 0,.int .i64 0] 51)) P (.slice none 0 0) (.slice none 0 0)
  have Hz:Hid (SetPost bs ss ⟨a,b,c,d,p,q,s,t⟩ k b0 w (.returned (.tuple #[.agg #[.slice none 0 0,.slice none 0 0],.int .i64 0,.iface 90 (.int .i64 (zBS ⟨a,b,c,d,p,q,s,t⟩ k))])) (((w2.alloc (.cells #[.int .i64 0,.int .i64 0,.int .i64 0,.int .i64 0,.int .i64 0] 51)).setCell ⟨P,0,none⟩ (.slice none 0 0)).setCell ⟨P,1,none⟩ (.slice none 0 0))):=
   ⟨fun h=>absurd (hSE.symm.trans h) hE,fun _=>⟨_,_,_,_,_,_,by rw[hSE,wAb hE]⟩,UC.grown Hu UC.size (fun k hk=>by cases hk;have:=HP.out.1;omega)⟩
  obtain⟨z0,z1,zf⟩:=zAb gm;have zf0:=zf 0;have zf1:=zf 1;generalize zBS ⟨a,b,c,d,p,q,s,t⟩ k=kk at *;clear zf Hu gm UR cel hSE Ht bz UC Ho uG PN HD;go_upto_region 4 with fail
  generalize w2.alloc (.cells #[.int .i64 0,.int .i64 0,.int .i64 0,.int .i64 0,.int .i64 0] 51)=W at *;go_wp2_with fail;generalize ((W.setCell ⟨P,0,none⟩ (.slice none 0 0)).setCell ⟨P,1,none⟩ (.slice none 0 0))=Z at *;obtain⟨y0,y1,-⟩:=zAb Hx.out;exact jN (v:=.tuple #[.agg #[.slice none 0 0,.slice none 0 0],.int .i64 0,.iface 90 (.int .i64 kk)]) (by simp[results,results26,go_sem,y0,y1]) rfl Hz.out
 have mP:zEQ ⟨a,b,c,d,p,q,s,t⟩ k=zBw ⟨a,b,c,d,p,q,s,t⟩ k:=by unfold zEQ;rw[if_pos hE]
 rw[mP,hE,wAa];obtain⟨r1,r2,r3,r4,r5,dH⟩:∃r1 r2 r3 r4 r5,zBw ⟨a,b,c,d,p,q,s,t⟩ k=⟨r1,r2,r3,r4,r5⟩:=⟨_,_,_,_,_,rfl⟩;rw[dH,show rB ⟨r1,r2,r3,r4,r5⟩=.agg #[.int .i64 r1,.int .i64 r2,.int .i64 r3,.int .i64 r4,.int .i64 r5] from rfl]
 have Ht:Below w2.heap.size w2 (w2.alloc (.cells #[.int .i64 r1,.int .i64 r2,.int .i64 r3,.int .i64 r4,.int .i64 r5] 51)):=(bzR _ _).alloc (nzR _) _;have dt:(w2.alloc (.cells #[.int .i64 r1,.int .i64 r2,.int .i64 r3,.int .i64 r4,.int .i64 r5] 51)).heap[w2.heap.size]?=some (.cells #[.int .i64 r1,.int .i64 r2,.int .i64 r3,.int .i64 r4,.int .i64 r5] 51 (0,0)):=jA w2 _;have bz:Below w1.heap.size w1 (w2.alloc (.cells #[.int .i64 r1,.int .i64 r2,.int .i64 r3,.int .i64 r4,.int .i64 r5] 51)):=H6.out.trans (Ht.mono H6.out.size);obtain⟨UC,gm,UR,cel⟩:=Ho.out _ bz;have PR:Hid (setE bs ss ⟨a,b,c,d,p,q,s,t⟩ k=putE bs ss c p ⟨r1,r2,r3,r4,r5⟩∧setB bs ⟨a,b,c,d,p,q,s,t⟩ k=put1 bs c p ⟨r1,r2,r3,r4,r5⟩∧setS ss ⟨a,b,c,d,p,q,s,t⟩ k=put2 ss c p ⟨r1,r2,r3,r4,r5⟩∧setG ⟨a,b,c,d,p,q,s,t⟩ k=0):=by
  refine⟨?_,?_,?_,?_⟩
  ·unfold setE;rw[uY.out,if_pos rfl,if_pos hE,dH]
  ·unfold setB;rw[uY.out,if_pos rfl,dH]
  ·unfold setS;rw[uY.out,if_pos rfl,dH]
  ·unfold setG;rw[uY.out,if_pos rfl]
 obtain⟨g0,g1,-⟩:=zAb UR;obtain⟨x0,x1,x2,x3,x4,-⟩:=zAi dt;have u2:=cel 2;have u4:=cel 4;simp only[List.getElem?_toArray,List.getElem?_cons_zero,List.getElem?_cons_succ] at u2 u4;have M3:=hidK bz;have MB:=hidK UC;clear mP dH hE Ht dt gm UR cel bz UC uG PN;go_upto_region 4 with fail
 generalize w2.alloc (.cells #[.int .i64 r1,.int .i64 r2,.int .i64 r3,.int .i64 r4,.int .i64 r5] 51)=W at *;generalize w2.heap.size=RB at *;have cR:Hid (Calls prog 51 #[.agg #[.slice q1 n1 c1,.slice q2 n2 c2],.int .i64 c,.int .i64 p,.agg #[.int .i64 r1,.int .i64 r2,.int .i64 r3,.int .i64 r4,.int .i64 r5]] W fun x w'=>PutPostD bs ss c p ⟨r1,r2,r3,r4,r5⟩ W x w'):=zOA c p q1 q2 n1 n2 c1 c2 r1 r2 r3 r4 r5 bs ss W (HD.out W MB.out).1 (HD.out W MB.out).2
 go_wp2_with fail;refine cR.out.mono ?_;rintro e w3⟨v1,v2,m1,m2,k1,k2,rfl,D1,D2,b3⟩;have gX:Hid (Below w1.heap.size w1 w3):=M3.out.trans (b3.mono M3.out.size);obtain⟨pd,gm,UR,-⟩:=Ho.out w3 gX.out;obtain⟨t0,t1,tf⟩:=zAb UR;have tf0:=tf 0;have tf1:=tf 1;have hG4:=zAz UR (.slice v1 m1 k1) (.slice v2 m2 k2);have Ph:=zAT w3 G (.slice v1 m1 k1) (.slice v2 m2 k2);have Hi:P<w3.heap.size∧G≠P∧G<W.heap.size∧P<W.heap.size:=by
  have h1:=HP.out;have h2:=M3.out.size;have h3:=gX.out.size;omega
 have hP4:((w3.setCell ⟨G,0,none⟩ (.slice v1 m1 k1)).setCell ⟨G,1,none⟩ (.slice v2 m2 k2)).heap[P]?=some (.cells #[.slice none 0 0,.slice none 0 0] 57 (0,0)):=(Ph.block P Hi.1 (fun e=>by cases e;exact Hi.2.1 rfl)).trans gm
 obtain⟨s0,s1,-⟩:=zAb hG4;obtain⟨z0,z1,zf⟩:=zAb hP4;have zf0:=zf 0;have zf1:=zf 1;have Hx:=hidK (zAz hP4 (.slice v1 m1 k1) (.slice v2 m2 k2));have Ge:=zAT ((w3.setCell ⟨G,0,none⟩ (.slice v1 m1 k1)).setCell ⟨G,1,none⟩ (.slice v2 m2 k2)) P (.slice v1 m1 k1) (.slice v2 m2 k2);have Hz:Hid (SetPost bs ss ⟨a,b,c,d,p,q,s,t⟩ k b0 w (.returned (.tuple #[.agg #[.slice v1 m1 k1,.slice v2 m2 k2],.int .i64 0,errV (putE bs ss c p ⟨r1,r2,r3,r4,r5⟩)])) ((((w3.setCell ⟨G,0,none⟩ (.slice v1 m1 k1)).setCell ⟨G,1,none⟩ (.slice v2 m2 k2)).setCell ⟨P,0,none⟩ (.slice v1 m1 k1)).setCell ⟨P,1,none⟩ (.slice v2 m2 k2))):=by
  obtain⟨e1,e2,e3,e4⟩:=PR.out;have MI:b0≤W.heap.size:=by have h1:=Gq.out;have h2:=MB.out.size;omega
  have Ub:Below w.heap.size w ((w3.setCell ⟨G,0,none⟩ (.slice v1 m1 k1)).setCell ⟨G,1,none⟩ (.slice v2 m2 k2)):=pd.grown Ph pd.size (fun k hk=>by cases hk;have:=HP.out;omega)
  refine⟨fun h=>⟨v1,v2,m1,m2,k1,k2,?_,?_,?_⟩,fun h=>⟨_,_,_,_,_,_,by rw[e1]⟩,Ub.grown Ge Ub.size (fun k hk=>by cases hk;have:=HP.out;omega)⟩
  ·rw[e1] at h;rw[h,e4];rfl
  ·rw[e1] at h;rw[if_pos h] at D1;rw[e2];exact((D1.other Ph Hi.2.2.1).other Ge Hi.2.2.2).mono MI
  ·rw[e1] at h;rw[if_pos h] at D2;rw[e3];exact((D2.other Ph Hi.2.2.1).other Ge Hi.2.2.2).mono MI
 generalize errV (putE bs ss c p ⟨r1,r2,r3,r4,r5⟩)=EV at *;clear zf tf Ph Ge Hi hP4 hG4 gm UR pd b3 D1 D2 cR PR HD Ho;go_wp2_with fail;generalize ((((w3.setCell ⟨G,0,none⟩ (.slice v1 m1 k1)).setCell ⟨G,1,none⟩ (.slice v2 m2 k2)).setCell ⟨P,0,none⟩ (.slice v1 m1 k1)).setCell ⟨P,1,none⟩ (.slice v2 m2 k2))=Z at *;obtain⟨y0,y1,-⟩:=zAb Hx.out;exact jN (v:=.tuple #[.agg #[.slice v1 m1 k1,.slice v2 m2 k2],.int .i64 0,EV]) (by simp[results,results26,go_sem,y0,y1]) rfl Hz.out
def KDPost(bs ss:List L)(o:O)(w:World)(e:Ending)(w' : World):Prop:=
 (kdoE bs ss o=0→∃q1 q2 n1 n2 c1 c2 tv,e=.returned (.tuple #[.agg #[.slice q1 n1 c1,.slice q2 n2 c2],tv,.int .i64 (kdoG bs ss o),.nilIface])∧DL w' w.heap.size (.slice q1 n1 c1) (kdoB bs ss o)∧DL w' w.heap.size (.slice q2 n2 c2) (kdoS bs ss o)∧OwnT w' w.heap.size tv (metR bs ss o).2.1)∧
 (¬kdoE bs ss o=0→e=.returned (.tuple #[.agg #[.slice none 0 0,.slice none 0 0],.slice none 0 0,.int .i64 0,errV (kdoE bs ss o)]))∧Bw w w'
theorem zLP(q1 q2:Option Addr)(n1 n2 c1 c2:Nat)(bs ss:List L)(a b c d p q s t:Int)(w:World)(h1:LS w (.slice q1 n1 c1) bs)(h2:LS w (.slice q2 n2 c2) ss) :
  Calls prog 10 #[.agg #[.slice q1 n1 c1,.slice q2 n2 c2],.agg #[.int .i64 a,.int .i64 b,.int .i64 c,.int .i64 d,.int .i64 p,.int .i64 q,.int .i64 s,.int .i64 t]] w fun e w'=>KDPost bs ss ⟨a,b,c,d,p,q,s,t⟩ w e w':=by
 obtain⟨V1,gx⟩:∃V1,V1=w.alloc (.cells #[.slice q1 n1 c1,.slice q2 n2 c2] 57):=⟨_,rfl⟩;have Hl:V1.heap.size=w.heap.size+1:=by rw[gx];simp
 have Hc:Below w.heap.size w V1:=by rw[gx];exact(bzR _ _).alloc (nzR _) _
 have gq:V1.heap[w.heap.size]?=some (.cells #[.slice q1 n1 c1,.slice q2 n2 c2] 57 (0,0)):=by rw[gx];exact jA w _
 obtain⟨V2,gl⟩:∃V2,V2=V1.alloc (.cells #[.int .i64 a,.int .i64 b,.int .i64 c,.int .i64 d,.int .i64 p,.int .i64 q,.int .i64 s,.int .i64 t] 34):=⟨_,rfl⟩;have H9:V2.heap.size=w.heap.size+2:=by rw[gl];simp[Hl]
 have Ha:Below V1.heap.size V1 V2:=by rw[gl];exact(bzR _ _).alloc (nzR _) _
 have H5:V2.heap[w.heap.size+1]?=some (.cells #[.int .i64 a,.int .i64 b,.int .i64 c,.int .i64 d,.int .i64 p,.int .i64 q,.int .i64 s,.int .i64 t] 34 (0,0)):=by rw[←Hl,gl];exact jA V1 _
 obtain⟨V,hV⟩:∃V,V=V2.alloc (.cells #[.slice none 0 0,.slice none 0 0] 57):=⟨_,rfl⟩;have Hr:Below V2.heap.size V2 V:=by rw[hV];exact(bzR _ _).alloc (nzR _) _
 have GD:V.heap[w.heap.size+2]?=some (.cells #[.slice none 0 0,.slice none 0 0] 57 (0,0)):=by rw[←H9,hV];exact jA V2 _
 have gc:Below w.heap.size w V:=by
  have h:=Hc.trans (Ha.mono Hc.size);exact h.trans (Hr.mono h.size)
 have gP:V.heap[w.heap.size]?=some (.cells #[.slice q1 n1 c1,.slice q2 n2 c2] 57 (0,0)):=by rw[Hr.block _ (by omega),Ha.block _ (by omega)];exact gq
 have Un:V.heap[w.heap.size+1]?=some (.cells #[.int .i64 a,.int .i64 b,.int .i64 c,.int .i64 d,.int .i64 p,.int .i64 q,.int .i64 s,.int .i64 t] 34 (0,0)):=by rw[Hr.block _ (by omega)];exact H5
 obtain⟨P,hP⟩:∃P,P=w.heap.size+2:=⟨_,rfl⟩;obtain⟨G,hG⟩:∃G,G=w.heap.size:=⟨_,rfl⟩;obtain⟨Q,hQ⟩:∃Q,Q=w.heap.size+1:=⟨_,rfl⟩;rw[←hP] at GD;have gV:P<V.heap.size:=(gzE.1 GD).1;have HP:Hid (P=w.heap.size+2∧G=w.heap.size∧Q=w.heap.size+1∧P<V.heap.size):=⟨hP,hG,hQ,gV⟩;have Ho:Hid (∀W,Below V.heap.size V W→Below w.heap.size w W∧W.heap[P]?=some (.cells #[.slice none 0 0,.slice none 0 0] 57 (0,0))∧W.heap[G]?=some (.cells #[.slice q1 n1 c1,.slice q2 n2 c2] 57 (0,0))∧∀i,W.cell? ⟨Q,i,none⟩=(#[.int .i64 a,.int .i64 b,.int .i64 c,.int .i64 d,.int .i64 p,.int .i64 q,.int .i64 s,.int .i64 t]:Array Value)[i]?):=fun W hW=>
  ⟨gc.trans (hW.mono gc.size),(hW.block P gV).trans GD,by rw[hG];exact(hW.block _ (by omega)).trans gP,fun i=>by have h:=(hW.block (w.heap.size+1) (by omega)).trans Un;rw[←hQ] at h;simp[World.cell?,h]⟩
 have Mq:Hid (Calls prog 24 #[.agg #[.slice q1 n1 c1,.slice q2 n2 c2],.agg #[.int .i64 a,.int .i64 b,.int .i64 c,.int .i64 d,.int .i64 p,.int .i64 q,.int .i64 s,.int .i64 t]] V fun e w'=>DoPostD bs ss ⟨a,b,c,d,p,q,s,t⟩ V e w'):=zLq q1 q2 n1 n2 c1 c2 bs ss a b c d p q s t V (h1.below gc) (h2.below gc)
 have gj:Hid (∀W kk,Below V.heap.size V W→kdoE bs ss ⟨a,b,c,d,p,q,s,t⟩=kk→¬kk=0→KDPost bs ss ⟨a,b,c,d,p,q,s,t⟩ w (.returned (.tuple #[.agg #[.slice none 0 0,.slice none 0 0],.slice none 0 0,.int .i64 0,.iface 90 (.int .i64 kk)])) ((W.setCell ⟨P,0,none⟩ (.slice none 0 0)).setCell ⟨P,1,none⟩ (.slice none 0 0))∧
   ((W.setCell ⟨P,0,none⟩ (.slice none 0 0)).setCell ⟨P,1,none⟩ (.slice none 0 0)).heap[P]?=some (.cells #[.slice none 0 0,.slice none 0 0] 57 (0,0))):=fun W kk hW hE hk=>by
  obtain⟨hw,gm,-,-⟩:=Ho.out W hW;have Hu:=zAT W P (.slice none 0 0) (.slice none 0 0);exact⟨⟨fun h=>absurd (hE.symm.trans h) hk,fun _=>by rw[hE,wAb hk],hw.grown Hu hw.size (fun k hk=>by cases hk;have:=HP.out.1;omega)⟩,zAz gm _ _⟩
 clear Hl H9 Hc Ha Hr gq H5 GD gP Un gc h1 h2 gV;obtain⟨-,gm,UR,cel⟩:=Ho.out V (bzR _ _);obtain⟨g0,g1,-⟩:=zAb UR;have u0:=cel 0;have u1:=cel 1;have u2:=cel 2;have u3:=cel 3;have u4:=cel 4;have u5:=cel 5;have u6:=cel 6;have u7':=cel 7;simp only[List.getElem?_toArray,List.getElem?_cons_zero,List.getElem?_cons_succ] at u0 u1 u2 u3 u4 u5 u6 u7';clear cel gm UR;go_enter func10,ntmps10;go_wp2_with fail;rw[←gx,←gl,←hV];simp only[←hP];simp only[←hQ];simp only[←hG];clear gx gl hV hP hG hQ;refine Mq.out.mono ?_;rintro e w1⟨i1,i2,b1⟩;have go:=hidK b1;clear g0 g1 u0 u1 u2 u3 u4 u5 u6 u7' b1 Mq;by_cases hD:doE bs ss ⟨a,b,c,d,p,q,s,t⟩=0
 rotate_left
 ·have e2:=i2 hD;subst e2;have hKE:kdoE bs ss ⟨a,b,c,d,p,q,s,t⟩=doE bs ss ⟨a,b,c,d,p,q,s,t⟩:=by unfold kdoE;rw[if_neg hD]
  rw[wAb hD];have Ht:Below w1.heap.size w1 (w1.alloc (.cells #[.slice none 0 0,.slice none 0 0] 57)):=(bzR _ _).alloc (nzR _) _;have M3:=hidK (go.out.trans (Ht.mono go.out.size));obtain⟨gD,gK⟩:=gj.out _ _ M3.out hKE hD;have Hz:=hidK gD;have Hx:=hidK gK;obtain⟨-,gm,-,-⟩:=Ho.out _ M3.out;obtain⟨z0,z1,zf⟩:=zAb gm;have zf0:=zf 0;have zf1:=zf 1;generalize doE bs ss ⟨a,b,c,d,p,q,s,t⟩=kk at *;clear i1 i2 gD gK gj gm zf Ht hKE Ho;go_upto_region 2 with fail
  generalize w1.alloc (.cells #[.slice none 0 0,.slice none 0 0] 57)=W at *;go_wp2_with fail;generalize ((W.setCell ⟨P,0,none⟩ (.slice none 0 0)).setCell ⟨P,1,none⟩ (.slice none 0 0))=Z at *;obtain⟨y0,y1,-⟩:=zAb Hx.out;exact jN (v:=.tuple #[.agg #[.slice none 0 0,.slice none 0 0],.slice none 0 0,.int .i64 0,.iface 90 (.int .i64 kk)]) (by simp[results,results10,go_sem,y0,y1]) rfl Hz.out
 obtain⟨v1,v2,m1,m2,k1,k2,tv,rfl,D1,D2,OT⟩:=i1 hD;obtain⟨tq,tc,bX⟩:=OwnM.form OT;subst bX;obtain⟨BM,hBM⟩:∃BM,metB bs ss ⟨a,b,c,d,p,q,s,t⟩=BM:=⟨_,rfl⟩;obtain⟨SM,hSM⟩:∃SM,metS bs ss ⟨a,b,c,d,p,q,s,t⟩=SM:=⟨_,rfl⟩;obtain⟨TT,mQ⟩:∃TT,(metR bs ss ⟨a,b,c,d,p,q,s,t⟩).2.1=TT:=⟨_,rfl⟩;obtain⟨lf,dI⟩:∃lf,(metR bs ss ⟨a,b,c,d,p,q,s,t⟩).2.2=lf:=⟨_,rfl⟩;have cK:Hid (kdoE bs ss ⟨a,b,c,d,p,q,s,t⟩=(if refE ⟨a,b,c,d,p,q,s,t⟩ lf=0 then setE BM SM ⟨a,b,c,d,p,q,s,t⟩ lf else refE ⟨a,b,c,d,p,q,s,t⟩ lf)∧kdoB bs ss ⟨a,b,c,d,p,q,s,t⟩=setB BM ⟨a,b,c,d,p,q,s,t⟩ lf∧kdoS bs ss ⟨a,b,c,d,p,q,s,t⟩=setS SM ⟨a,b,c,d,p,q,s,t⟩ lf∧kdoG bs ss ⟨a,b,c,d,p,q,s,t⟩=setG ⟨a,b,c,d,p,q,s,t⟩ lf):=by
  unfold kdoE kdoB kdoS kdoG;rw[if_pos hD,hBM,hSM,dI];exact⟨rfl,rfl,rfl,rfl⟩
 have m7:Hid (schk 1 BM=0∧schk 2 SM=0):=by
  have h:=zAh (zOd (zFM hD).1);rw[hBM,hSM] at h;exact⟨h.1,h.2.1⟩
 rw[hBM] at D1;rw[hSM] at D2;rw[mQ] at OT;rw[mQ,dI];have PT:=hidK mQ;have Ht:Below w1.heap.size w1 (w1.alloc (.cells #[.slice v1 m1 k1,.slice v2 m2 k2] 57)):=(bzR _ _).alloc (nzR _) _;have Ct:(w1.alloc (.cells #[.slice v1 m1 k1,.slice v2 m2 k2] 57)).heap[w1.heap.size]?=some (.cells #[.slice v1 m1 k1,.slice v2 m2 k2] 57 (0,0)):=jA w1 _;have M3:=hidK (go.out.trans (Ht.mono go.out.size));have uV:=hidK (D1.below Ht);have ut:=hidK (D2.below Ht);have mJ:=hidK (OwnM.below OT Ht);clear i1 i2 D1 D2 OT Ht hBM hSM mQ dI hD;go_upto_region 2 with fail
 generalize w1.alloc (.cells #[.slice v1 m1 k1,.slice v2 m2 k2] 57)=W at *;generalize w1.heap.size=G1 at *;obtain⟨-,-,-,cel⟩:=Ho.out W M3.out;have u0:=cel 0;have u1:=cel 1;have u2:=cel 2;have u3:=cel 3;have u4:=cel 4;have u5:=cel 5;have u6:=cel 6;have u7':=cel 7;simp only[List.getElem?_toArray,List.getElem?_cons_zero,List.getElem?_cons_succ] at u0 u1 u2 u3 u4 u5 u6 u7';have eG:G1<W.heap.size:=(gzE.1 Ct).1;clear cel;go_wp2_with fail;refine(zJL a b c d p q s t lf W).mono ?_;rintro e w2⟨rfl,b2⟩;have H6:=hidK (M3.out.trans (b2.mono M3.out.size));have Bf:=hidK (uV.out.below b2);have Gs:=hidK (ut.out.below b2);have DK:=hidK (OwnM.below mJ.out b2);have Cu:=(b2.block G1 eG).trans Ct;clear b2 Ct u0 u1 u2 u3 u4 u5 u6 u7' uV ut mJ;by_cases hF:refE ⟨a,b,c,d,p,q,s,t⟩ lf=0
 rotate_left
 ·rw[wAb hF];obtain⟨gD,gK⟩:=gj.out w2 _ H6.out (by rw[cK.out.1,if_neg hF]) hF
  have Hz:=hidK gD;have Hx:=hidK gK;obtain⟨-,gm,-,-⟩:=Ho.out _ H6.out;obtain⟨z0,z1,zf⟩:=zAb gm;have zf0:=zf 0;have zf1:=zf 1;generalize refE ⟨a,b,c,d,p,q,s,t⟩ lf=kk at *;clear gD gK gj gm zf Ho Cu;go_wp2_with fail;generalize ((w2.setCell ⟨P,0,none⟩ (.slice none 0 0)).setCell ⟨P,1,none⟩ (.slice none 0 0))=Z at *;obtain⟨y0,y1,-⟩:=zAb Hx.out;exact jN (v:=.tuple #[.agg #[.slice none 0 0,.slice none 0 0],.slice none 0 0,.int .i64 0,.iface 90 (.int .i64 kk)]) (by simp[results,results10,go_sem,y0,y1]) rfl Hz.out
 rw[hF,wAa];have C8:Hid (kdoE bs ss ⟨a,b,c,d,p,q,s,t⟩=setE BM SM ⟨a,b,c,d,p,q,s,t⟩ lf):=by show _=_;rw[cK.out.1,if_pos hF]
 have PR:=hidK (wAM v1 v2 m1 m2 k1 k2 BM SM a b c d p q s t lf V.heap.size w2 Bf.out.ls Gs.out.ls H6.out.size m7.out.1 m7.out.2);obtain⟨-,-,-,cel⟩:=Ho.out w2 H6.out;have u0:=cel 0;have u1:=cel 1;have u2:=cel 2;have u3:=cel 3;have u4:=cel 4;have u5:=cel 5;have u6:=cel 6;have u7':=cel 7;simp only[List.getElem?_toArray,List.getElem?_cons_zero,List.getElem?_cons_succ] at u0 u1 u2 u3 u4 u5 u6 u7';obtain⟨g0,g1,-⟩:=zAb Cu;clear cel Cu hF Bf Gs;go_wp2_with fail;refine PR.out.mono ?_;rintro e w3⟨j1,j2,b3⟩;have gX:=hidK (H6.out.trans (b3.mono H6.out.size));have DM:=hidK (OwnM.below DK.out b3);clear b3 u0 u1 u2 u3 u4 u5 u6 u7' g0 g1 PR DK;by_cases hS:setE BM SM ⟨a,b,c,d,p,q,s,t⟩ lf=0
 rotate_left
 ·obtain⟨x1,x2,y1,y2,l1,l2,rfl⟩:=j2 hS;rw[wAb hS];have Ht:Below w3.heap.size w3 (w3.alloc (.cells #[.slice x1 y1 l1,.slice x2 y2 l2] 57)):=(bzR _ _).alloc (nzR _) _;have GR:=hidK (gX.out.trans (Ht.mono gX.out.size));obtain⟨gD,gK⟩:=gj.out _ _ GR.out C8.out hS;have Hz:=hidK gD;have Hx:=hidK gK;obtain⟨-,gm,-,-⟩:=Ho.out _ GR.out;obtain⟨z0,z1,zf⟩:=zAb gm;have zf0:=zf 0;have zf1:=zf 1;generalize setE BM SM ⟨a,b,c,d,p,q,s,t⟩ lf=kk at *;clear gD gK gj gm zf Ho j1 j2 Ht;go_upto_region 8 with fail
  generalize w3.alloc (.cells #[.slice x1 y1 l1,.slice x2 y2 l2] 57)=W4 at *;go_wp2_with fail;generalize ((W4.setCell ⟨P,0,none⟩ (.slice none 0 0)).setCell ⟨P,1,none⟩ (.slice none 0 0))=Z at *;obtain⟨y0,y1,-⟩:=zAb Hx.out;exact jN (v:=.tuple #[.agg #[.slice none 0 0,.slice none 0 0],.slice none 0 0,.int .i64 0,.iface 90 (.int .i64 kk)]) (by simp[results,results10,go_sem,y0,y1]) rfl Hz.out
 obtain⟨x1,x2,y1,y2,l1,l2,rfl,F1,F2⟩:=j1 hS;have Ht:Below w3.heap.size w3 (w3.alloc (.cells #[.slice x1 y1 l1,.slice x2 y2 l2] 57)):=(bzR _ _).alloc (nzR _) _;have GR:=hidK (gX.out.trans (Ht.mono gX.out.size));have Ea:(w3.alloc (.cells #[.slice x1 y1 l1,.slice x2 y2 l2] 57)).heap[w3.heap.size]?=some (.cells #[.slice x1 y1 l1,.slice x2 y2 l2] 57 (0,0)):=jA w3 _;have G9:=hidK (F1.below Ht);have uW:=hidK (F2.below Ht);have cQ:=hidK (OwnM.below DM.out Ht);clear Ht F1 F2 DM j1 j2;go_upto_region 8 with fail
 generalize w3.alloc (.cells #[.slice x1 y1 l1,.slice x2 y2 l2] 57)=W4 at *;generalize w3.heap.size=G3 at *;obtain⟨bZ,gm,-,-⟩:=Ho.out _ GR.out;obtain⟨z0,z1,zf⟩:=zAb gm;have zf0:=zf 0;have zf1:=zf 1;obtain⟨g0,g1,-⟩:=zAb Ea;have Hx:=hidK (zAz gm (.slice x1 y1 l1) (.slice x2 y2 l2));have Hu:=zAT W4 P (.slice x1 y1 l1) (.slice x2 y2 l2);have dQ:w.heap.size≤V.heap.size:=by have:=HP.out;omega
 have gV:P<V.heap.size:=HP.out.2.2.2;have Hz:Hid (KDPost bs ss ⟨a,b,c,d,p,q,s,t⟩ w (.returned (.tuple #[.agg #[.slice x1 y1 l1,.slice x2 y2 l2],.slice tq TT.length tc,.int .i64 (setG ⟨a,b,c,d,p,q,s,t⟩ lf),.nilIface])) ((W4.setCell ⟨P,0,none⟩ (.slice x1 y1 l1)).setCell ⟨P,1,none⟩ (.slice x2 y2 l2))):=by
  obtain⟨e1,e2,e3,e4⟩:=cK.out;refine⟨fun _=>⟨_,_,_,_,_,_,_,by rw[e4],?_,?_,?_⟩,fun h=>absurd (C8.out.trans hS) h,bZ.grown Hu bZ.size (fun k hk=>by cases hk;have:=HP.out.1;omega)⟩
  ·rw[e2];exact(G9.out.other Hu gV).mono dQ
  ·rw[e3];exact(uW.out.other Hu gV).mono dQ
  ·rw[PT.out];exact OwnM.mono (zAm cQ.out Hu (fun z hz e=>by cases e;have:=(OwnM.lt cQ.out P hz).1;omega)) dQ
 generalize setG ⟨a,b,c,d,p,q,s,t⟩ lf=GG at *;generalize TT.length=tl at *;clear zf Hu gm Ea bZ Ho gj cK C8 hS cQ G9 uW dQ gV;go_wp2_with fail;generalize ((W4.setCell ⟨P,0,none⟩ (.slice x1 y1 l1)).setCell ⟨P,1,none⟩ (.slice x2 y2 l2))=Z at *;obtain⟨y0,y1,-⟩:=zAb Hx.out;exact jN (v:=.tuple #[.agg #[.slice x1 _ l1,.slice x2 _ l2],.slice tq tl tc,.int .i64 GG,.nilIface]) (by simp[results,results10,go_sem,y0,y1]) rfl Hz.out
end kin
end Go.Proofs.YtnfilcpnneckkaaGreat
