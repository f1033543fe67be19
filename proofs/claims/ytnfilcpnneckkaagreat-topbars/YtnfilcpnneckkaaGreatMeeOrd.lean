import Derived.Test.YtnfilcpnneckkaaGreatTickP
set_option maxHeartbeats 2000000
set_option maxRecDepth 100000
namespace Go.Proofs.YtnfilcpnneckkaaGreat
open Tryz
namespace ord
open Go.RowKit
open spn (zAa bcell zAl zBc zAY zGn zCl zAK zAP scheck2 scheck4 zAd)
structure O where
 id:Int
 who:Int
 side:Int
 kind:Int
 price:Int
 qty:Int
 shw:Int
 stop:Int
def zeroO:O:=⟨0,0,0,0,0,0,0,0⟩
def prB(p:Int):Bool:=decide (1≤p) && decide (p≤10000)
def zCJ(o:O):Bool:=decide (1≤o.id) && decide (o.id≤9999) && decide (1≤o.who) && decide (o.who≤9) && decide (1≤o.side) && decide (o.side≤2) && decide (1≤o.kind) && decide (o.kind≤5)
def zAL(o:O):Bool:=if o.kind=2 then decide (o.price=0) else prB o.price
def qtyB(o:O):Bool:=decide (1≤o.qty) && decide (o.qty≤10000) && decide (0≤o.shw) && decide (o.shw≤o.qty)
def shapeB(o:O):Bool:=decide (o.shw=0) || decide (o.kind=1) || decide (o.kind=5)
def zFr(o:O):Bool:=decide (o.stop=0) || prB o.stop
def chk(o:O):Int:=if zCJ o && zAL o && qtyB o then (if shapeB o then (if zFr o then 0 else 1) else 3) else 1
theorem zBC{o:O}(h:chk o=0):zCJ o=true∧zAL o=true∧qtyB o=true∧shapeB o=true∧zFr o=true:=by
 unfold chk at h;by_cases h1:(zCJ o && zAL o && qtyB o)=true
 ·rw[if_pos h1] at h;by_cases h2:shapeB o=true
  ·rw[if_pos h2] at h;by_cases h3:zFr o=true
   ·simp only[Bool.and_eq_true] at h1;exact⟨h1.1.1,h1.1.2,h1.2,h2,h3⟩
   ·rw[if_neg h3] at h;omega
  ·rw[if_neg h2] at h;omega
 ·rw[if_neg h1] at h;omega
def errV(k:Int):Value:=if k=0 then .nilIface else .iface 90 (.int .i64 k)
theorem wAa:errV 0=.nilIface:=rfl
theorem wAb{k:Int}(h:¬k=0):errV k=.iface 90 (.int .i64 k):=if_neg h
def oV(o:O):Value:=.agg #[.int .i64 o.id,.int .i64 o.who,.int .i64 o.side,.int .i64 o.kind,.int .i64 o.price,.int .i64 o.qty,.int .i64 o.shw,.int .i64 o.stop]
theorem pr_is(n:Int):tickP.zAo n=prB n:=rfl
theorem zCa(n:Int)(w:World)(h:prB n=true) :
  Calls prog 116 #[.int .i64 n] w fun e w'=>e=.returned .nilIface∧Bw w w':=by
 refine(tickP.zAU w n w (bzR _ _)).mono ?_;rintro e w'⟨rfl,hb⟩;rw[pr_is,h];exact⟨rfl,hb⟩
theorem zDJ(n:Int)(w:World)(h:prB n=false) :
  Calls prog 116 #[.int .i64 n] w fun e w'=>e=.returned (.iface 90 (.int .i64 1))∧Bw w w':=by
 refine(tickP.zAU w n w (bzR _ _)).mono ?_;rintro e w'⟨rfl,hb⟩;rw[pr_is,h];exact⟨rfl,hb⟩
theorem zHD(k:Int)(w:World) :
  Calls prog 48 #[.int .i64 k] w fun e w'=>e=.returned (.bool (k == 1 || k == 5))∧w'=w:=by
 cases h:(k == 1) <;>
 ·go_enter func48,ntmps48
  go_wp2
  go_ret;exact⟨rfl,rfl⟩
theorem zFs(a b c d p q s t:Int)(w:World)(h:zAL ⟨a,b,c,d,p,q,s,t⟩=true) :
  Calls prog 115 #[.agg #[.int .i64 a,.int .i64 b,.int .i64 c,.int .i64 d,.int .i64 p,.int .i64 q,.int .i64 s,.int .i64 t]] w
   fun e w'=>e=.returned .nilIface∧Bw w w':=by
 have Px:(if d=2 then decide (p=0) else prB p)=true:=h
 clear h;by_cases hd:d=2
 ·rw[if_pos hd] at Px;have hp:p=0:=of_decide_eq_true Px;subst hd hp;clear Px;go_enter func115,ntmps115
  go_wp2
  go_ret;exact⟨rfl,(bzR _ _).alloc (nzR _) _⟩
 ·rw[if_neg hd] at Px;have hd2:(d != 2)=true:=by rw[bne_iff_ne];exact hd
  go_enter func115,ntmps115;go_wp2_with (go_at_call 116;refine(zCa _ _ Px).mono ?_;rintro e w' ⟨rfl,hb⟩)
  go_ret;exact⟨rfl,((bzR _ _).alloc (nzR _) _).trans (hb.mono (by simp))⟩
theorem zFt(a b c d p q s t:Int)(w:World)(h:zAL ⟨a,b,c,d,p,q,s,t⟩=false) :
  Calls prog 115 #[.agg #[.int .i64 a,.int .i64 b,.int .i64 c,.int .i64 d,.int .i64 p,.int .i64 q,.int .i64 s,.int .i64 t]] w
   fun e w'=>e=.returned (.iface 90 (.int .i64 1))∧Bw w w':=by
 have Px:(if d=2 then decide (p=0) else prB p)=false:=h
 clear h;by_cases hd:d=2
 ·rw[if_pos hd] at Px;have hp:(p != 0)=true:=by rw[bne_iff_ne];exact of_decide_eq_false Px
  subst hd;clear Px;go_enter func115,ntmps115
  go_wp2
  go_ret;exact⟨rfl,(bzR _ _).alloc (nzR _) _⟩
 ·rw[if_neg hd] at Px;have hd2:(d != 2)=true:=by rw[bne_iff_ne];exact hd
  go_enter func115,ntmps115;go_wp2_with (go_at_call 116;refine(zDJ _ _ Px).mono ?_;rintro e w' ⟨rfl,hb⟩)
  go_ret;exact⟨rfl,((bzR _ _).alloc (nzR _) _).trans (hb.mono (by simp))⟩
theorem zNt(a b c d p q s t:Int):[(a,1,9999),(b,1,9),(c,1,2),(d,1,5)].any zAl = !zCJ ⟨a,b,c,d,p,q,s,t⟩:=by
 rw[Bool.eq_iff_iff];simp[zAl,zCJ];omega
theorem zNu(a b c d p q s t:Int):[(q,1,10000),(s,0,q)].any zAl = !qtyB ⟨a,b,c,d,p,q,s,t⟩:=by
 rw[Bool.eq_iff_iff];simp[zAl,qtyB];omega
theorem bal{V W:World}(h:Bw V W)(o:Obj):Bw V (W.alloc o):=h.alloc h.size o
theorem of_V(V:World)(n lo hi:Int)(w:World)(h:Bw V w) :
  Calls prog 21 #[.int .i64 n,.int .i64 lo,.int .i64 hi] w fun e w'=>e=.returned (.agg #[.int .i64 n,.int .i64 lo,.int .i64 hi])∧Bw V w':=
 (zAY n lo hi w).mono fun _ _ h'=>⟨h'.1,h.trans (h'.2.mono h.size)⟩
theorem id_V(V:World)(n:Int)(w:World)(h:Bw V w) :
  Calls prog 72 #[.int .i64 n] w fun e w'=>e=.returned (.agg #[.int .i64 n,.int .i64 1,.int .i64 9999])∧Bw V w':=
 (zGn n w).mono fun _ _ h'=>⟨h'.1,h.trans (h'.2.mono h.size)⟩
theorem who_V(V:World)(n:Int)(w:World)(h:Bw V w) :
  Calls prog 106 #[.int .i64 n] w fun e w'=>e=.returned (.agg #[.int .i64 n,.int .i64 1,.int .i64 9])∧Bw V w':=
 (zCl n w).mono fun _ _ h'=>⟨h'.1,h.trans (h'.2.mono h.size)⟩
theorem qty_V(V:World)(n:Int)(w:World)(h:Bw V w) :
  Calls prog 75 #[.int .i64 n] w fun e w'=>e=.returned (.agg #[.int .i64 n,.int .i64 1,.int .i64 10000])∧Bw V w':=
 (zAK n w).mono fun _ _ h'=>⟨h'.1,h.trans (h'.2.mono h.size)⟩
theorem side_V(V:World)(n:Int)(w:World)(h:Bw V w) :
  Calls prog 114 #[.int .i64 n] w fun e w'=>e=.returned (.agg #[.int .i64 n,.int .i64 1,.int .i64 2])∧Bw V w':=
 (zAP n w).mono fun _ _ h'=>⟨h'.1,h.trans (h'.2.mono h.size)⟩
theorem zBE(r:Bool)(k:Int)(w:World)(h:(k == 1 || k == 5)=r) :
  Calls prog 48 #[.int .i64 k] w fun e w'=>e=.returned (.bool r)∧w'=w:=by
 rw[←h];exact zHD k w
theorem zBR{j k:Int}{v:Value}(h:errV j=v)(h2:k=j):Ending.returned v=.returned (errV k):=by rw[h2,h]
theorem zNv{o:O}(h:zCJ o=false):chk o=1:=by unfold chk;simp[h]
theorem zKv{o:O}(h:zAL o=false):chk o=1:=by unfold chk;simp[h]
theorem zQj{o:O}(h:qtyB o=false):chk o=1:=by unfold chk;simp[h]
theorem zNw{o:O}(h1:zCJ o=true)(h2:zAL o=true)(h3:qtyB o=true):chk o=(if shapeB o then (if zFr o then 0 else 1) else 3):=by unfold chk;simp[h1,h2,h3]
theorem zDn(a b c d p q s t:Int)(w:World) :
  Calls prog 79 #[.agg #[.int .i64 a,.int .i64 b,.int .i64 c,.int .i64 d,.int .i64 p,.int .i64 q,.int .i64 s,.int .i64 t]] w fun e w'=>e=.returned (errV (chk ⟨a,b,c,d,p,q,s,t⟩))∧Below w.heap.size w w':=by
 generalize hk:chk ⟨a,b,c,d,p,q,s,t⟩=k;have HK:Hid (chk ⟨a,b,c,d,p,q,s,t⟩=k):=hk;clear hk;generalize hr:[(a,1,9999),(b,1,9),(c,1,2),(d,1,5)].any zAl=r;have HR:Hid ([(a,1,9999),(b,1,9),(c,1,2),(d,1,5)].any zAl=r):=hr;clear hr;generalize hr:[(q,1,10000),(s,0,q)].any zAl=r2;have Uk:Hid ([(q,1,10000),(s,0,q)].any zAl=r2):=hr;clear hr;go_enter func79,ntmps79;go_wp2_with fail;refine(zAY d 1 5 _).mono ?_;rintro e w1⟨rfl,Hc⟩;have gh:w1.heap[w.heap.size]?=some (.cells #[.int .i64 a,.int .i64 b,.int .i64 c,.int .i64 d,.int .i64 p,.int .i64 q,.int .i64 s,.int .i64 t] 34 (0,0)):=by
  rw[Hc.block w.heap.size (by simp)]
  exact jA w _
 have Gd:Below w.heap.size w w1:=((bzR _ _).alloc (nzR _) _).trans (Hc.mono (by simp))
 clear Hc;go_upto_region 2 with fail
 have hV:Below w.heap.size w (w1.alloc (.cells #[.int .i64 d,.int .i64 1,.int .i64 5] 62)):=Gd.alloc Gd.size _;have mP:=Below.block ((bzR w1.heap.size w1).alloc (nzR _) (.cells #[.int .i64 d,.int .i64 1,.int .i64 5] 62)) w.heap.size (gzE.1 gh).1;rw[gh] at mP;have gm:=jA w1 (.cells #[.int .i64 d,.int .i64 1,.int .i64 5] 62);generalize w1.alloc (.cells #[.int .i64 d,.int .i64 1,.int .i64 5] 62)=V at *;generalize w1.heap.size=P at *;have cel:∀i,V.cell? ⟨w.heap.size,i,none⟩=(#[.int .i64 a,.int .i64 b,.int .i64 c,.int .i64 d,.int .i64 p,.int .i64 q,.int .i64 s,.int .i64 t]:Array Value)[i]?:=fun i=>by simp[World.cell?,mP]
 have c0:=cel 0;have c1:=cel 1;have c2:=cel 2;have c3:=cel 3;have c4:=cel 4;have c5:=cel 5;have c6:=cel 6;have c7:=cel 7;simp only[List.getElem?_toArray,List.getElem?_cons_zero,List.getElem?_cons_succ] at c0 c1 c2 c3 c4 c5 c6 c7;have cep:∀i,V.cell? ⟨P,i,none⟩=(#[.int .i64 d,.int .i64 1,.int .i64 5]:Array Value)[i]?:=fun i=>by simp[World.cell?,gm]
 have p0:=cep 0;have p1:=cep 1;have p2:=cep 2;simp only[List.getElem?_toArray,List.getElem?_cons_zero,List.getElem?_cons_succ] at p0 p1 p2;clear cel cep gm mP gh Gd;have SO:Hid (∀W,Below V.heap.size V W→(Below V.heap.size V W∧W.cell? ⟨w.heap.size,0,none⟩=some (.int .i64 a)∧W.cell? ⟨w.heap.size,1,none⟩=some (.int .i64 b)∧W.cell? ⟨w.heap.size,2,none⟩=some (.int .i64 c)∧W.cell? ⟨P,0,none⟩=some (.int .i64 d)∧W.cell? ⟨P,1,none⟩=some (.int .i64 1)∧W.cell? ⟨P,2,none⟩=some (.int .i64 5))):=fun W hW=>⟨hW,zAa hW c0,zAa hW c1,zAa hW c2,zAa hW p0,zAa hW p1,zAa hW p2⟩
 go_region_held3 (fun W=>Below V.heap.size V W∧W.cell? ⟨w.heap.size,0,none⟩=some (.int .i64 a)∧W.cell? ⟨w.heap.size,1,none⟩=some (.int .i64 b)∧W.cell? ⟨w.heap.size,2,none⟩=some (.int .i64 c)∧W.cell? ⟨P,0,none⟩=some (.int .i64 d)∧W.cell? ⟨P,1,none⟩=some (.int .i64 1)∧W.cell? ⟨P,2,none⟩=some (.int .i64 5))
  ((refine SO.out _ ?_;(with_reducible repeat' (first|assumption|refine bal ?_ _|refine Below.setCell ?_ ?_ _|refine Below.drew ?_|exact bzR _ _|exact nzR _|exact Below.size (by assumption)|refine jD ?_))))
  (first|(go_at_call 72;refine(id_V V _ _ ?_).mono ?_;(with_reducible repeat' (first|assumption|refine bal ?_ _|refine Below.setCell ?_ ?_ _|refine Below.drew ?_|exact bzR _ _|exact nzR _|exact Below.size (by assumption)|refine jD ?_));rintro x W ⟨rfl,Hm⟩)|(go_at_call 106;refine(who_V V _ _ ?_).mono ?_;(with_reducible repeat' (first|assumption|refine bal ?_ _|refine Below.setCell ?_ ?_ _|refine Below.drew ?_|exact bzR _ _|exact nzR _|exact Below.size (by assumption)|refine jD ?_));rintro x W ⟨rfl,Hm⟩)|(go_at_call 114;refine(side_V V _ _ ?_).mono ?_;(with_reducible repeat' (first|assumption|refine bal ?_ _|refine Below.setCell ?_ ?_ _|refine Below.drew ?_|exact bzR _ _|exact nzR _|exact Below.size (by assumption)|refine jD ?_));rintro x W ⟨rfl,Hm⟩)|(go_at_call 11;refine(scheck4 r _ _ _ _ _ _ _ _ _ _ _ _ _ _ rfl HR.out).mono ?_;rintro x W2 ⟨rfl,GB⟩;have Hm:=Below.trans (by with_reducible assumption) (GB.mono (Below.size (by with_reducible assumption)))))
 have gb:Below w.heap.size w W2:=hV.trans (Hm.mono hV.size);have d0:=zAa Hm c0;have d1:=zAa Hm c1;have d2:=zAa Hm c2;have d3:=zAa Hm c3;have d4:=zAa Hm c4;have d5:=zAa Hm c5;have d6:=zAa Hm c6;have d7:=zAa Hm c7;clear SO GB Hm hV c0 c1 c2 c3 c4 c5 c6 c7 p0 p1 p2;have HG:Hid ((!zCJ ⟨a,b,c,d,p,q,s,t⟩)=r):=(zNt a b c d p q s t).symm.trans HR.out;clear HR;cases r
 rotate_left
 ·have hk:k=1:=by rw[←HK.out];exact zNv (by have:=HG.out;simpa using this)
  simp only[show spn.errV (zAd true)=.iface 90 (.int .i64 1) from rfl]
  go_wp2_with fail;go_ret;exact⟨zBR (j:=1) rfl hk,gb⟩
 simp only[show spn.errV (zAd false)=.nilIface from rfl]
 have HH:Hid (zCJ ⟨a,b,c,d,p,q,s,t⟩=true):=by
  show _=_
  have:=HG.out;simpa using this
 clear HG;cases hp:zAL ⟨a,b,c,d,p,q,s,t⟩
 ·have hk:k=1:=by rw[←HK.out];exact zKv hp
  have HP:Hid (zAL ⟨a,b,c,d,p,q,s,t⟩=false):=hp;clear hp;go_wp2_with fail;refine(zFt _ _ _ _ _ _ _ _ _ HP.out).mono ?_;rintro e w3⟨rfl,Hr⟩;have gQ:=gb.trans (Hr.mono gb.size);clear Hr;go_wp2_with fail;go_ret;exact⟨zBR (j:=1) rfl hk,gQ⟩
 have HP:Hid (zAL ⟨a,b,c,d,p,q,s,t⟩=true):=hp;clear hp;go_wp2_with fail;refine(zFs _ _ _ _ _ _ _ _ _ HP.out).mono ?_;rintro e V2⟨rfl,Hr⟩;have gQ:=gb.trans (Hr.mono gb.size);have e0:=zAa Hr d0;have e1:=zAa Hr d1;have e2:=zAa Hr d2;have e3:=zAa Hr d3;have e4:=zAa Hr d4;have e5:=zAa Hr d5;have e6:=zAa Hr d6;have e7:=zAa Hr d7;clear Hr gb d0 d1 d2 d3 d4 d5 d6 d7;have SO:Hid (∀W,Below V2.heap.size V2 W→(Below V2.heap.size V2 W∧W.cell? ⟨w.heap.size,5,none⟩=some (.int .i64 q)∧W.cell? ⟨w.heap.size,6,none⟩=some (.int .i64 s))):=fun W hW=>⟨hW,zAa hW e5,zAa hW e6⟩
 go_upto_region 8 with fail
 go_region_held3 (fun W=>Below V2.heap.size V2 W∧W.cell? ⟨w.heap.size,5,none⟩=some (.int .i64 q)∧W.cell? ⟨w.heap.size,6,none⟩=some (.int .i64 s))
  ((refine SO.out _ ?_;(with_reducible repeat' (first|assumption|refine bal ?_ _|refine Below.setCell ?_ ?_ _|refine Below.drew ?_|exact bzR _ _|exact nzR _|exact Below.size (by assumption)|refine jD ?_))))
  (first|(go_at_call 75;refine(qty_V V2 _ _ ?_).mono ?_;(with_reducible repeat' (first|assumption|refine bal ?_ _|refine Below.setCell ?_ ?_ _|refine Below.drew ?_|exact bzR _ _|exact nzR _|exact Below.size (by assumption)|refine jD ?_));rintro x W ⟨rfl,Hm⟩)|(go_at_call 21;refine(of_V V2 _ _ _ _ ?_).mono ?_;(with_reducible repeat' (first|assumption|refine bal ?_ _|refine Below.setCell ?_ ?_ _|refine Below.drew ?_|exact bzR _ _|exact nzR _|exact Below.size (by assumption)|refine jD ?_));rintro x W ⟨rfl,Hm⟩)|(go_at_call 11;refine(scheck2 r2 _ _ _ _ _ _ _ _ rfl Uk.out).mono ?_;rintro x W2 ⟨rfl,GB⟩;have Hm:=Below.trans (by with_reducible assumption) (GB.mono (Below.size (by with_reducible assumption)))))
 have G4:Below w.heap.size w W2:=gQ.trans (Hm.mono gQ.size);have f3:=zAa Hm e3;have f6:=zAa Hm e6;have f7:=zAa Hm e7;clear SO GB Hm gQ e0 e1 e2 e3 e4 e5 e6 e7;have HG:Hid ((!qtyB ⟨a,b,c,d,p,q,s,t⟩)=r2):=(zNu a b c d p q s t).symm.trans Uk.out;clear Uk;cases r2
 rotate_left
 ·have hk:k=1:=by rw[←HK.out];exact zQj (by have:=HG.out;simpa using this)
  simp only[show spn.errV (zAd true)=.iface 90 (.int .i64 1) from rfl]
  go_wp2_with fail;go_ret;exact⟨zBR (j:=1) rfl hk,G4⟩
 simp only[show spn.errV (zAd false)=.nilIface from rfl]
 have HF:Hid (k=(if shapeB ⟨a,b,c,d,p,q,s,t⟩ then (if zFr ⟨a,b,c,d,p,q,s,t⟩ then 0 else 1) else 3)):=by
  have hq:qtyB ⟨a,b,c,d,p,q,s,t⟩=true:=by have:=HG.out;simpa using this
  rw[←HK.out];exact zNw HH.out HP.out hq
 clear HG HP HH HK;generalize hm:(d == 1 || d == 5)=m;have HM:Hid ((d == 1 || d == 5)=m):=hm;have dg:Hid (shapeB ⟨a,b,c,d,p,q,s,t⟩=(decide (s=0) || m)):=by
  show _=_
  rw[←hm];unfold shapeB;rw[Bool.or_assoc];rfl
 clear hm;have uY:Hid (zFr ⟨a,b,c,d,p,q,s,t⟩=(decide (t=0) || prB t)):=rfl;rw[dg.out,uY.out] at HF;clear dg uY;by_cases hs:s=0
 ·subst hs;by_cases ht:t=0
  ·subst ht;go_wp2_with fail;go_ret;exact⟨zBR (j:=0) rfl (by rw[HF.out];simp),G4⟩
  ·have ht1:(t != 0)=true:=by simp[ht]
   cases hpt:prB t
   ·have ml:Hid (prB t=false):=hpt;clear hpt;go_wp2_with fail;refine(zDJ _ _ ml.out).mono ?_;rintro e w5⟨rfl,uI⟩;have mv:=G4.trans (uI.mono G4.size);clear uI;go_wp2_with fail;go_ret;exact⟨zBR (j:=1) rfl (by rw[HF.out,ml.out];simp[ht]),mv⟩
   ·have ml:Hid (prB t=true):=hpt;clear hpt;go_wp2_with fail;refine(zCa _ _ ml.out).mono ?_;rintro e w5⟨rfl,uI⟩;have mv:=G4.trans (uI.mono G4.size);clear uI;go_wp2_with fail;go_ret;exact⟨zBR (j:=0) rfl (by rw[HF.out,ml.out];simp),mv⟩
 ·have Hl:(s != 0)=true:=by simp[hs]
  cases m
  ·go_wp2_with fail;refine(zBE false d _ HM.out).mono ?_;rintro e w5⟨rfl,rfl⟩;go_wp2_with fail;go_ret;exact⟨zBR (j:=3) rfl (by rw[HF.out];simp[hs]),G4⟩
  ·by_cases ht:t=0
   ·subst ht;go_wp2_with fail;refine(zBE true d _ HM.out).mono ?_;rintro e w5⟨rfl,rfl⟩;go_wp2_with fail;go_ret;exact⟨zBR (j:=0) rfl (by rw[HF.out];simp),G4⟩
   ·have ht1:(t != 0)=true:=(by simp[ht]);cases hpt:prB t
    ·have ml:Hid (prB t=false):=hpt;clear hpt;go_wp2_with fail;refine(zBE true d _ HM.out).mono ?_;rintro e w5⟨rfl,rfl⟩;go_wp2_with fail;refine(zDJ _ _ ml.out).mono ?_;rintro e w6⟨rfl,Ep⟩;have hW6:=G4.trans (Ep.mono G4.size);clear Ep;go_wp2_with fail;go_ret;exact⟨zBR (j:=1) rfl (by rw[HF.out,ml.out];simp[ht]),hW6⟩
    ·have ml:Hid (prB t=true):=hpt;clear hpt;go_wp2_with fail;refine(zBE true d _ HM.out).mono ?_;rintro e w5⟨rfl,rfl⟩;go_wp2_with fail;refine(zCa _ _ ml.out).mono ?_;rintro e w6⟨rfl,Ep⟩;have hW6:=G4.trans (Ep.mono G4.size);clear Ep;go_wp2_with fail;go_ret;exact⟨zBR (j:=0) rfl (by rw[HF.out,ml.out];simp),hW6⟩
theorem wAf(o:O)(w:World) :
  Calls prog 79 #[oV o] w fun e w'=>e=.returned (errV (chk o))∧Bw w w':=by
 obtain⟨a,b,c,d,p,q,s,t⟩:=o;exact zDn a b c d p q s t w
def mE(o:O)(x:Int):Int:=if chk o=0 then (if prB x then 0 else 1) else chk o
def mB(o:O)(x:Int):Bool:=decide (o.kind=2) || (if o.side=1 then decide (x≤o.price) else decide (o.price≤x))
set_option linter.unusedSimpArgs false in
theorem zKw(a b c d p q s t x:Int)(w:World)(k:Int)(gI:∀W,Calls prog 79 #[.agg #[.int .i64 a,.int .i64 b,.int .i64 c,.int .i64 d,.int .i64 p,.int .i64 q,.int .i64 s,.int .i64 t]] W fun e w'=>e=.returned (.iface 90 (.int .i64 k))∧Bw W w') :
  Calls prog 108 #[.agg #[.int .i64 a,.int .i64 b,.int .i64 c,.int .i64 d,.int .i64 p,.int .i64 q,.int .i64 s,.int .i64 t],.int .i64 x] w fun e w'=>e=.returned (.tuple #[.bool false,.iface 90 (.int .i64 k)])∧Bw w w':=by
 have GE:Hid (∀W,Calls prog 79 #[.agg #[.int .i64 a,.int .i64 b,.int .i64 c,.int .i64 d,.int .i64 p,.int .i64 q,.int .i64 s,.int .i64 t]] W fun e w'=>e=.returned (.iface 90 (.int .i64 k))∧Bw W w'):=gI
 clear gI;go_enter func108,ntmps108;go_wp2_with fail;refine(GE.out _).mono ?_;rintro e w1⟨rfl,hb⟩;have hW:Bw w w1:=((bzR _ _).alloc (nzR _) _).trans (hb.mono (by simp))
 go_wp2_with fail
 go_ret2
 exact⟨rfl,hW⟩
set_option linter.unusedSimpArgs false in
theorem zFu(a b c d p q s t x:Int)(w:World)(gI:∀W,Calls prog 79 #[.agg #[.int .i64 a,.int .i64 b,.int .i64 c,.int .i64 d,.int .i64 p,.int .i64 q,.int .i64 s,.int .i64 t]] W fun e w'=>e=.returned .nilIface∧Bw W w')(hx:prB x=false) :
  Calls prog 108 #[.agg #[.int .i64 a,.int .i64 b,.int .i64 c,.int .i64 d,.int .i64 p,.int .i64 q,.int .i64 s,.int .i64 t],.int .i64 x] w fun e w'=>e=.returned (.tuple #[.bool false,.iface 90 (.int .i64 1)])∧Bw w w':=by
 have HP:Hid (prB x=false):=hx;clear hx;have GE:Hid (∀W,Calls prog 79 #[.agg #[.int .i64 a,.int .i64 b,.int .i64 c,.int .i64 d,.int .i64 p,.int .i64 q,.int .i64 s,.int .i64 t]] W fun e w'=>e=.returned .nilIface∧Bw W w'):=gI
 clear gI;go_enter func108,ntmps108;go_wp2_with fail;refine(GE.out _).mono ?_;rintro e w1⟨rfl,hb⟩;have hW:Bw w w1:=((bzR _ _).alloc (nzR _) _).trans (hb.mono (by simp))
 go_wp2_with fail;refine(zDJ _ _ HP.out).mono ?_;rintro e w2⟨rfl,Ha⟩;have gb:=hW.trans (Ha.mono hW.size);clear Ha;go_wp2_with fail
 go_ret2
 exact⟨rfl,gb⟩
set_option linter.unusedSimpArgs false in
theorem zGp(a b c d p q s t x:Int)(w:World)(gI:∀W,Calls prog 79 #[.agg #[.int .i64 a,.int .i64 b,.int .i64 c,.int .i64 d,.int .i64 p,.int .i64 q,.int .i64 s,.int .i64 t]] W fun e w'=>e=.returned .nilIface∧Bw W w')(hx:prB x=true)(hd:(d == 2)=true) :
  Calls prog 108 #[.agg #[.int .i64 a,.int .i64 b,.int .i64 c,.int .i64 d,.int .i64 p,.int .i64 q,.int .i64 s,.int .i64 t],.int .i64 x] w fun e w'=>e=.returned (.tuple #[.bool true,.nilIface])∧Bw w w':=by
 have HP:Hid (prB x=true):=hx;clear hx;have GE:Hid (∀W,Calls prog 79 #[.agg #[.int .i64 a,.int .i64 b,.int .i64 c,.int .i64 d,.int .i64 p,.int .i64 q,.int .i64 s,.int .i64 t]] W fun e w'=>e=.returned .nilIface∧Bw W w'):=gI
 clear gI;go_enter func108,ntmps108;go_wp2_with fail;refine(GE.out _).mono ?_;rintro e w1⟨rfl,hb⟩;have hW:Bw w w1:=((bzR _ _).alloc (nzR _) _).trans (hb.mono (by simp))
 have d2:w1.cell? ⟨w.heap.size,2,none⟩=some (.int .i64 c):=zAa hb (by simp)
 have d3:w1.cell? ⟨w.heap.size,3,none⟩=some (.int .i64 d):=zAa hb (by simp)
 have d4:w1.cell? ⟨w.heap.size,4,none⟩=some (.int .i64 p):=zAa hb (by simp)
 clear hb;go_wp2_with fail;refine(zCa _ _ HP.out).mono ?_;rintro e w2⟨rfl,Ha⟩;have gb:=hW.trans (Ha.mono hW.size);have c2:=zAa Ha d2;have c3:=zAa Ha d3;have c4:=zAa Ha d4;clear Ha d2 d3 d4;go_wp2_with fail
 go_ret2
 exact⟨rfl,gb⟩
set_option linter.unusedSimpArgs false in
theorem zKx(a b c d p q s t x:Int)(w:World)(gI:∀W,Calls prog 79 #[.agg #[.int .i64 a,.int .i64 b,.int .i64 c,.int .i64 d,.int .i64 p,.int .i64 q,.int .i64 s,.int .i64 t]] W fun e w'=>e=.returned .nilIface∧Bw W w')(hx:prB x=true)(hd:(d == 2)=false)(hc:(c == 1)=true) :
  Calls prog 108 #[.agg #[.int .i64 a,.int .i64 b,.int .i64 c,.int .i64 d,.int .i64 p,.int .i64 q,.int .i64 s,.int .i64 t],.int .i64 x] w fun e w'=>e=.returned (.tuple #[.bool (decide (x≤p)),.nilIface])∧Bw w w':=by
 have HP:Hid (prB x=true):=hx;clear hx;have GE:Hid (∀W,Calls prog 79 #[.agg #[.int .i64 a,.int .i64 b,.int .i64 c,.int .i64 d,.int .i64 p,.int .i64 q,.int .i64 s,.int .i64 t]] W fun e w'=>e=.returned .nilIface∧Bw W w'):=gI
 clear gI;go_enter func108,ntmps108;go_wp2_with fail;refine(GE.out _).mono ?_;rintro e w1⟨rfl,hb⟩;have hW:Bw w w1:=((bzR _ _).alloc (nzR _) _).trans (hb.mono (by simp))
 have d2:w1.cell? ⟨w.heap.size,2,none⟩=some (.int .i64 c):=zAa hb (by simp)
 have d3:w1.cell? ⟨w.heap.size,3,none⟩=some (.int .i64 d):=zAa hb (by simp)
 have d4:w1.cell? ⟨w.heap.size,4,none⟩=some (.int .i64 p):=zAa hb (by simp)
 clear hb;go_wp2_with fail;refine(zCa _ _ HP.out).mono ?_;rintro e w2⟨rfl,Ha⟩;have gb:=hW.trans (Ha.mono hW.size);have c2:=zAa Ha d2;have c3:=zAa Ha d3;have c4:=zAa Ha d4;clear Ha d2 d3 d4;go_wp2_with fail
 go_ret2
 exact⟨rfl,gb⟩
set_option linter.unusedSimpArgs false in
theorem zJg(a b c d p q s t x:Int)(w:World)(gI:∀W,Calls prog 79 #[.agg #[.int .i64 a,.int .i64 b,.int .i64 c,.int .i64 d,.int .i64 p,.int .i64 q,.int .i64 s,.int .i64 t]] W fun e w'=>e=.returned .nilIface∧Bw W w')(hx:prB x=true)(hd:(d == 2)=false)(hc:(c == 1)=false) :
  Calls prog 108 #[.agg #[.int .i64 a,.int .i64 b,.int .i64 c,.int .i64 d,.int .i64 p,.int .i64 q,.int .i64 s,.int .i64 t],.int .i64 x] w fun e w'=>e=.returned (.tuple #[.bool (decide (p≤x)),.nilIface])∧Bw w w':=by
 have HP:Hid (prB x=true):=hx;clear hx;have GE:Hid (∀W,Calls prog 79 #[.agg #[.int .i64 a,.int .i64 b,.int .i64 c,.int .i64 d,.int .i64 p,.int .i64 q,.int .i64 s,.int .i64 t]] W fun e w'=>e=.returned .nilIface∧Bw W w'):=gI
 clear gI;go_enter func108,ntmps108;go_wp2_with fail;refine(GE.out _).mono ?_;rintro e w1⟨rfl,hb⟩;have hW:Bw w w1:=((bzR _ _).alloc (nzR _) _).trans (hb.mono (by simp))
 have d2:w1.cell? ⟨w.heap.size,2,none⟩=some (.int .i64 c):=zAa hb (by simp)
 have d3:w1.cell? ⟨w.heap.size,3,none⟩=some (.int .i64 d):=zAa hb (by simp)
 have d4:w1.cell? ⟨w.heap.size,4,none⟩=some (.int .i64 p):=zAa hb (by simp)
 clear hb;go_wp2_with fail;refine(zCa _ _ HP.out).mono ?_;rintro e w2⟨rfl,Ha⟩;have gb:=hW.trans (Ha.mono hW.size);have c2:=zAa Ha d2;have c3:=zAa Ha d3;have c4:=zAa Ha d4;clear Ha d2 d3 d4;go_wp2_with fail
 go_ret2
 exact⟨rfl,gb⟩
theorem zAy(o:O)(x:Int)(w:World) :
  Calls prog 108 #[oV o,.int .i64 x] w fun e w'=>e=.returned (.tuple #[.bool (if mE o x=0 then mB o x else false),errV (mE o x)])∧Bw w w':=by
 have gI:=fun W=>wAf o W
 obtain⟨a,b,c,d,p,q,s,t⟩:=o;by_cases h0:chk ⟨a,b,c,d,p,q,s,t⟩=0
 ·rw[h0] at gI;cases hx:prB x
  ·have e:mE ⟨a,b,c,d,p,q,s,t⟩ x=1:=by unfold mE;rw[if_pos h0,hx];rfl
   rw[e,if_neg (by omega)]
   exact zFu a b c d p q s t x w gI hx
  ·have e:mE ⟨a,b,c,d,p,q,s,t⟩ x=0:=by unfold mE;rw[if_pos h0,hx];rfl
   rw[e,if_pos rfl];have em:mB ⟨a,b,c,d,p,q,s,t⟩ x=(decide (d=2) || (if c=1 then decide (x≤p) else decide (p≤x))):=rfl
   rw[em];by_cases hd:d=2
   ·rw[show decide (d=2)=true from decide_eq_true hd,Bool.true_or]
    exact zGp a b c d p q s t x w gI hx (beq_iff_eq.2 hd)
   ·rw[show decide (d=2)=false from decide_eq_false hd,Bool.false_or]
    by_cases hc:c=1
    ·rw[if_pos hc];exact zKx a b c d p q s t x w gI hx (beq_eq_false_iff_ne.2 hd) (beq_iff_eq.2 hc)
    ·rw[if_neg hc];exact zJg a b c d p q s t x w gI hx (beq_eq_false_iff_ne.2 hd) (beq_eq_false_iff_ne.2 hc)
 ·have e:mE ⟨a,b,c,d,p,q,s,t⟩ x=chk ⟨a,b,c,d,p,q,s,t⟩:=by unfold mE;rw[if_neg h0]
  rw[e,if_neg h0];rw[wAb h0] at gI ⊢;exact zKw a b c d p q s t x w _ gI
end ord
end Go.Proofs.YtnfilcpnneckkaaGreat
