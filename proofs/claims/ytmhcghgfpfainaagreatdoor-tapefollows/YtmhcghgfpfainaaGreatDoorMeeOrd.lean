import Derived.Test.YtmhcghgfpfainaaGreatDoorTickP
set_option maxHeartbeats 2000000
set_option maxRecDepth 100000
namespace Go.Proofs.YtmhcghgfpfainaaGreatDoor
open Tryz
namespace ord
open Go.RowKit
open spn (zAa bcell zAo zBd zBp zGt zCj zAS zAO scheck2 scheck4 zAg)
structure O where
 id:Int
 who:Int
 side:Int
 kind:Int
 price:Int
 qty:Int
 shw:Int
 stop:Int
def zeroO:O:=⟨0,0,0,0,0,0,0,0⟩
def prB(p:Int):Bool:=decide (1≤p) && decide (p≤10000)
def zCI(o:O):Bool:=decide (1≤o.id) && decide (o.id≤9999) && decide (1≤o.who) && decide (o.who≤9) && decide (1≤o.side) && decide (o.side≤2) && decide (1≤o.kind) && decide (o.kind≤5)
def zAJ(o:O):Bool:=if o.kind=2 then decide (o.price=0) else prB o.price
def qtyB(o:O):Bool:=decide (1≤o.qty) && decide (o.qty≤10000) && decide (0≤o.shw) && decide (o.shw≤o.qty)
def shapeB(o:O):Bool:=decide (o.shw=0) || decide (o.kind=1) || decide (o.kind=5)
def zFv(o:O):Bool:=decide (o.stop=0) || prB o.stop
def chk(o:O):Int:=if zCI o && zAJ o && qtyB o then (if shapeB o then (if zFv o then 0 else 1) else 3) else 1
theorem zBB{o:O}(h:chk o=0):zCI o=true∧zAJ o=true∧qtyB o=true∧shapeB o=true∧zFv o=true:=by
 unfold chk at h;by_cases h1:(zCI o && zAJ o && qtyB o)=true
 ·rw[if_pos h1] at h;by_cases h2:shapeB o=true
  ·rw[if_pos h2] at h;by_cases h3:zFv o=true
   ·simp only[Bool.and_eq_true] at h1;exact⟨h1.1.1,h1.1.2,h1.2,h2,h3⟩
   ·rw[if_neg h3] at h;omega
  ·rw[if_neg h2] at h;omega
 ·rw[if_neg h1] at h;omega
def errV(k:Int):Value:=if k=0 then .nilIface else .iface 80 (.int .i64 k)
theorem wAa:errV 0=.nilIface:=rfl
theorem wAb{k:Int}(h:¬k=0):errV k=.iface 80 (.int .i64 k):=if_neg h
def oV(o:O):Value:=.agg #[.int .i64 o.id,.int .i64 o.who,.int .i64 o.side,.int .i64 o.kind,.int .i64 o.price,.int .i64 o.qty,.int .i64 o.shw,.int .i64 o.stop]
theorem pr_is(n:Int):tickP.zAn n=prB n:=rfl
theorem zBZ(n:Int)(w:World)(h:prB n=true) :
  Calls prog 132 #[.int .i64 n] w fun e w'=>e=.returned .nilIface∧Bw w w':=by
 refine(tickP.zAU w n w (bzR _ _)).mono ?_;rintro e w'⟨rfl,hb⟩;rw[pr_is,h];exact⟨rfl,hb⟩
theorem zDL(n:Int)(w:World)(h:prB n=false) :
  Calls prog 132 #[.int .i64 n] w fun e w'=>e=.returned (.iface 80 (.int .i64 1))∧Bw w w':=by
 refine(tickP.zAU w n w (bzR _ _)).mono ?_;rintro e w'⟨rfl,hb⟩;rw[pr_is,h];exact⟨rfl,hb⟩
theorem zHL(k:Int)(w:World) :
  Calls prog 142 #[.int .i64 k] w fun e w'=>e=.returned (.bool (k == 1 || k == 5))∧w'=w:=by
 cases h:(k == 1) <;>
 ·go_enter func142,ntmps142
  go_wp2
  go_ret;exact⟨rfl,rfl⟩
theorem zFw(a b c d p q s t:Int)(w:World)(h:zAJ ⟨a,b,c,d,p,q,s,t⟩=true) :
  Calls prog 141 #[.agg #[.int .i64 a,.int .i64 b,.int .i64 c,.int .i64 d,.int .i64 p,.int .i64 q,.int .i64 s,.int .i64 t]] w
   fun e w'=>e=.returned .nilIface∧Bw w w':=by
 have Px:(if d=2 then decide (p=0) else prB p)=true:=h
 clear h;by_cases hd:d=2
 ·rw[if_pos hd] at Px;have hp:p=0:=of_decide_eq_true Px;subst hd hp;clear Px;go_enter func141,ntmps141
  go_wp2
  go_ret;exact⟨rfl,(bzR _ _).alloc (nzR _) _⟩
 ·rw[if_neg hd] at Px;have Eq:(d != 2)=true:=by rw[bne_iff_ne];exact hd
  go_enter func141,ntmps141;go_wp2_with (go_at_call 132;refine(zBZ _ _ Px).mono ?_;rintro e w' ⟨rfl,hb⟩)
  go_ret;exact⟨rfl,((bzR _ _).alloc (nzR _) _).trans (hb.mono (by simp))⟩
theorem zFx(a b c d p q s t:Int)(w:World)(h:zAJ ⟨a,b,c,d,p,q,s,t⟩=false) :
  Calls prog 141 #[.agg #[.int .i64 a,.int .i64 b,.int .i64 c,.int .i64 d,.int .i64 p,.int .i64 q,.int .i64 s,.int .i64 t]] w
   fun e w'=>e=.returned (.iface 80 (.int .i64 1))∧Bw w w':=by
 have Px:(if d=2 then decide (p=0) else prB p)=false:=h
 clear h;by_cases hd:d=2
 ·rw[if_pos hd] at Px;have hp:(p != 0)=true:=by rw[bne_iff_ne];exact of_decide_eq_false Px
  subst hd;clear Px;go_enter func141,ntmps141
  go_wp2
  go_ret;exact⟨rfl,(bzR _ _).alloc (nzR _) _⟩
 ·rw[if_neg hd] at Px;have Eq:(d != 2)=true:=by rw[bne_iff_ne];exact hd
  go_enter func141,ntmps141;go_wp2_with (go_at_call 132;refine(zDL _ _ Px).mono ?_;rintro e w' ⟨rfl,hb⟩)
  go_ret;exact⟨rfl,((bzR _ _).alloc (nzR _) _).trans (hb.mono (by simp))⟩
theorem zNN(a b c d p q s t:Int):[(a,1,9999),(b,1,9),(c,1,2),(d,1,5)].any zAo = !zCI ⟨a,b,c,d,p,q,s,t⟩:=by
 rw[Bool.eq_iff_iff];simp[zAo,zCI];omega
theorem zNO(a b c d p q s t:Int):[(q,1,10000),(s,0,q)].any zAo = !qtyB ⟨a,b,c,d,p,q,s,t⟩:=by
 rw[Bool.eq_iff_iff];simp[zAo,qtyB];omega
theorem bal{V W:World}(h:Bw V W)(o:Obj):Bw V (W.alloc o):=h.alloc h.size o
theorem of_V(V:World)(n lo hi:Int)(w:World)(h:Bw V w) :
  Calls prog 40 #[.int .i64 n,.int .i64 lo,.int .i64 hi] w fun e w'=>e=.returned (.agg #[.int .i64 n,.int .i64 lo,.int .i64 hi])∧Bw V w':=
 (zBp n lo hi w).mono fun _ _ h'=>⟨h'.1,h.trans (h'.2.mono h.size)⟩
theorem id_V(V:World)(n:Int)(w:World)(h:Bw V w) :
  Calls prog 52 #[.int .i64 n] w fun e w'=>e=.returned (.agg #[.int .i64 n,.int .i64 1,.int .i64 9999])∧Bw V w':=
 (zGt n w).mono fun _ _ h'=>⟨h'.1,h.trans (h'.2.mono h.size)⟩
theorem who_V(V:World)(n:Int)(w:World)(h:Bw V w) :
  Calls prog 79 #[.int .i64 n] w fun e w'=>e=.returned (.agg #[.int .i64 n,.int .i64 1,.int .i64 9])∧Bw V w':=
 (zCj n w).mono fun _ _ h'=>⟨h'.1,h.trans (h'.2.mono h.size)⟩
theorem qty_V(V:World)(n:Int)(w:World)(h:Bw V w) :
  Calls prog 81 #[.int .i64 n] w fun e w'=>e=.returned (.agg #[.int .i64 n,.int .i64 1,.int .i64 10000])∧Bw V w':=
 (zAS n w).mono fun _ _ h'=>⟨h'.1,h.trans (h'.2.mono h.size)⟩
theorem side_V(V:World)(n:Int)(w:World)(h:Bw V w) :
  Calls prog 89 #[.int .i64 n] w fun e w'=>e=.returned (.agg #[.int .i64 n,.int .i64 1,.int .i64 2])∧Bw V w':=
 (zAO n w).mono fun _ _ h'=>⟨h'.1,h.trans (h'.2.mono h.size)⟩
theorem zBE(r:Bool)(k:Int)(w:World)(h:(k == 1 || k == 5)=r) :
  Calls prog 142 #[.int .i64 k] w fun e w'=>e=.returned (.bool r)∧w'=w:=by
 rw[←h];exact zHL k w
theorem zBQ{j k:Int}{v:Value}(h:errV j=v)(h2:k=j):Ending.returned v=.returned (errV k):=by rw[h2,h]
theorem zNP{o:O}(h:zCI o=false):chk o=1:=by unfold chk;simp[h]
theorem zKO{o:O}(h:zAJ o=false):chk o=1:=by unfold chk;simp[h]
theorem zQC{o:O}(h:qtyB o=false):chk o=1:=by unfold chk;simp[h]
theorem zNQ{o:O}(h1:zCI o=true)(h2:zAJ o=true)(h3:qtyB o=true):chk o=(if shapeB o then (if zFv o then 0 else 1) else 3):=by unfold chk;simp[h1,h2,h3]
theorem zDm(a b c d p q s t:Int)(w:World) :
  Calls prog 105 #[.agg #[.int .i64 a,.int .i64 b,.int .i64 c,.int .i64 d,.int .i64 p,.int .i64 q,.int .i64 s,.int .i64 t]] w fun e w'=>e=.returned (errV (chk ⟨a,b,c,d,p,q,s,t⟩))∧Below w.heap.size w w':=by
 generalize hk:chk ⟨a,b,c,d,p,q,s,t⟩=k;have HK:Hid (chk ⟨a,b,c,d,p,q,s,t⟩=k):=hk;clear hk;generalize hr:[(a,1,9999),(b,1,9),(c,1,2),(d,1,5)].any zAo=r;have HR:Hid ([(a,1,9999),(b,1,9),(c,1,2),(d,1,5)].any zAo=r):=hr;clear hr;generalize hr:[(q,1,10000),(s,0,q)].any zAo=r2;have Uk:Hid ([(q,1,10000),(s,0,q)].any zAo=r2):=hr;clear hr;go_enter func105,ntmps105;go_wp2_with fail;refine(zBp d 1 5 _).mono ?_;rintro e w1⟨rfl,Ha⟩;have gc:w1.heap[w.heap.size]?=some (.cells #[.int .i64 a,.int .i64 b,.int .i64 c,.int .i64 d,.int .i64 p,.int .i64 q,.int .i64 s,.int .i64 t] 40 (0,0)):=by
  rw[Ha.block w.heap.size (by simp)]
  exact jA w _
 have Gt:Below w.heap.size w w1:=((bzR _ _).alloc (nzR _) _).trans (Ha.mono (by simp))
 clear Ha;go_upto_region 2 with fail
 have hV:Below w.heap.size w (w1.alloc (.cells #[.int .i64 d,.int .i64 1,.int .i64 5] 66)):=Gt.alloc Gt.size _;have mV:=Below.block ((bzR w1.heap.size w1).alloc (nzR _) (.cells #[.int .i64 d,.int .i64 1,.int .i64 5] 66)) w.heap.size (gzE.1 gc).1;rw[gc] at mV;have gm:=jA w1 (.cells #[.int .i64 d,.int .i64 1,.int .i64 5] 66);generalize w1.alloc (.cells #[.int .i64 d,.int .i64 1,.int .i64 5] 66)=V at *;generalize w1.heap.size=P at *;have cel:∀i,V.cell? ⟨w.heap.size,i,none⟩=(#[.int .i64 a,.int .i64 b,.int .i64 c,.int .i64 d,.int .i64 p,.int .i64 q,.int .i64 s,.int .i64 t]:Array Value)[i]?:=fun i=>by simp[World.cell?,mV]
 have c0:=cel 0;have c1:=cel 1;have c2:=cel 2;have c3:=cel 3;have c4:=cel 4;have c5:=cel 5;have c6:=cel 6;have c7:=cel 7;simp only[List.getElem?_toArray,List.getElem?_cons_zero,List.getElem?_cons_succ] at c0 c1 c2 c3 c4 c5 c6 c7;have cep:∀i,V.cell? ⟨P,i,none⟩=(#[.int .i64 d,.int .i64 1,.int .i64 5]:Array Value)[i]?:=fun i=>by simp[World.cell?,gm]
 have p0:=cep 0;have p1:=cep 1;have p2:=cep 2;simp only[List.getElem?_toArray,List.getElem?_cons_zero,List.getElem?_cons_succ] at p0 p1 p2;clear cel cep gm mV gc Gt;have SO:Hid (∀W,Below V.heap.size V W→(Below V.heap.size V W∧W.cell? ⟨w.heap.size,0,none⟩=some (.int .i64 a)∧W.cell? ⟨w.heap.size,1,none⟩=some (.int .i64 b)∧W.cell? ⟨w.heap.size,2,none⟩=some (.int .i64 c)∧W.cell? ⟨P,0,none⟩=some (.int .i64 d)∧W.cell? ⟨P,1,none⟩=some (.int .i64 1)∧W.cell? ⟨P,2,none⟩=some (.int .i64 5))):=fun W hW=>⟨hW,zAa hW c0,zAa hW c1,zAa hW c2,zAa hW p0,zAa hW p1,zAa hW p2⟩
 go_region_held3 (fun W=>Below V.heap.size V W∧W.cell? ⟨w.heap.size,0,none⟩=some (.int .i64 a)∧W.cell? ⟨w.heap.size,1,none⟩=some (.int .i64 b)∧W.cell? ⟨w.heap.size,2,none⟩=some (.int .i64 c)∧W.cell? ⟨P,0,none⟩=some (.int .i64 d)∧W.cell? ⟨P,1,none⟩=some (.int .i64 1)∧W.cell? ⟨P,2,none⟩=some (.int .i64 5))
  ((refine SO.out _ ?_;(with_reducible repeat' (first|assumption|refine bal ?_ _|refine Below.setCell ?_ ?_ _|refine Below.drew ?_|exact bzR _ _|exact nzR _|exact Below.size (by assumption)|refine jD ?_))))
  (first|(go_at_call 52;refine(id_V V _ _ ?_).mono ?_;(with_reducible repeat' (first|assumption|refine bal ?_ _|refine Below.setCell ?_ ?_ _|refine Below.drew ?_|exact bzR _ _|exact nzR _|exact Below.size (by assumption)|refine jD ?_));rintro x W ⟨rfl,Hp⟩)|(go_at_call 79;refine(who_V V _ _ ?_).mono ?_;(with_reducible repeat' (first|assumption|refine bal ?_ _|refine Below.setCell ?_ ?_ _|refine Below.drew ?_|exact bzR _ _|exact nzR _|exact Below.size (by assumption)|refine jD ?_));rintro x W ⟨rfl,Hp⟩)|(go_at_call 89;refine(side_V V _ _ ?_).mono ?_;(with_reducible repeat' (first|assumption|refine bal ?_ _|refine Below.setCell ?_ ?_ _|refine Below.drew ?_|exact bzR _ _|exact nzR _|exact Below.size (by assumption)|refine jD ?_));rintro x W ⟨rfl,Hp⟩)|(go_at_call 17;refine(scheck4 r _ _ _ _ _ _ _ _ _ _ _ _ _ _ rfl HR.out).mono ?_;rintro x W2 ⟨rfl,GL⟩;have Hp:=Below.trans (by with_reducible assumption) (GL.mono (Below.size (by with_reducible assumption)))))
 have H9:Below w.heap.size w W2:=hV.trans (Hp.mono hV.size);have d0:=zAa Hp c0;have d1:=zAa Hp c1;have d2:=zAa Hp c2;have d3:=zAa Hp c3;have d4:=zAa Hp c4;have d5:=zAa Hp c5;have d6:=zAa Hp c6;have d7:=zAa Hp c7;clear SO GL Hp hV c0 c1 c2 c3 c4 c5 c6 c7 p0 p1 p2;have HG:Hid ((!zCI ⟨a,b,c,d,p,q,s,t⟩)=r):=(zNN a b c d p q s t).symm.trans HR.out;clear HR;cases r
 rotate_left
 ·have hk:k=1:=by rw[←HK.out];exact zNP (by have:=HG.out;simpa using this)
  simp only[show spn.errV (zAg true)=.iface 80 (.int .i64 1) from rfl]
  go_wp2_with fail;go_ret;exact⟨zBQ (j:=1) rfl hk,H9⟩
 simp only[show spn.errV (zAg false)=.nilIface from rfl]
 have HH:Hid (zCI ⟨a,b,c,d,p,q,s,t⟩=true):=by
  show _=_
  have:=HG.out;simpa using this
 clear HG;cases hp:zAJ ⟨a,b,c,d,p,q,s,t⟩
 ·have hk:k=1:=by rw[←HK.out];exact zKO hp
  have HP:Hid (zAJ ⟨a,b,c,d,p,q,s,t⟩=false):=hp;clear hp;go_wp2_with fail;refine(zFx _ _ _ _ _ _ _ _ _ HP.out).mono ?_;rintro e w3⟨rfl,Hr⟩;have gS:=H9.trans (Hr.mono H9.size);clear Hr;go_wp2_with fail;go_ret;exact⟨zBQ (j:=1) rfl hk,gS⟩
 have HP:Hid (zAJ ⟨a,b,c,d,p,q,s,t⟩=true):=hp;clear hp;go_wp2_with fail;refine(zFw _ _ _ _ _ _ _ _ _ HP.out).mono ?_;rintro e V2⟨rfl,Hr⟩;have gS:=H9.trans (Hr.mono H9.size);have e0:=zAa Hr d0;have e1:=zAa Hr d1;have e2:=zAa Hr d2;have e3:=zAa Hr d3;have e4:=zAa Hr d4;have e5:=zAa Hr d5;have e6:=zAa Hr d6;have e7:=zAa Hr d7;clear Hr H9 d0 d1 d2 d3 d4 d5 d6 d7;have SO:Hid (∀W,Below V2.heap.size V2 W→(Below V2.heap.size V2 W∧W.cell? ⟨w.heap.size,5,none⟩=some (.int .i64 q)∧W.cell? ⟨w.heap.size,6,none⟩=some (.int .i64 s))):=fun W hW=>⟨hW,zAa hW e5,zAa hW e6⟩
 go_upto_region 8 with fail
 go_region_held3 (fun W=>Below V2.heap.size V2 W∧W.cell? ⟨w.heap.size,5,none⟩=some (.int .i64 q)∧W.cell? ⟨w.heap.size,6,none⟩=some (.int .i64 s))
  ((refine SO.out _ ?_;(with_reducible repeat' (first|assumption|refine bal ?_ _|refine Below.setCell ?_ ?_ _|refine Below.drew ?_|exact bzR _ _|exact nzR _|exact Below.size (by assumption)|refine jD ?_))))
  (first|(go_at_call 81;refine(qty_V V2 _ _ ?_).mono ?_;(with_reducible repeat' (first|assumption|refine bal ?_ _|refine Below.setCell ?_ ?_ _|refine Below.drew ?_|exact bzR _ _|exact nzR _|exact Below.size (by assumption)|refine jD ?_));rintro x W ⟨rfl,Hp⟩)|(go_at_call 40;refine(of_V V2 _ _ _ _ ?_).mono ?_;(with_reducible repeat' (first|assumption|refine bal ?_ _|refine Below.setCell ?_ ?_ _|refine Below.drew ?_|exact bzR _ _|exact nzR _|exact Below.size (by assumption)|refine jD ?_));rintro x W ⟨rfl,Hp⟩)|(go_at_call 17;refine(scheck2 r2 _ _ _ _ _ _ _ _ rfl Uk.out).mono ?_;rintro x W2 ⟨rfl,GL⟩;have Hp:=Below.trans (by with_reducible assumption) (GL.mono (Below.size (by with_reducible assumption)))))
 have GZ:Below w.heap.size w W2:=gS.trans (Hp.mono gS.size);have f3:=zAa Hp e3;have f6:=zAa Hp e6;have f7:=zAa Hp e7;clear SO GL Hp gS e0 e1 e2 e3 e4 e5 e6 e7;have HG:Hid ((!qtyB ⟨a,b,c,d,p,q,s,t⟩)=r2):=(zNO a b c d p q s t).symm.trans Uk.out;clear Uk;cases r2
 rotate_left
 ·have hk:k=1:=by rw[←HK.out];exact zQC (by have:=HG.out;simpa using this)
  simp only[show spn.errV (zAg true)=.iface 80 (.int .i64 1) from rfl]
  go_wp2_with fail;go_ret;exact⟨zBQ (j:=1) rfl hk,GZ⟩
 simp only[show spn.errV (zAg false)=.nilIface from rfl]
 have HF:Hid (k=(if shapeB ⟨a,b,c,d,p,q,s,t⟩ then (if zFv ⟨a,b,c,d,p,q,s,t⟩ then 0 else 1) else 3)):=by
  have hq:qtyB ⟨a,b,c,d,p,q,s,t⟩=true:=by have:=HG.out;simpa using this
  rw[←HK.out];exact zNQ HH.out HP.out hq
 clear HG HP HH HK;generalize hm:(d == 1 || d == 5)=m;have HM:Hid ((d == 1 || d == 5)=m):=hm;have dk:Hid (shapeB ⟨a,b,c,d,p,q,s,t⟩=(decide (s=0) || m)):=by
  show _=_
  rw[←hm];unfold shapeB;rw[Bool.or_assoc];rfl
 clear hm;have uY:Hid (zFv ⟨a,b,c,d,p,q,s,t⟩=(decide (t=0) || prB t)):=rfl;rw[dk.out,uY.out] at HF;clear dk uY;by_cases hs:s=0
 ·subst hs;by_cases ht:t=0
  ·subst ht;go_wp2_with fail;go_ret;exact⟨zBQ (j:=0) rfl (by rw[HF.out];simp),GZ⟩
  ·have ht1:(t != 0)=true:=by simp[ht]
   cases hpt:prB t
   ·have Uw:Hid (prB t=false):=hpt;clear hpt;go_wp2_with fail;refine(zDL _ _ Uw.out).mono ?_;rintro e w5⟨rfl,ug⟩;have mD:=GZ.trans (ug.mono GZ.size);clear ug;go_wp2_with fail;go_ret;exact⟨zBQ (j:=1) rfl (by rw[HF.out,Uw.out];simp[ht]),mD⟩
   ·have Uw:Hid (prB t=true):=hpt;clear hpt;go_wp2_with fail;refine(zBZ _ _ Uw.out).mono ?_;rintro e w5⟨rfl,ug⟩;have mD:=GZ.trans (ug.mono GZ.size);clear ug;go_wp2_with fail;go_ret;exact⟨zBQ (j:=0) rfl (by rw[HF.out,Uw.out];simp),mD⟩
 ·have Hm:(s != 0)=true:=by simp[hs]
  cases m
  ·go_wp2_with fail;refine(zBE false d _ HM.out).mono ?_;rintro e w5⟨rfl,rfl⟩;go_wp2_with fail;go_ret;exact⟨zBQ (j:=3) rfl (by rw[HF.out];simp[hs]),GZ⟩
  ·by_cases ht:t=0
   ·subst ht;go_wp2_with fail;refine(zBE true d _ HM.out).mono ?_;rintro e w5⟨rfl,rfl⟩;go_wp2_with fail;go_ret;exact⟨zBQ (j:=0) rfl (by rw[HF.out];simp),GZ⟩
   ·have ht1:(t != 0)=true:=(by simp[ht]);cases hpt:prB t
    ·have Uw:Hid (prB t=false):=hpt;clear hpt;go_wp2_with fail;refine(zBE true d _ HM.out).mono ?_;rintro e w5⟨rfl,rfl⟩;go_wp2_with fail;refine(zDL _ _ Uw.out).mono ?_;rintro e w6⟨rfl,bJ⟩;have hW6:=GZ.trans (bJ.mono GZ.size);clear bJ;go_wp2_with fail;go_ret;exact⟨zBQ (j:=1) rfl (by rw[HF.out,Uw.out];simp[ht]),hW6⟩
    ·have Uw:Hid (prB t=true):=hpt;clear hpt;go_wp2_with fail;refine(zBE true d _ HM.out).mono ?_;rintro e w5⟨rfl,rfl⟩;go_wp2_with fail;refine(zBZ _ _ Uw.out).mono ?_;rintro e w6⟨rfl,bJ⟩;have hW6:=GZ.trans (bJ.mono GZ.size);clear bJ;go_wp2_with fail;go_ret;exact⟨zBQ (j:=0) rfl (by rw[HF.out,Uw.out];simp),hW6⟩
theorem wAf(o:O)(w:World) :
  Calls prog 105 #[oV o] w fun e w'=>e=.returned (errV (chk o))∧Bw w w':=by
 obtain⟨a,b,c,d,p,q,s,t⟩:=o;exact zDm a b c d p q s t w
def mE(o:O)(x:Int):Int:=if chk o=0 then (if prB x then 0 else 1) else chk o
def mB(o:O)(x:Int):Bool:=decide (o.kind=2) || (if o.side=1 then decide (x≤o.price) else decide (o.price≤x))
set_option linter.unusedSimpArgs false in
theorem zKP(a b c d p q s t x:Int)(w:World)(k:Int)(gF:∀W,Calls prog 105 #[.agg #[.int .i64 a,.int .i64 b,.int .i64 c,.int .i64 d,.int .i64 p,.int .i64 q,.int .i64 s,.int .i64 t]] W fun e w'=>e=.returned (.iface 80 (.int .i64 k))∧Bw W w') :
  Calls prog 169 #[.agg #[.int .i64 a,.int .i64 b,.int .i64 c,.int .i64 d,.int .i64 p,.int .i64 q,.int .i64 s,.int .i64 t],.int .i64 x] w fun e w'=>e=.returned (.tuple #[.bool false,.iface 80 (.int .i64 k)])∧Bw w w':=by
 have gG:Hid (∀W,Calls prog 105 #[.agg #[.int .i64 a,.int .i64 b,.int .i64 c,.int .i64 d,.int .i64 p,.int .i64 q,.int .i64 s,.int .i64 t]] W fun e w'=>e=.returned (.iface 80 (.int .i64 k))∧Bw W w'):=gF
 clear gF;go_enter func169,ntmps169;go_wp2_with fail;refine(gG.out _).mono ?_;rintro e w1⟨rfl,hb⟩;have hW:Bw w w1:=((bzR _ _).alloc (nzR _) _).trans (hb.mono (by simp))
 go_wp2_with fail
 go_ret2
 exact⟨rfl,hW⟩
set_option linter.unusedSimpArgs false in
theorem zFy(a b c d p q s t x:Int)(w:World)(gF:∀W,Calls prog 105 #[.agg #[.int .i64 a,.int .i64 b,.int .i64 c,.int .i64 d,.int .i64 p,.int .i64 q,.int .i64 s,.int .i64 t]] W fun e w'=>e=.returned .nilIface∧Bw W w')(hx:prB x=false) :
  Calls prog 169 #[.agg #[.int .i64 a,.int .i64 b,.int .i64 c,.int .i64 d,.int .i64 p,.int .i64 q,.int .i64 s,.int .i64 t],.int .i64 x] w fun e w'=>e=.returned (.tuple #[.bool false,.iface 80 (.int .i64 1)])∧Bw w w':=by
 have HP:Hid (prB x=false):=hx;clear hx;have gG:Hid (∀W,Calls prog 105 #[.agg #[.int .i64 a,.int .i64 b,.int .i64 c,.int .i64 d,.int .i64 p,.int .i64 q,.int .i64 s,.int .i64 t]] W fun e w'=>e=.returned .nilIface∧Bw W w'):=gF
 clear gF;go_enter func169,ntmps169;go_wp2_with fail;refine(gG.out _).mono ?_;rintro e w1⟨rfl,hb⟩;have hW:Bw w w1:=((bzR _ _).alloc (nzR _) _).trans (hb.mono (by simp))
 go_wp2_with fail;refine(zDL _ _ HP.out).mono ?_;rintro e w2⟨rfl,Hc⟩;have H9:=hW.trans (Hc.mono hW.size);clear Hc;go_wp2_with fail
 go_ret2
 exact⟨rfl,H9⟩
set_option linter.unusedSimpArgs false in
theorem zGv(a b c d p q s t x:Int)(w:World)(gF:∀W,Calls prog 105 #[.agg #[.int .i64 a,.int .i64 b,.int .i64 c,.int .i64 d,.int .i64 p,.int .i64 q,.int .i64 s,.int .i64 t]] W fun e w'=>e=.returned .nilIface∧Bw W w')(hx:prB x=true)(hd:(d == 2)=true) :
  Calls prog 169 #[.agg #[.int .i64 a,.int .i64 b,.int .i64 c,.int .i64 d,.int .i64 p,.int .i64 q,.int .i64 s,.int .i64 t],.int .i64 x] w fun e w'=>e=.returned (.tuple #[.bool true,.nilIface])∧Bw w w':=by
 have HP:Hid (prB x=true):=hx;clear hx;have gG:Hid (∀W,Calls prog 105 #[.agg #[.int .i64 a,.int .i64 b,.int .i64 c,.int .i64 d,.int .i64 p,.int .i64 q,.int .i64 s,.int .i64 t]] W fun e w'=>e=.returned .nilIface∧Bw W w'):=gF
 clear gF;go_enter func169,ntmps169;go_wp2_with fail;refine(gG.out _).mono ?_;rintro e w1⟨rfl,hb⟩;have hW:Bw w w1:=((bzR _ _).alloc (nzR _) _).trans (hb.mono (by simp))
 have d2:w1.cell? ⟨w.heap.size,2,none⟩=some (.int .i64 c):=zAa hb (by simp)
 have d3:w1.cell? ⟨w.heap.size,3,none⟩=some (.int .i64 d):=zAa hb (by simp)
 have d4:w1.cell? ⟨w.heap.size,4,none⟩=some (.int .i64 p):=zAa hb (by simp)
 clear hb;go_wp2_with fail;refine(zBZ _ _ HP.out).mono ?_;rintro e w2⟨rfl,Hc⟩;have H9:=hW.trans (Hc.mono hW.size);have c2:=zAa Hc d2;have c3:=zAa Hc d3;have c4:=zAa Hc d4;clear Hc d2 d3 d4;go_wp2_with fail
 go_ret2
 exact⟨rfl,H9⟩
set_option linter.unusedSimpArgs false in
theorem zKQ(a b c d p q s t x:Int)(w:World)(gF:∀W,Calls prog 105 #[.agg #[.int .i64 a,.int .i64 b,.int .i64 c,.int .i64 d,.int .i64 p,.int .i64 q,.int .i64 s,.int .i64 t]] W fun e w'=>e=.returned .nilIface∧Bw W w')(hx:prB x=true)(hd:(d == 2)=false)(hc:(c == 1)=true) :
  Calls prog 169 #[.agg #[.int .i64 a,.int .i64 b,.int .i64 c,.int .i64 d,.int .i64 p,.int .i64 q,.int .i64 s,.int .i64 t],.int .i64 x] w fun e w'=>e=.returned (.tuple #[.bool (decide (x≤p)),.nilIface])∧Bw w w':=by
 have HP:Hid (prB x=true):=hx;clear hx;have gG:Hid (∀W,Calls prog 105 #[.agg #[.int .i64 a,.int .i64 b,.int .i64 c,.int .i64 d,.int .i64 p,.int .i64 q,.int .i64 s,.int .i64 t]] W fun e w'=>e=.returned .nilIface∧Bw W w'):=gF
 clear gF;go_enter func169,ntmps169;go_wp2_with fail;refine(gG.out _).mono ?_;rintro e w1⟨rfl,hb⟩;have hW:Bw w w1:=((bzR _ _).alloc (nzR _) _).trans (hb.mono (by simp))
 have d2:w1.cell? ⟨w.heap.size,2,none⟩=some (.int .i64 c):=zAa hb (by simp)
 have d3:w1.cell? ⟨w.heap.size,3,none⟩=some (.int .i64 d):=zAa hb (by simp)
 have d4:w1.cell? ⟨w.heap.size,4,none⟩=some (.int .i64 p):=zAa hb (by simp)
 clear hb;go_wp2_with fail;refine(zBZ _ _ HP.out).mono ?_;rintro e w2⟨rfl,Hc⟩;have H9:=hW.trans (Hc.mono hW.size);have c2:=zAa Hc d2;have c3:=zAa Hc d3;have c4:=zAa Hc d4;clear Hc d2 d3 d4;go_wp2_with fail
 go_ret2
 exact⟨rfl,H9⟩
set_option linter.unusedSimpArgs false in
theorem zJy(a b c d p q s t x:Int)(w:World)(gF:∀W,Calls prog 105 #[.agg #[.int .i64 a,.int .i64 b,.int .i64 c,.int .i64 d,.int .i64 p,.int .i64 q,.int .i64 s,.int .i64 t]] W fun e w'=>e=.returned .nilIface∧Bw W w')(hx:prB x=true)(hd:(d == 2)=false)(hc:(c == 1)=false) :
  Calls prog 169 #[.agg #[.int .i64 a,.int .i64 b,.int .i64 c,.int .i64 d,.int .i64 p,.int .i64 q,.int .i64 s,.int .i64 t],.int .i64 x] w fun e w'=>e=.returned (.tuple #[.bool (decide (p≤x)),.nilIface])∧Bw w w':=by
 have HP:Hid (prB x=true):=hx;clear hx;have gG:Hid (∀W,Calls prog 105 #[.agg #[.int .i64 a,.int .i64 b,.int .i64 c,.int .i64 d,.int .i64 p,.int .i64 q,.int .i64 s,.int .i64 t]] W fun e w'=>e=.returned .nilIface∧Bw W w'):=gF
 clear gF;go_enter func169,ntmps169;go_wp2_with fail;refine(gG.out _).mono ?_;rintro e w1⟨rfl,hb⟩;have hW:Bw w w1:=((bzR _ _).alloc (nzR _) _).trans (hb.mono (by simp))
 have d2:w1.cell? ⟨w.heap.size,2,none⟩=some (.int .i64 c):=zAa hb (by simp)
 have d3:w1.cell? ⟨w.heap.size,3,none⟩=some (.int .i64 d):=zAa hb (by simp)
 have d4:w1.cell? ⟨w.heap.size,4,none⟩=some (.int .i64 p):=zAa hb (by simp)
 clear hb;go_wp2_with fail;refine(zBZ _ _ HP.out).mono ?_;rintro e w2⟨rfl,Hc⟩;have H9:=hW.trans (Hc.mono hW.size);have c2:=zAa Hc d2;have c3:=zAa Hc d3;have c4:=zAa Hc d4;clear Hc d2 d3 d4;go_wp2_with fail
 go_ret2
 exact⟨rfl,H9⟩
theorem zAz(o:O)(x:Int)(w:World) :
  Calls prog 169 #[oV o,.int .i64 x] w fun e w'=>e=.returned (.tuple #[.bool (if mE o x=0 then mB o x else false),errV (mE o x)])∧Bw w w':=by
 have gF:=fun W=>wAf o W
 obtain⟨a,b,c,d,p,q,s,t⟩:=o;by_cases h0:chk ⟨a,b,c,d,p,q,s,t⟩=0
 ·rw[h0] at gF;cases hx:prB x
  ·have e:mE ⟨a,b,c,d,p,q,s,t⟩ x=1:=by unfold mE;rw[if_pos h0,hx];rfl
   rw[e,if_neg (by omega)]
   exact zFy a b c d p q s t x w gF hx
  ·have e:mE ⟨a,b,c,d,p,q,s,t⟩ x=0:=by unfold mE;rw[if_pos h0,hx];rfl
   rw[e,if_pos rfl];have em:mB ⟨a,b,c,d,p,q,s,t⟩ x=(decide (d=2) || (if c=1 then decide (x≤p) else decide (p≤x))):=rfl
   rw[em];by_cases hd:d=2
   ·rw[show decide (d=2)=true from decide_eq_true hd,Bool.true_or]
    exact zGv a b c d p q s t x w gF hx (beq_iff_eq.2 hd)
   ·rw[show decide (d=2)=false from decide_eq_false hd,Bool.false_or]
    by_cases hc:c=1
    ·rw[if_pos hc];exact zKQ a b c d p q s t x w gF hx (beq_eq_false_iff_ne.2 hd) (beq_iff_eq.2 hc)
    ·rw[if_neg hc];exact zJy a b c d p q s t x w gF hx (beq_eq_false_iff_ne.2 hd) (beq_eq_false_iff_ne.2 hc)
 ·have e:mE ⟨a,b,c,d,p,q,s,t⟩ x=chk ⟨a,b,c,d,p,q,s,t⟩:=by unfold mE;rw[if_neg h0]
  rw[e,if_neg h0];rw[wAb h0] at gF ⊢;exact zKP a b c d p q s t x w _ gF
end ord
end Go.Proofs.YtmhcghgfpfainaaGreatDoor
