import Derived.Test.YtifjhlgjgnnnpaaGreatTickP
set_option maxHeartbeats 2000000
set_option maxRecDepth 100000
namespace Go.Proofs.YtifjhlgjgnnnpaaGreat
namespace ord
open Go.RowKit
open spn (zAa bcell zAo zBC zBL zJA zCr zBb zAO scheck2 scheck4 zAk)
structure O where
 id:Int
 who:Int
 side:Int
 kind:Int
 price:Int
 qty:Int
 shw:Int
 stop:Int
def zeroO:O:=⟨0,0,0,0,0,0,0,0⟩
def prB(p:Int):Bool:=decide (1≤p) && decide (p≤10000)
def zCM(o:O):Bool:=decide (1≤o.id) && decide (o.id≤9999) && decide (1≤o.who) && decide (o.who≤9) && decide (1≤o.side) && decide (o.side≤2) && decide (1≤o.kind) && decide (o.kind≤5)
def zAP(o:O):Bool:=if o.kind=2 then decide (o.price=0) else prB o.price
def qtyB(o:O):Bool:=decide (1≤o.qty) && decide (o.qty≤10000) && decide (0≤o.shw) && decide (o.shw≤o.qty)
def shapeB(o:O):Bool:=decide (o.shw=0) || decide (o.kind=1) || decide (o.kind=5)
def zFI(o:O):Bool:=decide (o.stop=0) || prB o.stop
def chk(o:O):Int:=if zCM o && zAP o && qtyB o then (if shapeB o then (if zFI o then 0 else 1) else 3) else 1
theorem zBx{o:O}(h:chk o=0):zCM o=true∧zAP o=true∧qtyB o=true∧shapeB o=true∧zFI o=true:=by
 unfold chk at h
 by_cases h1:(zCM o && zAP o && qtyB o)=true
 ·rw[if_pos h1] at h
  by_cases h2:shapeB o=true
  ·rw[if_pos h2] at h
   by_cases h3:zFI o=true
   ·simp only[Bool.and_eq_true] at h1
    exact⟨h1.1.1,h1.1.2,h1.2,h2,h3⟩
   ·rw[if_neg h3] at h;omega
  ·rw[if_neg h2] at h;omega
 ·rw[if_neg h1] at h;omega
def errV(k:Int):Value:=if k=0 then .nilIface else .iface 91 (.int .i64 k)
theorem errV_zero:errV 0=.nilIface:=rfl
theorem errV_of{k:Int}(h:¬k=0):errV k=.iface 91 (.int .i64 k):=if_neg h
def oV(o:O):Value:=.agg #[.int .i64 o.id,.int .i64 o.who,.int .i64 o.side,.int .i64 o.kind,.int .i64 o.price,.int .i64 o.qty,.int .i64 o.shw,.int .i64 o.stop]
theorem pr_is(n:Int):tickP.zAm n=prB n:=rfl
theorem zBM(n:Int)(w:World)(h:prB n=true) :
  Calls Tryz.prog 17 #[.int .i64 n] w fun e w'=>e=.returned .nilIface∧Below w.heap.size w w':=by
 refine(tickP.zAT w n w (bzR _ _)).mono ?_
 rintro e w'⟨rfl,hb⟩
 rw[pr_is,h]
 exact⟨rfl,hb⟩
theorem zDI(n:Int)(w:World)(h:prB n=false) :
  Calls Tryz.prog 17 #[.int .i64 n] w fun e w'=>e=.returned (.iface 91 (.int .i64 1))∧Below w.heap.size w w':=by
 refine(tickP.zAT w n w (bzR _ _)).mono ?_
 rintro e w'⟨rfl,hb⟩
 rw[pr_is,h]
 exact⟨rfl,hb⟩
theorem zGZ(k:Int)(w:World) :
  Calls Tryz.prog 66 #[.int .i64 k] w fun e w'=>e=.returned (.bool (k == 1 || k == 5))∧w'=w:=by
 cases h:(k == 1) <;>
 ·go_enter Tryz.func66,Tryz.ntmps66
  go_wp2
  go_ret
  exact⟨rfl,rfl⟩
theorem zEU(a b c d p q s t:Int)(w:World)(h:zAP ⟨a,b,c,d,p,q,s,t⟩=true) :
  Calls Tryz.prog 65 #[.agg #[.int .i64 a,.int .i64 b,.int .i64 c,.int .i64 d,.int .i64 p,.int .i64 q,.int .i64 s,.int .i64 t]] w
   fun e w'=>e=.returned .nilIface∧Below w.heap.size w w':=by
 have hpo:(if d=2 then decide (p=0) else prB p)=true:=h
 clear h
 by_cases hd:d=2
 ·rw[if_pos hd] at hpo
  have hp:p=0:=of_decide_eq_true hpo
  subst hd hp
  clear hpo
  go_enter Tryz.func65,Tryz.ntmps65
  go_wp2
  go_ret
  exact⟨rfl,(bzR _ _).alloc (nzR _) _⟩
 ·rw[if_neg hd] at hpo
  have hd2:(d != 2)=true:=by rw[bne_iff_ne];exact hd
  go_enter Tryz.func65,Tryz.ntmps65
  go_wp2_with (go_at_call 17;refine(zBM _ _ hpo).mono ?_;rintro e w' ⟨rfl,hb⟩)
  go_ret
  exact⟨rfl,((bzR _ _).alloc (nzR _) _).trans (hb.mono (by simp))⟩
theorem zEV(a b c d p q s t:Int)(w:World)(h:zAP ⟨a,b,c,d,p,q,s,t⟩=false) :
  Calls Tryz.prog 65 #[.agg #[.int .i64 a,.int .i64 b,.int .i64 c,.int .i64 d,.int .i64 p,.int .i64 q,.int .i64 s,.int .i64 t]] w
   fun e w'=>e=.returned (.iface 91 (.int .i64 1))∧Below w.heap.size w w':=by
 have hpo:(if d=2 then decide (p=0) else prB p)=false:=h
 clear h
 by_cases hd:d=2
 ·rw[if_pos hd] at hpo
  have hp:(p != 0)=true:=by rw[bne_iff_ne];exact of_decide_eq_false hpo
  subst hd
  clear hpo
  go_enter Tryz.func65,Tryz.ntmps65
  go_wp2
  go_ret
  exact⟨rfl,(bzR _ _).alloc (nzR _) _⟩
 ·rw[if_neg hd] at hpo
  have hd2:(d != 2)=true:=by rw[bne_iff_ne];exact hd
  go_enter Tryz.func65,Tryz.ntmps65
  go_wp2_with (go_at_call 17;refine(zDI _ _ hpo).mono ?_;rintro e w' ⟨rfl,hb⟩)
  go_ret
  exact⟨rfl,((bzR _ _).alloc (nzR _) _).trans (hb.mono (by simp))⟩
theorem zMC(a b c d p q s t:Int):[(a,1,9999),(b,1,9),(c,1,2),(d,1,5)].any zAo = !zCM ⟨a,b,c,d,p,q,s,t⟩:=by
 rw[Bool.eq_iff_iff]
 simp[zAo,zCM]
 omega
theorem zMD(a b c d p q s t:Int):[(q,1,10000),(s,0,q)].any zAo = !qtyB ⟨a,b,c,d,p,q,s,t⟩:=by
 rw[Bool.eq_iff_iff]
 simp[zAo,qtyB]
 omega
theorem bal{V W:World}(h:Below V.heap.size V W)(o:Obj):Below V.heap.size V (W.alloc o):=h.alloc h.size o
theorem of_V(V:World)(n lo hi:Int)(w:World)(h:Below V.heap.size V w) :
  Calls Tryz.prog 46 #[.int .i64 n,.int .i64 lo,.int .i64 hi] w fun e w'=>e=.returned (.agg #[.int .i64 n,.int .i64 lo,.int .i64 hi])∧Below V.heap.size V w':=
 (zBL n lo hi w).mono fun _ _ h'=>⟨h'.1,h.trans (h'.2.mono h.size)⟩
theorem id_V(V:World)(n:Int)(w:World)(h:Below V.heap.size V w) :
  Calls Tryz.prog 62 #[.int .i64 n] w fun e w'=>e=.returned (.agg #[.int .i64 n,.int .i64 1,.int .i64 9999])∧Below V.heap.size V w':=
 (zJA n w).mono fun _ _ h'=>⟨h'.1,h.trans (h'.2.mono h.size)⟩
theorem who_V(V:World)(n:Int)(w:World)(h:Below V.heap.size V w) :
  Calls Tryz.prog 56 #[.int .i64 n] w fun e w'=>e=.returned (.agg #[.int .i64 n,.int .i64 1,.int .i64 9])∧Below V.heap.size V w':=
 (zCr n w).mono fun _ _ h'=>⟨h'.1,h.trans (h'.2.mono h.size)⟩
theorem qty_V(V:World)(n:Int)(w:World)(h:Below V.heap.size V w) :
  Calls Tryz.prog 63 #[.int .i64 n] w fun e w'=>e=.returned (.agg #[.int .i64 n,.int .i64 1,.int .i64 10000])∧Below V.heap.size V w':=
 (zBb n w).mono fun _ _ h'=>⟨h'.1,h.trans (h'.2.mono h.size)⟩
theorem side_V(V:World)(n:Int)(w:World)(h:Below V.heap.size V w) :
  Calls Tryz.prog 37 #[.int .i64 n] w fun e w'=>e=.returned (.agg #[.int .i64 n,.int .i64 1,.int .i64 2])∧Below V.heap.size V w':=
 (zAO n w).mono fun _ _ h'=>⟨h'.1,h.trans (h'.2.mono h.size)⟩
theorem zBA(r:Bool)(k:Int)(w:World)(h:(k == 1 || k == 5)=r) :
  Calls Tryz.prog 66 #[.int .i64 k] w fun e w'=>e=.returned (.bool r)∧w'=w:=by
 rw[←h];exact zGZ k w
theorem zBT{j k:Int}{v:Value}(h:errV j=v)(h2:k=j):Ending.returned v=.returned (errV k):=by rw[h2,h]
theorem zME{o:O}(h:zCM o=false):chk o=1:=by unfold chk;simp[h]
theorem zJC{o:O}(h:zAP o=false):chk o=1:=by unfold chk;simp[h]
theorem zPm{o:O}(h:qtyB o=false):chk o=1:=by unfold chk;simp[h]
theorem zMF{o:O}(h1:zCM o=true)(h2:zAP o=true)(h3:qtyB o=true):chk o=(if shapeB o then (if zFI o then 0 else 1) else 3):=by unfold chk;simp[h1,h2,h3]
theorem zDm(a b c d p q s t:Int)(w:World) :
  Calls Tryz.prog 41 #[.agg #[.int .i64 a,.int .i64 b,.int .i64 c,.int .i64 d,.int .i64 p,.int .i64 q,.int .i64 s,.int .i64 t]] w fun e w'=>e=.returned (errV (chk ⟨a,b,c,d,p,q,s,t⟩))∧Below w.heap.size w w':=by
 generalize hk:chk ⟨a,b,c,d,p,q,s,t⟩=k
 have HK:Hid (chk ⟨a,b,c,d,p,q,s,t⟩=k):=hk
 clear hk
 generalize hr:[(a,1,9999),(b,1,9),(c,1,2),(d,1,5)].any zAo=r
 have HR:Hid ([(a,1,9999),(b,1,9),(c,1,2),(d,1,5)].any zAo=r):=hr
 clear hr
 generalize hr:[(q,1,10000),(s,0,q)].any zAo=r2
 have HR2:Hid ([(q,1,10000),(s,0,q)].any zAo=r2):=hr
 clear hr
 go_enter Tryz.func41,Tryz.ntmps41
 go_wp2_with fail
 refine(zBL d 1 5 _).mono ?_
 rintro e w1⟨rfl,hb1⟩
 have hR1:w1.heap[w.heap.size]?=some (.cells #[.int .i64 a,.int .i64 b,.int .i64 c,.int .i64 d,.int .i64 p,.int .i64 q,.int .i64 s,.int .i64 t] 32 (0,0)):=by
  rw[hb1.block w.heap.size (by simp)]
  exact jA w _
 have hB1:Below w.heap.size w w1:=((bzR _ _).alloc (nzR _) _).trans (hb1.mono (by simp))
 clear hb1
 go_upto_region 2 with fail
 have hV:Below w.heap.size w (w1.alloc (.cells #[.int .i64 d,.int .i64 1,.int .i64 5] 74)):=hB1.alloc hB1.size _
 have hRV:=Below.block ((bzR w1.heap.size w1).alloc (nzR _) (.cells #[.int .i64 d,.int .i64 1,.int .i64 5] 74)) w.heap.size (gzE.1 hR1).1
 rw[hR1] at hRV
 have hRP:=jA w1 (.cells #[.int .i64 d,.int .i64 1,.int .i64 5] 74)
 generalize w1.alloc (.cells #[.int .i64 d,.int .i64 1,.int .i64 5] 74)=V at *
 generalize w1.heap.size=P at *
 have cel:∀i,V.cell? ⟨w.heap.size,i,none⟩=(#[.int .i64 a,.int .i64 b,.int .i64 c,.int .i64 d,.int .i64 p,.int .i64 q,.int .i64 s,.int .i64 t]:Array Value)[i]?:=fun i=>by simp[World.cell?,hRV]
 have c0:=cel 0
 have c1:=cel 1
 have c2:=cel 2
 have c3:=cel 3
 have c4:=cel 4
 have c5:=cel 5
 have c6:=cel 6
 have c7:=cel 7
 simp only[List.getElem?_toArray,List.getElem?_cons_zero,List.getElem?_cons_succ] at c0 c1 c2 c3 c4 c5 c6 c7
 have cep:∀i,V.cell? ⟨P,i,none⟩=(#[.int .i64 d,.int .i64 1,.int .i64 5]:Array Value)[i]?:=fun i=>by simp[World.cell?,hRP]
 have p0:=cep 0
 have p1:=cep 1
 have p2:=cep 2
 simp only[List.getElem?_toArray,List.getElem?_cons_zero,List.getElem?_cons_succ] at p0 p1 p2
 clear cel cep hRP hRV hR1 hB1
 have SO:Hid (∀W,Below V.heap.size V W→(Below V.heap.size V W∧W.cell? ⟨w.heap.size,0,none⟩=some (.int .i64 a)∧W.cell? ⟨w.heap.size,1,none⟩=some (.int .i64 b)∧W.cell? ⟨w.heap.size,2,none⟩=some (.int .i64 c)∧W.cell? ⟨P,0,none⟩=some (.int .i64 d)∧W.cell? ⟨P,1,none⟩=some (.int .i64 1)∧W.cell? ⟨P,2,none⟩=some (.int .i64 5))):=fun W hW=>⟨hW,zAa hW c0,zAa hW c1,zAa hW c2,zAa hW p0,zAa hW p1,zAa hW p2⟩
 go_region_held3 (fun W=>Below V.heap.size V W∧W.cell? ⟨w.heap.size,0,none⟩=some (.int .i64 a)∧W.cell? ⟨w.heap.size,1,none⟩=some (.int .i64 b)∧W.cell? ⟨w.heap.size,2,none⟩=some (.int .i64 c)∧W.cell? ⟨P,0,none⟩=some (.int .i64 d)∧W.cell? ⟨P,1,none⟩=some (.int .i64 1)∧W.cell? ⟨P,2,none⟩=some (.int .i64 5))
  ((refine SO.out _ ?_;(with_reducible repeat' (first|assumption|refine bal ?_ _|refine Below.setCell ?_ ?_ _|refine Below.drew ?_|exact bzR _ _|exact nzR _|exact Below.size (by assumption)|refine jD ?_))))
  (first|(go_at_call 62;refine(id_V V _ _ ?_).mono ?_;(with_reducible repeat' (first|assumption|refine bal ?_ _|refine Below.setCell ?_ ?_ _|refine Below.drew ?_|exact bzR _ _|exact nzR _|exact Below.size (by assumption)|refine jD ?_));rintro x W ⟨rfl,hbn⟩)|(go_at_call 56;refine(who_V V _ _ ?_).mono ?_;(with_reducible repeat' (first|assumption|refine bal ?_ _|refine Below.setCell ?_ ?_ _|refine Below.drew ?_|exact bzR _ _|exact nzR _|exact Below.size (by assumption)|refine jD ?_));rintro x W ⟨rfl,hbn⟩)|(go_at_call 37;refine(side_V V _ _ ?_).mono ?_;(with_reducible repeat' (first|assumption|refine bal ?_ _|refine Below.setCell ?_ ?_ _|refine Below.drew ?_|exact bzR _ _|exact nzR _|exact Below.size (by assumption)|refine jD ?_));rintro x W ⟨rfl,hbn⟩)|(go_at_call 23;refine(scheck4 r _ _ _ _ _ _ _ _ _ _ _ _ _ _ rfl HR.out).mono ?_;rintro x W2 ⟨rfl,hbs⟩;have hbn:=Below.trans (by with_reducible assumption) (hbs.mono (Below.size (by with_reducible assumption)))))
 have hW2:Below w.heap.size w W2:=hV.trans (hbn.mono hV.size)
 have d0:=zAa hbn c0
 have d1:=zAa hbn c1
 have d2:=zAa hbn c2
 have d3:=zAa hbn c3
 have d4:=zAa hbn c4
 have d5:=zAa hbn c5
 have d6:=zAa hbn c6
 have d7:=zAa hbn c7
 clear SO hbs hbn hV c0 c1 c2 c3 c4 c5 c6 c7 p0 p1 p2
 have HG:Hid ((!zCM ⟨a,b,c,d,p,q,s,t⟩)=r):=(zMC a b c d p q s t).symm.trans HR.out
 clear HR
 cases r
 rotate_left
 ·have hk:k=1:=by rw[←HK.out];exact zME (by have:=HG.out;simpa using this)
  simp only[show spn.errV (zAk true)=.iface 91 (.int .i64 1) from rfl]
  go_wp2_with fail
  go_ret
  exact⟨zBT (j:=1) rfl hk,hW2⟩
 simp only[show spn.errV (zAk false)=.nilIface from rfl]
 have HH:Hid (zCM ⟨a,b,c,d,p,q,s,t⟩=true):=by
  show _=_
  have:=HG.out
  simpa using this
 clear HG
 cases hp:zAP ⟨a,b,c,d,p,q,s,t⟩
 ·have hk:k=1:=by rw[←HK.out];exact zJC hp
  have HP:Hid (zAP ⟨a,b,c,d,p,q,s,t⟩=false):=hp
  clear hp
  go_wp2_with fail
  refine(zEV _ _ _ _ _ _ _ _ _ HP.out).mono ?_
  rintro e w3⟨rfl,hb3⟩
  have hW3:=hW2.trans (hb3.mono hW2.size)
  clear hb3
  go_wp2_with fail
  go_ret
  exact⟨zBT (j:=1) rfl hk,hW3⟩
 have HP:Hid (zAP ⟨a,b,c,d,p,q,s,t⟩=true):=hp
 clear hp
 go_wp2_with fail
 refine(zEU _ _ _ _ _ _ _ _ _ HP.out).mono ?_
 rintro e V2⟨rfl,hb3⟩
 have hW3:=hW2.trans (hb3.mono hW2.size)
 have e0:=zAa hb3 d0
 have e1:=zAa hb3 d1
 have e2:=zAa hb3 d2
 have e3:=zAa hb3 d3
 have e4:=zAa hb3 d4
 have e5:=zAa hb3 d5
 have e6:=zAa hb3 d6
 have e7:=zAa hb3 d7
 clear hb3 hW2 d0 d1 d2 d3 d4 d5 d6 d7
 have SO:Hid (∀W,Below V2.heap.size V2 W→(Below V2.heap.size V2 W∧W.cell? ⟨w.heap.size,5,none⟩=some (.int .i64 q)∧W.cell? ⟨w.heap.size,6,none⟩=some (.int .i64 s))):=fun W hW=>⟨hW,zAa hW e5,zAa hW e6⟩
 go_upto_region 8 with fail
 go_region_held3 (fun W=>Below V2.heap.size V2 W∧W.cell? ⟨w.heap.size,5,none⟩=some (.int .i64 q)∧W.cell? ⟨w.heap.size,6,none⟩=some (.int .i64 s))
  ((refine SO.out _ ?_;(with_reducible repeat' (first|assumption|refine bal ?_ _|refine Below.setCell ?_ ?_ _|refine Below.drew ?_|exact bzR _ _|exact nzR _|exact Below.size (by assumption)|refine jD ?_))))
  (first|(go_at_call 63;refine(qty_V V2 _ _ ?_).mono ?_;(with_reducible repeat' (first|assumption|refine bal ?_ _|refine Below.setCell ?_ ?_ _|refine Below.drew ?_|exact bzR _ _|exact nzR _|exact Below.size (by assumption)|refine jD ?_));rintro x W ⟨rfl,hbn⟩)|(go_at_call 46;refine(of_V V2 _ _ _ _ ?_).mono ?_;(with_reducible repeat' (first|assumption|refine bal ?_ _|refine Below.setCell ?_ ?_ _|refine Below.drew ?_|exact bzR _ _|exact nzR _|exact Below.size (by assumption)|refine jD ?_));rintro x W ⟨rfl,hbn⟩)|(go_at_call 23;refine(scheck2 r2 _ _ _ _ _ _ _ _ rfl HR2.out).mono ?_;rintro x W2 ⟨rfl,hbs⟩;have hbn:=Below.trans (by with_reducible assumption) (hbs.mono (Below.size (by with_reducible assumption)))))
 have hW4:Below w.heap.size w W2:=hW3.trans (hbn.mono hW3.size)
 have f3:=zAa hbn e3
 have f6:=zAa hbn e6
 have f7:=zAa hbn e7
 clear SO hbs hbn hW3 e0 e1 e2 e3 e4 e5 e6 e7
 have HG:Hid ((!qtyB ⟨a,b,c,d,p,q,s,t⟩)=r2):=(zMD a b c d p q s t).symm.trans HR2.out
 clear HR2
 cases r2
 rotate_left
 ·have hk:k=1:=by rw[←HK.out];exact zPm (by have:=HG.out;simpa using this)
  simp only[show spn.errV (zAk true)=.iface 91 (.int .i64 1) from rfl]
  go_wp2_with fail
  go_ret
  exact⟨zBT (j:=1) rfl hk,hW4⟩
 simp only[show spn.errV (zAk false)=.nilIface from rfl]
 have HF:Hid (k=(if shapeB ⟨a,b,c,d,p,q,s,t⟩ then (if zFI ⟨a,b,c,d,p,q,s,t⟩ then 0 else 1) else 3)):=by
  have hq:qtyB ⟨a,b,c,d,p,q,s,t⟩=true:=by have:=HG.out;simpa using this
  rw[←HK.out]
  exact zMF HH.out HP.out hq
 clear HG HP HH HK
 generalize hm:(d == 1 || d == 5)=m
 have HM:Hid ((d == 1 || d == 5)=m):=hm
 have HSH:Hid (shapeB ⟨a,b,c,d,p,q,s,t⟩=(decide (s=0) || m)):=by
  show _=_
  rw[←hm]
  unfold shapeB
  rw[Bool.or_assoc]
  rfl
 clear hm
 have HST:Hid (zFI ⟨a,b,c,d,p,q,s,t⟩=(decide (t=0) || prB t)):=rfl
 rw[HSH.out,HST.out] at HF
 clear HSH HST
 by_cases hs:s=0
 ·subst hs
  by_cases ht:t=0
  ·subst ht
   go_wp2_with fail
   go_ret
   exact⟨zBT (j:=0) rfl (by rw[HF.out];simp),hW4⟩
  ·have ht1:(t != 0)=true:=by simp[ht]
   cases hpt:prB t
   ·have HPT:Hid (prB t=false):=hpt
    clear hpt
    go_wp2_with fail
    refine(zDI _ _ HPT.out).mono ?_
    rintro e w5⟨rfl,hb5⟩
    have hW5:=hW4.trans (hb5.mono hW4.size)
    clear hb5
    go_wp2_with fail
    go_ret
    exact⟨zBT (j:=1) rfl (by rw[HF.out,HPT.out];simp[ht]),hW5⟩
   ·have HPT:Hid (prB t=true):=hpt
    clear hpt
    go_wp2_with fail
    refine(zBM _ _ HPT.out).mono ?_
    rintro e w5⟨rfl,hb5⟩
    have hW5:=hW4.trans (hb5.mono hW4.size)
    clear hb5
    go_wp2_with fail
    go_ret
    exact⟨zBT (j:=0) rfl (by rw[HF.out,HPT.out];simp),hW5⟩
 ·have hs1:(s != 0)=true:=by simp[hs]
  cases m
  ·go_wp2_with fail
   refine(zBA false d _ HM.out).mono ?_
   rintro e w5⟨rfl,rfl⟩
   go_wp2_with fail
   go_ret
   exact⟨zBT (j:=3) rfl (by rw[HF.out];simp[hs]),hW4⟩
  ·by_cases ht:t=0
   ·subst ht
    go_wp2_with fail
    refine(zBA true d _ HM.out).mono ?_
    rintro e w5⟨rfl,rfl⟩
    go_wp2_with fail
    go_ret
    exact⟨zBT (j:=0) rfl (by rw[HF.out];simp),hW4⟩
   ·have ht1:(t != 0)=true:=by simp[ht]
    cases hpt:prB t
    ·have HPT:Hid (prB t=false):=hpt
     clear hpt
     go_wp2_with fail
     refine(zBA true d _ HM.out).mono ?_
     rintro e w5⟨rfl,rfl⟩
     go_wp2_with fail
     refine(zDI _ _ HPT.out).mono ?_
     rintro e w6⟨rfl,hb6⟩
     have hW6:=hW4.trans (hb6.mono hW4.size)
     clear hb6
     go_wp2_with fail
     go_ret
     exact⟨zBT (j:=1) rfl (by rw[HF.out,HPT.out];simp[ht]),hW6⟩
    ·have HPT:Hid (prB t=true):=hpt
     clear hpt
     go_wp2_with fail
     refine(zBA true d _ HM.out).mono ?_
     rintro e w5⟨rfl,rfl⟩
     go_wp2_with fail
     refine(zBM _ _ HPT.out).mono ?_
     rintro e w6⟨rfl,hb6⟩
     have hW6:=hW4.trans (hb6.mono hW4.size)
     clear hb6
     go_wp2_with fail
     go_ret
     exact⟨zBT (j:=0) rfl (by rw[HF.out,HPT.out];simp),hW6⟩
theorem check_any(o:O)(w:World) :
  Calls Tryz.prog 41 #[oV o] w fun e w'=>e=.returned (errV (chk o))∧Below w.heap.size w w':=by
 obtain⟨a,b,c,d,p,q,s,t⟩:=o
 exact zDm a b c d p q s t w
def mE(o:O)(x:Int):Int:=if chk o=0 then (if prB x then 0 else 1) else chk o
def mB(o:O)(x:Int):Bool:=decide (o.kind=2) || (if o.side=1 then decide (x≤o.price) else decide (o.price≤x))
set_option linter.unusedSimpArgs false in
theorem zJD(a b c d p q s t x:Int)(w:World)(k:Int)(hck:∀W,Calls Tryz.prog 41 #[.agg #[.int .i64 a,.int .i64 b,.int .i64 c,.int .i64 d,.int .i64 p,.int .i64 q,.int .i64 s,.int .i64 t]] W fun e w'=>e=.returned (.iface 91 (.int .i64 k))∧Below W.heap.size W w') :
  Calls Tryz.prog 136 #[.agg #[.int .i64 a,.int .i64 b,.int .i64 c,.int .i64 d,.int .i64 p,.int .i64 q,.int .i64 s,.int .i64 t],.int .i64 x] w fun e w'=>e=.returned (.tuple #[.bool false,.iface 91 (.int .i64 k)])∧Below w.heap.size w w':=by
 have HCK:Hid (∀W,Calls Tryz.prog 41 #[.agg #[.int .i64 a,.int .i64 b,.int .i64 c,.int .i64 d,.int .i64 p,.int .i64 q,.int .i64 s,.int .i64 t]] W fun e w'=>e=.returned (.iface 91 (.int .i64 k))∧Below W.heap.size W w'):=hck
 clear hck
 go_enter Tryz.func136,Tryz.ntmps136
 go_wp2_with fail
 refine(HCK.out _).mono ?_
 rintro e w1⟨rfl,hb⟩
 have hW:Below w.heap.size w w1:=((bzR _ _).alloc (nzR _) _).trans (hb.mono (by simp))
 go_wp2_with fail
 go_ret2
 exact⟨rfl,hW⟩
set_option linter.unusedSimpArgs false in
theorem zEW(a b c d p q s t x:Int)(w:World)(hck:∀W,Calls Tryz.prog 41 #[.agg #[.int .i64 a,.int .i64 b,.int .i64 c,.int .i64 d,.int .i64 p,.int .i64 q,.int .i64 s,.int .i64 t]] W fun e w'=>e=.returned .nilIface∧Below W.heap.size W w')(hx:prB x=false) :
  Calls Tryz.prog 136 #[.agg #[.int .i64 a,.int .i64 b,.int .i64 c,.int .i64 d,.int .i64 p,.int .i64 q,.int .i64 s,.int .i64 t],.int .i64 x] w fun e w'=>e=.returned (.tuple #[.bool false,.iface 91 (.int .i64 1)])∧Below w.heap.size w w':=by
 have HP:Hid (prB x=false):=hx
 clear hx
 have HCK:Hid (∀W,Calls Tryz.prog 41 #[.agg #[.int .i64 a,.int .i64 b,.int .i64 c,.int .i64 d,.int .i64 p,.int .i64 q,.int .i64 s,.int .i64 t]] W fun e w'=>e=.returned .nilIface∧Below W.heap.size W w'):=hck
 clear hck
 go_enter Tryz.func136,Tryz.ntmps136
 go_wp2_with fail
 refine(HCK.out _).mono ?_
 rintro e w1⟨rfl,hb⟩
 have hW:Below w.heap.size w w1:=((bzR _ _).alloc (nzR _) _).trans (hb.mono (by simp))
 go_wp2_with fail
 refine(zDI _ _ HP.out).mono ?_
 rintro e w2⟨rfl,hb2⟩
 have hW2:=hW.trans (hb2.mono hW.size)
 clear hb2
 go_wp2_with fail
 go_ret2
 exact⟨rfl,hW2⟩
set_option linter.unusedSimpArgs false in
theorem zFJ(a b c d p q s t x:Int)(w:World)(hck:∀W,Calls Tryz.prog 41 #[.agg #[.int .i64 a,.int .i64 b,.int .i64 c,.int .i64 d,.int .i64 p,.int .i64 q,.int .i64 s,.int .i64 t]] W fun e w'=>e=.returned .nilIface∧Below W.heap.size W w')(hx:prB x=true)(hd:(d == 2)=true) :
  Calls Tryz.prog 136 #[.agg #[.int .i64 a,.int .i64 b,.int .i64 c,.int .i64 d,.int .i64 p,.int .i64 q,.int .i64 s,.int .i64 t],.int .i64 x] w fun e w'=>e=.returned (.tuple #[.bool true,.nilIface])∧Below w.heap.size w w':=by
 have HP:Hid (prB x=true):=hx
 clear hx
 have HCK:Hid (∀W,Calls Tryz.prog 41 #[.agg #[.int .i64 a,.int .i64 b,.int .i64 c,.int .i64 d,.int .i64 p,.int .i64 q,.int .i64 s,.int .i64 t]] W fun e w'=>e=.returned .nilIface∧Below W.heap.size W w'):=hck
 clear hck
 go_enter Tryz.func136,Tryz.ntmps136
 go_wp2_with fail
 refine(HCK.out _).mono ?_
 rintro e w1⟨rfl,hb⟩
 have hW:Below w.heap.size w w1:=((bzR _ _).alloc (nzR _) _).trans (hb.mono (by simp))
 have d2:w1.cell? ⟨w.heap.size,2,none⟩=some (.int .i64 c):=zAa hb (by simp)
 have d3:w1.cell? ⟨w.heap.size,3,none⟩=some (.int .i64 d):=zAa hb (by simp)
 have d4:w1.cell? ⟨w.heap.size,4,none⟩=some (.int .i64 p):=zAa hb (by simp)
 clear hb
 go_wp2_with fail
 refine(zBM _ _ HP.out).mono ?_
 rintro e w2⟨rfl,hb2⟩
 have hW2:=hW.trans (hb2.mono hW.size)
 have c2:=zAa hb2 d2
 have c3:=zAa hb2 d3
 have c4:=zAa hb2 d4
 clear hb2 d2 d3 d4
 go_wp2_with fail
 go_ret2
 exact⟨rfl,hW2⟩
set_option linter.unusedSimpArgs false in
theorem zJE(a b c d p q s t x:Int)(w:World)(hck:∀W,Calls Tryz.prog 41 #[.agg #[.int .i64 a,.int .i64 b,.int .i64 c,.int .i64 d,.int .i64 p,.int .i64 q,.int .i64 s,.int .i64 t]] W fun e w'=>e=.returned .nilIface∧Below W.heap.size W w')(hx:prB x=true)(hd:(d == 2)=false)(hc:(c == 1)=true) :
  Calls Tryz.prog 136 #[.agg #[.int .i64 a,.int .i64 b,.int .i64 c,.int .i64 d,.int .i64 p,.int .i64 q,.int .i64 s,.int .i64 t],.int .i64 x] w fun e w'=>e=.returned (.tuple #[.bool (decide (x≤p)),.nilIface])∧Below w.heap.size w w':=by
 have HP:Hid (prB x=true):=hx
 clear hx
 have HCK:Hid (∀W,Calls Tryz.prog 41 #[.agg #[.int .i64 a,.int .i64 b,.int .i64 c,.int .i64 d,.int .i64 p,.int .i64 q,.int .i64 s,.int .i64 t]] W fun e w'=>e=.returned .nilIface∧Below W.heap.size W w'):=hck
 clear hck
 go_enter Tryz.func136,Tryz.ntmps136
 go_wp2_with fail
 refine(HCK.out _).mono ?_
 rintro e w1⟨rfl,hb⟩
 have hW:Below w.heap.size w w1:=((bzR _ _).alloc (nzR _) _).trans (hb.mono (by simp))
 have d2:w1.cell? ⟨w.heap.size,2,none⟩=some (.int .i64 c):=zAa hb (by simp)
 have d3:w1.cell? ⟨w.heap.size,3,none⟩=some (.int .i64 d):=zAa hb (by simp)
 have d4:w1.cell? ⟨w.heap.size,4,none⟩=some (.int .i64 p):=zAa hb (by simp)
 clear hb
 go_wp2_with fail
 refine(zBM _ _ HP.out).mono ?_
 rintro e w2⟨rfl,hb2⟩
 have hW2:=hW.trans (hb2.mono hW.size)
 have c2:=zAa hb2 d2
 have c3:=zAa hb2 d3
 have c4:=zAa hb2 d4
 clear hb2 d2 d3 d4
 go_wp2_with fail
 go_ret2
 exact⟨rfl,hW2⟩
set_option linter.unusedSimpArgs false in
theorem zIv(a b c d p q s t x:Int)(w:World)(hck:∀W,Calls Tryz.prog 41 #[.agg #[.int .i64 a,.int .i64 b,.int .i64 c,.int .i64 d,.int .i64 p,.int .i64 q,.int .i64 s,.int .i64 t]] W fun e w'=>e=.returned .nilIface∧Below W.heap.size W w')(hx:prB x=true)(hd:(d == 2)=false)(hc:(c == 1)=false) :
  Calls Tryz.prog 136 #[.agg #[.int .i64 a,.int .i64 b,.int .i64 c,.int .i64 d,.int .i64 p,.int .i64 q,.int .i64 s,.int .i64 t],.int .i64 x] w fun e w'=>e=.returned (.tuple #[.bool (decide (p≤x)),.nilIface])∧Below w.heap.size w w':=by
 have HP:Hid (prB x=true):=hx
 clear hx
 have HCK:Hid (∀W,Calls Tryz.prog 41 #[.agg #[.int .i64 a,.int .i64 b,.int .i64 c,.int .i64 d,.int .i64 p,.int .i64 q,.int .i64 s,.int .i64 t]] W fun e w'=>e=.returned .nilIface∧Below W.heap.size W w'):=hck
 clear hck
 go_enter Tryz.func136,Tryz.ntmps136
 go_wp2_with fail
 refine(HCK.out _).mono ?_
 rintro e w1⟨rfl,hb⟩
 have hW:Below w.heap.size w w1:=((bzR _ _).alloc (nzR _) _).trans (hb.mono (by simp))
 have d2:w1.cell? ⟨w.heap.size,2,none⟩=some (.int .i64 c):=zAa hb (by simp)
 have d3:w1.cell? ⟨w.heap.size,3,none⟩=some (.int .i64 d):=zAa hb (by simp)
 have d4:w1.cell? ⟨w.heap.size,4,none⟩=some (.int .i64 p):=zAa hb (by simp)
 clear hb
 go_wp2_with fail
 refine(zBM _ _ HP.out).mono ?_
 rintro e w2⟨rfl,hb2⟩
 have hW2:=hW.trans (hb2.mono hW.size)
 have c2:=zAa hb2 d2
 have c3:=zAa hb2 d3
 have c4:=zAa hb2 d4
 clear hb2 d2 d3 d4
 go_wp2_with fail
 go_ret2
 exact⟨rfl,hW2⟩
theorem zAx(o:O)(x:Int)(w:World) :
  Calls Tryz.prog 136 #[oV o,.int .i64 x] w fun e w'=>e=.returned (.tuple #[.bool (if mE o x=0 then mB o x else false),errV (mE o x)])∧Below w.heap.size w w':=by
 have hck:=fun W=>check_any o W
 obtain⟨a,b,c,d,p,q,s,t⟩:=o
 by_cases h0:chk ⟨a,b,c,d,p,q,s,t⟩=0
 ·rw[h0] at hck
  cases hx:prB x
  ·have e:mE ⟨a,b,c,d,p,q,s,t⟩ x=1:=by unfold mE;rw[if_pos h0,hx];rfl
   rw[e,if_neg (by omega)]
   exact zEW a b c d p q s t x w hck hx
  ·have e:mE ⟨a,b,c,d,p,q,s,t⟩ x=0:=by unfold mE;rw[if_pos h0,hx];rfl
   rw[e,if_pos rfl]
   have em:mB ⟨a,b,c,d,p,q,s,t⟩ x=(decide (d=2) || (if c=1 then decide (x≤p) else decide (p≤x))):=rfl
   rw[em]
   by_cases hd:d=2
   ·rw[show decide (d=2)=true from decide_eq_true hd,Bool.true_or]
    exact zFJ a b c d p q s t x w hck hx (beq_iff_eq.2 hd)
   ·rw[show decide (d=2)=false from decide_eq_false hd,Bool.false_or]
    by_cases hc:c=1
    ·rw[if_pos hc]
     exact zJE a b c d p q s t x w hck hx (beq_eq_false_iff_ne.2 hd) (beq_iff_eq.2 hc)
    ·rw[if_neg hc]
     exact zIv a b c d p q s t x w hck hx (beq_eq_false_iff_ne.2 hd) (beq_eq_false_iff_ne.2 hc)
 ·have e:mE ⟨a,b,c,d,p,q,s,t⟩ x=chk ⟨a,b,c,d,p,q,s,t⟩:=by unfold mE;rw[if_neg h0]
  rw[e,if_neg h0]
  rw[errV_of h0] at hck ⊢
  exact zJD a b c d p q s t x w _ hck
end ord
end Go.Proofs.YtifjhlgjgnnnpaaGreat
