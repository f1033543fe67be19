import Derived.Test.YtmhcghgfpfainaaGreatDoorTapSl
set_option maxHeartbeats 4000000
set_option maxRecDepth 100000
namespace Go.Proofs.YtmhcghgfpfainaaGreatDoor
open Tryz
namespace tap
open Go.RowKit mee flr
open spn (zAa bcell zAo zBd zBp zGt zCj zAS zAy zBG scheck4 zAg errV wAa wAb)
theorem bal{V W:World}(h:Bw V W)(o:Obj):Bw V (W.alloc o):=h.alloc h.size o
theorem of_V(V:World)(n lo hi:Int)(w:World)(h:Bw V w) :
  Calls prog 40 #[.int .i64 n,.int .i64 lo,.int .i64 hi] w fun e w'=>e=.returned (.agg #[.int .i64 n,.int .i64 lo,.int .i64 hi])∧Bw V w':=
 (zBp n lo hi w).mono fun _ _ h'=>⟨h'.1,h.trans (h'.2.mono h.size)⟩
theorem id_V(V:World)(n:Int)(w:World)(h:Bw V w) :
  Calls prog 52 #[.int .i64 n] w fun e w'=>e=.returned (.agg #[.int .i64 n,.int .i64 1,.int .i64 9999])∧Bw V w':=
 (zGt n w).mono fun _ _ h'=>⟨h'.1,h.trans (h'.2.mono h.size)⟩
theorem who_V(V:World)(n:Int)(w:World)(h:Bw V w) :
  Calls prog 79 #[.int .i64 n] w fun e w'=>e=.returned (.agg #[.int .i64 n,.int .i64 1,.int .i64 9])∧Bw V w':=
 (zCj n w).mono fun _ _ h'=>⟨h'.1,h.trans (h'.2.mono h.size)⟩
theorem qty_V(V:World)(n:Int)(w:World)(h:Bw V w) :
  Calls prog 81 #[.int .i64 n] w fun e w'=>e=.returned (.agg #[.int .i64 n,.int .i64 1,.int .i64 10000])∧Bw V w':=
 (zAS n w).mono fun _ _ h'=>⟨h'.1,h.trans (h'.2.mono h.size)⟩
theorem wAZ(V:World)(n:Int)(w:World)(h:Bw V w) :
  Calls prog 80 #[.int .i64 n] w fun e w'=>e=.returned (.agg #[.int .i64 n,.int .i64 1,.int .i64 10000])∧Bw V w':=
 (zAy n w).mono fun _ _ h'=>⟨h'.1,h.trans (h'.2.mono h.size)⟩
theorem scheck6(r:Bool)(a1 a2 a3 b1 b2 b3 c1 c2 c3 d1 d2 d3 e1 e2 e3 f1 f2 f3:Int)(n:Nat)(V:World)(hn:V.heap.size=n)
  (hr:[(a1,a2,a3),(b1,b2,b3),(c1,c2,c3),(d1,d2,d3),(e1,e2,e3),(f1,f2,f3)].any zAo=r) :
  Calls prog 17 #[.slice (some ⟨n,0,none⟩) 6 6] (V.alloc (.cells #[.int .i64 a1,.int .i64 a2,.int .i64 a3,.int .i64 b1,.int .i64 b2,.int .i64 b3,.int .i64 c1,.int .i64 c2,.int .i64 c3,.int .i64 d1,.int .i64 d2,.int .i64 d3,.int .i64 e1,.int .i64 e2,.int .i64 e3,.int .i64 f1,.int .i64 f2,.int .i64 f3] 66))
   fun e w'=>e=.returned (errV (zAg r))∧Below V.heap.size V w':=by
 refine(zBG r n 6 [(a1,a2,a3),(b1,b2,b3),(c1,c2,c3),(d1,d2,d3),(e1,e2,e3),(f1,f2,f3)] _ (by simp[←hn]) (by simp) ?_ hr).mono ?_
 ·intro j hj i v hv;have Ew:j<6:=hj;rw[World.cell?_alloc_at _ _ _ _ hn.symm];rcases j with _|_|_|_|_|_|j
  ·rcases i with _|_|_|i <;>simp_all [zBd]
  ·rcases i with _|_|_|i <;>simp_all [zBd]
  ·rcases i with _|_|_|i <;>simp_all [zBd]
  ·rcases i with _|_|_|i <;>simp_all [zBd]
  ·rcases i with _|_|_|i <;>simp_all [zBd]
  ·rcases i with _|_|_|i <;>simp_all [zBd]
  ·omega
 ·rintro e w' ⟨rfl,hb⟩;exact⟨rfl,((bzR _ V).alloc (nzR _) _).trans (hb.mono (by simp))⟩
theorem zIk(t1 t2 t3 t4 t5 t6:Int)(r:Bool)(w:World)(hr:[(t3,1,9),(t4,1,9),(t1,1,9999),(t2,1,9999),(t5,1,10000),(t6,1,10000)].any zAo=r) :
  Calls prog 51 #[.agg #[.int .i64 t1,.int .i64 t2,.int .i64 t3,.int .i64 t4,.int .i64 t5,.int .i64 t6]] w
   fun x w'=>x=.returned (errV (zAg r))∧Bw w w':=by
 have HR:=hidT hr;clear hr;have hV:Bw w (w.alloc (.cells #[.int .i64 t1,.int .i64 t2,.int .i64 t3,.int .i64 t4,.int .i64 t5,.int .i64 t6] 29)):=(bzR _ _).alloc (nzR _) _;have hR:=jA w (.cells #[.int .i64 t1,.int .i64 t2,.int .i64 t3,.int .i64 t4,.int .i64 t5,.int .i64 t6] 29);go_enter func51,ntmps51;go_upto_region 1 with fail
 generalize w.alloc (.cells #[.int .i64 t1,.int .i64 t2,.int .i64 t3,.int .i64 t4,.int .i64 t5,.int .i64 t6] 29)=V at *;have c0:V.cell? ⟨w.heap.size,0,none⟩=some (.int .i64 t1):=by simp[World.cell?,hR]
 have c1:V.cell? ⟨w.heap.size,1,none⟩=some (.int .i64 t2):=by simp[World.cell?,hR]
 have c2:V.cell? ⟨w.heap.size,2,none⟩=some (.int .i64 t3):=by simp[World.cell?,hR]
 have c3:V.cell? ⟨w.heap.size,3,none⟩=some (.int .i64 t4):=by simp[World.cell?,hR]
 have c4:V.cell? ⟨w.heap.size,4,none⟩=some (.int .i64 t5):=by simp[World.cell?,hR]
 have c5:V.cell? ⟨w.heap.size,5,none⟩=some (.int .i64 t6):=by simp[World.cell?,hR]
 clear hR;have SO:Hid (∀W,Bw V W→(Bw V W∧W.cell? ⟨w.heap.size,0,none⟩=some (.int .i64 t1)∧W.cell? ⟨w.heap.size,1,none⟩=some (.int .i64 t2)∧W.cell? ⟨w.heap.size,2,none⟩=some (.int .i64 t3)∧W.cell? ⟨w.heap.size,3,none⟩=some (.int .i64 t4)∧W.cell? ⟨w.heap.size,4,none⟩=some (.int .i64 t5)∧W.cell? ⟨w.heap.size,5,none⟩=some (.int .i64 t6))):=fun W hW=>⟨hW,zAa hW c0,zAa hW c1,zAa hW c2,zAa hW c3,zAa hW c4,zAa hW c5⟩
 go_region_held3 (fun W=>Below V.heap.size V W∧W.cell? ⟨w.heap.size,0,none⟩=some (.int .i64 t1)∧W.cell? ⟨w.heap.size,1,none⟩=some (.int .i64 t2)∧W.cell? ⟨w.heap.size,2,none⟩=some (.int .i64 t3)∧W.cell? ⟨w.heap.size,3,none⟩=some (.int .i64 t4)∧W.cell? ⟨w.heap.size,4,none⟩=some (.int .i64 t5)∧W.cell? ⟨w.heap.size,5,none⟩=some (.int .i64 t6))
  ((refine SO.out _ ?_;(with_reducible repeat' (first|assumption|refine bal ?_ _|refine Below.setCell ?_ ?_ _|refine Below.drew ?_|exact bzR _ _|exact nzR _|exact Below.size (by assumption)|refine jD ?_))))
  (first|(go_at_call 79;refine(who_V V _ _ ?_).mono ?_;(with_reducible repeat' (first|assumption|refine bal ?_ _|refine Below.setCell ?_ ?_ _|refine Below.drew ?_|exact bzR _ _|exact nzR _|exact Below.size (by assumption)|refine jD ?_));rintro x W ⟨rfl,Hp⟩)|(go_at_call 52;refine(id_V V _ _ ?_).mono ?_;(with_reducible repeat' (first|assumption|refine bal ?_ _|refine Below.setCell ?_ ?_ _|refine Below.drew ?_|exact bzR _ _|exact nzR _|exact Below.size (by assumption)|refine jD ?_));rintro x W ⟨rfl,Hp⟩)|(go_at_call 80;refine(wAZ V _ _ ?_).mono ?_;(with_reducible repeat' (first|assumption|refine bal ?_ _|refine Below.setCell ?_ ?_ _|refine Below.drew ?_|exact bzR _ _|exact nzR _|exact Below.size (by assumption)|refine jD ?_));rintro x W ⟨rfl,Hp⟩)|(go_at_call 81;refine(qty_V V _ _ ?_).mono ?_;(with_reducible repeat' (first|assumption|refine bal ?_ _|refine Below.setCell ?_ ?_ _|refine Below.drew ?_|exact bzR _ _|exact nzR _|exact Below.size (by assumption)|refine jD ?_));rintro x W ⟨rfl,Hp⟩)|(go_at_call 17;refine(scheck6 r _ _ _ _ _ _ _ _ _ _ _ _ _ _ _ _ _ _ _ _ rfl HR.out).mono ?_;rintro x W2 ⟨rfl,GL⟩;have Hp:=Below.trans (by with_reducible assumption) (GL.mono (Below.size (by with_reducible assumption)))))
 have HW:Hid (Bw w W2):=hV.trans (Hp.mono hV.size);clear SO hV HR GL Hp c0 c1 c2 c3 c4 c5;cases r
 ·simp only[show errV (zAg false)=.nilIface from rfl]
  go_wp2_with fail;go_ret;exact⟨rfl,HW.out⟩
 ·simp only[show errV (zAg true)=.iface 80 (.int .i64 1) from rfl]
  go_wp2_with fail;go_ret;exact⟨rfl,HW.out⟩
theorem zNi(e1 e2 e3 e4 t1 t2 t3 t4 t5 t6:Int)(r:Bool)(w:World)(h2:(e1 == 2)=false)(hr:[(e1,1,5),(e2,1,9999),(e3,0,10000),(e4,0,10000)].any zAo=r) :
  Calls prog 26 #[.agg #[.int .i64 e1,.int .i64 e2,.int .i64 e3,.int .i64 e4,.int .i64 t1,.int .i64 t2,.int .i64 t3,.int .i64 t4,.int .i64 t5,.int .i64 t6]] w
   fun x w'=>x=.returned (errV (zAg r))∧Bw w w':=by
 have HR:=hidT hr;clear hr;have ud:Bw w (w.alloc (.cells #[.int .i64 e1,.int .i64 e2,.int .i64 e3,.int .i64 e4,.int .i64 t1,.int .i64 t2,.int .i64 t3,.int .i64 t4,.int .i64 t5,.int .i64 t6] 31)):=(bzR _ _).alloc (nzR _) _;have hR:=jA w (.cells #[.int .i64 e1,.int .i64 e2,.int .i64 e3,.int .i64 e4,.int .i64 t1,.int .i64 t2,.int .i64 t3,.int .i64 t4,.int .i64 t5,.int .i64 t6] 31);go_enter func26,ntmps26;go_wp2_with fail;generalize w.alloc (.cells #[.int .i64 e1,.int .i64 e2,.int .i64 e3,.int .i64 e4,.int .i64 t1,.int .i64 t2,.int .i64 t3,.int .i64 t4,.int .i64 t5,.int .i64 t6] 31)=V0 at *;have d1:V0.cell? ⟨w.heap.size,1,none⟩=some (.int .i64 e2):=by simp[World.cell?,hR]
 have d2:V0.cell? ⟨w.heap.size,2,none⟩=some (.int .i64 e3):=by simp[World.cell?,hR]
 have d3:V0.cell? ⟨w.heap.size,3,none⟩=some (.int .i64 e4):=by simp[World.cell?,hR]
 clear hR;refine(zBp e1 1 5 _).mono ?_;rintro e W1⟨rfl,Ha⟩;have b1:=zAa Ha d1;have b2:=zAa Ha d2;have b3:=zAa Ha d3;have gy:Bw w W1:=ud.trans (Ha.mono ud.size);clear Ha d1 d2 d3 ud;have gl:=gy.alloc gy.size (.cells #[.int .i64 e1,.int .i64 1,.int .i64 5] 66);have gO:Bw W1 (W1.alloc (.cells #[.int .i64 e1,.int .i64 1,.int .i64 5] 66)):=(bzR _ _).alloc (nzR _) _;have hR:=jA W1 (.cells #[.int .i64 e1,.int .i64 1,.int .i64 5] 66);have c1:=zAa gO b1;have c2:=zAa gO b2;have c3:=zAa gO b3;clear b1 b2 b3 gO gy;go_upto_region 4 with fail
 generalize W1.alloc (.cells #[.int .i64 e1,.int .i64 1,.int .i64 5] 66)=V at *;have p0:V.cell? ⟨W1.heap.size,0,none⟩=some (.int .i64 e1):=by simp[World.cell?,hR]
 have p1:V.cell? ⟨W1.heap.size,1,none⟩=some (.int .i64 1):=by simp[World.cell?,hR]
 have p2:V.cell? ⟨W1.heap.size,2,none⟩=some (.int .i64 5):=by simp[World.cell?,hR]
 clear hR;have SO:Hid (∀W,Bw V W→(Bw V W∧W.cell? ⟨w.heap.size,1,none⟩=some (.int .i64 e2)∧W.cell? ⟨w.heap.size,2,none⟩=some (.int .i64 e3)∧W.cell? ⟨w.heap.size,3,none⟩=some (.int .i64 e4)∧W.cell? ⟨W1.heap.size,0,none⟩=some (.int .i64 e1)∧W.cell? ⟨W1.heap.size,1,none⟩=some (.int .i64 1)∧W.cell? ⟨W1.heap.size,2,none⟩=some (.int .i64 5))):=fun W hW=>⟨hW,zAa hW c1,zAa hW c2,zAa hW c3,zAa hW p0,zAa hW p1,zAa hW p2⟩
 go_region_held3 (fun W=>Below V.heap.size V W∧W.cell? ⟨w.heap.size,1,none⟩=some (.int .i64 e2)∧W.cell? ⟨w.heap.size,2,none⟩=some (.int .i64 e3)∧W.cell? ⟨w.heap.size,3,none⟩=some (.int .i64 e4)∧W.cell? ⟨W1.heap.size,0,none⟩=some (.int .i64 e1)∧W.cell? ⟨W1.heap.size,1,none⟩=some (.int .i64 1)∧W.cell? ⟨W1.heap.size,2,none⟩=some (.int .i64 5))
  ((refine SO.out _ ?_;(with_reducible repeat' (first|assumption|refine bal ?_ _|refine Below.setCell ?_ ?_ _|refine Below.drew ?_|exact bzR _ _|exact nzR _|exact Below.size (by assumption)|refine jD ?_))))
  (first|(go_at_call 52;refine(id_V V _ _ ?_).mono ?_;(with_reducible repeat' (first|assumption|refine bal ?_ _|refine Below.setCell ?_ ?_ _|refine Below.drew ?_|exact bzR _ _|exact nzR _|exact Below.size (by assumption)|refine jD ?_));rintro x W ⟨rfl,Hp⟩)|(go_at_call 40;refine(of_V V _ _ _ _ ?_).mono ?_;(with_reducible repeat' (first|assumption|refine bal ?_ _|refine Below.setCell ?_ ?_ _|refine Below.drew ?_|exact bzR _ _|exact nzR _|exact Below.size (by assumption)|refine jD ?_));rintro x W ⟨rfl,Hp⟩)|(go_at_call 17;refine(scheck4 r _ _ _ _ _ _ _ _ _ _ _ _ _ _ rfl HR.out).mono ?_;rintro x W2 ⟨rfl,GL⟩;have Hp:=Below.trans (by with_reducible assumption) (GL.mono (Below.size (by with_reducible assumption)))))
 all_goals
  have HW:Hid (Bw w W2):=gl.trans (Hp.mono gl.size);clear SO gl HR GL Hp c1 c2 c3 p0 p1 p2;cases r
  ·simp only[show errV (zAg false)=.nilIface from rfl]
   go_wp2_with fail;go_ret;exact⟨rfl,HW.out⟩
  ·simp only[show errV (zAg true)=.iface 80 (.int .i64 1) from rfl]
   go_wp2_with fail;go_ret;exact⟨rfl,HW.out⟩
theorem zKr(e2 e3 e4 t1 t2 t3 t4 t5 t6:Int)(r:Bool)(w:World)(hr:[(t3,1,9),(t4,1,9),(t1,1,9999),(t2,1,9999),(t5,1,10000),(t6,1,10000)].any zAo=r) :
  Calls prog 26 #[.agg #[.int .i64 2,.int .i64 e2,.int .i64 e3,.int .i64 e4,.int .i64 t1,.int .i64 t2,.int .i64 t3,.int .i64 t4,.int .i64 t5,.int .i64 t6]] w
   fun x w'=>x=.returned (errV (zAg r))∧Bw w w':=by
 have HR:=hidT hr;clear hr;have ud:Bw w (w.alloc (.cells #[.int .i64 2,.int .i64 e2,.int .i64 e3,.int .i64 e4,.int .i64 t1,.int .i64 t2,.int .i64 t3,.int .i64 t4,.int .i64 t5,.int .i64 t6] 31)):=(bzR _ _).alloc (nzR _) _;go_enter func26,ntmps26;go_wp2_with fail;refine(zIk t1 t2 t3 t4 t5 t6 r _ HR.out).mono ?_;rintro e W1⟨rfl,Ha⟩;have HW:Hid (Bw w W1):=ud.trans (Ha.mono ud.size);clear Ha ud HR;cases r
 ·simp only[show errV (zAg false)=.nilIface from rfl]
  go_wp2_with fail;go_ret;exact⟨rfl,HW.out⟩
 ·simp only[show errV (zAg true)=.iface 80 (.int .i64 1) from rfl]
  go_wp2_with fail;go_ret;exact⟨rfl,HW.out⟩
def tdB(t:T):Bool:=decide (1≤t.frm) && decide (t.frm≤9) && decide (1≤t.into) && decide (t.into≤9) && decide (1≤t.maker) && decide (t.maker≤9999) && decide (1≤t.taker) && decide (t.taker≤9999) && decide (1≤t.price) && decide (t.price≤10000) && decide (1≤t.qty) && decide (t.qty≤10000)
def otB(e:Ev):Bool:=decide (1≤e.what) && decide (e.what≤5) && decide (1≤e.id) && decide (e.id≤9999) && decide (0≤e.qty) && decide (e.qty≤10000) && decide (0≤e.price) && decide (e.price≤10000)
def evB(e:Ev):Bool:=if e.what=2 then tdB e.tr else otB e
def badE(e:Ev):Bool:=!evB e
def tchk(l:List Ev):Int:=if 400<l.length then 4 else zAg (l.any badE)
theorem td_any(t1 t2 t3 t4 t5 t6:Int):[(t3,1,9),(t4,1,9),(t1,1,9999),(t2,1,9999),(t5,1,10000),(t6,1,10000)].any zAo = !tdB ⟨t1,t2,t3,t4,t5,t6⟩:=by
 rw[Bool.eq_iff_iff];simp[zAo,tdB];omega
theorem ot_any(e1 e2 e3 e4:Int)(t:T):[(e1,1,5),(e2,1,9999),(e3,0,10000),(e4,0,10000)].any zAo = !otB ⟨e1,e2,e3,e4,t⟩:=by
 rw[Bool.eq_iff_iff];simp[zAo,otB];omega
theorem zKs(e:Ev)(w:World) :
  Calls prog 26 #[.agg (evL e).toArray] w fun x w'=>x=.returned (errV (zAg (badE e)))∧Bw w w':=by
 obtain⟨e1,e2,e3,e4,⟨t1,t2,t3,t4,t5,t6⟩⟩:=e;by_cases h:e1=2
 ·subst h;exact zKr e2 e3 e4 t1 t2 t3 t4 t5 t6 _ w (td_any t1 t2 t3 t4 t5 t6)
 ·have hb:badE ⟨e1,e2,e3,e4,⟨t1,t2,t3,t4,t5,t6⟩⟩ = !otB ⟨e1,e2,e3,e4,⟨t1,t2,t3,t4,t5,t6⟩⟩:=by
   unfold badE evB;rw[if_neg h]
  rw[hb];exact zNi e1 e2 e3 e4 t1 t2 t3 t4 t5 t6 _ w (by simp[h]) (ot_any e1 e2 e3 e4 _)
theorem zRV(w:World):PredBelow prog 25 #[] (fun x=>.agg (evL x).toArray) badE w:=by
 intro W x hb;have hc:=hidT (fun V=>zKs x V)
 generalize badE x=r at *;obtain⟨e1,e2,e3,e4,⟨t1,t2,t3,t4,t5,t6⟩⟩:=x;have HC:Hid (∀V,Calls prog 26 #[.agg #[.int .i64 e1,.int .i64 e2,.int .i64 e3,.int .i64 e4,.int .i64 t1,.int .i64 t2,.int .i64 t3,.int .i64 t4,.int .i64 t5,.int .i64 t6]] V fun x w'=>x=.returned (errV (zAg r))∧Bw V w'):=hc
 clear hc;show Calls prog 25 #[.agg #[.int .i64 e1,.int .i64 e2,.int .i64 e3,.int .i64 e4,.int .i64 t1,.int .i64 t2,.int .i64 t3,.int .i64 t4,.int .i64 t5,.int .i64 t6]] W _
 have ud:Bw w (W.alloc (.cells #[.int .i64 e1,.int .i64 e2,.int .i64 e3,.int .i64 e4,.int .i64 t1,.int .i64 t2,.int .i64 t3,.int .i64 t4,.int .i64 t5,.int .i64 t6] 31)):=hb.alloc hb.size _;cases r
 ·simp only[show errV (zAg false)=.nilIface from rfl] at HC
  go_enter func25,ntmps25;go_wp2_with fail;refine(HC.out _).mono ?_;rintro e W1⟨rfl,Ha⟩;have HW:Hid (Bw w W1):=ud.trans (Ha.mono ud.size);clear Ha ud HC;go_wp2_with fail;go_ret;exact⟨rfl,HW.out⟩
 ·simp only[show errV (zAg true)=.iface 80 (.int .i64 1) from rfl] at HC
  go_enter func25,ntmps25;go_wp2_with fail;refine(HC.out _).mono ?_;rintro e W1⟨rfl,Ha⟩;have HW:Hid (Bw w W1):=ud.trans (Ha.mono ud.size);clear Ha ud HC;go_wp2_with fail;go_ret;exact⟨rfl,HW.out⟩
theorem zPQ(W:World):Calls prog 50 #[.slice none 0 0,.func (.func 25) #[] #[]] W fun e w'=>e=.returned (.int .i64 (-1))∧Bw W w':=by
 go_enter func50,ntmps50
 go_wp2
 go_loopg [5,8] 0 (fun _ _ s8 wr=>s8=.int .i64 0∧wr=W)
 case atStart=>exact⟨rfl,rfl⟩
 case round=>
  obtain⟨rfl,rfl⟩:=hrel
  go_wp2
  go_ret;exact⟨rfl,bzR _ _⟩
theorem zRW(W:World):Calls prog 24 #[.slice none 0 0,.func (.func 25) #[] #[]] W fun e w'=>e=.returned (.bool false)∧Bw W w':=by
 go_enter func24,ntmps24;go_wp2_with fail;refine(zPQ _).mono ?_;rintro e w'⟨rfl,hb⟩;go_wp2_with fail;go_ret;exact⟨rfl,hb⟩
theorem wAf(v:Value)(zs:List Ev)(w:World)(h:EL w v zs) :
  Calls prog 7 #[v] w fun x w'=>x=.returned (errV (tchk zs))∧Bw w w':=by
 have eg:∀args w,(callFunc 25 args).run prog w=.ok (.enter 25 args) w:=enters_of func25 (by kernel_rfl) rfl
 have Hf:zs.length≤400→Calls prog 24 #[v,.func (.func 25) #[] #[]] w fun e w'=>e=.returned (.bool (zs.any badE))∧Bw w w':=by
  intro hn;rcases h with ⟨rfl,rfl⟩|⟨b,o,c,rfl,h2,h3,h4,h5⟩
  ·exact zRW w
  ·have:=AnyQ.slices_ContainsFunc Tryz.lh8e 10 isAgg31 sizeOf31 evL (fun x=>rfl) badE 25 #[] eg b o zs.length c zs w (zRV w) (nzR _) (by omega) h4 h5
   rw[List.take_length] at this;exact this
 obtain⟨q,c,rfl,hn⟩:=h.form;clear h;unfold tchk;have HC:=hidT Hf;clear Hf;generalize zs.any badE=r at *;generalize zs.length=n at *;have Hi:(n:Int)≤9223372036854775807:=by omega
 by_cases h4:400<n
 ·have Cq:(400:Int)<(n:Int):=by omega
  rw[if_pos h4];go_enter func7,ntmps7;go_wp2_with fail;go_ret;exact⟨rfl,bzR _ _⟩
 ·have Cq:¬(400:Int)<(n:Int):=by omega
  rw[if_neg h4];have hk:=hidT (HC.out (by omega))
  clear HC;cases r
  ·go_enter func7,ntmps7;go_wp2_with fail;refine hk.out.mono ?_;rintro e w'⟨rfl,me⟩;go_wp2_with fail;go_ret;exact⟨rfl,me⟩
  ·go_enter func7,ntmps7;go_wp2_with fail;refine hk.out.mono ?_;rintro e w'⟨rfl,me⟩;go_wp2_with fail;go_ret;exact⟨rfl,me⟩
end tap
namespace tap
open Go.RowKit mee flr
open spn (zAa zAg errV wAa wAb)
open wak (OwnM wAd wAy wAh)
theorem zCy(k n:Nat)(h:k<n)(hn:n≤9223372036854775807):wrap64 ((k:Int)+1)=((k+1:Nat):Int):=by unfold wrap64;omega
def flatT(l:List T):List Value:=l.flatMap tV
theorem wAE(a b:List T):flatT (a++b)=flatT a++flatT b:=by unfold flatT;rw[List.flatMap_append]
theorem zNj(e:T):flatT [e]=tV e:=by simp[flatT]
theorem zKt(e:T)(t:List T):flatT (e::t)=tV e++flatT t:=by simp[flatT]
theorem wAQ(l:List T):∀j,j<l.length→∀i,i<6→(flatT l)[j*6+i]?=(tV l[j]!)[i]?:=by
 induction l with
 | nil=>intro j hj;simp at hj
 | cons r t ih=>
  intro j hj i hi;have e6:(tV r).length=6:=rfl;rw[zKt];cases j with
  | zero=>rw[Nat.zero_mul,Nat.zero_add,List.getElem?_append_left (by rw[e6];exact hi)];rfl
  | succ j=>
   rw[jV (by rw[e6];omega)]
   have:(j+1)*6+i - (tV r).length=j*6+i:=by rw[e6];omega
   rw[this,ih j (by simpa using hj) i hi]
   rfl
def trs(l:List Ev):List T:=l.filterMap fun e=>if e.what=2 then some e.tr else none
theorem zCH(a b:List Ev):trs (a++b)=trs a++trs b:=by unfold trs;rw[List.filterMap_append]
theorem zGn(l:List Ev):(trs l).length≤l.length:=List.length_filterMap_le _ _
theorem zAT{α:Type}[Inhabited α]{l:List α}{k:Nat}(h:k<l.length):l.take (k+1)=l.take k++[l[k]!]:=by
 rw[List.take_succ_eq_append_getElem h,getE l k h]
theorem zNk{l:List Ev}{k:Nat}(h:k<l.length)(h2:(l[k]!).what=2):trs (l.take (k+1))=trs (l.take k)++[(l[k]!).tr]:=by
 rw[zAT h,zCH]
 congr 1
 simp only[trs,List.filterMap_cons,List.filterMap_nil,if_pos h2]
theorem zQy{l:List Ev}{k:Nat}(h:k<l.length)(h2:¬(l[k]!).what=2):trs (l.take (k+1))=trs (l.take k):=by
 rw[zAT h,zCH];simp only[trs,List.filterMap_cons,List.filterMap_nil,if_neg h2,jH]
def zRX:Value:=.agg #[.int .i64 0,.int .i64 0,.int .i64 0,.int .i64 0,.int .i64 0,.int .i64 0]
theorem infoT:(prog.info? 29).map (fun i=>(i.zero,i.size,i.bytes))=some (some zRX,6,48):=by kernel_rfl
theorem infoT' : ∃i,prog.info? 29=some i∧i.zero=some zRX∧i.size=6∧i.bytes=48:=by
 have h:=infoT;cases hq:prog.info? 29 with
 | none=>rw[hq] at h;simp at h
 | some i=>
  rw[hq] at h;simp only[Option.map_some,Option.some.injEq,Prod.mk.injEq] at h;exact⟨i,rfl,h.1,h.2.1,h.2.2⟩
abbrev OwnTs(w:World)(base:Nat)(v:Value)(ts:List T):Prop:=OwnM w base 29 6 v ts.length (flatT ts)
theorem OwnTs.at{w:World}{base:Nat}{q:Option Addr}{n c:Nat}{ts:List T}(h:OwnTs w base (.slice q n c) ts){k:Nat}(hk:k<ts.length):∃g off,q=some ⟨g,off,none⟩∧base≤g∧g<w.heap.size∧∀i v,(tV ts[k]!)[i]?=some v→w.cell? ⟨g,off+k*6+i,none⟩=some v:=by
 rcases h.2 with ⟨h1,h2⟩|⟨g,off,cap,cur,h1,h2,h3,h4⟩
 ·omega
 ·cases h1;obtain⟨hc,-,hb,hl⟩:=OwnM.cells h;refine⟨g,off,rfl,hb,hl,fun i v hv=>?_⟩
  have hi:i<6:=(List.getElem?_eq_some_iff.1 hv).1;have:=hc (k*6+i) v (by rw[wAQ ts k hk i hi];exact hv)
  rw[←Nat.add_assoc] at this;exact this
theorem zFq(v:Value)(zs:List Ev)(w:World)(h:EL w v zs)(hn:zs.length≤400) :
  Calls prog 28 #[v] w fun e w'=>∃v',e=.returned v'∧OwnTs w' w.heap.size v' (trs zs)∧Bw w w':=by
 obtain⟨i0,Gg,gH,gw,gD⟩:=infoT';have HI:=hidT Gg;obtain⟨q,c,rfl,Ma⟩:=h.form;have PQ:=hidT h;have HAT:Hid (∀k,k<zs.length→_):=fun k hk=>h.at hk
 have cY:Hid (OwnTs w w.heap.size (.slice none 0 0) []):=⟨rfl,.inl ⟨rfl,rfl⟩⟩;obtain⟨n,hN⟩:∃n,zs.length=n:=⟨_,rfl⟩;have HN:=hidT hN;rw[hN] at hn;have pD:=hidT hn;simp only[hN];clear h Gg Ma hn hN;go_enter func28,ntmps28;go_wp2_with fail;go_loopg [3,5,8] n (fun gg s3 s5 s8 wr=>∃ (kk:Nat) (q' : Option Addr) (c' m:Nat),kk≤n∧n - kk≤gg∧s3=.slice q' m c'∧s8=.int .i64 kk∧Aside (m=(trs (zs.take kk)).length∧OwnTs wr w.heap.size (.slice q' m c') (trs (zs.take kk))∧Below w.heap.size w wr))
 case atStart=>exact⟨0,none,0,0,jL _,by omega,rfl,rfl,rfl,cY.out,bzR _ _⟩
 case round=>
  clear cY;obtain⟨kk,q',c',m,gh,hg,rfl,rfl,HA⟩:=hrel;by_cases Hj:kk<n
  ·have Hq:(kk:Int)<(n:Int):=by omega
   have gU:¬((kk:Int)<0):=by omega
   have Hv:kk<zs.length:=by rw[HN.out];exact Hj
   obtain⟨g,off,rfl,m8,gT⟩:=HAT.out kk Hv;obtain⟨x,hx⟩:∃x,zs[kk]! = x:=⟨_,rfl⟩;obtain⟨e1,e2,e3,e4,⟨t1,t2,t3,t4,t5,t6⟩⟩:=x;rw[hx] at gT;have HB:=hidT HA.out.2.2;have c0:=zAa HB.out (gT 0 _ rfl);have c1:=zAa HB.out (gT 1 _ rfl);have c2:=zAa HB.out (gT 2 _ rfl);have c3:=zAa HB.out (gT 3 _ rfl);have c4:=zAa HB.out (gT 4 _ rfl);have c5:=zAa HB.out (gT 5 _ rfl);have c6:=zAa HB.out (gT 6 _ rfl);have c7:=zAa HB.out (gT 7 _ rfl);have c8:=zAa HB.out (gT 8 _ rfl);have c9:=zAa HB.out (gT 9 _ rfl);simp only[Nat.add_zero] at c0;have Uq:g<wr.heap.size:=jC m8 HB.out.size;have pQ:=hidT (zCy kk n Hj (by have:=pD.out;omega))
   have uw:Hid (kk<n∧n - kk≤gk):=⟨Hj,hg⟩;have HY:Hid (e1=2→trs (zs.take (kk+1))=trs (zs.take kk)++[⟨t1,t2,t3,t4,t5,t6⟩]):=fun h2=>by
    have:=zNk Hv (by rw[hx];exact h2)
    rw[hx] at this;exact this
   have HX:Hid (¬e1=2→trs (zs.take (kk+1))=trs (zs.take kk)):=fun h2=>zQy Hv (by rw[hx];exact h2)
   have ua:Hid ((trs (zs.take kk)).length≤kk):=by
    have:=zGn (zs.take kk);rw[jJ] at this;show _≤_
    omega
   clear gT hx gh hg Hj;generalize trs (zs.take kk)=TS at *;go_upto_region 5 with fail
   have He:Hid (Bw w (wr.alloc (.cells #[.int .i64 e1,.int .i64 e2,.int .i64 e3,.int .i64 e4,.int .i64 t1,.int .i64 t2,.int .i64 t3,.int .i64 t4,.int .i64 t5,.int .i64 t6] 31))):=HB.out.alloc HB.out.size _;have Gi:Hid (OwnTs (wr.alloc (.cells #[.int .i64 e1,.int .i64 e2,.int .i64 e3,.int .i64 e4,.int .i64 t1,.int .i64 t2,.int .i64 t3,.int .i64 t4,.int .i64 t5,.int .i64 t6] 31)) w.heap.size (.slice q' m c') TS):=OwnM.below HA.out.2.1 ((bzR _ _).alloc (nzR _) _);have hR:=jA wr (.cells #[.int .i64 e1,.int .i64 e2,.int .i64 e3,.int .i64 e4,.int .i64 t1,.int .i64 t2,.int .i64 t3,.int .i64 t4,.int .i64 t5,.int .i64 t6] 31);have HM:=hidT HA.out.1;clear HA HB c0 c1 c2 c3 c4 c5 c6 c7 c8 c9 Uq;generalize wr.alloc (.cells #[.int .i64 e1,.int .i64 e2,.int .i64 e3,.int .i64 e4,.int .i64 t1,.int .i64 t2,.int .i64 t3,.int .i64 t4,.int .i64 t5,.int .i64 t6] 31)=V at *
   have d0:V.cell? ⟨wr.heap.size,0,none⟩=some (.int .i64 e1):=by simp[World.cell?,hR]
   have d4:V.cell? ⟨wr.heap.size,4,none⟩=some (.int .i64 t1):=by simp[World.cell?,hR]
   have d5:V.cell? ⟨wr.heap.size,5,none⟩=some (.int .i64 t2):=by simp[World.cell?,hR]
   have d6:V.cell? ⟨wr.heap.size,6,none⟩=some (.int .i64 t3):=by simp[World.cell?,hR]
   have d7:V.cell? ⟨wr.heap.size,7,none⟩=some (.int .i64 t4):=by simp[World.cell?,hR]
   have d8:V.cell? ⟨wr.heap.size,8,none⟩=some (.int .i64 t5):=by simp[World.cell?,hR]
   have d9:V.cell? ⟨wr.heap.size,9,none⟩=some (.int .i64 t6):=by simp[World.cell?,hR]
   clear hR;by_cases h2:e1=2
   ·have hy:=HY.out h2;subst h2;have HY2:=hidT hy;have HOW:Hid (OwnM (V.alloc (.cells #[.int .i64 t1,.int .i64 t2,.int .i64 t3,.int .i64 t4,.int .i64 t5,.int .i64 t6] 29)) w.heap.size 29 6 (.slice q' m c') m (flatT TS)):=by
     have:=OwnM.below Gi.out ((bzR _ _).alloc (nzR _) (.cells #[.int .i64 t1,.int .i64 t2,.int .i64 t3,.int .i64 t4,.int .i64 t5,.int .i64 t6] 29));rw[←HM.out] at this;exact this
    have pE:Hid (∀j u,([.int .i64 t1,.int .i64 t2,.int .i64 t3,.int .i64 t4,.int .i64 t5,.int .i64 t6]:List Value)[j]?=some u→(V.alloc (.cells #[.int .i64 t1,.int .i64 t2,.int .i64 t3,.int .i64 t4,.int .i64 t5,.int .i64 t6] 29)).cell? ((⟨V.heap.size,0,none⟩:Addr).add j)=some u):=by
     intro j u hu;rw[Addr.add_lit,Nat.zero_add,World.cell?_alloc_at _ _ _ _ rfl];simpa using hu
    have Hg:Hid (Bw w (V.alloc (.cells #[.int .i64 t1,.int .i64 t2,.int .i64 t3,.int .i64 t4,.int .i64 t5,.int .i64 t6] 29))):=He.out.alloc He.out.size _;clear hy HY HX He Gi;go_wp2_with (at_builtin;(refine wAd _ rfl _ _ 85 rfl w.heap.size 29 i0 zRX 6 48 underlying85 HI.out gH gw gD rfl (.slice q' m c') _ _ rfl HOW.out ⟨V.heap.size,0,none⟩ 1 1 [.int .i64 t1,.int .i64 t2,.int .i64 t3,.int .i64 t4,.int .i64 t5,.int .i64 t6] rfl rfl pE.out (fun u hu=>by simp only[List.mem_cons,List.not_mem_nil,or_false] at hu;rcases hu with rfl|rfl|rfl|rfl|rfl|rfl <;>rfl) ?c3 ?c4 ?c5 ?_))
    case c3=>have:=HM.out;have:=ua.out;have:=uw.out;have:=pD.out;unfold maxLen;omega
    case c4=>have:=HM.out;have:=ua.out;have:=uw.out;have:=pD.out;omega
    case c5=>have:=Hg.out.size;simpa using this
    intro v' w' gA Hw Gk;obtain⟨q2,c2,gX⟩:=OwnM.form gA;subst gX;have U5:Hid (m+1=(trs (zs.take (kk+1))).length∧OwnTs w' w.heap.size (.slice q2 (m+1) c2) (trs (zs.take (kk+1)))∧Bw w w'):=by
     have e1:m+1=(trs (zs.take (kk+1))).length:=(by rw[HY2.out,HM.out];simp);refine⟨e1,?_,Hg.out.grown Hw Hg.out.size (fun k hk=>(OwnM.lt HOW.out k hk).1)⟩
     unfold OwnTs;rw[←e1,HY2.out,wAE,zNj];exact gA
    clear gA Hw Gk HOW pE Hg HY2;go_wp2_with fail;go_roundg (n - (kk+1))
    case measure=>have:=uw.out;omega
    case rel=>exact⟨kk+1,q2,c2,m+1,uw.out.1,nzR _,rfl,congrArg (Value.int .i64) pQ.out,U5.out⟩
   ·have h2b:(e1 == 2)=false:=(by simp[h2]);have Mj:=hidT (HX.out h2);have U5:Hid (m=(trs (zs.take (kk+1))).length∧OwnTs V w.heap.size (.slice q' m c') (trs (zs.take (kk+1)))∧Bw w V):=by
     rw[Mj.out];exact⟨HM.out,Gi.out,He.out⟩
    clear HX HY h2 Mj;go_wp2_with fail;go_roundg (n - (kk+1))
    case measure=>have:=uw.out;omega
    case rel=>exact⟨kk+1,q',c',m,uw.out.1,nzR _,rfl,congrArg (Value.int .i64) pQ.out,U5.out⟩
  ·have ED:kk=n:=by omega
   subst ED;have Hq:¬(kk:Int)<(kk:Int):=by omega
   go_wp2_with fail;go_ret;have hA:=HA.out;rw[List.take_of_length_le (by rw[HN.out];exact nzR _)] at hA
   exact⟨_,rfl,hA.2⟩
def sumQ:List T→Int
 | []=>0
 | t::r=>t.qty+sumQ r
theorem zEL(a b:List T):sumQ (a++b)=sumQ a+sumQ b:=by
 induction a with
 | nil=>simp[sumQ]
 | cons t r ih=>rw[List.cons_append,sumQ,sumQ,ih];omega
theorem zNl{ts:List T}{k:Nat}(h:k<ts.length):sumQ (ts.take (k+1))=sumQ (ts.take k)+(ts[k]!).qty:=by
 rw[zAT h,zEL];simp[sumQ]
theorem zDB(ts:List T)(h:∀t∈ts,tdB t=true):0≤sumQ ts∧sumQ ts≤10000*ts.length:=by
 induction ts with
 | nil=>simp[sumQ]
 | cons t r ih=>
  have h1:=ih (fun x hx=>h x (List.mem_cons_of_mem _ hx))
  have h2:=h t List.mem_cons_self;simp[tdB] at h2;rw[sumQ,jG];omega
def lastP(ts:List T):Int:=match ts.getLast? with
 | some t=>t.price
 | none=>0
theorem zKu{ts:List T}{k:Nat}(h:k<ts.length):lastP (ts.take (k+1))=(ts[k]!).price:=by
 rw[zAT h];unfold lastP;rw[List.getLast?_concat]
theorem zEM{zs:List Ev}(h:tchk zs=0):zs.length≤400∧∀e∈zs,evB e=true:=by
 unfold tchk at h;split at h
 ·cases h
 ·refine⟨by omega,fun e he=>?_⟩
  cases hq:zs.any badE
  ·rw[List.any_eq_false] at hq;have:=hq e he;unfold badE at this;simpa using this
  ·rw[hq] at h;cases h
theorem zJr{zs:List Ev}(h:∀e∈zs,evB e=true):∀t∈trs zs,tdB t=true:=by
 intro t ht;unfold trs at ht;obtain⟨e,he,h2⟩:=List.mem_filterMap.1 ht;split at h2
 ·rename_i hw
  cases h2;have:=h e he;unfold evB at this
  rwa [if_pos hw] at this
 ·cases h2
def volE(zs:List Ev):Int:=if tchk zs=0 then sumQ (trs zs) else 0
def cntE(zs:List Ev):Int:=if tchk zs=0 then ((trs zs).length:Int) else 0
def lasE(zs:List Ev):Int:=if tchk zs=0 then lastP (trs zs) else 0
theorem zDC(v:Value)(zs:List Ev)(w:World)(h:EL w v zs) :
  Calls prog 14 #[v] w fun e w'=>e=.returned (.tuple #[.int .i64 (volE zs),.int .i64 (cntE zs),errV (tchk zs)])∧Bw w w':=by
 have gG:=hidT (wAf v zs w h);by_cases hz:tchk zs=0
 rotate_left
 ·have e1:volE zs=0:=if_neg hz;have e2:cntE zs=0:=if_neg hz;rw[e1,e2,wAb hz];rw[wAb hz] at gG;clear e1 e2;generalize tchk zs=k at *;go_enter func14,ntmps14;go_wp2_with fail;refine gG.out.mono ?_;rintro e w1⟨rfl,hb⟩;go_wp2_with fail
  go_ret3
  exact⟨rfl,hb⟩
 obtain⟨h4,Ue⟩:=zEM hz;have hsb:=zDB (trs zs) (zJr Ue);have gP:(trs zs).length≤400:=jM (zGn zs) h4;have Mi:Hid (∀W,Bw w W→_):=fun W hW=>zFq v zs W (h.below hW) h4
 have e1:volE zs=sumQ (trs zs):=if_pos hz;have e2:cntE zs=((trs zs).length:Int):=if_pos hz;rw[e1,e2,hz,wAa];rw[hz,wAa] at gG;have HSB:Hid (∀k,k≤(trs zs).length→0≤sumQ ((trs zs).take k)∧sumQ ((trs zs).take k)≤4000000):=fun k hk=>by
  have h1:=zDB ((trs zs).take k) (fun t ht=>zJr Ue t (List.mem_of_mem_take ht))
  rw[jJ] at h1;refine⟨h1.1,?_⟩;have:=h1.2;omega
 have HTD:Hid (∀k,k<(trs zs).length→1≤((trs zs)[k]!).qty∧((trs zs)[k]!).qty≤10000):=fun k hk=>by
  have:=zJr Ue ((trs zs)[k]!) (by rw[getE _ _ hk];exact jT hk)
  generalize (trs zs)[k]! = t at *;simp[tdB] at this;omega
 clear e1 e2 hz Ue hsb h h4;generalize trs zs=TS at *;go_enter func14,ntmps14;go_wp2_with fail;refine gG.out.mono ?_;rintro e w1⟨rfl,hb⟩;have GT:=hidT (Mi.out w1 hb);have He:=hidT hb;clear hb gG Mi;go_wp2_with fail;refine GT.out.mono ?_;rintro e w2⟨tv,rfl,hO,Hc⟩;obtain⟨q,c,rfl⟩:=OwnM.form hO;have HO:=hidT hO;have Hg:=hidT (He.out.trans (Hc.mono He.out.size));obtain⟨n,hN⟩:∃n,TS.length=n:=⟨_,rfl⟩;have HN:=hidT hN;simp only[hN];rw[hN] at gP;have ua:=hidT gP;clear hO Hc GT He hN gP;go_wp2_with fail;go_loopg [7,9,19] n (fun gg s7 s9 s19 wr=>∃ (kk:Nat),kk≤n∧n - kk≤gg∧s7=.int .i64 (sumQ (TS.take kk))∧s19=.int .i64 kk∧Aside (Below w2.heap.size w2 wr))
 case atStart=>exact⟨0,jL _,by omega,rfl,rfl,bzR _ _⟩
 case round=>
  obtain⟨kk,gh,hg,rfl,rfl,HA⟩:=hrel;by_cases Hj:kk<n
  ·have Hq:(kk:Int)<(n:Int):=by omega
   have gU:¬((kk:Int)<0):=by omega
   have Hv:kk<TS.length:=by rw[HN.out];exact Hj
   obtain⟨g,off,rfl,-,m8,gT⟩:=HO.out.at Hv;obtain⟨x,hx⟩:∃x,TS[kk]! = x:=⟨_,rfl⟩;have Hm:=HSB.out kk (by omega)
   have gd:=HTD.out kk Hv;have uT:=zNl Hv;rw[hx] at gT gd uT;obtain⟨t1,t2,t3,t4,t5,t6⟩:=x;simp only at gd uT;have c0:=zAa HA.out (gT 0 _ rfl);have c1:=zAa HA.out (gT 1 _ rfl);have c2:=zAa HA.out (gT 2 _ rfl);have c3:=zAa HA.out (gT 3 _ rfl);have c4:=zAa HA.out (gT 4 _ rfl);have c5:=zAa HA.out (gT 5 _ rfl);simp only[Nat.add_zero] at c0;have pQ:=hidT (zCy kk n Hj (by have:=ua.out;omega))
   have uw:Hid (kk<n∧n - kk≤gk):=⟨Hj,hg⟩;have M5:=hidT uT;generalize sumQ (TS.take kk)=S at *;have HWS:Hid (wrap64 (S+t6)=S+t6):=by show _=_;unfold wrap64;omega
   have uI:=hidT (HA.out.alloc HA.out.size (.cells #[.int .i64 t1,.int .i64 t2,.int .i64 t3,.int .i64 t4,.int .i64 t5,.int .i64 t6] 29));clear gT hx gh hg Hj Hm gd uT;go_wp2_with fail;go_roundg (n - (kk+1))
   case measure=>have:=uw.out;omega
   case rel=>exact⟨kk+1,uw.out.1,nzR _,congrArg (Value.int .i64) (HWS.out.trans M5.out.symm),congrArg (Value.int .i64) pQ.out,uI.out⟩
  ·have ED:kk=n:=by omega
   subst ED;have Hq:¬(kk:Int)<(kk:Int):=by omega
   have hS:TS.take kk=TS:=List.take_of_length_le (by rw[HN.out];exact nzR _)
   rw[hS];go_wp2_with fail
   go_ret3
   exact⟨by rw[HN.out];rfl,Hg.out.trans (HA.out.mono Hg.out.size)⟩
theorem wBb(v:Value)(zs:List Ev)(w:World)(h:EL w v zs) :
  Calls prog 9 #[v] w fun e w'=>e=.returned (.tuple #[.int .i64 (lasE zs),errV (tchk zs)])∧Bw w w':=by
 have gG:=hidT (wAf v zs w h);by_cases hz:tchk zs=0
 rotate_left
 ·have e1:lasE zs=0:=if_neg hz;rw[e1,wAb hz];rw[wAb hz] at gG;clear e1;generalize tchk zs=k at *;go_enter func9,ntmps9;go_wp2_with fail;refine gG.out.mono ?_;rintro e w1⟨rfl,hb⟩;go_wp2_with fail
  go_ret2
  exact⟨rfl,hb⟩
 obtain⟨h4,Ue⟩:=zEM hz;have gP:(trs zs).length≤400:=jM (zGn zs) h4;have Mi:Hid (∀W,Bw w W→_):=fun W hW=>zFq v zs W (h.below hW) h4
 have e1:lasE zs=lastP (trs zs):=if_pos hz;rw[e1,hz,wAa];rw[hz,wAa] at gG;clear e1 hz Ue h h4;generalize trs zs=TS at *;go_enter func9,ntmps9;go_wp2_with fail;refine gG.out.mono ?_;rintro e w1⟨rfl,hb⟩;have GT:=hidT (Mi.out w1 hb);have He:=hidT hb;clear hb gG Mi;go_wp2_with fail;refine GT.out.mono ?_;rintro e w2⟨tv,rfl,hO,Hc⟩;obtain⟨q,c,rfl⟩:=OwnM.form hO;have HO:=hidT hO;have Hg:=hidT (He.out.trans (Hc.mono He.out.size));obtain⟨n,hN⟩:∃n,TS.length=n:=⟨_,rfl⟩;have HN:=hidT hN;simp only[hN];rw[hN] at gP;have ua:=hidT gP;clear hO Hc GT He hN gP;go_wp2_with fail;go_loopg [5,7,16] n (fun gg s5 s7 s16 wr=>∃ (kk:Nat),kk≤n∧n - kk≤gg∧s5=.int .i64 (lastP (TS.take kk))∧s16=.int .i64 kk∧Aside (Below w2.heap.size w2 wr))
 case atStart=>exact⟨0,jL _,by omega,rfl,rfl,bzR _ _⟩
 case round=>
  obtain⟨kk,gh,hg,rfl,rfl,HA⟩:=hrel;by_cases Hj:kk<n
  ·have Hq:(kk:Int)<(n:Int):=by omega
   have gU:¬((kk:Int)<0):=by omega
   have Hv:kk<TS.length:=by rw[HN.out];exact Hj
   obtain⟨g,off,rfl,-,m8,gT⟩:=HO.out.at Hv;obtain⟨x,hx⟩:∃x,TS[kk]! = x:=⟨_,rfl⟩;have uT:=zKu Hv;rw[hx] at gT uT;obtain⟨t1,t2,t3,t4,t5,t6⟩:=x;simp only at uT;have c0:=zAa HA.out (gT 0 _ rfl);have c1:=zAa HA.out (gT 1 _ rfl);have c2:=zAa HA.out (gT 2 _ rfl);have c3:=zAa HA.out (gT 3 _ rfl);have c4:=zAa HA.out (gT 4 _ rfl);have c5:=zAa HA.out (gT 5 _ rfl);simp only[Nat.add_zero] at c0;have pQ:=hidT (zCy kk n Hj (by have:=ua.out;omega))
   have uw:Hid (kk<n∧n - kk≤gk):=⟨Hj,hg⟩;have M5:=hidT uT;generalize lastP (TS.take kk)=S at *;have uI:=hidT (HA.out.alloc HA.out.size (.cells #[.int .i64 t1,.int .i64 t2,.int .i64 t3,.int .i64 t4,.int .i64 t5,.int .i64 t6] 29));clear gT hx gh hg Hj uT;go_wp2_with fail;go_roundg (n - (kk+1))
   case measure=>have:=uw.out;omega
   case rel=>exact⟨kk+1,uw.out.1,nzR _,congrArg (Value.int .i64) M5.out.symm,congrArg (Value.int .i64) pQ.out,uI.out⟩
  ·have ED:kk=n:=by omega
   subst ED;have Hq:¬(kk:Int)<(kk:Int):=by omega
   have hS:TS.take kk=TS:=List.take_of_length_le (by rw[HN.out];exact nzR _)
   rw[hS];go_wp2_with fail
   go_ret2
   exact⟨rfl,Hg.out.trans (HA.out.mono Hg.out.size)⟩
end tap
end Go.Proofs.YtmhcghgfpfainaaGreatDoor
