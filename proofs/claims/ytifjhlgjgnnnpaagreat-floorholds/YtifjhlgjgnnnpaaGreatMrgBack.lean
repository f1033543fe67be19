import Derived.Test.YtifjhlgjgnnnpaaGreatMrgSl
import Derived.Deep.RegionHeld3
import Derived.OwnWalk
set_option maxHeartbeats 4000000
set_option maxRecDepth 100000
namespace Go.Proofs.YtifjhlgjgnnnpaaGreat
namespace mrg
open Go.RowKit mee
open spn (zAa bcell zAo zBC zBL zBb zAA zAO scheck1 scheck2 zAk)
open ord (O oV chk errV errV_zero errV_of check_any mB mE zAx bal prB)
theorem hidM{P:Prop}(h:P):Hid P:=h
def resv(o:O):Int:=if o.kind=2 then 10000 else o.price
def putC(s p q:Int):Int:=if s=1 then wrap64 (p*q) else 0
def putS(s q:Int):Int:=if s=1 then 0 else q
theorem zGt(s p q:Int)(w:World):Calls Tryz.prog 39 #[.int .i64 s,.int .i64 p,.int .i64 q] w fun e w'=>e=.returned (.tuple #[.int .i64 (putC s p q),.int .i64 (putS s q)])∧w'=w:=by
 by_cases h:s=1
 ·subst h
  have e1:putC 1 p q=wrap64 (p*q):=if_pos rfl
  have e2:putS 1 q=0:=if_pos rfl
  rw[e1,e2]
  clear e1 e2
  go_enter Tryz.func39,Tryz.ntmps39
  go_wp2
  go_ret2
  exact⟨rfl,rfl⟩
 ·have h1:(s == 1)=false:=by simp[h]
  have e1:putC s p q=0:=if_neg h
  have e2:putS s q=q:=if_neg h
  rw[e1,e2]
  clear e1 e2
  go_enter Tryz.func39,Tryz.ntmps39
  go_wp2
  go_ret2
  exact⟨rfl,rfl⟩
theorem zGu(a b c d p q s t:Int)(w:World):Calls Tryz.prog 42 #[.agg #[.int .i64 a,.int .i64 b,.int .i64 c,.int .i64 d,.int .i64 p,.int .i64 q,.int .i64 s,.int .i64 t]] w fun e w'=>e=.returned (.int .i64 (resv ⟨a,b,c,d,p,q,s,t⟩))∧Below w.heap.size w w':=by
 by_cases h:d=2
 ·have e1:resv ⟨a,b,c,d,p,q,s,t⟩=10000:=if_pos h
  rw[e1]
  subst h
  go_enter Tryz.func42,Tryz.ntmps42
  go_wp2
  go_ret
  exact⟨rfl,(bzR _ _).alloc (nzR _) _⟩
 ·have h1:(d == 2)=false:=by simp[h]
  have e1:resv ⟨a,b,c,d,p,q,s,t⟩=p:=if_neg h
  rw[e1]
  clear e1
  go_enter Tryz.func42,Tryz.ntmps42
  go_wp2
  go_ret
  exact⟨rfl,(bzR _ _).alloc (nzR _) _⟩
theorem zEN(V:World)(a b c d p q s t:Int)(w:World)(h:Below V.heap.size V w):Calls Tryz.prog 42 #[.agg #[.int .i64 a,.int .i64 b,.int .i64 c,.int .i64 d,.int .i64 p,.int .i64 q,.int .i64 s,.int .i64 t]] w fun e w'=>e=.returned (.int .i64 (resv ⟨a,b,c,d,p,q,s,t⟩))∧Below V.heap.size V w':=
 (zGu a b c d p q s t w).mono fun _ _ h'=>⟨h'.1,h.trans (h'.2.mono h.size)⟩
theorem zLs(V:World)(s p q:Int)(w:World)(h:Below V.heap.size V w):Calls Tryz.prog 39 #[.int .i64 s,.int .i64 p,.int .i64 q] w fun e w'=>e=.returned (.tuple #[.int .i64 (putC s p q),.int .i64 (putS s q)])∧Below V.heap.size V w':=
 (zGt s p q w).mono fun _ _ h'=>⟨h'.1,h'.2 ▸ h⟩
def forC(o:O):Int:=if chk o=0 then putC o.side (resv o) o.qty else 0
def forS(o:O):Int:=if chk o=0 then putS o.side o.qty else 0
theorem zOj(a b c d p q s t:Int)(w:World) :
  Calls Tryz.prog 15 #[.agg #[.int .i64 a,.int .i64 b,.int .i64 c,.int .i64 d,.int .i64 p,.int .i64 q,.int .i64 s,.int .i64 t]] w fun e w'=>e=.returned (.tuple #[.int .i64 (forC ⟨a,b,c,d,p,q,s,t⟩),.int .i64 (forS ⟨a,b,c,d,p,q,s,t⟩),errV (chk ⟨a,b,c,d,p,q,s,t⟩)])∧Below w.heap.size w w':=by
 have HCK:Hid (∀W,Calls Tryz.prog 41 #[.agg #[.int .i64 a,.int .i64 b,.int .i64 c,.int .i64 d,.int .i64 p,.int .i64 q,.int .i64 s,.int .i64 t]] W fun e w'=>e=.returned (errV (chk ⟨a,b,c,d,p,q,s,t⟩))∧Below W.heap.size W w'):=fun W=>check_any ⟨a,b,c,d,p,q,s,t⟩ W
 by_cases h0:chk ⟨a,b,c,d,p,q,s,t⟩=0
 rotate_left
 ·have e1:forC ⟨a,b,c,d,p,q,s,t⟩=0:=if_neg h0
  have e2:forS ⟨a,b,c,d,p,q,s,t⟩=0:=if_neg h0
  rw[e1,e2,errV_of h0]
  rw[errV_of h0] at HCK
  clear e1 e2
  generalize chk ⟨a,b,c,d,p,q,s,t⟩=k at *
  go_enter Tryz.func15,Tryz.ntmps15
  go_wp2_with fail
  refine(HCK.out _).mono ?_
  rintro e w1⟨rfl,hb⟩
  have hW:Below w.heap.size w w1:=((bzR _ _).alloc (nzR _) _).trans (hb.mono (by simp))
  go_wp2_with fail
  go_ret3
  exact⟨rfl,hW⟩
 have e1:forC ⟨a,b,c,d,p,q,s,t⟩=putC c (resv ⟨a,b,c,d,p,q,s,t⟩) q:=if_pos h0
 have e2:forS ⟨a,b,c,d,p,q,s,t⟩=putS c q:=if_pos h0
 rw[e1,e2,h0,errV_zero]
 rw[h0,errV_zero] at HCK
 clear e1 e2 h0
 have HRS:Hid (∀V W,Below V.heap.size V W→Calls Tryz.prog 42 #[.agg #[.int .i64 a,.int .i64 b,.int .i64 c,.int .i64 d,.int .i64 p,.int .i64 q,.int .i64 s,.int .i64 t]] W fun e w'=>e=.returned (.int .i64 (resv ⟨a,b,c,d,p,q,s,t⟩))∧Below V.heap.size V w'):=fun V W h=>zEN V a b c d p q s t W h
 generalize resv ⟨a,b,c,d,p,q,s,t⟩=rv at *
 go_enter Tryz.func15,Tryz.ntmps15
 go_wp2_with fail
 refine(HCK.out _).mono ?_
 rintro e w1⟨rfl,hb⟩
 have hW:Below w.heap.size w w1:=((bzR _ _).alloc (nzR _) _).trans (hb.mono (by simp))
 have d0:w1.cell? ⟨w.heap.size,0,none⟩=some (.int .i64 a):=zAa hb (by simp)
 have d1:w1.cell? ⟨w.heap.size,1,none⟩=some (.int .i64 b):=zAa hb (by simp)
 have d2:w1.cell? ⟨w.heap.size,2,none⟩=some (.int .i64 c):=zAa hb (by simp)
 have d3:w1.cell? ⟨w.heap.size,3,none⟩=some (.int .i64 d):=zAa hb (by simp)
 have d4:w1.cell? ⟨w.heap.size,4,none⟩=some (.int .i64 p):=zAa hb (by simp)
 have d5:w1.cell? ⟨w.heap.size,5,none⟩=some (.int .i64 q):=zAa hb (by simp)
 have d6:w1.cell? ⟨w.heap.size,6,none⟩=some (.int .i64 s):=zAa hb (by simp)
 have d7:w1.cell? ⟨w.heap.size,7,none⟩=some (.int .i64 t):=zAa hb (by simp)
 clear hb
 have SO:Hid (∀W,Below w1.heap.size w1 W→(Below w1.heap.size w1 W∧W.cell? ⟨w.heap.size,0,none⟩=some (.int .i64 a)∧W.cell? ⟨w.heap.size,1,none⟩=some (.int .i64 b)∧W.cell? ⟨w.heap.size,2,none⟩=some (.int .i64 c)∧W.cell? ⟨w.heap.size,3,none⟩=some (.int .i64 d)∧W.cell? ⟨w.heap.size,4,none⟩=some (.int .i64 p)∧W.cell? ⟨w.heap.size,5,none⟩=some (.int .i64 q)∧W.cell? ⟨w.heap.size,6,none⟩=some (.int .i64 s)∧W.cell? ⟨w.heap.size,7,none⟩=some (.int .i64 t))):=fun W hW=>⟨hW,zAa hW d0,zAa hW d1,zAa hW d2,zAa hW d3,zAa hW d4,zAa hW d5,zAa hW d6,zAa hW d7⟩
 go_upto_region 4 with fail
 go_region_held3 (fun W=>Below w1.heap.size w1 W∧W.cell? ⟨w.heap.size,0,none⟩=some (.int .i64 a)∧W.cell? ⟨w.heap.size,1,none⟩=some (.int .i64 b)∧W.cell? ⟨w.heap.size,2,none⟩=some (.int .i64 c)∧W.cell? ⟨w.heap.size,3,none⟩=some (.int .i64 d)∧W.cell? ⟨w.heap.size,4,none⟩=some (.int .i64 p)∧W.cell? ⟨w.heap.size,5,none⟩=some (.int .i64 q)∧W.cell? ⟨w.heap.size,6,none⟩=some (.int .i64 s)∧W.cell? ⟨w.heap.size,7,none⟩=some (.int .i64 t))
  ((refine SO.out _ ?_;(with_reducible repeat' (first|assumption|refine bal ?_ _|refine Below.drew ?_|exact bzR _ _|exact nzR _|exact Below.size (by assumption)|refine jD ?_))))
  (first|(go_at_call 42;refine(HRS.out w1 _ ?_).mono ?_;(with_reducible repeat' (first|assumption|refine bal ?_ _|refine Below.drew ?_|exact bzR _ _|exact nzR _|exact Below.size (by assumption)|refine jD ?_));rintro x W ⟨rfl,hbn⟩)|(go_at_call 39;refine(zLs w1 _ _ _ _ ?_).mono ?_;(with_reducible repeat' (first|assumption|refine bal ?_ _|refine Below.drew ?_|exact bzR _ _|exact nzR _|exact Below.size (by assumption)|refine jD ?_));rintro x W2 ⟨rfl,hbn⟩))
 all_goals
  have hW2:Below w.heap.size w W2:=hW.trans (hbn.mono hW.size)
  clear SO d0 d1 d2 d3 d4 d5 d6 d7
  go_wp2_with fail
  go_ret3
  exact⟨rfl,hW2⟩
theorem zEn(o:O)(w:World) :
  Calls Tryz.prog 15 #[oV o] w fun e w'=>e=.returned (.tuple #[.int .i64 (forC o),.int .i64 (forS o),errV (chk o)])∧Below w.heap.size w w':=by
 obtain⟨a,b,c,d,p,q,s,t⟩:=o
 exact zOj a b c d p q s t w
theorem zQl(a b c d p q s t t1 t2 t3 t4 t5 t6:Int)(w:World)(k:Int)(hm:∀W,Calls Tryz.prog 136 #[.agg #[.int .i64 a,.int .i64 b,.int .i64 c,.int .i64 d,.int .i64 p,.int .i64 q,.int .i64 s,.int .i64 t],.int .i64 t5] W fun e w'=>e=.returned (.tuple #[.bool false,.iface 91 (.int .i64 k)])∧Below W.heap.size W w') :
  Calls Tryz.prog 128 #[.agg #[.int .i64 a,.int .i64 b,.int .i64 c,.int .i64 d,.int .i64 p,.int .i64 q,.int .i64 s,.int .i64 t],.agg #[.int .i64 t1,.int .i64 t2,.int .i64 t3,.int .i64 t4,.int .i64 t5,.int .i64 t6]] w fun e w'=>e=.returned (.iface 91 (.int .i64 k))∧Below w.heap.size w w':=by
 have HM:=hidM hm
 clear hm
 go_enter Tryz.func128,Tryz.ntmps128
 go_wp2_with fail
 refine(HM.out _).mono ?_
 rintro e w1⟨rfl,hb⟩
 have hW:Below w.heap.size w w1:=(((bzR _ _).alloc (nzR _) _).alloc (by simp) _).trans (hb.mono (by simp;omega))
 go_wp2_with fail
 go_ret
 exact⟨rfl,hW⟩
theorem zQm(a b c d p q s t t1 t2 t3 t4 t5 t6:Int)(w:World)(m:Bool)(hm:∀W,Calls Tryz.prog 136 #[.agg #[.int .i64 a,.int .i64 b,.int .i64 c,.int .i64 d,.int .i64 p,.int .i64 q,.int .i64 s,.int .i64 t],.int .i64 t5] W fun e w'=>e=.returned (.tuple #[.bool m,.nilIface])∧Below W.heap.size W w')(hq:[(t6,1,10000)].any zAo=true) :
  Calls Tryz.prog 128 #[.agg #[.int .i64 a,.int .i64 b,.int .i64 c,.int .i64 d,.int .i64 p,.int .i64 q,.int .i64 s,.int .i64 t],.agg #[.int .i64 t1,.int .i64 t2,.int .i64 t3,.int .i64 t4,.int .i64 t5,.int .i64 t6]] w fun e w'=>e=.returned (.iface 91 (.int .i64 1))∧Below w.heap.size w w':=by
 have HM:=hidM hm
 have HQ:=hidM hq
 clear hm hq
 go_enter Tryz.func128,Tryz.ntmps128
 go_wp2_with fail
 refine(HM.out _).mono ?_
 rintro e w1⟨rfl,hb⟩
 have hW:Below w.heap.size w w1:=(((bzR _ _).alloc (nzR _) _).alloc (by simp) _).trans (hb.mono (by simp;omega))
 have d0:w1.cell? ⟨w.heap.size,0,none⟩=some (.int .i64 a):=zAa hb (by simp)
 have d1:w1.cell? ⟨w.heap.size+1,1,none⟩=some (.int .i64 t2):=zAa hb (by simp)
 have d5:w1.cell? ⟨w.heap.size+1,5,none⟩=some (.int .i64 t6):=zAa hb (by simp)
 clear hb
 go_wp2_with fail
 refine(zBb t6 _).mono ?_
 rintro x w2⟨rfl,hb2⟩
 have hW2:=hW.trans (hb2.mono hW.size)
 have c0:=zAa hb2 d0
 have c1:=zAa hb2 d1
 clear hb2 d0 d1 d5
 go_wp2_with fail
 refine(scheck1 true _ _ _ _ _ rfl HQ.out).mono ?_
 rintro x w3⟨rfl,hb3⟩
 have hW3:=hW2.trans (hb3.mono hW2.size)
 have d0:=zAa hb3 c0
 have d1:=zAa hb3 c1
 clear hb3 c0 c1
 simp only[show spn.errV (zAk true)=.iface 91 (.int .i64 1) from rfl]
 go_wp2_with fail
 go_ret
 exact⟨rfl,hW3⟩
theorem zLt(a b c d p q s t t1 t2 t3 t4 t5 t6:Int)(w:World)(m:Bool)(hm:∀W,Calls Tryz.prog 136 #[.agg #[.int .i64 a,.int .i64 b,.int .i64 c,.int .i64 d,.int .i64 p,.int .i64 q,.int .i64 s,.int .i64 t],.int .i64 t5] W fun e w'=>e=.returned (.tuple #[.bool m,.nilIface])∧Below W.heap.size W w')(hq:[(t6,1,10000)].any zAo=false)(hk:(t2 != a)=true) :
  Calls Tryz.prog 128 #[.agg #[.int .i64 a,.int .i64 b,.int .i64 c,.int .i64 d,.int .i64 p,.int .i64 q,.int .i64 s,.int .i64 t],.agg #[.int .i64 t1,.int .i64 t2,.int .i64 t3,.int .i64 t4,.int .i64 t5,.int .i64 t6]] w fun e w'=>e=.returned (.iface 91 (.int .i64 3))∧Below w.heap.size w w':=by
 have HM:=hidM hm
 have HQ:=hidM hq
 clear hm hq
 go_enter Tryz.func128,Tryz.ntmps128
 go_wp2_with fail
 refine(HM.out _).mono ?_
 rintro e w1⟨rfl,hb⟩
 have hW:Below w.heap.size w w1:=(((bzR _ _).alloc (nzR _) _).alloc (by simp) _).trans (hb.mono (by simp;omega))
 have d0:w1.cell? ⟨w.heap.size,0,none⟩=some (.int .i64 a):=zAa hb (by simp)
 have d1:w1.cell? ⟨w.heap.size+1,1,none⟩=some (.int .i64 t2):=zAa hb (by simp)
 have d5:w1.cell? ⟨w.heap.size+1,5,none⟩=some (.int .i64 t6):=zAa hb (by simp)
 clear hb
 go_wp2_with fail
 refine(zBb t6 _).mono ?_
 rintro x w2⟨rfl,hb2⟩
 have hW2:=hW.trans (hb2.mono hW.size)
 have c0:=zAa hb2 d0
 have c1:=zAa hb2 d1
 clear hb2 d0 d1 d5
 go_wp2_with fail
 refine(scheck1 false _ _ _ _ _ rfl HQ.out).mono ?_
 rintro x w3⟨rfl,hb3⟩
 have hW3:=hW2.trans (hb3.mono hW2.size)
 have d0:=zAa hb3 c0
 have d1:=zAa hb3 c1
 clear hb3 c0 c1
 simp only[show spn.errV (zAk false)=.nilIface from rfl]
 go_wp2_with fail
 go_ret
 exact⟨rfl,hW3⟩
theorem zOk(a b c d p q s t t1 t2 t3 t4 t5 t6:Int)(w:World)(m:Bool)(hm:∀W,Calls Tryz.prog 136 #[.agg #[.int .i64 a,.int .i64 b,.int .i64 c,.int .i64 d,.int .i64 p,.int .i64 q,.int .i64 s,.int .i64 t],.int .i64 t5] W fun e w'=>e=.returned (.tuple #[.bool m,.nilIface])∧Below W.heap.size W w')(hq:[(t6,1,10000)].any zAo=false)(hk:(t2 != a)=false)(hmm:m=false) :
  Calls Tryz.prog 128 #[.agg #[.int .i64 a,.int .i64 b,.int .i64 c,.int .i64 d,.int .i64 p,.int .i64 q,.int .i64 s,.int .i64 t],.agg #[.int .i64 t1,.int .i64 t2,.int .i64 t3,.int .i64 t4,.int .i64 t5,.int .i64 t6]] w fun e w'=>e=.returned (.iface 91 (.int .i64 3))∧Below w.heap.size w w':=by
 subst hmm
 have HM:=hidM hm
 have HQ:=hidM hq
 clear hm hq
 go_enter Tryz.func128,Tryz.ntmps128
 go_wp2_with fail
 refine(HM.out _).mono ?_
 rintro e w1⟨rfl,hb⟩
 have hW:Below w.heap.size w w1:=(((bzR _ _).alloc (nzR _) _).alloc (by simp) _).trans (hb.mono (by simp;omega))
 have d0:w1.cell? ⟨w.heap.size,0,none⟩=some (.int .i64 a):=zAa hb (by simp)
 have d1:w1.cell? ⟨w.heap.size+1,1,none⟩=some (.int .i64 t2):=zAa hb (by simp)
 have d5:w1.cell? ⟨w.heap.size+1,5,none⟩=some (.int .i64 t6):=zAa hb (by simp)
 clear hb
 go_wp2_with fail
 refine(zBb t6 _).mono ?_
 rintro x w2⟨rfl,hb2⟩
 have hW2:=hW.trans (hb2.mono hW.size)
 have c0:=zAa hb2 d0
 have c1:=zAa hb2 d1
 clear hb2 d0 d1 d5
 go_wp2_with fail
 refine(scheck1 false _ _ _ _ _ rfl HQ.out).mono ?_
 rintro x w3⟨rfl,hb3⟩
 have hW3:=hW2.trans (hb3.mono hW2.size)
 have d0:=zAa hb3 c0
 have d1:=zAa hb3 c1
 clear hb3 c0 c1
 simp only[show spn.errV (zAk false)=.nilIface from rfl]
 go_wp2_with fail
 go_ret
 exact⟨rfl,hW3⟩
theorem zOl(a b c d p q s t t1 t2 t3 t4 t5 t6:Int)(w:World)(m:Bool)(hm:∀W,Calls Tryz.prog 136 #[.agg #[.int .i64 a,.int .i64 b,.int .i64 c,.int .i64 d,.int .i64 p,.int .i64 q,.int .i64 s,.int .i64 t],.int .i64 t5] W fun e w'=>e=.returned (.tuple #[.bool m,.nilIface])∧Below W.heap.size W w')(hq:[(t6,1,10000)].any zAo=false)(hk:(t2 != a)=false)(hmm:m=true) :
  Calls Tryz.prog 128 #[.agg #[.int .i64 a,.int .i64 b,.int .i64 c,.int .i64 d,.int .i64 p,.int .i64 q,.int .i64 s,.int .i64 t],.agg #[.int .i64 t1,.int .i64 t2,.int .i64 t3,.int .i64 t4,.int .i64 t5,.int .i64 t6]] w fun e w'=>e=.returned (.nilIface)∧Below w.heap.size w w':=by
 subst hmm
 have HM:=hidM hm
 have HQ:=hidM hq
 clear hm hq
 go_enter Tryz.func128,Tryz.ntmps128
 go_wp2_with fail
 refine(HM.out _).mono ?_
 rintro e w1⟨rfl,hb⟩
 have hW:Below w.heap.size w w1:=(((bzR _ _).alloc (nzR _) _).alloc (by simp) _).trans (hb.mono (by simp;omega))
 have d0:w1.cell? ⟨w.heap.size,0,none⟩=some (.int .i64 a):=zAa hb (by simp)
 have d1:w1.cell? ⟨w.heap.size+1,1,none⟩=some (.int .i64 t2):=zAa hb (by simp)
 have d5:w1.cell? ⟨w.heap.size+1,5,none⟩=some (.int .i64 t6):=zAa hb (by simp)
 clear hb
 go_wp2_with fail
 refine(zBb t6 _).mono ?_
 rintro x w2⟨rfl,hb2⟩
 have hW2:=hW.trans (hb2.mono hW.size)
 have c0:=zAa hb2 d0
 have c1:=zAa hb2 d1
 clear hb2 d0 d1 d5
 go_wp2_with fail
 refine(scheck1 false _ _ _ _ _ rfl HQ.out).mono ?_
 rintro x w3⟨rfl,hb3⟩
 have hW3:=hW2.trans (hb3.mono hW2.size)
 have d0:=zAa hb3 c0
 have d1:=zAa hb3 c1
 clear hb3 c0 c1
 simp only[show spn.errV (zAk false)=.nilIface from rfl]
 go_wp2_with fail
 go_ret
 exact⟨rfl,hW3⟩
def qtB(n:Int):Bool:=decide (1≤n) && decide (n≤10000)
def ctE(o:O)(x:T):Int:=if prB x.price && qtB x.qty then (if x.taker=o.id∧mB o x.price=true then 0 else 3) else 1
theorem zQn(n:Int):[(n,1,10000)].any zAo = !qtB n:=by
 rw[Bool.eq_iff_iff]
 simp[zAo,qtB]
theorem zQo(o:O)(x:T)(w:World)(h:chk o=0) :
  Calls Tryz.prog 128 #[oV o,.agg (tV x).toArray] w fun e w'=>e=.returned (errV (ctE o x))∧Below w.heap.size w w':=by
 have hm:=fun W=>zAx o x.price W
 have hq:=zQn x.qty
 obtain⟨a,b,c,d,p,q,s,t⟩:=o
 obtain⟨t1,t2,t3,t4,t5,t6⟩:=x
 unfold ctE
 simp only
 simp only at hm hq
 unfold mE at hm
 rw[if_pos h] at hm
 generalize mB ⟨a,b,c,d,p,q,s,t⟩ t5=m at *
 cases hp:prB t5
 ·rw[hp] at hm
  exact zQl a b c d p q s t t1 t2 t3 t4 t5 t6 w 1 hm
 ·rw[hp] at hm
  simp only[if_true] at hm
  cases hqq:qtB t6
  ·rw[hqq] at hq
   exact zQm a b c d p q s t t1 t2 t3 t4 t5 t6 w m hm hq
  ·rw[hqq] at hq
   simp only[Bool.and_self,if_true]
   by_cases hk:t2=a
   ·cases m
    ·rw[if_neg (by simp)]
     exact zOk a b c d p q s t t1 t2 t3 t4 t5 t6 w false hm hq (by simp[hk]) rfl
    ·rw[if_pos ⟨hk,rfl⟩]
     exact zOl a b c d p q s t t1 t2 t3 t4 t5 t6 w true hm hq (by simp[hk]) rfl
   ·rw[if_neg (fun h=>hk h.1)]
    exact zLt a b c d p q s t t1 t2 t3 t4 t5 t6 w m hm hq (by simp[hk])
def bkE(o:O):List T→Int
 | []=>0
 | x::t=>if ctE o x=0 then bkE o t else ctE o x
def bkC(o:O):Int→List T→Int
 | c,[]=>c
 | c,x::t=>bkC o (if o.side=1 then wrap64 (c+(resv o - x.price)*x.qty) else c) t
def zBh(o:O)(ts:List T)(g:Int):Int:=if chk o=0 then (if 0≤g∧g≤o.qty then bkE o ts else 1) else chk o
def zBW(o:O)(ts:List T)(g:Int):Int:=if zBh o ts g=0 then bkC o (putC o.side (resv o) g) ts else 0
def zBX(o:O)(ts:List T)(g:Int):Int:=if zBh o ts g=0 then putS o.side g else 0
theorem stepW(k:Nat)(h:k+1≤9223372036854775807):wrap64 ((k:Int)+1)=((k+1:Nat):Int):=by
 unfold wrap64
 omega
theorem drop_at(ts:List T)(k:Nat)(h:k<ts.length):ts.drop k=ts[k]!::ts.drop (k+1):=by
 rw[getE ts k h]
 exact List.drop_eq_getElem_cons h
theorem zOm(g q:Int):[(g,0,q)].any zAo = !decide (0≤g∧g≤q):=by
 rw[Bool.eq_iff_iff]
 simp[zAo]
theorem zAX{o:O}(h:chk o=0):0≤resv o∧resv o≤10000∧1≤o.qty∧o.qty≤10000∧(o.side=1∨o.side=2):=by
 obtain⟨h1,h2,h3,-,-⟩:=ord.zBx h
 simp[ord.qtyB] at h3
 simp[ord.zCM] at h1
 unfold resv
 unfold ord.zAP at h2
 by_cases hk:o.kind=2
 ·rw[if_pos hk];omega
 ·rw[if_neg hk] at h2 ⊢
  simp[prB] at h2
  omega
theorem zDR{o:O}{x:T}(h:ctE o x=0):1≤x.price∧x.price≤10000∧1≤x.qty∧x.qty≤10000∧x.taker=o.id∧mB o x.price=true:=by
 unfold ctE at h
 by_cases h1:(prB x.price && qtB x.qty)=true
 ·rw[if_pos h1] at h
  by_cases h2:x.taker=o.id∧mB o x.price=true
  ·simp[prB,qtB] at h1
   exact⟨by omega,by omega,by omega,by omega,h2⟩
  ·rw[if_neg h2] at h;omega
 ·rw[if_neg h1] at h;omega
theorem zJk{r x y:Int}(h1:0≤r∧r≤10000)(h2:1≤x∧x≤10000)(h3:1≤y∧y≤10000):wrap64 (r - x)=r - x∧wrap64 ((r - x)*y)=(r - x)*y:=by
 have e1:wrap64 (r - x)=r - x:=by unfold wrap64;omega
 refine⟨e1,?_⟩
 have a1 : -10000*y≤(r - x)*y:=Int.mul_le_mul_of_nonneg_right (by omega) (by omega)
 have a2:(r - x)*y≤10000*y:=Int.mul_le_mul_of_nonneg_right (by omega) (by omega)
 generalize (r - x)*y=z at *
 unfold wrap64
 omega
theorem zLu{r x y:Int}(c:Int)(h:wrap64 (r - x)=r - x∧wrap64 ((r - x)*y)=(r - x)*y):IntKind.i64.wrap (c+IntKind.i64.wrap (IntKind.i64.wrap (r - x)*y))=wrap64 (c+(r - x)*y):=by
 have e1:IntKind.i64.wrap (r - x)=r - x:=(IntWalk.i64_left _).trans h.1
 have e2:IntKind.i64.wrap ((r - x)*y)=(r - x)*y:=(IntWalk.i64_left _).trans h.2
 rw[e1,e2]
 exact IntWalk.i64_left _
theorem zOn(a b c d p q s t g:Int)(v:Value)(k:Int)(w:World)(hck:∀W,Calls Tryz.prog 41 #[.agg #[.int .i64 a,.int .i64 b,.int .i64 c,.int .i64 d,.int .i64 p,.int .i64 q,.int .i64 s,.int .i64 t]] W fun e w'=>e=.returned (.iface 91 (.int .i64 k))∧Below W.heap.size W w') :
  Calls Tryz.prog 100 #[.agg #[.int .i64 a,.int .i64 b,.int .i64 c,.int .i64 d,.int .i64 p,.int .i64 q,.int .i64 s,.int .i64 t],v,.int .i64 g] w fun e w'=>e=.returned (.tuple #[.int .i64 0,.int .i64 0,.iface 91 (.int .i64 k)])∧Below w.heap.size w w':=by
 have HCK:=hidM hck
 clear hck
 go_enter Tryz.func100,Tryz.ntmps100
 go_wp2_with fail
 refine(HCK.out _).mono ?_
 rintro e w1⟨rfl,hb⟩
 have hW:Below w.heap.size w w1:=((bzR _ _).alloc (nzR _) _).trans (hb.mono (by simp))
 go_wp2_with fail
 go_ret3
 exact⟨rfl,hW⟩
theorem zLv(a b c d p q s t g:Int)(v:Value)(w:World)(hck:∀W,Calls Tryz.prog 41 #[.agg #[.int .i64 a,.int .i64 b,.int .i64 c,.int .i64 d,.int .i64 p,.int .i64 q,.int .i64 s,.int .i64 t]] W fun e w'=>e=.returned .nilIface∧Below W.heap.size W w')(hg:[(g,0,q)].any zAo=true) :
  Calls Tryz.prog 100 #[.agg #[.int .i64 a,.int .i64 b,.int .i64 c,.int .i64 d,.int .i64 p,.int .i64 q,.int .i64 s,.int .i64 t],v,.int .i64 g] w fun e w'=>e=.returned (.tuple #[.int .i64 0,.int .i64 0,.iface 91 (.int .i64 1)])∧Below w.heap.size w w':=by
 have HCK:=hidM hck
 have HQ:=hidM hg
 clear hck hg
 go_enter Tryz.func100,Tryz.ntmps100
 go_wp2_with fail
 refine(HCK.out _).mono ?_
 rintro e w1⟨rfl,hb⟩
 have hW:Below w.heap.size w w1:=((bzR _ _).alloc (nzR _) _).trans (hb.mono (by simp))
 have d5:w1.cell? ⟨w.heap.size,5,none⟩=some (.int .i64 q):=zAa hb (by simp)
 clear hb
 go_wp2_with fail
 refine(zBL g 0 q _).mono ?_
 rintro x w2⟨rfl,hb2⟩
 have hW2:=hW.trans (hb2.mono hW.size)
 clear hb2 d5
 go_wp2_with fail
 refine(scheck1 true _ _ _ _ _ rfl HQ.out).mono ?_
 rintro x w3⟨rfl,hb3⟩
 have hW3:=hW2.trans (hb3.mono hW2.size)
 clear hb3
 simp only[show spn.errV (zAk true)=.iface 91 (.int .i64 1) from rfl]
 go_wp2_with fail
 go_ret3
 exact⟨rfl,hW3⟩
def bkV(e c st:Int):Value:=if e=0 then .tuple #[.int .i64 c,.int .i64 st,.nilIface] else .tuple #[.int .i64 0,.int .i64 0,errV e]
theorem zLw(a b c d p q s t g:Int)(v:Value)(ts:List T)(w:World)(h0:chk ⟨a,b,c,d,p,q,s,t⟩=0)(hg:[(g,0,q)].any zAo=false)(hL:TL w v ts) :
  Calls Tryz.prog 100 #[.agg #[.int .i64 a,.int .i64 b,.int .i64 c,.int .i64 d,.int .i64 p,.int .i64 q,.int .i64 s,.int .i64 t],v,.int .i64 g] w fun e w'=>e=.returned (bkV (bkE ⟨a,b,c,d,p,q,s,t⟩ ts) (bkC ⟨a,b,c,d,p,q,s,t⟩ (putC c (resv ⟨a,b,c,d,p,q,s,t⟩) g) ts) (putS c g))∧Below w.heap.size w w':=by
 have HCK:Hid (∀W,Calls Tryz.prog 41 #[.agg #[.int .i64 a,.int .i64 b,.int .i64 c,.int .i64 d,.int .i64 p,.int .i64 q,.int .i64 s,.int .i64 t]] W fun e w'=>e=.returned .nilIface∧Below W.heap.size W w'):=fun W=>by
  have h:=check_any ⟨a,b,c,d,p,q,s,t⟩ W
  rw[h0,errV_zero] at h
  exact h
 have HRS:Hid (∀V W,Below V.heap.size V W→Calls Tryz.prog 42 #[.agg #[.int .i64 a,.int .i64 b,.int .i64 c,.int .i64 d,.int .i64 p,.int .i64 q,.int .i64 s,.int .i64 t]] W fun e w'=>e=.returned (.int .i64 (resv ⟨a,b,c,d,p,q,s,t⟩))∧Below V.heap.size V w'):=fun V W h=>zEN V a b c d p q s t W h
 have HCT:Hid (∀x W,Calls Tryz.prog 128 #[.agg #[.int .i64 a,.int .i64 b,.int .i64 c,.int .i64 d,.int .i64 p,.int .i64 q,.int .i64 s,.int .i64 t],.agg (tV x).toArray] W fun e w'=>e=.returned (errV (ctE ⟨a,b,c,d,p,q,s,t⟩ x))∧Below W.heap.size W w'):=fun x W=>zQo ⟨a,b,c,d,p,q,s,t⟩ x W h0
 have HOS:Hid (0≤resv ⟨a,b,c,d,p,q,s,t⟩∧resv ⟨a,b,c,d,p,q,s,t⟩≤10000):=⟨(zAX h0).1,(zAX h0).2.1⟩
 have HBE:Hid (∀ (kk:Nat),kk<ts.length→bkE ⟨a,b,c,d,p,q,s,t⟩ (ts.drop kk)=if ctE ⟨a,b,c,d,p,q,s,t⟩ ts[kk]! = 0 then bkE ⟨a,b,c,d,p,q,s,t⟩ (ts.drop (kk+1)) else ctE ⟨a,b,c,d,p,q,s,t⟩ ts[kk]!):=fun kk h=>by rw[drop_at ts kk h];rfl
 have HBC:Hid (∀ (kk:Nat) (cc:Int),kk<ts.length→bkC ⟨a,b,c,d,p,q,s,t⟩ cc (ts.drop kk)=bkC ⟨a,b,c,d,p,q,s,t⟩ (if c=1 then wrap64 (cc+(resv ⟨a,b,c,d,p,q,s,t⟩ - (ts[kk]!).price)*(ts[kk]!).qty) else cc) (ts.drop (kk+1))):=fun kk cc h=>by rw[drop_at ts kk h];rfl
 have HSM:Hid (∀x,ctE ⟨a,b,c,d,p,q,s,t⟩ x=0→1≤x.price∧x.price≤10000∧1≤x.qty∧x.qty≤10000):=fun x h=>⟨(zDR h).1,(zDR h).2.1,(zDR h).2.2.1,(zDR h).2.2.2.1⟩
 have HQ:=hidM hg
 have HTL:=hidM hL
 obtain⟨tq,tc,hv,hlen⟩:=hL.form
 subst hv
 have HLN:=hidM hlen
 obtain⟨BE,hBE⟩:∃x,bkE ⟨a,b,c,d,p,q,s,t⟩ ts=x:=⟨_,rfl⟩
 obtain⟨BC,hBC⟩:∃x,bkC ⟨a,b,c,d,p,q,s,t⟩ (putC c (resv ⟨a,b,c,d,p,q,s,t⟩) g) ts=x:=⟨_,rfl⟩
 have H0:Hid (BE=bkE ⟨a,b,c,d,p,q,s,t⟩ (ts.drop 0)∧BC=bkC ⟨a,b,c,d,p,q,s,t⟩ (putC c (resv ⟨a,b,c,d,p,q,s,t⟩) g) (ts.drop 0)):=⟨hBE.symm,hBC.symm⟩
 rw[hBE,hBC]
 clear hBE hBC h0 hg hL hlen
 generalize resv ⟨a,b,c,d,p,q,s,t⟩=rv at *
 generalize htl:ts.length=n at *
 have HN:=hidM htl
 clear htl
 go_enter Tryz.func100,Tryz.ntmps100
 go_wp2_with fail
 refine(HCK.out _).mono ?_
 rintro e w1⟨rfl,hb⟩
 have hW:Below w.heap.size w w1:=((bzR _ _).alloc (nzR _) _).trans (hb.mono (by simp))
 have d0:w1.cell? ⟨w.heap.size,0,none⟩=some (.int .i64 a):=zAa hb (by simp)
 have d1:w1.cell? ⟨w.heap.size,1,none⟩=some (.int .i64 b):=zAa hb (by simp)
 have d2:w1.cell? ⟨w.heap.size,2,none⟩=some (.int .i64 c):=zAa hb (by simp)
 have d3:w1.cell? ⟨w.heap.size,3,none⟩=some (.int .i64 d):=zAa hb (by simp)
 have d4:w1.cell? ⟨w.heap.size,4,none⟩=some (.int .i64 p):=zAa hb (by simp)
 have d5:w1.cell? ⟨w.heap.size,5,none⟩=some (.int .i64 q):=zAa hb (by simp)
 have d6:w1.cell? ⟨w.heap.size,6,none⟩=some (.int .i64 s):=zAa hb (by simp)
 have d7:w1.cell? ⟨w.heap.size,7,none⟩=some (.int .i64 t):=zAa hb (by simp)
 clear hb
 have HSO:Hid (∀W,Below w1.heap.size w1 W→(Below w1.heap.size w1 W∧W.cell? ⟨w.heap.size,0,none⟩=some (.int .i64 a)∧W.cell? ⟨w.heap.size,1,none⟩=some (.int .i64 b)∧W.cell? ⟨w.heap.size,2,none⟩=some (.int .i64 c)∧W.cell? ⟨w.heap.size,3,none⟩=some (.int .i64 d)∧W.cell? ⟨w.heap.size,4,none⟩=some (.int .i64 p)∧W.cell? ⟨w.heap.size,5,none⟩=some (.int .i64 q)∧W.cell? ⟨w.heap.size,6,none⟩=some (.int .i64 s)∧W.cell? ⟨w.heap.size,7,none⟩=some (.int .i64 t))):=fun W hW=>⟨hW,zAa hW d0,zAa hW d1,zAa hW d2,zAa hW d3,zAa hW d4,zAa hW d5,zAa hW d6,zAa hW d7⟩
 have HW:=hidM hW
 have HTW:=hidM (HTL.out.below hW)
 clear HTL hW
 go_wp2_with fail
 refine(zBL g 0 q _).mono ?_
 rintro x w2⟨rfl,hb2⟩
 have HB2:=hidM hb2
 clear hb2 d0 d1 d2 d3 d4 d5 d6 d7
 go_wp2_with fail
 refine(scheck1 false _ _ _ _ _ rfl HQ.out).mono ?_
 rintro x w3⟨rfl,hb3⟩
 have HB3:=hidM (HB2.out.trans (hb3.mono HB2.out.size))
 clear hb3 HB2
 simp only[show spn.errV (zAk false)=.nilIface from rfl]
 go_upto_region 7 with fail
 obtain⟨hb3,d0,d1,d2,d3,d4,d5,d6,d7⟩:=HSO.out w3 HB3.out
 go_region_held3 (fun W=>Below w1.heap.size w1 W∧W.cell? ⟨w.heap.size,0,none⟩=some (.int .i64 a)∧W.cell? ⟨w.heap.size,1,none⟩=some (.int .i64 b)∧W.cell? ⟨w.heap.size,2,none⟩=some (.int .i64 c)∧W.cell? ⟨w.heap.size,3,none⟩=some (.int .i64 d)∧W.cell? ⟨w.heap.size,4,none⟩=some (.int .i64 p)∧W.cell? ⟨w.heap.size,5,none⟩=some (.int .i64 q)∧W.cell? ⟨w.heap.size,6,none⟩=some (.int .i64 s)∧W.cell? ⟨w.heap.size,7,none⟩=some (.int .i64 t))
  ((refine HSO.out _ ?_;(with_reducible repeat' (first|assumption|refine bal ?_ _|refine Below.drew ?_|exact bzR _ _|exact nzR _|exact Below.size (by assumption)|refine jD ?_))))
  (first|(go_at_call 42;refine(HRS.out w1 _ ?_).mono ?_;(with_reducible repeat' (first|assumption|refine bal ?_ _|refine Below.drew ?_|exact bzR _ _|exact nzR _|exact Below.size (by assumption)|refine jD ?_));rintro x W ⟨rfl,hbn⟩)|(go_at_call 39;refine(zLs w1 _ _ _ _ ?_).mono ?_;(with_reducible repeat' (first|assumption|refine bal ?_ _|refine Below.drew ?_|exact bzR _ _|exact nzR _|exact Below.size (by assumption)|refine jD ?_));rintro x W2 ⟨rfl,hbn⟩))
 have HB4:=hidM hbn
 clear hbn hb3 HB3 d0 d1 d2 d3 d4 d5 d6 d7
 go_wp2_with fail
 go_loopg [11,14,15,41] n (fun gg s11 _ _ s41 wr=>∃ (kk:Nat) (cc:Int),kk≤n∧n - kk≤gg∧s41=.int .i64 kk∧s11=.int .i64 cc∧Aside (Below w1.heap.size w1 wr∧BE=bkE ⟨a,b,c,d,p,q,s,t⟩ (ts.drop kk)∧BC=bkC ⟨a,b,c,d,p,q,s,t⟩ cc (ts.drop kk)))
 case atStart=>exact⟨0,putC c rv g,jL _,by omega,rfl,rfl,HB4.out,H0.out⟩
 case round=>
  obtain⟨kk,cc,hkk,hg,rfl,rfl,HA⟩:=hrel
  obtain⟨d00,d0,d1,d2,d3,d4,d5,d6,d7⟩:=HSO.out wr HA.out.1
  clear d00 H0 HB4
  by_cases hlt:kk<n
  ·have hltz:(kk:Int)<(n:Int):=by omega
   have hlz:kk<ts.length:=by rw[HN.out];exact hlt
   obtain⟨G,off,rfl,hG,hx⟩:=(HTW.out.below HA.out.1).at hlz
   have HBE1:=hidM (HBE.out kk (by rw[HN.out] at hlz;exact hlz))
   have HBC1:=hidM (HBC.out kk cc (by rw[HN.out] at hlz;exact hlz))
   have HSM1:=hidM (HSM.out ts[kk]!)
   have HCT1:=hidM (HCT.out ts[kk]!)
   rcases hxx:ts[kk]! with ⟨t1,t2,t3,t4,t5,t6⟩
   rw[hxx] at hx HBE1 HBC1 HSM1 HCT1
   simp only at HBC1 HSM1
   have HCT2:Hid (∀W,Calls Tryz.prog 128 #[.agg #[.int .i64 a,.int .i64 b,.int .i64 c,.int .i64 d,.int .i64 p,.int .i64 q,.int .i64 s,.int .i64 t],.agg #[.int .i64 t1,.int .i64 t2,.int .i64 t3,.int .i64 t4,.int .i64 t5,.int .i64 t6]] W fun e w'=>e=.returned (errV (ctE ⟨a,b,c,d,p,q,s,t⟩ ⟨t1,t2,t3,t4,t5,t6⟩))∧Below W.heap.size W w'):=HCT1.out
   have x0:=hx 0 _ rfl
   have x1:=hx 1 _ rfl
   have x2:=hx 2 _ rfl
   have x3:=hx 3 _ rfl
   have x4:=hx 4 _ rfl
   have x5:=hx 5 _ rfl
   simp only[Nat.add_zero] at x0
   have HM:Hid (kk<n∧n - kk≤gk):=⟨hlt,hg⟩
   have HEI:=hidM (stepW kk (by have:=HLN.out;omega))
   obtain⟨W1,hW1⟩:∃W1,W1=wr.alloc (.cells #[.int .i64 t1,.int .i64 t2,.int .i64 t3,.int .i64 t4,.int .i64 t5,.int .i64 t6] 40):=⟨_,rfl⟩
   have HW1:Hid (Below w1.heap.size w1 W1):=by
    rw[hW1]
    exact HA.out.1.alloc HA.out.1.size _
   have HZ:Hid (W1.cell? ⟨wr.heap.size,0,none⟩=some (.int .i64 t1)∧W1.cell? ⟨wr.heap.size,1,none⟩=some (.int .i64 t2)∧W1.cell? ⟨wr.heap.size,2,none⟩=some (.int .i64 t3)∧W1.cell? ⟨wr.heap.size,3,none⟩=some (.int .i64 t4)∧W1.cell? ⟨wr.heap.size,4,none⟩=some (.int .i64 t5)∧W1.cell? ⟨wr.heap.size,5,none⟩=some (.int .i64 t6)):=by
    rw[hW1]
    exact⟨by simp,by simp,by simp,by simp,by simp,by simp⟩
   have HI:=hidM HA.out
   clear HBE HBC HSM HCT HCT1 hx hxx hG hkk hg hlz HA hlt HTW
   generalize ctE ⟨a,b,c,d,p,q,s,t⟩ ⟨t1,t2,t3,t4,t5,t6⟩=k at *
   go_upto_region 11 with fail
   rw[←hW1]
   clear hW1 x0 x1 x2 x3 x4 x5 d0 d1 d2 d3 d4 d5 d6 d7
   generalize wr.heap.size=Z at *
   obtain⟨d00,d0,d1,d2,d3,d4,d5,d6,d7⟩:=HSO.out W1 HW1.out
   obtain⟨y0,y1,y2,y3,y4,y5⟩:=HZ.out
   clear d00
   go_wp2_with fail
   refine(HCT2.out W1).mono ?_
   rintro x W2⟨rfl,hb5⟩
   have HW2:=hidM (HW1.out.trans (hb5.mono HW1.out.size))
   have z4:=zAa hb5 y4
   have z5:=zAa hb5 y5
   clear d0 d1 d2 d3 d4 d5 d6 d7 hb5 HZ HW1 y0 y1 y2 y3 y4 y5
   by_cases hk:k=0
   rotate_left
   ·have hE:BE=k:=by rw[HI.out.2.1,HBE1.out,if_neg hk]
    rw[errV_of hk]
    clear hltz
    go_wp2_with fail
    go_ret3
    refine⟨?_,HW.out.trans (HW2.out.mono HW.out.size)⟩
    unfold bkV
    rw[hE,if_neg hk,errV_of hk]
    rfl
   have HE:Hid (BE=bkE ⟨a,b,c,d,p,q,s,t⟩ (ts.drop (kk+1))):=by show _=_;rw[HI.out.2.1,HBE1.out,if_pos hk]
   have HPS:=hidM (zJk HOS.out ⟨(HSM1.out hk).1,(HSM1.out hk).2.1⟩ (HSM1.out hk).2.2)
   subst hk
   rw[errV_zero]
   obtain⟨d00,d0,d1,d2,d3,d4,d5,d6,d7⟩:=HSO.out W2 HW2.out
   clear d00
   by_cases hc:c=1
   rotate_left
   ·have hc1:(c == 1)=false:=by simp[hc]
    have HCC:Hid (BC=bkC ⟨a,b,c,d,p,q,s,t⟩ cc (ts.drop (kk+1))):=by show _=_;rw[HI.out.2.2,HBC1.out,if_neg hc]
    clear HBE1 HBC1 HSM1 hc
    have ei:=HEI.out
    go_wp2_with fail
    go_roundg (n - (kk+1))
    case measure=>have:=HM.out;omega
    case rel=>exact⟨kk+1,cc,HM.out.1,nzR _,by go_num,rfl,HW2.out,HE.out,HCC.out⟩
   ·have HCC:Hid (BC=bkC ⟨a,b,c,d,p,q,s,t⟩ (wrap64 (cc+(rv - t5)*t6)) (ts.drop (kk+1))):=by show _=_;rw[HI.out.2.2,HBC1.out,if_pos hc]
    clear HBE1 HBC1 HSM1
    subst hc
    have SO:Hid (∀W,Below W2.heap.size W2 W→(Below W2.heap.size W2 W∧W.cell? ⟨w.heap.size,0,none⟩=some (.int .i64 a)∧W.cell? ⟨w.heap.size,1,none⟩=some (.int .i64 b)∧W.cell? ⟨w.heap.size,2,none⟩=some (.int .i64 1)∧W.cell? ⟨w.heap.size,3,none⟩=some (.int .i64 d)∧W.cell? ⟨w.heap.size,4,none⟩=some (.int .i64 p)∧W.cell? ⟨w.heap.size,5,none⟩=some (.int .i64 q)∧W.cell? ⟨w.heap.size,6,none⟩=some (.int .i64 s)∧W.cell? ⟨w.heap.size,7,none⟩=some (.int .i64 t)∧W.cell? ⟨Z,4,none⟩=some (.int .i64 t5)∧W.cell? ⟨Z,5,none⟩=some (.int .i64 t6))):=fun W hW=>⟨hW,zAa hW d0,zAa hW d1,zAa hW d2,zAa hW d3,zAa hW d4,zAa hW d5,zAa hW d6,zAa hW d7,zAa hW z4,zAa hW z5⟩
    go_upto_region 15 with fail
    go_region_held3 (fun W=>Below W2.heap.size W2 W∧W.cell? ⟨w.heap.size,0,none⟩=some (.int .i64 a)∧W.cell? ⟨w.heap.size,1,none⟩=some (.int .i64 b)∧W.cell? ⟨w.heap.size,2,none⟩=some (.int .i64 1)∧W.cell? ⟨w.heap.size,3,none⟩=some (.int .i64 d)∧W.cell? ⟨w.heap.size,4,none⟩=some (.int .i64 p)∧W.cell? ⟨w.heap.size,5,none⟩=some (.int .i64 q)∧W.cell? ⟨w.heap.size,6,none⟩=some (.int .i64 s)∧W.cell? ⟨w.heap.size,7,none⟩=some (.int .i64 t)∧W.cell? ⟨Z,4,none⟩=some (.int .i64 t5)∧W.cell? ⟨Z,5,none⟩=some (.int .i64 t6))
     ((refine SO.out _ ?_;(with_reducible repeat' (first|assumption|refine bal ?_ _|refine Below.drew ?_|exact bzR _ _|exact nzR _|exact Below.size (by assumption)|refine jD ?_))))
     (first|(go_at_call 42;refine(HRS.out W2 _ ?_).mono ?_;(with_reducible repeat' (first|assumption|refine bal ?_ _|refine Below.drew ?_|exact bzR _ _|exact nzR _|exact Below.size (by assumption)|refine jD ?_));rintro x W6 ⟨rfl,hbn⟩))
    all_goals
     have HB6:Hid (Below w1.heap.size w1 W6):=HW2.out.trans (hbn.mono HW2.out.size)
     clear SO d0 d1 d2 d3 d4 d5 d6 d7 z4 z5 hbn
     have ei:=HEI.out
     go_wp2_with fail
     go_roundg (n - (kk+1))
     case measure=>have:=HM.out;omega
     case rel=>exact⟨kk+1,wrap64 (cc+(rv - t5)*t6),HM.out.1,nzR _,by go_num,congrArg (Value.int .i64) (zLu cc HPS.out),HB6.out,HE.out,HCC.out⟩
  ·have hltz:¬(kk:Int)<(n:Int):=by omega
   have hdr:ts.drop kk=[]:=List.drop_eq_nil_of_le (by rw[HN.out];omega)
   have hE:BE=0:=by rw[HA.out.2.1,hdr];rfl
   have hC:BC=cc:=by rw[HA.out.2.2,hdr];rfl
   have hB:=HA.out.1
   clear HBE HBC HSM HCT HTW HA hdr
   subst hE hC
   go_wp2_with fail
   go_ret3
   exact⟨rfl,HW.out.trans (hB.mono HW.out.size)⟩
theorem zOo(o:O)(v:Value)(ts:List T)(g:Int)(w:World)(hL:TL w v ts) :
  Calls Tryz.prog 100 #[oV o,v,.int .i64 g] w fun e w'=>e=.returned (.tuple #[.int .i64 (zBW o ts g),.int .i64 (zBX o ts g),errV (zBh o ts g)])∧Below w.heap.size w w':=by
 have hck:=fun W=>check_any o W
 have hgo:=zOm g o.qty
 by_cases h0:chk o=0
 ·by_cases hg:0≤g∧g≤o.qty
  ·have e0:zBh o ts g=bkE o ts:=by unfold zBh;rw[if_pos h0,if_pos hg]
   unfold zBW zBX
   rw[e0]
   rw[decide_eq_true hg] at hgo
   obtain⟨a,b,c,d,p,q,s,t⟩:=o
   refine(zLw a b c d p q s t g v ts w h0 hgo hL).mono ?_
   rintro e w'⟨rfl,hb⟩
   refine⟨?_,hb⟩
   unfold bkV
   by_cases hE:bkE ⟨a,b,c,d,p,q,s,t⟩ ts=0
   ·rw[if_pos hE,if_pos hE,if_pos hE,hE,errV_zero]
   ·rw[if_neg hE,if_neg hE,if_neg hE]
  ·have e0:zBh o ts g=1:=by unfold zBh;rw[if_pos h0,if_neg hg]
   unfold zBW zBX
   rw[e0]
   rw[decide_eq_false hg] at hgo
   rw[h0,errV_zero] at hck
   obtain⟨a,b,c,d,p,q,s,t⟩:=o
   exact zLv a b c d p q s t g v w hck hgo
 ·have e0:zBh o ts g=chk o:=by unfold zBh;rw[if_neg h0]
  unfold zBW zBX
  rw[e0,if_neg h0,if_neg h0]
  rw[errV_of h0] at hck ⊢
  obtain⟨a,b,c,d,p,q,s,t⟩:=o
  exact zOn a b c d p q s t g v _ w hck
end mrg
end Go.Proofs.YtifjhlgjgnnnpaaGreat
