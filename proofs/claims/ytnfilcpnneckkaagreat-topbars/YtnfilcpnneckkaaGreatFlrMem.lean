import Derived.Test.YtnfilcpnneckkaaGreatMrgChk
import Derived.Test.YtnfilcpnneckkaaGreatSelDo
import Derived.Test.YtnfilcpnneckkaaGreatWakDrop
import Derived.Test.YtnfilcpnneckkaaGreatPurTrd
set_option maxHeartbeats 4000000
set_option maxRecDepth 100000
namespace Go.Proofs.YtnfilcpnneckkaaGreat
open Tryz
namespace mrg
open Go.RowKit mee
open spn (zAa bcell zAl zBc zAY zAK zAt zAP scheck1 scheck2 zAd)
open ord (O oV chk errV wAa wAb wAf mB mE zAy bal prB)
def bkE(o:O):List T→Int
 | []=>0
 | x::t=>if ctE o x=0 then bkE o t else ctE o x
def bkC(o:O):Int→List T→Int
 | c,[]=>c
 | c,x::t=>bkC o (if o.side=1 then wrap64 (c+(resv o - x.price)*x.qty) else c) t
def zBx(o:O)(ts:List T)(g:Int):Int:=if chk o=0 then (if 0≤g∧g≤o.qty then bkE o ts else 1) else chk o
def zCw(o:O)(ts:List T)(g:Int):Int:=if zBx o ts g=0 then bkC o (putC o.side (resv o) g) ts else 0
def zCx(o:O)(ts:List T)(g:Int):Int:=if zBx o ts g=0 then putS o.side g else 0
theorem stepW(k:Nat)(h:k+1≤9223372036854775807):wrap64 ((k:Int)+1)=((k+1:Nat):Int):=by
 unfold wrap64;omega
theorem wAY(ts:List T)(k:Nat)(h:k<ts.length):ts.drop k=ts[k]!::ts.drop (k+1):=by
 rw[getE ts k h];exact List.drop_eq_getElem_cons h
theorem zPc(g q:Int):[(g,0,q)].any zAl = !decide (0≤g∧g≤q):=by
 rw[Bool.eq_iff_iff];simp[zAl]
theorem zCy{o:O}(h:chk o=0):0≤resv o∧resv o≤10000∧1≤o.qty∧o.qty≤10000∧(o.side=1∨o.side=2):=by
 obtain⟨h1,h2,h3,-,-⟩:=ord.zBC h;simp[ord.qtyB] at h3;simp[ord.zCJ] at h1;unfold resv;unfold ord.zAL at h2;by_cases hk:o.kind=2
 ·rw[if_pos hk];omega
 ·rw[if_neg hk] at h2 ⊢;simp[prB] at h2;omega
theorem zDT{o:O}{x:T}(h:ctE o x=0):1≤x.price∧x.price≤10000∧1≤x.qty∧x.qty≤10000∧x.taker=o.id∧mB o x.price=true:=by
 unfold ctE at h;by_cases h1:(prB x.price && qtB x.qty)=true
 ·rw[if_pos h1] at h;by_cases h2:x.taker=o.id∧mB o x.price=true
  ·simp[prB,qtB] at h1;exact⟨by omega,by omega,by omega,by omega,h2⟩
  ·rw[if_neg h2] at h;omega
 ·rw[if_neg h1] at h;omega
theorem zJV{r x y:Int}(h1:0≤r∧r≤10000)(h2:1≤x∧x≤10000)(h3:1≤y∧y≤10000):wrap64 (r - x)=r - x∧wrap64 ((r - x)*y)=(r - x)*y:=by
 have e1:wrap64 (r - x)=r - x:=by unfold wrap64;omega
 refine⟨e1,?_⟩;have a1 : -10000*y≤(r - x)*y:=Int.mul_le_mul_of_nonneg_right (by omega) (by omega)
 have a2:(r - x)*y≤10000*y:=Int.mul_le_mul_of_nonneg_right (by omega) (by omega)
 generalize (r - x)*y=z at *;unfold wrap64;omega
theorem zMo{r x y:Int}(c:Int)(h:wrap64 (r - x)=r - x∧wrap64 ((r - x)*y)=(r - x)*y):IntKind.i64.wrap (c+IntKind.i64.wrap (IntKind.i64.wrap (r - x)*y))=wrap64 (c+(r - x)*y):=by
 have e1:IntKind.i64.wrap (r - x)=r - x:=(IntWalk.i64_left _).trans h.1;have e2:IntKind.i64.wrap ((r - x)*y)=(r - x)*y:=(IntWalk.i64_left _).trans h.2;rw[e1,e2];exact IntWalk.i64_left _
theorem zPd(a b c d p q s t g:Int)(v:Value)(k:Int)(w:World)(gI:∀W,Calls prog 79 #[.agg #[.int .i64 a,.int .i64 b,.int .i64 c,.int .i64 d,.int .i64 p,.int .i64 q,.int .i64 s,.int .i64 t]] W fun e w'=>e=.returned (.iface 90 (.int .i64 k))∧Bw W w') :
  Calls prog 92 #[.agg #[.int .i64 a,.int .i64 b,.int .i64 c,.int .i64 d,.int .i64 p,.int .i64 q,.int .i64 s,.int .i64 t],v,.int .i64 g] w fun e w'=>e=.returned (.tuple #[.int .i64 0,.int .i64 0,.iface 90 (.int .i64 k)])∧Bw w w':=by
 have GE:=hidM gI;clear gI;go_enter func92,ntmps92;go_wp2_with fail;refine(GE.out _).mono ?_;rintro e w1⟨rfl,hb⟩;have hW:Bw w w1:=((bzR _ _).alloc (nzR _) _).trans (hb.mono (by simp))
 go_wp2_with fail
 go_ret3
 exact⟨rfl,hW⟩
theorem zMp(a b c d p q s t g:Int)(v:Value)(w:World)(gI:∀W,Calls prog 79 #[.agg #[.int .i64 a,.int .i64 b,.int .i64 c,.int .i64 d,.int .i64 p,.int .i64 q,.int .i64 s,.int .i64 t]] W fun e w'=>e=.returned .nilIface∧Bw W w')(hg:[(g,0,q)].any zAl=true) :
  Calls prog 92 #[.agg #[.int .i64 a,.int .i64 b,.int .i64 c,.int .i64 d,.int .i64 p,.int .i64 q,.int .i64 s,.int .i64 t],v,.int .i64 g] w fun e w'=>e=.returned (.tuple #[.int .i64 0,.int .i64 0,.iface 90 (.int .i64 1)])∧Bw w w':=by
 have GE:=hidM gI;have HQ:=hidM hg;clear gI hg;go_enter func92,ntmps92;go_wp2_with fail;refine(GE.out _).mono ?_;rintro e w1⟨rfl,hb⟩;have hW:Bw w w1:=((bzR _ _).alloc (nzR _) _).trans (hb.mono (by simp))
 have d5:w1.cell? ⟨w.heap.size,5,none⟩=some (.int .i64 q):=zAa hb (by simp)
 clear hb;go_wp2_with fail;refine(zAY g 0 q _).mono ?_;rintro x w2⟨rfl,Ha⟩;have gb:=hW.trans (Ha.mono hW.size);clear Ha d5;go_wp2_with fail;refine(scheck1 true _ _ _ _ _ rfl HQ.out).mono ?_;rintro x w3⟨rfl,Hr⟩;have gQ:=gb.trans (Hr.mono gb.size);clear Hr;simp only[show spn.errV (zAd true)=.iface 90 (.int .i64 1) from rfl]
 go_wp2_with fail
 go_ret3
 exact⟨rfl,gQ⟩
def bkV(e c st:Int):Value:=if e=0 then .tuple #[.int .i64 c,.int .i64 st,.nilIface] else .tuple #[.int .i64 0,.int .i64 0,errV e]
theorem zMq(a b c d p q s t g:Int)(v:Value)(ts:List T)(w:World)(h0:chk ⟨a,b,c,d,p,q,s,t⟩=0)(hg:[(g,0,q)].any zAl=false)(hL:TL w v ts) :
  Calls prog 92 #[.agg #[.int .i64 a,.int .i64 b,.int .i64 c,.int .i64 d,.int .i64 p,.int .i64 q,.int .i64 s,.int .i64 t],v,.int .i64 g] w fun e w'=>e=.returned (bkV (bkE ⟨a,b,c,d,p,q,s,t⟩ ts) (bkC ⟨a,b,c,d,p,q,s,t⟩ (putC c (resv ⟨a,b,c,d,p,q,s,t⟩) g) ts) (putS c g))∧Below w.heap.size w w':=by
 have GE:Hid (∀W,Calls prog 79 #[.agg #[.int .i64 a,.int .i64 b,.int .i64 c,.int .i64 d,.int .i64 p,.int .i64 q,.int .i64 s,.int .i64 t]] W fun e w'=>e=.returned .nilIface∧Below W.heap.size W w'):=fun W=>by
  have h:=wAf ⟨a,b,c,d,p,q,s,t⟩ W;rw[h0,wAa] at h;exact h
 have de:Hid (∀V W,Below V.heap.size V W→Calls prog 86 #[.agg #[.int .i64 a,.int .i64 b,.int .i64 c,.int .i64 d,.int .i64 p,.int .i64 q,.int .i64 s,.int .i64 t]] W fun e w'=>e=.returned (.int .i64 (resv ⟨a,b,c,d,p,q,s,t⟩))∧Below V.heap.size V w'):=fun V W h=>zFl V a b c d p q s t W h
 have P9:Hid (∀x W,Calls prog 130 #[.agg #[.int .i64 a,.int .i64 b,.int .i64 c,.int .i64 d,.int .i64 p,.int .i64 q,.int .i64 s,.int .i64 t],.agg (tV x).toArray] W fun e w'=>e=.returned (errV (ctE ⟨a,b,c,d,p,q,s,t⟩ x))∧Below W.heap.size W w'):=fun x W=>zRf ⟨a,b,c,d,p,q,s,t⟩ x W h0
 have HOS:Hid (0≤resv ⟨a,b,c,d,p,q,s,t⟩∧resv ⟨a,b,c,d,p,q,s,t⟩≤10000):=⟨(zCy h0).1,(zCy h0).2.1⟩;have C1:Hid (∀ (kk:Nat),kk<ts.length→bkE ⟨a,b,c,d,p,q,s,t⟩ (ts.drop kk)=if ctE ⟨a,b,c,d,p,q,s,t⟩ ts[kk]! = 0 then bkE ⟨a,b,c,d,p,q,s,t⟩ (ts.drop (kk+1)) else ctE ⟨a,b,c,d,p,q,s,t⟩ ts[kk]!):=fun kk h=>by rw[wAY ts kk h];rfl
 have Be:Hid (∀ (kk:Nat) (cc:Int),kk<ts.length→bkC ⟨a,b,c,d,p,q,s,t⟩ cc (ts.drop kk)=bkC ⟨a,b,c,d,p,q,s,t⟩ (if c=1 then wrap64 (cc+(resv ⟨a,b,c,d,p,q,s,t⟩ - (ts[kk]!).price)*(ts[kk]!).qty) else cc) (ts.drop (kk+1))):=fun kk cc h=>by rw[wAY ts kk h];rfl
 have Mz:Hid (∀x,ctE ⟨a,b,c,d,p,q,s,t⟩ x=0→1≤x.price∧x.price≤10000∧1≤x.qty∧x.qty≤10000):=fun x h=>⟨(zDT h).1,(zDT h).2.1,(zDT h).2.2.1,(zDT h).2.2.2.1⟩
 have HQ:=hidM hg;have G0:=hidM hL;obtain⟨tq,tc,hv,Hh⟩:=hL.form;subst hv;have C9:=hidM Hh;obtain⟨BE,hBE⟩:∃x,bkE ⟨a,b,c,d,p,q,s,t⟩ ts=x:=⟨_,rfl⟩;obtain⟨BC,hBC⟩:∃x,bkC ⟨a,b,c,d,p,q,s,t⟩ (putC c (resv ⟨a,b,c,d,p,q,s,t⟩) g) ts=x:=⟨_,rfl⟩;have H0:Hid (BE=bkE ⟨a,b,c,d,p,q,s,t⟩ (ts.drop 0)∧BC=bkC ⟨a,b,c,d,p,q,s,t⟩ (putC c (resv ⟨a,b,c,d,p,q,s,t⟩) g) (ts.drop 0)):=⟨hBE.symm,hBC.symm⟩;rw[hBE,hBC];clear hBE hBC h0 hg hL Hh;generalize resv ⟨a,b,c,d,p,q,s,t⟩=rv at *;generalize gW:ts.length=n at *;have HN:=hidM gW;clear gW;go_enter func92,ntmps92;go_wp2_with fail;refine(GE.out _).mono ?_;rintro e w1⟨rfl,hb⟩;have hW:Below w.heap.size w w1:=((bzR _ _).alloc (nzR _) _).trans (hb.mono (by simp))
 have d0:w1.cell? ⟨w.heap.size,0,none⟩=some (.int .i64 a):=zAa hb (by simp)
 have d1:w1.cell? ⟨w.heap.size,1,none⟩=some (.int .i64 b):=zAa hb (by simp)
 have d2:w1.cell? ⟨w.heap.size,2,none⟩=some (.int .i64 c):=zAa hb (by simp)
 have d3:w1.cell? ⟨w.heap.size,3,none⟩=some (.int .i64 d):=zAa hb (by simp)
 have d4:w1.cell? ⟨w.heap.size,4,none⟩=some (.int .i64 p):=zAa hb (by simp)
 have d5:w1.cell? ⟨w.heap.size,5,none⟩=some (.int .i64 q):=zAa hb (by simp)
 have d6:w1.cell? ⟨w.heap.size,6,none⟩=some (.int .i64 s):=zAa hb (by simp)
 have d7:w1.cell? ⟨w.heap.size,7,none⟩=some (.int .i64 t):=zAa hb (by simp)
 clear hb;have Ho:Hid (∀W,Below w1.heap.size w1 W→(Below w1.heap.size w1 W∧W.cell? ⟨w.heap.size,0,none⟩=some (.int .i64 a)∧W.cell? ⟨w.heap.size,1,none⟩=some (.int .i64 b)∧W.cell? ⟨w.heap.size,2,none⟩=some (.int .i64 c)∧W.cell? ⟨w.heap.size,3,none⟩=some (.int .i64 d)∧W.cell? ⟨w.heap.size,4,none⟩=some (.int .i64 p)∧W.cell? ⟨w.heap.size,5,none⟩=some (.int .i64 q)∧W.cell? ⟨w.heap.size,6,none⟩=some (.int .i64 s)∧W.cell? ⟨w.heap.size,7,none⟩=some (.int .i64 t))):=fun W hW=>⟨hW,zAa hW d0,zAa hW d1,zAa hW d2,zAa hW d3,zAa hW d4,zAa hW d5,zAa hW d6,zAa hW d7⟩
 have HW:=hidM hW;have HTW:=hidM (G0.out.below hW);clear G0 hW;go_wp2_with fail;refine(zAY g 0 q _).mono ?_;rintro x w2⟨rfl,Ha⟩;have Hg:=hidM Ha;clear Ha d0 d1 d2 d3 d4 d5 d6 d7;go_wp2_with fail;refine(scheck1 false _ _ _ _ _ rfl HQ.out).mono ?_;rintro x w3⟨rfl,Hr⟩;have HU:=hidM (Hg.out.trans (Hr.mono Hg.out.size));clear Hr Hg;simp only[show spn.errV (zAd false)=.nilIface from rfl]
 go_upto_region 7 with fail
 obtain⟨Hr,d0,d1,d2,d3,d4,d5,d6,d7⟩:=Ho.out w3 HU.out;go_region_held3 (fun W=>Below w1.heap.size w1 W∧W.cell? ⟨w.heap.size,0,none⟩=some (.int .i64 a)∧W.cell? ⟨w.heap.size,1,none⟩=some (.int .i64 b)∧W.cell? ⟨w.heap.size,2,none⟩=some (.int .i64 c)∧W.cell? ⟨w.heap.size,3,none⟩=some (.int .i64 d)∧W.cell? ⟨w.heap.size,4,none⟩=some (.int .i64 p)∧W.cell? ⟨w.heap.size,5,none⟩=some (.int .i64 q)∧W.cell? ⟨w.heap.size,6,none⟩=some (.int .i64 s)∧W.cell? ⟨w.heap.size,7,none⟩=some (.int .i64 t))
  ((refine Ho.out _ ?_;(with_reducible repeat' (first|assumption|refine bal ?_ _|refine Below.drew ?_|exact bzR _ _|exact nzR _|exact Below.size (by assumption)|refine jD ?_))))
  (first|(go_at_call 86;refine(de.out w1 _ ?_).mono ?_;(with_reducible repeat' (first|assumption|refine bal ?_ _|refine Below.drew ?_|exact bzR _ _|exact nzR _|exact Below.size (by assumption)|refine jD ?_));rintro x W ⟨rfl,Hm⟩)|(go_at_call 85;refine(zMm w1 _ _ _ _ ?_).mono ?_;(with_reducible repeat' (first|assumption|refine bal ?_ _|refine Below.drew ?_|exact bzR _ _|exact nzR _|exact Below.size (by assumption)|refine jD ?_));rintro x W2 ⟨rfl,Hm⟩))
 have Gi:=hidM Hm;clear Hm Hr HU d0 d1 d2 d3 d4 d5 d6 d7;go_wp2_with fail;go_loopg [11,14,15,41] n (fun gg s11 _ _ s41 wr=>∃ (kk:Nat) (cc:Int),kk≤n∧n - kk≤gg∧s41=.int .i64 kk∧s11=.int .i64 cc∧Aside (Below w1.heap.size w1 wr∧BE=bkE ⟨a,b,c,d,p,q,s,t⟩ (ts.drop kk)∧BC=bkC ⟨a,b,c,d,p,q,s,t⟩ cc (ts.drop kk)))
 case atStart=>exact⟨0,putC c rv g,jL _,by omega,rfl,rfl,Gi.out,H0.out⟩
 case round=>
  obtain⟨kk,cc,gd,hg,rfl,rfl,HA⟩:=hrel;obtain⟨d00,d0,d1,d2,d3,d4,d5,d6,d7⟩:=Ho.out wr HA.out.1;clear d00 H0 Gi;by_cases Hi:kk<n
  ·have Hp:(kk:Int)<(n:Int):=by omega
   have Hs:kk<ts.length:=by rw[HN.out];exact Hi
   obtain⟨G,off,rfl,hG,hx⟩:=(HTW.out.below HA.out.1).at Hs;have pg:=hidM (C1.out kk (by rw[HN.out] at Hs;exact Hs))
   have Mo:=hidM (Be.out kk cc (by rw[HN.out] at Hs;exact Hs))
   have mK:=hidM (Mz.out ts[kk]!);have cy:=hidM (P9.out ts[kk]!);rcases mg:ts[kk]! with ⟨t1,t2,t3,t4,t5,t6⟩
   rw[mg] at hx pg Mo mK cy;simp only at Mo mK;have HCT2:Hid (∀W,Calls prog 130 #[.agg #[.int .i64 a,.int .i64 b,.int .i64 c,.int .i64 d,.int .i64 p,.int .i64 q,.int .i64 s,.int .i64 t],.agg #[.int .i64 t1,.int .i64 t2,.int .i64 t3,.int .i64 t4,.int .i64 t5,.int .i64 t6]] W fun e w'=>e=.returned (errV (ctE ⟨a,b,c,d,p,q,s,t⟩ ⟨t1,t2,t3,t4,t5,t6⟩))∧Below W.heap.size W w'):=cy.out
   have x0:=hx 0 _ rfl;have x1:=hx 1 _ rfl;have x2:=hx 2 _ rfl;have x3:=hx 3 _ rfl;have x4:=hx 4 _ rfl;have x5:=hx 5 _ rfl;simp only[Nat.add_zero] at x0;have HM:Hid (kk<n∧n - kk≤gk):=⟨Hi,hg⟩;have MZ:=hidM (stepW kk (by have:=C9.out;omega))
   obtain⟨W1,H7⟩:∃W1,W1=wr.alloc (.cells #[.int .i64 t1,.int .i64 t2,.int .i64 t3,.int .i64 t4,.int .i64 t5,.int .i64 t6] 38):=⟨_,rfl⟩;have go:Hid (Below w1.heap.size w1 W1):=by
    rw[H7];exact HA.out.1.alloc HA.out.1.size _
   have HZ:Hid (W1.cell? ⟨wr.heap.size,0,none⟩=some (.int .i64 t1)∧W1.cell? ⟨wr.heap.size,1,none⟩=some (.int .i64 t2)∧W1.cell? ⟨wr.heap.size,2,none⟩=some (.int .i64 t3)∧W1.cell? ⟨wr.heap.size,3,none⟩=some (.int .i64 t4)∧W1.cell? ⟨wr.heap.size,4,none⟩=some (.int .i64 t5)∧W1.cell? ⟨wr.heap.size,5,none⟩=some (.int .i64 t6)):=by
    rw[H7];exact⟨by simp,by simp,by simp,by simp,by simp,by simp⟩
   have HI:=hidM HA.out;clear C1 Be Mz P9 cy hx mg hG gd hg Hs HA Hi HTW;generalize ctE ⟨a,b,c,d,p,q,s,t⟩ ⟨t1,t2,t3,t4,t5,t6⟩=k at *;go_upto_region 11 with fail
   rw[←H7];clear H7 x0 x1 x2 x3 x4 x5 d0 d1 d2 d3 d4 d5 d6 d7;generalize wr.heap.size=Z at *;obtain⟨d00,d0,d1,d2,d3,d4,d5,d6,d7⟩:=Ho.out W1 go.out;obtain⟨y0,y1,y2,y3,y4,y5⟩:=HZ.out;clear d00;go_wp2_with fail;refine(HCT2.out W1).mono ?_;rintro x W2⟨rfl,uI⟩;have H6:=hidM (go.out.trans (uI.mono go.out.size));have z4:=zAa uI y4;have z5:=zAa uI y5;clear d0 d1 d2 d3 d4 d5 d6 d7 uI HZ go y0 y1 y2 y3 y4 y5;by_cases hk:k=0
   rotate_left
   ·have hE:BE=k:=(by rw[HI.out.2.1,pg.out,if_neg hk]);rw[wAb hk];clear Hp;go_wp2_with fail
    go_ret3
    refine⟨?_,HW.out.trans (H6.out.mono HW.out.size)⟩;unfold bkV;rw[hE,if_neg hk,wAb hk];rfl
   have HE:Hid (BE=bkE ⟨a,b,c,d,p,q,s,t⟩ (ts.drop (kk+1))):=by show _=_;rw[HI.out.2.1,pg.out,if_pos hk]
   have Bm:=hidM (zJV HOS.out ⟨(mK.out hk).1,(mK.out hk).2.1⟩ (mK.out hk).2.2);subst hk;rw[wAa];obtain⟨d00,d0,d1,d2,d3,d4,d5,d6,d7⟩:=Ho.out W2 H6.out;clear d00;by_cases hc:c=1
   rotate_left
   ·have Gn:(c == 1)=false:=(by simp[hc]);have C4:Hid (BC=bkC ⟨a,b,c,d,p,q,s,t⟩ cc (ts.drop (kk+1))):=(by show _=_;rw[HI.out.2.2,Mo.out,if_neg hc]);clear pg Mo mK hc;have ei:=MZ.out;go_wp2_with fail;go_roundg (n - (kk+1))
    case measure=>have:=HM.out;omega
    case rel=>exact⟨kk+1,cc,HM.out.1,nzR _,by go_num,rfl,H6.out,HE.out,C4.out⟩
   ·have C4:Hid (BC=bkC ⟨a,b,c,d,p,q,s,t⟩ (wrap64 (cc+(rv - t5)*t6)) (ts.drop (kk+1))):=(by show _=_;rw[HI.out.2.2,Mo.out,if_pos hc]);clear pg Mo mK;subst hc;have SO:Hid (∀W,Below W2.heap.size W2 W→(Below W2.heap.size W2 W∧W.cell? ⟨w.heap.size,0,none⟩=some (.int .i64 a)∧W.cell? ⟨w.heap.size,1,none⟩=some (.int .i64 b)∧W.cell? ⟨w.heap.size,2,none⟩=some (.int .i64 1)∧W.cell? ⟨w.heap.size,3,none⟩=some (.int .i64 d)∧W.cell? ⟨w.heap.size,4,none⟩=some (.int .i64 p)∧W.cell? ⟨w.heap.size,5,none⟩=some (.int .i64 q)∧W.cell? ⟨w.heap.size,6,none⟩=some (.int .i64 s)∧W.cell? ⟨w.heap.size,7,none⟩=some (.int .i64 t)∧W.cell? ⟨Z,4,none⟩=some (.int .i64 t5)∧W.cell? ⟨Z,5,none⟩=some (.int .i64 t6))):=fun W hW=>⟨hW,zAa hW d0,zAa hW d1,zAa hW d2,zAa hW d3,zAa hW d4,zAa hW d5,zAa hW d6,zAa hW d7,zAa hW z4,zAa hW z5⟩
    go_upto_region 15 with fail
    go_region_held3 (fun W=>Below W2.heap.size W2 W∧W.cell? ⟨w.heap.size,0,none⟩=some (.int .i64 a)∧W.cell? ⟨w.heap.size,1,none⟩=some (.int .i64 b)∧W.cell? ⟨w.heap.size,2,none⟩=some (.int .i64 1)∧W.cell? ⟨w.heap.size,3,none⟩=some (.int .i64 d)∧W.cell? ⟨w.heap.size,4,none⟩=some (.int .i64 p)∧W.cell? ⟨w.heap.size,5,none⟩=some (.int .i64 q)∧W.cell? ⟨w.heap.size,6,none⟩=some (.int .i64 s)∧W.cell? ⟨w.heap.size,7,none⟩=some (.int .i64 t)∧W.cell? ⟨Z,4,none⟩=some (.int .i64 t5)∧W.cell? ⟨Z,5,none⟩=some (.int .i64 t6))
     ((refine SO.out _ ?_;(with_reducible repeat' (first|assumption|refine bal ?_ _|refine Below.drew ?_|exact bzR _ _|exact nzR _|exact Below.size (by assumption)|refine jD ?_))))
     (first|(go_at_call 86;refine(de.out W2 _ ?_).mono ?_;(with_reducible repeat' (first|assumption|refine bal ?_ _|refine Below.drew ?_|exact bzR _ _|exact nzR _|exact Below.size (by assumption)|refine jD ?_));rintro x W6 ⟨rfl,Hm⟩))
    all_goals
     have HB6:Hid (Below w1.heap.size w1 W6):=H6.out.trans (Hm.mono H6.out.size);clear SO d0 d1 d2 d3 d4 d5 d6 d7 z4 z5 Hm;have ei:=MZ.out;go_wp2_with fail;go_roundg (n - (kk+1))
     case measure=>have:=HM.out;omega
     case rel=>exact⟨kk+1,wrap64 (cc+(rv - t5)*t6),HM.out.1,nzR _,by go_num,congrArg (Value.int .i64) (zMo cc Bm.out),HB6.out,HE.out,C4.out⟩
  ·have Hp:¬(kk:Int)<(n:Int):=by omega
   have bC:ts.drop kk=[]:=List.drop_eq_nil_of_le (by rw[HN.out];omega)
   have hE:BE=0:=by rw[HA.out.2.1,bC];rfl
   have hC:BC=cc:=by rw[HA.out.2.2,bC];rfl
   have hB:=HA.out.1;clear C1 Be Mz P9 HTW HA bC;subst hE hC;go_wp2_with fail
   go_ret3
   exact⟨rfl,HW.out.trans (hB.mono HW.out.size)⟩
theorem zPe(o:O)(v:Value)(ts:List T)(g:Int)(w:World)(hL:TL w v ts) :
  Calls prog 92 #[oV o,v,.int .i64 g] w fun e w'=>e=.returned (.tuple #[.int .i64 (zCw o ts g),.int .i64 (zCx o ts g),errV (zBx o ts g)])∧Bw w w':=by
 have gI:=fun W=>wAf o W
 have BJ:=zPc g o.qty;by_cases h0:chk o=0
 ·by_cases hg:0≤g∧g≤o.qty
  ·have e0:zBx o ts g=bkE o ts:=by unfold zBx;rw[if_pos h0,if_pos hg]
   unfold zCw zCx;rw[e0];rw[decide_eq_true hg] at BJ;obtain⟨a,b,c,d,p,q,s,t⟩:=o;refine(zMq a b c d p q s t g v ts w h0 BJ hL).mono ?_;rintro e w'⟨rfl,hb⟩;refine⟨?_,hb⟩;unfold bkV;by_cases hE:bkE ⟨a,b,c,d,p,q,s,t⟩ ts=0
   ·rw[if_pos hE,if_pos hE,if_pos hE,hE,wAa]
   ·rw[if_neg hE,if_neg hE,if_neg hE]
  ·have e0:zBx o ts g=1:=by unfold zBx;rw[if_pos h0,if_neg hg]
   unfold zCw zCx;rw[e0];rw[decide_eq_false hg] at BJ;rw[h0,wAa] at gI;obtain⟨a,b,c,d,p,q,s,t⟩:=o;exact zMp a b c d p q s t g v w gI BJ
 ·have e0:zBx o ts g=chk o:=by unfold zBx;rw[if_neg h0]
  unfold zCw zCx;rw[e0,if_neg h0,if_neg h0];rw[wAb h0] at gI ⊢;obtain⟨a,b,c,d,p,q,s,t⟩:=o;exact zPd a b c d p q s t g v _ w gI
end mrg
namespace mrg
open Go.RowKit mee
open spn (zAa bcell zAl zBc zAY zAK zAt zAP scheck1 scheck2 zAd)
open ord (O oV chk errV wAa wAb wAf mB mE zAy bal prB)
open que (R rchk zCV)
def sidB(s:Int):Bool:=decide (1≤s) && decide (s≤2)
def zBp(r:R)(s p:Int):Int:=if rchk r=0 then (if sidB s && prB p then 0 else 1) else rchk r
def zBJ(r:R)(s p:Int):Int:=if zBp r s p=0 then putC s p (r.qty+r.hid) else 0
def zBK(r:R)(s p:Int):Int:=if zBp r s p=0 then putS s (r.qty+r.hid) else 0
theorem wBf(s p:Int):[(s,1,2),(p,1,10000)].any zAl = !(sidB s && prB p):=by
 rw[Bool.eq_iff_iff];simp[zAl,sidB,prB]
theorem zDy{r:R}(h:rchk r=0):1≤r.qty∧r.qty≤10000∧0≤r.hid∧r.hid≤10000:=by
 unfold rchk at h;by_cases h1:que.zBM r=true
 ·simp[que.zBM,que.inB] at h1;omega
 ·rw[if_neg h1] at h;omega
theorem zIN(a b c d e s p:Int)(w:World) :
  Calls prog 137 #[.agg #[.int .i64 a,.int .i64 b,.int .i64 c,.int .i64 d,.int .i64 e],.int .i64 s,.int .i64 p] w fun x w'=>x=.returned (.tuple #[.int .i64 (zBJ ⟨a,b,c,d,e⟩ s p),.int .i64 (zBK ⟨a,b,c,d,e⟩ s p),errV (zBp ⟨a,b,c,d,e⟩ s p)])∧Bw w w':=by
 have GE:Hid (∀W,Calls prog 122 #[.agg #[.int .i64 a,.int .i64 b,.int .i64 c,.int .i64 d,.int .i64 e]] W fun x w'=>x=.returned (errV (rchk ⟨a,b,c,d,e⟩))∧Bw W w'):=fun W=>zCV a b c d e W
 by_cases h0:rchk ⟨a,b,c,d,e⟩=0
 rotate_left
 ·have e0:zBp ⟨a,b,c,d,e⟩ s p=rchk ⟨a,b,c,d,e⟩:=if_neg h0;have e1:zBJ ⟨a,b,c,d,e⟩ s p=0:=if_neg (by rw[e0];exact h0)
  have e2:zBK ⟨a,b,c,d,e⟩ s p=0:=if_neg (by rw[e0];exact h0)
  rw[e1,e2,e0,wAb h0];rw[wAb h0] at GE;clear e1 e2 e0;generalize rchk ⟨a,b,c,d,e⟩=k at *;go_enter func137,ntmps137;go_wp2_with fail;refine(GE.out _).mono ?_;rintro e w1⟨rfl,hb⟩;have hW:Bw w w1:=((bzR _ _).alloc (nzR _) _).trans (hb.mono (by simp))
  go_wp2_with fail
  go_ret3
  exact⟨rfl,hW⟩
 have hs:=zDy h0;have Mz:Hid (wrap64 (c+d)=c+d):=by
  have h1:1≤c∧c≤10000∧0≤d∧d≤10000:=hs;show _=_
  unfold wrap64;omega
 have HR:=hidM (wBf s p);have e0:zBp ⟨a,b,c,d,e⟩ s p=(if sidB s && prB p then 0 else 1):=if_pos h0
 rw[h0,wAa] at GE;unfold zBJ zBK;rw[e0];clear e0 h0 hs;generalize (sidB s && prB p)=r at *;cases r
 ·show Calls _ _ _ _ fun x w'=>x=.returned (.tuple #[.int .i64 0,.int .i64 0,.iface 90 (.int .i64 1)])∧Bw w w'
  go_enter func137,ntmps137;go_wp2_with fail;refine(GE.out _).mono ?_;rintro x w1⟨rfl,hb⟩;have hW:Bw w w1:=((bzR _ _).alloc (nzR _) _).trans (hb.mono (by simp))
  clear hb;go_wp2_with fail;refine(zAP s _).mono ?_;rintro x w2⟨rfl,Ha⟩;have gb:=hW.trans (Ha.mono hW.size);clear Ha;go_wp2_with fail;refine(zAt p _).mono ?_;rintro x w3⟨rfl,Hr⟩;have gQ:=gb.trans (Hr.mono gb.size);clear Hr;go_wp2_with fail;refine(scheck2 true _ _ _ _ _ _ _ _ rfl HR.out).mono ?_;rintro x w4⟨rfl,Gj⟩;have G4:=gQ.trans (Gj.mono gQ.size);clear Gj;simp only[show spn.errV (zAd true)=.iface 90 (.int .i64 1) from rfl]
  go_wp2_with fail
  go_ret3
  exact⟨rfl,G4⟩
 ·show Calls _ _ _ _ fun x w'=>x=.returned (.tuple #[.int .i64 (putC s p (c+d)),.int .i64 (putS s (c+d)),.nilIface])∧Bw w w'
  go_enter func137,ntmps137;go_wp2_with fail;refine(GE.out _).mono ?_;rintro x w1⟨rfl,hb⟩;have hW:Bw w w1:=((bzR _ _).alloc (nzR _) _).trans (hb.mono (by simp))
  have d2:w1.cell? ⟨w.heap.size,2,none⟩=some (.int .i64 c):=zAa hb (by simp)
  have d3:w1.cell? ⟨w.heap.size,3,none⟩=some (.int .i64 d):=zAa hb (by simp)
  clear hb;go_wp2_with fail;refine(zAP s _).mono ?_;rintro x w2⟨rfl,Ha⟩;have gb:=hW.trans (Ha.mono hW.size);have c2:=zAa Ha d2;have c3:=zAa Ha d3;clear Ha d2 d3;go_wp2_with fail;refine(zAt p _).mono ?_;rintro x w3⟨rfl,Hr⟩;have gQ:=gb.trans (Hr.mono gb.size);have d2:=zAa Hr c2;have d3:=zAa Hr c3;clear Hr c2 c3;go_wp2_with fail;refine(scheck2 false _ _ _ _ _ _ _ _ rfl HR.out).mono ?_;rintro x w4⟨rfl,Gj⟩;have G4:=gQ.trans (Gj.mono gQ.size);have c2:=zAa Gj d2;have c3:=zAa Gj d3;clear Gj d2 d3;simp only[show spn.errV (zAd false)=.nilIface from rfl]
  have x1:=Mz.out;go_wp2_with fail;refine(zGY _ _ _ _).mono ?_;rintro x w5⟨rfl,rfl⟩;go_wp2_with fail
  go_ret3
  exact⟨rfl,G4⟩
end mrg
namespace flr
open Go.RowKit
open que (R)
open sid (L DL)
open mee (T tV OwnT)
open ord (O oV)
open pur (Pz Pu Ok)
open wak (OwnM St oL)
theorem hidF{P:Prop}(h:P):Hid P:=h
structure Sl where
 o:O
 p:Int
instance:Inhabited Sl:=⟨⟨⟨0,0,0,0,0,0,0,0⟩,0⟩⟩
def slL(x:Sl):List Value:=oL x.o++[.int .i64 x.p]
def zBH(l:List Sl):List Value:=l.flatMap slL
theorem zHa(a b:List Sl):zBH (a++b)=zBH a++zBH b:=by unfold zBH;rw[List.flatMap_append]
theorem zMr(e:Sl):zBH [e]=slL e:=by simp[zBH]
theorem zFm(e:Sl)(t:List Sl):zBH (e::t)=slL e++zBH t:=by simp[zBH]
structure TS where
 mode:Int
 last:Int
 bs:List L
 ss:List L
 ws:List O
 ps:List Pz
 evs:List Ev
 row:List Sl
def tA:List TypeId:=[73,98,40]
def tB:List TypeId:=[73,98,40,93,34,105]
theorem tA_tB:∀t∈tA,t∈tB:=by decide
structure Kp (S:List TypeId) (w w' : World):Prop where
 os:w'.os=w.os
 tape:w'.tape=w.tape
 output:w'.output=w.output
 size:w.heap.size≤w'.heap.size
 typ:∀ (k:Nat) (cur:Array Value) (t:TypeId),w.heap[k]?=some (Obj.cells cur t (0,0))→t ∉ S→w'.heap[k]?=some (Obj.cells cur t (0,0))
theorem Kp.refl(S:List TypeId)(w:World):Kp S w w:=⟨rfl,rfl,rfl,nzR _,fun _ _ _ h _=>h⟩
theorem Kp.trans{S:List TypeId}{a b c:World}(h:Kp S a b)(k:Kp S b c):Kp S a c:=
 ⟨k.os.trans h.os,k.tape.trans h.tape,k.output.trans h.output,jM h.size k.size,fun i cur t hi ht=>k.typ i cur t (h.typ i cur t hi ht) ht⟩
theorem Kp.mono{S S' : List TypeId}{a b:World}(h:Kp S a b)(hs:∀t∈S,t∈S'):Kp S' a b:=
 ⟨h.os,h.tape,h.output,h.size,fun i cur t hi ht=>h.typ i cur t hi (fun x=>ht (hs t x))⟩
theorem Kp.below{S:List TypeId}{w w' : World}(h:Bw w w'):Kp S w w':=
 ⟨h.os,h.tape,h.output,h.size,fun k _ _ hk _=>(h.block k (gzE.1 hk).1).trans hk⟩
theorem Kp.grown{S:List TypeId}{w w' : World}{P:Nat}{cur:Array Value}{t:TypeId}{f:Nat × Nat}(h:w.grownBy w' (some P))(hP:w.heap[P]?=some (.cells cur t f))(ht:t∈S):Kp S w w':=
 ⟨h.os,h.tape,h.output,h.size,fun k c t' hk ht'=>(h.block k (gzE.1 hk).1 (fun e=>by
  cases e;rw[hP] at hk;simp only[Option.some.injEq,Obj.cells.injEq] at hk;exact ht' (hk.2.1 ▸ ht))).trans hk⟩
theorem Kp.own{S:List TypeId}{w w' : World}(hk:Kp S w w'){base:Nat}{e:TypeId}{sz:Nat}{v:Value}{n:Nat}{xs:List Value}(h:OwnM w base e sz v n xs)(he:e ∉ S):OwnM w' base e sz v n xs:=by
 refine⟨h.1,?_⟩;rcases h.2 with hn|⟨g,off,cap,cur,rfl,hb,Hu,rest⟩
 ·exact .inl hn
 ·exact .inr ⟨g,off,cap,cur,rfl,hb,hk.typ g cur e Hu he,rest⟩
theorem Kp.ownQ{S:List TypeId}{w w' : World}(hk:Kp S w w'){base:Nat}{e:TypeId}{sz:Nat}{v:Value}{n:Nat}{xs:List Value}(h:que.OwnM w base e sz v n xs)(he:e ∉ S):que.OwnM w' base e sz v n xs:=by
 refine⟨h.1,?_⟩;rcases h.2 with hn|⟨g,off,cap,cur,rfl,hb,Hu,rest⟩
 ·exact .inl hn
 ·exact .inr ⟨g,off,cap,cur,rfl,hb,hk.typ g cur e Hu he,rest⟩
theorem Kp.dl{S:List TypeId}{w w' : World}(hk:Kp S w w'){base:Nat}{v:Value}{ls:List L}(h:DL w base v ls)(h1:54 ∉ S)(h2:51 ∉ S):DL w' base v ls:=by
 obtain⟨ps,e,hD⟩:=h;exact⟨ps,e,⟨hk.ownQ hD.own h1,fun p hp=>hk.ownQ (hD.each p hp) h2,hD.apart,hD.far⟩⟩
theorem Kp.pu{S:List TypeId}{w w' : World}(hk:Kp S w w'){P:Nat}{ps:List Pz}(h:Pu 98 9 w P ps)(h1:98 ∉ S):Pu 98 9 w' P ps:=⟨h.1,hk.typ _ _ _ h.2 h1⟩
theorem Kp.st{S:List TypeId}{w w' : World}(hk:Kp S w w'){b p:Nat}{v:Value}{os:List O}(h:St w b p v os)(h1:93 ∉ S)(h2:34 ∉ S):St w' b p v os:=
 ⟨hk.typ _ _ _ h.blk h1,h.le,hk.own h.own h2⟩
structure Tn (S:List TypeId) (b:Nat) (w w' : World):Prop where
 kp:Kp S w w'
 low:∀k,k<b→w'.heap[k]?=w.heap[k]?
theorem Tn.refl(S:List TypeId)(b:Nat)(w:World):Tn S b w w:=⟨Kp.refl S w,fun _ _=>rfl⟩
theorem Tn.trans{S:List TypeId}{b:Nat}{x y z:World}(h:Tn S b x y)(k:Tn S b y z):Tn S b x z:=⟨h.kp.trans k.kp,fun i hi=>(k.low i hi).trans (h.low i hi)⟩
theorem Tn.mono{S S' : List TypeId}{b:Nat}{x y:World}(h:Tn S b x y)(hs:∀t∈S,t∈S'):Tn S' b x y:=⟨h.kp.mono hs,h.low⟩
theorem Tn.below{S:List TypeId}{b:Nat}{w w' : World}(h:Bw w w')(hb:b≤w.heap.size):Tn S b w w':=⟨Kp.below h,fun k hk=>h.block k (by omega)⟩
theorem Tn.grown{S:List TypeId}{b:Nat}{w w' : World}{P:Nat}{cur:Array Value}{t:TypeId}{f:Nat × Nat}(h:w.grownBy w' (some P))(hP:w.heap[P]?=some (.cells cur t f))(ht:t∈S)(hb:b≤P):Tn S b w w':=
 ⟨Kp.grown h hP ht,fun k hk=>h.block k (by have:=(gzE.1 hP).1;omega) (fun e=>by cases e;omega)⟩
theorem Tn.bel{S:List TypeId}{b:Nat}{w w' : World}(h:Tn S b w w'):Below b w w':=⟨h.kp.os,h.kp.tape,h.kp.output,h.kp.size,h.low⟩
structure TV where
 q1:Option Addr
 n1:Nat
 c1:Nat
 q2:Option Addr
 n2:Nat
 c2:Nat
 sp:Nat
 vw:Value
 pp:Nat
 qe:Option Addr
 ne:Nat
 ce:Nat
 qk:Option Addr
 nk:Nat
 ck:Nat
def rowT(s:TS)(v:TV):Array Value:=#[.int .i64 s.mode,.slice v.q1 v.n1 v.c1,.slice v.q2 v.n2 v.c2,.pointer (some ⟨v.sp,0,none⟩),.pointer (some ⟨v.pp,0,none⟩),.int .i64 s.last,.slice v.qe v.ne v.ce,.slice v.qk v.nk v.ck]
structure TM (w:World) (b t:Nat) (s:TS) (v:TV):Prop where
 blk:w.heap[t]?=some (.cells (rowT s v) 73 (0,0))
 le:b≤t
 buys:DL w 0 (.slice v.q1 v.n1 v.c1) s.bs
 sells:DL w 0 (.slice v.q2 v.n2 v.c2) s.ss
 stops:St w b v.sp v.vw s.ws
 purs:Pu 98 9 w v.pp s.ps
 ple:b≤v.pp
 evs:OwnM w b 40 10 (.slice v.qe v.ne v.ce) s.evs.length (zAD s.evs)
 row:OwnM w b 105 9 (.slice v.qk v.nk v.ck) s.row.length (zBH s.row)
section
variable {w w' : World}{b t:Nat}{s:TS}{v:TV}
theorem TM.lt(h:TM w b t s v):t<w.heap.size:=(gzE.1 h.blk).1
theorem TM.base(h:TM w b t s v):b≤w.heap.size:=by have:=h.lt;have:=h.le;omega
theorem TM.below(h:TM w b t s v)(hB:Bw w w'):TM w' b t s v:=
 have hk:Kp [] w w':=Kp.below hB
 ⟨hk.typ _ _ _ h.blk (by simp),h.le,hk.dl h.buys (by simp) (by simp),hk.dl h.sells (by simp) (by simp),hk.st h.stops (by simp) (by simp),hk.pu h.purs (by simp),h.ple,hk.own h.evs (by simp),hk.own h.row (by simp)⟩
theorem TM.cells(h:TM w b t s v):w.cell? ⟨t,0,none⟩=some (.int .i64 s.mode)∧w.cell? ⟨t,1,none⟩=some (.slice v.q1 v.n1 v.c1)∧w.cell? ⟨t,2,none⟩=some (.slice v.q2 v.n2 v.c2)∧w.cell? ⟨t,3,none⟩=some (.pointer (some ⟨v.sp,0,none⟩))∧w.cell? ⟨t,4,none⟩=some (.pointer (some ⟨v.pp,0,none⟩))∧w.cell? ⟨t,5,none⟩=some (.int .i64 s.last)∧w.cell? ⟨t,6,none⟩=some (.slice v.qe v.ne v.ce)∧w.cell? ⟨t,7,none⟩=some (.slice v.qk v.nk v.ck)∧∀j,w.frozen? ⟨t,j,none⟩=false:=
 wak.row8 h.blk
theorem TM.ne(h:TM w b t s v):v.ne=s.evs.length:=by obtain⟨q,c,e⟩:=OwnM.form h.evs;simp only[Value.slice.injEq] at e;exact e.2.1
theorem TM.nk(h:TM w b t s v):v.nk=s.row.length:=by obtain⟨q,c,e⟩:=OwnM.form h.row;simp only[Value.slice.injEq] at e;exact e.2.1
theorem TM.pay(h:TM w b t s v){ps:List Pz}(hp:Pu 98 9 w' v.pp ps)(hg:w.grownBy w' (some v.pp)):TM w' b t { s with ps:=ps } v∧Tn tA b w w':=by
 have hk:Kp [98] w w':=Kp.grown hg h.purs.2 (by simp)
 exact⟨⟨hk.typ _ _ _ h.blk (by decide),h.le,hk.dl h.buys (by decide) (by decide),hk.dl h.sells (by decide) (by decide),hk.st h.stops (by decide) (by decide),hp,h.ple,hk.own h.evs (by decide),hk.own h.row (by decide)⟩,Tn.grown hg h.purs.2 (by decide) h.ple⟩
theorem TM.book(h:TM w b t s v){q1 q2:Option Addr}{n1 n2 c1 c2:Nat}{bs ss:List L}(h1:DL w 0 (.slice q1 n1 c1) bs)(h2:DL w 0 (.slice q2 n2 c2) ss) :
  TM ((w.setCell ⟨t,1,none⟩ (.slice q1 n1 c1)).setCell ⟨t,2,none⟩ (.slice q2 n2 c2)) b t { s with bs:=bs,ss:=ss } { v with q1:=q1,n1:=n1,c1:=c1,q2:=q2,n2:=n2,c2:=c2 }∧Tn tA b w ((w.setCell ⟨t,1,none⟩ (.slice q1 n1 c1)).setCell ⟨t,2,none⟩ (.slice q2 n2 c2)):=by
 have hg:w.grownBy ((w.setCell ⟨t,1,none⟩ (.slice q1 n1 c1)).setCell ⟨t,2,none⟩ (.slice q2 n2 c2)) (some t):=wak.wAd (wak.wAc _ _ _ _) (wak.wAc _ _ _ _);have hk:Kp [73] w _:=Kp.grown hg h.blk (by simp)
 refine⟨⟨?_,h.le,hk.dl h1 (by decide) (by decide),hk.dl h2 (by decide) (by decide),hk.st h.stops (by decide) (by decide),hk.pu h.purs (by decide),h.ple,hk.own h.evs (by decide),hk.own h.row (by decide)⟩,Tn.grown hg h.blk (by decide) h.le⟩
 have x1:=jB w t 1 _ _ (.slice q1 n1 c1) h.blk;exact jB _ t 2 _ _ (.slice q2 n2 c2) x1
theorem TM.lastP(h:TM w b t s v)(p:Int):TM (w.setCell ⟨t,5,none⟩ (.int .i64 p)) b t { s with last:=p } v∧Tn tA b w (w.setCell ⟨t,5,none⟩ (.int .i64 p)):=by
 have hg:=wak.wAc w t 5 (.int .i64 p);have hk:Kp [73] w _:=Kp.grown hg h.blk (by simp)
 exact⟨⟨jB w t 5 _ _ _ h.blk,h.le,hk.dl h.buys (by decide) (by decide),hk.dl h.sells (by decide) (by decide),hk.st h.stops (by decide) (by decide),hk.pu h.purs (by decide),h.ple,hk.own h.evs (by decide),hk.own h.row (by decide)⟩,Tn.grown hg h.blk (by decide) h.le⟩
theorem TM.told(h:TM w b t s v){q:Option Addr}{n c:Nat}{evs:List Ev}(ho:OwnM w' b 40 10 (.slice q n c) evs.length (zAD evs))(hg:w.grownBy w' (Value.slice v.qe v.ne v.ce).ownBlock) :
  TM (w'.setCell ⟨t,6,none⟩ (.slice q n c)) b t { s with evs:=evs } { v with qe:=q,ne:=n,ce:=c }∧Tn tA b w (w'.setCell ⟨t,6,none⟩ (.slice q n c)):=by
 have hk:Kp [40] w w'∧∀k,k<b→w'.heap[k]?=w.heap[k]?:=by
  rcases h.evs.2 with ⟨h1,_⟩|⟨g,off,cap,cur,h1,h2,h3,_⟩
  ·rw[h1] at hg;have hB:Bw w w':=⟨hg.os,hg.tape,hg.output,hg.size,fun k hk=>hg.block k hk (by simp[Value.ownBlock])⟩
   exact⟨Kp.below hB,fun k hk=>hB.block k (by have:=h.base;omega)⟩
  ·rw[h1] at hg;have bE : w.grownBy w' (some g):=hg;exact⟨Kp.grown bE h3 (by simp),fun k hk=>bE.block k (by have:=h.base;omega) (fun e=>by cases e;omega)⟩
 have hb:=hk.1.typ _ _ _ h.blk (by decide)
 have Ge:=wak.wAc w' t 6 (.slice q n c);have Gg:Kp [73] w' _:=Kp.grown Ge hb (by simp)
 have uS:Kp [73,40] w (w'.setCell ⟨t,6,none⟩ (.slice q n c)):=(hk.1.mono (by simp)).trans (Gg.mono (by simp))
 refine⟨⟨jB w' t 6 _ _ _ hb,h.le,uS.dl h.buys (by decide) (by decide),uS.dl h.sells (by decide) (by decide),uS.st h.stops (by decide) (by decide),uS.pu h.purs (by decide),h.ple,Gg.own ho (by decide),uS.own h.row (by decide)⟩,uS.mono (by decide),fun k dG=>?_⟩
 rw[Ge.block k (by have:=h.base;have:=hk.1.size;omega) (fun e=>by cases e;have:=h.le;omega)]
 exact hk.2 k dG
end
def zMs:Value:=.agg #[.int .i64 0,.int .i64 0,.int .i64 0,.int .i64 0,.int .i64 0,.int .i64 0,.int .i64 0,.int .i64 0,.int .i64 0,.int .i64 0]
theorem infoE:(prog.info? 40).map (fun i=>(i.zero,i.size,i.bytes))=some (some zMs,10,80):=by kernel_rfl
theorem infoE' : ∃i,prog.info? 40=some i∧i.zero=some zMs∧i.size=10∧i.bytes=80:=by
 have h:=infoE;cases hq:prog.info? 40 with
 | none=>rw[hq] at h;simp at h
 | some i=>
  rw[hq] at h;simp only[Option.map_some,Option.some.injEq,Prod.mk.injEq] at h;exact⟨i,rfl,h.1,h.2.1,h.2.2⟩
def zRg:Value:=.agg #[.int .i64 0,.int .i64 0,.int .i64 0,.int .i64 0,.int .i64 0,.int .i64 0,.int .i64 0,.int .i64 0,.int .i64 0]
theorem infoK:(prog.info? 105).map (fun i=>(i.zero,i.size,i.bytes))=some (some zRg,9,72):=by kernel_rfl
theorem infoK' : ∃i,prog.info? 105=some i∧i.zero=some zRg∧i.size=9∧i.bytes=72:=by
 have h:=infoK;cases hq:prog.info? 105 with
 | none=>rw[hq] at h;simp at h
 | some i=>
  rw[hq] at h;simp only[Option.map_some,Option.some.injEq,Prod.mk.injEq] at h;exact⟨i,rfl,h.1,h.2.1,h.2.2⟩
end flr
end Go.Proofs.YtnfilcpnneckkaaGreat
