import Derived.Test.YtmhcghgfpfainaaGreatDoorSwpRep2
import Derived.Test.YtmhcghgfpfainaaGreatDoorKinDo
set_option maxHeartbeats 4000000
set_option maxRecDepth 100000
namespace Go.Proofs.YtmhcghgfpfainaaGreatDoor
open Tryz
namespace swp
open Go.RowKit spn que sid bok mee kin
open tickP (errB zAn zAU)
open ord (O)
theorem zIV(q:Int)(r:Bool)(h:(decide (1≤q) && decide (q≤10000)) = !r):[(q,1,10000)].any zAo=r:=by
 have e:[(q,1,10000)].any zAo = !(decide (1≤q) && decide (q≤10000)):=by rw[Bool.eq_iff_iff];simp[zAo]
 rw[e,h];simp
theorem sdo_bad(q1 q2:Option Addr)(n1 n2 c1 c2:Nat)(bs ss:List L)(id price qty:Int)(hid:(Lit.int .i64 id).wf=true)(w:World)(h1:LS w (.slice q1 n1 c1) bs)(h2:LS w (.slice q2 n2 c2) ss)(hE:¬fE bs ss id price=0) :
  Calls prog 123 #[.agg #[.slice q1 n1 c1,.slice q2 n2 c2],.int .i64 id,.int .i64 price,.int .i64 qty] w fun e w'=>e=.returned (.tuple #[.agg #[.slice none 0 0,.slice none 0 0],.slice none 0 0,.int .i64 0,.iface 80 (.int .i64 (fE bs ss id price))])∧Below w.heap.size w w':=by
 obtain⟨V1,gy⟩:∃V1,V1=w.alloc (.cells #[.slice q1 n1 c1,.slice q2 n2 c2] 50):=⟨_,rfl⟩;obtain⟨V,hV⟩:∃V,V=V1.alloc (.cells #[.slice none 0 0,.slice none 0 0] 50):=⟨_,rfl⟩;have Hm:V1.heap.size=w.heap.size+1:=by rw[gy];simp
 have Ha:Below w.heap.size w V1:=by rw[gy];exact(bzR _ _).alloc (nzR _) _
 have Hc:Below V1.heap.size V1 V:=by rw[hV];exact(bzR _ _).alloc (nzR _) _
 have gj:Below w.heap.size w V:=Ha.trans (Hc.mono Ha.size);have go:V.heap[w.heap.size]?=some (.cells #[.slice q1 n1 c1,.slice q2 n2 c2] 50 (0,0)):=by rw[Hc.block _ (by omega),gy];exact jA w _
 have H5:V.heap[w.heap.size+1]?=some (.cells #[.slice none 0 0,.slice none 0 0] 50 (0,0)):=by rw[←Hm,hV];exact jA V1 _
 obtain⟨P,hP⟩:∃P,P=w.heap.size+1:=⟨_,rfl⟩;obtain⟨G,hG⟩:∃G,G=w.heap.size:=⟨_,rfl⟩;rw[←hP] at H5;rw[←hG] at go;have gY:P<V.heap.size:=(gzE.1 H5).1;have BJ:G<V.heap.size:=(gzE.1 go).1;have HP:Hid (w.heap.size≤P∧w.heap.size≤V.heap.size∧P<V.heap.size):=⟨by omega,gj.size,gY⟩
 have Hn:Hid (∀W,Below V.heap.size V W→Below w.heap.size w W∧W.heap[P]?=some (.cells #[.slice none 0 0,.slice none 0 0] 50 (0,0))∧W.cell? ⟨G,0,none⟩=some (.slice q1 n1 c1)∧W.cell? ⟨G,1,none⟩=some (.slice q2 n2 c2)):=fun W hW=>by
  obtain⟨y0,y1,-⟩:=zAb ((hW.block G BJ).trans go);exact⟨gj.trans (hW.mono gj.size),(hW.block P gY).trans H5,y0,y1⟩
 have U3:Hid (∀W,Below w.heap.size w W→LS W (.slice q1 n1 c1) bs∧LS W (.slice q2 n2 c2) ss):=fun W hW=>⟨h1.below hW,h2.below hW⟩
 have uB:=hidW gj;have HF:=hidW (zGY q1 q2 n1 n2 c1 c2 bs ss id price hid V (h1.below gj) (h2.below gj) hE);clear h1 h2 Hm Ha Hc gj go H5 gY BJ;clear hid hE;generalize fE bs ss id price=K at *;obtain⟨-,-,g0,g1⟩:=Hn.out V (bzR _ _);go_enter func123,ntmps123;go_wp2_with fail;rw[←gy,←hV];simp only[←hP];simp only[←hG];clear gy hV hP hG;refine HF.out.mono ?_;rintro x w1⟨rfl,b1⟩;have Hu:Below w1.heap.size w1 (w1.alloc (.cells #[.int .i64 0,.int .i64 0,.int .i64 0,.int .i64 0,.int .i64 0,.int .i64 0,.int .i64 0] 205)):=(bzR _ _).alloc (nzR _) _;have H6:=hidW (b1.trans (Hu.mono b1.size));have mC:(w1.alloc (.cells #[.int .i64 0,.int .i64 0,.int .i64 0,.int .i64 0,.int .i64 0,.int .i64 0,.int .i64 0] 205)).heap[w1.heap.size]?=some (.cells #[.int .i64 0,.int .i64 0,.int .i64 0,.int .i64 0,.int .i64 0,.int .i64 0,.int .i64 0] 205 (0,0)):=jA w1 _;clear b1 Hu HF g0 g1
 go_upto_if 25 with fail
 generalize w1.alloc (.cells #[.int .i64 0,.int .i64 0,.int .i64 0,.int .i64 0,.int .i64 0,.int .i64 0,.int .i64 0] 205)=W2 at *;generalize w1.heap.size=F at *;obtain⟨PK,gm,-,-⟩:=Hn.out W2 H6.out;obtain⟨z0,z1,zf⟩:=zAb gm;have zf0:=zf 0;have zf1:=zf 1;have Hs:=zAN W2 P (.slice none 0 0) (.slice none 0 0);have Hy:=hidW (zAx gm (.slice none 0 0) (.slice none 0 0));have Gh:=hidW (PK.grown Hs PK.size (fun k hk=>by cases hk;exact HP.out.1))
 clear zf gm PK Hs;go_wp2_with fail;generalize ((W2.setCell ⟨P,0,none⟩ (.slice none 0 0)).setCell ⟨P,1,none⟩ (.slice none 0 0))=Z at *;obtain⟨y0,y1,-⟩:=zAb Hy.out;exact jN (v:=.tuple #[.agg #[.slice none 0 0,.slice none 0 0],.slice none 0 0,.int .i64 0,.iface 80 (.int .i64 K)]) (by simp[results,results123,go_sem,y0,y1]) rfl ⟨rfl,Gh.out⟩
theorem zRn(q1 q2:Option Addr)(n1 n2 c1 c2:Nat)(bs ss:List L)(id s p r1 r2 r3 r4 r5 price qty:Int)(i k:Nat)(w:World)(h1:LS w (.slice q1 n1 c1) bs)(h2:LS w (.slice q2 n2 c2) ss)(hA:At bs ss id s p ⟨r1,r2,r3,r4,r5⟩ i k)(ur:zAn price=true)(hq:(decide (1≤qty) && decide (qty≤10000))=false) :
  Calls prog 123 #[.agg #[.slice q1 n1 c1,.slice q2 n2 c2],.int .i64 id,.int .i64 price,.int .i64 qty] w fun e w'=>e=.returned (.tuple #[.agg #[.slice none 0 0,.slice none 0 0],.slice none 0 0,.int .i64 0,.iface 80 (.int .i64 1)])∧Below w.heap.size w w':=by
 obtain⟨V1,gy⟩:∃V1,V1=w.alloc (.cells #[.slice q1 n1 c1,.slice q2 n2 c2] 50):=⟨_,rfl⟩;obtain⟨V,hV⟩:∃V,V=V1.alloc (.cells #[.slice none 0 0,.slice none 0 0] 50):=⟨_,rfl⟩;have Hm:V1.heap.size=w.heap.size+1:=by rw[gy];simp
 have Ha:Below w.heap.size w V1:=by rw[gy];exact(bzR _ _).alloc (nzR _) _
 have Hc:Below V1.heap.size V1 V:=by rw[hV];exact(bzR _ _).alloc (nzR _) _
 have gj:Below w.heap.size w V:=Ha.trans (Hc.mono Ha.size);have go:V.heap[w.heap.size]?=some (.cells #[.slice q1 n1 c1,.slice q2 n2 c2] 50 (0,0)):=by rw[Hc.block _ (by omega),gy];exact jA w _
 have H5:V.heap[w.heap.size+1]?=some (.cells #[.slice none 0 0,.slice none 0 0] 50 (0,0)):=by rw[←Hm,hV];exact jA V1 _
 obtain⟨P,hP⟩:∃P,P=w.heap.size+1:=⟨_,rfl⟩;obtain⟨G,hG⟩:∃G,G=w.heap.size:=⟨_,rfl⟩;rw[←hP] at H5;rw[←hG] at go;have gY:P<V.heap.size:=(gzE.1 H5).1;have BJ:G<V.heap.size:=(gzE.1 go).1;have HP:Hid (w.heap.size≤P∧w.heap.size≤V.heap.size∧P<V.heap.size):=⟨by omega,gj.size,gY⟩
 have Hn:Hid (∀W,Below V.heap.size V W→Below w.heap.size w W∧W.heap[P]?=some (.cells #[.slice none 0 0,.slice none 0 0] 50 (0,0))∧W.cell? ⟨G,0,none⟩=some (.slice q1 n1 c1)∧W.cell? ⟨G,1,none⟩=some (.slice q2 n2 c2)):=fun W hW=>by
  obtain⟨y0,y1,-⟩:=zAb ((hW.block G BJ).trans go);exact⟨gj.trans (hW.mono gj.size),(hW.block P gY).trans H5,y0,y1⟩
 have U3:Hid (∀W,Below w.heap.size w W→LS W (.slice q1 n1 c1) bs∧LS W (.slice q2 n2 c2) ss):=fun W hW=>⟨h1.below hW,h2.below hW⟩
 have uB:=hidW gj;have HF:=hidW (zFT q1 q2 n1 n2 c1 c2 bs ss id s p r1 r2 r3 r4 r5 price i k V (h1.below gj) (h2.below gj) hA ur);clear h1 h2 Hm Ha Hc gj go H5 gY BJ;clear hA ur;obtain⟨-,-,g0,g1⟩:=Hn.out V (bzR _ _);go_enter func123,ntmps123;go_wp2_with fail;rw[←gy,←hV];simp only[←hP];simp only[←hG];clear gy hV hP hG;refine HF.out.mono ?_;rintro x w1⟨rfl,b1⟩;have Hu:Below w1.heap.size w1 (w1.alloc (.cells #[.int .i64 s,.int .i64 p,.int .i64 r1,.int .i64 r2,.int .i64 r3,.int .i64 r4,.int .i64 r5] 205)):=(bzR _ _).alloc (nzR _) _;have H6:=hidW (b1.trans (Hu.mono b1.size));have mC:(w1.alloc (.cells #[.int .i64 s,.int .i64 p,.int .i64 r1,.int .i64 r2,.int .i64 r3,.int .i64 r4,.int .i64 r5] 205)).heap[w1.heap.size]?=some (.cells #[.int .i64 s,.int .i64 p,.int .i64 r1,.int .i64 r2,.int .i64 r3,.int .i64 r4,.int .i64 r5] 205 (0,0)):=jA w1 _;clear b1 Hu HF g0 g1
 go_upto_if 25 with fail
 generalize w1.alloc (.cells #[.int .i64 s,.int .i64 p,.int .i64 r1,.int .i64 r2,.int .i64 r3,.int .i64 r4,.int .i64 r5] 205)=W2 at *;generalize w1.heap.size=F at *;have HS:=hidW (zIV qty true hq);clear hq;go_wp2_with fail;refine(zAS qty W2).mono ?_;rintro x w3⟨rfl,b3⟩;go_wp2_with fail;refine(scheck1 true _ _ _ _ _ rfl HS.out).mono ?_;rintro x w4⟨rfl,b4⟩;simp only[show errV (zAg true)=.iface 80 (.int .i64 1) from rfl]
 have Gj:=b3.trans (b4.mono b3.size);have GP:=hidW (H6.out.trans (Gj.mono H6.out.size));have pX:=(Gj.block F (gzE.1 mC).1).trans mC;clear b3 b4 Gj HS mC H6;obtain⟨PK,gm,-,-⟩:=Hn.out w4 GP.out;obtain⟨z0,z1,zf⟩:=zAb gm;have zf0:=zf 0;have zf1:=zf 1;have Hs:=zAN w4 P (.slice none 0 0) (.slice none 0 0);have Hy:=hidW (zAx gm (.slice none 0 0) (.slice none 0 0));have Gh:=hidW (PK.grown Hs PK.size (fun k hk=>by cases hk;exact HP.out.1))
 clear zf gm PK Hs;go_wp2_with fail;generalize ((w4.setCell ⟨P,0,none⟩ (.slice none 0 0)).setCell ⟨P,1,none⟩ (.slice none 0 0))=Z at *;obtain⟨y0,y1,-⟩:=zAb Hy.out;exact jN (v:=.tuple #[.agg #[.slice none 0 0,.slice none 0 0],.slice none 0 0,.int .i64 0,.iface 80 (.int .i64 1)]) (by simp[results,results123,go_sem,y0,y1]) rfl ⟨rfl,Gh.out⟩
theorem zPf(q1 q2:Option Addr)(n1 n2 c1 c2:Nat)(bs ss:List L)(id s p r1 r2 r3 r4 r5 price qty:Int)(i k:Nat)(w:World)(h1:LS w (.slice q1 n1 c1) bs)(h2:LS w (.slice q2 n2 c2) ss)(hA:At bs ss id s p ⟨r1,r2,r3,r4,r5⟩ i k)(ur:zAn price=true)(hq:(decide (1≤qty) && decide (qty≤10000))=true)(Uh:zDt p ⟨r1,r2,r3,r4,r5⟩ price qty=true) :
  Calls prog 123 #[.agg #[.slice q1 n1 c1,.slice q2 n2 c2],.int .i64 id,.int .i64 price,.int .i64 qty] w fun e w'=>∃u1 u2 m1 m2 d1 d2,e=.returned (.tuple #[.agg #[.slice u1 m1 d1,.slice u2 m2 d2],.slice none 0 0,.int .i64 0,.nilIface])∧DL w' w.heap.size (.slice u1 m1 d1) (kB s bs i k (zAG ⟨r1,r2,r3,r4,r5⟩ qty))∧DL w' w.heap.size (.slice u2 m2 d2) (kS s ss i k (zAG ⟨r1,r2,r3,r4,r5⟩ qty))∧Below w.heap.size w w':=by
 obtain⟨V1,gy⟩:∃V1,V1=w.alloc (.cells #[.slice q1 n1 c1,.slice q2 n2 c2] 50):=⟨_,rfl⟩;obtain⟨V,hV⟩:∃V,V=V1.alloc (.cells #[.slice none 0 0,.slice none 0 0] 50):=⟨_,rfl⟩;have Hm:V1.heap.size=w.heap.size+1:=by rw[gy];simp
 have Ha:Below w.heap.size w V1:=by rw[gy];exact(bzR _ _).alloc (nzR _) _
 have Hc:Below V1.heap.size V1 V:=by rw[hV];exact(bzR _ _).alloc (nzR _) _
 have gj:Below w.heap.size w V:=Ha.trans (Hc.mono Ha.size);have go:V.heap[w.heap.size]?=some (.cells #[.slice q1 n1 c1,.slice q2 n2 c2] 50 (0,0)):=by rw[Hc.block _ (by omega),gy];exact jA w _
 have H5:V.heap[w.heap.size+1]?=some (.cells #[.slice none 0 0,.slice none 0 0] 50 (0,0)):=by rw[←Hm,hV];exact jA V1 _
 obtain⟨P,hP⟩:∃P,P=w.heap.size+1:=⟨_,rfl⟩;obtain⟨G,hG⟩:∃G,G=w.heap.size:=⟨_,rfl⟩;rw[←hP] at H5;rw[←hG] at go;have gY:P<V.heap.size:=(gzE.1 H5).1;have BJ:G<V.heap.size:=(gzE.1 go).1;have HP:Hid (w.heap.size≤P∧w.heap.size≤V.heap.size∧P<V.heap.size):=⟨by omega,gj.size,gY⟩
 have Hn:Hid (∀W,Below V.heap.size V W→Below w.heap.size w W∧W.heap[P]?=some (.cells #[.slice none 0 0,.slice none 0 0] 50 (0,0))∧W.cell? ⟨G,0,none⟩=some (.slice q1 n1 c1)∧W.cell? ⟨G,1,none⟩=some (.slice q2 n2 c2)):=fun W hW=>by
  obtain⟨y0,y1,-⟩:=zAb ((hW.block G BJ).trans go);exact⟨gj.trans (hW.mono gj.size),(hW.block P gY).trans H5,y0,y1⟩
 have U3:Hid (∀W,Below w.heap.size w W→LS W (.slice q1 n1 c1) bs∧LS W (.slice q2 n2 c2) ss):=fun W hW=>⟨h1.below hW,h2.below hW⟩
 have uB:=hidW gj;have HF:=hidW (zFT q1 q2 n1 n2 c1 c2 bs ss id s p r1 r2 r3 r4 r5 price i k V (h1.below gj) (h2.below gj) hA ur);have HK:=hidW (fun W=>zFk s p r1 r2 r3 r4 r5 price qty W hA.rest)
 rw[Uh] at HK;have bY:1≤qty∧qty≤10000:=by simpa using hq
 have U0:=hidW (fun W=>zPc r1 r2 r3 r4 r5 qty W (zAp hA.rest).1 bY)
 have dQ:=hA.up (r':=zAG ⟨r1,r2,r3,r4,r5⟩ qty) hA.id;obtain⟨KB,hKB⟩:∃KB,KB=kB s bs i k (zAG ⟨r1,r2,r3,r4,r5⟩ qty):=⟨_,rfl⟩;obtain⟨KS,hKS⟩:∃KS,KS=kS s ss i k (zAG ⟨r1,r2,r3,r4,r5⟩ qty):=⟨_,rfl⟩;rw[←hKB,←hKS] at dQ ⊢;have uj:Hid (∀W,Below V.heap.size V W→Calls prog 156 #[.agg #[.slice q1 n1 c1,.slice q2 n2 c2],.agg #[.int .i64 r1,.int .i64 r2,.int .i64 (min r3 qty),.int .i64 (qty - min r3 qty),.int .i64 r5]] W fun e w'=>∃u1 u2 m1 m2 d1 d2,e=.returned (.agg #[.slice u1 m1 d1,.slice u2 m2 d2])∧DL w' V.heap.size (.slice u1 m1 d1) KB∧DL w' V.heap.size (.slice u2 m2 d2) KS∧Below V.heap.size V w'):=fun W hW=>by
  have PI:=gj.trans (hW.mono gj.size);refine(zHZ q1 q2 n1 n2 c1 c2 bs ss r1 r2 (min r3 qty) (qty - min r3 qty) r5 W (h1.below PI) (h2.below PI) hA.book).mono ?_;rintro e w'⟨u1,u2,m1,m2,d1,d2,rfl,g1,g2,g3⟩;refine⟨u1,u2,m1,m2,d1,d2,rfl,?_,?_,hW.trans (g3.mono hW.size)⟩
  ·rw[←dQ.1];exact g1.mono hW.size
  ·rw[←dQ.2];exact g2.mono hW.size
 clear h1 h2 Hm Ha Hc gj go H5 gY BJ;clear hA ur Uh bY dQ hKB hKS;obtain⟨-,-,g0,g1⟩:=Hn.out V (bzR _ _);go_enter func123,ntmps123;go_wp2_with fail;rw[←gy,←hV];simp only[←hP];simp only[←hG];clear gy hV hP hG;refine HF.out.mono ?_;rintro x w1⟨rfl,b1⟩;have Hu:Below w1.heap.size w1 (w1.alloc (.cells #[.int .i64 s,.int .i64 p,.int .i64 r1,.int .i64 r2,.int .i64 r3,.int .i64 r4,.int .i64 r5] 205)):=(bzR _ _).alloc (nzR _) _;have H6:=hidW (b1.trans (Hu.mono b1.size));have mC:(w1.alloc (.cells #[.int .i64 s,.int .i64 p,.int .i64 r1,.int .i64 r2,.int .i64 r3,.int .i64 r4,.int .i64 r5] 205)).heap[w1.heap.size]?=some (.cells #[.int .i64 s,.int .i64 p,.int .i64 r1,.int .i64 r2,.int .i64 r3,.int .i64 r4,.int .i64 r5] 205 (0,0)):=jA w1 _;clear b1 Hu HF g0 g1;go_upto_if 25 with fail
 generalize w1.alloc (.cells #[.int .i64 s,.int .i64 p,.int .i64 r1,.int .i64 r2,.int .i64 r3,.int .i64 r4,.int .i64 r5] 205)=W2 at *;generalize w1.heap.size=F at *;have HS:=hidW (zIV qty false hq);clear hq;go_wp2_with fail;refine(zAS qty W2).mono ?_;rintro x w3⟨rfl,b3⟩;go_wp2_with fail;refine(scheck1 false _ _ _ _ _ rfl HS.out).mono ?_;rintro x w4⟨rfl,b4⟩;simp only[show errV (zAg false)=.nilIface from rfl]
 have Gj:=b3.trans (b4.mono b3.size);have GP:=hidW (H6.out.trans (Gj.mono H6.out.size));have pX:=(Gj.block F (gzE.1 mC).1).trans mC;clear b3 b4 Gj HS mC H6;obtain⟨s0,s1,s2,s3,s4,s5,s6,-⟩:=zBO pX;go_wp2_with fail;refine(HK.out _).mono ?_;rintro x w5⟨rfl,b5⟩;have MI:=hidW (GP.out.trans (b5.mono GP.out.size));have hRS5:=(b5.block F (gzE.1 pX).1).trans pX;clear s0 s1 s2 s3 s4 s5 s6 b5 pX GP HK;obtain⟨s0,s1,s2,s3,s4,s5,s6,-⟩:=zBO hRS5;obtain⟨-,-,g0,g1⟩:=Hn.out w5 MI.out;go_upto_region 8 with fail
 generalize min r3 qty=M at *;generalize qty - M=N at *
 go_region_with (first|(go_at_call 157;with_reducible refine(U0.out _).mono ?_;rintro x w6 ⟨rfl,b6⟩;have Cn:=hidW (MI.out.drew.trans (b6.mono MI.out.drew.size));obtain⟨-,-,k0,k1⟩:=Hn.out w6 Cn.out)|(go_at_call 156;with_reducible refine(uj.out _ ?_).mono ?_;(with_reducible repeat' (first|exact Cn.out|assumption|refine Below.drew ?_));rintro x w7 ⟨u1,u2,m1,m2,d1,d2,rfl,D1,D2,b7⟩;obtain⟨PK,gm,-,-⟩:=Hn.out w7 b7;obtain⟨z0,z1,zf⟩:=zAb gm;have zf0:=zf 0;have zf1:=zf 1))
 all_goals
  have Hs:=zAN w7 P (.slice u1 m1 d1) (.slice u2 m2 d2);have Hy:=hidW (zAx gm (.slice u1 m1 d1) (.slice u2 m2 d2));have Hz:=hidW (show DL ((w7.setCell ⟨P,0,none⟩ (.slice u1 m1 d1)).setCell ⟨P,1,none⟩ (.slice u2 m2 d2)) w.heap.size (.slice u1 m1 d1) KB∧DL ((w7.setCell ⟨P,0,none⟩ (.slice u1 m1 d1)).setCell ⟨P,1,none⟩ (.slice u2 m2 d2)) w.heap.size (.slice u2 m2 d2) KS∧Below w.heap.size w ((w7.setCell ⟨P,0,none⟩ (.slice u1 m1 d1)).setCell ⟨P,1,none⟩ (.slice u2 m2 d2)) from
   ⟨(D1.other Hs HP.out.2.2).mono HP.out.2.1,(D2.other Hs HP.out.2.2).mono HP.out.2.1,PK.grown Hs PK.size (fun k hk=>by cases hk;exact HP.out.1)⟩)
  clear zf gm PK Hs D1 D2;go_wp2_with fail;generalize ((w7.setCell ⟨P,0,none⟩ (.slice u1 m1 d1)).setCell ⟨P,1,none⟩ (.slice u2 m2 d2))=Z at *;obtain⟨y0,y1,-⟩:=zAb Hy.out;exact jN (v:=.tuple #[.agg #[.slice u1 m1 d1,.slice u2 m2 d2],.slice none 0 0,.int .i64 0,.nilIface]) (by simp[results,results123,go_sem,y0,y1]) rfl ⟨_,_,_,_,_,_,rfl,Hz.out⟩
end swp
namespace wak
open Go.RowKit spn
def OwnM(w:World)(base:Nat)(e:TypeId)(sz:Nat)(v:Value)(n:Nat)(xs:List Value):Prop:=
 xs.length=n*sz∧((v=.slice none 0 0∧n=0)∨
  ∃g off cap cur,v=.slice (some ⟨g,off,none⟩) n cap∧base≤g∧w.heap[g]?=some (.cells cur e (0,0))∧n≤cap∧cap≤maxLen∧off+cap*sz≤cur.size∧(cur.toList.drop off).take (n*sz)=xs)
theorem OwnM.kept{w w' : World}{base:Nat}{e:TypeId}{sz:Nat}{v:Value}{n:Nat}{xs:List Value}{row:Option Nat}(h:OwnM w base e sz v n xs)(hg:w.grownBy w' row)(H7:v.ownBlock=none∨v.ownBlock≠row):OwnM w' base e sz v n xs:=by
 refine⟨h.1,?_⟩;rcases h.2 with hn|⟨g,off,cap,cur,rfl,hb,Hs,rest⟩
 ·exact .inl hn
 ·refine .inr ⟨g,off,cap,cur,rfl,hb,?_,rest⟩;rw[hg.block g (gzE.1 Hs).1 (by simpa [Value.ownBlock] using H7)]
  exact Hs
theorem OwnM.lt{w:World}{base:Nat}{e:TypeId}{sz:Nat}{v:Value}{n:Nat}{xs:List Value}(h:OwnM w base e sz v n xs):∀k,v.ownBlock=some k→base≤k∧k<w.heap.size:=by
 intro k hk;rcases h.2 with ⟨rfl,_⟩|⟨g,off,cap,cur,rfl,hb,hg,_⟩
 ·simp[Value.ownBlock] at hk
 ·simp[Value.ownBlock] at hk;subst hk;exact⟨hb,(gzE.1 hg).1⟩
theorem OwnM.below{w w' : World}{base:Nat}{e:TypeId}{sz:Nat}{v:Value}{n:Nat}{xs:List Value}(h:OwnM w base e sz v n xs)(hB:Bw w w'):OwnM w' base e sz v n xs:=by
 refine⟨h.1,?_⟩;rcases h.2 with hn|⟨g,off,cap,cur,rfl,hb,Hs,rest⟩
 ·exact .inl hn
 ·refine .inr ⟨g,off,cap,cur,rfl,hb,?_,rest⟩;rw[hB.block g (gzE.1 Hs).1];exact Hs
section
variable {P:Program}(w:World)
theorem wAv(t ty e:TypeId)(i:TypeInfo)(ht:P.underlying t=some (.slice e))(hi:P.info? e=some i)
  (g off sLen sCap:Nat) (cur:Array Value) (hg:w.heap[g]?=some (.cells cur e (0,0)))
  (a:Addr) (m c:Nat) (news:List Value) (hl:news.length=m*i.size) (Hl:∀j u,news[j]?=some u→w.cell? (a.add j)=some u) (h1:∀u∈news,u.oneCell'=true)
  (gW:sLen+m≤sCap) (m6:off+sLen*i.size+news.length≤cur.size) :
  (Builtin.append_ #[t,t] ty #[.slice (some ⟨g,off,none⟩) sLen sCap,.slice (some a) m c]).run P w =
   .ok (.slice (some ⟨g,off,none⟩) (sLen+m) sCap) (w.setRow g (cur.toList.take (off+sLen*i.size)++news++cur.toList.drop (off+sLen*i.size+news.length)).toArray):=by
 have hf:=run_firstCells_some (P:=P) w i.size m a m c news hl Hl;have Gc:=run_storeCells_at P g (off+sLen*i.size) e news 0 cur w hg (by simpa using m6) h1
 simp only[Nat.add_zero] at Gc;simp[Builtin.append_,run_underlying ht,sizeOf,typeInfo,hi,Builtin.lenOf,gW,hf,Addr.add_lit,Gc]
theorem wAo(base:Nat)(t ty e:TypeId)(i:TypeInfo)(z:Value)(size bytes:Nat)(ht:P.underlying t=some (.slice e))(hi:P.info? e=some i)(hz:i.zero=some z)
  (GN:i.size=size) (UB:i.bytes=bytes) (Mx:z.cells.size=size)
  (v:Value) (n:Nat) (xs:List Value) (Hh:OwnM w base e size v n xs)
  (a:Addr) (m c:Nat) (news:List Value) (hl:news.length=m*size) (Hl:∀j u,news[j]?=some u→w.cell? (a.add j)=some u) (h1:∀u∈news,u.oneCell'=true)
  (MK:n+m≤maxLen) (gE:(n+m)*bytes≤140737488355328) (Ho:base≤w.heap.size) :
  ∃v' w',(Builtin.append_ #[t,t] ty #[v,.slice (some a) m c]).run P w=.ok v' w'∧OwnM w' base e size v' (n+m) (xs++news)∧w.grownBy w' v.ownBlock∧(v'.ownBlock=v.ownBlock∨v'.ownBlock=some w.heap.size):=by
 subst GN;subst UB;have C4:n+m≤9223372036854775807:=by simp only[maxLen] at MK;omega
 have Hi:(xs++news).length=(n+m)*i.size:=by rw[jE,Hh.1,hl,Nat.add_mul]
 have grown:∀ (old:Nat),old<n+m→∀ (row:Option Nat),
   OwnM (w.drew.alloc (.cells (xs.toArray++news.toArray++Builtin.zeroCells z.cells (grownCap w (n+m) old e - (n+m))) e)) base e i.size
    (.slice (some ⟨w.heap.size,0,none⟩) (n+m) (grownCap w (n+m) old e)) (n+m) (xs++news)∧
   w.grownBy (w.drew.alloc (.cells (xs.toArray++news.toArray++Builtin.zeroCells z.cells (grownCap w (n+m) old e - (n+m))) e)) row:=by
  intro old ho row;have CO:=grownCap_ge w (n+m) old e;have ga:grownCap w (n+m) old e≤maxLen:=grownCap_le_maxLen w (n+m) old e MK;refine⟨⟨Hi,.inr ⟨w.heap.size,0,_,_,rfl,Ho,jA w.drew _,CO,ga,?_,?_⟩⟩,⟨rfl,rfl,rfl,by simp,fun k hk _=>Below.heap_alloc w.drew _ k hk⟩⟩
  ·simp only[Array.size_append,List.size_toArray,size_zeroCells,Mx,Hh.1,hl,←Nat.add_mul,Nat.zero_add];exact Nat.mul_le_mul_right _ (by omega)
  ·simp only[Array.toList_append,List.drop_zero];rw[←Hi];exact List.take_left
 rcases Hh.2 with ⟨rfl,rfl⟩|⟨g,off,cap,cur,rfl,G7,hg,GM,ga,Gy,H8⟩
 ·have hx:xs=[]:=List.eq_nil_of_length_eq_zero (by simpa using Hh.1)
  subst hx;by_cases hm:m=0
  ·subst hm;have hn:news=[]:=List.eq_nil_of_length_eq_zero (by simpa using hl)
   subst hn;refine⟨.slice none 0 0,w,?_,⟨by simp,.inl ⟨rfl,rfl⟩⟩,⟨rfl,rfl,rfl,nzR _,fun _ _ _=>rfl⟩,.inl rfl⟩
   simp[Builtin.append_,run_underlying ht,sizeOf,typeInfo,hi,Builtin.lenOf,Builtin.firstCells,loadCells,loadCellsFrom]
  ·have hr:=run_append_nil (P:=P) w t ty e i z ht hi hz a m c news hl Hl (by omega) (by omega) (by have hb:=gE;simp only[Nat.zero_add] at hb;omega)
   have Hw:=grown 0 (by omega) (Value.ownBlock (.slice none 0 0))
   simp only[Nat.zero_add,jU,Array.empty_append] at Hw ⊢;exact⟨_,_,hr,Hw.1,Hw.2,.inr rfl⟩
 ·by_cases gW:n+m≤cap
  ·have GR:(n+m)*i.size≤cap*i.size:=Nat.mul_le_mul_right _ gW;have m6:off+n*i.size+news.length≤cur.size:=by rw[hl];rw[Nat.add_mul] at GR;omega
   have hr:=wAv (P:=P) w t ty e i ht hi g off n cap cur hg a m c news hl Hl h1 gW m6;refine⟨_,_,hr,⟨Hi,.inr ⟨g,off,cap,_,rfl,G7,setRow_heap w g cur _ e _ hg,gW,ga,?_,?_⟩⟩,⟨rfl,rfl,rfl,by simp,fun k _ hk=>setRow_other w g k _ (fun e=>hk (by simp[Value.ownBlock,e]))⟩,.inl rfl⟩
   ·simp only[List.size_toArray,jE,jJ,jQ,Array.length_toList];omega
   ·have hx:xs.length=n*i.size:=Hh.1;have mh:off+n*i.size≤cur.toList.length:=(by rw[Array.length_toList];omega);have e1:cur.toList.take (off+n*i.size)=cur.toList.take off++xs:=by
     rw[←H8,←List.take_add]
    rw[e1,jS,jS,List.drop_append_of_le_length (by rw[jJ];omega),List.drop_eq_nil_of_le (by rw[jJ];omega),jU,←jS,←Hi]
    exact List.take_left
  ·have Pv:∀j u,xs[j]?=some u→w.cell? ((⟨g,off,none⟩:Addr).add j)=some u:=by
    intro j u hu;rw[Addr.add_lit,jZ w g (off+j) cur e (0,0) hg];rw[←H8,List.getElem?_take] at hu;split at hu
    ·rw[List.getElem?_drop] at hu;simpa using hu
    ·cases hu
   have hr:=run_append_grow (P:=P) w t ty e i z ht hi hz ⟨g,off,none⟩ n cap xs Hh.1 Pv a m c news hl Hl (by omega) (by omega) (growslice_fits (by omega) gE)
   have Hw:=grown cap (by omega) (Value.ownBlock (.slice (some ⟨g,off,none⟩) n cap))
   exact⟨_,_,hr,Hw.1,Hw.2,.inr rfl⟩
theorem wAd{ops:Array Oper}{rest:List Oper}{o:Oper}{a:Act}{Q:Exit→Act→World→Prop}(pg:o.guard=none)(s x:Operand)(t:TypeId)
  (ho:o.op=.call { callee:=.builtin .append,args:=#[s,x],argTypes:=#[t,t] })
  (base:Nat) (e:TypeId) (i:TypeInfo) (z:Value) (size bytes:Nat) (ht:P.underlying t=some (.slice e)) (hi:P.info? e=some i) (hz:i.zero=some z)
  (GN:i.size=size) (UB:i.bytes=bytes) (Mx:z.cells.size=size)
  (v:Value) (n:Nat) (xs:List Value) (hs:a.eval s=v) (Hh:OwnM w base e size v n xs)
  (ad:Addr) (m c:Nat) (news:List Value) (hx:a.eval x=.slice (some ad) m c) (hl:news.length=m*size) (Hl:∀j u,news[j]?=some u→w.cell? (ad.add j)=some u) (h1:∀u∈news,u.oneCell'=true)
  (MK:n+m≤maxLen) (gE:(n+m)*bytes≤140737488355328) (Ho:base≤w.heap.size)
  (h:∀v' w',OwnM w' base e size v' (n+m) (xs++news)→w.grownBy w' v.ownBlock→(v'.ownBlock=v.ownBlock∨v'.ownBlock=some w.heap.size)→wpList P ops Q rest (a.put o.dst v') w'):wpList P ops Q (o::rest) a w:=by
 refine wpList_plain pg fun _ hK=>?_
 obtain⟨v',w',hr,h2,h3,h4⟩:=wAo (P:=P) w base t o.type e i z size bytes ht hi hz GN UB Mx v n xs Hh ad m c news hl Hl h1 MK gE Ho;unfold Oper.wp execOp;simp only[ho,resolve,invoke,builtin,Sem.run_bind,Sem.run_pure,Result.andThen_ok,List.map_toArray,jK,List.map_nil,hs,hx,hr];exact hK _ _ (h v' w' h2 h3 h4)
end
theorem wAk{P:Program}(w:World){ops:Array Oper}{o:Oper}{a:Act}{K:Act→World→Prop}{Q:Exit→Act→World→Prop}{E:Prop}(pg:o.guard=none)(s x:Operand)(t:TypeId)
  (ho:o.op=.call { callee:=.builtin .append,args:=#[s,x],argTypes:=#[t,t] })
  (base:Nat) (e:TypeId) (i:TypeInfo) (z:Value) (size bytes:Nat) (ht:P.underlying t=some (.slice e)) (hi:P.info? e=some i) (hz:i.zero=some z)
  (GN:i.size=size) (UB:i.bytes=bytes) (Mx:z.cells.size=size)
  (v:Value) (n:Nat) (xs:List Value) (hs:a.eval s=v) (Hh:OwnM w base e size v n xs)
  (ad:Addr) (m c:Nat) (news:List Value) (hx:a.eval x=.slice (some ad) m c) (hl:news.length=m*size) (Hl:∀j u,news[j]?=some u→w.cell? (ad.add j)=some u) (h1:∀u∈news,u.oneCell'=true)
  (MK:n+m≤maxLen) (gE:(n+m)*bytes≤140737488355328) (Ho:base≤w.heap.size)
  (h:∀v' w',OwnM w' base e size v' (n+m) (xs++news)→w.grownBy w' v.ownBlock→(v'.ownBlock=v.ownBlock∨v'.ownBlock=some w.heap.size)→K (a.put o.dst v') w') :
  if Region.wanted o (yielded ops a.tmps)=true then Oper.wp P o a w K Q else E:=by
 have hw:Region.wanted o (yielded ops a.tmps)=true:=by simp[Region.wanted,pg]
 rw[if_pos hw];obtain⟨v',w',hr,h2,h3,h4⟩:=wAo (P:=P) w base t o.type e i z size bytes ht hi hz GN UB Mx v n xs Hh ad m c news hl Hl h1 MK gE Ho;unfold Oper.wp execOp;simp only[ho,resolve,invoke,builtin,Sem.run_bind,Sem.run_pure,Result.andThen_ok,List.map_toArray,jK,List.map_nil,hs,hx,hr];exact h v' w' h2 h3 h4
theorem wAu{w w' : World}(h:Bw w w')(row:Option Nat):w.grownBy w' row:=⟨h.os,h.tape,h.output,h.size,fun k hk _=>h.block k hk⟩
theorem wAe{a b c:World}{row:Option Nat}(h:a.grownBy b row)(k:b.grownBy c row):a.grownBy c row:=
 ⟨k.os.trans h.os,k.tape.trans h.tape,k.output.trans h.output,jM h.size k.size,fun i hi hn=>(k.block i (jC hi h.size) hn).trans (h.block i hi hn)⟩
theorem wAc(w:World)(g o:Nat)(u:Value):w.grownBy (w.setCell ⟨g,o,none⟩ u) (some g):=
 ⟨rfl,rfl,rfl,by simp,fun k _ hk=>heap_setCell_other w ⟨g,o,none⟩ k u (fun e=>hk (by rw[e]))⟩
theorem wAH(w:World)(row:Option Nat):w.grownBy w.drew row:=⟨rfl,rfl,rfl,nzR _,fun _ _ _=>rfl⟩
theorem wAi(g:Nat):∀ (vs:List Value) (o:Nat) (w:World),w.grownBy (w.setCells g o vs) (some g)
 | [],_,_=>⟨rfl,rfl,rfl,nzR _,fun _ _ _=>rfl⟩
 | v::r,o,w=>wAe (wAc w g o v) (wAi g r (o+1) _)
theorem zCF(w:World)(o:Obj)(row:Option Nat):w.grownBy (w.alloc o) row:=wAu ((bzR _ _).alloc (nzR _) _) row
theorem wAj(g:Nat)(e:TypeId)(fr:Nat × Nat):∀ (vs:List Value) (o:Nat) (w:World) (cur:Array Value),w.heap[g]?=some (.cells cur e fr)→∃cur',(w.setCells g o vs).heap[g]?=some (.cells cur' e fr)∧cur'.size=cur.size
 | [],_,w,cur,h=>⟨cur,h,rfl⟩
 | v::r,o,w,cur,h=>by
  have Hj:g<w.heap.size:=(gzE.1 h).1;have h1:(w.setCell ⟨g,o,none⟩ v).heap[g]?=some (.cells (cur.setIfInBounds o v) e fr):=by
   rw[setCell_eq_setRow w g o cur e fr v h];exact setRow_heap w g cur _ e fr h
  obtain⟨c,h2,h3⟩:=wAj g e fr r (o+1) _ _ h1;exact⟨c,h2,by rw[h3];simp⟩
theorem OwnM.mono{w:World}{base base' : Nat}{e:TypeId}{sz:Nat}{v:Value}{n:Nat}{xs:List Value}(h:OwnM w base e sz v n xs)(hb:base'≤base):OwnM w base' e sz v n xs:=by
 refine⟨h.1,?_⟩;rcases h.2 with hn|⟨g,off,cap,cur,h1,h2,h3⟩
 ·exact .inl hn
 ·exact .inr ⟨g,off,cap,cur,h1,jM hb h2,h3⟩
theorem OwnM.form{w:World}{base:Nat}{e:TypeId}{sz:Nat}{v:Value}{n:Nat}{xs:List Value}(h:OwnM w base e sz v n xs):∃q c,v=.slice q n c:=by
 rcases h.2 with ⟨h1,h2⟩|⟨g,off,cap,cur,h1,_⟩
 ·subst h2;exact⟨_,_,h1⟩
 ·exact⟨_,_,h1⟩
theorem OwnM.set{w:World}{base:Nat}{e:TypeId}{sz:Nat}{g off n cap:Nat}{xs:List Value}(h:OwnM w base e sz (.slice (some ⟨g,off,none⟩) n cap) n xs)(j:Nat)(u:Value) :
  OwnM (w.setCell ⟨g,off+j,none⟩ u) base e sz (.slice (some ⟨g,off,none⟩) n cap) n (xs.set j u):=by
 refine⟨by rw[List.length_set];exact h.1,?_⟩
 rcases h.2 with ⟨h1,_⟩|⟨g',off',cap',cur,h1,h2,h3,h4,h5,h6,h7⟩
 ·cases h1
 ·cases h1;refine .inr ⟨g,off,cap,cur.setIfInBounds (off+j) u,rfl,h2,jB w g (off+j) cur e u h3,h4,h5,by simpa using h6,?_⟩
  rw[Array.toList_setIfInBounds,List.drop_set,if_neg (by omega),show off+j - off=j by omega,List.take_set,h7]
theorem OwnM.cells{w:World}{base:Nat}{e:TypeId}{sz:Nat}{g off n cap:Nat}{xs:List Value}(h:OwnM w base e sz (.slice (some ⟨g,off,none⟩) n cap) n xs) :
  (∀j u,xs[j]?=some u→w.cell? ⟨g,off+j,none⟩=some u)∧(∀o,w.frozen? ⟨g,o,none⟩=false)∧base≤g∧g<w.heap.size:=by
 rcases h.2 with ⟨h1,_⟩|⟨g',off',cap',cur,h1,h2,h3,h4,h5,h6,h7⟩
 ·cases h1
 ·cases h1;refine⟨fun j u hu=>?_,fun o=>by simp[World.frozen?,h3],h2,(gzE.1 h3).1⟩
  rw[jZ w g (off+j) cur e (0,0) h3];rw[←h7,List.getElem?_take] at hu;split at hu
  ·rw[List.getElem?_drop] at hu;simpa using hu
  ·cases hu
theorem wAy{w:World}{base:Nat}{e:TypeId}{sz:Nat}{g off n cap:Nat}{xs:List Value}(hl:xs.length=n*sz)(hb:base≤g){cur:Array Value}(hg:w.heap[g]?=some (.cells cur e (0,0)))
  (hs:off+cap*sz≤cur.size) (hn:n≤cap) (hm:cap≤maxLen) (hr:w.rangeAt g off xs):OwnM w base e sz (.slice (some ⟨g,off,none⟩) n cap) n xs:=by
 refine⟨hl,.inr ⟨g,off,cap,cur,rfl,hb,hg,hn,hm,hs,?_⟩⟩;apply List.ext_getElem?;intro j;rw[List.getElem?_take];have GR:n*sz≤cap*sz:=Nat.mul_le_mul_right _ hn;by_cases hj:j<n*sz
 ·rw[if_pos hj,List.getElem?_drop];have hx:xs[j]?=some xs[j]:=List.getElem?_eq_getElem (by omega)
  rw[hx,Array.getElem?_toList,←jZ w g (off+j) cur e (0,0) hg];exact hr j _ hx
 ·rw[if_neg hj,List.getElem?_eq_none (by omega)]
theorem wAh{w:World}{base:Nat}{e:TypeId}{sz:Nat}{g off n cap:Nat}{xs:List Value}(h:OwnM w base e sz (.slice (some ⟨g,off,none⟩) n cap) n xs) :
  xs.length=n*sz∧base≤g∧(∃cur,w.heap[g]?=some (.cells cur e (0,0))∧off+cap*sz≤cur.size)∧n≤cap∧cap≤maxLen∧w.rangeAt g off xs∧w.there g off (cap*sz):=by
 obtain⟨hc,hf,hb,-⟩:=OwnM.cells h;rcases h.2 with ⟨h1,_⟩|⟨g',off',cap',cur,h1,h2,h3,h4,h5,h6,h7⟩
 ·cases h1
 ·cases h1;refine⟨h.1,hb,⟨cur,h3,h6⟩,h4,h5,hc,fun j hj=>⟨?_,hf _⟩⟩
  rw[jZ w g (off+j) cur e (0,0) h3,Array.getElem?_eq_getElem (by omega)];rfl
theorem wAr{w:World}{b o:Nat}{xs ys:List Value}(h1:w.rangeAt b o xs)(h2:w.rangeAt b (o+xs.length) ys):w.rangeAt b o (xs++ys):=by
 intro j v hv;by_cases hj:j<xs.length
 ·rw[List.getElem?_append_left hj] at hv;exact h1 j v hv
 ·rw[jV (by omega)] at hv
  have:=h2 (j - xs.length) v hv
  rwa [show o+xs.length+(j - xs.length)=o+j by omega] at this
theorem wAB{w:World}{b o:Nat}{xs ys:List Value}(h:w.rangeAt b o (xs++ys)):w.rangeAt b o xs:=fun j v hv=>h j v (by rw[List.getElem?_append_left (List.getElem?_eq_some_iff.1 hv).1];exact hv)
theorem wAw{w:World}{b o:Nat}{xs ys:List Value}(h:w.rangeAt b o (xs++ys)):w.rangeAt b (o+xs.length) ys:=fun j v hv=>by
 have:=h (xs.length+j) v (by rw[jV (by omega)];simpa using hv)
 rwa [←Nat.add_assoc] at this
theorem wAx{P:Program}(w:World)(t e ty:TypeId)(z:Value)(size:Nat)(ht:P.underlying t=some (.slice e))(hv:∀w,(zeroValue e).run P w=.ok z w)(hz:z.cells.size=size)(h1:z.cells.all (·.oneCell')=true)(b o n c:Nat)(hn:0<n)(uN:w.there b o (n*size)) :
  (Builtin.clear_ #[t] ty #[.slice (some ⟨b,o,none⟩) n c]).run P w=.ok (.tuple #[]) (w.setCells b o (Builtin.zeroCells z.cells n).toList):=by
 have hl:(Builtin.zeroCells z.cells n).toList.length=n*size:=by rw[Array.length_toList,size_zeroCells,hz]
 have h1c:∀v∈(Builtin.zeroCells z.cells n).toList,v.oneCell'=true:=by
  intro v gX;rw[Array.mem_toList_iff] at gX;simp only[Builtin.zeroCells] at gX;rw[Array.all_eq_true] at h1;rw[Array.mem_map] at gX;obtain⟨k,hk,rfl⟩:=gX;rw[Array.mem_range] at hk;have uA:0<z.cells.size:=Nat.pos_of_ne_zero fun e=>by rw[e] at hk;simp at hk
  have hp:k % z.cells.size<z.cells.size:=Nat.mod_lt _ uA;rw[getElem!_pos z.cells _ hp];exact h1 _ hp
 have Gc:=run_storeCells_cells (P:=P) b o (Builtin.zeroCells z.cells n).toList 0 w (by rw[hl];simpa using fun j hj=>(uN j hj).1) (by rw[hl];simpa using fun j hj=>(uN j hj).2) h1c
 simp only[Nat.add_zero] at Gc;obtain⟨m,rfl⟩:∃m,n=m+1:=⟨n - 1,by omega⟩
 simp[Builtin.clear_,run_underlying ht,hv,Gc]
theorem wAt{P:Program}(w:World)(base:Nat)(t ty e:TypeId)(i:TypeInfo)(size:Nat)(ht:P.underlying t=some (.slice e))(hi:P.info? e=some i)
  (v:Value) (n:Nat) (xs:List Value) (Hh:OwnM w base e size v n xs):(Builtin.append_ #[t,t] ty #[v,.slice none 0 0]).run P w=.ok v w:=by
 rcases Hh.2 with ⟨rfl,rfl⟩|⟨g,off,cap,cur,rfl,G7,hg,GM,ga,Gy,H8⟩
 ·simp[Builtin.append_,run_underlying ht,sizeOf,typeInfo,hi,Builtin.lenOf,Builtin.firstCells]
 ·simp[Builtin.append_,run_underlying ht,sizeOf,typeInfo,hi,Builtin.lenOf,Builtin.firstCells,GM,storeCells]
end wak
end Go.Proofs.YtmhcghgfpfainaaGreatDoor
