import Derived.Test.YtnfilcpnneckkaaGreatSwpRep2
import Derived.Test.YtnfilcpnneckkaaGreatKinDo
set_option maxHeartbeats 4000000
set_option maxRecDepth 100000
namespace Go.Proofs.YtnfilcpnneckkaaGreat
open Tryz
namespace swp
open Go.RowKit spn que sid bok mee kin
open tickP (errB zAo zAU)
open ord (O)
theorem zIH(q:Int)(r:Bool)(h:(decide (1≤q) && decide (q≤10000)) = !r):[(q,1,10000)].any zAl=r:=by
 have e:[(q,1,10000)].any zAl = !(decide (1≤q) && decide (q≤10000)):=by rw[Bool.eq_iff_iff];simp[zAl]
 rw[e,h];simp
theorem sdo_bad(q1 q2:Option Addr)(n1 n2 c1 c2:Nat)(bs ss:List L)(id price qty:Int)(hid:(Lit.int .i64 id).wf=true)(w:World)(h1:LS w (.slice q1 n1 c1) bs)(h2:LS w (.slice q2 n2 c2) ss)(hE:¬fE bs ss id price=0) :
  Calls prog 103 #[.agg #[.slice q1 n1 c1,.slice q2 n2 c2],.int .i64 id,.int .i64 price,.int .i64 qty] w fun e w'=>e=.returned (.tuple #[.agg #[.slice none 0 0,.slice none 0 0],.slice none 0 0,.int .i64 0,.iface 90 (.int .i64 (fE bs ss id price))])∧Below w.heap.size w w':=by
 obtain⟨V1,gx⟩:∃V1,V1=w.alloc (.cells #[.slice q1 n1 c1,.slice q2 n2 c2] 57):=⟨_,rfl⟩;obtain⟨V,hV⟩:∃V,V=V1.alloc (.cells #[.slice none 0 0,.slice none 0 0] 57):=⟨_,rfl⟩;have Hl:V1.heap.size=w.heap.size+1:=by rw[gx];simp
 have Hc:Below w.heap.size w V1:=by rw[gx];exact(bzR _ _).alloc (nzR _) _
 have Ha:Below V1.heap.size V1 V:=by rw[hV];exact(bzR _ _).alloc (nzR _) _
 have gc:Below w.heap.size w V:=Hc.trans (Ha.mono Hc.size);have gq:V.heap[w.heap.size]?=some (.cells #[.slice q1 n1 c1,.slice q2 n2 c2] 57 (0,0)):=by rw[Ha.block _ (by omega),gx];exact jA w _
 have H5:V.heap[w.heap.size+1]?=some (.cells #[.slice none 0 0,.slice none 0 0] 57 (0,0)):=by rw[←Hl,hV];exact jA V1 _
 obtain⟨P,hP⟩:∃P,P=w.heap.size+1:=⟨_,rfl⟩;obtain⟨G,hG⟩:∃G,G=w.heap.size:=⟨_,rfl⟩;rw[←hP] at H5;rw[←hG] at gq;have gV:P<V.heap.size:=(gzE.1 H5).1;have Bt:G<V.heap.size:=(gzE.1 gq).1;have HP:Hid (w.heap.size≤P∧w.heap.size≤V.heap.size∧P<V.heap.size):=⟨by omega,gc.size,gV⟩
 have Ho:Hid (∀W,Below V.heap.size V W→Below w.heap.size w W∧W.heap[P]?=some (.cells #[.slice none 0 0,.slice none 0 0] 57 (0,0))∧W.cell? ⟨G,0,none⟩=some (.slice q1 n1 c1)∧W.cell? ⟨G,1,none⟩=some (.slice q2 n2 c2)):=fun W hW=>by
  obtain⟨y0,y1,-⟩:=zAb ((hW.block G Bt).trans gq);exact⟨gc.trans (hW.mono gc.size),(hW.block P gV).trans H5,y0,y1⟩
 have Uf:Hid (∀W,Below w.heap.size w W→LS W (.slice q1 n1 c1) bs∧LS W (.slice q2 n2 c2) ss):=fun W hW=>⟨h1.below hW,h2.below hW⟩
 have ue:=hidW gc;have HF:=hidW (zGR q1 q2 n1 n2 c1 c2 bs ss id price hid V (h1.below gc) (h2.below gc) hE);clear h1 h2 Hl Hc Ha gc gq H5 gV Bt;clear hid hE;generalize fE bs ss id price=K at *;obtain⟨-,-,g0,g1⟩:=Ho.out V (bzR _ _);go_enter func103,ntmps103;go_wp2_with fail;rw[←gx,←hV];simp only[←hP];simp only[←hG];clear gx hV hP hG;refine HF.out.mono ?_;rintro x w1⟨rfl,b1⟩;have Ht:Below w1.heap.size w1 (w1.alloc (.cells #[.int .i64 0,.int .i64 0,.int .i64 0,.int .i64 0,.int .i64 0,.int .i64 0,.int .i64 0] 169)):=(bzR _ _).alloc (nzR _) _;have H6:=hidW (b1.trans (Ht.mono b1.size));have MG:(w1.alloc (.cells #[.int .i64 0,.int .i64 0,.int .i64 0,.int .i64 0,.int .i64 0,.int .i64 0,.int .i64 0] 169)).heap[w1.heap.size]?=some (.cells #[.int .i64 0,.int .i64 0,.int .i64 0,.int .i64 0,.int .i64 0,.int .i64 0,.int .i64 0] 169 (0,0)):=jA w1 _;clear b1 Ht HF g0 g1
 go_upto_if 25 with fail
 generalize w1.alloc (.cells #[.int .i64 0,.int .i64 0,.int .i64 0,.int .i64 0,.int .i64 0,.int .i64 0,.int .i64 0] 169)=W2 at *;generalize w1.heap.size=F at *;obtain⟨PI,gm,-,-⟩:=Ho.out W2 H6.out;obtain⟨z0,z1,zf⟩:=zAb gm;have zf0:=zf 0;have zf1:=zf 1;have Hu:=zAT W2 P (.slice none 0 0) (.slice none 0 0);have Hx:=hidW (zAz gm (.slice none 0 0) (.slice none 0 0));have GA:=hidW (PI.grown Hu PI.size (fun k hk=>by cases hk;exact HP.out.1))
 clear zf gm PI Hu;go_wp2_with fail;generalize ((W2.setCell ⟨P,0,none⟩ (.slice none 0 0)).setCell ⟨P,1,none⟩ (.slice none 0 0))=Z at *;obtain⟨y0,y1,-⟩:=zAb Hx.out;exact jN (v:=.tuple #[.agg #[.slice none 0 0,.slice none 0 0],.slice none 0 0,.int .i64 0,.iface 90 (.int .i64 K)]) (by simp[results,results103,go_sem,y0,y1]) rfl ⟨rfl,GA.out⟩
theorem zQT(q1 q2:Option Addr)(n1 n2 c1 c2:Nat)(bs ss:List L)(id s p r1 r2 r3 r4 r5 price qty:Int)(i k:Nat)(w:World)(h1:LS w (.slice q1 n1 c1) bs)(h2:LS w (.slice q2 n2 c2) ss)(hA:At bs ss id s p ⟨r1,r2,r3,r4,r5⟩ i k)(uo:zAo price=true)(hq:(decide (1≤qty) && decide (qty≤10000))=false) :
  Calls prog 103 #[.agg #[.slice q1 n1 c1,.slice q2 n2 c2],.int .i64 id,.int .i64 price,.int .i64 qty] w fun e w'=>e=.returned (.tuple #[.agg #[.slice none 0 0,.slice none 0 0],.slice none 0 0,.int .i64 0,.iface 90 (.int .i64 1)])∧Below w.heap.size w w':=by
 obtain⟨V1,gx⟩:∃V1,V1=w.alloc (.cells #[.slice q1 n1 c1,.slice q2 n2 c2] 57):=⟨_,rfl⟩;obtain⟨V,hV⟩:∃V,V=V1.alloc (.cells #[.slice none 0 0,.slice none 0 0] 57):=⟨_,rfl⟩;have Hl:V1.heap.size=w.heap.size+1:=by rw[gx];simp
 have Hc:Below w.heap.size w V1:=by rw[gx];exact(bzR _ _).alloc (nzR _) _
 have Ha:Below V1.heap.size V1 V:=by rw[hV];exact(bzR _ _).alloc (nzR _) _
 have gc:Below w.heap.size w V:=Hc.trans (Ha.mono Hc.size);have gq:V.heap[w.heap.size]?=some (.cells #[.slice q1 n1 c1,.slice q2 n2 c2] 57 (0,0)):=by rw[Ha.block _ (by omega),gx];exact jA w _
 have H5:V.heap[w.heap.size+1]?=some (.cells #[.slice none 0 0,.slice none 0 0] 57 (0,0)):=by rw[←Hl,hV];exact jA V1 _
 obtain⟨P,hP⟩:∃P,P=w.heap.size+1:=⟨_,rfl⟩;obtain⟨G,hG⟩:∃G,G=w.heap.size:=⟨_,rfl⟩;rw[←hP] at H5;rw[←hG] at gq;have gV:P<V.heap.size:=(gzE.1 H5).1;have Bt:G<V.heap.size:=(gzE.1 gq).1;have HP:Hid (w.heap.size≤P∧w.heap.size≤V.heap.size∧P<V.heap.size):=⟨by omega,gc.size,gV⟩
 have Ho:Hid (∀W,Below V.heap.size V W→Below w.heap.size w W∧W.heap[P]?=some (.cells #[.slice none 0 0,.slice none 0 0] 57 (0,0))∧W.cell? ⟨G,0,none⟩=some (.slice q1 n1 c1)∧W.cell? ⟨G,1,none⟩=some (.slice q2 n2 c2)):=fun W hW=>by
  obtain⟨y0,y1,-⟩:=zAb ((hW.block G Bt).trans gq);exact⟨gc.trans (hW.mono gc.size),(hW.block P gV).trans H5,y0,y1⟩
 have Uf:Hid (∀W,Below w.heap.size w W→LS W (.slice q1 n1 c1) bs∧LS W (.slice q2 n2 c2) ss):=fun W hW=>⟨h1.below hW,h2.below hW⟩
 have ue:=hidW gc;have HF:=hidW (zFP q1 q2 n1 n2 c1 c2 bs ss id s p r1 r2 r3 r4 r5 price i k V (h1.below gc) (h2.below gc) hA uo);clear h1 h2 Hl Hc Ha gc gq H5 gV Bt;clear hA uo;obtain⟨-,-,g0,g1⟩:=Ho.out V (bzR _ _);go_enter func103,ntmps103;go_wp2_with fail;rw[←gx,←hV];simp only[←hP];simp only[←hG];clear gx hV hP hG;refine HF.out.mono ?_;rintro x w1⟨rfl,b1⟩;have Ht:Below w1.heap.size w1 (w1.alloc (.cells #[.int .i64 s,.int .i64 p,.int .i64 r1,.int .i64 r2,.int .i64 r3,.int .i64 r4,.int .i64 r5] 169)):=(bzR _ _).alloc (nzR _) _;have H6:=hidW (b1.trans (Ht.mono b1.size));have MG:(w1.alloc (.cells #[.int .i64 s,.int .i64 p,.int .i64 r1,.int .i64 r2,.int .i64 r3,.int .i64 r4,.int .i64 r5] 169)).heap[w1.heap.size]?=some (.cells #[.int .i64 s,.int .i64 p,.int .i64 r1,.int .i64 r2,.int .i64 r3,.int .i64 r4,.int .i64 r5] 169 (0,0)):=jA w1 _;clear b1 Ht HF g0 g1
 go_upto_if 25 with fail
 generalize w1.alloc (.cells #[.int .i64 s,.int .i64 p,.int .i64 r1,.int .i64 r2,.int .i64 r3,.int .i64 r4,.int .i64 r5] 169)=W2 at *;generalize w1.heap.size=F at *;have HS:=hidW (zIH qty true hq);clear hq;go_wp2_with fail;refine(zAK qty W2).mono ?_;rintro x w3⟨rfl,b3⟩;go_wp2_with fail;refine(scheck1 true _ _ _ _ _ rfl HS.out).mono ?_;rintro x w4⟨rfl,b4⟩;simp only[show errV (zAd true)=.iface 90 (.int .i64 1) from rfl]
 have Gj:=b3.trans (b4.mono b3.size);have GR:=hidW (H6.out.trans (Gj.mono H6.out.size));have pT:=(Gj.block F (gzE.1 MG).1).trans MG;clear b3 b4 Gj HS MG H6;obtain⟨PI,gm,-,-⟩:=Ho.out w4 GR.out;obtain⟨z0,z1,zf⟩:=zAb gm;have zf0:=zf 0;have zf1:=zf 1;have Hu:=zAT w4 P (.slice none 0 0) (.slice none 0 0);have Hx:=hidW (zAz gm (.slice none 0 0) (.slice none 0 0));have GA:=hidW (PI.grown Hu PI.size (fun k hk=>by cases hk;exact HP.out.1))
 clear zf gm PI Hu;go_wp2_with fail;generalize ((w4.setCell ⟨P,0,none⟩ (.slice none 0 0)).setCell ⟨P,1,none⟩ (.slice none 0 0))=Z at *;obtain⟨y0,y1,-⟩:=zAb Hx.out;exact jN (v:=.tuple #[.agg #[.slice none 0 0,.slice none 0 0],.slice none 0 0,.int .i64 0,.iface 90 (.int .i64 1)]) (by simp[results,results103,go_sem,y0,y1]) rfl ⟨rfl,GA.out⟩
theorem zOK(q1 q2:Option Addr)(n1 n2 c1 c2:Nat)(bs ss:List L)(id s p r1 r2 r3 r4 r5 price qty:Int)(i k:Nat)(w:World)(h1:LS w (.slice q1 n1 c1) bs)(h2:LS w (.slice q2 n2 c2) ss)(hA:At bs ss id s p ⟨r1,r2,r3,r4,r5⟩ i k)(uo:zAo price=true)(hq:(decide (1≤qty) && decide (qty≤10000))=true)(Ue:zDt p ⟨r1,r2,r3,r4,r5⟩ price qty=true) :
  Calls prog 103 #[.agg #[.slice q1 n1 c1,.slice q2 n2 c2],.int .i64 id,.int .i64 price,.int .i64 qty] w fun e w'=>∃u1 u2 m1 m2 d1 d2,e=.returned (.tuple #[.agg #[.slice u1 m1 d1,.slice u2 m2 d2],.slice none 0 0,.int .i64 0,.nilIface])∧DL w' w.heap.size (.slice u1 m1 d1) (kB s bs i k (zAI ⟨r1,r2,r3,r4,r5⟩ qty))∧DL w' w.heap.size (.slice u2 m2 d2) (kS s ss i k (zAI ⟨r1,r2,r3,r4,r5⟩ qty))∧Below w.heap.size w w':=by
 obtain⟨V1,gx⟩:∃V1,V1=w.alloc (.cells #[.slice q1 n1 c1,.slice q2 n2 c2] 57):=⟨_,rfl⟩;obtain⟨V,hV⟩:∃V,V=V1.alloc (.cells #[.slice none 0 0,.slice none 0 0] 57):=⟨_,rfl⟩;have Hl:V1.heap.size=w.heap.size+1:=by rw[gx];simp
 have Hc:Below w.heap.size w V1:=by rw[gx];exact(bzR _ _).alloc (nzR _) _
 have Ha:Below V1.heap.size V1 V:=by rw[hV];exact(bzR _ _).alloc (nzR _) _
 have gc:Below w.heap.size w V:=Hc.trans (Ha.mono Hc.size);have gq:V.heap[w.heap.size]?=some (.cells #[.slice q1 n1 c1,.slice q2 n2 c2] 57 (0,0)):=by rw[Ha.block _ (by omega),gx];exact jA w _
 have H5:V.heap[w.heap.size+1]?=some (.cells #[.slice none 0 0,.slice none 0 0] 57 (0,0)):=by rw[←Hl,hV];exact jA V1 _
 obtain⟨P,hP⟩:∃P,P=w.heap.size+1:=⟨_,rfl⟩;obtain⟨G,hG⟩:∃G,G=w.heap.size:=⟨_,rfl⟩;rw[←hP] at H5;rw[←hG] at gq;have gV:P<V.heap.size:=(gzE.1 H5).1;have Bt:G<V.heap.size:=(gzE.1 gq).1;have HP:Hid (w.heap.size≤P∧w.heap.size≤V.heap.size∧P<V.heap.size):=⟨by omega,gc.size,gV⟩
 have Ho:Hid (∀W,Below V.heap.size V W→Below w.heap.size w W∧W.heap[P]?=some (.cells #[.slice none 0 0,.slice none 0 0] 57 (0,0))∧W.cell? ⟨G,0,none⟩=some (.slice q1 n1 c1)∧W.cell? ⟨G,1,none⟩=some (.slice q2 n2 c2)):=fun W hW=>by
  obtain⟨y0,y1,-⟩:=zAb ((hW.block G Bt).trans gq);exact⟨gc.trans (hW.mono gc.size),(hW.block P gV).trans H5,y0,y1⟩
 have Uf:Hid (∀W,Below w.heap.size w W→LS W (.slice q1 n1 c1) bs∧LS W (.slice q2 n2 c2) ss):=fun W hW=>⟨h1.below hW,h2.below hW⟩
 have ue:=hidW gc;have HF:=hidW (zFP q1 q2 n1 n2 c1 c2 bs ss id s p r1 r2 r3 r4 r5 price i k V (h1.below gc) (h2.below gc) hA uo);have HK:=hidW (fun W=>zFi s p r1 r2 r3 r4 r5 price qty W hA.rest)
 rw[Ue] at HK;have dO:1≤qty∧qty≤10000:=by simpa using hq
 have Ux:=hidW (fun W=>zOH r1 r2 r3 r4 r5 qty W (zAq hA.rest).1 dO)
 have dS:=hA.up (r':=zAI ⟨r1,r2,r3,r4,r5⟩ qty) hA.id;obtain⟨KB,Ck⟩:∃KB,KB=kB s bs i k (zAI ⟨r1,r2,r3,r4,r5⟩ qty):=⟨_,rfl⟩;obtain⟨KS,hKS⟩:∃KS,KS=kS s ss i k (zAI ⟨r1,r2,r3,r4,r5⟩ qty):=⟨_,rfl⟩;rw[←Ck,←hKS] at dS ⊢;have uG:Hid (∀W,Below V.heap.size V W→Calls prog 135 #[.agg #[.slice q1 n1 c1,.slice q2 n2 c2],.agg #[.int .i64 r1,.int .i64 r2,.int .i64 (min r3 qty),.int .i64 (qty - min r3 qty),.int .i64 r5]] W fun e w'=>∃u1 u2 m1 m2 d1 d2,e=.returned (.agg #[.slice u1 m1 d1,.slice u2 m2 d2])∧DL w' V.heap.size (.slice u1 m1 d1) KB∧DL w' V.heap.size (.slice u2 m2 d2) KS∧Below V.heap.size V w'):=fun W hW=>by
  have PG:=gc.trans (hW.mono gc.size);refine(zHR q1 q2 n1 n2 c1 c2 bs ss r1 r2 (min r3 qty) (qty - min r3 qty) r5 W (h1.below PG) (h2.below PG) hA.book).mono ?_;rintro e w'⟨u1,u2,m1,m2,d1,d2,rfl,g1,g2,g3⟩;refine⟨u1,u2,m1,m2,d1,d2,rfl,?_,?_,hW.trans (g3.mono hW.size)⟩
  ·rw[←dS.1];exact g1.mono hW.size
  ·rw[←dS.2];exact g2.mono hW.size
 clear h1 h2 Hl Hc Ha gc gq H5 gV Bt;clear hA uo Ue dO dS Ck hKS;obtain⟨-,-,g0,g1⟩:=Ho.out V (bzR _ _);go_enter func103,ntmps103;go_wp2_with fail;rw[←gx,←hV];simp only[←hP];simp only[←hG];clear gx hV hP hG;refine HF.out.mono ?_;rintro x w1⟨rfl,b1⟩;have Ht:Below w1.heap.size w1 (w1.alloc (.cells #[.int .i64 s,.int .i64 p,.int .i64 r1,.int .i64 r2,.int .i64 r3,.int .i64 r4,.int .i64 r5] 169)):=(bzR _ _).alloc (nzR _) _;have H6:=hidW (b1.trans (Ht.mono b1.size));have MG:(w1.alloc (.cells #[.int .i64 s,.int .i64 p,.int .i64 r1,.int .i64 r2,.int .i64 r3,.int .i64 r4,.int .i64 r5] 169)).heap[w1.heap.size]?=some (.cells #[.int .i64 s,.int .i64 p,.int .i64 r1,.int .i64 r2,.int .i64 r3,.int .i64 r4,.int .i64 r5] 169 (0,0)):=jA w1 _;clear b1 Ht HF g0 g1;go_upto_if 25 with fail
 generalize w1.alloc (.cells #[.int .i64 s,.int .i64 p,.int .i64 r1,.int .i64 r2,.int .i64 r3,.int .i64 r4,.int .i64 r5] 169)=W2 at *;generalize w1.heap.size=F at *;have HS:=hidW (zIH qty false hq);clear hq;go_wp2_with fail;refine(zAK qty W2).mono ?_;rintro x w3⟨rfl,b3⟩;go_wp2_with fail;refine(scheck1 false _ _ _ _ _ rfl HS.out).mono ?_;rintro x w4⟨rfl,b4⟩;simp only[show errV (zAd false)=.nilIface from rfl]
 have Gj:=b3.trans (b4.mono b3.size);have GR:=hidW (H6.out.trans (Gj.mono H6.out.size));have pT:=(Gj.block F (gzE.1 MG).1).trans MG;clear b3 b4 Gj HS MG H6;obtain⟨s0,s1,s2,s3,s4,s5,s6,-⟩:=zBP pT;go_wp2_with fail;refine(HK.out _).mono ?_;rintro x w5⟨rfl,b5⟩;have MA:=hidW (GR.out.trans (b5.mono GR.out.size));have hRS5:=(b5.block F (gzE.1 pT).1).trans pT;clear s0 s1 s2 s3 s4 s5 s6 b5 pT GR HK;obtain⟨s0,s1,s2,s3,s4,s5,s6,-⟩:=zBP hRS5;obtain⟨-,-,g0,g1⟩:=Ho.out w5 MA.out;go_upto_region 8 with fail
 generalize min r3 qty=M at *;generalize qty - M=N at *
 go_region_with (first|(go_at_call 136;with_reducible refine(Ux.out _).mono ?_;rintro x w6 ⟨rfl,b6⟩;have Cf:=hidW (MA.out.drew.trans (b6.mono MA.out.drew.size));obtain⟨-,-,k0,k1⟩:=Ho.out w6 Cf.out)|(go_at_call 135;with_reducible refine(uG.out _ ?_).mono ?_;(with_reducible repeat' (first|exact Cf.out|assumption|refine Below.drew ?_));rintro x w7 ⟨u1,u2,m1,m2,d1,d2,rfl,D1,D2,b7⟩;obtain⟨PI,gm,-,-⟩:=Ho.out w7 b7;obtain⟨z0,z1,zf⟩:=zAb gm;have zf0:=zf 0;have zf1:=zf 1))
 all_goals
  have Hu:=zAT w7 P (.slice u1 m1 d1) (.slice u2 m2 d2);have Hx:=hidW (zAz gm (.slice u1 m1 d1) (.slice u2 m2 d2));have Hz:=hidW (show DL ((w7.setCell ⟨P,0,none⟩ (.slice u1 m1 d1)).setCell ⟨P,1,none⟩ (.slice u2 m2 d2)) w.heap.size (.slice u1 m1 d1) KB∧DL ((w7.setCell ⟨P,0,none⟩ (.slice u1 m1 d1)).setCell ⟨P,1,none⟩ (.slice u2 m2 d2)) w.heap.size (.slice u2 m2 d2) KS∧Below w.heap.size w ((w7.setCell ⟨P,0,none⟩ (.slice u1 m1 d1)).setCell ⟨P,1,none⟩ (.slice u2 m2 d2)) from
   ⟨(D1.other Hu HP.out.2.2).mono HP.out.2.1,(D2.other Hu HP.out.2.2).mono HP.out.2.1,PI.grown Hu PI.size (fun k hk=>by cases hk;exact HP.out.1)⟩)
  clear zf gm PI Hu D1 D2;go_wp2_with fail;generalize ((w7.setCell ⟨P,0,none⟩ (.slice u1 m1 d1)).setCell ⟨P,1,none⟩ (.slice u2 m2 d2))=Z at *;obtain⟨y0,y1,-⟩:=zAb Hx.out;exact jN (v:=.tuple #[.agg #[.slice u1 m1 d1,.slice u2 m2 d2],.slice none 0 0,.int .i64 0,.nilIface]) (by simp[results,results103,go_sem,y0,y1]) rfl ⟨_,_,_,_,_,_,rfl,Hz.out⟩
end swp
namespace wak
open Go.RowKit spn
def OwnM(w:World)(base:Nat)(e:TypeId)(sz:Nat)(v:Value)(n:Nat)(xs:List Value):Prop:=
 xs.length=n*sz∧((v=.slice none 0 0∧n=0)∨
  ∃g off cap cur,v=.slice (some ⟨g,off,none⟩) n cap∧base≤g∧w.heap[g]?=some (.cells cur e (0,0))∧n≤cap∧cap≤maxLen∧off+cap*sz≤cur.size∧(cur.toList.drop off).take (n*sz)=xs)
theorem OwnM.kept{w w' : World}{base:Nat}{e:TypeId}{sz:Nat}{v:Value}{n:Nat}{xs:List Value}{row:Option Nat}(h:OwnM w base e sz v n xs)(hg:w.grownBy w' row)(H8:v.ownBlock=none∨v.ownBlock≠row):OwnM w' base e sz v n xs:=by
 refine⟨h.1,?_⟩;rcases h.2 with hn|⟨g,off,cap,cur,rfl,hb,Hu,rest⟩
 ·exact .inl hn
 ·refine .inr ⟨g,off,cap,cur,rfl,hb,?_,rest⟩;rw[hg.block g (gzE.1 Hu).1 (by simpa [Value.ownBlock] using H8)]
  exact Hu
theorem OwnM.lt{w:World}{base:Nat}{e:TypeId}{sz:Nat}{v:Value}{n:Nat}{xs:List Value}(h:OwnM w base e sz v n xs):∀k,v.ownBlock=some k→base≤k∧k<w.heap.size:=by
 intro k hk;rcases h.2 with ⟨rfl,_⟩|⟨g,off,cap,cur,rfl,hb,hg,_⟩
 ·simp[Value.ownBlock] at hk
 ·simp[Value.ownBlock] at hk;subst hk;exact⟨hb,(gzE.1 hg).1⟩
theorem OwnM.below{w w' : World}{base:Nat}{e:TypeId}{sz:Nat}{v:Value}{n:Nat}{xs:List Value}(h:OwnM w base e sz v n xs)(hB:Bw w w'):OwnM w' base e sz v n xs:=by
 refine⟨h.1,?_⟩;rcases h.2 with hn|⟨g,off,cap,cur,rfl,hb,Hu,rest⟩
 ·exact .inl hn
 ·refine .inr ⟨g,off,cap,cur,rfl,hb,?_,rest⟩;rw[hB.block g (gzE.1 Hu).1];exact Hu
section
variable {P:Program}(w:World)
theorem wAu(t ty e:TypeId)(i:TypeInfo)(ht:P.underlying t=some (.slice e))(hi:P.info? e=some i)
  (g off sLen sCap:Nat) (cur:Array Value) (hg:w.heap[g]?=some (.cells cur e (0,0)))
  (a:Addr) (m c:Nat) (news:List Value) (hl:news.length=m*i.size) (Hn:∀j u,news[j]?=some u→w.cell? (a.add j)=some u) (h1:∀u∈news,u.oneCell'=true)
  (gT:sLen+m≤sCap) (mV:off+sLen*i.size+news.length≤cur.size) :
  (Builtin.append_ #[t,t] ty #[.slice (some ⟨g,off,none⟩) sLen sCap,.slice (some a) m c]).run P w =
   .ok (.slice (some ⟨g,off,none⟩) (sLen+m) sCap) (w.setRow g (cur.toList.take (off+sLen*i.size)++news++cur.toList.drop (off+sLen*i.size+news.length)).toArray):=by
 have hf:=run_firstCells_some (P:=P) w i.size m a m c news hl Hn;have Gb:=run_storeCells_at P g (off+sLen*i.size) e news 0 cur w hg (by simpa using mV) h1
 simp only[Nat.add_zero] at Gb;simp[Builtin.append_,run_underlying ht,sizeOf,typeInfo,hi,Builtin.lenOf,gT,hf,Addr.add_lit,Gb]
theorem wAo(base:Nat)(t ty e:TypeId)(i:TypeInfo)(z:Value)(size bytes:Nat)(ht:P.underlying t=some (.slice e))(hi:P.info? e=some i)(hz:i.zero=some z)
  (GQ:i.size=size) (UD:i.bytes=bytes) (Mm:z.cells.size=size)
  (v:Value) (n:Nat) (xs:List Value) (Hk:OwnM w base e size v n xs)
  (a:Addr) (m c:Nat) (news:List Value) (hl:news.length=m*size) (Hn:∀j u,news[j]?=some u→w.cell? (a.add j)=some u) (h1:∀u∈news,u.oneCell'=true)
  (MC:n+m≤maxLen) (gH:(n+m)*bytes≤140737488355328) (Hq:base≤w.heap.size) :
  ∃v' w',(Builtin.append_ #[t,t] ty #[v,.slice (some a) m c]).run P w=.ok v' w'∧OwnM w' base e size v' (n+m) (xs++news)∧w.grownBy w' v.ownBlock∧(v'.ownBlock=v.ownBlock∨v'.ownBlock=some w.heap.size):=by
 subst GQ;subst UD;have CV:n+m≤9223372036854775807:=by simp only[maxLen] at MC;omega
 have Hh:(xs++news).length=(n+m)*i.size:=by rw[jE,Hk.1,hl,Nat.add_mul]
 have grown:∀ (old:Nat),old<n+m→∀ (row:Option Nat),
   OwnM (w.drew.alloc (.cells (xs.toArray++news.toArray++Builtin.zeroCells z.cells (grownCap w (n+m) old e - (n+m))) e)) base e i.size
    (.slice (some ⟨w.heap.size,0,none⟩) (n+m) (grownCap w (n+m) old e)) (n+m) (xs++news)∧
   w.grownBy (w.drew.alloc (.cells (xs.toArray++news.toArray++Builtin.zeroCells z.cells (grownCap w (n+m) old e - (n+m))) e)) row:=by
  intro old ho row;have bH:=grownCap_ge w (n+m) old e;have gi:grownCap w (n+m) old e≤maxLen:=grownCap_le_maxLen w (n+m) old e MC;refine⟨⟨Hh,.inr ⟨w.heap.size,0,_,_,rfl,Hq,jA w.drew _,bH,gi,?_,?_⟩⟩,⟨rfl,rfl,rfl,by simp,fun k hk _=>Below.heap_alloc w.drew _ k hk⟩⟩
  ·simp only[Array.size_append,List.size_toArray,size_zeroCells,Mm,Hk.1,hl,←Nat.add_mul,Nat.zero_add];exact Nat.mul_le_mul_right _ (by omega)
  ·simp only[Array.toList_append,List.drop_zero];rw[←Hh];exact List.take_left
 rcases Hk.2 with ⟨rfl,rfl⟩|⟨g,off,cap,cur,rfl,ud,hg,GH,gi,Gy,ga⟩
 ·have hx:xs=[]:=List.eq_nil_of_length_eq_zero (by simpa using Hk.1)
  subst hx;by_cases hm:m=0
  ·subst hm;have hn:news=[]:=List.eq_nil_of_length_eq_zero (by simpa using hl)
   subst hn;refine⟨.slice none 0 0,w,?_,⟨by simp,.inl ⟨rfl,rfl⟩⟩,⟨rfl,rfl,rfl,nzR _,fun _ _ _=>rfl⟩,.inl rfl⟩
   simp[Builtin.append_,run_underlying ht,sizeOf,typeInfo,hi,Builtin.lenOf,Builtin.firstCells,loadCells,loadCellsFrom]
  ·have hr:=run_append_nil (P:=P) w t ty e i z ht hi hz a m c news hl Hn (by omega) (by omega) (by have hb:=gH;simp only[Nat.zero_add] at hb;omega)
   have Hy:=grown 0 (by omega) (Value.ownBlock (.slice none 0 0))
   simp only[Nat.zero_add,jU,Array.empty_append] at Hy ⊢;exact⟨_,_,hr,Hy.1,Hy.2,.inr rfl⟩
 ·by_cases gT:n+m≤cap
  ·have Gh:(n+m)*i.size≤cap*i.size:=Nat.mul_le_mul_right _ gT;have mV:off+n*i.size+news.length≤cur.size:=by rw[hl];rw[Nat.add_mul] at Gh;omega
   have hr:=wAu (P:=P) w t ty e i ht hi g off n cap cur hg a m c news hl Hn h1 gT mV;refine⟨_,_,hr,⟨Hh,.inr ⟨g,off,cap,_,rfl,ud,setRow_heap w g cur _ e _ hg,gT,gi,?_,?_⟩⟩,⟨rfl,rfl,rfl,by simp,fun k _ hk=>setRow_other w g k _ (fun e=>hk (by simp[Value.ownBlock,e]))⟩,.inl rfl⟩
   ·simp only[List.size_toArray,jE,jJ,jQ,Array.length_toList];omega
   ·have hx:xs.length=n*i.size:=Hk.1;have U8:off+n*i.size≤cur.toList.length:=(by rw[Array.length_toList];omega);have e1:cur.toList.take (off+n*i.size)=cur.toList.take off++xs:=by
     rw[←ga,←List.take_add]
    rw[e1,jS,jS,List.drop_append_of_le_length (by rw[jJ];omega),List.drop_eq_nil_of_le (by rw[jJ];omega),jU,←jS,←Hh]
    exact List.take_left
  ·have Pt:∀j u,xs[j]?=some u→w.cell? ((⟨g,off,none⟩:Addr).add j)=some u:=by
    intro j u hu;rw[Addr.add_lit,jZ w g (off+j) cur e (0,0) hg];rw[←ga,List.getElem?_take] at hu;split at hu
    ·rw[List.getElem?_drop] at hu;simpa using hu
    ·cases hu
   have hr:=run_append_grow (P:=P) w t ty e i z ht hi hz ⟨g,off,none⟩ n cap xs Hk.1 Pt a m c news hl Hn (by omega) (by omega) (growslice_fits (by omega) gH)
   have Hy:=grown cap (by omega) (Value.ownBlock (.slice (some ⟨g,off,none⟩) n cap))
   exact⟨_,_,hr,Hy.1,Hy.2,.inr rfl⟩
theorem wAe{ops:Array Oper}{rest:List Oper}{o:Oper}{a:Act}{Q:Exit→Act→World→Prop}(M5:o.guard=none)(s x:Operand)(t:TypeId)
  (ho:o.op=.call { callee:=.builtin .append,args:=#[s,x],argTypes:=#[t,t] })
  (base:Nat) (e:TypeId) (i:TypeInfo) (z:Value) (size bytes:Nat) (ht:P.underlying t=some (.slice e)) (hi:P.info? e=some i) (hz:i.zero=some z)
  (GQ:i.size=size) (UD:i.bytes=bytes) (Mm:z.cells.size=size)
  (v:Value) (n:Nat) (xs:List Value) (hs:a.eval s=v) (Hk:OwnM w base e size v n xs)
  (ad:Addr) (m c:Nat) (news:List Value) (hx:a.eval x=.slice (some ad) m c) (hl:news.length=m*size) (Hn:∀j u,news[j]?=some u→w.cell? (ad.add j)=some u) (h1:∀u∈news,u.oneCell'=true)
  (MC:n+m≤maxLen) (gH:(n+m)*bytes≤140737488355328) (Hq:base≤w.heap.size)
  (h:∀v' w',OwnM w' base e size v' (n+m) (xs++news)→w.grownBy w' v.ownBlock→(v'.ownBlock=v.ownBlock∨v'.ownBlock=some w.heap.size)→wpList P ops Q rest (a.put o.dst v') w'):wpList P ops Q (o::rest) a w:=by
 refine wpList_plain M5 fun _ hK=>?_
 obtain⟨v',w',hr,h2,h3,h4⟩:=wAo (P:=P) w base t o.type e i z size bytes ht hi hz GQ UD Mm v n xs Hk ad m c news hl Hn h1 MC gH Hq;unfold Oper.wp execOp;simp only[ho,resolve,invoke,builtin,Sem.run_bind,Sem.run_pure,Result.andThen_ok,List.map_toArray,jK,List.map_nil,hs,hx,hr];exact hK _ _ (h v' w' h2 h3 h4)
end
theorem wAj{P:Program}(w:World){ops:Array Oper}{o:Oper}{a:Act}{K:Act→World→Prop}{Q:Exit→Act→World→Prop}{E:Prop}(M5:o.guard=none)(s x:Operand)(t:TypeId)
  (ho:o.op=.call { callee:=.builtin .append,args:=#[s,x],argTypes:=#[t,t] })
  (base:Nat) (e:TypeId) (i:TypeInfo) (z:Value) (size bytes:Nat) (ht:P.underlying t=some (.slice e)) (hi:P.info? e=some i) (hz:i.zero=some z)
  (GQ:i.size=size) (UD:i.bytes=bytes) (Mm:z.cells.size=size)
  (v:Value) (n:Nat) (xs:List Value) (hs:a.eval s=v) (Hk:OwnM w base e size v n xs)
  (ad:Addr) (m c:Nat) (news:List Value) (hx:a.eval x=.slice (some ad) m c) (hl:news.length=m*size) (Hn:∀j u,news[j]?=some u→w.cell? (ad.add j)=some u) (h1:∀u∈news,u.oneCell'=true)
  (MC:n+m≤maxLen) (gH:(n+m)*bytes≤140737488355328) (Hq:base≤w.heap.size)
  (h:∀v' w',OwnM w' base e size v' (n+m) (xs++news)→w.grownBy w' v.ownBlock→(v'.ownBlock=v.ownBlock∨v'.ownBlock=some w.heap.size)→K (a.put o.dst v') w') :
  if Region.wanted o (yielded ops a.tmps)=true then Oper.wp P o a w K Q else E:=by
 have hw:Region.wanted o (yielded ops a.tmps)=true:=by simp[Region.wanted,M5]
 rw[if_pos hw];obtain⟨v',w',hr,h2,h3,h4⟩:=wAo (P:=P) w base t o.type e i z size bytes ht hi hz GQ UD Mm v n xs Hk ad m c news hl Hn h1 MC gH Hq;unfold Oper.wp execOp;simp only[ho,resolve,invoke,builtin,Sem.run_bind,Sem.run_pure,Result.andThen_ok,List.map_toArray,jK,List.map_nil,hs,hx,hr];exact h v' w' h2 h3 h4
theorem wAw{w w' : World}(h:Bw w w')(row:Option Nat):w.grownBy w' row:=⟨h.os,h.tape,h.output,h.size,fun k hk _=>h.block k hk⟩
theorem wAd{a b c:World}{row:Option Nat}(h:a.grownBy b row)(k:b.grownBy c row):a.grownBy c row:=
 ⟨k.os.trans h.os,k.tape.trans h.tape,k.output.trans h.output,jM h.size k.size,fun i hi hn=>(k.block i (jC hi h.size) hn).trans (h.block i hi hn)⟩
theorem wAc(w:World)(g o:Nat)(u:Value):w.grownBy (w.setCell ⟨g,o,none⟩ u) (some g):=
 ⟨rfl,rfl,rfl,by simp,fun k _ hk=>heap_setCell_other w ⟨g,o,none⟩ k u (fun e=>hk (by rw[e]))⟩
theorem wAH(w:World)(row:Option Nat):w.grownBy w.drew row:=⟨rfl,rfl,rfl,nzR _,fun _ _ _=>rfl⟩
theorem wAh(g:Nat):∀ (vs:List Value) (o:Nat) (w:World),w.grownBy (w.setCells g o vs) (some g)
 | [],_,_=>⟨rfl,rfl,rfl,nzR _,fun _ _ _=>rfl⟩
 | v::r,o,w=>wAd (wAc w g o v) (wAh g r (o+1) _)
theorem wAi(g:Nat)(e:TypeId)(fr:Nat × Nat):∀ (vs:List Value) (o:Nat) (w:World) (cur:Array Value),w.heap[g]?=some (.cells cur e fr)→∃cur',(w.setCells g o vs).heap[g]?=some (.cells cur' e fr)∧cur'.size=cur.size
 | [],_,w,cur,h=>⟨cur,h,rfl⟩
 | v::r,o,w,cur,h=>by
  have Hi:g<w.heap.size:=(gzE.1 h).1;have h1:(w.setCell ⟨g,o,none⟩ v).heap[g]?=some (.cells (cur.setIfInBounds o v) e fr):=by
   rw[setCell_eq_setRow w g o cur e fr v h];exact setRow_heap w g cur _ e fr h
  obtain⟨c,h2,h3⟩:=wAi g e fr r (o+1) _ _ h1;exact⟨c,h2,by rw[h3];simp⟩
theorem OwnM.mono{w:World}{base base' : Nat}{e:TypeId}{sz:Nat}{v:Value}{n:Nat}{xs:List Value}(h:OwnM w base e sz v n xs)(hb:base'≤base):OwnM w base' e sz v n xs:=by
 refine⟨h.1,?_⟩;rcases h.2 with hn|⟨g,off,cap,cur,h1,h2,h3⟩
 ·exact .inl hn
 ·exact .inr ⟨g,off,cap,cur,h1,jM hb h2,h3⟩
theorem OwnM.form{w:World}{base:Nat}{e:TypeId}{sz:Nat}{v:Value}{n:Nat}{xs:List Value}(h:OwnM w base e sz v n xs):∃q c,v=.slice q n c:=by
 rcases h.2 with ⟨h1,h2⟩|⟨g,off,cap,cur,h1,_⟩
 ·subst h2;exact⟨_,_,h1⟩
 ·exact⟨_,_,h1⟩
theorem OwnM.set{w:World}{base:Nat}{e:TypeId}{sz:Nat}{g off n cap:Nat}{xs:List Value}(h:OwnM w base e sz (.slice (some ⟨g,off,none⟩) n cap) n xs)(j:Nat)(u:Value) :
  OwnM (w.setCell ⟨g,off+j,none⟩ u) base e sz (.slice (some ⟨g,off,none⟩) n cap) n (xs.set j u):=by
 refine⟨by rw[List.length_set];exact h.1,?_⟩
 rcases h.2 with ⟨h1,_⟩|⟨g',off',cap',cur,h1,h2,h3,h4,h5,h6,h7⟩
 ·cases h1
 ·cases h1;refine .inr ⟨g,off,cap,cur.setIfInBounds (off+j) u,rfl,h2,jB w g (off+j) cur e u h3,h4,h5,by simpa using h6,?_⟩
  rw[Array.toList_setIfInBounds,List.drop_set,if_neg (by omega),show off+j - off=j by omega,List.take_set,h7]
theorem OwnM.cells{w:World}{base:Nat}{e:TypeId}{sz:Nat}{g off n cap:Nat}{xs:List Value}(h:OwnM w base e sz (.slice (some ⟨g,off,none⟩) n cap) n xs) :
  (∀j u,xs[j]?=some u→w.cell? ⟨g,off+j,none⟩=some u)∧(∀o,w.frozen? ⟨g,o,none⟩=false)∧base≤g∧g<w.heap.size:=by
 rcases h.2 with ⟨h1,_⟩|⟨g',off',cap',cur,h1,h2,h3,h4,h5,h6,h7⟩
 ·cases h1
 ·cases h1;refine⟨fun j u hu=>?_,fun o=>by simp[World.frozen?,h3],h2,(gzE.1 h3).1⟩
  rw[jZ w g (off+j) cur e (0,0) h3];rw[←h7,List.getElem?_take] at hu;split at hu
  ·rw[List.getElem?_drop] at hu;simpa using hu
  ·cases hu
theorem wAO{w:World}{base:Nat}{e:TypeId}{sz:Nat}{g off n cap:Nat}{xs:List Value}(hl:xs.length=n*sz)(hb:base≤g){cur:Array Value}(hg:w.heap[g]?=some (.cells cur e (0,0)))
  (hs:off+cap*sz≤cur.size) (hn:n≤cap) (hm:cap≤maxLen) (hr:w.rangeAt g off xs):OwnM w base e sz (.slice (some ⟨g,off,none⟩) n cap) n xs:=by
 refine⟨hl,.inr ⟨g,off,cap,cur,rfl,hb,hg,hn,hm,hs,?_⟩⟩;apply List.ext_getElem?;intro j;rw[List.getElem?_take];have Gh:n*sz≤cap*sz:=Nat.mul_le_mul_right _ hn;by_cases hj:j<n*sz
 ·rw[if_pos hj,List.getElem?_drop];have hx:xs[j]?=some xs[j]:=List.getElem?_eq_getElem (by omega)
  rw[hx,Array.getElem?_toList,←jZ w g (off+j) cur e (0,0) hg];exact hr j _ hx
 ·rw[if_neg hj,List.getElem?_eq_none (by omega)]
theorem wAk{w:World}{base:Nat}{e:TypeId}{sz:Nat}{g off n cap:Nat}{xs:List Value}(h:OwnM w base e sz (.slice (some ⟨g,off,none⟩) n cap) n xs) :
  xs.length=n*sz∧base≤g∧(∃cur,w.heap[g]?=some (.cells cur e (0,0))∧off+cap*sz≤cur.size)∧n≤cap∧cap≤maxLen∧w.rangeAt g off xs∧w.there g off (cap*sz):=by
 obtain⟨hc,hf,hb,-⟩:=OwnM.cells h;rcases h.2 with ⟨h1,_⟩|⟨g',off',cap',cur,h1,h2,h3,h4,h5,h6,h7⟩
 ·cases h1
 ·cases h1;refine⟨h.1,hb,⟨cur,h3,h6⟩,h4,h5,hc,fun j hj=>⟨?_,hf _⟩⟩
  rw[jZ w g (off+j) cur e (0,0) h3,Array.getElem?_eq_getElem (by omega)];rfl
theorem wAq{w:World}{b o:Nat}{xs ys:List Value}(h1:w.rangeAt b o xs)(h2:w.rangeAt b (o+xs.length) ys):w.rangeAt b o (xs++ys):=by
 intro j v hv;by_cases hj:j<xs.length
 ·rw[List.getElem?_append_left hj] at hv;exact h1 j v hv
 ·rw[jV (by omega)] at hv
  have:=h2 (j - xs.length) v hv
  rwa [show o+xs.length+(j - xs.length)=o+j by omega] at this
theorem wAC{w:World}{b o:Nat}{xs ys:List Value}(h:w.rangeAt b o (xs++ys)):w.rangeAt b o xs:=fun j v hv=>h j v (by rw[List.getElem?_append_left (List.getElem?_eq_some_iff.1 hv).1];exact hv)
theorem wAx{w:World}{b o:Nat}{xs ys:List Value}(h:w.rangeAt b o (xs++ys)):w.rangeAt b (o+xs.length) ys:=fun j v hv=>by
 have:=h (xs.length+j) v (by rw[jV (by omega)];simpa using hv)
 rwa [←Nat.add_assoc] at this
theorem wAy{P:Program}(w:World)(t e ty:TypeId)(z:Value)(size:Nat)(ht:P.underlying t=some (.slice e))(hv:∀w,(zeroValue e).run P w=.ok z w)(hz:z.cells.size=size)(h1:z.cells.all (·.oneCell')=true)(b o n c:Nat)(hn:0<n)(uO:w.there b o (n*size)) :
  (Builtin.clear_ #[t] ty #[.slice (some ⟨b,o,none⟩) n c]).run P w=.ok (.tuple #[]) (w.setCells b o (Builtin.zeroCells z.cells n).toList):=by
 have hl:(Builtin.zeroCells z.cells n).toList.length=n*size:=by rw[Array.length_toList,size_zeroCells,hz]
 have ep:∀v∈(Builtin.zeroCells z.cells n).toList,v.oneCell'=true:=by
  intro v gU;rw[Array.mem_toList_iff] at gU;simp only[Builtin.zeroCells] at gU;rw[Array.all_eq_true] at h1;rw[Array.mem_map] at gU;obtain⟨k,hk,rfl⟩:=gU;rw[Array.mem_range] at hk;have uz:0<z.cells.size:=Nat.pos_of_ne_zero fun e=>by rw[e] at hk;simp at hk
  have hp:k % z.cells.size<z.cells.size:=Nat.mod_lt _ uz;rw[getElem!_pos z.cells _ hp];exact h1 _ hp
 have Gb:=run_storeCells_cells (P:=P) b o (Builtin.zeroCells z.cells n).toList 0 w (by rw[hl];simpa using fun j hj=>(uO j hj).1) (by rw[hl];simpa using fun j hj=>(uO j hj).2) ep
 simp only[Nat.add_zero] at Gb;obtain⟨m,rfl⟩:∃m,n=m+1:=⟨n - 1,by omega⟩
 simp[Builtin.clear_,run_underlying ht,hv,Gb]
theorem wAt{P:Program}(w:World)(base:Nat)(t ty e:TypeId)(i:TypeInfo)(size:Nat)(ht:P.underlying t=some (.slice e))(hi:P.info? e=some i)
  (v:Value) (n:Nat) (xs:List Value) (Hk:OwnM w base e size v n xs):(Builtin.append_ #[t,t] ty #[v,.slice none 0 0]).run P w=.ok v w:=by
 rcases Hk.2 with ⟨rfl,rfl⟩|⟨g,off,cap,cur,rfl,ud,hg,GH,gi,Gy,ga⟩
 ·simp[Builtin.append_,run_underlying ht,sizeOf,typeInfo,hi,Builtin.lenOf,Builtin.firstCells]
 ·simp[Builtin.append_,run_underlying ht,sizeOf,typeInfo,hi,Builtin.lenOf,Builtin.firstCells,GH,storeCells]
end wak
end Go.Proofs.YtnfilcpnneckkaaGreat
