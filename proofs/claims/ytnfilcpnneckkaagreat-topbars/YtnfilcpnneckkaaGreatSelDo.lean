import Derived.Test.YtnfilcpnneckkaaGreatSelCome
import Derived.Test.YtnfilcpnneckkaaGreatKinDo
set_option maxHeartbeats 8000000
set_option maxRecDepth 100000
namespace Go.Proofs.YtnfilcpnneckkaaGreat
open Tryz
namespace slf
open Go.RowKit spn que sid bok mee kin
open ord (O oV mB mE chk)
def lfV(v:V):Int:=if v.ends=true then 0 else v.left
def gnV(v:V):Int:=if v.ends=true then v.left else 0
def zER(o:O)(lf gn:Int)(n:Nat):Int:=if o.kind=4∧0<lf+gn then 9 else if o.kind=5∧(lf<o.qty∨0<n) then 8 else 0
def sE(bs ss:List L)(o:O)(v:V):Int:=if 400<v.ts.length then 4 else if zER o (lfV v) (gnV v) v.ids.length=0 then setE (repB o bs v.ls) (repS o ss v.ls) o (lfV v) else zER o (lfV v) (gnV v) v.ids.length
theorem zHO(a b c d p q s t lf gn:Int)(u1 u2 tq iq:Option Addr)(m1 m2 tn jn k1 k2 tc ic:Nat)(w:World)(h0:0≤lf∧lf≤10000)(h1:0≤gn∧gn≤10000) :
  Calls prog 128 #[.agg #[.int .i64 a,.int .i64 b,.int .i64 c,.int .i64 d,.int .i64 p,.int .i64 q,.int .i64 s,.int .i64 t],.agg #[.slice u1 m1 k1,.slice u2 m2 k2,.slice tq tn tc,.int .i64 lf,.int .i64 gn,.slice iq jn ic]] w fun e w'=>e=.returned (errV (zER ⟨a,b,c,d,p,q,s,t⟩ lf gn jn))∧Bw w w':=by
 have HB:Hid (Bw w ((w.alloc (.cells #[.int .i64 a,.int .i64 b,.int .i64 c,.int .i64 d,.int .i64 p,.int .i64 q,.int .i64 s,.int .i64 t] 34)).alloc (.cells #[.slice u1 m1 k1,.slice u2 m2 k2,.slice tq tn tc,.int .i64 lf,.int .i64 gn,.slice iq jn ic] 203))):=((bzR _ _).alloc (nzR _) _).alloc (by simp) _
 generalize hk:zER ⟨a,b,c,d,p,q,s,t⟩ lf gn jn=kk;have HK:Hid ((if d=4∧0<lf+gn then 9 else if d=5∧(lf<q∨0<jn) then 8 else 0)=kk):=hk
 have E1:Hid (wrap64 (lf+gn)=lf+gn):=by show _=_;unfold wrap64;omega
 clear hk;by_cases h4:d=4
 ·subst h4;have x1:=E1.out;by_cases h00:0<lf+gn
  ·have gd:kk=9:=by rw[←HK.out,if_pos ⟨rfl,h00⟩]
   subst gd;clear h0 h1;go_enter func128,ntmps128;go_wp2_with fail;go_ret;exact⟨rfl,HB.out⟩
  ·have gd:kk=0:=by rw[←HK.out,if_neg (fun h=>h00 h.2),if_neg (by omega)]
   subst gd;clear h0 h1;go_enter func128,ntmps128;go_wp2_with fail;go_ret;exact⟨rfl,HB.out⟩
 ·have h4b:(d == 4)=false:=by simp[h4]
  clear h0 h1 E1;by_cases h5:d=5
  ·subst h5;by_cases h00:lf<q
   ·have gd:kk=8:=(by rw[←HK.out,if_neg (by omega),if_pos ⟨rfl,.inl h00⟩]);subst gd;go_enter func128,ntmps128;go_wp2_with fail;go_ret;exact⟨rfl,HB.out⟩
   ·by_cases h01:0<jn
    ·have gd:kk=8:=(by rw[←HK.out,if_neg (by omega),if_pos ⟨rfl,.inr h01⟩]);subst gd;have h01z:(0:Int)<(jn:Int):=(by omega);go_enter func128,ntmps128;go_wp2_with fail;go_ret;exact⟨rfl,HB.out⟩
    ·have gd:kk=0:=by rw[←HK.out,if_neg (by omega),if_neg (fun h=>h.2.elim h00 h01)]
     subst gd;have h01z:¬(0:Int)<(jn:Int):=(by omega);go_enter func128,ntmps128;go_wp2_with fail;go_ret;exact⟨rfl,HB.out⟩
  ·have h5b:(d == 5)=false:=by simp[h5]
   have gd:kk=0:=by rw[←HK.out,if_neg (fun h=>h4 h.1),if_neg (fun h=>h5 h.1)]
   subst gd;go_enter func128,ntmps128;go_wp2_with fail;go_ret;exact⟨rfl,HB.out⟩
def SDPost(m:Int)(bs ss:List L)(o:O)(w:World)(e:Ending)(w' : World):Prop:=
 (¬zAu bs ss o=0→e=.returned (.tuple #[.agg #[.slice none 0 0,.slice none 0 0],.slice none 0 0,.int .i64 0,.slice none 0 0,errV (zAu bs ss o)]))∧
 (zAu bs ss o=0→∀v,Fine m o (zAr bs ss o) o.qty v→
  (sE bs ss o v=0→∃q1 q2 n1 n2 c1 c2 tv iv,e=.returned (.tuple #[.agg #[.slice q1 n1 c1,.slice q2 n2 c2],tv,.int .i64 (gnV v+setG o (lfV v)),iv,.nilIface])∧DL w' w.heap.size (.slice q1 n1 c1) (setB (repB o bs v.ls) o (lfV v))∧DL w' w.heap.size (.slice q2 n2 c2) (setS (repS o ss v.ls) o (lfV v))∧OwnT w' w.heap.size tv v.ts∧OwnI w' w.heap.size iv v.ids)∧
  (¬sE bs ss o v=0→e=.returned (.tuple #[.agg #[.slice none 0 0,.slice none 0 0],.slice none 0 0,.int .i64 0,.slice none 0 0,errV (sE bs ss o v)])))∧Bw w w'
theorem zOB{w:World}{B:Nat}{x:Obj}(h:w.heap[B]?=some x):w.drew.heap[B]?=some x:=h
theorem zQO{m:Int}{bs ss:List L}{o:O}{w w' : World}{e:Ending}(h:SDPost m bs ss o w e w'):SDPost m bs ss o w e w'.drew:=by
 have hB:Bw w' w'.drew:=(bzR _ _).drew;refine⟨h.1,fun hc v hv=>⟨fun h0=>?_,(h.2.1 hc v hv).2⟩,h.2.2.drew⟩
 obtain⟨q1,q2,n1,n2,c1,c2,tv,iv,e1,e2,e3,e4,e5⟩:=(h.2.1 hc v hv).1 h0;exact⟨q1,q2,n1,n2,c1,c2,tv,iv,e1,e2.below hB,e3.below hB,OwnM.below e4 hB,OwnM.below e5 hB⟩
theorem zLQ{m:Int}{o:O}{ls:List L}{k:Int}{v:V}(h:Fine m o ls k v):(∀l∈ls,lchk l=0)→0≤k→0≤v.left∧v.left≤k:=by
 induction h with
 | done h=>exact fun _ h0=>⟨h0,jY _⟩
 | stop=>exact fun _ h0=>⟨h0,jY _⟩
 | taker=>exact fun _ h0=>⟨h0,jY _⟩
 | maker _ _ _ _ _ ih=>exact fun hl h0=>ih (zAR hl) h0
 | both=>exact fun _ h0=>⟨h0,jY _⟩
 | fill h _ _ _ ih=>
  intro hl h0;have hr:=zBi (zAf (hl _ (List.mem_cons_self ..))).2.2;have:=ih (zBj h hl) (by omega)
  simp only[];omega
theorem zOC(m:Int)(hm:m=1∨m=2∨m=3)(q1 q2:Option Addr)(n1 n2 c1 c2:Nat)(bs ss:List L)(a b c d p q s t:Int)(w:World)(h1:LS w (.slice q1 n1 c1) bs)(h2:LS w (.slice q2 n2 c2) ss) :
  Calls prog 90 #[.agg #[.slice q1 n1 c1,.slice q2 n2 c2],.agg #[.int .i64 a,.int .i64 b,.int .i64 c,.int .i64 d,.int .i64 p,.int .i64 q,.int .i64 s,.int .i64 t],.int .i64 m] w fun e w'=>SDPost m bs ss ⟨a,b,c,d,p,q,s,t⟩ w e w':=by
 obtain⟨V1,gx⟩:∃V1,V1=w.alloc (.cells #[.slice q1 n1 c1,.slice q2 n2 c2] 57):=⟨_,rfl⟩;have Hl:V1.heap.size=w.heap.size+1:=by rw[gx];simp
 have Hc:Below w.heap.size w V1:=by rw[gx];exact(bzR _ _).alloc (nzR _) _
 have gq:V1.heap[w.heap.size]?=some (.cells #[.slice q1 n1 c1,.slice q2 n2 c2] 57 (0,0)):=by rw[gx];exact jA w _
 obtain⟨V2,gl⟩:∃V2,V2=V1.alloc (.cells #[.int .i64 a,.int .i64 b,.int .i64 c,.int .i64 d,.int .i64 p,.int .i64 q,.int .i64 s,.int .i64 t] 34):=⟨_,rfl⟩;have H9:V2.heap.size=w.heap.size+2:=by rw[gl];simp[Hl]
 have Ha:Below V1.heap.size V1 V2:=by rw[gl];exact(bzR _ _).alloc (nzR _) _
 have H5:V2.heap[w.heap.size+1]?=some (.cells #[.int .i64 a,.int .i64 b,.int .i64 c,.int .i64 d,.int .i64 p,.int .i64 q,.int .i64 s,.int .i64 t] 34 (0,0)):=by rw[←Hl,gl];exact jA V1 _
 obtain⟨V,hV⟩:∃V,V=V2.alloc (.cells #[.slice none 0 0,.slice none 0 0] 57):=⟨_,rfl⟩;have Hr:Below V2.heap.size V2 V:=by rw[hV];exact(bzR _ _).alloc (nzR _) _
 have GD:V.heap[w.heap.size+2]?=some (.cells #[.slice none 0 0,.slice none 0 0] 57 (0,0)):=by rw[←H9,hV];exact jA V2 _
 have gc:Below w.heap.size w V:=by
  have h:=Hc.trans (Ha.mono Hc.size);exact h.trans (Hr.mono h.size)
 have gP:V.heap[w.heap.size]?=some (.cells #[.slice q1 n1 c1,.slice q2 n2 c2] 57 (0,0)):=by rw[Hr.block _ (by omega),Ha.block _ (by omega)];exact gq
 have Un:V.heap[w.heap.size+1]?=some (.cells #[.int .i64 a,.int .i64 b,.int .i64 c,.int .i64 d,.int .i64 p,.int .i64 q,.int .i64 s,.int .i64 t] 34 (0,0)):=by rw[Hr.block _ (by omega)];exact H5
 obtain⟨P,hP⟩:∃P,P=w.heap.size+2:=⟨_,rfl⟩;obtain⟨G,hG⟩:∃G,G=w.heap.size:=⟨_,rfl⟩;obtain⟨Q,hQ⟩:∃Q,Q=w.heap.size+1:=⟨_,rfl⟩;rw[←hP] at GD;have gV:P<V.heap.size:=(gzE.1 GD).1;have HP:=hidK (show P=w.heap.size+2∧G=w.heap.size∧Q=w.heap.size+1∧P<V.heap.size from⟨hP,hG,hQ,gV⟩)
 have Ho:Hid (∀W,Below V.heap.size V W→Below w.heap.size w W∧W.heap[P]?=some (.cells #[.slice none 0 0,.slice none 0 0] 57 (0,0))∧W.heap[G]?=some (.cells #[.slice q1 n1 c1,.slice q2 n2 c2] 57 (0,0))∧W.heap[Q]?=some (.cells #[.int .i64 a,.int .i64 b,.int .i64 c,.int .i64 d,.int .i64 p,.int .i64 q,.int .i64 s,.int .i64 t] 34 (0,0))):=fun W hW=>
  ⟨gc.trans (hW.mono gc.size),(hW.block P gV).trans GD,by rw[hG];exact(hW.block _ (by omega)).trans gP,by rw[hQ];exact(hW.block _ (by omega)).trans Un⟩
 have HL:Hid (LS w (.slice q1 n1 c1) bs∧LS w (.slice q2 n2 c2) ss):=⟨h1,h2⟩;have HM:=hidK hm;have gj:Hid (∀W kk,Below V.heap.size V W→¬kk=0→((¬zAu bs ss ⟨a,b,c,d,p,q,s,t⟩=0∧zAu bs ss ⟨a,b,c,d,p,q,s,t⟩=kk)∨(zAu bs ss ⟨a,b,c,d,p,q,s,t⟩=0∧∃v,Fine m ⟨a,b,c,d,p,q,s,t⟩ (zAr bs ss ⟨a,b,c,d,p,q,s,t⟩) q v∧sE bs ss ⟨a,b,c,d,p,q,s,t⟩ v=kk))→SDPost m bs ss ⟨a,b,c,d,p,q,s,t⟩ w (.returned (.tuple #[.agg #[.slice none 0 0,.slice none 0 0],.slice none 0 0,.int .i64 0,.slice none 0 0,.iface 90 (.int .i64 kk)])) ((W.setCell ⟨P,0,none⟩ (.slice none 0 0)).setCell ⟨P,1,none⟩ (.slice none 0 0))∧
   ((W.setCell ⟨P,0,none⟩ (.slice none 0 0)).setCell ⟨P,1,none⟩ (.slice none 0 0)).heap[P]?=some (.cells #[.slice none 0 0,.slice none 0 0] 57 (0,0))):=fun W kk hW hk he=>by
  obtain⟨hw,gm,-,-⟩:=Ho.out W hW;have Hu:=zAT W P (.slice none 0 0) (.slice none 0 0);have UC:=hw.grown Hu hw.size (fun k hk=>by cases hk;have:=HP.out.1;omega)
  refine⟨?_,zAz gm _ _⟩;rcases he with ⟨e1,e2⟩|⟨e1,v,e3,e4⟩
  ·exact⟨fun _=>by rw[e2,wAb hk],fun h=>absurd h e1,UC⟩
  ·refine⟨fun h=>absurd e1 h,fun _ v' gU=>?_,UC⟩
   have:=zBr e3 v' gU;subst this;exact⟨fun h=>absurd (e4.symm.trans h) hk,fun _=>by rw[e4,wAb hk]⟩
 have CK:(m == 0)=false:=by rcases hm with rfl|rfl|rfl <;>rfl
 have Cc:Hid ([(m,0,3)].any zAl=false):=by
  have h:=zIC m 0 3;have h2:decide (0≤m∧m≤3)=true:=by simp;omega
  rw[h2] at h;exact h
 clear Hl H9 Hc Ha Hr gq H5 GD gP Un gc h1 h2 gV hm;go_enter func90,ntmps90;go_wp2_with fail;rw[←gx,←gl,←hV];simp only[←hP];simp only[←hQ];simp only[←hG];clear gx gl hV hP hG hQ;refine(zDI m V).mono ?_;rintro e w1⟨rfl,b1⟩;have go:=hidK b1;clear b1;go_wp2_with fail;refine(scheck1 false _ _ _ _ _ rfl Cc.out).mono ?_;rintro e w2⟨rfl,b2⟩;rw[show spn.errV (zAd false)=.nilIface from rfl]
 have H6:=hidK (go.out.trans (b2.mono go.out.size));clear b2 go;obtain⟨uC,-,eH,eV⟩:=Ho.out w2 H6.out;obtain⟨g0,g1,-⟩:=zAb eH;obtain⟨o0,o1,o2,o3,o4,o5,o6,o7,-⟩:=rowO eV;have HCO:=hidK (zOu m HM.out q1 q2 n1 n2 c1 c2 bs ss a b c d p q s t w2 (HL.out.1.below uC) (HL.out.2.below uC));clear uC eH eV;go_wp2_with fail;refine HCO.out.mono ?_;rintro e w3⟨i1,i2,b3⟩;have gX:=hidK (H6.out.trans (b3.mono H6.out.size));have HU:=hidK b3.size;clear b3 g0 g1 o0 o1 o2 o3 o4 o5 o6 o7 HCO;have Mn:Hid (True):=trivial;by_cases hC:zAu bs ss ⟨a,b,c,d,p,q,s,t⟩=0
 rotate_left
 ·have e3:=i2 hC;subst e3;rw[wAb hC];have Ht:Below w3.heap.size w3 (w3.alloc (.cells #[.slice none 0 0,.slice none 0 0,.slice none 0 0,.int .i64 0,.int .i64 0,.slice none 0 0] 203)):=(bzR _ _).alloc (nzR _) _;have GR:=hidK (gX.out.trans (Ht.mono gX.out.size));obtain⟨gD,gK⟩:=gj.out _ _ GR.out hC (.inl ⟨hC,rfl⟩);have Hz:=hidK gD;have Hx:=hidK gK;obtain⟨-,gm,-,-⟩:=Ho.out _ GR.out;obtain⟨z0,z1,zf⟩:=zAb gm;have zf0:=zf 0;have zf1:=zf 1;generalize zAu bs ss ⟨a,b,c,d,p,q,s,t⟩=kk at *;clear i1 i2 gD gK gj gm zf Ht Ho;go_upto_region 8 with fail
  generalize w3.alloc (.cells #[.slice none 0 0,.slice none 0 0,.slice none 0 0,.int .i64 0,.int .i64 0,.slice none 0 0] 203)=W at *;go_wp2_with fail;generalize ((W.setCell ⟨P,0,none⟩ (.slice none 0 0)).setCell ⟨P,1,none⟩ (.slice none 0 0))=Z at *;obtain⟨y0,y1,-⟩:=zAb Hx.out;exact jN (v:=.tuple #[.agg #[.slice none 0 0,.slice none 0 0],.slice none 0 0,.int .i64 0,.slice none 0 0,.iface 90 (.int .i64 kk)]) (by simp[results,results90,go_sem,y0,y1]) rfl Hz.out
 obtain⟨uB,gI,-,-⟩:=zAG hC;have CR:=zLp gI;obtain⟨v,hv⟩:=zEk (o:=⟨a,b,c,d,p,q,s,t⟩) (k:=q) HM.out (wAp (o:=⟨a,b,c,d,p,q,s,t⟩) uB);have HV:=hidK hv;have HC:=hidK hC;have m7:=hidK uB;have hlv:=zLQ hv (wAp (o:=⟨a,b,c,d,p,q,s,t⟩) uB) (by simp only[] at CR;omega)
 have GJ:=hidK (show (0≤lfV v∧lfV v≤10000)∧0≤gnV v∧gnV v≤10000 from by unfold lfV gnV;simp only[] at CR;constructor <;>(split <;>omega))
 obtain⟨j1,j2⟩:=i1 hC v hv;by_cases h4:v.ts.length≤400
 rotate_left
 ·have e3:=j2 h4;subst e3;have hsE:sE bs ss ⟨a,b,c,d,p,q,s,t⟩ v=4:=if_pos (by omega)
  have Ht:Below w3.heap.size w3 (w3.alloc (.cells #[.slice none 0 0,.slice none 0 0,.slice none 0 0,.int .i64 0,.int .i64 0,.slice none 0 0] 203)):=(bzR _ _).alloc (nzR _) _;have GR:=hidK (gX.out.trans (Ht.mono gX.out.size));obtain⟨gD,gK⟩:=gj.out _ _ GR.out (by decide) (.inr ⟨hC,v,hv,hsE⟩)
  have Hz:=hidK gD;have Hx:=hidK gK;obtain⟨-,gm,-,-⟩:=Ho.out _ GR.out;obtain⟨z0,z1,zf⟩:=zAb gm;have zf0:=zf 0;have zf1:=zf 1;clear i1 i2 j1 j2 gD gK gj gm zf Ht Ho hsE uB gI CR hlv hv hC;go_upto_region 8 with fail
  generalize w3.alloc (.cells #[.slice none 0 0,.slice none 0 0,.slice none 0 0,.int .i64 0,.int .i64 0,.slice none 0 0] 203)=W at *;go_wp2_with fail;generalize ((W.setCell ⟨P,0,none⟩ (.slice none 0 0)).setCell ⟨P,1,none⟩ (.slice none 0 0))=Z at *;obtain⟨y0,y1,-⟩:=zAb Hx.out;exact jN (v:=.tuple #[.agg #[.slice none 0 0,.slice none 0 0],.slice none 0 0,.int .i64 0,.slice none 0 0,.iface 90 (.int .i64 4)]) (by simp[results,results90,go_sem,y0,y1]) rfl Hz.out
 obtain⟨u1,u2,m1,m2,k1,k2,tv,iv,lf,gn,rfl,dI,hgn,L1,L2,OT,OI,BQ⟩:=j1 h4;have bM:lf=lfV v:=dI;have bJ:gn=gnV v:=hgn;obtain⟨tq,tc,bX⟩:=OwnM.form OT;obtain⟨iq,ic,hiv⟩:=OwnM.form OI;subst bX;subst hiv;have HSK:=hidK (zAh (zCf uB BQ));have H4:=hidK h4;have PR:=hidK (show sE bs ss ⟨a,b,c,d,p,q,s,t⟩ v=(if zER ⟨a,b,c,d,p,q,s,t⟩ lf gn v.ids.length=0 then setE (repB ⟨a,b,c,d,p,q,s,t⟩ bs v.ls) (repS ⟨a,b,c,d,p,q,s,t⟩ ss v.ls) ⟨a,b,c,d,p,q,s,t⟩ lf else zER ⟨a,b,c,d,p,q,s,t⟩ lf gn v.ids.length) from by unfold sE;rw[if_neg (by omega),←bM,←bJ])
 rw[←bM,←bJ] at GJ;have M0:=hidK (show lfV v=lf∧gnV v=gn from⟨bM.symm,bJ.symm⟩)
 obtain⟨RB,Cs⟩:∃RB,repB ⟨a,b,c,d,p,q,s,t⟩ bs v.ls=RB:=⟨_,rfl⟩;obtain⟨RS,MG⟩:∃RS,repS ⟨a,b,c,d,p,q,s,t⟩ ss v.ls=RS:=⟨_,rfl⟩;have gJ:=hidK (show repB ⟨a,b,c,d,p,q,s,t⟩ bs v.ls=RB∧repS ⟨a,b,c,d,p,q,s,t⟩ ss v.ls=RS from⟨Cs,MG⟩)
 rw[Cs] at L1;rw[MG] at L2;rw[Cs,MG] at HSK PR;obtain⟨tn,bU⟩:∃tn,tn=v.ts.length:=⟨_,rfl⟩;obtain⟨jn,EC⟩:∃jn,jn=v.ids.length:=⟨_,rfl⟩;rw[←bU] at OT;rw[←EC] at OI PR;rw[←bU,←EC];have Ht:Below w3.heap.size w3 (w3.alloc (.cells #[.slice u1 m1 k1,.slice u2 m2 k2,.slice tq tn tc,.int .i64 lf,.int .i64 gn,.slice iq jn ic] 203)):=(bzR _ _).alloc (nzR _) _;have mP:(w3.alloc (.cells #[.slice u1 m1 k1,.slice u2 m2 k2,.slice tq tn tc,.int .i64 lf,.int .i64 gn,.slice iq jn ic] 203)).heap[w3.heap.size]?=some (.cells #[.slice u1 m1 k1,.slice u2 m2 k2,.slice tq tn tc,.int .i64 lf,.int .i64 gn,.slice iq jn ic] 203 (0,0)):=jA w3 _;have GR:=hidK (gX.out.trans (Ht.mono gX.out.size));have Mt:=hidK (L1.below Ht);have HL2:=hidK (L2.below Ht);have mJ:=hidK (OwnM.below OT Ht);have HOI:=hidK (OwnM.below OI Ht);have ul:=hidK H6.out.size
 clear i1 i2 j1 j2 L1 L2 OT OI Ht uB gI CR hlv hv hC dI hgn bM bJ BQ h4 Cs MG bU EC;go_upto_region 8 with fail
 generalize w3.alloc (.cells #[.slice u1 m1 k1,.slice u2 m2 k2,.slice tq tn tc,.int .i64 lf,.int .i64 gn,.slice iq jn ic] 203)=W at *;generalize w3.heap.size=VB at *;obtain⟨-,-,-,hQW⟩:=Ho.out W GR.out;obtain⟨o0,o1,o2,o3,o4,o5,o6,o7,-⟩:=rowO hQW;obtain⟨x0,x1,x2,x3,x4,x5,-⟩:=rowV mP;clear hQW;go_wp2_with fail;refine(zHO a b c d p q s t lf gn u1 u2 tq iq m1 m2 tn jn k1 k2 tc ic W GJ.out.1 GJ.out.2).mono ?_;rintro e w5⟨rfl,b5⟩;have MA:=hidK (GR.out.trans (b5.mono GR.out.size));have Du:=hidK (Mt.out.below b5);have Dv:=hidK (HL2.out.below b5);have DN:=hidK (OwnM.below mJ.out b5);have DH:=hidK (OwnM.below HOI.out b5);have pU:=(b5.block VB (gzE.1 mP).1).trans mP;clear b5 o0 o1 o2 o3 o4 o5 o6 o7 x0 x1 x2 x3 x4 x5 mP Mt HL2 mJ HOI GR;by_cases hF:zER ⟨a,b,c,d,p,q,s,t⟩ lf gn jn=0
 rotate_left
 ·rw[wAb hF];obtain⟨gD,gK⟩:=gj.out w5 _ MA.out hF (.inr ⟨HC.out,v,HV.out,by rw[PR.out,if_neg hF]⟩)
  have Hz:=hidK gD;have Hx:=hidK gK;obtain⟨-,gm,-,-⟩:=Ho.out _ MA.out;obtain⟨z0,z1,zf⟩:=zAb gm;have zf0:=zf 0;have zf1:=zf 1;generalize zER ⟨a,b,c,d,p,q,s,t⟩ lf gn jn=kk at *;clear gD gK gj gm zf Ho pU;go_wp2_with fail;generalize ((w5.setCell ⟨P,0,none⟩ (.slice none 0 0)).setCell ⟨P,1,none⟩ (.slice none 0 0))=Z at *;obtain⟨y0,y1,-⟩:=zAb Hx.out;exact jN (v:=.tuple #[.agg #[.slice none 0 0,.slice none 0 0],.slice none 0 0,.int .i64 0,.slice none 0 0,.iface 90 (.int .i64 kk)]) (by simp[results,results90,go_sem,y0,y1]) rfl Hz.out
 rw[hF,wAa];have C8:Hid (sE bs ss ⟨a,b,c,d,p,q,s,t⟩ v=setE RB RS ⟨a,b,c,d,p,q,s,t⟩ lf):=by show _=_;rw[PR.out,if_pos hF]
 have uY:=hidK (wAM u1 u2 m1 m2 k1 k2 RB RS a b c d p q s t lf V.heap.size w5 Du.out Dv.out MA.out.size HSK.out.1 HSK.out.2.1);obtain⟨-,-,-,eW⟩:=Ho.out w5 MA.out;obtain⟨o0,o1,o2,o3,o4,o5,o6,o7,-⟩:=rowO eW;obtain⟨x0,x1,x2,x3,x4,x5,-⟩:=rowV pU;clear eW hF Du Dv;go_wp2_with fail;refine uY.out.mono ?_;rintro e w6⟨r1,r2,b6⟩;have Cf:=hidK (MA.out.trans (b6.mono MA.out.size));have DO:=hidK (OwnM.below DN.out b6);have DI:=hidK (OwnM.below DH.out b6);have bw:=(b6.block VB (gzE.1 pU).1).trans pU;clear b6 o0 o1 o2 o3 o4 o5 o6 o7 x0 x1 x2 x3 x4 x5 pU uY DN DH;by_cases hS:setE RB RS ⟨a,b,c,d,p,q,s,t⟩ lf=0
 rotate_left
 ·obtain⟨y1,y2,l1,l2,f1,f2,rfl⟩:=r2 hS;rw[wAb hS];have Ht:Below w6.heap.size w6 (w6.alloc (.cells #[.slice y1 l1 f1,.slice y2 l2 f2] 57)):=(bzR _ _).alloc (nzR _) _;have HW7:=hidK (Cf.out.trans (Ht.mono Cf.out.size));obtain⟨gD,gK⟩:=gj.out _ _ HW7.out hS (.inr ⟨HC.out,v,HV.out,C8.out⟩);have Hz:=hidK gD;have Hx:=hidK gK;obtain⟨-,gm,-,-⟩:=Ho.out _ HW7.out;obtain⟨z0,z1,zf⟩:=zAb gm;have zf0:=zf 0;have zf1:=zf 1;generalize setE RB RS ⟨a,b,c,d,p,q,s,t⟩ lf=kk at *;clear gD gK gj gm zf Ho r1 r2 Ht bw;go_upto_region 14 with fail
  generalize w6.alloc (.cells #[.slice y1 l1 f1,.slice y2 l2 f2] 57)=W7 at *;go_wp2_with fail;generalize ((W7.setCell ⟨P,0,none⟩ (.slice none 0 0)).setCell ⟨P,1,none⟩ (.slice none 0 0))=Z at *;obtain⟨x0,x1,-⟩:=zAb Hx.out;exact jN (v:=.tuple #[.agg #[.slice none 0 0,.slice none 0 0],.slice none 0 0,.int .i64 0,.slice none 0 0,.iface 90 (.int .i64 kk)]) (by simp[results,results90,go_sem,x0,x1]) rfl Hz.out
 obtain⟨y1,y2,l1,l2,f1,f2,rfl,D1,D2⟩:=r1 hS;have Ht:Below w6.heap.size w6 (w6.alloc (.cells #[.slice y1 l1 f1,.slice y2 l2 f2] 57)):=(bzR _ _).alloc (nzR _) _;have PV:(w6.alloc (.cells #[.slice y1 l1 f1,.slice y2 l2 f2] 57)).heap[w6.heap.size]?=some (.cells #[.slice y1 l1 f1,.slice y2 l2 f2] 57 (0,0)):=jA w6 _;have Ec:=(Ht.block VB (gzE.1 bw).1).trans bw;have HW7:=hidK (Cf.out.trans (Ht.mono Cf.out.size));have uV:=hidK (D1.below Ht);have ut:=hidK (D2.below Ht);have HOT7:=hidK (OwnM.below DO.out Ht);have HOI7:=hidK (OwnM.below DI.out Ht);clear r1 r2 D1 D2 Ht bw DO DI;go_upto_region 14 with fail
 generalize w6.alloc (.cells #[.slice y1 l1 f1,.slice y2 l2 f2] 57)=W7 at *;generalize w6.heap.size=NB at *;obtain⟨hw7,gm,-,-⟩:=Ho.out _ HW7.out;obtain⟨z0,z1,zf⟩:=zAb gm;have zf0:=zf 0;have zf1:=zf 1;obtain⟨n0,n1',-⟩:=zAb PV;obtain⟨x0,x1,x2,x3,x4,x5,-⟩:=rowV Ec;obtain⟨GG,br⟩:∃GG,setG ⟨a,b,c,d,p,q,s,t⟩ lf=GG:=⟨_,rfl⟩;have hGb:0≤GG∧GG≤10000:=by
  have h:=GJ.out;rw[←br];unfold setG;split <;>omega
 have E1:wrap64 (gn+GG)=gn+GG:=by have h:=GJ.out;unfold wrap64;omega
 have E1b:IntKind.i64.wrap (gn+GG)=gn+GG:=(IntWalk.i64_left _).trans E1;have Hz:Hid (∀Z,Below W7.heap.size W7 Z→SDPost m bs ss ⟨a,b,c,d,p,q,s,t⟩ w (.returned (.tuple #[.agg #[.slice y1 l1 f1,.slice y2 l2 f2],.slice tq tn tc,.int .i64 (gn+GG),.slice iq jn ic,.nilIface])) ((Z.setCell ⟨P,0,none⟩ (.slice y1 l1 f1)).setCell ⟨P,1,none⟩ (.slice y2 l2 f2))∧((Z.setCell ⟨P,0,none⟩ (.slice y1 l1 f1)).setCell ⟨P,1,none⟩ (.slice y2 l2 f2)).heap[P]?=some (.cells #[.slice y1 l1 f1,.slice y2 l2 f2] 57 (0,0))):=fun Z hZ=>by
  have hp:=HP.out;have hb:=HU.out;have Hu:=zAT Z P (.slice y1 l1 f1) (.slice y2 l2 f2);have MW:=hw7.trans (hZ.mono hw7.size);have dp:=OwnM.below HOT7.out hZ;have hOI:=OwnM.below HOI7.out hZ;have mA:=ul.out;refine⟨⟨fun h=>absurd HC.out h,fun _ v' gU=>?_,MW.grown Hu MW.size (fun k hk=>by cases hk;omega)⟩,zAz ((hZ.block P (gzE.1 gm).1).trans gm) _ _⟩
  have:=zBr HV.out v' gU;subst this;refine⟨fun _=>⟨_,_,_,_,_,_,_,_,by rw[M0.out.1,M0.out.2,br],?_,?_,?_,?_⟩,fun h=>absurd (C8.out.trans hS) h⟩
  ·rw[M0.out.1,gJ.out.1];exact((uV.out.below hZ).other Hu (by omega)).mono (by omega)
  ·rw[M0.out.1,gJ.out.2];exact((ut.out.below hZ).other Hu (by omega)).mono (by omega)
  ·exact OwnM.mono (zAm dp Hu (fun z hz e=>by cases e;have:=(OwnM.lt dp P hz).1;omega)) (by omega)
  ·exact OwnM.mono (zAm hOI Hu (fun z hz e=>by cases e;have:=(OwnM.lt hOI P hz).1;omega)) (by omega)
 have HGG:=hidK br;rw[br];clear zf br gm PV Ec hw7 hGb gj Ho hS;go_upto_region 16 with fail
 go_region
 all_goals go_wp2_with fail
 all_goals first
  | (obtain⟨gD,gK⟩:=Hz.out W7 (bzR _ _);obtain⟨y0',y1',-⟩:=zAb gK;exact jN (v:=.tuple #[.agg #[.slice y1 l1 f1,.slice y2 l2 f2],.slice tq tn tc,.int .i64 (gn+GG),.slice iq jn ic,.nilIface]) (by simp[results,results90,go_sem,y0',y1']) rfl gD)
  | (obtain⟨gD,gK⟩:=Hz.out W7 (bzR _ _);obtain⟨y0',y1',-⟩:=zAb (zOB gK);exact jN (v:=.tuple #[.agg #[.slice y1 l1 f1,.slice y2 l2 f2],.slice tq tn tc,.int .i64 (gn+GG),.slice iq jn ic,.nilIface]) (by simp[results,results90,go_sem,y0',y1']) rfl (zQO gD))
  | (obtain⟨gD,gK⟩:=Hz.out W7.drew (bzR _ _).drew;obtain⟨y0',y1',-⟩:=zAb gK;exact jN (v:=.tuple #[.agg #[.slice y1 l1 f1,.slice y2 l2 f2],.slice tq tn tc,.int .i64 (gn+GG),.slice iq jn ic,.nilIface]) (by simp[results,results90,go_sem,y0',y1']) rfl gD)
def SZPost(bs ss:List L)(o:O)(w:World)(e:Ending)(w' : World):Prop:=
 (kdoE bs ss o=0→∃q1 q2 n1 n2 c1 c2 tv,e=.returned (.tuple #[.agg #[.slice q1 n1 c1,.slice q2 n2 c2],tv,.int .i64 (kdoG bs ss o),.slice none 0 0,.nilIface])∧DL w' w.heap.size (.slice q1 n1 c1) (kdoB bs ss o)∧DL w' w.heap.size (.slice q2 n2 c2) (kdoS bs ss o)∧OwnT w' w.heap.size tv (metR bs ss o).2.1)∧
 (¬kdoE bs ss o=0→e=.returned (.tuple #[.agg #[.slice none 0 0,.slice none 0 0],.slice none 0 0,.int .i64 0,.slice none 0 0,errV (kdoE bs ss o)]))∧Bw w w'
theorem zOD(q1 q2:Option Addr)(n1 n2 c1 c2:Nat)(bs ss:List L)(a b c d p q s t:Int)(w:World)(h1:LS w (.slice q1 n1 c1) bs)(h2:LS w (.slice q2 n2 c2) ss) :
  Calls prog 90 #[.agg #[.slice q1 n1 c1,.slice q2 n2 c2],.agg #[.int .i64 a,.int .i64 b,.int .i64 c,.int .i64 d,.int .i64 p,.int .i64 q,.int .i64 s,.int .i64 t],.int .i64 0] w fun e w'=>SZPost bs ss ⟨a,b,c,d,p,q,s,t⟩ w e w':=by
 obtain⟨V1,gx⟩:∃V1,V1=w.alloc (.cells #[.slice q1 n1 c1,.slice q2 n2 c2] 57):=⟨_,rfl⟩;have Hl:V1.heap.size=w.heap.size+1:=by rw[gx];simp
 have Hc:Below w.heap.size w V1:=by rw[gx];exact(bzR _ _).alloc (nzR _) _
 have gq:V1.heap[w.heap.size]?=some (.cells #[.slice q1 n1 c1,.slice q2 n2 c2] 57 (0,0)):=by rw[gx];exact jA w _
 obtain⟨V2,gl⟩:∃V2,V2=V1.alloc (.cells #[.int .i64 a,.int .i64 b,.int .i64 c,.int .i64 d,.int .i64 p,.int .i64 q,.int .i64 s,.int .i64 t] 34):=⟨_,rfl⟩;have H9:V2.heap.size=w.heap.size+2:=by rw[gl];simp[Hl]
 have Ha:Below V1.heap.size V1 V2:=by rw[gl];exact(bzR _ _).alloc (nzR _) _
 have H5:V2.heap[w.heap.size+1]?=some (.cells #[.int .i64 a,.int .i64 b,.int .i64 c,.int .i64 d,.int .i64 p,.int .i64 q,.int .i64 s,.int .i64 t] 34 (0,0)):=by rw[←Hl,gl];exact jA V1 _
 obtain⟨V,hV⟩:∃V,V=V2.alloc (.cells #[.slice none 0 0,.slice none 0 0] 57):=⟨_,rfl⟩;have Hr:Below V2.heap.size V2 V:=by rw[hV];exact(bzR _ _).alloc (nzR _) _
 have GD:V.heap[w.heap.size+2]?=some (.cells #[.slice none 0 0,.slice none 0 0] 57 (0,0)):=by rw[←H9,hV];exact jA V2 _
 have gc:Below w.heap.size w V:=by
  have h:=Hc.trans (Ha.mono Hc.size);exact h.trans (Hr.mono h.size)
 have gP:V.heap[w.heap.size]?=some (.cells #[.slice q1 n1 c1,.slice q2 n2 c2] 57 (0,0)):=by rw[Hr.block _ (by omega),Ha.block _ (by omega)];exact gq
 have Un:V.heap[w.heap.size+1]?=some (.cells #[.int .i64 a,.int .i64 b,.int .i64 c,.int .i64 d,.int .i64 p,.int .i64 q,.int .i64 s,.int .i64 t] 34 (0,0)):=by rw[Hr.block _ (by omega)];exact H5
 obtain⟨P,hP⟩:∃P,P=w.heap.size+2:=⟨_,rfl⟩;obtain⟨G,hG⟩:∃G,G=w.heap.size:=⟨_,rfl⟩;obtain⟨Q,hQ⟩:∃Q,Q=w.heap.size+1:=⟨_,rfl⟩;rw[←hP] at GD;have gV:P<V.heap.size:=(gzE.1 GD).1;have HP:=hidK (show P=w.heap.size+2∧G=w.heap.size∧Q=w.heap.size+1∧P<V.heap.size from⟨hP,hG,hQ,gV⟩)
 have Ho:Hid (∀W,Below V.heap.size V W→Below w.heap.size w W∧W.heap[P]?=some (.cells #[.slice none 0 0,.slice none 0 0] 57 (0,0))∧W.heap[G]?=some (.cells #[.slice q1 n1 c1,.slice q2 n2 c2] 57 (0,0))∧W.heap[Q]?=some (.cells #[.int .i64 a,.int .i64 b,.int .i64 c,.int .i64 d,.int .i64 p,.int .i64 q,.int .i64 s,.int .i64 t] 34 (0,0))):=fun W hW=>
  ⟨gc.trans (hW.mono gc.size),(hW.block P gV).trans GD,by rw[hG];exact(hW.block _ (by omega)).trans gP,by rw[hQ];exact(hW.block _ (by omega)).trans Un⟩
 have HL:Hid (LS w (.slice q1 n1 c1) bs∧LS w (.slice q2 n2 c2) ss):=⟨h1,h2⟩;have Cc:Hid ([((0:Int),0,3)].any zAl=false):=rfl;clear Hl H9 Hc Ha Hr gq H5 GD gP Un gc h1 h2 gV;go_enter func90,ntmps90;go_wp2_with fail;rw[←gx,←gl,←hV];simp only[←hP];simp only[←hQ];simp only[←hG];clear gx gl hV hP hG hQ;refine(zDI 0 V).mono ?_;rintro e w1⟨rfl,b1⟩;have go:=hidK b1;clear b1;go_wp2_with fail;refine(scheck1 false _ _ _ _ _ rfl Cc.out).mono ?_;rintro e w2⟨rfl,b2⟩;rw[show spn.errV (zAd false)=.nilIface from rfl]
 have H6:=hidK (go.out.trans (b2.mono go.out.size));clear b2 go;obtain⟨uC,-,eH,eV⟩:=Ho.out w2 H6.out;obtain⟨g0,g1,-⟩:=zAb eH;obtain⟨o0,o1,o2,o3,o4,o5,o6,o7,-⟩:=rowO eV;have cK:=hidK (zLP q1 q2 n1 n2 c1 c2 bs ss a b c d p q s t w2 (HL.out.1.below uC) (HL.out.2.below uC));have ul:=hidK H6.out.size;clear uC eH eV;go_wp2_with fail;refine cK.out.mono ?_;rintro e w3⟨i1,i2,b3⟩;have gX:=hidK (H6.out.trans (b3.mono H6.out.size));clear b3 g0 g1 o0 o1 o2 o3 o4 o5 o6 o7 cK
 have gO:Hid (∀y1 y2 l1 l2 f1 f2 W,Below w3.heap.size w3 W→W.heap[w3.heap.size]?=some (.cells #[.slice y1 l1 f1,.slice y2 l2 f2] 57 (0,0))→Below w.heap.size w ((W.setCell ⟨P,0,none⟩ (.slice y1 l1 f1)).setCell ⟨P,1,none⟩ (.slice y2 l2 f2))∧W.grownBy ((W.setCell ⟨P,0,none⟩ (.slice y1 l1 f1)).setCell ⟨P,1,none⟩ (.slice y2 l2 f2)) (some P)∧((W.setCell ⟨P,0,none⟩ (.slice y1 l1 f1)).setCell ⟨P,1,none⟩ (.slice y2 l2 f2)).heap[P]?=some (.cells #[.slice y1 l1 f1,.slice y2 l2 f2] 57 (0,0))):=fun y1 y2 l1 l2 f1 f2 W hW _=>by
  obtain⟨hw,gm,-,-⟩:=Ho.out W (gX.out.trans (hW.mono gX.out.size));have Hu:=zAT W P (.slice y1 l1 f1) (.slice y2 l2 f2);exact⟨hw.grown Hu hw.size (fun k hk=>by cases hk;have:=HP.out;omega),Hu,zAz gm _ _⟩
 by_cases hK:kdoE bs ss ⟨a,b,c,d,p,q,s,t⟩=0
 ·obtain⟨y1,y2,l1,l2,f1,f2,tv,rfl,D1,D2,OT⟩:=i1 hK;obtain⟨tq,tc,bX⟩:=OwnM.form OT;subst bX;obtain⟨tn,bU⟩:∃tn,tn=(metR bs ss ⟨a,b,c,d,p,q,s,t⟩).2.1.length:=⟨_,rfl⟩;obtain⟨GG,br⟩:∃GG,GG=kdoG bs ss ⟨a,b,c,d,p,q,s,t⟩:=⟨_,rfl⟩;rw[←bU] at OT;rw[←bU,←br];have Ht:Below w3.heap.size w3 (w3.alloc (.cells #[.slice y1 l1 f1,.slice y2 l2 f2] 57)):=(bzR _ _).alloc (nzR _) _;have PV:(w3.alloc (.cells #[.slice y1 l1 f1,.slice y2 l2 f2] 57)).heap[w3.heap.size]?=some (.cells #[.slice y1 l1 f1,.slice y2 l2 f2] 57 (0,0)):=jA w3 _;obtain⟨ev,Hu,gK⟩:=gO.out y1 y2 l1 l2 f1 f2 _ Ht PV;have hp:=HP.out;have mA:=ul.out;have dp:=OwnM.below OT Ht
  have Hz:=hidK (show SZPost bs ss ⟨a,b,c,d,p,q,s,t⟩ w (.returned (.tuple #[.agg #[.slice y1 l1 f1,.slice y2 l2 f2],.slice tq tn tc,.int .i64 GG,.slice none 0 0,.nilIface])) (((w3.alloc (.cells #[.slice y1 l1 f1,.slice y2 l2 f2] 57)).setCell ⟨P,0,none⟩ (.slice y1 l1 f1)).setCell ⟨P,1,none⟩ (.slice y2 l2 f2)) from
   ⟨fun _=>⟨_,_,_,_,_,_,_,by rw[br],((D1.below Ht).other Hu (by omega)).mono (by omega),((D2.below Ht).other Hu (by omega)).mono (by omega),OwnM.mono (zAm dp Hu (fun z hz e=>by cases e;have:=(OwnM.lt dp P hz).1;omega)) (by omega)⟩,fun h=>absurd hK h,ev⟩)
  have Hx:=hidK gK;obtain⟨-,gm,-,-⟩:=Ho.out _ (gX.out.trans (Ht.mono gX.out.size));obtain⟨z0,z1,zf⟩:=zAb gm;have zf0:=zf 0;have zf1:=zf 1;obtain⟨n0,n1',-⟩:=zAb PV;clear zf gm PV gK Hu ev Ht dp D1 D2 OT i1 i2 gO Ho hp mA bU br hK;go_upto_region 6 with fail
  generalize w3.alloc (.cells #[.slice y1 l1 f1,.slice y2 l2 f2] 57)=W7 at *;generalize w3.heap.size=NB at *;go_wp2_with fail;generalize ((W7.setCell ⟨P,0,none⟩ (.slice y1 l1 f1)).setCell ⟨P,1,none⟩ (.slice y2 l2 f2))=Z at *;obtain⟨x0,x1,-⟩:=zAb Hx.out;exact jN (v:=.tuple #[.agg #[.slice y1 l1 f1,.slice y2 l2 f2],.slice tq tn tc,.int .i64 GG,.slice none 0 0,.nilIface]) (by simp[results,results90,go_sem,x0,x1]) rfl Hz.out
 ·have e3:=i2 hK;subst e3;rw[wAb hK];have Ht:Below w3.heap.size w3 (w3.alloc (.cells #[.slice none 0 0,.slice none 0 0] 57)):=(bzR _ _).alloc (nzR _) _;have PV:(w3.alloc (.cells #[.slice none 0 0,.slice none 0 0] 57)).heap[w3.heap.size]?=some (.cells #[.slice none 0 0,.slice none 0 0] 57 (0,0)):=jA w3 _;obtain⟨ev,Hu,gK⟩:=gO.out none none 0 0 0 0 _ Ht PV;have Hz:=hidK (show SZPost bs ss ⟨a,b,c,d,p,q,s,t⟩ w (.returned (.tuple #[.agg #[.slice none 0 0,.slice none 0 0],.slice none 0 0,.int .i64 0,.slice none 0 0,.iface 90 (.int .i64 (kdoE bs ss ⟨a,b,c,d,p,q,s,t⟩))])) (((w3.alloc (.cells #[.slice none 0 0,.slice none 0 0] 57)).setCell ⟨P,0,none⟩ (.slice none 0 0)).setCell ⟨P,1,none⟩ (.slice none 0 0)) from
   ⟨fun h=>absurd h hK,fun _=>by rw[wAb hK],ev⟩)
  have Hx:=hidK gK;obtain⟨-,gm,-,-⟩:=Ho.out _ (gX.out.trans (Ht.mono gX.out.size));obtain⟨z0,z1,zf⟩:=zAb gm;have zf0:=zf 0;have zf1:=zf 1;obtain⟨n0,n1',-⟩:=zAb PV;generalize kdoE bs ss ⟨a,b,c,d,p,q,s,t⟩=kk at *;clear zf gm PV gK Hu ev Ht i1 i2 gO Ho hK;go_upto_region 6 with fail
  generalize w3.alloc (.cells #[.slice none 0 0,.slice none 0 0] 57)=W7 at *;generalize w3.heap.size=NB at *;go_wp2_with fail;generalize ((W7.setCell ⟨P,0,none⟩ (.slice none 0 0)).setCell ⟨P,1,none⟩ (.slice none 0 0))=Z at *;obtain⟨x0,x1,-⟩:=zAb Hx.out;exact jN (v:=.tuple #[.agg #[.slice none 0 0,.slice none 0 0],.slice none 0 0,.int .i64 0,.slice none 0 0,.iface 90 (.int .i64 kk)]) (by simp[results,results90,go_sem,x0,x1]) rfl Hz.out
end slf
end Go.Proofs.YtnfilcpnneckkaaGreat
