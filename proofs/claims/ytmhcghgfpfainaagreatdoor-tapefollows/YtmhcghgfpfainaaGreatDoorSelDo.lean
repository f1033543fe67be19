import Derived.Test.YtmhcghgfpfainaaGreatDoorKinDo
set_option maxHeartbeats 8000000
set_option maxRecDepth 100000
namespace Go.Proofs.YtmhcghgfpfainaaGreatDoor
open Tryz
namespace slf
open Go.RowKit spn que sid bok mee kin
open ord (O oV mB mE chk)
def lfV(v:V):Int:=if v.ends=true then 0 else v.left
def gnV(v:V):Int:=if v.ends=true then v.left else 0
def zEU(o:O)(lf gn:Int)(n:Nat):Int:=if o.kind=4∧0<lf+gn then 9 else if o.kind=5∧(lf<o.qty∨0<n) then 8 else 0
def sE(bs ss:List L)(o:O)(v:V):Int:=if 400<v.ts.length then 4 else if zEU o (lfV v) (gnV v) v.ids.length=0 then setE (repB o bs v.ls) (repS o ss v.ls) o (lfV v) else zEU o (lfV v) (gnV v) v.ids.length
theorem zHW(a b c d p q s t lf gn:Int)(u1 u2 tq iq:Option Addr)(m1 m2 tn jn k1 k2 tc ic:Nat)(w:World)(h0:0≤lf∧lf≤10000)(h1:0≤gn∧gn≤10000) :
  Calls prog 147 #[.agg #[.int .i64 a,.int .i64 b,.int .i64 c,.int .i64 d,.int .i64 p,.int .i64 q,.int .i64 s,.int .i64 t],.agg #[.slice u1 m1 k1,.slice u2 m2 k2,.slice tq tn tc,.int .i64 lf,.int .i64 gn,.slice iq jn ic]] w fun e w'=>e=.returned (errV (zEU ⟨a,b,c,d,p,q,s,t⟩ lf gn jn))∧Bw w w':=by
 have HB:Hid (Bw w ((w.alloc (.cells #[.int .i64 a,.int .i64 b,.int .i64 c,.int .i64 d,.int .i64 p,.int .i64 q,.int .i64 s,.int .i64 t] 40)).alloc (.cells #[.slice u1 m1 k1,.slice u2 m2 k2,.slice tq tn tc,.int .i64 lf,.int .i64 gn,.slice iq jn ic] 242))):=((bzR _ _).alloc (nzR _) _).alloc (by simp) _
 generalize hk:zEU ⟨a,b,c,d,p,q,s,t⟩ lf gn jn=kk;have HK:Hid ((if d=4∧0<lf+gn then 9 else if d=5∧(lf<q∨0<jn) then 8 else 0)=kk):=hk
 have E1:Hid (wrap64 (lf+gn)=lf+gn):=by show _=_;unfold wrap64;omega
 clear hk;by_cases h4:d=4
 ·subst h4;have x1:=E1.out;by_cases h00:0<lf+gn
  ·have gh:kk=9:=by rw[←HK.out,if_pos ⟨rfl,h00⟩]
   subst gh;clear h0 h1;go_enter func147,ntmps147;go_wp2_with fail;go_ret;exact⟨rfl,HB.out⟩
  ·have gh:kk=0:=by rw[←HK.out,if_neg (fun h=>h00 h.2),if_neg (by omega)]
   subst gh;clear h0 h1;go_enter func147,ntmps147;go_wp2_with fail;go_ret;exact⟨rfl,HB.out⟩
 ·have h4b:(d == 4)=false:=by simp[h4]
  clear h0 h1 E1;by_cases h5:d=5
  ·subst h5;by_cases h00:lf<q
   ·have gh:kk=8:=(by rw[←HK.out,if_neg (by omega),if_pos ⟨rfl,.inl h00⟩]);subst gh;go_enter func147,ntmps147;go_wp2_with fail;go_ret;exact⟨rfl,HB.out⟩
   ·by_cases h01:0<jn
    ·have gh:kk=8:=(by rw[←HK.out,if_neg (by omega),if_pos ⟨rfl,.inr h01⟩]);subst gh;have h01z:(0:Int)<(jn:Int):=(by omega);go_enter func147,ntmps147;go_wp2_with fail;go_ret;exact⟨rfl,HB.out⟩
    ·have gh:kk=0:=by rw[←HK.out,if_neg (by omega),if_neg (fun h=>h.2.elim h00 h01)]
     subst gh;have h01z:¬(0:Int)<(jn:Int):=(by omega);go_enter func147,ntmps147;go_wp2_with fail;go_ret;exact⟨rfl,HB.out⟩
  ·have h5b:(d == 5)=false:=by simp[h5]
   have gh:kk=0:=by rw[←HK.out,if_neg (fun h=>h4 h.1),if_neg (fun h=>h5 h.1)]
   subst gh;go_enter func147,ntmps147;go_wp2_with fail;go_ret;exact⟨rfl,HB.out⟩
def SDPost(m:Int)(bs ss:List L)(o:O)(w:World)(e:Ending)(w' : World):Prop:=
 (¬zAt bs ss o=0→e=.returned (.tuple #[.agg #[.slice none 0 0,.slice none 0 0],.slice none 0 0,.int .i64 0,.slice none 0 0,errV (zAt bs ss o)]))∧
 (zAt bs ss o=0→∀v,Fine m o (zAr bs ss o) o.qty v→
  (sE bs ss o v=0→∃q1 q2 n1 n2 c1 c2 tv iv,e=.returned (.tuple #[.agg #[.slice q1 n1 c1,.slice q2 n2 c2],tv,.int .i64 (gnV v+setG o (lfV v)),iv,.nilIface])∧DL w' w.heap.size (.slice q1 n1 c1) (setB (repB o bs v.ls) o (lfV v))∧DL w' w.heap.size (.slice q2 n2 c2) (setS (repS o ss v.ls) o (lfV v))∧OwnT w' w.heap.size tv v.ts∧OwnI w' w.heap.size iv v.ids)∧
  (¬sE bs ss o v=0→e=.returned (.tuple #[.agg #[.slice none 0 0,.slice none 0 0],.slice none 0 0,.int .i64 0,.slice none 0 0,errV (sE bs ss o v)])))∧Bw w w'
theorem zOW{w:World}{B:Nat}{x:Obj}(h:w.heap[B]?=some x):w.drew.heap[B]?=some x:=h
theorem zRi{m:Int}{bs ss:List L}{o:O}{w w' : World}{e:Ending}(h:SDPost m bs ss o w e w'):SDPost m bs ss o w e w'.drew:=by
 have hB:Bw w' w'.drew:=(bzR _ _).drew;refine⟨h.1,fun hc v hv=>⟨fun h0=>?_,(h.2.1 hc v hv).2⟩,h.2.2.drew⟩
 obtain⟨q1,q2,n1,n2,c1,c2,tv,iv,e1,e2,e3,e4,e5⟩:=(h.2.1 hc v hv).1 h0;exact⟨q1,q2,n1,n2,c1,c2,tv,iv,e1,e2.below hB,e3.below hB,OwnM.below e4 hB,OwnM.below e5 hB⟩
theorem zMh{m:Int}{o:O}{ls:List L}{k:Int}{v:V}(h:Fine m o ls k v):(∀l∈ls,lchk l=0)→0≤k→0≤v.left∧v.left≤k:=by
 induction h with
 | done h=>exact fun _ h0=>⟨h0,jY _⟩
 | stop=>exact fun _ h0=>⟨h0,jY _⟩
 | taker=>exact fun _ h0=>⟨h0,jY _⟩
 | maker _ _ _ _ _ ih=>exact fun hl h0=>ih (zAQ hl) h0
 | both=>exact fun _ h0=>⟨h0,jY _⟩
 | fill h _ _ _ ih=>
  intro hl h0;have hr:=zBg (zAh (hl _ (List.mem_cons_self ..))).2.2;have:=ih (zBh h hl) (by omega)
  simp only[];omega
theorem zOX(m:Int)(hm:m=1∨m=2∨m=3)(q1 q2:Option Addr)(n1 n2 c1 c2:Nat)(bs ss:List L)(a b c d p q s t:Int)(w:World)(h1:LS w (.slice q1 n1 c1) bs)(h2:LS w (.slice q2 n2 c2) ss) :
  Calls prog 111 #[.agg #[.slice q1 n1 c1,.slice q2 n2 c2],.agg #[.int .i64 a,.int .i64 b,.int .i64 c,.int .i64 d,.int .i64 p,.int .i64 q,.int .i64 s,.int .i64 t],.int .i64 m] w fun e w'=>SDPost m bs ss ⟨a,b,c,d,p,q,s,t⟩ w e w':=by
 obtain⟨V1,gy⟩:∃V1,V1=w.alloc (.cells #[.slice q1 n1 c1,.slice q2 n2 c2] 50):=⟨_,rfl⟩;have Hm:V1.heap.size=w.heap.size+1:=by rw[gy];simp
 have Ha:Below w.heap.size w V1:=by rw[gy];exact(bzR _ _).alloc (nzR _) _
 have go:V1.heap[w.heap.size]?=some (.cells #[.slice q1 n1 c1,.slice q2 n2 c2] 50 (0,0)):=by rw[gy];exact jA w _
 obtain⟨V2,gl⟩:∃V2,V2=V1.alloc (.cells #[.int .i64 a,.int .i64 b,.int .i64 c,.int .i64 d,.int .i64 p,.int .i64 q,.int .i64 s,.int .i64 t] 40):=⟨_,rfl⟩;have gd:V2.heap.size=w.heap.size+2:=by rw[gl];simp[Hm]
 have Hc:Below V1.heap.size V1 V2:=by rw[gl];exact(bzR _ _).alloc (nzR _) _
 have H5:V2.heap[w.heap.size+1]?=some (.cells #[.int .i64 a,.int .i64 b,.int .i64 c,.int .i64 d,.int .i64 p,.int .i64 q,.int .i64 s,.int .i64 t] 40 (0,0)):=by rw[←Hm,gl];exact jA V1 _
 obtain⟨V,hV⟩:∃V,V=V2.alloc (.cells #[.slice none 0 0,.slice none 0 0] 50):=⟨_,rfl⟩;have Hr:Below V2.heap.size V2 V:=by rw[hV];exact(bzR _ _).alloc (nzR _) _
 have Gm:V.heap[w.heap.size+2]?=some (.cells #[.slice none 0 0,.slice none 0 0] 50 (0,0)):=by rw[←gd,hV];exact jA V2 _
 have gj:Below w.heap.size w V:=by
  have h:=Ha.trans (Hc.mono Ha.size);exact h.trans (Hr.mono h.size)
 have gR:V.heap[w.heap.size]?=some (.cells #[.slice q1 n1 c1,.slice q2 n2 c2] 50 (0,0)):=by rw[Hr.block _ (by omega),Hc.block _ (by omega)];exact go
 have Un:V.heap[w.heap.size+1]?=some (.cells #[.int .i64 a,.int .i64 b,.int .i64 c,.int .i64 d,.int .i64 p,.int .i64 q,.int .i64 s,.int .i64 t] 40 (0,0)):=by rw[Hr.block _ (by omega)];exact H5
 obtain⟨P,hP⟩:∃P,P=w.heap.size+2:=⟨_,rfl⟩;obtain⟨G,hG⟩:∃G,G=w.heap.size:=⟨_,rfl⟩;obtain⟨Q,hQ⟩:∃Q,Q=w.heap.size+1:=⟨_,rfl⟩;rw[←hP] at Gm;have gY:P<V.heap.size:=(gzE.1 Gm).1;have HP:=hidK (show P=w.heap.size+2∧G=w.heap.size∧Q=w.heap.size+1∧P<V.heap.size from⟨hP,hG,hQ,gY⟩)
 have Hn:Hid (∀W,Below V.heap.size V W→Below w.heap.size w W∧W.heap[P]?=some (.cells #[.slice none 0 0,.slice none 0 0] 50 (0,0))∧W.heap[G]?=some (.cells #[.slice q1 n1 c1,.slice q2 n2 c2] 50 (0,0))∧W.heap[Q]?=some (.cells #[.int .i64 a,.int .i64 b,.int .i64 c,.int .i64 d,.int .i64 p,.int .i64 q,.int .i64 s,.int .i64 t] 40 (0,0))):=fun W hW=>
  ⟨gj.trans (hW.mono gj.size),(hW.block P gY).trans Gm,by rw[hG];exact(hW.block _ (by omega)).trans gR,by rw[hQ];exact(hW.block _ (by omega)).trans Un⟩
 have HL:Hid (LS w (.slice q1 n1 c1) bs∧LS w (.slice q2 n2 c2) ss):=⟨h1,h2⟩;have HM:=hidK hm;have gi:Hid (∀W kk,Below V.heap.size V W→¬kk=0→((¬zAt bs ss ⟨a,b,c,d,p,q,s,t⟩=0∧zAt bs ss ⟨a,b,c,d,p,q,s,t⟩=kk)∨(zAt bs ss ⟨a,b,c,d,p,q,s,t⟩=0∧∃v,Fine m ⟨a,b,c,d,p,q,s,t⟩ (zAr bs ss ⟨a,b,c,d,p,q,s,t⟩) q v∧sE bs ss ⟨a,b,c,d,p,q,s,t⟩ v=kk))→SDPost m bs ss ⟨a,b,c,d,p,q,s,t⟩ w (.returned (.tuple #[.agg #[.slice none 0 0,.slice none 0 0],.slice none 0 0,.int .i64 0,.slice none 0 0,.iface 80 (.int .i64 kk)])) ((W.setCell ⟨P,0,none⟩ (.slice none 0 0)).setCell ⟨P,1,none⟩ (.slice none 0 0))∧
   ((W.setCell ⟨P,0,none⟩ (.slice none 0 0)).setCell ⟨P,1,none⟩ (.slice none 0 0)).heap[P]?=some (.cells #[.slice none 0 0,.slice none 0 0] 50 (0,0))):=fun W kk hW hk he=>by
  obtain⟨hw,gm,-,-⟩:=Hn.out W hW;have Hs:=zAN W P (.slice none 0 0) (.slice none 0 0);have UA:=hw.grown Hs hw.size (fun k hk=>by cases hk;have:=HP.out.1;omega)
  refine⟨?_,zAx gm _ _⟩;rcases he with ⟨e1,e2⟩|⟨e1,v,e3,e4⟩
  ·exact⟨fun _=>by rw[e2,wAb hk],fun h=>absurd h e1,UA⟩
  ·refine⟨fun h=>absurd e1 h,fun _ v' gX=>?_,UA⟩
   have:=zBo e3 v' gX;subst this;exact⟨fun h=>absurd (e4.symm.trans h) hk,fun _=>by rw[e4,wAb hk]⟩
 have CU:(m == 0)=false:=by rcases hm with rfl|rfl|rfl <;>rfl
 have Cj:Hid ([(m,0,3)].any zAo=false):=by
  have h:=zIQ m 0 3;have h2:decide (0≤m∧m≤3)=true:=by simp;omega
  rw[h2] at h;exact h
 clear Hm gd Ha Hc Hr go H5 Gm gR Un gj h1 h2 gY hm;go_enter func111,ntmps111;go_wp2_with fail;rw[←gy,←gl,←hV];simp only[←hP];simp only[←hQ];simp only[←hG];clear gy gl hV hP hG hQ;refine(zDK m V).mono ?_;rintro e w1⟨rfl,b1⟩;have gq:=hidK b1;clear b1;go_wp2_with fail;refine(scheck1 false _ _ _ _ _ rfl Cj.out).mono ?_;rintro e w2⟨rfl,b2⟩;rw[show spn.errV (zAg false)=.nilIface from rfl]
 have H6:=hidK (gq.out.trans (b2.mono gq.out.size));clear b2 gq;obtain⟨uE,-,eH,eU⟩:=Hn.out w2 H6.out;obtain⟨g0,g1,-⟩:=zAb eH;obtain⟨o0,o1,o2,o3,o4,o5,o6,o7,-⟩:=rowO eU;have de:=hidK (zOP m HM.out q1 q2 n1 n2 c1 c2 bs ss a b c d p q s t w2 (HL.out.1.below uE) (HL.out.2.below uE));clear uE eH eU;go_wp2_with fail;refine de.out.mono ?_;rintro e w3⟨i1,i2,b3⟩;have gZ:=hidK (H6.out.trans (b3.mono H6.out.size));have HU:=hidK b3.size;clear b3 g0 g1 o0 o1 o2 o3 o4 o5 o6 o7 de;have My:Hid (True):=trivial;by_cases hC:zAt bs ss ⟨a,b,c,d,p,q,s,t⟩=0
 rotate_left
 ·have e3:=i2 hC;subst e3;rw[wAb hC];have Hu:Below w3.heap.size w3 (w3.alloc (.cells #[.slice none 0 0,.slice none 0 0,.slice none 0 0,.int .i64 0,.int .i64 0,.slice none 0 0] 242)):=(bzR _ _).alloc (nzR _) _;have GP:=hidK (gZ.out.trans (Hu.mono gZ.out.size));obtain⟨gC,gL⟩:=gi.out _ _ GP.out hC (.inl ⟨hC,rfl⟩);have Hz:=hidK gC;have Hy:=hidK gL;obtain⟨-,gm,-,-⟩:=Hn.out _ GP.out;obtain⟨z0,z1,zf⟩:=zAb gm;have zf0:=zf 0;have zf1:=zf 1;generalize zAt bs ss ⟨a,b,c,d,p,q,s,t⟩=kk at *;clear i1 i2 gC gL gi gm zf Hu Hn;go_upto_region 8 with fail
  generalize w3.alloc (.cells #[.slice none 0 0,.slice none 0 0,.slice none 0 0,.int .i64 0,.int .i64 0,.slice none 0 0] 242)=W at *;go_wp2_with fail;generalize ((W.setCell ⟨P,0,none⟩ (.slice none 0 0)).setCell ⟨P,1,none⟩ (.slice none 0 0))=Z at *;obtain⟨y0,y1,-⟩:=zAb Hy.out;exact jN (v:=.tuple #[.agg #[.slice none 0 0,.slice none 0 0],.slice none 0 0,.int .i64 0,.slice none 0 0,.iface 80 (.int .i64 kk)]) (by simp[results,results111,go_sem,y0,y1]) rfl Hz.out
 obtain⟨uo,gF,-,-⟩:=zAF hC;have MY:=zLH gF;obtain⟨v,hv⟩:=zEn (o:=⟨a,b,c,d,p,q,s,t⟩) (k:=q) HM.out (wAp (o:=⟨a,b,c,d,p,q,s,t⟩) uo);have HV:=hidK hv;have HC:=hidK hC;have UF:=hidK uo;have hlv:=zMh hv (wAp (o:=⟨a,b,c,d,p,q,s,t⟩) uo) (by simp only[] at MY;omega)
 have GD:=hidK (show (0≤lfV v∧lfV v≤10000)∧0≤gnV v∧gnV v≤10000 from by unfold lfV gnV;simp only[] at MY;constructor <;>(split <;>omega))
 obtain⟨j1,j2⟩:=i1 hC v hv;by_cases h4:v.ts.length≤400
 rotate_left
 ·have e3:=j2 h4;subst e3;have hsE:sE bs ss ⟨a,b,c,d,p,q,s,t⟩ v=4:=if_pos (by omega)
  have Hu:Below w3.heap.size w3 (w3.alloc (.cells #[.slice none 0 0,.slice none 0 0,.slice none 0 0,.int .i64 0,.int .i64 0,.slice none 0 0] 242)):=(bzR _ _).alloc (nzR _) _;have GP:=hidK (gZ.out.trans (Hu.mono gZ.out.size));obtain⟨gC,gL⟩:=gi.out _ _ GP.out (by decide) (.inr ⟨hC,v,hv,hsE⟩)
  have Hz:=hidK gC;have Hy:=hidK gL;obtain⟨-,gm,-,-⟩:=Hn.out _ GP.out;obtain⟨z0,z1,zf⟩:=zAb gm;have zf0:=zf 0;have zf1:=zf 1;clear i1 i2 j1 j2 gC gL gi gm zf Hu Hn hsE uo gF MY hlv hv hC;go_upto_region 8 with fail
  generalize w3.alloc (.cells #[.slice none 0 0,.slice none 0 0,.slice none 0 0,.int .i64 0,.int .i64 0,.slice none 0 0] 242)=W at *;go_wp2_with fail;generalize ((W.setCell ⟨P,0,none⟩ (.slice none 0 0)).setCell ⟨P,1,none⟩ (.slice none 0 0))=Z at *;obtain⟨y0,y1,-⟩:=zAb Hy.out;exact jN (v:=.tuple #[.agg #[.slice none 0 0,.slice none 0 0],.slice none 0 0,.int .i64 0,.slice none 0 0,.iface 80 (.int .i64 4)]) (by simp[results,results111,go_sem,y0,y1]) rfl Hz.out
 obtain⟨u1,u2,m1,m2,k1,k2,tv,iv,lf,gn,rfl,dJ,hgn,L1,L2,OT,OI,cd⟩:=j1 h4;have bV:lf=lfV v:=dJ;have bS:gn=gnV v:=hgn;obtain⟨tq,tc,Bg⟩:=OwnM.form OT;obtain⟨iq,ic,hiv⟩:=OwnM.form OI;subst Bg;subst hiv;have HSK:=hidK (zAe (zCe uo cd));have H4:=hidK h4;have P4:=hidK (show sE bs ss ⟨a,b,c,d,p,q,s,t⟩ v=(if zEU ⟨a,b,c,d,p,q,s,t⟩ lf gn v.ids.length=0 then setE (repB ⟨a,b,c,d,p,q,s,t⟩ bs v.ls) (repS ⟨a,b,c,d,p,q,s,t⟩ ss v.ls) ⟨a,b,c,d,p,q,s,t⟩ lf else zEU ⟨a,b,c,d,p,q,s,t⟩ lf gn v.ids.length) from by unfold sE;rw[if_neg (by omega),←bV,←bS])
 rw[←bV,←bS] at GD;have M3:=hidK (show lfV v=lf∧gnV v=gn from⟨bV.symm,bS.symm⟩)
 obtain⟨RB,CA⟩:∃RB,repB ⟨a,b,c,d,p,q,s,t⟩ bs v.ls=RB:=⟨_,rfl⟩;obtain⟨RS,mC⟩:∃RS,repS ⟨a,b,c,d,p,q,s,t⟩ ss v.ls=RS:=⟨_,rfl⟩;have gK:=hidK (show repB ⟨a,b,c,d,p,q,s,t⟩ bs v.ls=RB∧repS ⟨a,b,c,d,p,q,s,t⟩ ss v.ls=RS from⟨CA,mC⟩)
 rw[CA] at L1;rw[mC] at L2;rw[CA,mC] at HSK P4;obtain⟨tn,Be⟩:∃tn,tn=v.ts.length:=⟨_,rfl⟩;obtain⟨jn,Ey⟩:∃jn,jn=v.ids.length:=⟨_,rfl⟩;rw[←Be] at OT;rw[←Ey] at OI P4;rw[←Be,←Ey];have Hu:Below w3.heap.size w3 (w3.alloc (.cells #[.slice u1 m1 k1,.slice u2 m2 k2,.slice tq tn tc,.int .i64 lf,.int .i64 gn,.slice iq jn ic] 242)):=(bzR _ _).alloc (nzR _) _;have mV:(w3.alloc (.cells #[.slice u1 m1 k1,.slice u2 m2 k2,.slice tq tn tc,.int .i64 lf,.int .i64 gn,.slice iq jn ic] 242)).heap[w3.heap.size]?=some (.cells #[.slice u1 m1 k1,.slice u2 m2 k2,.slice tq tn tc,.int .i64 lf,.int .i64 gn,.slice iq jn ic] 242 (0,0)):=jA w3 _;have GP:=hidK (gZ.out.trans (Hu.mono gZ.out.size));have Bt:=hidK (L1.below Hu);have HL2:=hidK (L2.below Hu);have PX:=hidK (OwnM.below OT Hu);have HOI:=hidK (OwnM.below OI Hu);have GO:=hidK H6.out.size
 clear i1 i2 j1 j2 L1 L2 OT OI Hu uo gF MY hlv hv hC dJ hgn bV bS cd h4 CA mC Be Ey;go_upto_region 8 with fail
 generalize w3.alloc (.cells #[.slice u1 m1 k1,.slice u2 m2 k2,.slice tq tn tc,.int .i64 lf,.int .i64 gn,.slice iq jn ic] 242)=W at *;generalize w3.heap.size=VB at *;obtain⟨-,-,-,hQW⟩:=Hn.out W GP.out;obtain⟨o0,o1,o2,o3,o4,o5,o6,o7,-⟩:=rowO hQW;obtain⟨x0,x1,x2,x3,x4,x5,-⟩:=rowV mV;clear hQW;go_wp2_with fail;refine(zHW a b c d p q s t lf gn u1 u2 tq iq m1 m2 tn jn k1 k2 tc ic W GD.out.1 GD.out.2).mono ?_;rintro e w5⟨rfl,b5⟩;have MI:=hidK (GP.out.trans (b5.mono GP.out.size));have Ds:=hidK (Bt.out.below b5);have Dt:=hidK (HL2.out.below b5);have DK:=hidK (OwnM.below PX.out b5);have DF:=hidK (OwnM.below HOI.out b5);have pY:=(b5.block VB (gzE.1 mV).1).trans mV;clear b5 o0 o1 o2 o3 o4 o5 o6 o7 x0 x1 x2 x3 x4 x5 mV Bt HL2 PX HOI GP;by_cases hF:zEU ⟨a,b,c,d,p,q,s,t⟩ lf gn jn=0
 rotate_left
 ·rw[wAb hF];obtain⟨gC,gL⟩:=gi.out w5 _ MI.out hF (.inr ⟨HC.out,v,HV.out,by rw[P4.out,if_neg hF]⟩)
  have Hz:=hidK gC;have Hy:=hidK gL;obtain⟨-,gm,-,-⟩:=Hn.out _ MI.out;obtain⟨z0,z1,zf⟩:=zAb gm;have zf0:=zf 0;have zf1:=zf 1;generalize zEU ⟨a,b,c,d,p,q,s,t⟩ lf gn jn=kk at *;clear gC gL gi gm zf Hn pY;go_wp2_with fail;generalize ((w5.setCell ⟨P,0,none⟩ (.slice none 0 0)).setCell ⟨P,1,none⟩ (.slice none 0 0))=Z at *;obtain⟨y0,y1,-⟩:=zAb Hy.out;exact jN (v:=.tuple #[.agg #[.slice none 0 0,.slice none 0 0],.slice none 0 0,.int .i64 0,.slice none 0 0,.iface 80 (.int .i64 kk)]) (by simp[results,results111,go_sem,y0,y1]) rfl Hz.out
 rw[hF,wAa];have df:Hid (sE bs ss ⟨a,b,c,d,p,q,s,t⟩ v=setE RB RS ⟨a,b,c,d,p,q,s,t⟩ lf):=by show _=_;rw[P4.out,if_pos hF]
 have uY:=hidK (wAM u1 u2 m1 m2 k1 k2 RB RS a b c d p q s t lf V.heap.size w5 Ds.out Dt.out MI.out.size HSK.out.1 HSK.out.2.1);obtain⟨-,-,-,eV⟩:=Hn.out w5 MI.out;obtain⟨o0,o1,o2,o3,o4,o5,o6,o7,-⟩:=rowO eV;obtain⟨x0,x1,x2,x3,x4,x5,-⟩:=rowV pY;clear eV hF Ds Dt;go_wp2_with fail;refine uY.out.mono ?_;rintro e w6⟨r1,r2,b6⟩;have Cn:=hidK (MI.out.trans (b6.mono MI.out.size));have DM:=hidK (OwnM.below DK.out b6);have DG:=hidK (OwnM.below DF.out b6);have bG:=(b6.block VB (gzE.1 pY).1).trans pY;clear b6 o0 o1 o2 o3 o4 o5 o6 o7 x0 x1 x2 x3 x4 x5 pY uY DK DF;by_cases hS:setE RB RS ⟨a,b,c,d,p,q,s,t⟩ lf=0
 rotate_left
 ·obtain⟨y1,y2,l1,l2,f1,f2,rfl⟩:=r2 hS;rw[wAb hS];have Hu:Below w6.heap.size w6 (w6.alloc (.cells #[.slice y1 l1 f1,.slice y2 l2 f2] 50)):=(bzR _ _).alloc (nzR _) _;have HW7:=hidK (Cn.out.trans (Hu.mono Cn.out.size));obtain⟨gC,gL⟩:=gi.out _ _ HW7.out hS (.inr ⟨HC.out,v,HV.out,df.out⟩);have Hz:=hidK gC;have Hy:=hidK gL;obtain⟨-,gm,-,-⟩:=Hn.out _ HW7.out;obtain⟨z0,z1,zf⟩:=zAb gm;have zf0:=zf 0;have zf1:=zf 1;generalize setE RB RS ⟨a,b,c,d,p,q,s,t⟩ lf=kk at *;clear gC gL gi gm zf Hn r1 r2 Hu bG;go_upto_region 14 with fail
  generalize w6.alloc (.cells #[.slice y1 l1 f1,.slice y2 l2 f2] 50)=W7 at *;go_wp2_with fail;generalize ((W7.setCell ⟨P,0,none⟩ (.slice none 0 0)).setCell ⟨P,1,none⟩ (.slice none 0 0))=Z at *;obtain⟨x0,x1,-⟩:=zAb Hy.out;exact jN (v:=.tuple #[.agg #[.slice none 0 0,.slice none 0 0],.slice none 0 0,.int .i64 0,.slice none 0 0,.iface 80 (.int .i64 kk)]) (by simp[results,results111,go_sem,x0,x1]) rfl Hz.out
 obtain⟨y1,y2,l1,l2,f1,f2,rfl,D1,D2⟩:=r1 hS;have Hu:Below w6.heap.size w6 (w6.alloc (.cells #[.slice y1 l1 f1,.slice y2 l2 f2] 50)):=(bzR _ _).alloc (nzR _) _;have P5:(w6.alloc (.cells #[.slice y1 l1 f1,.slice y2 l2 f2] 50)).heap[w6.heap.size]?=some (.cells #[.slice y1 l1 f1,.slice y2 l2 f2] 50 (0,0)):=jA w6 _;have Eb:=(Hu.block VB (gzE.1 bG).1).trans bG;have HW7:=hidK (Cn.out.trans (Hu.mono Cn.out.size));have uU:=hidK (D1.below Hu);have uu:=hidK (D2.below Hu);have HOT7:=hidK (OwnM.below DM.out Hu);have HOI7:=hidK (OwnM.below DG.out Hu);clear r1 r2 D1 D2 Hu bG DM DG;go_upto_region 14 with fail
 generalize w6.alloc (.cells #[.slice y1 l1 f1,.slice y2 l2 f2] 50)=W7 at *;generalize w6.heap.size=NB at *;obtain⟨hw7,gm,-,-⟩:=Hn.out _ HW7.out;obtain⟨z0,z1,zf⟩:=zAb gm;have zf0:=zf 0;have zf1:=zf 1;obtain⟨n0,n1',-⟩:=zAb P5;obtain⟨x0,x1,x2,x3,x4,x5,-⟩:=rowV Eb;obtain⟨GG,bz⟩:∃GG,setG ⟨a,b,c,d,p,q,s,t⟩ lf=GG:=⟨_,rfl⟩;have hGb:0≤GG∧GG≤10000:=by
  have h:=GD.out;rw[←bz];unfold setG;split <;>omega
 have E1:wrap64 (gn+GG)=gn+GG:=by have h:=GD.out;unfold wrap64;omega
 have E1b:IntKind.i64.wrap (gn+GG)=gn+GG:=(IntWalk.i64_left _).trans E1;have Hz:Hid (∀Z,Below W7.heap.size W7 Z→SDPost m bs ss ⟨a,b,c,d,p,q,s,t⟩ w (.returned (.tuple #[.agg #[.slice y1 l1 f1,.slice y2 l2 f2],.slice tq tn tc,.int .i64 (gn+GG),.slice iq jn ic,.nilIface])) ((Z.setCell ⟨P,0,none⟩ (.slice y1 l1 f1)).setCell ⟨P,1,none⟩ (.slice y2 l2 f2))∧((Z.setCell ⟨P,0,none⟩ (.slice y1 l1 f1)).setCell ⟨P,1,none⟩ (.slice y2 l2 f2)).heap[P]?=some (.cells #[.slice y1 l1 f1,.slice y2 l2 f2] 50 (0,0))):=fun Z hZ=>by
  have hp:=HP.out;have hb:=HU.out;have Hs:=zAN Z P (.slice y1 l1 f1) (.slice y2 l2 f2);have M1:=hw7.trans (hZ.mono hw7.size);have dr:=OwnM.below HOT7.out hZ;have hOI:=OwnM.below HOI7.out hZ;have hv2:=GO.out;refine⟨⟨fun h=>absurd HC.out h,fun _ v' gX=>?_,M1.grown Hs M1.size (fun k hk=>by cases hk;omega)⟩,zAx ((hZ.block P (gzE.1 gm).1).trans gm) _ _⟩
  have:=zBo HV.out v' gX;subst this;refine⟨fun _=>⟨_,_,_,_,_,_,_,_,by rw[M3.out.1,M3.out.2,bz],?_,?_,?_,?_⟩,fun h=>absurd (df.out.trans hS) h⟩
  ·rw[M3.out.1,gK.out.1];exact((uU.out.below hZ).other Hs (by omega)).mono (by omega)
  ·rw[M3.out.1,gK.out.2];exact((uu.out.below hZ).other Hs (by omega)).mono (by omega)
  ·exact OwnM.mono (zAl dr Hs (fun z hz e=>by cases e;have:=(OwnM.lt dr P hz).1;omega)) (by omega)
  ·exact OwnM.mono (zAl hOI Hs (fun z hz e=>by cases e;have:=(OwnM.lt hOI P hz).1;omega)) (by omega)
 have HGG:=hidK bz;rw[bz];clear zf bz gm P5 Eb hw7 hGb gi Hn hS;go_upto_region 16 with fail
 go_region
 all_goals go_wp2_with fail
 all_goals first
  | (obtain⟨gC,gL⟩:=Hz.out W7 (bzR _ _);obtain⟨y0',y1',-⟩:=zAb gL;exact jN (v:=.tuple #[.agg #[.slice y1 l1 f1,.slice y2 l2 f2],.slice tq tn tc,.int .i64 (gn+GG),.slice iq jn ic,.nilIface]) (by simp[results,results111,go_sem,y0',y1']) rfl gC)
  | (obtain⟨gC,gL⟩:=Hz.out W7 (bzR _ _);obtain⟨y0',y1',-⟩:=zAb (zOW gL);exact jN (v:=.tuple #[.agg #[.slice y1 l1 f1,.slice y2 l2 f2],.slice tq tn tc,.int .i64 (gn+GG),.slice iq jn ic,.nilIface]) (by simp[results,results111,go_sem,y0',y1']) rfl (zRi gC))
  | (obtain⟨gC,gL⟩:=Hz.out W7.drew (bzR _ _).drew;obtain⟨y0',y1',-⟩:=zAb gL;exact jN (v:=.tuple #[.agg #[.slice y1 l1 f1,.slice y2 l2 f2],.slice tq tn tc,.int .i64 (gn+GG),.slice iq jn ic,.nilIface]) (by simp[results,results111,go_sem,y0',y1']) rfl gC)
def SZPost(bs ss:List L)(o:O)(w:World)(e:Ending)(w' : World):Prop:=
 (kdoE bs ss o=0→∃q1 q2 n1 n2 c1 c2 tv,e=.returned (.tuple #[.agg #[.slice q1 n1 c1,.slice q2 n2 c2],tv,.int .i64 (kdoG bs ss o),.slice none 0 0,.nilIface])∧DL w' w.heap.size (.slice q1 n1 c1) (kdoB bs ss o)∧DL w' w.heap.size (.slice q2 n2 c2) (kdoS bs ss o)∧OwnT w' w.heap.size tv (metR bs ss o).2.1)∧
 (¬kdoE bs ss o=0→e=.returned (.tuple #[.agg #[.slice none 0 0,.slice none 0 0],.slice none 0 0,.int .i64 0,.slice none 0 0,errV (kdoE bs ss o)]))∧Bw w w'
theorem zOY(q1 q2:Option Addr)(n1 n2 c1 c2:Nat)(bs ss:List L)(a b c d p q s t:Int)(w:World)(h1:LS w (.slice q1 n1 c1) bs)(h2:LS w (.slice q2 n2 c2) ss) :
  Calls prog 111 #[.agg #[.slice q1 n1 c1,.slice q2 n2 c2],.agg #[.int .i64 a,.int .i64 b,.int .i64 c,.int .i64 d,.int .i64 p,.int .i64 q,.int .i64 s,.int .i64 t],.int .i64 0] w fun e w'=>SZPost bs ss ⟨a,b,c,d,p,q,s,t⟩ w e w':=by
 obtain⟨V1,gy⟩:∃V1,V1=w.alloc (.cells #[.slice q1 n1 c1,.slice q2 n2 c2] 50):=⟨_,rfl⟩;have Hm:V1.heap.size=w.heap.size+1:=by rw[gy];simp
 have Ha:Below w.heap.size w V1:=by rw[gy];exact(bzR _ _).alloc (nzR _) _
 have go:V1.heap[w.heap.size]?=some (.cells #[.slice q1 n1 c1,.slice q2 n2 c2] 50 (0,0)):=by rw[gy];exact jA w _
 obtain⟨V2,gl⟩:∃V2,V2=V1.alloc (.cells #[.int .i64 a,.int .i64 b,.int .i64 c,.int .i64 d,.int .i64 p,.int .i64 q,.int .i64 s,.int .i64 t] 40):=⟨_,rfl⟩;have gd:V2.heap.size=w.heap.size+2:=by rw[gl];simp[Hm]
 have Hc:Below V1.heap.size V1 V2:=by rw[gl];exact(bzR _ _).alloc (nzR _) _
 have H5:V2.heap[w.heap.size+1]?=some (.cells #[.int .i64 a,.int .i64 b,.int .i64 c,.int .i64 d,.int .i64 p,.int .i64 q,.int .i64 s,.int .i64 t] 40 (0,0)):=by rw[←Hm,gl];exact jA V1 _
 obtain⟨V,hV⟩:∃V,V=V2.alloc (.cells #[.slice none 0 0,.slice none 0 0] 50):=⟨_,rfl⟩;have Hr:Below V2.heap.size V2 V:=by rw[hV];exact(bzR _ _).alloc (nzR _) _
 have Gm:V.heap[w.heap.size+2]?=some (.cells #[.slice none 0 0,.slice none 0 0] 50 (0,0)):=by rw[←gd,hV];exact jA V2 _
 have gj:Below w.heap.size w V:=by
  have h:=Ha.trans (Hc.mono Ha.size);exact h.trans (Hr.mono h.size)
 have gR:V.heap[w.heap.size]?=some (.cells #[.slice q1 n1 c1,.slice q2 n2 c2] 50 (0,0)):=by rw[Hr.block _ (by omega),Hc.block _ (by omega)];exact go
 have Un:V.heap[w.heap.size+1]?=some (.cells #[.int .i64 a,.int .i64 b,.int .i64 c,.int .i64 d,.int .i64 p,.int .i64 q,.int .i64 s,.int .i64 t] 40 (0,0)):=by rw[Hr.block _ (by omega)];exact H5
 obtain⟨P,hP⟩:∃P,P=w.heap.size+2:=⟨_,rfl⟩;obtain⟨G,hG⟩:∃G,G=w.heap.size:=⟨_,rfl⟩;obtain⟨Q,hQ⟩:∃Q,Q=w.heap.size+1:=⟨_,rfl⟩;rw[←hP] at Gm;have gY:P<V.heap.size:=(gzE.1 Gm).1;have HP:=hidK (show P=w.heap.size+2∧G=w.heap.size∧Q=w.heap.size+1∧P<V.heap.size from⟨hP,hG,hQ,gY⟩)
 have Hn:Hid (∀W,Below V.heap.size V W→Below w.heap.size w W∧W.heap[P]?=some (.cells #[.slice none 0 0,.slice none 0 0] 50 (0,0))∧W.heap[G]?=some (.cells #[.slice q1 n1 c1,.slice q2 n2 c2] 50 (0,0))∧W.heap[Q]?=some (.cells #[.int .i64 a,.int .i64 b,.int .i64 c,.int .i64 d,.int .i64 p,.int .i64 q,.int .i64 s,.int .i64 t] 40 (0,0))):=fun W hW=>
  ⟨gj.trans (hW.mono gj.size),(hW.block P gY).trans Gm,by rw[hG];exact(hW.block _ (by omega)).trans gR,by rw[hQ];exact(hW.block _ (by omega)).trans Un⟩
 have HL:Hid (LS w (.slice q1 n1 c1) bs∧LS w (.slice q2 n2 c2) ss):=⟨h1,h2⟩;have Cj:Hid ([((0:Int),0,3)].any zAo=false):=rfl;clear Hm gd Ha Hc Hr go H5 Gm gR Un gj h1 h2 gY;go_enter func111,ntmps111;go_wp2_with fail;rw[←gy,←gl,←hV];simp only[←hP];simp only[←hQ];simp only[←hG];clear gy gl hV hP hG hQ;refine(zDK 0 V).mono ?_;rintro e w1⟨rfl,b1⟩;have gq:=hidK b1;clear b1;go_wp2_with fail;refine(scheck1 false _ _ _ _ _ rfl Cj.out).mono ?_;rintro e w2⟨rfl,b2⟩;rw[show spn.errV (zAg false)=.nilIface from rfl]
 have H6:=hidK (gq.out.trans (b2.mono gq.out.size));clear b2 gq;obtain⟨uE,-,eH,eU⟩:=Hn.out w2 H6.out;obtain⟨g0,g1,-⟩:=zAb eH;obtain⟨o0,o1,o2,o3,o4,o5,o6,o7,-⟩:=rowO eU;have cU:=hidK (zRh q1 q2 n1 n2 c1 c2 bs ss a b c d p q s t w2 (HL.out.1.below uE) (HL.out.2.below uE));have GO:=hidK H6.out.size;clear uE eH eU;go_wp2_with fail;refine cU.out.mono ?_;rintro e w3⟨i1,i2,b3⟩;have gZ:=hidK (H6.out.trans (b3.mono H6.out.size));clear b3 g0 g1 o0 o1 o2 o3 o4 o5 o6 o7 cU
 have gQ:Hid (∀y1 y2 l1 l2 f1 f2 W,Below w3.heap.size w3 W→W.heap[w3.heap.size]?=some (.cells #[.slice y1 l1 f1,.slice y2 l2 f2] 50 (0,0))→Below w.heap.size w ((W.setCell ⟨P,0,none⟩ (.slice y1 l1 f1)).setCell ⟨P,1,none⟩ (.slice y2 l2 f2))∧W.grownBy ((W.setCell ⟨P,0,none⟩ (.slice y1 l1 f1)).setCell ⟨P,1,none⟩ (.slice y2 l2 f2)) (some P)∧((W.setCell ⟨P,0,none⟩ (.slice y1 l1 f1)).setCell ⟨P,1,none⟩ (.slice y2 l2 f2)).heap[P]?=some (.cells #[.slice y1 l1 f1,.slice y2 l2 f2] 50 (0,0))):=fun y1 y2 l1 l2 f1 f2 W hW _=>by
  obtain⟨hw,gm,-,-⟩:=Hn.out W (gZ.out.trans (hW.mono gZ.out.size));have Hs:=zAN W P (.slice y1 l1 f1) (.slice y2 l2 f2);exact⟨hw.grown Hs hw.size (fun k hk=>by cases hk;have:=HP.out;omega),Hs,zAx gm _ _⟩
 by_cases hK:kdoE bs ss ⟨a,b,c,d,p,q,s,t⟩=0
 ·obtain⟨y1,y2,l1,l2,f1,f2,tv,rfl,D1,D2,OT⟩:=i1 hK;obtain⟨tq,tc,Bg⟩:=OwnM.form OT;subst Bg;obtain⟨tn,Be⟩:∃tn,tn=(metR bs ss ⟨a,b,c,d,p,q,s,t⟩).2.1.length:=⟨_,rfl⟩;obtain⟨GG,bz⟩:∃GG,GG=kdoG bs ss ⟨a,b,c,d,p,q,s,t⟩:=⟨_,rfl⟩;rw[←Be] at OT;rw[←Be,←bz];have Hu:Below w3.heap.size w3 (w3.alloc (.cells #[.slice y1 l1 f1,.slice y2 l2 f2] 50)):=(bzR _ _).alloc (nzR _) _;have P5:(w3.alloc (.cells #[.slice y1 l1 f1,.slice y2 l2 f2] 50)).heap[w3.heap.size]?=some (.cells #[.slice y1 l1 f1,.slice y2 l2 f2] 50 (0,0)):=jA w3 _;obtain⟨er,Hs,gL⟩:=gQ.out y1 y2 l1 l2 f1 f2 _ Hu P5;have hp:=HP.out;have hv2:=GO.out;have dr:=OwnM.below OT Hu
  have Hz:=hidK (show SZPost bs ss ⟨a,b,c,d,p,q,s,t⟩ w (.returned (.tuple #[.agg #[.slice y1 l1 f1,.slice y2 l2 f2],.slice tq tn tc,.int .i64 GG,.slice none 0 0,.nilIface])) (((w3.alloc (.cells #[.slice y1 l1 f1,.slice y2 l2 f2] 50)).setCell ⟨P,0,none⟩ (.slice y1 l1 f1)).setCell ⟨P,1,none⟩ (.slice y2 l2 f2)) from
   ⟨fun _=>⟨_,_,_,_,_,_,_,by rw[bz],((D1.below Hu).other Hs (by omega)).mono (by omega),((D2.below Hu).other Hs (by omega)).mono (by omega),OwnM.mono (zAl dr Hs (fun z hz e=>by cases e;have:=(OwnM.lt dr P hz).1;omega)) (by omega)⟩,fun h=>absurd hK h,er⟩)
  have Hy:=hidK gL;obtain⟨-,gm,-,-⟩:=Hn.out _ (gZ.out.trans (Hu.mono gZ.out.size));obtain⟨z0,z1,zf⟩:=zAb gm;have zf0:=zf 0;have zf1:=zf 1;obtain⟨n0,n1',-⟩:=zAb P5;clear zf gm P5 gL Hs er Hu dr D1 D2 OT i1 i2 gQ Hn hp hv2 Be bz hK;go_upto_region 6 with fail
  generalize w3.alloc (.cells #[.slice y1 l1 f1,.slice y2 l2 f2] 50)=W7 at *;generalize w3.heap.size=NB at *;go_wp2_with fail;generalize ((W7.setCell ⟨P,0,none⟩ (.slice y1 l1 f1)).setCell ⟨P,1,none⟩ (.slice y2 l2 f2))=Z at *;obtain⟨x0,x1,-⟩:=zAb Hy.out;exact jN (v:=.tuple #[.agg #[.slice y1 l1 f1,.slice y2 l2 f2],.slice tq tn tc,.int .i64 GG,.slice none 0 0,.nilIface]) (by simp[results,results111,go_sem,x0,x1]) rfl Hz.out
 ·have e3:=i2 hK;subst e3;rw[wAb hK];have Hu:Below w3.heap.size w3 (w3.alloc (.cells #[.slice none 0 0,.slice none 0 0] 50)):=(bzR _ _).alloc (nzR _) _;have P5:(w3.alloc (.cells #[.slice none 0 0,.slice none 0 0] 50)).heap[w3.heap.size]?=some (.cells #[.slice none 0 0,.slice none 0 0] 50 (0,0)):=jA w3 _;obtain⟨er,Hs,gL⟩:=gQ.out none none 0 0 0 0 _ Hu P5;have Hz:=hidK (show SZPost bs ss ⟨a,b,c,d,p,q,s,t⟩ w (.returned (.tuple #[.agg #[.slice none 0 0,.slice none 0 0],.slice none 0 0,.int .i64 0,.slice none 0 0,.iface 80 (.int .i64 (kdoE bs ss ⟨a,b,c,d,p,q,s,t⟩))])) (((w3.alloc (.cells #[.slice none 0 0,.slice none 0 0] 50)).setCell ⟨P,0,none⟩ (.slice none 0 0)).setCell ⟨P,1,none⟩ (.slice none 0 0)) from
   ⟨fun h=>absurd h hK,fun _=>by rw[wAb hK],er⟩)
  have Hy:=hidK gL;obtain⟨-,gm,-,-⟩:=Hn.out _ (gZ.out.trans (Hu.mono gZ.out.size));obtain⟨z0,z1,zf⟩:=zAb gm;have zf0:=zf 0;have zf1:=zf 1;obtain⟨n0,n1',-⟩:=zAb P5;generalize kdoE bs ss ⟨a,b,c,d,p,q,s,t⟩=kk at *;clear zf gm P5 gL Hs er Hu i1 i2 gQ Hn hK;go_upto_region 6 with fail
  generalize w3.alloc (.cells #[.slice none 0 0,.slice none 0 0] 50)=W7 at *;generalize w3.heap.size=NB at *;go_wp2_with fail;generalize ((W7.setCell ⟨P,0,none⟩ (.slice none 0 0)).setCell ⟨P,1,none⟩ (.slice none 0 0))=Z at *;obtain⟨x0,x1,-⟩:=zAb Hy.out;exact jN (v:=.tuple #[.agg #[.slice none 0 0,.slice none 0 0],.slice none 0 0,.int .i64 0,.slice none 0 0,.iface 80 (.int .i64 kk)]) (by simp[results,results111,go_sem,x0,x1]) rfl Hz.out
end slf
end Go.Proofs.YtmhcghgfpfainaaGreatDoor
