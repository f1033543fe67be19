import Derived.Test.YtifjhlgjgnnnpaaGreatBokPut
import Derived.Test.YtifjhlgjgnnnpaaGreatKinDo
set_option maxHeartbeats 8000000
set_option maxRecDepth 100000
namespace Go.Proofs.YtifjhlgjgnnnpaaGreat
namespace slf
open Go.RowKit spn que sid bok mee kin
open ord (O oV mB mE chk)
def lfV(v:V):Int:=if v.ends=true then 0 else v.left
def gnV(v:V):Int:=if v.ends=true then v.left else 0
def zEm(o:O)(lf gn:Int)(n:Nat):Int:=if o.kind=4∧0<lf+gn then 9 else if o.kind=5∧(lf<o.qty∨0<n) then 8 else 0
def sE(bs ss:List L)(o:O)(v:V):Int:=if 400<v.ts.length then 4 else if zEm o (lfV v) (gnV v) v.ids.length=0 then setE (repB o bs v.ls) (repS o ss v.ls) o (lfV v) else zEm o (lfV v) (gnV v) v.ids.length
theorem zHk(a b c d p q s t lf gn:Int)(u1 u2 tq iq:Option Addr)(m1 m2 tn jn k1 k2 tc ic:Nat)(w:World)(h0:0≤lf∧lf≤10000)(h1:0≤gn∧gn≤10000) :
  Calls Tryz.prog 126 #[.agg #[.int .i64 a,.int .i64 b,.int .i64 c,.int .i64 d,.int .i64 p,.int .i64 q,.int .i64 s,.int .i64 t],.agg #[.slice u1 m1 k1,.slice u2 m2 k2,.slice tq tn tc,.int .i64 lf,.int .i64 gn,.slice iq jn ic]] w fun e w'=>e=.returned (errV (zEm ⟨a,b,c,d,p,q,s,t⟩ lf gn jn))∧Below w.heap.size w w':=by
 have HB:Hid (Below w.heap.size w ((w.alloc (.cells #[.int .i64 a,.int .i64 b,.int .i64 c,.int .i64 d,.int .i64 p,.int .i64 q,.int .i64 s,.int .i64 t] 32)).alloc (.cells #[.slice u1 m1 k1,.slice u2 m2 k2,.slice tq tn tc,.int .i64 lf,.int .i64 gn,.slice iq jn ic] 191))):=((bzR _ _).alloc (nzR _) _).alloc (by simp) _
 generalize hk:zEm ⟨a,b,c,d,p,q,s,t⟩ lf gn jn=kk
 have HK:Hid ((if d=4∧0<lf+gn then 9 else if d=5∧(lf<q∨0<jn) then 8 else 0)=kk):=hk
 have E1:Hid (wrap64 (lf+gn)=lf+gn):=by show _=_;unfold wrap64;omega
 clear hk
 by_cases h4:d=4
 ·subst h4
  have x1:=E1.out
  by_cases h00:0<lf+gn
  ·have hkk:kk=9:=by rw[←HK.out,if_pos ⟨rfl,h00⟩]
   subst hkk
   clear h0 h1
   go_enter Tryz.func126,Tryz.ntmps126
   go_wp2_with fail
   go_ret
   exact⟨rfl,HB.out⟩
  ·have hkk:kk=0:=by rw[←HK.out,if_neg (fun h=>h00 h.2),if_neg (by omega)]
   subst hkk
   clear h0 h1
   go_enter Tryz.func126,Tryz.ntmps126
   go_wp2_with fail
   go_ret
   exact⟨rfl,HB.out⟩
 ·have h4b:(d == 4)=false:=by simp[h4]
  clear h0 h1 E1
  by_cases h5:d=5
  ·subst h5
   by_cases h00:lf<q
   ·have hkk:kk=8:=by rw[←HK.out,if_neg (by omega),if_pos ⟨rfl,.inl h00⟩]
    subst hkk
    go_enter Tryz.func126,Tryz.ntmps126
    go_wp2_with fail
    go_ret
    exact⟨rfl,HB.out⟩
   ·by_cases h01:0<jn
    ·have hkk:kk=8:=by rw[←HK.out,if_neg (by omega),if_pos ⟨rfl,.inr h01⟩]
     subst hkk
     have h01z:(0:Int)<(jn:Int):=by omega
     go_enter Tryz.func126,Tryz.ntmps126
     go_wp2_with fail
     go_ret
     exact⟨rfl,HB.out⟩
    ·have hkk:kk=0:=by rw[←HK.out,if_neg (by omega),if_neg (fun h=>h.2.elim h00 h01)]
     subst hkk
     have h01z:¬(0:Int)<(jn:Int):=by omega
     go_enter Tryz.func126,Tryz.ntmps126
     go_wp2_with fail
     go_ret
     exact⟨rfl,HB.out⟩
  ·have h5b:(d == 5)=false:=by simp[h5]
   have hkk:kk=0:=by rw[←HK.out,if_neg (fun h=>h4 h.1),if_neg (fun h=>h5 h.1)]
   subst hkk
   go_enter Tryz.func126,Tryz.ntmps126
   go_wp2_with fail
   go_ret
   exact⟨rfl,HB.out⟩
def SDPost(m:Int)(bs ss:List L)(o:O)(w:World)(e:Ending)(w' : World):Prop:=
 (¬zAu bs ss o=0→e=.returned (.tuple #[.agg #[.slice none 0 0,.slice none 0 0],.slice none 0 0,.int .i64 0,.slice none 0 0,errV (zAu bs ss o)]))∧
 (zAu bs ss o=0→∀v,Fine m o (zAr bs ss o) o.qty v→
  (sE bs ss o v=0→∃q1 q2 n1 n2 c1 c2 tv iv,e=.returned (.tuple #[.agg #[.slice q1 n1 c1,.slice q2 n2 c2],tv,.int .i64 (gnV v+setG o (lfV v)),iv,.nilIface])∧DL w' w.heap.size (.slice q1 n1 c1) (setB (repB o bs v.ls) o (lfV v))∧DL w' w.heap.size (.slice q2 n2 c2) (setS (repS o ss v.ls) o (lfV v))∧OwnT w' w.heap.size tv v.ts∧OwnI w' w.heap.size iv v.ids)∧
  (¬sE bs ss o v=0→e=.returned (.tuple #[.agg #[.slice none 0 0,.slice none 0 0],.slice none 0 0,.int .i64 0,.slice none 0 0,errV (sE bs ss o v)])))∧Below w.heap.size w w'
theorem zNL{w:World}{B:Nat}{x:Obj}(h:w.heap[B]?=some x):w.drew.heap[B]?=some x:=h
theorem zPS{m:Int}{bs ss:List L}{o:O}{w w' : World}{e:Ending}(h:SDPost m bs ss o w e w'):SDPost m bs ss o w e w'.drew:=by
 have hB:Below w'.heap.size w' w'.drew:=(bzR _ _).drew
 refine⟨h.1,fun hc v hv=>⟨fun h0=>?_,(h.2.1 hc v hv).2⟩,h.2.2.drew⟩
 obtain⟨q1,q2,n1,n2,c1,c2,tv,iv,e1,e2,e3,e4,e5⟩:=(h.2.1 hc v hv).1 h0
 exact⟨q1,q2,n1,n2,c1,c2,tv,iv,e1,e2.below hB,e3.below hB,OwnM.below e4 hB,OwnM.below e5 hB⟩
theorem zKX{m:Int}{o:O}{ls:List L}{k:Int}{v:V}(h:Fine m o ls k v):(∀l∈ls,lchk l=0)→0≤k→0≤v.left∧v.left≤k:=by
 induction h with
 | done h=>exact fun _ h0=>⟨h0,jY _⟩
 | stop=>exact fun _ h0=>⟨h0,jY _⟩
 | taker=>exact fun _ h0=>⟨h0,jY _⟩
 | maker _ _ _ _ _ ih=>exact fun hl h0=>ih (zBy hl) h0
 | both=>exact fun _ h0=>⟨h0,jY _⟩
 | fill h _ _ _ ih=>
  intro hl h0
  have hr:=zBg (zAg (hl _ (List.mem_cons_self ..))).2.2
  have:=ih (zBs h hl) (by omega)
  simp only[]
  omega
theorem zNM(m:Int)(hm:m=1∨m=2∨m=3)(q1 q2:Option Addr)(n1 n2 c1 c2:Nat)(bs ss:List L)(a b c d p q s t:Int)(w:World)(h1:LS w (.slice q1 n1 c1) bs)(h2:LS w (.slice q2 n2 c2) ss) :
  Calls Tryz.prog 98 #[.agg #[.slice q1 n1 c1,.slice q2 n2 c2],.agg #[.int .i64 a,.int .i64 b,.int .i64 c,.int .i64 d,.int .i64 p,.int .i64 q,.int .i64 s,.int .i64 t],.int .i64 m] w fun e w'=>SDPost m bs ss ⟨a,b,c,d,p,q,s,t⟩ w e w':=by
 obtain⟨V1,hV1⟩:∃V1,V1=w.alloc (.cells #[.slice q1 n1 c1,.slice q2 n2 c2] 46):=⟨_,rfl⟩
 have hs1:V1.heap.size=w.heap.size+1:=by rw[hV1];simp
 have hb1:Below w.heap.size w V1:=by rw[hV1];exact(bzR _ _).alloc (nzR _) _
 have hr1:V1.heap[w.heap.size]?=some (.cells #[.slice q1 n1 c1,.slice q2 n2 c2] 46 (0,0)):=by rw[hV1];exact jA w _
 obtain⟨V2,hV2⟩:∃V2,V2=V1.alloc (.cells #[.int .i64 a,.int .i64 b,.int .i64 c,.int .i64 d,.int .i64 p,.int .i64 q,.int .i64 s,.int .i64 t] 32):=⟨_,rfl⟩
 have hs2:V2.heap.size=w.heap.size+2:=by rw[hV2];simp[hs1]
 have hb2:Below V1.heap.size V1 V2:=by rw[hV2];exact(bzR _ _).alloc (nzR _) _
 have hr2:V2.heap[w.heap.size+1]?=some (.cells #[.int .i64 a,.int .i64 b,.int .i64 c,.int .i64 d,.int .i64 p,.int .i64 q,.int .i64 s,.int .i64 t] 32 (0,0)):=by rw[←hs1,hV2];exact jA V1 _
 obtain⟨V,hV⟩:∃V,V=V2.alloc (.cells #[.slice none 0 0,.slice none 0 0] 46):=⟨_,rfl⟩
 have hb3:Below V2.heap.size V2 V:=by rw[hV];exact(bzR _ _).alloc (nzR _) _
 have hr3:V.heap[w.heap.size+2]?=some (.cells #[.slice none 0 0,.slice none 0 0] 46 (0,0)):=by rw[←hs2,hV];exact jA V2 _
 have hBV:Below w.heap.size w V:=by
  have h:=hb1.trans (hb2.mono hb1.size)
  exact h.trans (hb3.mono h.size)
 have hB0:V.heap[w.heap.size]?=some (.cells #[.slice q1 n1 c1,.slice q2 n2 c2] 46 (0,0)):=by rw[hb3.block _ (by omega),hb2.block _ (by omega)];exact hr1
 have hO0:V.heap[w.heap.size+1]?=some (.cells #[.int .i64 a,.int .i64 b,.int .i64 c,.int .i64 d,.int .i64 p,.int .i64 q,.int .i64 s,.int .i64 t] 32 (0,0)):=by rw[hb3.block _ (by omega)];exact hr2
 obtain⟨P,hP⟩:∃P,P=w.heap.size+2:=⟨_,rfl⟩
 obtain⟨G,hG⟩:∃G,G=w.heap.size:=⟨_,rfl⟩
 obtain⟨Q,hQ⟩:∃Q,Q=w.heap.size+1:=⟨_,rfl⟩
 rw[←hP] at hr3
 have hPV:P<V.heap.size:=(gzE.1 hr3).1
 have HP:=hidK (show P=w.heap.size+2∧G=w.heap.size∧Q=w.heap.size+1∧P<V.heap.size from⟨hP,hG,hQ,hPV⟩)
 have HSO:Hid (∀W,Below V.heap.size V W→Below w.heap.size w W∧W.heap[P]?=some (.cells #[.slice none 0 0,.slice none 0 0] 46 (0,0))∧W.heap[G]?=some (.cells #[.slice q1 n1 c1,.slice q2 n2 c2] 46 (0,0))∧W.heap[Q]?=some (.cells #[.int .i64 a,.int .i64 b,.int .i64 c,.int .i64 d,.int .i64 p,.int .i64 q,.int .i64 s,.int .i64 t] 32 (0,0))):=fun W hW=>
  ⟨hBV.trans (hW.mono hBV.size),(hW.block P hPV).trans hr3,by rw[hG];exact(hW.block _ (by omega)).trans hB0,by rw[hQ];exact(hW.block _ (by omega)).trans hO0⟩
 have HL:Hid (LS w (.slice q1 n1 c1) bs∧LS w (.slice q2 n2 c2) ss):=⟨h1,h2⟩
 have HM:=hidK hm
 have HERR:Hid (∀W kk,Below V.heap.size V W→¬kk=0→((¬zAu bs ss ⟨a,b,c,d,p,q,s,t⟩=0∧zAu bs ss ⟨a,b,c,d,p,q,s,t⟩=kk)∨(zAu bs ss ⟨a,b,c,d,p,q,s,t⟩=0∧∃v,Fine m ⟨a,b,c,d,p,q,s,t⟩ (zAr bs ss ⟨a,b,c,d,p,q,s,t⟩) q v∧sE bs ss ⟨a,b,c,d,p,q,s,t⟩ v=kk))→SDPost m bs ss ⟨a,b,c,d,p,q,s,t⟩ w (.returned (.tuple #[.agg #[.slice none 0 0,.slice none 0 0],.slice none 0 0,.int .i64 0,.slice none 0 0,.iface 91 (.int .i64 kk)])) ((W.setCell ⟨P,0,none⟩ (.slice none 0 0)).setCell ⟨P,1,none⟩ (.slice none 0 0))∧
   ((W.setCell ⟨P,0,none⟩ (.slice none 0 0)).setCell ⟨P,1,none⟩ (.slice none 0 0)).heap[P]?=some (.cells #[.slice none 0 0,.slice none 0 0] 46 (0,0))):=fun W kk hW hk he=>by
  obtain⟨hw,hRP,-,-⟩:=HSO.out W hW
  have hgg:=zAN W P (.slice none 0 0) (.slice none 0 0)
  have hWW:=hw.grown hgg hw.size (fun k hk=>by cases hk;have:=HP.out.1;omega)
  refine⟨?_,zAw hRP _ _⟩
  rcases he with ⟨e1,e2⟩|⟨e1,v,e3,e4⟩
  ·exact⟨fun _=>by rw[e2,errV_of hk],fun h=>absurd h e1,hWW⟩
  ·refine⟨fun h=>absurd e1 h,fun _ v' hv'=>?_,hWW⟩
   have:=zBn e3 v' hv'
   subst this
   exact⟨fun h=>absurd (e4.symm.trans h) hk,fun _=>by rw[e4,errV_of hk]⟩
 have hm0:(m == 0)=false:=by rcases hm with rfl|rfl|rfl <;>rfl
 have HSP:Hid ([(m,0,3)].any zAo=false):=by
  have h:=zHT m 0 3
  have h2:decide (0≤m∧m≤3)=true:=by simp;omega
  rw[h2] at h
  exact h
 clear hs1 hs2 hb1 hb2 hb3 hr1 hr2 hr3 hB0 hO0 hBV h1 h2 hPV hm
 go_enter Tryz.func98,Tryz.ntmps98
 go_wp2_with fail
 rw[←hV1,←hV2,←hV]
 simp only[←hP]
 simp only[←hQ]
 simp only[←hG]
 clear hV1 hV2 hV hP hG hQ
 refine(zDH m V).mono ?_
 rintro e w1⟨rfl,b1⟩
 have HW1:=hidK b1
 clear b1
 go_wp2_with fail
 refine(scheck1 false _ _ _ _ _ rfl HSP.out).mono ?_
 rintro e w2⟨rfl,b2⟩
 rw[show spn.errV (zAk false)=.nilIface from rfl]
 have HW2:=hidK (HW1.out.trans (b2.mono HW1.out.size))
 clear b2 HW1
 obtain⟨hw2,-,hG2,hQ2⟩:=HSO.out w2 HW2.out
 obtain⟨g0,g1,-⟩:=zAb hG2
 obtain⟨o0,o1,o2,o3,o4,o5,o6,o7,-⟩:=rowO hQ2
 have HCO:=hidK (zNE m HM.out q1 q2 n1 n2 c1 c2 bs ss a b c d p q s t w2 (HL.out.1.below hw2) (HL.out.2.below hw2))
 clear hw2 hG2 hQ2
 go_wp2_with fail
 refine HCO.out.mono ?_
 rintro e w3⟨i1,i2,b3⟩
 have HW3:=hidK (HW2.out.trans (b3.mono HW2.out.size))
 have HB3:=hidK b3.size
 clear b3 g0 g1 o0 o1 o2 o3 o4 o5 o6 o7 HCO
 have HBAD:Hid (True):=trivial
 by_cases hC:zAu bs ss ⟨a,b,c,d,p,q,s,t⟩=0
 rotate_left
 ·have e3:=i2 hC
  subst e3
  rw[errV_of hC]
  have hBa:Below w3.heap.size w3 (w3.alloc (.cells #[.slice none 0 0,.slice none 0 0,.slice none 0 0,.int .i64 0,.int .i64 0,.slice none 0 0] 191)):=(bzR _ _).alloc (nzR _) _
  have HW4:=hidK (HW3.out.trans (hBa.mono HW3.out.size))
  obtain⟨hPO,hHX⟩:=HERR.out _ _ HW4.out hC (.inl ⟨hC,rfl⟩)
  have HPO:=hidK hPO
  have HHX:=hidK hHX
  obtain⟨-,hRP,-,-⟩:=HSO.out _ HW4.out
  obtain⟨z0,z1,zf⟩:=zAb hRP
  have zf0:=zf 0
  have zf1:=zf 1
  generalize zAu bs ss ⟨a,b,c,d,p,q,s,t⟩=kk at *
  clear i1 i2 hPO hHX HERR hRP zf hBa HSO
  go_upto_region 8 with fail
  generalize w3.alloc (.cells #[.slice none 0 0,.slice none 0 0,.slice none 0 0,.int .i64 0,.int .i64 0,.slice none 0 0] 191)=W at *
  go_wp2_with fail
  generalize ((W.setCell ⟨P,0,none⟩ (.slice none 0 0)).setCell ⟨P,1,none⟩ (.slice none 0 0))=Z at *
  obtain⟨y0,y1,-⟩:=zAb HHX.out
  exact jN (v:=.tuple #[.agg #[.slice none 0 0,.slice none 0 0],.slice none 0 0,.int .i64 0,.slice none 0 0,.iface 91 (.int .i64 kk)]) (by simp[results,Tryz.results98,go_sem,y0,y1]) rfl HPO.out
 obtain⟨hbk,hck,-,-⟩:=zAG hC
 have hqq:=zKw hck
 obtain⟨v,hv⟩:=zEg (o:=⟨a,b,c,d,p,q,s,t⟩) (k:=q) HM.out (other_good (o:=⟨a,b,c,d,p,q,s,t⟩) hbk)
 have HV:=hidK hv
 have HC:=hidK hC
 have HBK:=hidK hbk
 have hlv:=zKX hv (other_good (o:=⟨a,b,c,d,p,q,s,t⟩) hbk) (by simp only[] at hqq;omega)
 have HLV:=hidK (show (0≤lfV v∧lfV v≤10000)∧0≤gnV v∧gnV v≤10000 from by unfold lfV gnV;simp only[] at hqq;constructor <;>(split <;>omega))
 obtain⟨j1,j2⟩:=i1 hC v hv
 by_cases h4:v.ts.length≤400
 rotate_left
 ·have e3:=j2 h4
  subst e3
  have hsE:sE bs ss ⟨a,b,c,d,p,q,s,t⟩ v=4:=if_pos (by omega)
  have hBa:Below w3.heap.size w3 (w3.alloc (.cells #[.slice none 0 0,.slice none 0 0,.slice none 0 0,.int .i64 0,.int .i64 0,.slice none 0 0] 191)):=(bzR _ _).alloc (nzR _) _
  have HW4:=hidK (HW3.out.trans (hBa.mono HW3.out.size))
  obtain⟨hPO,hHX⟩:=HERR.out _ _ HW4.out (by decide) (.inr ⟨hC,v,hv,hsE⟩)
  have HPO:=hidK hPO
  have HHX:=hidK hHX
  obtain⟨-,hRP,-,-⟩:=HSO.out _ HW4.out
  obtain⟨z0,z1,zf⟩:=zAb hRP
  have zf0:=zf 0
  have zf1:=zf 1
  clear i1 i2 j1 j2 hPO hHX HERR hRP zf hBa HSO hsE hbk hck hqq hlv hv hC
  go_upto_region 8 with fail
  generalize w3.alloc (.cells #[.slice none 0 0,.slice none 0 0,.slice none 0 0,.int .i64 0,.int .i64 0,.slice none 0 0] 191)=W at *
  go_wp2_with fail
  generalize ((W.setCell ⟨P,0,none⟩ (.slice none 0 0)).setCell ⟨P,1,none⟩ (.slice none 0 0))=Z at *
  obtain⟨y0,y1,-⟩:=zAb HHX.out
  exact jN (v:=.tuple #[.agg #[.slice none 0 0,.slice none 0 0],.slice none 0 0,.int .i64 0,.slice none 0 0,.iface 91 (.int .i64 4)]) (by simp[results,Tryz.results98,go_sem,y0,y1]) rfl HPO.out
 obtain⟨u1,u2,m1,m2,k1,k2,tv,iv,lf,gn,rfl,hlf,hgn,L1,L2,OT,OI,hless⟩:=j1 h4
 have hlf2:lf=lfV v:=hlf
 have hgn2:gn=gnV v:=hgn
 obtain⟨tq,tc,htv⟩:=OwnM.form OT
 obtain⟨iq,ic,hiv⟩:=OwnM.form OI
 subst htv
 subst hiv
 have HSK:=hidK (zAf (zCj hbk hless))
 have H4:=hidK h4
 have HSE:=hidK (show sE bs ss ⟨a,b,c,d,p,q,s,t⟩ v=(if zEm ⟨a,b,c,d,p,q,s,t⟩ lf gn v.ids.length=0 then setE (repB ⟨a,b,c,d,p,q,s,t⟩ bs v.ls) (repS ⟨a,b,c,d,p,q,s,t⟩ ss v.ls) ⟨a,b,c,d,p,q,s,t⟩ lf else zEm ⟨a,b,c,d,p,q,s,t⟩ lf gn v.ids.length) from by unfold sE;rw[if_neg (by omega),←hlf2,←hgn2])
 rw[←hlf2,←hgn2] at HLV
 have HLF:=hidK (show lfV v=lf∧gnV v=gn from⟨hlf2.symm,hgn2.symm⟩)
 obtain⟨RB,hRB⟩:∃RB,repB ⟨a,b,c,d,p,q,s,t⟩ bs v.ls=RB:=⟨_,rfl⟩
 obtain⟨RS,hRS⟩:∃RS,repS ⟨a,b,c,d,p,q,s,t⟩ ss v.ls=RS:=⟨_,rfl⟩
 have HRR:=hidK (show repB ⟨a,b,c,d,p,q,s,t⟩ bs v.ls=RB∧repS ⟨a,b,c,d,p,q,s,t⟩ ss v.ls=RS from⟨hRB,hRS⟩)
 rw[hRB] at L1
 rw[hRS] at L2
 rw[hRB,hRS] at HSK HSE
 obtain⟨tn,htn⟩:∃tn,tn=v.ts.length:=⟨_,rfl⟩
 obtain⟨jn,hjn⟩:∃jn,jn=v.ids.length:=⟨_,rfl⟩
 rw[←htn] at OT
 rw[←hjn] at OI HSE
 rw[←htn,←hjn]
 have hBa:Below w3.heap.size w3 (w3.alloc (.cells #[.slice u1 m1 k1,.slice u2 m2 k2,.slice tq tn tc,.int .i64 lf,.int .i64 gn,.slice iq jn ic] 191)):=(bzR _ _).alloc (nzR _) _
 have hRV:(w3.alloc (.cells #[.slice u1 m1 k1,.slice u2 m2 k2,.slice tq tn tc,.int .i64 lf,.int .i64 gn,.slice iq jn ic] 191)).heap[w3.heap.size]?=some (.cells #[.slice u1 m1 k1,.slice u2 m2 k2,.slice tq tn tc,.int .i64 lf,.int .i64 gn,.slice iq jn ic] 191 (0,0)):=jA w3 _
 have HW4:=hidK (HW3.out.trans (hBa.mono HW3.out.size))
 have HL1:=hidK (L1.below hBa)
 have HL2:=hidK (L2.below hBa)
 have HOT:=hidK (OwnM.below OT hBa)
 have HOI:=hidK (OwnM.below OI hBa)
 have HV2:=hidK HW2.out.size
 clear i1 i2 j1 j2 L1 L2 OT OI hBa hbk hck hqq hlv hv hC hlf hgn hlf2 hgn2 hless h4 hRB hRS htn hjn
 go_upto_region 8 with fail
 generalize w3.alloc (.cells #[.slice u1 m1 k1,.slice u2 m2 k2,.slice tq tn tc,.int .i64 lf,.int .i64 gn,.slice iq jn ic] 191)=W at *
 generalize w3.heap.size=VB at *
 obtain⟨-,-,-,hQW⟩:=HSO.out W HW4.out
 obtain⟨o0,o1,o2,o3,o4,o5,o6,o7,-⟩:=rowO hQW
 obtain⟨x0,x1,x2,x3,x4,x5,-⟩:=rowV hRV
 clear hQW
 go_wp2_with fail
 refine(zHk a b c d p q s t lf gn u1 u2 tq iq m1 m2 tn jn k1 k2 tc ic W HLV.out.1 HLV.out.2).mono ?_
 rintro e w5⟨rfl,b5⟩
 have HW5:=hidK (HW4.out.trans (b5.mono HW4.out.size))
 have HL15:=hidK (HL1.out.below b5)
 have HL25:=hidK (HL2.out.below b5)
 have HOT5:=hidK (OwnM.below HOT.out b5)
 have HOI5:=hidK (OwnM.below HOI.out b5)
 have hRV5:=(b5.block VB (gzE.1 hRV).1).trans hRV
 clear b5 o0 o1 o2 o3 o4 o5 o6 o7 x0 x1 x2 x3 x4 x5 hRV HL1 HL2 HOT HOI HW4
 by_cases hF:zEm ⟨a,b,c,d,p,q,s,t⟩ lf gn jn=0
 rotate_left
 ·rw[errV_of hF]
  obtain⟨hPO,hHX⟩:=HERR.out w5 _ HW5.out hF (.inr ⟨HC.out,v,HV.out,by rw[HSE.out,if_neg hF]⟩)
  have HPO:=hidK hPO
  have HHX:=hidK hHX
  obtain⟨-,hRP,-,-⟩:=HSO.out _ HW5.out
  obtain⟨z0,z1,zf⟩:=zAb hRP
  have zf0:=zf 0
  have zf1:=zf 1
  generalize zEm ⟨a,b,c,d,p,q,s,t⟩ lf gn jn=kk at *
  clear hPO hHX HERR hRP zf HSO hRV5
  go_wp2_with fail
  generalize ((w5.setCell ⟨P,0,none⟩ (.slice none 0 0)).setCell ⟨P,1,none⟩ (.slice none 0 0))=Z at *
  obtain⟨y0,y1,-⟩:=zAb HHX.out
  exact jN (v:=.tuple #[.agg #[.slice none 0 0,.slice none 0 0],.slice none 0 0,.int .i64 0,.slice none 0 0,.iface 91 (.int .i64 kk)]) (by simp[results,Tryz.results98,go_sem,y0,y1]) rfl HPO.out
 rw[hF,errV_zero]
 have HKE:Hid (sE bs ss ⟨a,b,c,d,p,q,s,t⟩ v=setE RB RS ⟨a,b,c,d,p,q,s,t⟩ lf):=by show _=_;rw[HSE.out,if_pos hF]
 have HST:=hidK (settle_any u1 u2 m1 m2 k1 k2 RB RS a b c d p q s t lf V.heap.size w5 HL15.out HL25.out HW5.out.size HSK.out.1 HSK.out.2.1)
 obtain⟨-,-,-,hQ5⟩:=HSO.out w5 HW5.out
 obtain⟨o0,o1,o2,o3,o4,o5,o6,o7,-⟩:=rowO hQ5
 obtain⟨x0,x1,x2,x3,x4,x5,-⟩:=rowV hRV5
 clear hQ5 hF HL15 HL25
 go_wp2_with fail
 refine HST.out.mono ?_
 rintro e w6⟨r1,r2,b6⟩
 have HW6:=hidK (HW5.out.trans (b6.mono HW5.out.size))
 have HOT6:=hidK (OwnM.below HOT5.out b6)
 have HOI6:=hidK (OwnM.below HOI5.out b6)
 have hRV6:=(b6.block VB (gzE.1 hRV5).1).trans hRV5
 clear b6 o0 o1 o2 o3 o4 o5 o6 o7 x0 x1 x2 x3 x4 x5 hRV5 HST HOT5 HOI5
 by_cases hS:setE RB RS ⟨a,b,c,d,p,q,s,t⟩ lf=0
 rotate_left
 ·obtain⟨y1,y2,l1,l2,f1,f2,rfl⟩:=r2 hS
  rw[errV_of hS]
  have hBa:Below w6.heap.size w6 (w6.alloc (.cells #[.slice y1 l1 f1,.slice y2 l2 f2] 46)):=(bzR _ _).alloc (nzR _) _
  have HW7:=hidK (HW6.out.trans (hBa.mono HW6.out.size))
  obtain⟨hPO,hHX⟩:=HERR.out _ _ HW7.out hS (.inr ⟨HC.out,v,HV.out,HKE.out⟩)
  have HPO:=hidK hPO
  have HHX:=hidK hHX
  obtain⟨-,hRP,-,-⟩:=HSO.out _ HW7.out
  obtain⟨z0,z1,zf⟩:=zAb hRP
  have zf0:=zf 0
  have zf1:=zf 1
  generalize setE RB RS ⟨a,b,c,d,p,q,s,t⟩ lf=kk at *
  clear hPO hHX HERR hRP zf HSO r1 r2 hBa hRV6
  go_upto_region 14 with fail
  generalize w6.alloc (.cells #[.slice y1 l1 f1,.slice y2 l2 f2] 46)=W7 at *
  go_wp2_with fail
  generalize ((W7.setCell ⟨P,0,none⟩ (.slice none 0 0)).setCell ⟨P,1,none⟩ (.slice none 0 0))=Z at *
  obtain⟨x0,x1,-⟩:=zAb HHX.out
  exact jN (v:=.tuple #[.agg #[.slice none 0 0,.slice none 0 0],.slice none 0 0,.int .i64 0,.slice none 0 0,.iface 91 (.int .i64 kk)]) (by simp[results,Tryz.results98,go_sem,x0,x1]) rfl HPO.out
 obtain⟨y1,y2,l1,l2,f1,f2,rfl,D1,D2⟩:=r1 hS
 have hBa:Below w6.heap.size w6 (w6.alloc (.cells #[.slice y1 l1 f1,.slice y2 l2 f2] 46)):=(bzR _ _).alloc (nzR _) _
 have hRN:(w6.alloc (.cells #[.slice y1 l1 f1,.slice y2 l2 f2] 46)).heap[w6.heap.size]?=some (.cells #[.slice y1 l1 f1,.slice y2 l2 f2] 46 (0,0)):=jA w6 _
 have hRV7:=(hBa.block VB (gzE.1 hRV6).1).trans hRV6
 have HW7:=hidK (HW6.out.trans (hBa.mono HW6.out.size))
 have HD1:=hidK (D1.below hBa)
 have HD2:=hidK (D2.below hBa)
 have HOT7:=hidK (OwnM.below HOT6.out hBa)
 have HOI7:=hidK (OwnM.below HOI6.out hBa)
 clear r1 r2 D1 D2 hBa hRV6 HOT6 HOI6
 go_upto_region 14 with fail
 generalize w6.alloc (.cells #[.slice y1 l1 f1,.slice y2 l2 f2] 46)=W7 at *
 generalize w6.heap.size=NB at *
 obtain⟨hw7,hRP,-,-⟩:=HSO.out _ HW7.out
 obtain⟨z0,z1,zf⟩:=zAb hRP
 have zf0:=zf 0
 have zf1:=zf 1
 obtain⟨n0,n1',-⟩:=zAb hRN
 obtain⟨x0,x1,x2,x3,x4,x5,-⟩:=rowV hRV7
 obtain⟨GG,hGG⟩:∃GG,setG ⟨a,b,c,d,p,q,s,t⟩ lf=GG:=⟨_,rfl⟩
 have hGb:0≤GG∧GG≤10000:=by
  have h:=HLV.out
  rw[←hGG]
  unfold setG
  split <;>omega
 have E1:wrap64 (gn+GG)=gn+GG:=by have h:=HLV.out;unfold wrap64;omega
 have E1b:IntKind.i64.wrap (gn+GG)=gn+GG:=(IntWalk.i64_left _).trans E1
 have HPO:Hid (∀Z,Below W7.heap.size W7 Z→SDPost m bs ss ⟨a,b,c,d,p,q,s,t⟩ w (.returned (.tuple #[.agg #[.slice y1 l1 f1,.slice y2 l2 f2],.slice tq tn tc,.int .i64 (gn+GG),.slice iq jn ic,.nilIface])) ((Z.setCell ⟨P,0,none⟩ (.slice y1 l1 f1)).setCell ⟨P,1,none⟩ (.slice y2 l2 f2))∧((Z.setCell ⟨P,0,none⟩ (.slice y1 l1 f1)).setCell ⟨P,1,none⟩ (.slice y2 l2 f2)).heap[P]?=some (.cells #[.slice y1 l1 f1,.slice y2 l2 f2] 46 (0,0))):=fun Z hZ=>by
  have hp:=HP.out
  have hb:=HB3.out
  have hgg:=zAN Z P (.slice y1 l1 f1) (.slice y2 l2 f2)
  have hwZ:=hw7.trans (hZ.mono hw7.size)
  have hOT:=OwnM.below HOT7.out hZ
  have hOI:=OwnM.below HOI7.out hZ
  have hv2:=HV2.out
  refine⟨⟨fun h=>absurd HC.out h,fun _ v' hv'=>?_,hwZ.grown hgg hwZ.size (fun k hk=>by cases hk;omega)⟩,zAw ((hZ.block P (gzE.1 hRP).1).trans hRP) _ _⟩
  have:=zBn HV.out v' hv'
  subst this
  refine⟨fun _=>⟨_,_,_,_,_,_,_,_,by rw[HLF.out.1,HLF.out.2,hGG],?_,?_,?_,?_⟩,fun h=>absurd (HKE.out.trans hS) h⟩
  ·rw[HLF.out.1,HRR.out.1];exact((HD1.out.below hZ).other hgg (by omega)).mono (by omega)
  ·rw[HLF.out.1,HRR.out.2];exact((HD2.out.below hZ).other hgg (by omega)).mono (by omega)
  ·exact OwnM.mono (zAj hOT hgg (fun z hz e=>by cases e;have:=(OwnM.lt hOT P hz).1;omega)) (by omega)
  ·exact OwnM.mono (zAj hOI hgg (fun z hz e=>by cases e;have:=(OwnM.lt hOI P hz).1;omega)) (by omega)
 have HGG:=hidK hGG
 rw[hGG]
 clear zf hGG hRP hRN hRV7 hw7 hGb HERR HSO hS
 go_upto_region 16 with fail
 go_region
 all_goals go_wp2_with fail
 all_goals first
  | (obtain⟨hPO,hHX⟩:=HPO.out W7 (bzR _ _);obtain⟨y0',y1',-⟩:=zAb hHX;exact jN (v:=.tuple #[.agg #[.slice y1 l1 f1,.slice y2 l2 f2],.slice tq tn tc,.int .i64 (gn+GG),.slice iq jn ic,.nilIface]) (by simp[results,Tryz.results98,go_sem,y0',y1']) rfl hPO)
  | (obtain⟨hPO,hHX⟩:=HPO.out W7 (bzR _ _);obtain⟨y0',y1',-⟩:=zAb (zNL hHX);exact jN (v:=.tuple #[.agg #[.slice y1 l1 f1,.slice y2 l2 f2],.slice tq tn tc,.int .i64 (gn+GG),.slice iq jn ic,.nilIface]) (by simp[results,Tryz.results98,go_sem,y0',y1']) rfl (zPS hPO))
  | (obtain⟨hPO,hHX⟩:=HPO.out W7.drew (bzR _ _).drew;obtain⟨y0',y1',-⟩:=zAb hHX;exact jN (v:=.tuple #[.agg #[.slice y1 l1 f1,.slice y2 l2 f2],.slice tq tn tc,.int .i64 (gn+GG),.slice iq jn ic,.nilIface]) (by simp[results,Tryz.results98,go_sem,y0',y1']) rfl hPO)
def SZPost(bs ss:List L)(o:O)(w:World)(e:Ending)(w' : World):Prop:=
 (kdoE bs ss o=0→∃q1 q2 n1 n2 c1 c2 tv,e=.returned (.tuple #[.agg #[.slice q1 n1 c1,.slice q2 n2 c2],tv,.int .i64 (kdoG bs ss o),.slice none 0 0,.nilIface])∧DL w' w.heap.size (.slice q1 n1 c1) (kdoB bs ss o)∧DL w' w.heap.size (.slice q2 n2 c2) (kdoS bs ss o)∧OwnT w' w.heap.size tv (metR bs ss o).2.1)∧
 (¬kdoE bs ss o=0→e=.returned (.tuple #[.agg #[.slice none 0 0,.slice none 0 0],.slice none 0 0,.int .i64 0,.slice none 0 0,errV (kdoE bs ss o)]))∧Below w.heap.size w w'
theorem zNN(q1 q2:Option Addr)(n1 n2 c1 c2:Nat)(bs ss:List L)(a b c d p q s t:Int)(w:World)(h1:LS w (.slice q1 n1 c1) bs)(h2:LS w (.slice q2 n2 c2) ss) :
  Calls Tryz.prog 98 #[.agg #[.slice q1 n1 c1,.slice q2 n2 c2],.agg #[.int .i64 a,.int .i64 b,.int .i64 c,.int .i64 d,.int .i64 p,.int .i64 q,.int .i64 s,.int .i64 t],.int .i64 0] w fun e w'=>SZPost bs ss ⟨a,b,c,d,p,q,s,t⟩ w e w':=by
 obtain⟨V1,hV1⟩:∃V1,V1=w.alloc (.cells #[.slice q1 n1 c1,.slice q2 n2 c2] 46):=⟨_,rfl⟩
 have hs1:V1.heap.size=w.heap.size+1:=by rw[hV1];simp
 have hb1:Below w.heap.size w V1:=by rw[hV1];exact(bzR _ _).alloc (nzR _) _
 have hr1:V1.heap[w.heap.size]?=some (.cells #[.slice q1 n1 c1,.slice q2 n2 c2] 46 (0,0)):=by rw[hV1];exact jA w _
 obtain⟨V2,hV2⟩:∃V2,V2=V1.alloc (.cells #[.int .i64 a,.int .i64 b,.int .i64 c,.int .i64 d,.int .i64 p,.int .i64 q,.int .i64 s,.int .i64 t] 32):=⟨_,rfl⟩
 have hs2:V2.heap.size=w.heap.size+2:=by rw[hV2];simp[hs1]
 have hb2:Below V1.heap.size V1 V2:=by rw[hV2];exact(bzR _ _).alloc (nzR _) _
 have hr2:V2.heap[w.heap.size+1]?=some (.cells #[.int .i64 a,.int .i64 b,.int .i64 c,.int .i64 d,.int .i64 p,.int .i64 q,.int .i64 s,.int .i64 t] 32 (0,0)):=by rw[←hs1,hV2];exact jA V1 _
 obtain⟨V,hV⟩:∃V,V=V2.alloc (.cells #[.slice none 0 0,.slice none 0 0] 46):=⟨_,rfl⟩
 have hb3:Below V2.heap.size V2 V:=by rw[hV];exact(bzR _ _).alloc (nzR _) _
 have hr3:V.heap[w.heap.size+2]?=some (.cells #[.slice none 0 0,.slice none 0 0] 46 (0,0)):=by rw[←hs2,hV];exact jA V2 _
 have hBV:Below w.heap.size w V:=by
  have h:=hb1.trans (hb2.mono hb1.size)
  exact h.trans (hb3.mono h.size)
 have hB0:V.heap[w.heap.size]?=some (.cells #[.slice q1 n1 c1,.slice q2 n2 c2] 46 (0,0)):=by rw[hb3.block _ (by omega),hb2.block _ (by omega)];exact hr1
 have hO0:V.heap[w.heap.size+1]?=some (.cells #[.int .i64 a,.int .i64 b,.int .i64 c,.int .i64 d,.int .i64 p,.int .i64 q,.int .i64 s,.int .i64 t] 32 (0,0)):=by rw[hb3.block _ (by omega)];exact hr2
 obtain⟨P,hP⟩:∃P,P=w.heap.size+2:=⟨_,rfl⟩
 obtain⟨G,hG⟩:∃G,G=w.heap.size:=⟨_,rfl⟩
 obtain⟨Q,hQ⟩:∃Q,Q=w.heap.size+1:=⟨_,rfl⟩
 rw[←hP] at hr3
 have hPV:P<V.heap.size:=(gzE.1 hr3).1
 have HP:=hidK (show P=w.heap.size+2∧G=w.heap.size∧Q=w.heap.size+1∧P<V.heap.size from⟨hP,hG,hQ,hPV⟩)
 have HSO:Hid (∀W,Below V.heap.size V W→Below w.heap.size w W∧W.heap[P]?=some (.cells #[.slice none 0 0,.slice none 0 0] 46 (0,0))∧W.heap[G]?=some (.cells #[.slice q1 n1 c1,.slice q2 n2 c2] 46 (0,0))∧W.heap[Q]?=some (.cells #[.int .i64 a,.int .i64 b,.int .i64 c,.int .i64 d,.int .i64 p,.int .i64 q,.int .i64 s,.int .i64 t] 32 (0,0))):=fun W hW=>
  ⟨hBV.trans (hW.mono hBV.size),(hW.block P hPV).trans hr3,by rw[hG];exact(hW.block _ (by omega)).trans hB0,by rw[hQ];exact(hW.block _ (by omega)).trans hO0⟩
 have HL:Hid (LS w (.slice q1 n1 c1) bs∧LS w (.slice q2 n2 c2) ss):=⟨h1,h2⟩
 have HSP:Hid ([((0:Int),0,3)].any zAo=false):=rfl
 clear hs1 hs2 hb1 hb2 hb3 hr1 hr2 hr3 hB0 hO0 hBV h1 h2 hPV
 go_enter Tryz.func98,Tryz.ntmps98
 go_wp2_with fail
 rw[←hV1,←hV2,←hV]
 simp only[←hP]
 simp only[←hQ]
 simp only[←hG]
 clear hV1 hV2 hV hP hG hQ
 refine(zDH 0 V).mono ?_
 rintro e w1⟨rfl,b1⟩
 have HW1:=hidK b1
 clear b1
 go_wp2_with fail
 refine(scheck1 false _ _ _ _ _ rfl HSP.out).mono ?_
 rintro e w2⟨rfl,b2⟩
 rw[show spn.errV (zAk false)=.nilIface from rfl]
 have HW2:=hidK (HW1.out.trans (b2.mono HW1.out.size))
 clear b2 HW1
 obtain⟨hw2,-,hG2,hQ2⟩:=HSO.out w2 HW2.out
 obtain⟨g0,g1,-⟩:=zAb hG2
 obtain⟨o0,o1,o2,o3,o4,o5,o6,o7,-⟩:=rowO hQ2
 have HKD:=hidK (zPR q1 q2 n1 n2 c1 c2 bs ss a b c d p q s t w2 (HL.out.1.below hw2) (HL.out.2.below hw2))
 have HV2:=hidK HW2.out.size
 clear hw2 hG2 hQ2
 go_wp2_with fail
 refine HKD.out.mono ?_
 rintro e w3⟨i1,i2,b3⟩
 have HW3:=hidK (HW2.out.trans (b3.mono HW2.out.size))
 clear b3 g0 g1 o0 o1 o2 o3 o4 o5 o6 o7 HKD
 have HEND:Hid (∀y1 y2 l1 l2 f1 f2 W,Below w3.heap.size w3 W→W.heap[w3.heap.size]?=some (.cells #[.slice y1 l1 f1,.slice y2 l2 f2] 46 (0,0))→Below w.heap.size w ((W.setCell ⟨P,0,none⟩ (.slice y1 l1 f1)).setCell ⟨P,1,none⟩ (.slice y2 l2 f2))∧W.grownBy ((W.setCell ⟨P,0,none⟩ (.slice y1 l1 f1)).setCell ⟨P,1,none⟩ (.slice y2 l2 f2)) (some P)∧((W.setCell ⟨P,0,none⟩ (.slice y1 l1 f1)).setCell ⟨P,1,none⟩ (.slice y2 l2 f2)).heap[P]?=some (.cells #[.slice y1 l1 f1,.slice y2 l2 f2] 46 (0,0))):=fun y1 y2 l1 l2 f1 f2 W hW _=>by
  obtain⟨hw,hRP,-,-⟩:=HSO.out W (HW3.out.trans (hW.mono HW3.out.size))
  have hgg:=zAN W P (.slice y1 l1 f1) (.slice y2 l2 f2)
  exact⟨hw.grown hgg hw.size (fun k hk=>by cases hk;have:=HP.out;omega),hgg,zAw hRP _ _⟩
 by_cases hK:kdoE bs ss ⟨a,b,c,d,p,q,s,t⟩=0
 ·obtain⟨y1,y2,l1,l2,f1,f2,tv,rfl,D1,D2,OT⟩:=i1 hK
  obtain⟨tq,tc,htv⟩:=OwnM.form OT
  subst htv
  obtain⟨tn,htn⟩:∃tn,tn=(metR bs ss ⟨a,b,c,d,p,q,s,t⟩).2.1.length:=⟨_,rfl⟩
  obtain⟨GG,hGG⟩:∃GG,GG=kdoG bs ss ⟨a,b,c,d,p,q,s,t⟩:=⟨_,rfl⟩
  rw[←htn] at OT
  rw[←htn,←hGG]
  have hBa:Below w3.heap.size w3 (w3.alloc (.cells #[.slice y1 l1 f1,.slice y2 l2 f2] 46)):=(bzR _ _).alloc (nzR _) _
  have hRN:(w3.alloc (.cells #[.slice y1 l1 f1,.slice y2 l2 f2] 46)).heap[w3.heap.size]?=some (.cells #[.slice y1 l1 f1,.slice y2 l2 f2] 46 (0,0)):=jA w3 _
  obtain⟨hBF,hgg,hHX⟩:=HEND.out y1 y2 l1 l2 f1 f2 _ hBa hRN
  have hp:=HP.out
  have hv2:=HV2.out
  have hOT:=OwnM.below OT hBa
  have HPO:=hidK (show SZPost bs ss ⟨a,b,c,d,p,q,s,t⟩ w (.returned (.tuple #[.agg #[.slice y1 l1 f1,.slice y2 l2 f2],.slice tq tn tc,.int .i64 GG,.slice none 0 0,.nilIface])) (((w3.alloc (.cells #[.slice y1 l1 f1,.slice y2 l2 f2] 46)).setCell ⟨P,0,none⟩ (.slice y1 l1 f1)).setCell ⟨P,1,none⟩ (.slice y2 l2 f2)) from
   ⟨fun _=>⟨_,_,_,_,_,_,_,by rw[hGG],((D1.below hBa).other hgg (by omega)).mono (by omega),((D2.below hBa).other hgg (by omega)).mono (by omega),OwnM.mono (zAj hOT hgg (fun z hz e=>by cases e;have:=(OwnM.lt hOT P hz).1;omega)) (by omega)⟩,fun h=>absurd hK h,hBF⟩)
  have HHX:=hidK hHX
  obtain⟨-,hRP,-,-⟩:=HSO.out _ (HW3.out.trans (hBa.mono HW3.out.size))
  obtain⟨z0,z1,zf⟩:=zAb hRP
  have zf0:=zf 0
  have zf1:=zf 1
  obtain⟨n0,n1',-⟩:=zAb hRN
  clear zf hRP hRN hHX hgg hBF hBa hOT D1 D2 OT i1 i2 HEND HSO hp hv2 htn hGG hK
  go_upto_region 6 with fail
  generalize w3.alloc (.cells #[.slice y1 l1 f1,.slice y2 l2 f2] 46)=W7 at *
  generalize w3.heap.size=NB at *
  go_wp2_with fail
  generalize ((W7.setCell ⟨P,0,none⟩ (.slice y1 l1 f1)).setCell ⟨P,1,none⟩ (.slice y2 l2 f2))=Z at *
  obtain⟨x0,x1,-⟩:=zAb HHX.out
  exact jN (v:=.tuple #[.agg #[.slice y1 l1 f1,.slice y2 l2 f2],.slice tq tn tc,.int .i64 GG,.slice none 0 0,.nilIface]) (by simp[results,Tryz.results98,go_sem,x0,x1]) rfl HPO.out
 ·have e3:=i2 hK
  subst e3
  rw[errV_of hK]
  have hBa:Below w3.heap.size w3 (w3.alloc (.cells #[.slice none 0 0,.slice none 0 0] 46)):=(bzR _ _).alloc (nzR _) _
  have hRN:(w3.alloc (.cells #[.slice none 0 0,.slice none 0 0] 46)).heap[w3.heap.size]?=some (.cells #[.slice none 0 0,.slice none 0 0] 46 (0,0)):=jA w3 _
  obtain⟨hBF,hgg,hHX⟩:=HEND.out none none 0 0 0 0 _ hBa hRN
  have HPO:=hidK (show SZPost bs ss ⟨a,b,c,d,p,q,s,t⟩ w (.returned (.tuple #[.agg #[.slice none 0 0,.slice none 0 0],.slice none 0 0,.int .i64 0,.slice none 0 0,.iface 91 (.int .i64 (kdoE bs ss ⟨a,b,c,d,p,q,s,t⟩))])) (((w3.alloc (.cells #[.slice none 0 0,.slice none 0 0] 46)).setCell ⟨P,0,none⟩ (.slice none 0 0)).setCell ⟨P,1,none⟩ (.slice none 0 0)) from
   ⟨fun h=>absurd h hK,fun _=>by rw[errV_of hK],hBF⟩)
  have HHX:=hidK hHX
  obtain⟨-,hRP,-,-⟩:=HSO.out _ (HW3.out.trans (hBa.mono HW3.out.size))
  obtain⟨z0,z1,zf⟩:=zAb hRP
  have zf0:=zf 0
  have zf1:=zf 1
  obtain⟨n0,n1',-⟩:=zAb hRN
  generalize kdoE bs ss ⟨a,b,c,d,p,q,s,t⟩=kk at *
  clear zf hRP hRN hHX hgg hBF hBa i1 i2 HEND HSO hK
  go_upto_region 6 with fail
  generalize w3.alloc (.cells #[.slice none 0 0,.slice none 0 0] 46)=W7 at *
  generalize w3.heap.size=NB at *
  go_wp2_with fail
  generalize ((W7.setCell ⟨P,0,none⟩ (.slice none 0 0)).setCell ⟨P,1,none⟩ (.slice none 0 0))=Z at *
  obtain⟨x0,x1,-⟩:=zAb HHX.out
  exact jN (v:=.tuple #[.agg #[.slice none 0 0,.slice none 0 0],.slice none 0 0,.int .i64 0,.slice none 0 0,.iface 91 (.int .i64 kk)]) (by simp[results,Tryz.results98,go_sem,x0,x1]) rfl HPO.out
end slf
end Go.Proofs.YtifjhlgjgnnnpaaGreat
