import Derived.Test.YtifjhlgjgnnnpaaGreatBokPut
import Derived.Test.YtifjhlgjgnnnpaaGreatKinDo
import Derived.Test.YtifjhlgjgnnnpaaGreatMeeDo
import Derived.Test.YtifjhlgjgnnnpaaGreatQueFil
set_option maxHeartbeats 8000000
set_option maxRecDepth 100000
namespace Go.Proofs.YtifjhlgjgnnnpaaGreat
namespace slf
open Go.RowKit spn que sid bok mee kin
open ord (O oV mB mE chk)
def lfV(v:V):Int:=if v.ends=true then 0 else v.left
def gnV(v:V):Int:=if v.ends=true then v.left else 0
def srefE(o:O)(lf gn:Int)(n:Nat):Int:=if o.kind=4∧0<lf+gn then 9 else if o.kind=5∧(lf<o.qty∨0<n) then 8 else 0
def sE(bs ss:List L)(o:O)(v:V):Int:=if 400<v.ts.length then 4 else if srefE o (lfV v) (gnV v) v.ids.length=0 then setE (repB o bs v.ls) (repS o ss v.ls) o (lfV v) else srefE o (lfV v) (gnV v) v.ids.length
theorem zFL(a b c d p q s t lf gn:Int)(u1 u2 tq iq:Option Addr)(m1 m2 tn jn k1 k2 tc ic:Nat)(w:World)(h0:0≤lf∧lf≤10000)(h1:0≤gn∧gn≤10000) :
  Calls Tryz.prog 126 #[.agg #[.int .i64 a,.int .i64 b,.int .i64 c,.int .i64 d,.int .i64 p,.int .i64 q,.int .i64 s,.int .i64 t],.agg #[.slice u1 m1 k1,.slice u2 m2 k2,.slice tq tn tc,.int .i64 lf,.int .i64 gn,.slice iq jn ic]] w fun e w'=>e=.returned (errV (srefE ⟨a,b,c,d,p,q,s,t⟩ lf gn jn))∧Below w.heap.size w w':=by
 have HB:Hid (Below w.heap.size w ((w.alloc (.cells #[.int .i64 a,.int .i64 b,.int .i64 c,.int .i64 d,.int .i64 p,.int .i64 q,.int .i64 s,.int .i64 t] 32)).alloc (.cells #[.slice u1 m1 k1,.slice u2 m2 k2,.slice tq tn tc,.int .i64 lf,.int .i64 gn,.slice iq jn ic] 191))):=((bzR _ _).alloc (nzR _) _).alloc (by simp) _
 generalize hk:srefE ⟨a,b,c,d,p,q,s,t⟩ lf gn jn=kk
 have HK:Hid ((if d=4∧0<lf+gn then 9 else if d=5∧(lf<q∨0<jn) then 8 else 0)=kk):=hk
 have E1:Hid (wrap64 (lf+gn)=lf+gn):=by show _=_;unfold wrap64;omega
 clear hk
 by_cases h4:d=4
 ·subst h4
  have x1:=E1.out
  by_cases h00:0<lf+gn
  ·have hkk:kk=9:=by rw[←HK.out,if_pos ⟨rfl,h00⟩]
   subst hkk
   clear h0 h1
   go_enter Tryz.func126,Tryz.ntmps126
   go_wp2_with fail
   go_ret
   exact⟨rfl,HB.out⟩
  ·have hkk:kk=0:=by rw[←HK.out,if_neg (fun h=>h00 h.2),if_neg (by omega)]
   subst hkk
   clear h0 h1
   go_enter Tryz.func126,Tryz.ntmps126
   go_wp2_with fail
   go_ret
   exact⟨rfl,HB.out⟩
 ·have h4b:(d == 4)=false:=by simp[h4]
  clear h0 h1 E1
  by_cases h5:d=5
  ·subst h5
   by_cases h00:lf<q
   ·have hkk:kk=8:=by rw[←HK.out,if_neg (by omega),if_pos ⟨rfl,.inl h00⟩]
    subst hkk
    go_enter Tryz.func126,Tryz.ntmps126
    go_wp2_with fail
    go_ret
    exact⟨rfl,HB.out⟩
   ·by_cases h01:0<jn
    ·have hkk:kk=8:=by rw[←HK.out,if_neg (by omega),if_pos ⟨rfl,.inr h01⟩]
     subst hkk
     have h01z:(0:Int)<(jn:Int):=by omega
     go_enter Tryz.func126,Tryz.ntmps126
     go_wp2_with fail
     go_ret
     exact⟨rfl,HB.out⟩
    ·have hkk:kk=0:=by rw[←HK.out,if_neg (by omega),if_neg (fun h=>h.2.elim h00 h01)]
     subst hkk
     have h01z:¬(0:Int)<(jn:Int):=by omega
     go_enter Tryz.func126,Tryz.ntmps126
     go_wp2_with fail
     go_ret
     exact⟨rfl,HB.out⟩
  ·have h5b:(d == 5)=false:=by simp[h5]
   have hkk:kk=0:=by rw[←HK.out,if_neg (fun h=>h4 h.1),if_neg (fun h=>h5 h.1)]
   subst hkk
   go_enter Tryz.func126,Tryz.ntmps126
   go_wp2_with fail
   go_ret
   exact⟨rfl,HB.out⟩
def SDPost(m:Int)(bs ss:List L)(o:O)(w:World)(e:Ending)(w' : World):Prop:=
 (¬comeE bs ss o=0→e=.returned (.tuple #[.agg #[.slice none 0 0,.slice none 0 0],.slice none 0 0,.int .i64 0,.slice none 0 0,errV (comeE bs ss o)]))∧
 (comeE bs ss o=0→∀v,Fine m o (otherL bs ss o) o.qty v→
  (sE bs ss o v=0→∃q1 q2 n1 n2 c1 c2 tv iv,e=.returned (.tuple #[.agg #[.slice q1 n1 c1,.slice q2 n2 c2],tv,.int .i64 (gnV v+setG o (lfV v)),iv,.nilIface])∧DL w' w.heap.size (.slice q1 n1 c1) (setB (repB o bs v.ls) o (lfV v))∧DL w' w.heap.size (.slice q2 n2 c2) (setS (repS o ss v.ls) o (lfV v))∧OwnT w' w.heap.size tv v.ts∧OwnI w' w.heap.size iv v.ids)∧
  (¬sE bs ss o v=0→e=.returned (.tuple #[.agg #[.slice none 0 0,.slice none 0 0],.slice none 0 0,.int .i64 0,.slice none 0 0,errV (sE bs ss o v)])))∧Below w.heap.size w w'
theorem zME{w:World}{B:Nat}{x:Obj}(h:w.heap[B]?=some x):w.drew.heap[B]?=some x:=h
theorem sd_drew{m:Int}{bs ss:List L}{o:O}{w w' : World}{e:Ending}(h:SDPost m bs ss o w e w'):SDPost m bs ss o w e w'.drew:=by
 have hB:Below w'.heap.size w' w'.drew:=(bzR _ _).drew
 refine⟨h.1,fun hc v hv=>⟨fun h0=>?_,(h.2.1 hc v hv).2⟩,h.2.2.drew⟩
 obtain⟨q1,q2,n1,n2,c1,c2,tv,iv,e1,e2,e3,e4,e5⟩:=(h.2.1 hc v hv).1 h0
 exact⟨q1,q2,n1,n2,c1,c2,tv,iv,e1,e2.below hB,e3.below hB,OwnM.below e4 hB,OwnM.below e5 hB⟩
theorem zJL{m:Int}{o:O}{ls:List L}{k:Int}{v:V}(h:Fine m o ls k v):(∀l∈ls,lchk l=0)→0≤k→0≤v.left∧v.left≤k:=by
 induction h with
 | done h=>exact fun _ h0=>⟨h0,Int.le_refl _⟩
 | stop=>exact fun _ h0=>⟨h0,Int.le_refl _⟩
 | taker=>exact fun _ h0=>⟨h0,Int.le_refl _⟩
 | maker _ _ _ _ _ ih=>exact fun hl h0=>ih (zAM hl) h0
 | both=>exact fun _ h0=>⟨h0,Int.le_refl _⟩
 | fill h _ _ _ ih=>
  intro hl h0
  have hr:=zAG (zAc (hl _ (List.mem_cons_self ..))).2.2
  have:=ih (zAL h hl) (by omega)
  simp only[]
  omega
theorem zMF(m:Int)(hm:m=1∨m=2∨m=3)(q1 q2:Option Addr)(n1 n2 c1 c2:Nat)(bs ss:List L)(a b c d p q s t:Int)(w:World)(h1:LS w (.slice q1 n1 c1) bs)(h2:LS w (.slice q2 n2 c2) ss) :
  Calls Tryz.prog 98 #[.agg #[.slice q1 n1 c1,.slice q2 n2 c2],.agg #[.int .i64 a,.int .i64 b,.int .i64 c,.int .i64 d,.int .i64 p,.int .i64 q,.int .i64 s,.int .i64 t],.int .i64 m] w fun e w'=>SDPost m bs ss ⟨a,b,c,d,p,q,s,t⟩ w e w':=by
 obtain⟨V1,hV1⟩:∃V1,V1=w.alloc (.cells #[.slice q1 n1 c1,.slice q2 n2 c2] 46):=⟨_,rfl⟩
 have hs1:V1.heap.size=w.heap.size+1:=by rw[hV1];simp
 have hb1:Below w.heap.size w V1:=by rw[hV1];exact(bzR _ _).alloc (nzR _) _
 have hr1:V1.heap[w.heap.size]?=some (.cells #[.slice q1 n1 c1,.slice q2 n2 c2] 46 (0,0)):=by rw[hV1];exact heap_alloc_new w _
 obtain⟨V2,hV2⟩:∃V2,V2=V1.alloc (.cells #[.int .i64 a,.int .i64 b,.int .i64 c,.int .i64 d,.int .i64 p,.int .i64 q,.int .i64 s,.int .i64 t] 32):=⟨_,rfl⟩
 have hs2:V2.heap.size=w.heap.size+2:=by rw[hV2];simp[hs1]
 have hb2:Below V1.heap.size V1 V2:=by rw[hV2];exact(bzR _ _).alloc (nzR _) _
 have hr2:V2.heap[w.heap.size+1]?=some (.cells #[.int .i64 a,.int .i64 b,.int .i64 c,.int .i64 d,.int .i64 p,.int .i64 q,.int .i64 s,.int .i64 t] 32 (0,0)):=by rw[←hs1,hV2];exact heap_alloc_new V1 _
 obtain⟨V,hV⟩:∃V,V=V2.alloc (.cells #[.slice none 0 0,.slice none 0 0] 46):=⟨_,rfl⟩
 have hb3:Below V2.heap.size V2 V:=by rw[hV];exact(bzR _ _).alloc (nzR _) _
 have hr3:V.heap[w.heap.size+2]?=some (.cells #[.slice none 0 0,.slice none 0 0] 46 (0,0)):=by rw[←hs2,hV];exact heap_alloc_new V2 _
 have hBV:Below w.heap.size w V:=by
  have h:=hb1.trans (hb2.mono hb1.size)
  exact h.trans (hb3.mono h.size)
 have hB0:V.heap[w.heap.size]?=some (.cells #[.slice q1 n1 c1,.slice q2 n2 c2] 46 (0,0)):=by rw[hb3.block _ (by omega),hb2.block _ (by omega)];exact hr1
 have hO0:V.heap[w.heap.size+1]?=some (.cells #[.int .i64 a,.int .i64 b,.int .i64 c,.int .i64 d,.int .i64 p,.int .i64 q,.int .i64 s,.int .i64 t] 32 (0,0)):=by rw[hb3.block _ (by omega)];exact hr2
 obtain⟨P,hP⟩:∃P,P=w.heap.size+2:=⟨_,rfl⟩
 obtain⟨G,hG⟩:∃G,G=w.heap.size:=⟨_,rfl⟩
 obtain⟨Q,hQ⟩:∃Q,Q=w.heap.size+1:=⟨_,rfl⟩
 rw[←hP] at hr3
 have hPV:P<V.heap.size:=(gzE.1 hr3).1
 have HP:=hidK (show P=w.heap.size+2∧G=w.heap.size∧Q=w.heap.size+1∧P<V.heap.size from⟨hP,hG,hQ,hPV⟩)
 have HSO:Hid (∀W,Below V.heap.size V W→Below w.heap.size w W∧W.heap[P]?=some (.cells #[.slice none 0 0,.slice none 0 0] 46 (0,0))∧W.heap[G]?=some (.cells #[.slice q1 n1 c1,.slice q2 n2 c2] 46 (0,0))∧W.heap[Q]?=some (.cells #[.int .i64 a,.int .i64 b,.int .i64 c,.int .i64 d,.int .i64 p,.int .i64 q,.int .i64 s,.int .i64 t] 32 (0,0))):=fun W hW=>
  ⟨hBV.trans (hW.mono hBV.size),(hW.block P hPV).trans hr3,by rw[hG];exact(hW.block _ (by omega)).trans hB0,by rw[hQ];exact(hW.block _ (by omega)).trans hO0⟩
 have HL:Hid (LS w (.slice q1 n1 c1) bs∧LS w (.slice q2 n2 c2) ss):=⟨h1,h2⟩
 have HM:=hidK hm
 have HERR:Hid (∀W kk,Below V.heap.size V W→¬kk=0→((¬comeE bs ss ⟨a,b,c,d,p,q,s,t⟩=0∧comeE bs ss ⟨a,b,c,d,p,q,s,t⟩=kk)∨(comeE bs ss ⟨a,b,c,d,p,q,s,t⟩=0∧∃v,Fine m ⟨a,b,c,d,p,q,s,t⟩ (otherL bs ss ⟨a,b,c,d,p,q,s,t⟩) q v∧sE bs ss ⟨a,b,c,d,p,q,s,t⟩ v=kk))→SDPost m bs ss ⟨a,b,c,d,p,q,s,t⟩ w (.returned (.tuple #[.agg #[.slice none 0 0,.slice none 0 0],.slice none 0 0,.int .i64 0,.slice none 0 0,.iface 91 (.int .i64 kk)])) ((W.setCell ⟨P,0,none⟩ (.slice none 0 0)).setCell ⟨P,1,none⟩ (.slice none 0 0))∧
   ((W.setCell ⟨P,0,none⟩ (.slice none 0 0)).setCell ⟨P,1,none⟩ (.slice none 0 0)).heap[P]?=some (.cells #[.slice none 0 0,.slice none 0 0] 46 (0,0))):=fun W kk hW hk he=>by
  obtain⟨hw,hRP,-,-⟩:=HSO.out W hW
  have hgg:=grTwo W P (.slice none 0 0) (.slice none 0 0)
  have hWW:=hw.grown hgg hw.size (fun k hk=>by cases hk;have:=HP.out.1;omega)
  refine⟨?_,setTwo hRP _ _⟩
  rcases he with ⟨e1,e2⟩|⟨e1,v,e3,e4⟩
  ·exact⟨fun _=>by rw[e2,errV_of hk],fun h=>absurd h e1,hWW⟩
  ·refine⟨fun h=>absurd e1 h,fun _ v' hv'=>?_,hWW⟩
   have:=zAI e3 v' hv'
   subst this
   exact⟨fun h=>absurd (e4.symm.trans h) hk,fun _=>by rw[e4,errV_of hk]⟩
 have hm0:(m == 0)=false:=by rcases hm with rfl|rfl|rfl <;>rfl
 have HSP:Hid ([(m,0,3)].any spanB=false):=by
  have h:=zGx m 0 3
  have h2:decide (0≤m∧m≤3)=true:=by simp;omega
  rw[h2] at h
  exact h
 clear hs1 hs2 hb1 hb2 hb3 hr1 hr2 hr3 hB0 hO0 hBV h1 h2 hPV hm
 go_enter Tryz.func98,Tryz.ntmps98
 go_wp2_with fail
 rw[←hV1,←hV2,←hV]
 simp only[←hP]
 simp only[←hQ]
 simp only[←hG]
 clear hV1 hV2 hV hP hG hQ
 refine(zCp m V).mono ?_
 rintro e w1⟨rfl,b1⟩
 have HW1:=hidK b1
 clear b1
 go_wp2_with fail
 refine(scheck1 false _ _ _ _ _ rfl HSP.out).mono ?_
 rintro e w2⟨rfl,b2⟩
 rw[show spn.errV (rangeE false)=.nilIface from rfl]
 have HW2:=hidK (HW1.out.trans (b2.mono HW1.out.size))
 clear b2 HW1
 obtain⟨hw2,-,hG2,hQ2⟩:=HSO.out w2 HW2.out
 obtain⟨g0,g1,-⟩:=rowTwo hG2
 obtain⟨o0,o1,o2,o3,o4,o5,o6,o7,-⟩:=rowO hQ2
 have HCO:=hidK (zMx m HM.out q1 q2 n1 n2 c1 c2 bs ss a b c d p q s t w2 (HL.out.1.below hw2) (HL.out.2.below hw2))
 clear hw2 hG2 hQ2
 go_wp2_with fail
 refine HCO.out.mono ?_
 rintro e w3⟨i1,i2,b3⟩
 have HW3:=hidK (HW2.out.trans (b3.mono HW2.out.size))
 have HB3:=hidK b3.size
 clear b3 g0 g1 o0 o1 o2 o3 o4 o5 o6 o7 HCO
 have HBAD:Hid (True):=trivial
 by_cases hC:comeE bs ss ⟨a,b,c,d,p,q,s,t⟩=0
 rotate_left
 ·have e3:=i2 hC
  subst e3
  rw[errV_of hC]
  have hBa:Below w3.heap.size w3 (w3.alloc (.cells #[.slice none 0 0,.slice none 0 0,.slice none 0 0,.int .i64 0,.int .i64 0,.slice none 0 0] 191)):=(bzR _ _).alloc (nzR _) _
  have HW4:=hidK (HW3.out.trans (hBa.mono HW3.out.size))
  obtain⟨hPO,hHX⟩:=HERR.out _ _ HW4.out hC (.inl ⟨hC,rfl⟩)
  have HPO:=hidK hPO
  have HHX:=hidK hHX
  obtain⟨-,hRP,-,-⟩:=HSO.out _ HW4.out
  obtain⟨z0,z1,zf⟩:=rowTwo hRP
  have zf0:=zf 0
  have zf1:=zf 1
  generalize comeE bs ss ⟨a,b,c,d,p,q,s,t⟩=kk at *
  clear i1 i2 hPO hHX HERR hRP zf hBa HSO
  go_upto_region 8 with fail
  generalize w3.alloc (.cells #[.slice none 0 0,.slice none 0 0,.slice none 0 0,.int .i64 0,.int .i64 0,.slice none 0 0] 191)=W at *
  go_wp2_with fail
  generalize ((W.setCell ⟨P,0,none⟩ (.slice none 0 0)).setCell ⟨P,1,none⟩ (.slice none 0 0))=Z at *
  obtain⟨y0,y1,-⟩:=rowTwo HHX.out
  exact bodyPost_ret (v:=.tuple #[.agg #[.slice none 0 0,.slice none 0 0],.slice none 0 0,.int .i64 0,.slice none 0 0,.iface 91 (.int .i64 kk)]) (by simp[results,Tryz.results98,go_sem,y0,y1]) rfl HPO.out
 obtain⟨hbk,hck,-,-⟩:=zAp hC
 have hqq:=zJl hck
 obtain⟨v,hv⟩:=zCO (o:=⟨a,b,c,d,p,q,s,t⟩) (k:=q) HM.out (other_good (o:=⟨a,b,c,d,p,q,s,t⟩) hbk)
 have HV:=hidK hv
 have HC:=hidK hC
 have HBK:=hidK hbk
 have hlv:=zJL hv (other_good (o:=⟨a,b,c,d,p,q,s,t⟩) hbk) (by simp only[] at hqq;omega)
 have HLV:=hidK (show (0≤lfV v∧lfV v≤10000)∧0≤gnV v∧gnV v≤10000 from by unfold lfV gnV;simp only[] at hqq;constructor <;>(split <;>omega))
 obtain⟨j1,j2⟩:=i1 hC v hv
 by_cases h4:v.ts.length≤400
 rotate_left
 ·have e3:=j2 h4
  subst e3
  have hsE:sE bs ss ⟨a,b,c,d,p,q,s,t⟩ v=4:=if_pos (by omega)
  have hBa:Below w3.heap.size w3 (w3.alloc (.cells #[.slice none 0 0,.slice none 0 0,.slice none 0 0,.int .i64 0,.int .i64 0,.slice none 0 0] 191)):=(bzR _ _).alloc (nzR _) _
  have HW4:=hidK (HW3.out.trans (hBa.mono HW3.out.size))
  obtain⟨hPO,hHX⟩:=HERR.out _ _ HW4.out (by decide) (.inr ⟨hC,v,hv,hsE⟩)
  have HPO:=hidK hPO
  have HHX:=hidK hHX
  obtain⟨-,hRP,-,-⟩:=HSO.out _ HW4.out
  obtain⟨z0,z1,zf⟩:=rowTwo hRP
  have zf0:=zf 0
  have zf1:=zf 1
  clear i1 i2 j1 j2 hPO hHX HERR hRP zf hBa HSO hsE hbk hck hqq hlv hv hC
  go_upto_region 8 with fail
  generalize w3.alloc (.cells #[.slice none 0 0,.slice none 0 0,.slice none 0 0,.int .i64 0,.int .i64 0,.slice none 0 0] 191)=W at *
  go_wp2_with fail
  generalize ((W.setCell ⟨P,0,none⟩ (.slice none 0 0)).setCell ⟨P,1,none⟩ (.slice none 0 0))=Z at *
  obtain⟨y0,y1,-⟩:=rowTwo HHX.out
  exact bodyPost_ret (v:=.tuple #[.agg #[.slice none 0 0,.slice none 0 0],.slice none 0 0,.int .i64 0,.slice none 0 0,.iface 91 (.int .i64 4)]) (by simp[results,Tryz.results98,go_sem,y0,y1]) rfl HPO.out
 obtain⟨u1,u2,m1,m2,k1,k2,tv,iv,lf,gn,rfl,hlf,hgn,L1,L2,OT,OI,hless⟩:=j1 h4
 have hlf2:lf=lfV v:=hlf
 have hgn2:gn=gnV v:=hgn
 obtain⟨tq,tc,htv⟩:=OwnM.form OT
 obtain⟨iq,ic,hiv⟩:=OwnM.form OI
 subst htv
 subst hiv
 have HSK:=hidK (zAb (zBd hbk hless))
 have H4:=hidK h4
 have HSE:=hidK (show sE bs ss ⟨a,b,c,d,p,q,s,t⟩ v=(if srefE ⟨a,b,c,d,p,q,s,t⟩ lf gn v.ids.length=0 then setE (repB ⟨a,b,c,d,p,q,s,t⟩ bs v.ls) (repS ⟨a,b,c,d,p,q,s,t⟩ ss v.ls) ⟨a,b,c,d,p,q,s,t⟩ lf else srefE ⟨a,b,c,d,p,q,s,t⟩ lf gn v.ids.length) from by unfold sE;rw[if_neg (by omega),←hlf2,←hgn2])
 rw[←hlf2,←hgn2] at HLV
 have HLF:=hidK (show lfV v=lf∧gnV v=gn from⟨hlf2.symm,hgn2.symm⟩)
 obtain⟨RB,hRB⟩:∃RB,repB ⟨a,b,c,d,p,q,s,t⟩ bs v.ls=RB:=⟨_,rfl⟩
 obtain⟨RS,hRS⟩:∃RS,repS ⟨a,b,c,d,p,q,s,t⟩ ss v.ls=RS:=⟨_,rfl⟩
 have HRR:=hidK (show repB ⟨a,b,c,d,p,q,s,t⟩ bs v.ls=RB∧repS ⟨a,b,c,d,p,q,s,t⟩ ss v.ls=RS from⟨hRB,hRS⟩)
 rw[hRB] at L1
 rw[hRS] at L2
 rw[hRB,hRS] at HSK HSE
 obtain⟨tn,htn⟩:∃tn,tn=v.ts.length:=⟨_,rfl⟩
 obtain⟨jn,hjn⟩:∃jn,jn=v.ids.length:=⟨_,rfl⟩
 rw[←htn] at OT
 rw[←hjn] at OI HSE
 rw[←htn,←hjn]
 have hBa:Below w3.heap.size w3 (w3.alloc (.cells #[.slice u1 m1 k1,.slice u2 m2 k2,.slice tq tn tc,.int .i64 lf,.int .i64 gn,.slice iq jn ic] 191)):=(bzR _ _).alloc (nzR _) _
 have hRV:(w3.alloc (.cells #[.slice u1 m1 k1,.slice u2 m2 k2,.slice tq tn tc,.int .i64 lf,.int .i64 gn,.slice iq jn ic] 191)).heap[w3.heap.size]?=some (.cells #[.slice u1 m1 k1,.slice u2 m2 k2,.slice tq tn tc,.int .i64 lf,.int .i64 gn,.slice iq jn ic] 191 (0,0)):=heap_alloc_new w3 _
 have HW4:=hidK (HW3.out.trans (hBa.mono HW3.out.size))
 have HL1:=hidK (L1.below hBa)
 have HL2:=hidK (L2.below hBa)
 have HOT:=hidK (OwnM.below OT hBa)
 have HOI:=hidK (OwnM.below OI hBa)
 have HV2:=hidK HW2.out.size
 clear i1 i2 j1 j2 L1 L2 OT OI hBa hbk hck hqq hlv hv hC hlf hgn hlf2 hgn2 hless h4 hRB hRS htn hjn
 go_upto_region 8 with fail
 generalize w3.alloc (.cells #[.slice u1 m1 k1,.slice u2 m2 k2,.slice tq tn tc,.int .i64 lf,.int .i64 gn,.slice iq jn ic] 191)=W at *
 generalize w3.heap.size=VB at *
 obtain⟨-,-,-,hQW⟩:=HSO.out W HW4.out
 obtain⟨o0,o1,o2,o3,o4,o5,o6,o7,-⟩:=rowO hQW
 obtain⟨x0,x1,x2,x3,x4,x5,-⟩:=rowV hRV
 clear hQW
 go_wp2_with fail
 refine(zFL a b c d p q s t lf gn u1 u2 tq iq m1 m2 tn jn k1 k2 tc ic W HLV.out.1 HLV.out.2).mono ?_
 rintro e w5⟨rfl,b5⟩
 have HW5:=hidK (HW4.out.trans (b5.mono HW4.out.size))
 have HL15:=hidK (HL1.out.below b5)
 have HL25:=hidK (HL2.out.below b5)
 have HOT5:=hidK (OwnM.below HOT.out b5)
 have HOI5:=hidK (OwnM.below HOI.out b5)
 have hRV5:=(b5.block VB (gzE.1 hRV).1).trans hRV
 clear b5 o0 o1 o2 o3 o4 o5 o6 o7 x0 x1 x2 x3 x4 x5 hRV HL1 HL2 HOT HOI HW4
 by_cases hF:srefE ⟨a,b,c,d,p,q,s,t⟩ lf gn jn=0
 rotate_left
 ·rw[errV_of hF]
  obtain⟨hPO,hHX⟩:=HERR.out w5 _ HW5.out hF (.inr ⟨HC.out,v,HV.out,by rw[HSE.out,if_neg hF]⟩)
  have HPO:=hidK hPO
  have HHX:=hidK hHX
  obtain⟨-,hRP,-,-⟩:=HSO.out _ HW5.out
  obtain⟨z0,z1,zf⟩:=rowTwo hRP
  have zf0:=zf 0
  have zf1:=zf 1
  generalize srefE ⟨a,b,c,d,p,q,s,t⟩ lf gn jn=kk at *
  clear hPO hHX HERR hRP zf HSO hRV5
  go_wp2_with fail
  generalize ((w5.setCell ⟨P,0,none⟩ (.slice none 0 0)).setCell ⟨P,1,none⟩ (.slice none 0 0))=Z at *
  obtain⟨y0,y1,-⟩:=rowTwo HHX.out
  exact bodyPost_ret (v:=.tuple #[.agg #[.slice none 0 0,.slice none 0 0],.slice none 0 0,.int .i64 0,.slice none 0 0,.iface 91 (.int .i64 kk)]) (by simp[results,Tryz.results98,go_sem,y0,y1]) rfl HPO.out
 rw[hF,errV_zero]
 have HKE:Hid (sE bs ss ⟨a,b,c,d,p,q,s,t⟩ v=setE RB RS ⟨a,b,c,d,p,q,s,t⟩ lf):=by show _=_;rw[HSE.out,if_pos hF]
 have HST:=hidK (settle_any u1 u2 m1 m2 k1 k2 RB RS a b c d p q s t lf V.heap.size w5 HL15.out HL25.out HW5.out.size HSK.out.1 HSK.out.2.1)
 obtain⟨-,-,-,hQ5⟩:=HSO.out w5 HW5.out
 obtain⟨o0,o1,o2,o3,o4,o5,o6,o7,-⟩:=rowO hQ5
 obtain⟨x0,x1,x2,x3,x4,x5,-⟩:=rowV hRV5
 clear hQ5 hF HL15 HL25
 go_wp2_with fail
 refine HST.out.mono ?_
 rintro e w6⟨r1,r2,b6⟩
 have HW6:=hidK (HW5.out.trans (b6.mono HW5.out.size))
 have HOT6:=hidK (OwnM.below HOT5.out b6)
 have HOI6:=hidK (OwnM.below HOI5.out b6)
 have hRV6:=(b6.block VB (gzE.1 hRV5).1).trans hRV5
 clear b6 o0 o1 o2 o3 o4 o5 o6 o7 x0 x1 x2 x3 x4 x5 hRV5 HST HOT5 HOI5
 by_cases hS:setE RB RS ⟨a,b,c,d,p,q,s,t⟩ lf=0
 rotate_left
 ·obtain⟨y1,y2,l1,l2,f1,f2,rfl⟩:=r2 hS
  rw[errV_of hS]
  have hBa:Below w6.heap.size w6 (w6.alloc (.cells #[.slice y1 l1 f1,.slice y2 l2 f2] 46)):=(bzR _ _).alloc (nzR _) _
  have HW7:=hidK (HW6.out.trans (hBa.mono HW6.out.size))
  obtain⟨hPO,hHX⟩:=HERR.out _ _ HW7.out hS (.inr ⟨HC.out,v,HV.out,HKE.out⟩)
  have HPO:=hidK hPO
  have HHX:=hidK hHX
  obtain⟨-,hRP,-,-⟩:=HSO.out _ HW7.out
  obtain⟨z0,z1,zf⟩:=rowTwo hRP
  have zf0:=zf 0
  have zf1:=zf 1
  generalize setE RB RS ⟨a,b,c,d,p,q,s,t⟩ lf=kk at *
  clear hPO hHX HERR hRP zf HSO r1 r2 hBa hRV6
  go_upto_region 14 with fail
  generalize w6.alloc (.cells #[.slice y1 l1 f1,.slice y2 l2 f2] 46)=W7 at *
  go_wp2_with fail
  generalize ((W7.setCell ⟨P,0,none⟩ (.slice none 0 0)).setCell ⟨P,1,none⟩ (.slice none 0 0))=Z at *
  obtain⟨x0,x1,-⟩:=rowTwo HHX.out
  exact bodyPost_ret (v:=.tuple #[.agg #[.slice none 0 0,.slice none 0 0],.slice none 0 0,.int .i64 0,.slice none 0 0,.iface 91 (.int .i64 kk)]) (by simp[results,Tryz.results98,go_sem,x0,x1]) rfl HPO.out
 obtain⟨y1,y2,l1,l2,f1,f2,rfl,D1,D2⟩:=r1 hS
 have hBa:Below w6.heap.size w6 (w6.alloc (.cells #[.slice y1 l1 f1,.slice y2 l2 f2] 46)):=(bzR _ _).alloc (nzR _) _
 have hRN:(w6.alloc (.cells #[.slice y1 l1 f1,.slice y2 l2 f2] 46)).heap[w6.heap.size]?=some (.cells #[.slice y1 l1 f1,.slice y2 l2 f2] 46 (0,0)):=heap_alloc_new w6 _
 have hRV7:=(hBa.block VB (gzE.1 hRV6).1).trans hRV6
 have HW7:=hidK (HW6.out.trans (hBa.mono HW6.out.size))
 have HD1:=hidK (D1.below hBa)
 have HD2:=hidK (D2.below hBa)
 have HOT7:=hidK (OwnM.below HOT6.out hBa)
 have HOI7:=hidK (OwnM.below HOI6.out hBa)
 clear r1 r2 D1 D2 hBa hRV6 HOT6 HOI6
 go_upto_region 14 with fail
 generalize w6.alloc (.cells #[.slice y1 l1 f1,.slice y2 l2 f2] 46)=W7 at *
 generalize w6.heap.size=NB at *
 obtain⟨hw7,hRP,-,-⟩:=HSO.out _ HW7.out
 obtain⟨z0,z1,zf⟩:=rowTwo hRP
 have zf0:=zf 0
 have zf1:=zf 1
 obtain⟨n0,n1',-⟩:=rowTwo hRN
 obtain⟨x0,x1,x2,x3,x4,x5,-⟩:=rowV hRV7
 obtain⟨GG,hGG⟩:∃GG,setG ⟨a,b,c,d,p,q,s,t⟩ lf=GG:=⟨_,rfl⟩
 have hGb:0≤GG∧GG≤10000:=by
  have h:=HLV.out
  rw[←hGG]
  unfold setG
  split <;>omega
 have E1:wrap64 (gn+GG)=gn+GG:=by have h:=HLV.out;unfold wrap64;omega
 have E1b:IntKind.i64.wrap (gn+GG)=gn+GG:=(IntWalk.i64_left _).trans E1
 have HPO:Hid (∀Z,Below W7.heap.size W7 Z→SDPost m bs ss ⟨a,b,c,d,p,q,s,t⟩ w (.returned (.tuple #[.agg #[.slice y1 l1 f1,.slice y2 l2 f2],.slice tq tn tc,.int .i64 (gn+GG),.slice iq jn ic,.nilIface])) ((Z.setCell ⟨P,0,none⟩ (.slice y1 l1 f1)).setCell ⟨P,1,none⟩ (.slice y2 l2 f2))∧((Z.setCell ⟨P,0,none⟩ (.slice y1 l1 f1)).setCell ⟨P,1,none⟩ (.slice y2 l2 f2)).heap[P]?=some (.cells #[.slice y1 l1 f1,.slice y2 l2 f2] 46 (0,0))):=fun Z hZ=>by
  have hp:=HP.out
  have hb:=HB3.out
  have hgg:=grTwo Z P (.slice y1 l1 f1) (.slice y2 l2 f2)
  have hwZ:=hw7.trans (hZ.mono hw7.size)
  have hOT:=OwnM.below HOT7.out hZ
  have hOI:=OwnM.below HOI7.out hZ
  have hv2:=HV2.out
  refine⟨⟨fun h=>absurd HC.out h,fun _ v' hv'=>?_,hwZ.grown hgg hwZ.size (fun k hk=>by cases hk;omega)⟩,setTwo ((hZ.block P (gzE.1 hRP).1).trans hRP) _ _⟩
  have:=zAI HV.out v' hv'
  subst this
  refine⟨fun _=>⟨_,_,_,_,_,_,_,_,by rw[HLF.out.1,HLF.out.2,hGG],?_,?_,?_,?_⟩,fun h=>absurd (HKE.out.trans hS) h⟩
  ·rw[HLF.out.1,HRR.out.1];exact((HD1.out.below hZ).other hgg (by omega)).mono (by omega)
  ·rw[HLF.out.1,HRR.out.2];exact((HD2.out.below hZ).other hgg (by omega)).mono (by omega)
  ·exact OwnM.mono (zAe hOT hgg (fun z hz e=>by cases e;have:=(OwnM.lt hOT P hz).1;omega)) (by omega)
  ·exact OwnM.mono (zAe hOI hgg (fun z hz e=>by cases e;have:=(OwnM.lt hOI P hz).1;omega)) (by omega)
 have HGG:=hidK hGG
 rw[hGG]
 clear zf hGG hRP hRN hRV7 hw7 hGb HERR HSO hS
 go_upto_region 16 with fail
 go_region
 all_goals go_wp2_with fail
 all_goals first
  | (obtain⟨hPO,hHX⟩:=HPO.out W7 (bzR _ _);obtain⟨y0',y1',-⟩:=rowTwo hHX;exact bodyPost_ret (v:=.tuple #[.agg #[.slice y1 l1 f1,.slice y2 l2 f2],.slice tq tn tc,.int .i64 (gn+GG),.slice iq jn ic,.nilIface]) (by simp[results,Tryz.results98,go_sem,y0',y1']) rfl hPO)
  | (obtain⟨hPO,hHX⟩:=HPO.out W7 (bzR _ _);obtain⟨y0',y1',-⟩:=rowTwo (zME hHX);exact bodyPost_ret (v:=.tuple #[.agg #[.slice y1 l1 f1,.slice y2 l2 f2],.slice tq tn tc,.int .i64 (gn+GG),.slice iq jn ic,.nilIface]) (by simp[results,Tryz.results98,go_sem,y0',y1']) rfl (sd_drew hPO))
  | (obtain⟨hPO,hHX⟩:=HPO.out W7.drew (bzR _ _).drew;obtain⟨y0',y1',-⟩:=rowTwo hHX;exact bodyPost_ret (v:=.tuple #[.agg #[.slice y1 l1 f1,.slice y2 l2 f2],.slice tq tn tc,.int .i64 (gn+GG),.slice iq jn ic,.nilIface]) (by simp[results,Tryz.results98,go_sem,y0',y1']) rfl hPO)
def SZPost(bs ss:List L)(o:O)(w:World)(e:Ending)(w' : World):Prop:=
 (kdoE bs ss o=0→∃q1 q2 n1 n2 c1 c2 tv,e=.returned (.tuple #[.agg #[.slice q1 n1 c1,.slice q2 n2 c2],tv,.int .i64 (kdoG bs ss o),.slice none 0 0,.nilIface])∧DL w' w.heap.size (.slice q1 n1 c1) (kdoB bs ss o)∧DL w' w.heap.size (.slice q2 n2 c2) (kdoS bs ss o)∧OwnT w' w.heap.size tv (metR bs ss o).2.1)∧
 (¬kdoE bs ss o=0→e=.returned (.tuple #[.agg #[.slice none 0 0,.slice none 0 0],.slice none 0 0,.int .i64 0,.slice none 0 0,errV (kdoE bs ss o)]))∧Below w.heap.size w w'
theorem zMG(q1 q2:Option Addr)(n1 n2 c1 c2:Nat)(bs ss:List L)(a b c d p q s t:Int)(w:World)(h1:LS w (.slice q1 n1 c1) bs)(h2:LS w (.slice q2 n2 c2) ss) :
  Calls Tryz.prog 98 #[.agg #[.slice q1 n1 c1,.slice q2 n2 c2],.agg #[.int .i64 a,.int .i64 b,.int .i64 c,.int .i64 d,.int .i64 p,.int .i64 q,.int .i64 s,.int .i64 t],.int .i64 0] w fun e w'=>SZPost bs ss ⟨a,b,c,d,p,q,s,t⟩ w e w':=by
 obtain⟨V1,hV1⟩:∃V1,V1=w.alloc (.cells #[.slice q1 n1 c1,.slice q2 n2 c2] 46):=⟨_,rfl⟩
 have hs1:V1.heap.size=w.heap.size+1:=by rw[hV1];simp
 have hb1:Below w.heap.size w V1:=by rw[hV1];exact(bzR _ _).alloc (nzR _) _
 have hr1:V1.heap[w.heap.size]?=some (.cells #[.slice q1 n1 c1,.slice q2 n2 c2] 46 (0,0)):=by rw[hV1];exact heap_alloc_new w _
 obtain⟨V2,hV2⟩:∃V2,V2=V1.alloc (.cells #[.int .i64 a,.int .i64 b,.int .i64 c,.int .i64 d,.int .i64 p,.int .i64 q,.int .i64 s,.int .i64 t] 32):=⟨_,rfl⟩
 have hs2:V2.heap.size=w.heap.size+2:=by rw[hV2];simp[hs1]
 have hb2:Below V1.heap.size V1 V2:=by rw[hV2];exact(bzR _ _).alloc (nzR _) _
 have hr2:V2.heap[w.heap.size+1]?=some (.cells #[.int .i64 a,.int .i64 b,.int .i64 c,.int .i64 d,.int .i64 p,.int .i64 q,.int .i64 s,.int .i64 t] 32 (0,0)):=by rw[←hs1,hV2];exact heap_alloc_new V1 _
 obtain⟨V,hV⟩:∃V,V=V2.alloc (.cells #[.slice none 0 0,.slice none 0 0] 46):=⟨_,rfl⟩
 have hb3:Below V2.heap.size V2 V:=by rw[hV];exact(bzR _ _).alloc (nzR _) _
 have hr3:V.heap[w.heap.size+2]?=some (.cells #[.slice none 0 0,.slice none 0 0] 46 (0,0)):=by rw[←hs2,hV];exact heap_alloc_new V2 _
 have hBV:Below w.heap.size w V:=by
  have h:=hb1.trans (hb2.mono hb1.size)
  exact h.trans (hb3.mono h.size)
 have hB0:V.heap[w.heap.size]?=some (.cells #[.slice q1 n1 c1,.slice q2 n2 c2] 46 (0,0)):=by rw[hb3.block _ (by omega),hb2.block _ (by omega)];exact hr1
 have hO0:V.heap[w.heap.size+1]?=some (.cells #[.int .i64 a,.int .i64 b,.int .i64 c,.int .i64 d,.int .i64 p,.int .i64 q,.int .i64 s,.int .i64 t] 32 (0,0)):=by rw[hb3.block _ (by omega)];exact hr2
 obtain⟨P,hP⟩:∃P,P=w.heap.size+2:=⟨_,rfl⟩
 obtain⟨G,hG⟩:∃G,G=w.heap.size:=⟨_,rfl⟩
 obtain⟨Q,hQ⟩:∃Q,Q=w.heap.size+1:=⟨_,rfl⟩
 rw[←hP] at hr3
 have hPV:P<V.heap.size:=(gzE.1 hr3).1
 have HP:=hidK (show P=w.heap.size+2∧G=w.heap.size∧Q=w.heap.size+1∧P<V.heap.size from⟨hP,hG,hQ,hPV⟩)
 have HSO:Hid (∀W,Below V.heap.size V W→Below w.heap.size w W∧W.heap[P]?=some (.cells #[.slice none 0 0,.slice none 0 0] 46 (0,0))∧W.heap[G]?=some (.cells #[.slice q1 n1 c1,.slice q2 n2 c2] 46 (0,0))∧W.heap[Q]?=some (.cells #[.int .i64 a,.int .i64 b,.int .i64 c,.int .i64 d,.int .i64 p,.int .i64 q,.int .i64 s,.int .i64 t] 32 (0,0))):=fun W hW=>
  ⟨hBV.trans (hW.mono hBV.size),(hW.block P hPV).trans hr3,by rw[hG];exact(hW.block _ (by omega)).trans hB0,by rw[hQ];exact(hW.block _ (by omega)).trans hO0⟩
 have HL:Hid (LS w (.slice q1 n1 c1) bs∧LS w (.slice q2 n2 c2) ss):=⟨h1,h2⟩
 have HSP:Hid ([((0:Int),0,3)].any spanB=false):=rfl
 clear hs1 hs2 hb1 hb2 hb3 hr1 hr2 hr3 hB0 hO0 hBV h1 h2 hPV
 go_enter Tryz.func98,Tryz.ntmps98
 go_wp2_with fail
 rw[←hV1,←hV2,←hV]
 simp only[←hP]
 simp only[←hQ]
 simp only[←hG]
 clear hV1 hV2 hV hP hG hQ
 refine(zCp 0 V).mono ?_
 rintro e w1⟨rfl,b1⟩
 have HW1:=hidK b1
 clear b1
 go_wp2_with fail
 refine(scheck1 false _ _ _ _ _ rfl HSP.out).mono ?_
 rintro e w2⟨rfl,b2⟩
 rw[show spn.errV (rangeE false)=.nilIface from rfl]
 have HW2:=hidK (HW1.out.trans (b2.mono HW1.out.size))
 clear b2 HW1
 obtain⟨hw2,-,hG2,hQ2⟩:=HSO.out w2 HW2.out
 obtain⟨g0,g1,-⟩:=rowTwo hG2
 obtain⟨o0,o1,o2,o3,o4,o5,o6,o7,-⟩:=rowO hQ2
 have HKD:=hidK (zJK q1 q2 n1 n2 c1 c2 bs ss a b c d p q s t w2 (HL.out.1.below hw2) (HL.out.2.below hw2))
 have HV2:=hidK HW2.out.size
 clear hw2 hG2 hQ2
 go_wp2_with fail
 refine HKD.out.mono ?_
 rintro e w3⟨i1,i2,b3⟩
 have HW3:=hidK (HW2.out.trans (b3.mono HW2.out.size))
 clear b3 g0 g1 o0 o1 o2 o3 o4 o5 o6 o7 HKD
 have HEND:Hid (∀y1 y2 l1 l2 f1 f2 W,Below w3.heap.size w3 W→W.heap[w3.heap.size]?=some (.cells #[.slice y1 l1 f1,.slice y2 l2 f2] 46 (0,0))→Below w.heap.size w ((W.setCell ⟨P,0,none⟩ (.slice y1 l1 f1)).setCell ⟨P,1,none⟩ (.slice y2 l2 f2))∧W.grownBy ((W.setCell ⟨P,0,none⟩ (.slice y1 l1 f1)).setCell ⟨P,1,none⟩ (.slice y2 l2 f2)) (some P)∧((W.setCell ⟨P,0,none⟩ (.slice y1 l1 f1)).setCell ⟨P,1,none⟩ (.slice y2 l2 f2)).heap[P]?=some (.cells #[.slice y1 l1 f1,.slice y2 l2 f2] 46 (0,0))):=fun y1 y2 l1 l2 f1 f2 W hW _=>by
  obtain⟨hw,hRP,-,-⟩:=HSO.out W (HW3.out.trans (hW.mono HW3.out.size))
  have hgg:=grTwo W P (.slice y1 l1 f1) (.slice y2 l2 f2)
  exact⟨hw.grown hgg hw.size (fun k hk=>by cases hk;have:=HP.out;omega),hgg,setTwo hRP _ _⟩
 by_cases hK:kdoE bs ss ⟨a,b,c,d,p,q,s,t⟩=0
 ·obtain⟨y1,y2,l1,l2,f1,f2,tv,rfl,D1,D2,OT⟩:=i1 hK
  obtain⟨tq,tc,htv⟩:=OwnM.form OT
  subst htv
  obtain⟨tn,htn⟩:∃tn,tn=(metR bs ss ⟨a,b,c,d,p,q,s,t⟩).2.1.length:=⟨_,rfl⟩
  obtain⟨GG,hGG⟩:∃GG,GG=kdoG bs ss ⟨a,b,c,d,p,q,s,t⟩:=⟨_,rfl⟩
  rw[←htn] at OT
  rw[←htn,←hGG]
  have hBa:Below w3.heap.size w3 (w3.alloc (.cells #[.slice y1 l1 f1,.slice y2 l2 f2] 46)):=(bzR _ _).alloc (nzR _) _
  have hRN:(w3.alloc (.cells #[.slice y1 l1 f1,.slice y2 l2 f2] 46)).heap[w3.heap.size]?=some (.cells #[.slice y1 l1 f1,.slice y2 l2 f2] 46 (0,0)):=heap_alloc_new w3 _
  obtain⟨hBF,hgg,hHX⟩:=HEND.out y1 y2 l1 l2 f1 f2 _ hBa hRN
  have hp:=HP.out
  have hv2:=HV2.out
  have hOT:=OwnM.below OT hBa
  have HPO:=hidK (show SZPost bs ss ⟨a,b,c,d,p,q,s,t⟩ w (.returned (.tuple #[.agg #[.slice y1 l1 f1,.slice y2 l2 f2],.slice tq tn tc,.int .i64 GG,.slice none 0 0,.nilIface])) (((w3.alloc (.cells #[.slice y1 l1 f1,.slice y2 l2 f2] 46)).setCell ⟨P,0,none⟩ (.slice y1 l1 f1)).setCell ⟨P,1,none⟩ (.slice y2 l2 f2)) from
   ⟨fun _=>⟨_,_,_,_,_,_,_,by rw[hGG],((D1.below hBa).other hgg (by omega)).mono (by omega),((D2.below hBa).other hgg (by omega)).mono (by omega),OwnM.mono (zAe hOT hgg (fun z hz e=>by cases e;have:=(OwnM.lt hOT P hz).1;omega)) (by omega)⟩,fun h=>absurd hK h,hBF⟩)
  have HHX:=hidK hHX
  obtain⟨-,hRP,-,-⟩:=HSO.out _ (HW3.out.trans (hBa.mono HW3.out.size))
  obtain⟨z0,z1,zf⟩:=rowTwo hRP
  have zf0:=zf 0
  have zf1:=zf 1
  obtain⟨n0,n1',-⟩:=rowTwo hRN
  clear zf hRP hRN hHX hgg hBF hBa hOT D1 D2 OT i1 i2 HEND HSO hp hv2 htn hGG hK
  go_upto_region 6 with fail
  generalize w3.alloc (.cells #[.slice y1 l1 f1,.slice y2 l2 f2] 46)=W7 at *
  generalize w3.heap.size=NB at *
  go_wp2_with fail
  generalize ((W7.setCell ⟨P,0,none⟩ (.slice y1 l1 f1)).setCell ⟨P,1,none⟩ (.slice y2 l2 f2))=Z at *
  obtain⟨x0,x1,-⟩:=rowTwo HHX.out
  exact bodyPost_ret (v:=.tuple #[.agg #[.slice y1 l1 f1,.slice y2 l2 f2],.slice tq tn tc,.int .i64 GG,.slice none 0 0,.nilIface]) (by simp[results,Tryz.results98,go_sem,x0,x1]) rfl HPO.out
 ·have e3:=i2 hK
  subst e3
  rw[errV_of hK]
  have hBa:Below w3.heap.size w3 (w3.alloc (.cells #[.slice none 0 0,.slice none 0 0] 46)):=(bzR _ _).alloc (nzR _) _
  have hRN:(w3.alloc (.cells #[.slice none 0 0,.slice none 0 0] 46)).heap[w3.heap.size]?=some (.cells #[.slice none 0 0,.slice none 0 0] 46 (0,0)):=heap_alloc_new w3 _
  obtain⟨hBF,hgg,hHX⟩:=HEND.out none none 0 0 0 0 _ hBa hRN
  have HPO:=hidK (show SZPost bs ss ⟨a,b,c,d,p,q,s,t⟩ w (.returned (.tuple #[.agg #[.slice none 0 0,.slice none 0 0],.slice none 0 0,.int .i64 0,.slice none 0 0,.iface 91 (.int .i64 (kdoE bs ss ⟨a,b,c,d,p,q,s,t⟩))])) (((w3.alloc (.cells #[.slice none 0 0,.slice none 0 0] 46)).setCell ⟨P,0,none⟩ (.slice none 0 0)).setCell ⟨P,1,none⟩ (.slice none 0 0)) from
   ⟨fun h=>absurd h hK,fun _=>by rw[errV_of hK],hBF⟩)
  have HHX:=hidK hHX
  obtain⟨-,hRP,-,-⟩:=HSO.out _ (HW3.out.trans (hBa.mono HW3.out.size))
  obtain⟨z0,z1,zf⟩:=rowTwo hRP
  have zf0:=zf 0
  have zf1:=zf 1
  obtain⟨n0,n1',-⟩:=rowTwo hRN
  generalize kdoE bs ss ⟨a,b,c,d,p,q,s,t⟩=kk at *
  clear zf hRP hRN hHX hgg hBF hBa i1 i2 HEND HSO hK
  go_upto_region 6 with fail
  generalize w3.alloc (.cells #[.slice none 0 0,.slice none 0 0] 46)=W7 at *
  generalize w3.heap.size=NB at *
  go_wp2_with fail
  generalize ((W7.setCell ⟨P,0,none⟩ (.slice none 0 0)).setCell ⟨P,1,none⟩ (.slice none 0 0))=Z at *
  obtain⟨x0,x1,-⟩:=rowTwo HHX.out
  exact bodyPost_ret (v:=.tuple #[.agg #[.slice none 0 0,.slice none 0 0],.slice none 0 0,.int .i64 0,.slice none 0 0,.iface 91 (.int .i64 kk)]) (by simp[results,Tryz.results98,go_sem,x0,x1]) rfl HPO.out
end slf
namespace swp
open Go.RowKit spn que sid bok
theorem hidW{P:Prop}(h:P):Hid P:=h
def setL(ls:List L)(i k:Nat)(r:R):List L:=ls.set i ⟨ls[i]!.price,ls[i]!.rests.set k r⟩
def kB(s:Int)(bs:List L)(i k:Nat)(r:R):List L:=if s=1 then setL bs i k r else bs
def kS(s:Int)(ss:List L)(i k:Nat)(r:R):List L:=if s=1 then ss else setL ss i k r
def cB(s:Int)(bs:List L)(i k:Nat):List L:=if s=1 then dropL bs i k else bs
def cS(s:Int)(ss:List L)(i k:Nat):List L:=if s=1 then ss else dropL ss i k
structure Spot (bs ss:List L) (id s:Int) (ls:List L) (i k:Nat):Prop where
 h0:bookE bs ss=0
 hi:i<ls.length
 hk:k<ls[i].rests.length
 hr:ls[i].rests[k].id=id
 side:(s=1∧ls=bs∧findE 1 bs id=0∧findP 1 bs id=((i:Int),(k:Int)))∨(s=2∧ls=ss∧findE 1 bs id=5∧findE 2 ss id=0∧findP 2 ss id=((i:Int),(k:Int)))
theorem spot_of{bs ss:List L}{id:Int}(h0:bookE bs ss=0)(hin:inBook bs ss id=true):∃s ls i k,Spot bs ss id s ls i k:=by
 obtain⟨e1,e2,-⟩:=zAb h0
 by_cases hb:id∈ids bs
 ·obtain⟨-,i,k,hi,hk,hr,hp⟩:=zBL (zBs e1 hb)
  exact⟨1,bs,i,k,h0,hi,hk,hr,.inl ⟨rfl,rfl,zBs e1 hb,hp⟩⟩
 ·have hs:id∈ids ss:=by
   unfold inBook at hin
   simpa [hb] using hin
  obtain⟨-,i,k,hi,hk,hr,hp⟩:=zBL (zBs e2 hs)
  exact⟨2,ss,i,k,h0,hi,hk,hr,.inr ⟨rfl,rfl,zAF e1 hb,zBs e2 hs,hp⟩⟩
theorem Spot.sides{bs ss:List L}{id s:Int}{ls:List L}{i k:Nat}(h:Spot bs ss id s ls i k):schk s ls=0:=by
 obtain⟨e1,e2,-⟩:=zAb h.h0
 rcases h.side with ⟨rfl,rfl,-⟩|⟨rfl,rfl,-⟩
 ·exact e1
 ·exact e2
theorem Spot.level{bs ss:List L}{id s:Int}{ls:List L}{i k:Nat}(h:Spot bs ss id s ls i k):lchk (ls[i]'h.hi)=0:=zAh (zAa h.sides).2.1 _ (List.getElem_mem h.hi)
theorem Spot.rest{bs ss:List L}{id s:Int}{ls:List L}{i k:Nat}(h:Spot bs ss id s ls i k):rchk ((ls[i]'h.hi).rests[k]'h.hk)=0:=
 ((zAd _).1 (zAc h.level).2.2).2.1 _ (List.getElem_mem h.hk)
theorem Spot.wf{bs ss:List L}{id s:Int}{ls:List L}{i k:Nat}(h:Spot bs ss id s ls i k):(Lit.int .i64 id).wf=true:=by
 have:=wf_id h.rest
 rwa [h.hr] at this
theorem zJM{α:Type}{l:List α}{i:Nat}(hi:i<l.length):∃a b,l=a++l[i]::b∧a.length=i:=
 ⟨l.take i,l.drop (i+1),by rw[←List.drop_eq_getElem_cons hi,List.take_append_drop],by rw[List.length_take];omega⟩
theorem zBa{ls:List L}{i k:Nat}(hi:i<ls.length)(hk:k<ls[i].rests.length):∃a b c d,ls=a++⟨ls[i].price,c++ls[i].rests[k]::d⟩::b∧a.length=i∧ls[i].rests=c++ls[i].rests[k]::d∧c.length=k:=by
 obtain⟨a,b,e1,e2⟩:=zJM hi
 obtain⟨c,d,e3,e4⟩:=zJM hk
 exact⟨a,b,c,d,by rw[←e3];exact e1,e2,e3,e4⟩
theorem zDQ(a b:List L)(p:Int)(c d:List R)(r r' : R):setL (a++⟨p,c++r::d⟩::b) a.length c.length r'=a++⟨p,c++r'::d⟩::b:=by
 unfold setL
 rw[zIX,zBY,zBY]
theorem zCT(a b:List L)(p:Int)(c d:List R)(r:R):dropL (a++⟨p,c++r::d⟩::b) a.length c.length=if c.length+d.length=0 then a++b else a++⟨p,c++d⟩::b:=by
 unfold dropL
 rw[zIX,zCK,zBY,zCK]
 simp only[List.length_append,List.length_cons]
 by_cases h:c.length+d.length=0
 ·rw[if_pos h,if_pos (by omega)]
 ·rw[if_neg h,if_neg (by omega)]
theorem zGy(ls:List L)(i k:Nat)(r:R):(setL ls i k r).length=ls.length:=by unfold setL;rw[List.length_set]
theorem zFM{ls:List L}{i k:Nat}{r:R}(hi:i<ls.length)(h2:i<(setL ls i k r).length):(setL ls i k r)[i]=⟨ls[i].price,ls[i].rests.set k r⟩:=by
 simp[setL,hi]
theorem zJN(i:Int)(c d:List R){r r' : R}(h:r'.id=r.id):∀j:Int,rowP i j (c++r'::d)=rowP i j (c++r::d):=by
 induction c with
 | nil=>intro j;show (r'.id,i,j)::_=(r.id,i,j)::_;rw[h]
 | cons x t ih=>intro j;show _::rowP i (j+1) (t++r'::d)=_::rowP i (j+1) (t++r::d);rw[ih]
theorem zHM(a b:List L)(p:Int)(c d:List R){r r' : R}(h:r'.id=r.id):∀j:Int,flatP j (a++⟨p,c++r'::d⟩::b)=flatP j (a++⟨p,c++r::d⟩::b):=by
 induction a with
 | nil=>intro j;show rowP j 0 (c++r'::d)++_=rowP j 0 (c++r::d)++_;rw[zJN _ _ _ h]
 | cons x t ih=>intro j;show rowP j 0 x.rests++flatP (j+1) (t++_)=rowP j 0 x.rests++flatP (j+1) (t++_);rw[ih]
theorem zJO{s:Int}(p:Int){zs zs' : List R}(hz:lchk ⟨p,zs'⟩=0)(a b:List L):∀prev,sgo s prev (a++⟨p,zs⟩::b)=0→sgo s prev (a++⟨p,zs'⟩::b)=0:=by
 induction a with
 | nil=>
  intro prev h
  obtain⟨-,h2,h3⟩:=zAy h
  exact zBk hz h2 h3
 | cons x t ih=>
  intro prev h
  obtain⟨h1,h2,h3⟩:=zAy h
  exact zBk h1 h2 (ih _ h3)
theorem zBN(a b:List L)(p:Int)(zs:List R):allR (a++⟨p,zs⟩::b)=allR a++(zs++allR b):=by rw[zAv,zAf]
theorem zMH{s:Int}{ls:List L}{i k:Nat}{r' : R}(h:schk s ls=0)(hi:i<ls.length)(hk:k<ls[i].rests.length)(hid:r'.id=ls[i].rests[k].id)(hr:rchk r'=0) :
  schk s (setL ls i k r')=0∧flatP 0 (setL ls i k r')=flatP 0 ls∧cnt (setL ls i k r')=cnt ls∧(allR (setL ls i k r')).map (·.id)=(allR ls).map (·.id):=by
 obtain⟨z1,z2,z3,z4⟩:=zAa h
 have hl:lchk ls[i]=0:=zAh z2 _ (List.getElem_mem hi)
 obtain⟨a,b,c,d,e1,e2,e3,e4⟩:=zBa hi hk
 obtain⟨l1,l2,l3⟩:=zAc hl
 obtain⟨q1,q2⟩:=(zAd _).1 l3
 generalize ls[i].rests[k]=r at *
 generalize ls[i].price=p at *
 rw[e3] at q1 q2
 subst e1
 subst e2
 subst e4
 have hf:=zHM a b p c d hid 0
 have hq:qchk (c++r'::d)=0:=(zAd _).2 ⟨by simpa using q1,fun x hx=>by
   rcases List.mem_append.1 hx with hx|hx
   ·exact q2.1 x (by simp[hx])
   ·rcases List.mem_cons.1 hx with rfl|hx
    ·exact hr
    ·exact q2.1 x (by simp[hx]),by have:=q2.2;simpa [hid] using this⟩
 have hpB:tickP.priceB p=true:=by simp[tickP.priceB,l1.1,l1.2]
 have hc:cnt (a++⟨p,c++r'::d⟩::b)=cnt (a++⟨p,c++r::d⟩::b):=by rw[←flatP_len 0,←flatP_len 0,hf]
 rw[zDQ]
 refine⟨zBW z1 (zJO p (zAU hpB (by simp) hq) a b none z2) (by rw[hc];omega) (by unfold ids at z4 ⊢;rw[hf];exact z4),hf,hc,?_⟩
 rw[zBN,zBN]
 simp[hid]
theorem zGz{ls:List L}{i k:Nat}{r' : R}(hi:i<ls.length):bestI (setL ls i k r')=bestI ls:=by
 unfold setL
 cases ls with
 | nil=>simp at hi
 | cons x t=>
  cases i with
  | zero=>rfl
  | succ i=>rfl
theorem zJP{a b:List R}(h:a.map (·.id)=b.map (·.id)):twiceB a=twiceB b:=by
 unfold twiceB
 rw[h]
theorem zEH{ls:List L}{i k:Nat}{r' : R}:(setL ls i k r').isEmpty=ls.isEmpty:=by
 have:=zGy ls i k r'
 cases ls with
 | nil=>rfl
 | cons x t=>
  cases h:setL (x::t) i k r' with
  | nil=>rw[h] at this;simp at this
  | cons y u=>rfl
theorem zEI{bs ss bs' ss' : List L}(h:bookE bs ss=0)(k1:schk 1 bs'=0)(k2:schk 2 ss'=0)(b1:bestI bs'=bestI bs)(b2:bestI ss'=bestI ss)(m1:bs'.isEmpty=bs.isEmpty)(m2:ss'.isEmpty=ss.isEmpty)(i1:(allR bs').map (·.id)=(allR bs).map (·.id))(i2:(allR ss').map (·.id)=(allR ss).map (·.id)):bookE bs' ss'=0:=by
 obtain⟨-,-,z3,z4,z5⟩:=zAb h
 have n1:(allR bs').length=(allR bs).length:=by have:=congrArg List.length i1;simpa using this
 have n2:(allR ss').length=(allR ss).length:=by have:=congrArg List.length i2;simpa using this
 have c:crossB bs' ss'=crossB bs ss:=by unfold crossB;rw[b1,b2,m1,m2]
 have t:twiceB (allR bs'++allR ss')=twiceB (allR bs++allR ss):=zJP (by rw[List.map_append,List.map_append,i1,i2])
 unfold bookE
 rw[if_pos k1,if_pos k2,c,z3,t,z4,if_neg (by simp),if_neg (by simp),if_neg (by rw[List.length_append] at z5 ⊢;omega)]
theorem zEJ{s:Int}{ls ls' : List L}{id:Int}(h:schk s ls=0)(h' : schk s ls'=0)(hf:flatP 0 ls'=flatP 0 ls):findE s ls' id=findE s ls id∧findP s ls' id=findP s ls id:=by
 have e:findE s ls' id=findE s ls id:=by unfold findE;rw[if_pos h,if_pos h',hf]
 exact⟨e,by unfold findP;rw[e,hf]⟩
theorem Spot.keep{bs ss:List L}{id s:Int}{ls:List L}{i k:Nat}{r' : R}(h:Spot bs ss id s ls i k)(hid:r'.id=id)(hr:rchk r'=0):Spot (kB s bs i k r') (kS s ss i k r') id s (setL ls i k r') i k:=by
 have hi:=h.hi
 have hk:=h.hk
 obtain⟨g1,g2,g3,g4⟩:=zMH h.sides hi hk (hid.trans h.hr.symm) hr
 obtain⟨e1,e2,-⟩:=zAb h.h0
 have hl:i<(setL ls i k r').length:=by rw[zGy];exact hi
 have ha:=zFM (k:=k) (r:=r') hi hl
 have hk2:k<((setL ls i k r')[i]).rests.length:=by rw[ha];simpa using hk
 have hrr:((setL ls i k r')[i]).rests[k].id=id:=by
  have:((setL ls i k r')[i]).rests[k]=r':=by
   simp only[ha,List.getElem_set_self]
  rw[this,hid]
 rcases h.side with ⟨rfl,rfl,f1,f2⟩|⟨rfl,rfl,f0,f1,f2⟩
 ·obtain⟨w1,w2⟩:=zEJ (id:=id) e1 g1 g2
  refine⟨?_,hl,hk2,hrr,.inl ⟨rfl,?_,?_,?_⟩⟩
  ·unfold kB kS;rw[if_pos rfl,if_pos rfl]
   exact zEI h.h0 g1 e2 (zGz hi) rfl zEH rfl g4 rfl
  ·unfold kB;rw[if_pos rfl]
  ·unfold kB;rw[if_pos rfl,w1];exact f1
  ·unfold kB;rw[if_pos rfl,w2];exact f2
 ·obtain⟨w1,w2⟩:=zEJ (id:=id) e2 g1 g2
  refine⟨?_,hl,hk2,hrr,.inr ⟨rfl,?_,?_,?_,?_⟩⟩
  ·unfold kB kS;rw[if_neg (by decide),if_neg (by decide)]
   exact zEI h.h0 e1 g1 rfl (zGz hi) rfl zEH rfl g4
  ·unfold kS;rw[if_neg (by decide)]
  ·unfold kB;rw[if_neg (by decide)];exact f0
  ·unfold kS;rw[if_neg (by decide),w1];exact f1
  ·unfold kS;rw[if_neg (by decide),w2];exact f2
def lessR(r:R)(q:Int):R:=⟨r.id,r.who,min r.qty q,q - min r.qty q,r.shw⟩
theorem zJQ{r:R}{q:Int}(h:rchk r=0)(h1:1≤q)(h2:q≤r.qty+r.hid):rchk (lessR r q)=0:=by
 obtain⟨a,b,c,d,e,f,g⟩:=zAg h
 refine zDy ⟨?_,?_,c,?_,?_,f,g⟩
 ·show 1≤min r.qty q∧min r.qty q≤10000;omega
 ·show 0≤q - min r.qty q∧q - min r.qty q≤10000;omega
 ·intro h0;have h3:=d h0;show q - min r.qty q=0;omega
 ·intro h0;have h3:=e h0;show min r.qty q≤r.shw;omega
structure Two (w:World) (base F:Nat) (v1 v2:Value) (pa pb:List RP):Prop where
 own1:rlv.OwnQ w base v1 (pa.map (·.1))
 own2:rlv.OwnQ w base v2 (pb.map (·.1))
 each:∀p∈pa++pb,OwnQ w base (sv p.1) p.2
 apart:(pa++pb).Pairwise AP
 far:∀p∈pa++pb,∀x,blkR p.1=some x→v1.ownBlock≠some x∧v2.ownBlock≠some x∧x<F
theorem Two.deep1{w:World}{base F:Nat}{v1 v2:Value}{pa pb:List RP}(h:Two w base F v1 v2 pa pb):Deep w base v1 pa:=
 ⟨by rw[List.append_nil];exact h.own1,fun p hp=>h.each p (List.mem_append_left _ hp),(List.pairwise_append.1 h.apart).1,fun p hp x hx=>(h.far p (List.mem_append_left _ hp) x hx).1⟩
theorem Two.deep2{w:World}{base F:Nat}{v1 v2:Value}{pa pb:List RP}(h:Two w base F v1 v2 pa pb):Deep w base v2 pb:=
 ⟨by rw[List.append_nil];exact h.own2,fun p hp=>h.each p (List.mem_append_right _ hp),(List.pairwise_append.1 h.apart).2.1,fun p hp x hx=>(h.far p (List.mem_append_right _ hp) x hx).2.1⟩
theorem Two.below{w w' : World}{base F:Nat}{v1 v2:Value}{pa pb:List RP}(h:Two w base F v1 v2 pa pb)(hB:Below w.heap.size w w'):Two w' base F v1 v2 pa pb:=
 ⟨OwnM.below h.own1 hB,OwnM.below h.own2 hB,fun p hp=>OwnM.below (h.each p hp) hB,h.apart,h.far⟩
theorem Two.set{w w' : World}{base F:Nat}{v1 v2:Value}{pa pb A B:List RP}{x:RP}{zs:List R}(h:Two w base F v1 v2 pa pb)(e:pa++pb=A++x::B)(hg:w.grownBy w' (blkR x.1))(ho:OwnQ w' base (sv x.1) zs) :
  ∃qa qb,Two w' base F v1 v2 qa qb∧qa++qb=A++(x.1,zs)::B∧qa.length=pa.length:=by
 have hm:(A++(x.1,zs)::B).map (·.1)=(pa++pb).map (·.1):=by rw[e];simp
 have hlen:(A++(x.1,zs)::B).length=(pa++pb).length:=by rw[e];simp
 have hxm:x∈pa++pb:=by rw[e];simp
 have ha:(A++x::B).Pairwise AP:=by rw[←e];exact h.apart
 obtain⟨p1,p2,p3⟩:=List.pairwise_append.1 ha
 obtain⟨p4,p5⟩:=List.pairwise_cons.1 p2
 refine⟨(A++(x.1,zs)::B).take pa.length,(A++(x.1,zs)::B).drop pa.length,⟨?_,?_,?_,?_,?_⟩,List.take_append_drop _ _,by rw[List.length_take,hlen,List.length_append];omega⟩
 ·rw[List.map_take,hm,List.map_append,List.take_left' (by simp)]
  exact zAe h.own1 hg (fun z hz e=>(h.far x hxm z e).1 hz)
 ·rw[List.map_drop,hm,List.map_append,List.drop_left' (by simp)]
  exact zAe h.own2 hg (fun z hz e=>(h.far x hxm z e).2.1 hz)
 ·rw[List.take_append_drop]
  intro p hp
  rcases List.mem_append.1 hp with hp|hp
  ·exact zAe (h.each p (by rw[e];simp[hp])) hg (fun z hz e=>p3 p hp x (by simp) z hz e)
  ·rcases List.mem_cons.1 hp with rfl|hp
   ·exact ho
   ·exact zAe (h.each p (by rw[e];simp[hp])) hg (fun z hz e=>p4 p hp z e hz)
 ·rw[List.take_append_drop]
  have h1:((A++(x.1,zs)::B).map (·.1)).Pairwise (fun a b:rlv.RL=>∀x,blkR a=some x→blkR b≠some x):=by
   rw[hm,List.pairwise_map]
   exact h.apart
  rw[List.pairwise_map] at h1
  exact h1
 ·rw[List.take_append_drop]
  intro p hp z hz
  have h1:p.1∈(pa++pb).map (·.1):=by rw[←hm];exact List.mem_map.2 ⟨p,hp,rfl⟩
  obtain⟨p0,hp0,e0⟩:=List.mem_map.1 h1
  exact h.far p0 hp0 z (by rw[e0];exact hz)
theorem fr_two{W0 Wa Wb X:World}{base R:Nat}{va vb:Value}{bs ss:List L}(ha:DL Wa W0.heap.size va bs)(h0:W0.heap.size≤Wa.heap.size)(hb:DL Wb Wa.heap.size vb ss)(h2:Below Wa.heap.size Wa Wb)(hg:Wb.grownBy X (some R))(hR:R<W0.heap.size)(hB:base≤W0.heap.size) :
  ∃pa pb,pa.map toL=bs∧pb.map toL=ss∧Two X base X.heap.size va vb pa pb:=by
 obtain⟨pa,ea,Da⟩:=ha
 obtain⟨pb,eb,Db⟩:=hb
 have hs2:=h2.size
 have hs3:=hg.size
 have DX:Deep X W0.heap.size va pa:=(Da.below h2).other hg hR
 have EX:Deep X Wa.heap.size vb pb:=Db.other hg (by omega)
 refine⟨pa,pb,ea,eb,?_,?_,?_,?_,?_⟩
 ·have:=(DX.mono hB).own;rwa [List.append_nil] at this
 ·have:=(EX.mono (base':=base) (by omega)).own;rwa [List.append_nil] at this
 ·intro p hp
  rcases List.mem_append.1 hp with hp|hp
  ·exact(DX.mono hB).each p hp
  ·exact(EX.mono (base':=base) (by omega)).each p hp
 ·refine List.pairwise_append.2 ⟨DX.apart,EX.apart,fun p hp q hq x hx e=>?_⟩
  have:=(OwnM.lt (Da.each p hp) x hx).2
  have:=(OwnM.lt (Db.each q hq) x e).1
  omega
 ·intro p hp x hx
  rcases List.mem_append.1 hp with hp|hp
  ·have k1:=(OwnM.lt (Da.each p hp) x hx).2
   refine⟨DX.far p hp x hx,fun e=>?_,by omega⟩
   have:=(OwnM.lt Db.own x e).1
   omega
  ·have k1:=(OwnM.lt (Db.each p hp) x hx)
   refine⟨fun e=>?_,EX.far p hp x hx,by omega⟩
   have:=(OwnM.lt Da.own x e).2
   omega
def BTPost(bs ss:List L)(w:World)(e:Ending)(w' : World):Prop:=
 ∃q1 q2 n1 n2 c1 c2 pa pb,e=.returned (.agg #[.slice q1 n1 c1,.slice q2 n2 c2])∧Below w.heap.size w w'∧pa.map toL=bs∧pb.map toL=ss∧Two w' w.heap.size w'.heap.size (.slice q1 n1 c1) (.slice q2 n2 c2) pa pb
theorem zHN(q1 q2:Option Addr)(n1 n2 c1 c2:Nat)(bs ss:List L)(w:World)(h1:LS w (.slice q1 n1 c1) bs)(h2:LS w (.slice q2 n2 c2) ss)(k1:schk 1 bs=0)(k2:schk 2 ss=0) :
  Calls Tryz.prog 31 #[.agg #[.slice q1 n1 c1,.slice q2 n2 c2]] w fun e w'=>BTPost bs ss w e w':=by
 have hlen:∀ {t:Int}{xs:List L},schk t xs=0→xs.length≤1000∧(∀l∈xs,l.rests.length≤1000):=fun {t xs} hk=>by
  obtain⟨-,z2,z3,-⟩:=zAa hk
  have:=zBZ (zAh z2)
  exact⟨by omega,fun l hl=>by have:=zAt hl;omega⟩
 obtain⟨V2,hV2⟩:∃V2,V2=w.alloc (.cells #[.slice q1 n1 c1,.slice q2 n2 c2] 46):=⟨_,rfl⟩
 have HB2:Hid (Below w.heap.size w V2):=by rw[hV2];exact(bzR _ _).alloc (nzR _) _
 have hs2:V2.heap.size=w.heap.size+1:=by rw[hV2];simp
 have HF1:Hid (∀W,Below V2.heap.size V2 W→W.heap[V2.heap.size]?=some (.cells #[.slice none 0 0,.slice none 0 0] 46 (0,0))→Calls Tryz.prog 58 #[.slice q1 n1 c1] W fun e w'=>∃q m c,e=.returned (.slice q m c)∧DL w' W.heap.size (.slice q m c) bs∧Below W.heap.size W w'∧Below V2.heap.size V2 w'∧w'.heap[V2.heap.size]?=some (.cells #[.slice none 0 0,.slice none 0 0] 46 (0,0))):=fun W hW hWR=>by
  refine(zAK _ bs W (h1.below (HB2.out.trans (hW.mono HB2.out.size))) (hlen k1).1 (hlen k1).2 (zAw k1)).mono ?_
  rintro e w'⟨v',ps,rfl,hps,hD,b1⟩
  obtain⟨q',c',hv'⟩:=OwnM.form hD.own
  subst hv'
  exact⟨_,_,_,rfl,⟨ps,hps,hD⟩,b1,hW.trans (b1.mono hW.size),(b1.block _ (gzE.1 hWR).1).trans hWR⟩
 have HF2:Hid (∀W,Below V2.heap.size V2 W→W.heap[V2.heap.size]?=some (.cells #[.slice none 0 0,.slice none 0 0] 46 (0,0))→Calls Tryz.prog 58 #[.slice q2 n2 c2] W fun e w'=>∃q m c,e=.returned (.slice q m c)∧DL w' W.heap.size (.slice q m c) ss∧Below W.heap.size W w'∧Below V2.heap.size V2 w'∧w'.heap[V2.heap.size]?=some (.cells #[.slice none 0 0,.slice none 0 0] 46 (0,0))):=fun W hW hWR=>by
  refine(zAK _ ss W (h2.below (HB2.out.trans (hW.mono HB2.out.size))) (hlen k2).1 (hlen k2).2 (zAw k2)).mono ?_
  rintro e w'⟨v',ps,rfl,hps,hD,b1⟩
  obtain⟨q',c',hv'⟩:=OwnM.form hD.own
  subst hv'
  exact⟨_,_,_,rfl,⟨ps,hps,hD⟩,b1,hW.trans (b1.mono hW.size),(b1.block _ (gzE.1 hWR).1).trans hWR⟩
 obtain⟨V,hV⟩:∃V,V=V2.alloc (.cells #[.slice none 0 0,.slice none 0 0] 46):=⟨_,rfl⟩
 have HBV:Hid (Below V2.heap.size V2 V):=by rw[hV];exact(bzR _ _).alloc (nzR _) _
 have hR:V.heap[V2.heap.size]?=some (.cells #[.slice none 0 0,.slice none 0 0] 46 (0,0)):=by rw[hV];exact heap_alloc_new V2 _
 have v0:V2.cell? ⟨w.heap.size,0,none⟩=some (.slice q1 n1 c1):=by rw[hV2];simp[go_sem]
 have v1:V2.cell? ⟨w.heap.size,1,none⟩=some (.slice q2 n2 c2):=by rw[hV2];simp[go_sem]
 have hVs:V2.heap.size<V.heap.size:=(gzE.1 hR).1
 have SO:Hid (∀W,Below V2.heap.size V2 W→(Below V2.heap.size V2 W∧W.cell? ⟨w.heap.size,0,none⟩=some (.slice q1 n1 c1)∧W.cell? ⟨w.heap.size,1,none⟩=some (.slice q2 n2 c2))):=fun W hW=>⟨hW,keeps hW v0,keeps hW v1⟩
 clear h1 h2 k1 k2 hlen
 obtain⟨P,hP⟩:∃P,P=w.heap.size+1:=⟨_,rfl⟩
 have hPs:V2.heap.size=P:=by rw[hs2,hP]
 rw[hPs] at HF1 HF2 HBV hR hVs SO
 have HP:Hid (V2.heap.size=P∧P=w.heap.size+1):=⟨hPs,hP⟩
 clear hs2 hPs v0 v1
 go_enter Tryz.func31,Tryz.ntmps31
 go_upto_region 1 with fail
 rw[←hV2,←hV]
 simp only[←hP]
 clear hV2 hV hP
 obtain⟨z0,z1,hfz⟩:=rowTwo hR
 have z2:=hfz 0
 have z3:=hfz 1
 obtain⟨-,y0,y1⟩:=SO.out V HBV.out
 have hRd:V.drew.heap[P]?=some (.cells #[.slice none 0 0,.slice none 0 0] 46 (0,0)):=((bzR _ V).drew.block P hVs).trans hR
 go_region_with (first|(go_at_call 58;with_reducible refine(HF1.out _ ?_ ?_).mono ?_;(with_reducible repeat' (first|exact HBV.out|assumption|refine Below.drew ?_));rintro x Wa ⟨qa,ma,ca,rfl,hDa,hba,hna,hRa⟩;obtain⟨-,ka0,ka1⟩:=SO.out Wa hna)|(go_at_call 58;with_reducible refine(HF2.out _ ?_ ?_).mono ?_;(with_reducible repeat' (first|assumption|refine Below.drew ?_));rintro x Wb ⟨qb,mb,cb,rfl,hDb,hbb,hnb,hRb⟩;obtain⟨pb0,pb1,pfb⟩:=rowTwo hRb;have pb2:=pfb 0;have pb3:=pfb 1))
 all_goals go_wp2_with fail
 all_goals
  have hg:=grTwo Wb P (.slice qa ma ca) (.slice qb mb cb)
  have HX:=setTwo hRb (.slice qa ma ca) (.slice qb mb cb)
  have hlt:P<V.drew.heap.size:=(gzE.1 hRd).1
  have hPw:=HP.out
  obtain⟨pa,pb,ea,eb,g1⟩:=fr_two (base:=w.heap.size) hDa hba.size hDb hbb hg hlt (by omega)
  have hBX:Below w.heap.size w ((Wb.setCell ⟨P,0,none⟩ (.slice qa ma ca)).setCell ⟨P,1,none⟩ (.slice qb mb cb)):=by
   have h1:Below w.heap.size w Wb:=HB2.out.trans (hnb.mono (by omega))
   exact h1.grown hg h1.size (fun k hk=>by cases hk;omega)
  generalize (Wb.setCell ⟨P,0,none⟩ (.slice qa ma ca)).setCell ⟨P,1,none⟩ (.slice qb mb cb)=X at *
  obtain⟨t0,t1,-⟩:=rowTwo HX
  exact bodyPost_ret (v:=.agg #[.slice qa ma ca,.slice qb mb cb]) (by simp[results,Tryz.results31,go_sem,t0,t1]) rfl ⟨_,_,_,_,_,_,pa,pb,rfl,hBX,ea,eb,g1⟩
theorem zBo{α:Type}(X Y:List α)(n j:Nat)(u:α)(h:X.length=n):(X++Y).set (n+j) u=X++Y.set j u:=by
 subst h
 rw[List.set_append,if_neg (by omega),show X.length+j - X.length=j by omega]
theorem zMI{w:World}{base g off n cap:Nat}{C D:List R}{r:R}(a b c d e:Int)(h:OwnM w base 54 5 (.slice (some ⟨g,off,none⟩) n cap) n (flat (C++r::D))) :
  OwnM (((((w.setCell ⟨g,off+C.length*5,none⟩ (.int .i64 a)).setCell ⟨g,off+C.length*5+1,none⟩ (.int .i64 b)).setCell ⟨g,off+C.length*5+2,none⟩ (.int .i64 c)).setCell ⟨g,off+C.length*5+3,none⟩ (.int .i64 d)).setCell ⟨g,off+C.length*5+4,none⟩ (.int .i64 e)) base 54 5 (.slice (some ⟨g,off,none⟩) n cap) n (flat (C++⟨a,b,c,d,e⟩::D)):=by
 have h0:=OwnM.set h (C.length*5) (.int .i64 a)
 have h1:=OwnM.set h0 (C.length*5+1) (.int .i64 b)
 have h2:=OwnM.set h1 (C.length*5+2) (.int .i64 c)
 have h3:=OwnM.set h2 (C.length*5+3) (.int .i64 d)
 have h4:=OwnM.set h3 (C.length*5+4) (.int .i64 e)
 have hl:(flat C).length=C.length*5:=flat_len C
 have e0:((((((flat (C++r::D)).set (C.length*5) (.int .i64 a)).set (C.length*5+1) (.int .i64 b)).set (C.length*5+2) (.int .i64 c)).set (C.length*5+3) (.int .i64 d)).set (C.length*5+4) (.int .i64 e))=flat (C++⟨a,b,c,d,e⟩::D):=by
  rw[flat_append,flat_append]
  have s0:=zBo (flat C) (flat (r::D)) _ 0 (.int .i64 a) hl
  rw[Nat.add_zero] at s0
  rw[s0,zBo _ _ _ 1 _ hl,zBo _ _ _ 2 _ hl,zBo _ _ _ 3 _ hl,zBo _ _ _ 4 _ hl]
  rfl
 rw[e0] at h4
 simp only[←Nat.add_assoc] at h4
 exact h4
theorem gr_at5(w:World)(g o0 o1 o2 o3 o4:Nat)(x0 x1 x2 x3 x4:Value):w.grownBy (((((w.setCell ⟨g,o0,none⟩ x0).setCell ⟨g,o1,none⟩ x1).setCell ⟨g,o2,none⟩ x2).setCell ⟨g,o3,none⟩ x3).setCell ⟨g,o4,none⟩ x4) (some g):=
 gr_trans (gr_trans (gr_trans (gr_trans (gr_setCell _ _ _ _) (gr_setCell _ _ _ _)) (gr_setCell _ _ _ _)) (gr_setCell _ _ _ _)) (gr_setCell _ _ _ _)
def upR(r' : R)(zs:List R):List R:=if idx r'.id zs<0 then zs else zs.set (idx r'.id zs).toNat r'
def upP(r' : R)(p:RP):RP:=(p.1,upR r' p.2)
structure RepI (V:World) (F:Nat) (v1 v2 vC:Value) (PS:List RP) (m:Nat) (r' : R) (jj:Nat) (wr:World):Prop where
 below:Below V.heap.size V wr
 row:wr.heap[F]?=some (.cells #[v1,v2] 46 (0,0))
 cat:rlv.OwnQ wr F vC (PS.map (·.1))
 two:∃qa qb,Two wr V.heap.size F v1 v2 qa qb∧qa++qb=(PS.take jj).map (upP r')++PS.drop jj∧qa.length=m
theorem RepI.on{V:World}{F:Nat}{v1 v2 vC:Value}{PS:List RP}{m:Nat}{r' : R}{jj:Nat}{wr w' : World}(h:RepI V F v1 v2 vC PS m r' jj wr)(hB:Below wr.heap.size wr w'):RepI V F v1 v2 vC PS m r' jj w':=by
 obtain⟨qa,qb,h1,h2,h3⟩:=h.two
 exact⟨h.below.trans (hB.mono h.below.size),(hB.block F (gzE.1 h.row).1).trans h.row,OwnM.below h.cat hB,qa,qb,h1.below hB,h2,h3⟩
theorem RepI.pass{V:World}{F:Nat}{v1 v2 vC:Value}{PS:List RP}{m:Nat}{r' : R}{jj:Nat}{wr:World}(h:RepI V F v1 v2 vC PS m r' jj wr)(hj:jj<PS.length)(hi:idx r'.id PS[jj].2<0):RepI V F v1 v2 vC PS m r' (jj+1) wr:=by
 obtain⟨qa,qb,h1,h2,h3⟩:=h.two
 refine⟨h.below,h.row,h.cat,qa,qb,h1,?_,h3⟩
 rw[h2,List.take_succ_eq_append_getElem hj,List.map_append,List.drop_eq_getElem_cons hj,List.append_assoc]
 have:upP r' PS[jj]=PS[jj]:=by unfold upP upR;rw[if_pos hi]
 simp[this]
theorem RepI.level{V:World}{F:Nat}{v1 v2 vC:Value}{PS:List RP}{m:Nat}{r' : R}{jj:Nat}{wr:World}(h:RepI V F v1 v2 vC PS m r' jj wr)(hj:jj<PS.length):OwnQ wr V.heap.size (sv PS[jj].1) PS[jj].2:=by
 obtain⟨qa,qb,h1,h2,h3⟩:=h.two
 exact h1.each _ (by rw[h2,List.drop_eq_getElem_cons hj];exact List.mem_append_right _ List.mem_cons_self)
theorem RepI.put{V:World}{F:Nat}{v1 v2 vC:Value}{PS:List RP}{m:Nat}{a b c d e:Int}{jj:Nat}{wr:World}(h:RepI V F v1 v2 vC PS m ⟨a,b,c,d,e⟩ jj wr)(hj:jj<PS.length){p:Int}{g off n cap:Nat}{zs:List R}(hp:PS[jj]=(⟨p,some ⟨g,off,none⟩,n,cap⟩,zs)){k:Nat}(hk:idx a zs=(k:Int)) :
  RepI V F v1 v2 vC PS m ⟨a,b,c,d,e⟩ (jj+1) (((((wr.setCell ⟨g,off+k*5,none⟩ (.int .i64 a)).setCell ⟨g,off+k*5+1,none⟩ (.int .i64 b)).setCell ⟨g,off+k*5+2,none⟩ (.int .i64 c)).setCell ⟨g,off+k*5+3,none⟩ (.int .i64 d)).setCell ⟨g,off+k*5+4,none⟩ (.int .i64 e)):=by
 have hO:=h.level hj
 obtain⟨qa,qb,h1,h2,h3⟩:=h.two
 have hkl:k<zs.length:=by have:=idx_lt a zs;omega
 have hgr:=gr_at5 wr g (off+k*5) (off+k*5+1) (off+k*5+2) (off+k*5+3) (off+k*5+4) (.int .i64 a) (.int .i64 b) (.int .i64 c) (.int .i64 d) (.int .i64 e)
 have e2:qa++qb=(PS.take jj).map (upP ⟨a,b,c,d,e⟩)++PS[jj]::PS.drop (jj+1):=by rw[h2,List.drop_eq_getElem_cons hj]
 have hx:PS[jj]∈qa++qb:=by rw[e2];exact List.mem_append_right _ List.mem_cons_self
 rw[hp] at hO
 have hn:n=zs.length:=by
  obtain⟨q',c',e⟩:=OwnM.form hO
  have e' : Value.slice (some ⟨g,off,none⟩) n cap=.slice q' zs.length c':=e
  simp only[Value.slice.injEq] at e'
  exact e'.2.1
 subst hn
 have hbk:blkR (⟨p,some ⟨g,off,none⟩,zs.length,cap⟩:rlv.RL)=some g:=rfl
 have hlt:=OwnM.lt hO g rfl
 have hF:=(h1.far _ hx g (by rw[hp];rfl)).2.2
 obtain⟨C,D,eC,lC⟩:=zJM hkl
 generalize zs[k]=rr at eC
 have hO2:OwnM wr V.heap.size 54 5 (.slice (some ⟨g,off,none⟩) zs.length cap) zs.length (flat (C++rr::D)):=by rw[←eC];exact hO
 have hN:=zMI a b c d e hO2
 rw[lC] at hN
 have hset:zs.set k ⟨a,b,c,d,e⟩=C++⟨a,b,c,d,e⟩::D:=by
  rw[eC,←lC]
  exact zBY C rr _ D
 have hup:upP ⟨a,b,c,d,e⟩ PS[jj]=(PS[jj].1,C++⟨a,b,c,d,e⟩::D):=by
  rw[hp]
  unfold upP upR
  simp only[]
  rw[hk,if_neg (by omega),Int.toNat_natCast,hset]
 have hlen:(C++(⟨a,b,c,d,e⟩:R)::D).length=zs.length:=by rw[←hset,List.length_set]
 obtain⟨qa',qb',k1,k2,k3⟩:=h1.set (zs:=C++⟨a,b,c,d,e⟩::D) e2 (by rw[hp,hbk];exact hgr) (by
  rw[hp]
  show OwnM _ _ _ _ _ _ _
  rw[hlen]
  exact hN)
 refine⟨h.below.grown hgr h.below.size (fun z hz=>by cases hz;exact hlt.1),?_,?_,qa',qb',k1,?_,k3.trans h3⟩
 ·rw[hgr.block F (gzE.1 h.row).1 (by simp;omega)];exact h.row
 ·exact zAe h.cat hgr (fun z hz e=>by have:=(OwnM.lt h.cat z hz).1;simp at e;omega)
 ·rw[k2,List.take_succ_eq_append_getElem hj,List.map_append,List.append_assoc]
  simp[hup]
end swp
namespace bok
open Go.RowKit spn que sid
theorem hidB{P:Prop}(h:P):Hid P:=h
theorem find_bad(q1 q2:Option Addr)(n1 n2 c1 c2:Nat)(bs ss:List L)(id:Int)(w:World)(h1:LS w (.slice q1 n1 c1) bs)(h2:LS w (.slice q2 n2 c2) ss)(h0:¬bookE bs ss=0) :
  Calls Tryz.prog 76 #[.agg #[.slice q1 n1 c1,.slice q2 n2 c2],.int .i64 id] w fun e w'=>e=.returned (.tuple #[.int .i64 0,.int .i64 0,.agg #[.int .i64 0,.int .i64 0,.int .i64 0,.int .i64 0,.int .i64 0],.iface 91 (.int .i64 (bookE bs ss))])∧Below w.heap.size w w':=by
 have HCH:=fun W(hW:Below w.heap.size w W)=>check_any q1 q2 n1 n2 c1 c2 bs ss W (h1.below hW) (h2.below hW)
 rw[errV_of h0] at HCH
 generalize bookE bs ss=K at *
 obtain⟨V,hV⟩:∃V,V=(w.alloc (.cells #[.slice q1 n1 c1,.slice q2 n2 c2] 46)).alloc (.cells #[.int .i64 0,.int .i64 0,.int .i64 0,.int .i64 0,.int .i64 0] 54):=⟨_,rfl⟩
 have HB:Hid (Below w.heap.size w V):=by rw[hV];exact((bzR _ _).alloc (nzR _) _).alloc (by simp) _
 have v0:V.cell? ⟨w.heap.size,0,none⟩=some (.slice q1 n1 c1):=by rw[hV];simp[go_sem]
 have v1:V.cell? ⟨w.heap.size,1,none⟩=some (.slice q2 n2 c2):=by rw[hV];simp[go_sem]
 have hR:V.heap[w.heap.size+1]?=some (.cells #[.int .i64 0,.int .i64 0,.int .i64 0,.int .i64 0,.int .i64 0] 54 (0,0)):=by
  rw[hV]
  have:=heap_alloc_new (w.alloc (.cells #[.slice q1 n1 c1,.slice q2 n2 c2] 46)) (.cells #[.int .i64 0,.int .i64 0,.int .i64 0,.int .i64 0,.int .i64 0] 54)
  simpa using this
 have hVs:w.heap.size+1<V.heap.size:=(gzE.1 hR).1
 clear h1 h2
 go_enter Tryz.func76,Tryz.ntmps76
 go_wp2_with fail
 rw[←hV]
 refine(HCH V HB.out).mono ?_
 rintro x w1⟨rfl,b1⟩
 have hB1:=HB.out.trans (b1.mono HB.out.size)
 have hR1:w1.heap[w.heap.size+1]?=some (.cells #[.int .i64 0,.int .i64 0,.int .i64 0,.int .i64 0,.int .i64 0] 54 (0,0)):=by rw[b1.block _ hVs];exact hR
 obtain⟨e0,e1,e2,e3,e4,hfr⟩:=rowFive hR1
 have f0:=hfr 0
 have f1:=hfr 1
 have f2:=hfr 2
 have f3:=hfr 3
 have f4:=hfr 4
 have HHX:=hidB (setFive hR1 (.int .i64 0) (.int .i64 0) (.int .i64 0) (.int .i64 0) (.int .i64 0))
 have hg:=grFive w1 (w.heap.size+1) (.int .i64 0) (.int .i64 0) (.int .i64 0) (.int .i64 0) (.int .i64 0)
 have HBX:=hidB (hB1.grown hg hB1.size (fun k hk=>by cases hk;omega))
 clear b1 HCH v0 v1 hR hV hfr hR1 hg hB1
 go_wp2_with fail
 generalize (((((w1.setCell ⟨w.heap.size+1,0,none⟩ (.int .i64 0)).setCell ⟨w.heap.size+1,1,none⟩ (.int .i64 0)).setCell ⟨w.heap.size+1,2,none⟩ (.int .i64 0)).setCell ⟨w.heap.size+1,3,none⟩ (.int .i64 0)).setCell ⟨w.heap.size+1,4,none⟩ (.int .i64 0))=X at *
 obtain⟨y0,y1,y2,y3,y4,-⟩:=rowFive HHX.out
 exact bodyPost_ret (v:=.tuple #[.int .i64 0,.int .i64 0,.agg #[.int .i64 0,.int .i64 0,.int .i64 0,.int .i64 0,.int .i64 0],.iface 91 (.int .i64 K)]) (by simp[results,Tryz.results76,go_sem,y0,y1,y2,y3,y4]) rfl ⟨rfl,HBX.out⟩
end bok
end Go.Proofs.YtifjhlgjgnnnpaaGreat
