import Derived.Test.YtnjpjieedgmffaaGreatDoorKinRef1
import Derived.Test.YtnjpjieedgmffaaGreatDoorKinRef2
import Derived.Test.YtnjpjieedgmffaaGreatDoorKinDo
import Derived.Deep.RegionHeld3
namespace Go.Proofs.YtnjpjieedgmffaaGreatDoor.kin
open Go.RowKit spn que sid bok mee
open ord (O oV mB mE chk meets_any ref_may)
open tickP (priceB sideB betOk betR)
def ComePost (bs ss:List L) (o:O) (w:World) (e:Ending) (w' : World):Prop:=
 (kdoE bs ss o=0→∃q1 q2 n1 n2 c1 c2 tv lf,e=.returned (.tuple #[.agg #[.slice q1 n1 c1,.slice q2 n2 c2,tv,.int .i64 lf,.int .i64 (kdoG bs ss o),.slice none 0 0,.bool false],.int .i64 0])∧LS w' (.slice q1 n1 c1) (kdoB bs ss o)∧LS w' (.slice q2 n2 c2) (kdoS bs ss o)∧OwnT w' w.heap.size tv (metR bs ss o).2.1)∧
 (¬kdoE bs ss o=0→e=.returned (.tuple #[.agg #[.slice none 0 0,.slice none 0 0,.slice none 0 0,.int .i64 0,.int .i64 0,.slice none 0 0,.bool false],.int .i64 (kdoE bs ss o)]))∧Below w.heap.size w w'
theorem newBk {U w' : World}(h:Below (U.alloc (.cells #[.slice none 0 0,.slice none 0 0] 24)).heap.size (U.alloc (.cells #[.slice none 0 0,.slice none 0 0] 24)) w'):w'.heap[U.heap.size]?=some (.cells #[.slice none 0 0,.slice none 0 0] 24 (0,0)):=(h.block _ (by simp)).trans (heap_alloc_new U _)
theorem newBk2 {U w' : World}(h:Below (U.alloc (.cells #[.slice none 0 0,.slice none 0 0] 24)).drew.heap.size (U.alloc (.cells #[.slice none 0 0,.slice none 0 0] 24)).drew w'):w'.heap[U.heap.size]?=some (.cells #[.slice none 0 0,.slice none 0 0] 24 (0,0)):=by
 have e:(U.alloc (.cells #[.slice none 0 0,.slice none 0 0] 24)).drew.heap=(U.alloc (.cells #[.slice none 0 0,.slice none 0 0] 24)).heap:=rfl
 have h1:=h.block U.heap.size (by rw[e];simp)
 rw[e] at h1
 exact h1.trans (heap_alloc_new U _)
theorem set_putK {bs ss:List L}{o:O}{k:Int}(h:setE bs ss o k=0) (hst:stayB o k=true):putE bs ss o.side o.price (keptR o k)=0:=by
 unfold setE at h
 rw[if_pos hst] at h
 by_cases hr:restE o k=0
 ·rw[if_pos hr] at h;exact h
 ·rw[if_neg hr] at h;exact absurd h hr
theorem kdo_bookK {bs ss:List L}{o:O}(h:kdoE bs ss o=0):bookE (kdoB bs ss o) (kdoS bs ss o)=0:=by
 obtain⟨h1,h2,h3⟩:=kdo_zero h
 unfold kdoB kdoS setB setS
 by_cases hst:stayB o (metR bs ss o).2.2=true
 ·rw[if_pos hst,if_pos hst]
  exact(put_zero (set_putK h3 hst)).2.2
 ·rw[if_neg hst,if_neg hst]
  exact met_book (doE_zero h1).1
theorem met_first {bs ss:List L}{o:O}(h:comeE bs ss o=0):((metR bs ss o).2.2 < o.qty↔∃l t,otherL bs ss o=l::t∧mB o l.price=true)∧((metR bs ss o).2.2≤o.qty):=by
 obtain⟨hbk,hck,-,-⟩:=come_zero h
 have hq:=qty_of hck
 have hg:=other_good (o:=o) hbk
 obtain⟨s1,s2,s3,s4⟩:=met_sum h
 refine⟨⟨fun hlt=>?_,?_⟩,by omega⟩
 ·unfold metR at hlt
  cases hl:otherL bs ss o with
  | nil=>rw[hl] at hlt;simp[tkl] at hlt
  | cons l t=>
   refine⟨l,t,rfl,?_⟩
   cases hm:mB o l.price with
   | true=>rfl
   | false=>rw[hl,tkl_stop hm] at hlt;simp at hlt
 ·rintro⟨l,t,hl,hm⟩
  have hlk:=hg l (by rw[hl];simp)
  have hlen:1≤(metR bs ss o).2.1.length:=by
   unfold metR
   rw[hl]
   obtain⟨p,zs⟩:=l
   obtain⟨-,hne,hqk⟩:=lchk_zero hlk
   cases zs with
   | nil=>exact absurd rfl hne
   | cons r rs=>
    rw[tkl_fill (by omega) hm hqk]
    simp
  omega
set_option maxRecDepth 100000 in
set_option maxHeartbeats 8000000 in
theorem rcome_any (q1 q2:Option Addr) (n1 n2 c1 c2:Nat) (bs ss:List L) (a b c d p q s t:Int) (w:World) (h1:LS w (.slice q1 n1 c1) bs) (h2:LS w (.slice q2 n2 c2) ss) (hC:comeE bs ss ⟨a,b,c,d,p,q,s,t⟩=0) :
  Calls Tryz.prog 5 #[.agg #[.slice q1 n1 c1,.slice q2 n2 c2],.agg #[.int .i64 a,.int .i64 b,.int .i64 c,.int .i64 d,.int .i64 p,.int .i64 q,.int .i64 s,.int .i64 t],.int .i64 0] w fun e w'=>ComePost bs ss ⟨a,b,c,d,p,q,s,t⟩ w e w':=by
 obtain⟨hbk,hch,-,-⟩:=come_zero hC
 have hside:c=1∨c=2:=by
  have h:=(ord.chk_zero hch).1
  simp[ord.headB] at h
  omega
 have hkind:d=1∨d=2∨d=3∨d=4∨d=5:=by
  have h:=(ord.chk_zero hch).1
  simp[ord.headB] at h
  omega
 have hnum:=shw_of hch
 simp only[] at hnum
 obtain⟨V1,hV1⟩:∃V1,V1=w.alloc (.cells #[.slice q1 n1 c1,.slice q2 n2 c2] 24):=⟨_,rfl⟩
 obtain⟨V2,hV2⟩:∃V2,V2=V1.alloc (.cells #[.int .i64 a,.int .i64 b,.int .i64 c,.int .i64 d,.int .i64 p,.int .i64 q,.int .i64 s,.int .i64 t] 26):=⟨_,rfl⟩
 obtain⟨V,hV⟩:∃V,V=V2.alloc (.cells #[.slice none 0 0,.slice none 0 0,.slice none 0 0,.int .i64 0,.int .i64 0,.slice none 0 0,.bool false] 31):=⟨_,rfl⟩
 have hs1:V1.heap.size=w.heap.size+1:=by rw[hV1];simp
 have hs2:V2.heap.size=w.heap.size+2:=by rw[hV2];simp[hs1]
 have hb1:Below w.heap.size w V1:=by rw[hV1];exact(bzR _ _).alloc (nzR _) _
 have hb2:Below V1.heap.size V1 V2:=by rw[hV2];exact(bzR _ _).alloc (nzR _) _
 have hb3:Below V2.heap.size V2 V:=by rw[hV];exact(bzR _ _).alloc (nzR _) _
 have hBV:Below w.heap.size w V:=by
  have h:=hb1.trans (hb2.mono hb1.size)
  exact h.trans (hb3.mono h.size)
 have hbx:V.heap[w.heap.size]?=some (.cells #[.slice q1 n1 c1,.slice q2 n2 c2] 24 (0,0)):=by rw[hb3.block _ (by omega),hb2.block _ (by omega),hV1];exact heap_alloc_new w _
 have hox:V.heap[w.heap.size+1]?=some (.cells #[.int .i64 a,.int .i64 b,.int .i64 c,.int .i64 d,.int .i64 p,.int .i64 q,.int .i64 s,.int .i64 t] 26 (0,0)):=by rw[hb3.block _ (by omega),←hs1,hV2];exact heap_alloc_new V1 _
 have hqx:V.heap[w.heap.size+2]?=some (.cells #[.slice none 0 0,.slice none 0 0,.slice none 0 0,.int .i64 0,.int .i64 0,.slice none 0 0,.bool false] 31 (0,0)):=by rw[←hs2,hV];exact heap_alloc_new V2 _
 obtain⟨G,hG⟩:∃G,G=w.heap.size+1:=⟨_,rfl⟩
 obtain⟨Q,hQ⟩:∃Q,Q=w.heap.size+2:=⟨_,rfl⟩
 rw[←hG] at hox
 rw[←hQ] at hqx
 have hQV:Q < V.heap.size:=(gzE.1 hqx).1
 have HSO:Hid (∀W,Below V.heap.size V W→(Below w.heap.size w W∧W.heap[Q]?=some (.cells #[.slice none 0 0,.slice none 0 0,.slice none 0 0,.int .i64 0,.int .i64 0,.slice none 0 0,.bool false] 31 (0,0))∧(LS W (.slice q1 n1 c1) bs∧LS W (.slice q2 n2 c2) ss∧W.cell? ⟨w.heap.size,0,none⟩=some (.slice q1 n1 c1)∧W.cell? ⟨w.heap.size,1,none⟩=some (.slice q2 n2 c2)))∧W.cell? ⟨G,0,none⟩=some (.int .i64 a)∧W.cell? ⟨G,1,none⟩=some (.int .i64 b)∧W.cell? ⟨G,2,none⟩=some (.int .i64 c)∧W.cell? ⟨G,3,none⟩=some (.int .i64 d)∧W.cell? ⟨G,4,none⟩=some (.int .i64 p)∧W.cell? ⟨G,5,none⟩=some (.int .i64 q)∧W.cell? ⟨G,6,none⟩=some (.int .i64 s)∧W.cell? ⟨G,7,none⟩=some (.int .i64 t)):=fun W hW=>by
  have hw:=hBV.trans (hW.mono hBV.size)
  obtain⟨g0,g1,-⟩:=rowTwo hbx
  have hg:=(hW.block G (gzE.1 hox).1).trans hox
  exact⟨⟨hw,(hW.block Q hQV).trans hqx,h1.below hw,h2.below hw,keeps hW g0,keeps hW g1⟩,by simp[World.cell?,hg],by simp[World.cell?,hg],by simp[World.cell?,hg],by simp[World.cell?,hg],by simp[World.cell?,hg],by simp[World.cell?,hg],by simp[World.cell?,hg],by simp[World.cell?,hg]⟩
 have HME:=hidK (rmeet_any w.heap.size q1 q2 n1 n2 c1 c2 bs ss a b c d p q s t V hBV.size (h1.below (hide_first hBV)) (h2.below (hide_first hBV)) hC)
 have HERR:Hid (∀W k,Below V.heap.size V W→kdoE bs ss ⟨a,b,c,d,p,q,s,t⟩=k→¬k=0→ComePost bs ss ⟨a,b,c,d,p,q,s,t⟩ w (.returned (.tuple #[.agg #[.slice none 0 0,.slice none 0 0,.slice none 0 0,.int .i64 0,.int .i64 0,.slice none 0 0,.bool false],.int .i64 k])) (((((((W.setCell ⟨Q,0,none⟩ (.slice none 0 0)).setCell ⟨Q,1,none⟩ (.slice none 0 0)).setCell ⟨Q,2,none⟩ (.slice none 0 0)).setCell ⟨Q,3,none⟩ (.int .i64 0)).setCell ⟨Q,4,none⟩ (.int .i64 0)).setCell ⟨Q,5,none⟩ (.slice none 0 0)).setCell ⟨Q,6,none⟩ (.bool false))∧(((((((W.setCell ⟨Q,0,none⟩ (.slice none 0 0)).setCell ⟨Q,1,none⟩ (.slice none 0 0)).setCell ⟨Q,2,none⟩ (.slice none 0 0)).setCell ⟨Q,3,none⟩ (.int .i64 0)).setCell ⟨Q,4,none⟩ (.int .i64 0)).setCell ⟨Q,5,none⟩ (.slice none 0 0)).setCell ⟨Q,6,none⟩ (.bool false)).heap[Q]?=some (.cells #[.slice none 0 0,.slice none 0 0,.slice none 0 0,.int .i64 0,.int .i64 0,.slice none 0 0,.bool false] 31 (0,0))):=fun W k hW hk hk0=>by
  obtain⟨⟨hw,hz,-⟩,-⟩:=HSO.out W hW
  have hg:=grSeven W Q (.slice none 0 0) (.slice none 0 0) (.slice none 0 0) (.int .i64 0) (.int .i64 0) (.slice none 0 0) (.bool false)
  exact⟨⟨fun h=>absurd (hk.symm.trans h) hk0,fun _=>by rw[hk],hw.grown hg hw.size (fun k hk=>by cases hk;omega)⟩,setSeven hz (.slice none 0 0) (.slice none 0 0) (.slice none 0 0) (.int .i64 0) (.int .i64 0) (.slice none 0 0) (.bool false)⟩
 have HFIN:Hid (∀W y1 y2 l1 l2 k1 k2 lf gn tq tn tc,Below V.heap.size V W→LS W (.slice y1 l1 k1) (kdoB bs ss ⟨a,b,c,d,p,q,s,t⟩)→LS W (.slice y2 l2 k2) (kdoS bs ss ⟨a,b,c,d,p,q,s,t⟩)→OwnT W V.heap.size (.slice tq tn tc) (metR bs ss ⟨a,b,c,d,p,q,s,t⟩).2.1→kdoE bs ss ⟨a,b,c,d,p,q,s,t⟩=0→kdoG bs ss ⟨a,b,c,d,p,q,s,t⟩=gn→ComePost bs ss ⟨a,b,c,d,p,q,s,t⟩ w (.returned (.tuple #[.agg #[.slice y1 l1 k1,.slice y2 l2 k2,.slice tq tn tc,.int .i64 lf,.int .i64 gn,.slice none 0 0,.bool false],.int .i64 0])) (((((((W.setCell ⟨Q,0,none⟩ (.slice y1 l1 k1)).setCell ⟨Q,1,none⟩ (.slice y2 l2 k2)).setCell ⟨Q,2,none⟩ (.slice tq tn tc)).setCell ⟨Q,3,none⟩ (.int .i64 lf)).setCell ⟨Q,4,none⟩ (.int .i64 gn)).setCell ⟨Q,5,none⟩ (.slice none 0 0)).setCell ⟨Q,6,none⟩ (.bool false))∧(((((((W.setCell ⟨Q,0,none⟩ (.slice y1 l1 k1)).setCell ⟨Q,1,none⟩ (.slice y2 l2 k2)).setCell ⟨Q,2,none⟩ (.slice tq tn tc)).setCell ⟨Q,3,none⟩ (.int .i64 lf)).setCell ⟨Q,4,none⟩ (.int .i64 gn)).setCell ⟨Q,5,none⟩ (.slice none 0 0)).setCell ⟨Q,6,none⟩ (.bool false)).heap[Q]?=some (.cells #[.slice y1 l1 k1,.slice y2 l2 k2,.slice tq tn tc,.int .i64 lf,.int .i64 gn,.slice none 0 0,.bool false] 31 (0,0))):=fun W y1 y2 l1 l2 k1 k2 lf gn tq tn tc hW g1 g2 g3 hk hgn=>by
  obtain⟨⟨hw,hz,-⟩,-⟩:=HSO.out W hW
  have hg:=grSeven W Q (.slice y1 l1 k1) (.slice y2 l2 k2) (.slice tq tn tc) (.int .i64 lf) (.int .i64 gn) (.slice none 0 0) (.bool false)
  have hb:=kdo_bookK hk
  refine⟨⟨fun _=>⟨_,_,_,_,_,_,_,_,by rw[hgn],ls_off g1 hg (met_no hz) (book_lv hb).1,ls_off g2 hg (met_no hz) (book_lv hb).2,OwnM.mono (kept_of g3 hg (fun z hz e=>by cases e;have:=(OwnM.lt g3 Q hz).1;omega)) hBV.size⟩,fun h=>absurd hk h,hw.grown hg hw.size (fun k hk=>by cases hk;omega)⟩,setSeven hz (.slice y1 l1 k1) (.slice y2 l2 k2) (.slice tq tn tc) (.int .i64 lf) (.int .i64 gn) (.slice none 0 0) (.bool false)⟩
 have HMB:Hid (bookE (metB bs ss ⟨a,b,c,d,p,q,s,t⟩) (metS bs ss ⟨a,b,c,d,p,q,s,t⟩)=0):=met_book hC
 have HSD:=hidK hside
 have HKD:=hidK hkind
 have HCC:=hidK hC
 have HNQ:=hidK hnum
 have HQV:=hidK hQV
 clear hs1 hs2 hb1 hb2 hb3 hbx hox hqx hBV hbk hch hside hkind hnum h1 h2 hC hQV
 obtain⟨⟨-,-,-,-,g0,g1⟩,o0,o1,o2,o3,o4,o5,o6,o7⟩:=HSO.out V (bzR _ _)
 go_enter Tryz.func5,Tryz.ntmps5
 go_wp2_with fail
 rw[←hV1,←hV2,←hV]
 simp only[←hQ]
 simp only[←hG]
 clear hV1 hV2 hV hQ hG
 refine HME.out.mono ?_
 rintro e w1 ⟨i1,i2,b1⟩
 clear g0 g1 o0 o1 o2 o3 o4 o5 o6 o7 HME
 by_cases h4:(metR bs ss ⟨a,b,c,d,p,q,s,t⟩).2.1.length≤400
 rotate_left
 ·have e2:=i2 h4
  subst e2
  have hBa:Below w1.heap.size w1 (w1.alloc (.cells #[.slice none 0 0,.slice none 0 0,.slice none 0 0,.int .i64 0,.int .i64 0,.slice none 0 0,.bool false] 31)):=(bzR _ _).alloc (nzR _) _
  have HW2:=hidK (b1.trans (hBa.mono b1.size))
  have hk4:kdoE bs ss ⟨a,b,c,d,p,q,s,t⟩=4:=by
   have hd:doE bs ss ⟨a,b,c,d,p,q,s,t⟩=4:=by unfold doE;rw[if_pos HCC.out,if_pos (by omega)]
   unfold kdoE
   rw[hd]
   rfl
  clear i1 i2 b1 hBa h4
  go_upto_region 2 with fail
  generalize w1.alloc (.cells #[.slice none 0 0,.slice none 0 0,.slice none 0 0,.int .i64 0,.int .i64 0,.slice none 0 0,.bool false] 31)=W2 at *
  obtain⟨hPO,hHX⟩:=HERR.out W2 4 HW2.out (hk4) (by decide)
  have HPO:=hidK hPO
  have HHX:=hidK hHX
  obtain⟨⟨-,hzr,-⟩,-⟩:=HSO.out W2 HW2.out
  obtain⟨z0,z1,z2,z3,z4,z5,z6,zf⟩:=rowSeven hzr
  have f0:=zf 0
  have f1:=zf 1
  have f2:=zf 2
  have f3:=zf 3
  have f4:=zf 4
  have f5:=zf 5
  have f6:=zf 6
  clear zf hzr hPO hHX HERR HSO HFIN
  go_wp2_with fail
  generalize (((((((W2.setCell ⟨Q,0,none⟩ (.slice none 0 0)).setCell ⟨Q,1,none⟩ (.slice none 0 0)).setCell ⟨Q,2,none⟩ (.slice none 0 0)).setCell ⟨Q,3,none⟩ (.int .i64 0)).setCell ⟨Q,4,none⟩ (.int .i64 0)).setCell ⟨Q,5,none⟩ (.slice none 0 0)).setCell ⟨Q,6,none⟩ (.bool false))=ZZ at *
  obtain⟨y0',y1',y2',y3',y4',y5',y6',-⟩:=rowSeven HHX.out
  exact bodyPost_ret (v:=.tuple #[.agg #[.slice none 0 0,.slice none 0 0,.slice none 0 0,.int .i64 0,.int .i64 0,.slice none 0 0,.bool false],.int .i64 4]) (by simp[results,Tryz.results5,go_sem,y0',y1',y2',y3',y4',y5',y6']) rfl HPO.out
 obtain⟨y1,y2,l1,l2,k1,k2,tv,rfl,L1,L2,OT⟩:=i1 h4
 obtain⟨tq,tc,htv⟩:=OwnM.form OT
 subst htv
 have HDZ:Hid (doE bs ss ⟨a,b,c,d,p,q,s,t⟩=0):=by show _=_;unfold doE;rw[if_pos HCC.out,if_neg (by omega)]
 obtain⟨lf,hlf⟩:∃lf,(metR bs ss ⟨a,b,c,d,p,q,s,t⟩).2.2=lf:=⟨_,rfl⟩
 have HLF:=hidK hlf
 obtain⟨ms1,ms2,ms3,ms4⟩:=met_sum HCC.out
 have HLL:=hidK (show 0≤lf∧lf≤q by rw[←hlf];simp only[] at ms1;omega)
 rw[hlf]
 generalize htn:(metR bs ss ⟨a,b,c,d,p,q,s,t⟩).2.1.length=tn at *
 have hBa:Below w1.heap.size w1 (w1.alloc (.cells #[.slice y1 l1 k1,.slice y2 l2 k2,.slice tq tn tc,.int .i64 lf,.int .i64 0,.slice none 0 0,.bool false] 31)):=(bzR _ _).alloc (nzR _) _
 have HW2:=hidK (b1.trans (hBa.mono b1.size))
 have hrm:(w1.alloc (.cells #[.slice y1 l1 k1,.slice y2 l2 k2,.slice tq tn tc,.int .i64 lf,.int .i64 0,.slice none 0 0,.bool false] 31)).heap[w1.heap.size]?=some (.cells #[.slice y1 l1 k1,.slice y2 l2 k2,.slice tq tn tc,.int .i64 lf,.int .i64 0,.slice none 0 0,.bool false] 31 (0,0)):=heap_alloc_new w1 _
 have HLB:=hidK ((hide_ls L1).below hBa)
 have HLS:=hidK ((hide_ls L2).below hBa)
 have HTT:Hid (OwnT (w1.alloc (.cells #[.slice y1 l1 k1,.slice y2 l2 k2,.slice tq tn tc,.int .i64 lf,.int .i64 0,.slice none 0 0,.bool false] 31)) V.heap.size (.slice tq tn tc) (metR bs ss ⟨a,b,c,d,p,q,s,t⟩).2.1):=OwnM.below OT hBa
 have HTL:=hidK (show ∀z,(Value.slice tq tn tc).ownBlock=some z→V.heap.size≤z∧z < w1.heap.size from fun z hz=>OwnM.lt OT z hz)
 have HP:=hidK (show True∧True∧True∧V.heap.size≤w1.heap.size from⟨trivial,trivial,trivial,b1.size⟩)
 clear i1 i2 L1 L2 OT hBa b1 h4 ms1 ms2 ms3 ms4 hlf htn
 go_upto_region 2 with fail
 generalize w1.alloc (.cells #[.slice y1 l1 k1,.slice y2 l2 k2,.slice tq tn tc,.int .i64 lf,.int .i64 0,.slice none 0 0,.bool false] 31)=W2 at *
 generalize w1.heap.size=M at *
 obtain⟨⟨-,-,-,-,g0,g1⟩,o0,o1,o2,o3,o4,o5,o6,o7⟩:=HSO.out W2 HW2.out
 obtain⟨m0,m1,m2,m3,m4,m5,m6,-⟩:=rowSeven hrm
 by_cases h9:d=4∧0 < lf
 ·obtain⟨hd4,hl9⟩:=h9
  subst hd4
  have hk9:kdoE bs ss ⟨a,b,c,4,p,q,s,t⟩=9:=by
   unfold kdoE
   have hr:refE ⟨a,b,c,4,p,q,s,t⟩ (metR bs ss ⟨a,b,c,4,p,q,s,t⟩).2.2=9:=by unfold refE;rw[if_pos ⟨rfl,by rw[HLF.out];exact hl9⟩]
   rw[if_pos HDZ.out,hr]
   rfl
  clear HLB HLS HTT
  obtain⟨hPO,hHX⟩:=HERR.out W2 9 HW2.out (hk9) (by decide)
  have HPO:=hidK hPO
  have HHX:=hidK hHX
  obtain⟨⟨-,hzr,-⟩,-⟩:=HSO.out W2 HW2.out
  obtain⟨z0,z1,z2,z3,z4,z5,z6,zf⟩:=rowSeven hzr
  have f0:=zf 0
  have f1:=zf 1
  have f2:=zf 2
  have f3:=zf 3
  have f4:=zf 4
  have f5:=zf 5
  have f6:=zf 6
  clear zf hzr hPO hHX HERR HSO HFIN hrm
  go_wp2_with fail
  generalize (((((((W2.setCell ⟨Q,0,none⟩ (.slice none 0 0)).setCell ⟨Q,1,none⟩ (.slice none 0 0)).setCell ⟨Q,2,none⟩ (.slice none 0 0)).setCell ⟨Q,3,none⟩ (.int .i64 0)).setCell ⟨Q,4,none⟩ (.int .i64 0)).setCell ⟨Q,5,none⟩ (.slice none 0 0)).setCell ⟨Q,6,none⟩ (.bool false))=ZZ at *
  obtain⟨y0',y1',y2',y3',y4',y5',y6',-⟩:=rowSeven HHX.out
  exact bodyPost_ret (v:=.tuple #[.agg #[.slice none 0 0,.slice none 0 0,.slice none 0 0,.int .i64 0,.int .i64 0,.slice none 0 0,.bool false],.int .i64 9]) (by simp[results,Tryz.results5,go_sem,y0',y1',y2',y3',y4',y5',y6']) rfl HPO.out
 have HO9:=hidK h9
 obtain⟨hfst1,hfst2⟩:=met_first HCC.out
 rw[HLF.out] at hfst1 hfst2
 simp only[] at hfst1 hfst2
 have HFS:=hidK hfst1
 obtain⟨oq,on',oc,ls,hof,hlo,hol⟩:∃oq on' oc ls,(if (3 - c:Int)=1 then Value.slice q1 n1 c1 else .slice q2 n2 c2)=.slice oq on' oc∧(∀W,Below V.heap.size V W→LS W (.slice oq on' oc) ls)∧otherL bs ss ⟨a,b,c,d,p,q,s,t⟩=ls:=by
  rcases HSD.out with rfl|rfl
  ·exact⟨q2,n2,c2,ss,by rw[if_neg (by decide)],fun W hW=>(HSO.out W hW).1.2.2.2.1,if_pos rfl⟩
  ·exact⟨q1,n1,c1,bs,by rw[if_pos (by decide)],fun W hW=>(HSO.out W hW).1.2.2.1,if_neg (show ¬(2:Int)=1 by decide)⟩
 have HLO:=hidK hlo
 have HOL:=hidK hol
 obtain⟨oth,hoth⟩:∃oth,(3 - c:Int)=oth:=⟨_,rfl⟩
 have E0:Hid (wrap64 (3 - c)=oth):=by show _=_;have h:=HSD.out;rw[←hoth];unfold wrap64;omega
 rw[hoth] at hof
 have HOF:=hidK hof
 have HWO:Hid (d=4→lf=0):=fun h=>by
  have h1:=HLL.out.1
  by_cases h0:0 < lf
  ·exact absurd ⟨h,h0⟩ HO9.out
  ·omega
 clear hfst1 hfst2 hof hlo hol hoth h9
 go_upto_region 4 with fail
 go_cut [31] from 24 to 31 (fun s31 wx=>s31=.bool false∧wx=W2)
 case first=>
  by_cases hd4:d=4
  ·have hl4:lf=0:=HWO.out hd4
   subst hd4 hl4
   go_wp2_with fail
   go_meet
   case rel=>exact⟨rfl,rfl⟩
  ·have hd4b:(d == 4)=false:=by simp[hd4]
   go_wp2_with fail
   go_meet
   case rel=>exact⟨rfl,rfl⟩
 case rest=>
 obtain⟨rfl,hwc⟩:=hcut
 subst hwc
 have e0:=E0.out
 go_wp2_with fail
 refine(rof_any oth q1 q2 n1 n2 c1 c2 wc).mono ?_
 rintro e w3 ⟨rfl,b3⟩
 rw[HOF.out]
 have HW2:=hidK (HW2.out.trans (b3.mono HW2.out.size))
 have hrm:=(b3.block M (gzE.1 hrm).1).trans hrm
 have HLB:=hidK (HLB.out.below b3)
 have HLS:=hidK (HLS.out.below b3)
 have HTT:=hidK (OwnM.below HTT.out b3)
 clear e0 g0 g1 o0 o1 o2 o3 o4 o5 o6 o7 m0 m1 m2 m3 m4 m5 m6 b3
 have hon:=ls_len (HLO.out w3 HW2.out)
 by_cases hd5:d=5
 ·subst hd5
  have HNO:Hid (∀ (h:¬ ∃l t',ls=l::t'∧mB ⟨a,b,c,5,p,q,s,t⟩ l.price=true),lf=q):=fun h=>by
   have h1:=HFS.out
   rw[HOL.out] at h1
   have h2:=HLL.out.2
   have h3:¬lf < q:=fun hh=>h (h1.1 hh)
   omega
  have hpre:∀ (hq:lf=q),(¬lf=0)∧refE ⟨a,b,c,5,p,q,s,t⟩ lf=0∧restE ⟨a,b,c,5,p,q,s,t⟩ lf=0∧(0≤s∧s≤10000∧1≤lf∧lf≤10000):=fun hq=>by
   have hn:=HNQ.out
   have hck:=(come_zero HCC.out).2.1
   refine⟨by omega,?_,?_,by omega⟩
   ·unfold refE
    rw[if_neg (by simp),if_neg (by simp only[];omega)]
   ·unfold restE
    rw[if_pos hck,if_pos (by simp only[];omega)]
  have HPRE:=hidK hpre
  clear hpre
  cases ls with
  | nil=>
   have hon0:on'=0:=hon
   subst hon0
   obtain⟨hl0,hrf,hre,hnm⟩:=HPRE.out (HNO.out (by simp))
   have HRF:=hidK hrf
   have HRE:=hidK hre
   have HNUM:=hidK hnm
   clear hrf hre hnm hon
   obtain⟨-,o0,o1,o2,o3,o4,o5,o6,o7⟩:=HSO.out w3 HW2.out
   obtain⟨m0,m1,m2,m3,m4,m5,m6,-⟩:=rowSeven hrm
   have hlz:(lf == 0)=false:=by simp[hl0]
   go_upto_region 16 with fail
   clear o0 o1 o2 o3 o4 o5 o6 o7 m0 m1 m2 m3 m4 m5 m6
   obtain⟨r1,r2,r3,r4,r5,hkr⟩:∃r1 r2 r3 r4 r5,keptR ⟨a,b,c,5,p,q,s,t⟩ lf=⟨r1,r2,r3,r4,r5⟩:=⟨_,_,_,_,_,rfl⟩
   obtain⟨PE,hPE⟩:∃PE,putE (metB bs ss ⟨a,b,c,5,p,q,s,t⟩) (metS bs ss ⟨a,b,c,5,p,q,s,t⟩) c p (keptR ⟨a,b,c,5,p,q,s,t⟩ lf)=PE:=⟨_,rfl⟩
   have hst:stayB ⟨a,b,c,5,p,q,s,t⟩ lf=true:=by unfold stayB mayK;simp[hl0]
   have hke0:kdoE bs ss ⟨a,b,c,5,p,q,s,t⟩=PE:=by
    unfold kdoE
    rw[if_pos HDZ.out,HLF.out,if_pos HRF.out]
    unfold setE
    rw[if_pos hst,if_pos HRE.out]
    exact hPE
   have HKE:=hidK hke0
   have HKV:=hidK (show kdoB bs ss ⟨a,b,c,5,p,q,s,t⟩=put1 (metB bs ss ⟨a,b,c,5,p,q,s,t⟩) c p (keptR ⟨a,b,c,5,p,q,s,t⟩ lf)∧kdoS bs ss ⟨a,b,c,5,p,q,s,t⟩=put2 (metS bs ss ⟨a,b,c,5,p,q,s,t⟩) c p (keptR ⟨a,b,c,5,p,q,s,t⟩ lf)∧kdoG bs ss ⟨a,b,c,5,p,q,s,t⟩=0 by
    unfold kdoB kdoS kdoG setB setS setG
    rw[HLF.out,if_pos hst,if_pos hst,if_pos hst]
    exact⟨rfl,rfl,rfl⟩)
   have HKP:Hid (∀U,Below w3.heap.size w3 U→Calls Tryz.prog 18 #[.agg #[.int .i64 a,.int .i64 b,.int .i64 c,.int .i64 5,.int .i64 p,.int .i64 q,.int .i64 s,.int .i64 t],.int .i64 lf] U fun e w'=>e=.returned (.agg #[.int .i64 r1,.int .i64 r2,.int .i64 r3,.int .i64 r4,.int .i64 r5])∧Below w3.heap.size w3 w'∧Below U.heap.size U w'):=fun U hU=>by
    have hn:=HNUM.out
    refine(rkept_any a b c 5 p q s t lf U hn.1 hn.2.1 hn.2.2.1 hn.2.2.2).mono ?_
    rintro e w' ⟨rfl,hb⟩
    exact⟨by rw[hkr];rfl,hU.trans (hb.mono hU.size),hb⟩
   have HJO:Hid (∀U,Below w3.heap.size w3 U→Calls Tryz.prog 17 #[.agg #[.slice y1 l1 k1,.slice y2 l2 k2],.int .i64 c,.int .i64 p,.agg #[.int .i64 r1,.int .i64 r2,.int .i64 r3,.int .i64 r4,.int .i64 r5]] U fun e w'=>∃x1 x2 b1 b2 e1 e2,e=.returned (.tuple #[.agg #[.slice x1 b1 e1,.slice x2 b2 e2],.int .i64 PE])∧(PE=0→LS w' (.slice x1 b1 e1) (kdoB bs ss ⟨a,b,c,5,p,q,s,t⟩)∧LS w' (.slice x2 b2 e2) (kdoS bs ss ⟨a,b,c,5,p,q,s,t⟩))∧Below w3.heap.size w3 w'∧Below U.heap.size U w'):=fun U hU=>by
    refine(rjoin_any c HSD.out y1 y2 l1 l2 k1 k2 _ _ p r1 r2 r3 r4 r5 U (HLB.out.below hU) (HLS.out.below hU) HMB.out).mono ?_
    rintro e w' ⟨x1,x2,b1,b2,e1,e2,rfl,hl,hb⟩
    rw[←hkr] at hl
    rw[hPE] at hl
    refine⟨x1,x2,b1,b2,e1,e2,by rw[←hkr,hPE],fun h=>?_,hU.trans (hb.mono hU.size),hb⟩
    rw[HKV.out.1,HKV.out.2.1]
    exact hl h
   obtain⟨⟨-,-,-⟩,o0,o1,o2,o3,o4,o5,o6,o7⟩:=HSO.out w3 HW2.out
   obtain⟨m0,m1,m2,m3,m4,m5,m6,-⟩:=rowSeven hrm
   have SO:Hid (∀U,Below w3.heap.size w3 U→(Below w3.heap.size w3 U∧U.cell? ⟨M,0,none⟩=some (.slice y1 l1 k1)∧U.cell? ⟨M,1,none⟩=some (.slice y2 l2 k2)∧U.cell? ⟨M,3,none⟩=some (.int .i64 lf)∧U.cell? ⟨G,0,none⟩=some (.int .i64 a)∧U.cell? ⟨G,1,none⟩=some (.int .i64 b)∧U.cell? ⟨G,2,none⟩=some (.int .i64 c)∧U.cell? ⟨G,3,none⟩=some (.int .i64 5)∧U.cell? ⟨G,4,none⟩=some (.int .i64 p)∧U.cell? ⟨G,5,none⟩=some (.int .i64 q)∧U.cell? ⟨G,6,none⟩=some (.int .i64 s)∧U.cell? ⟨G,7,none⟩=some (.int .i64 t))):=fun U hU=>⟨hU,keeps hU m0,keeps hU m1,keeps hU m3,keeps hU o0,keeps hU o1,keeps hU o2,keeps hU o3,keeps hU o4,keeps hU o5,keeps hU o6,keeps hU o7⟩
   clear hkr hPE hst hke0
   have hlb:(lf == 0)=false:=by simp[hl0]
   have HRELA:Hid (∀W3 x1 x2 b1 b2 e1 e2,Below w3.heap.size w3 W3→(PE=0→LS W3 (.slice x1 b1 e1) (kdoB bs ss ⟨a,b,c,5,p,q,s,t⟩)∧LS W3 (.slice x2 b2 e2) (kdoS bs ss ⟨a,b,c,5,p,q,s,t⟩))→(W3.alloc (.cells #[.slice x1 b1 e1,.slice x2 b2 e2] 24)).heap[W3.heap.size]?=some (.cells #[.slice x1 b1 e1,.slice x2 b2 e2] 24 (0,0))∧(W3.alloc (.cells #[.slice x1 b1 e1,.slice x2 b2 e2] 24)).heap[M]?=some (.cells #[.slice y1 l1 k1,.slice y2 l2 k2,.slice tq tn tc,.int .i64 lf,.int .i64 0,.slice none 0 0,.bool false] 31 (0,0))∧Aside (Below V.heap.size V (W3.alloc (.cells #[.slice x1 b1 e1,.slice x2 b2 e2] 24))∧(PE=0→LS (W3.alloc (.cells #[.slice x1 b1 e1,.slice x2 b2 e2] 24)) (.slice x1 b1 e1) (kdoB bs ss ⟨a,b,c,5,p,q,s,t⟩)∧LS (W3.alloc (.cells #[.slice x1 b1 e1,.slice x2 b2 e2] 24)) (.slice x2 b2 e2) (kdoS bs ss ⟨a,b,c,5,p,q,s,t⟩))∧OwnT (W3.alloc (.cells #[.slice x1 b1 e1,.slice x2 b2 e2] 24)) V.heap.size (.slice tq tn tc) (metR bs ss ⟨a,b,c,5,p,q,s,t⟩).2.1)):=fun W3 x1 x2 b1 b2 e1 e2 hB hL=>by
    have hBa:Below W3.heap.size W3 (W3.alloc (.cells #[.slice x1 b1 e1,.slice x2 b2 e2] 24)):=(bzR _ _).alloc (nzR _) _
    have hB2:=hB.trans (hBa.mono hB.size)
    exact⟨heap_alloc_new W3 _,(hB2.block M (gzE.1 hrm).1).trans hrm,HW2.out.trans (hB2.mono HW2.out.size),fun h=>⟨(hL h).1.below hBa,(hL h).2.below hBa⟩,OwnM.below HTT.out hB2⟩
   have HREL:Hid (∀W3 x1 x2 b1 b2 e1 e2 X0,Below w3.heap.size w3 W3→(PE=0→LS W3 (.slice x1 b1 e1) (kdoB bs ss ⟨a,b,c,5,p,q,s,t⟩)∧LS W3 (.slice x2 b2 e2) (kdoS bs ss ⟨a,b,c,5,p,q,s,t⟩))→w3.heap.size≤X0→W3.heap[X0]?=some (.cells #[.slice none 0 0,.slice none 0 0] 24 (0,0))→((W3.setCell ⟨X0,0,none⟩ (.slice x1 b1 e1)).setCell ⟨X0,1,none⟩ (.slice x2 b2 e2)).heap[X0]?=some (.cells #[.slice x1 b1 e1,.slice x2 b2 e2] 24 (0,0))∧((W3.setCell ⟨X0,0,none⟩ (.slice x1 b1 e1)).setCell ⟨X0,1,none⟩ (.slice x2 b2 e2)).heap[M]?=some (.cells #[.slice y1 l1 k1,.slice y2 l2 k2,.slice tq tn tc,.int .i64 lf,.int .i64 0,.slice none 0 0,.bool false] 31 (0,0))∧Aside (Below V.heap.size V ((W3.setCell ⟨X0,0,none⟩ (.slice x1 b1 e1)).setCell ⟨X0,1,none⟩ (.slice x2 b2 e2))∧(PE=0→LS ((W3.setCell ⟨X0,0,none⟩ (.slice x1 b1 e1)).setCell ⟨X0,1,none⟩ (.slice x2 b2 e2)) (.slice x1 b1 e1) (kdoB bs ss ⟨a,b,c,5,p,q,s,t⟩)∧LS ((W3.setCell ⟨X0,0,none⟩ (.slice x1 b1 e1)).setCell ⟨X0,1,none⟩ (.slice x2 b2 e2)) (.slice x2 b2 e2) (kdoS bs ss ⟨a,b,c,5,p,q,s,t⟩))∧OwnT ((W3.setCell ⟨X0,0,none⟩ (.slice x1 b1 e1)).setCell ⟨X0,1,none⟩ (.slice x2 b2 e2)) V.heap.size (.slice tq tn tc) (metR bs ss ⟨a,b,c,5,p,q,s,t⟩).2.1)):=fun W3 x1 x2 b1 b2 e1 e2 X0 hB hL hX hr=>by
    have hg:=grTwo W3 X0 (.slice x1 b1 e1) (.slice x2 b2 e2)
    have hMl:=(gzE.1 hrm).1
    have hW3:=HW2.out.trans (hB.mono HW2.out.size)
    have hrm3:=(hB.block M hMl).trans hrm
    have hT3:=OwnM.below HTT.out hB
    refine⟨setTwo hr _ _,(hg.block M (gzE.1 hrm3).1 (fun e=>by cases e;omega)).trans hrm3,hW3.grown hg hW3.size (fun k hk=>by cases hk;have h1:=HP.out.2.2.2;omega),fun h=>?_,kept_of hT3 hg (fun z hz e=>by cases e;have:=(HTL.out X0 hz).2;omega)⟩
    have hb5:=kdo_bookK (HKE.out.trans h)
    exact⟨ls_off (hL h).1 hg (two_no hr) (book_lv hb5).1,ls_off (hL h).2 hg (two_no hr) (book_lv hb5).2⟩
   go_upto_region 16 with fail
   go_cut [9,12] from 75 to 87 (fun s9 s12 wx=>∃x1 x2 b1 b2 e1 e2 X0,s9=.int .i64 PE∧s12=.pointer (some ⟨X0,0,none⟩)∧wx.heap[X0]?=some (.cells #[.slice x1 b1 e1,.slice x2 b2 e2] 24 (0,0))∧wx.heap[M]?=some (.cells #[.slice y1 l1 k1,.slice y2 l2 k2,.slice tq tn tc,.int .i64 lf,.int .i64 0,.slice none 0 0,.bool false] 31 (0,0))∧Aside (Below V.heap.size V wx∧(PE=0→LS wx (.slice x1 b1 e1) (kdoB bs ss ⟨a,b,c,5,p,q,s,t⟩)∧LS wx (.slice x2 b2 e2) (kdoS bs ss ⟨a,b,c,5,p,q,s,t⟩))∧OwnT wx V.heap.size (.slice tq tn tc) (metR bs ss ⟨a,b,c,5,p,q,s,t⟩).2.1))
   case first=>
    go_region_held3 (fun U=>Below w3.heap.size w3 U∧U.cell? ⟨M,0,none⟩=some (.slice y1 l1 k1)∧U.cell? ⟨M,1,none⟩=some (.slice y2 l2 k2)∧U.cell? ⟨M,3,none⟩=some (.int .i64 lf)∧U.cell? ⟨G,0,none⟩=some (.int .i64 a)∧U.cell? ⟨G,1,none⟩=some (.int .i64 b)∧U.cell? ⟨G,2,none⟩=some (.int .i64 c)∧U.cell? ⟨G,3,none⟩=some (.int .i64 5)∧U.cell? ⟨G,4,none⟩=some (.int .i64 p)∧U.cell? ⟨G,5,none⟩=some (.int .i64 q)∧U.cell? ⟨G,6,none⟩=some (.int .i64 s)∧U.cell? ⟨G,7,none⟩=some (.int .i64 t))
     ((refine SO.out _ ?_;(repeat' (first|with_reducible assumption|with_reducible refine bal ?_ _|with_reducible refine Below.setCell ?_ ?_ _|with_reducible refine Below.drew ?_|with_reducible exact bzR _ _|with_reducible exact nzR _|with_reducible exact Below.size (by with_reducible assumption)|with_reducible refine Nat.le_succ_of_le ?_))))
     (first|(go_at_call 18;with_reducible refine(HKP.out _ ?_).mono ?_;(repeat' (first|with_reducible assumption|with_reducible refine bal ?_ _|with_reducible refine Below.drew ?_|with_reducible exact bzR _ _|with_reducible exact nzR _|with_reducible exact Below.size (by with_reducible assumption)));rintro x Wk ⟨rfl,hbk,hbUk⟩;have yk:=True.intro;(try (have yk:=newBk2 hbUk)))|(go_at_call 17;with_reducible refine(HJO.out _ ?_).mono ?_;(repeat' (first|with_reducible assumption|with_reducible refine bal ?_ _|with_reducible refine Below.drew ?_|with_reducible exact bzR _ _|with_reducible exact nzR _|with_reducible exact Below.size (by with_reducible assumption)));rintro x W3 ⟨x1,x2,b1,b2,e1,e2,rfl,hl3,hb3,hbUj⟩;have yj:=True.intro;(try (have yj:=newBk hbUj));(try (have yj:=(hbUj.block _ (gzE.1 yk).1).trans yk));(try (have yh:=rowTwo yj;obtain⟨ya,yb,yc⟩:=yh;have yc0:=yc 0;have yc1:=yc 1));obtain⟨za,zb,zc⟩:=rowTwo (heap_alloc_new W3 (.cells #[.slice none 0 0,.slice none 0 0] 24));have zc0:=zc 0;have zc1:=zc 1))
    all_goals go_wp2_with fail
    all_goals go_meet
    all_goals first
     | exact⟨x1,x2,b1,b2,e1,e2,_,rfl,rfl,HRELA.out W3 x1 x2 b1 b2 e1 e2 hb3 hl3⟩
     | exact⟨x1,x2,b1,b2,e1,e2,_,rfl,rfl,HREL.out W3 x1 x2 b1 b2 e1 e2 _ hb3 hl3 hbk.size yj⟩
     | exact⟨x1,x2,b1,b2,e1,e2,_,rfl,rfl,HREL.out W3 x1 x2 b1 b2 e1 e2 _ hb3 hl3 (nzR _) yj⟩
   case rest=>
   obtain⟨x1,x2,b1,b2,e1,e2,X0,rfl,rfl,hrx,hrm4,HA4⟩:=hcut
   have HW4:=hidK HA4.out.1
   have HL4:=hidK HA4.out.2.1
   have HT4:=hidK HA4.out.2.2
   clear HA4 o0 o1 o2 o3 o4 o5 o6 o7 m0 m1 m2 m3 m4 m5 m6 SO HKP HJO HREL HRELA hrm HTT HLB HLS
   by_cases hP0:PE=0
   rotate_left
   ·have hP1:(PE != 0)=true:=by simp[hP0]
    obtain⟨hPO,hHX⟩:=HERR.out wc PE HW4.out (HKE.out) hP0
    have HPO:=hidK hPO
    have HHX:=hidK hHX
    obtain⟨⟨-,hzr,-⟩,-⟩:=HSO.out wc HW4.out
    obtain⟨z0,z1,z2,z3,z4,z5,z6,zf⟩:=rowSeven hzr
    have f0:=zf 0
    have f1:=zf 1
    have f2:=zf 2
    have f3:=zf 3
    have f4:=zf 4
    have f5:=zf 5
    have f6:=zf 6
    clear zf hzr hPO hHX HERR HSO HFIN hrm4 hrx hP0
    go_wp2_with fail
    generalize (((((((wc.setCell ⟨Q,0,none⟩ (.slice none 0 0)).setCell ⟨Q,1,none⟩ (.slice none 0 0)).setCell ⟨Q,2,none⟩ (.slice none 0 0)).setCell ⟨Q,3,none⟩ (.int .i64 0)).setCell ⟨Q,4,none⟩ (.int .i64 0)).setCell ⟨Q,5,none⟩ (.slice none 0 0)).setCell ⟨Q,6,none⟩ (.bool false))=ZZ at *
    obtain⟨y0',y1',y2',y3',y4',y5',y6',-⟩:=rowSeven HHX.out
    exact bodyPost_ret (v:=.tuple #[.agg #[.slice none 0 0,.slice none 0 0,.slice none 0 0,.int .i64 0,.int .i64 0,.slice none 0 0,.bool false],.int .i64 PE]) (by simp[results,Tryz.results5,go_sem,y0',y1',y2',y3',y4',y5',y6']) rfl HPO.out
   subst hP0
   obtain⟨v0,v1,-⟩:=rowTwo hrx
   obtain⟨m0,m1,m2,m3,m4,m5,m6,mf⟩:=rowSeven hrm4
   have mf0:=mf 0
   have mf1:=mf 1
   go_upto_region 20 with fail
   have hg5:=grTwo wc M (.slice x1 b1 e1) (.slice x2 b2 e2)
   have hrm5:=seven_two hrm4 (.slice x1 b1 e1) (.slice x2 b2 e2)
   have hbk5:=kdo_bookK HKE.out
   have HW5:=hidK (HW4.out.grown hg5 HW4.out.size (fun k hk=>by cases hk;exact HP.out.2.2.2))
   have HA5:=hidK (ls_off (HL4.out rfl).1 hg5 (met_no hrm4) (book_lv hbk5).1)
   have HB5:=hidK (ls_off (HL4.out rfl).2 hg5 (met_no hrm4) (book_lv hbk5).2)
   have HT5:=hidK (kept_of HT4.out hg5 (fun z hz e=>by cases e;have:=(HTL.out M hz).2;omega))
   clear v0 v1 m0 m1 m2 m3 m4 m5 m6 mf mf0 mf1 hg5 hrm4 hrx hbk5 HW4 HL4 HT4
   generalize (wc.setCell ⟨M,0,none⟩ (.slice x1 b1 e1)).setCell ⟨M,1,none⟩ (.slice x2 b2 e2)=W5 at *
   obtain⟨m0,m1,m2,m3,m4,m5,m6,-⟩:=rowSeven hrm5
   obtain⟨hPO,hHX⟩:=HFIN.out W5 x1 x2 b1 b2 e1 e2 lf 0 tq tn tc HW5.out HA5.out HB5.out HT5.out HKE.out HKV.out.2.2
   have HPO:=hidK hPO
   have HHX:=hidK hHX
   obtain⟨⟨-,hzr,-⟩,-⟩:=HSO.out W5 HW5.out
   obtain⟨z0,z1,z2,z3,z4,z5,z6,zf⟩:=rowSeven hzr
   have f0:=zf 0
   have f1:=zf 1
   have f2:=zf 2
   have f3:=zf 3
   have f4:=zf 4
   have f5:=zf 5
   have f6:=zf 6
   clear zf hzr hPO hHX HERR HSO HFIN hrm5
   go_wp2_with fail
   generalize (((((((W5.setCell ⟨Q,0,none⟩ (.slice x1 b1 e1)).setCell ⟨Q,1,none⟩ (.slice x2 b2 e2)).setCell ⟨Q,2,none⟩ (.slice tq tn tc)).setCell ⟨Q,3,none⟩ (.int .i64 lf)).setCell ⟨Q,4,none⟩ (.int .i64 0)).setCell ⟨Q,5,none⟩ (.slice none 0 0)).setCell ⟨Q,6,none⟩ (.bool false))=ZZ at *
   obtain⟨y0',y1',y2',y3',y4',y5',y6',-⟩:=rowSeven HHX.out
   exact bodyPost_ret (v:=.tuple #[.agg #[.slice x1 b1 e1,.slice x2 b2 e2,.slice tq tn tc,.int .i64 lf,.int .i64 0,.slice none 0 0,.bool false],.int .i64 0]) (by simp[results,Tryz.results5,go_sem,y0',y1',y2',y3',y4',y5',y6']) rfl HPO.out
  | cons l0 t0=>
   obtain⟨p0,zs⟩:=l0
   have honn:on'=t0.length+1:=by simpa using hon
   have hxn:¬on'=0:=by omega
   have hxp:(0:Int) < (on' : Int):=by omega
   have hxq:0 < on':=by omega
   obtain⟨lb,lo,hoq,hlb,hLL⟩:∃b o,oq=some ⟨b,o,none⟩∧b < w3.heap.size∧LL w3 b o (⟨p0,zs⟩::t0):=by
    rcases HLO.out w3 HW2.out with ⟨e,e2⟩|⟨b,o,c',e,-,-,hb,hl⟩
    ·cases e2
    ·cases e;exact⟨b,o,rfl,hb,hl⟩
   subst hoq
   obtain⟨rq,rc,k0,k1',-⟩:=LL.at hLL (k:=0) (by simp) rfl
   simp only[Nat.zero_mul,Nat.add_zero] at k0 k1'
   obtain⟨-,o0,o1,o2,o3,o4,o5,o6,o7⟩:=HSO.out w3 HW2.out
   have SO:Hid (∀U,Below w3.heap.size w3 U→(Below w3.heap.size w3 U∧U.cell? ⟨lb,lo,none⟩=some (.int .i64 p0)∧U.cell? ⟨G,0,none⟩=some (.int .i64 a)∧U.cell? ⟨G,1,none⟩=some (.int .i64 b)∧U.cell? ⟨G,2,none⟩=some (.int .i64 c)∧U.cell? ⟨G,3,none⟩=some (.int .i64 5)∧U.cell? ⟨G,4,none⟩=some (.int .i64 p)∧U.cell? ⟨G,5,none⟩=some (.int .i64 q)∧U.cell? ⟨G,6,none⟩=some (.int .i64 s)∧U.cell? ⟨G,7,none⟩=some (.int .i64 t))):=fun U hU=>⟨hU,keeps hU k0,keeps hU o0,keeps hU o1,keeps hU o2,keeps hU o3,keeps hU o4,keeps hU o5,keeps hU o6,keeps hU o7⟩
   have HMY:Hid (∀U,Below w3.heap.size w3 U→Calls Tryz.prog 16 #[.agg #[.int .i64 a,.int .i64 b,.int .i64 c,.int .i64 5,.int .i64 p,.int .i64 q,.int .i64 s,.int .i64 t],.int .i64 p0] U fun e w'=>e=.returned (.bool (mB ⟨a,b,c,5,p,q,s,t⟩ p0))∧Below w3.heap.size w3 w'):=fun U hU=>(ref_may a b c 5 p q s t p0 U HSD.out).mono fun e w' h=>⟨h.1,hU.trans (h.2.mono hU.size)⟩
   clear hLL hon honn
   go_upto_region 8 with fail
   go_region_held3 (fun U=>Below w3.heap.size w3 U∧U.cell? ⟨lb,lo,none⟩=some (.int .i64 p0)∧U.cell? ⟨G,0,none⟩=some (.int .i64 a)∧U.cell? ⟨G,1,none⟩=some (.int .i64 b)∧U.cell? ⟨G,2,none⟩=some (.int .i64 c)∧U.cell? ⟨G,3,none⟩=some (.int .i64 5)∧U.cell? ⟨G,4,none⟩=some (.int .i64 p)∧U.cell? ⟨G,5,none⟩=some (.int .i64 q)∧U.cell? ⟨G,6,none⟩=some (.int .i64 s)∧U.cell? ⟨G,7,none⟩=some (.int .i64 t))
    ((refine SO.out _ ?_;(repeat' (first|with_reducible assumption|with_reducible refine bal ?_ _|with_reducible refine Below.drew ?_|with_reducible exact bzR _ _|with_reducible exact nzR _|with_reducible exact Below.size (by with_reducible assumption)))))
    (first|(go_at_call 16;with_reducible refine(HMY.out _ ?_).mono ?_;(repeat' (first|with_reducible assumption|with_reducible refine bal ?_ _|with_reducible refine Below.drew ?_|with_reducible exact bzR _ _|with_reducible exact nzR _|with_reducible exact Below.size (by with_reducible assumption)));rintro x w5 ⟨rfl,b5⟩))
   have HW2:=hidK (HW2.out.trans (b5.mono HW2.out.size))
   have hrm:=(b5.block M (gzE.1 hrm).1).trans hrm
   have HLB:=hidK (HLB.out.below b5)
   have HLS:=hidK (HLS.out.below b5)
   have HTT:=hidK (OwnM.below HTT.out b5)
   clear SO HMY k0 k1' o0 o1 o2 o3 o4 o5 o6 o7 b5
   cases hmb:mB ⟨a,b,c,5,p,q,s,t⟩ p0
   ·obtain⟨hl0,hrf,hre,hnm⟩:=HPRE.out (HNO.out (by rintro⟨l,t',h1,h2⟩;cases h1;rw[hmb] at h2;cases h2))
    have HRF:=hidK hrf
    have HRE:=hidK hre
    have HNUM:=hidK hnm
    clear hrf hre hnm hmb
    obtain⟨-,o0,o1,o2,o3,o4,o5,o6,o7⟩:=HSO.out w5 HW2.out
    obtain⟨m0,m1,m2,m3,m4,m5,m6,-⟩:=rowSeven hrm
    have hlz:(lf == 0)=false:=by simp[hl0]
    go_upto_region 16 with fail
    clear o0 o1 o2 o3 o4 o5 o6 o7 m0 m1 m2 m3 m4 m5 m6
    obtain⟨r1,r2,r3,r4,r5,hkr⟩:∃r1 r2 r3 r4 r5,keptR ⟨a,b,c,5,p,q,s,t⟩ lf=⟨r1,r2,r3,r4,r5⟩:=⟨_,_,_,_,_,rfl⟩
    obtain⟨PE,hPE⟩:∃PE,putE (metB bs ss ⟨a,b,c,5,p,q,s,t⟩) (metS bs ss ⟨a,b,c,5,p,q,s,t⟩) c p (keptR ⟨a,b,c,5,p,q,s,t⟩ lf)=PE:=⟨_,rfl⟩
    have hst:stayB ⟨a,b,c,5,p,q,s,t⟩ lf=true:=by unfold stayB mayK;simp[hl0]
    have hke0:kdoE bs ss ⟨a,b,c,5,p,q,s,t⟩=PE:=by
     unfold kdoE
     rw[if_pos HDZ.out,HLF.out,if_pos HRF.out]
     unfold setE
     rw[if_pos hst,if_pos HRE.out]
     exact hPE
    have HKE:=hidK hke0
    have HKV:=hidK (show kdoB bs ss ⟨a,b,c,5,p,q,s,t⟩=put1 (metB bs ss ⟨a,b,c,5,p,q,s,t⟩) c p (keptR ⟨a,b,c,5,p,q,s,t⟩ lf)∧kdoS bs ss ⟨a,b,c,5,p,q,s,t⟩=put2 (metS bs ss ⟨a,b,c,5,p,q,s,t⟩) c p (keptR ⟨a,b,c,5,p,q,s,t⟩ lf)∧kdoG bs ss ⟨a,b,c,5,p,q,s,t⟩=0 by
     unfold kdoB kdoS kdoG setB setS setG
     rw[HLF.out,if_pos hst,if_pos hst,if_pos hst]
     exact⟨rfl,rfl,rfl⟩)
    have HKP:Hid (∀U,Below w5.heap.size w5 U→Calls Tryz.prog 18 #[.agg #[.int .i64 a,.int .i64 b,.int .i64 c,.int .i64 5,.int .i64 p,.int .i64 q,.int .i64 s,.int .i64 t],.int .i64 lf] U fun e w'=>e=.returned (.agg #[.int .i64 r1,.int .i64 r2,.int .i64 r3,.int .i64 r4,.int .i64 r5])∧Below w5.heap.size w5 w'∧Below U.heap.size U w'):=fun U hU=>by
     have hn:=HNUM.out
     refine(rkept_any a b c 5 p q s t lf U hn.1 hn.2.1 hn.2.2.1 hn.2.2.2).mono ?_
     rintro e w' ⟨rfl,hb⟩
     exact⟨by rw[hkr];rfl,hU.trans (hb.mono hU.size),hb⟩
    have HJO:Hid (∀U,Below w5.heap.size w5 U→Calls Tryz.prog 17 #[.agg #[.slice y1 l1 k1,.slice y2 l2 k2],.int .i64 c,.int .i64 p,.agg #[.int .i64 r1,.int .i64 r2,.int .i64 r3,.int .i64 r4,.int .i64 r5]] U fun e w'=>∃x1 x2 b1 b2 e1 e2,e=.returned (.tuple #[.agg #[.slice x1 b1 e1,.slice x2 b2 e2],.int .i64 PE])∧(PE=0→LS w' (.slice x1 b1 e1) (kdoB bs ss ⟨a,b,c,5,p,q,s,t⟩)∧LS w' (.slice x2 b2 e2) (kdoS bs ss ⟨a,b,c,5,p,q,s,t⟩))∧Below w5.heap.size w5 w'∧Below U.heap.size U w'):=fun U hU=>by
     refine(rjoin_any c HSD.out y1 y2 l1 l2 k1 k2 _ _ p r1 r2 r3 r4 r5 U (HLB.out.below hU) (HLS.out.below hU) HMB.out).mono ?_
     rintro e w' ⟨x1,x2,b1,b2,e1,e2,rfl,hl,hb⟩
     rw[←hkr] at hl
     rw[hPE] at hl
     refine⟨x1,x2,b1,b2,e1,e2,by rw[←hkr,hPE],fun h=>?_,hU.trans (hb.mono hU.size),hb⟩
     rw[HKV.out.1,HKV.out.2.1]
     exact hl h
    obtain⟨⟨-,-,-⟩,o0,o1,o2,o3,o4,o5,o6,o7⟩:=HSO.out w5 HW2.out
    obtain⟨m0,m1,m2,m3,m4,m5,m6,-⟩:=rowSeven hrm
    have SO:Hid (∀U,Below w5.heap.size w5 U→(Below w5.heap.size w5 U∧U.cell? ⟨M,0,none⟩=some (.slice y1 l1 k1)∧U.cell? ⟨M,1,none⟩=some (.slice y2 l2 k2)∧U.cell? ⟨M,3,none⟩=some (.int .i64 lf)∧U.cell? ⟨G,0,none⟩=some (.int .i64 a)∧U.cell? ⟨G,1,none⟩=some (.int .i64 b)∧U.cell? ⟨G,2,none⟩=some (.int .i64 c)∧U.cell? ⟨G,3,none⟩=some (.int .i64 5)∧U.cell? ⟨G,4,none⟩=some (.int .i64 p)∧U.cell? ⟨G,5,none⟩=some (.int .i64 q)∧U.cell? ⟨G,6,none⟩=some (.int .i64 s)∧U.cell? ⟨G,7,none⟩=some (.int .i64 t))):=fun U hU=>⟨hU,keeps hU m0,keeps hU m1,keeps hU m3,keeps hU o0,keeps hU o1,keeps hU o2,keeps hU o3,keeps hU o4,keeps hU o5,keeps hU o6,keeps hU o7⟩
    clear hkr hPE hst hke0
    have hlb:(lf == 0)=false:=by simp[hl0]
    have HRELA:Hid (∀W3 x1 x2 b1 b2 e1 e2,Below w5.heap.size w5 W3→(PE=0→LS W3 (.slice x1 b1 e1) (kdoB bs ss ⟨a,b,c,5,p,q,s,t⟩)∧LS W3 (.slice x2 b2 e2) (kdoS bs ss ⟨a,b,c,5,p,q,s,t⟩))→(W3.alloc (.cells #[.slice x1 b1 e1,.slice x2 b2 e2] 24)).heap[W3.heap.size]?=some (.cells #[.slice x1 b1 e1,.slice x2 b2 e2] 24 (0,0))∧(W3.alloc (.cells #[.slice x1 b1 e1,.slice x2 b2 e2] 24)).heap[M]?=some (.cells #[.slice y1 l1 k1,.slice y2 l2 k2,.slice tq tn tc,.int .i64 lf,.int .i64 0,.slice none 0 0,.bool false] 31 (0,0))∧Aside (Below V.heap.size V (W3.alloc (.cells #[.slice x1 b1 e1,.slice x2 b2 e2] 24))∧(PE=0→LS (W3.alloc (.cells #[.slice x1 b1 e1,.slice x2 b2 e2] 24)) (.slice x1 b1 e1) (kdoB bs ss ⟨a,b,c,5,p,q,s,t⟩)∧LS (W3.alloc (.cells #[.slice x1 b1 e1,.slice x2 b2 e2] 24)) (.slice x2 b2 e2) (kdoS bs ss ⟨a,b,c,5,p,q,s,t⟩))∧OwnT (W3.alloc (.cells #[.slice x1 b1 e1,.slice x2 b2 e2] 24)) V.heap.size (.slice tq tn tc) (metR bs ss ⟨a,b,c,5,p,q,s,t⟩).2.1)):=fun W3 x1 x2 b1 b2 e1 e2 hB hL=>by
     have hBa:Below W3.heap.size W3 (W3.alloc (.cells #[.slice x1 b1 e1,.slice x2 b2 e2] 24)):=(bzR _ _).alloc (nzR _) _
     have hB2:=hB.trans (hBa.mono hB.size)
     exact⟨heap_alloc_new W3 _,(hB2.block M (gzE.1 hrm).1).trans hrm,HW2.out.trans (hB2.mono HW2.out.size),fun h=>⟨(hL h).1.below hBa,(hL h).2.below hBa⟩,OwnM.below HTT.out hB2⟩
    have HREL:Hid (∀W3 x1 x2 b1 b2 e1 e2 X0,Below w5.heap.size w5 W3→(PE=0→LS W3 (.slice x1 b1 e1) (kdoB bs ss ⟨a,b,c,5,p,q,s,t⟩)∧LS W3 (.slice x2 b2 e2) (kdoS bs ss ⟨a,b,c,5,p,q,s,t⟩))→w5.heap.size≤X0→W3.heap[X0]?=some (.cells #[.slice none 0 0,.slice none 0 0] 24 (0,0))→((W3.setCell ⟨X0,0,none⟩ (.slice x1 b1 e1)).setCell ⟨X0,1,none⟩ (.slice x2 b2 e2)).heap[X0]?=some (.cells #[.slice x1 b1 e1,.slice x2 b2 e2] 24 (0,0))∧((W3.setCell ⟨X0,0,none⟩ (.slice x1 b1 e1)).setCell ⟨X0,1,none⟩ (.slice x2 b2 e2)).heap[M]?=some (.cells #[.slice y1 l1 k1,.slice y2 l2 k2,.slice tq tn tc,.int .i64 lf,.int .i64 0,.slice none 0 0,.bool false] 31 (0,0))∧Aside (Below V.heap.size V ((W3.setCell ⟨X0,0,none⟩ (.slice x1 b1 e1)).setCell ⟨X0,1,none⟩ (.slice x2 b2 e2))∧(PE=0→LS ((W3.setCell ⟨X0,0,none⟩ (.slice x1 b1 e1)).setCell ⟨X0,1,none⟩ (.slice x2 b2 e2)) (.slice x1 b1 e1) (kdoB bs ss ⟨a,b,c,5,p,q,s,t⟩)∧LS ((W3.setCell ⟨X0,0,none⟩ (.slice x1 b1 e1)).setCell ⟨X0,1,none⟩ (.slice x2 b2 e2)) (.slice x2 b2 e2) (kdoS bs ss ⟨a,b,c,5,p,q,s,t⟩))∧OwnT ((W3.setCell ⟨X0,0,none⟩ (.slice x1 b1 e1)).setCell ⟨X0,1,none⟩ (.slice x2 b2 e2)) V.heap.size (.slice tq tn tc) (metR bs ss ⟨a,b,c,5,p,q,s,t⟩).2.1)):=fun W3 x1 x2 b1 b2 e1 e2 X0 hB hL hX hr=>by
     have hg:=grTwo W3 X0 (.slice x1 b1 e1) (.slice x2 b2 e2)
     have hMl:=(gzE.1 hrm).1
     have hW3:=HW2.out.trans (hB.mono HW2.out.size)
     have hrm3:=(hB.block M hMl).trans hrm
     have hT3:=OwnM.below HTT.out hB
     refine⟨setTwo hr _ _,(hg.block M (gzE.1 hrm3).1 (fun e=>by cases e;omega)).trans hrm3,hW3.grown hg hW3.size (fun k hk=>by cases hk;have h1:=HP.out.2.2.2;omega),fun h=>?_,kept_of hT3 hg (fun z hz e=>by cases e;have:=(HTL.out X0 hz).2;omega)⟩
     have hb5:=kdo_bookK (HKE.out.trans h)
     exact⟨ls_off (hL h).1 hg (two_no hr) (book_lv hb5).1,ls_off (hL h).2 hg (two_no hr) (book_lv hb5).2⟩
    go_upto_region 16 with fail
    go_cut [9,12] from 75 to 87 (fun s9 s12 wx=>∃x1 x2 b1 b2 e1 e2 X0,s9=.int .i64 PE∧s12=.pointer (some ⟨X0,0,none⟩)∧wx.heap[X0]?=some (.cells #[.slice x1 b1 e1,.slice x2 b2 e2] 24 (0,0))∧wx.heap[M]?=some (.cells #[.slice y1 l1 k1,.slice y2 l2 k2,.slice tq tn tc,.int .i64 lf,.int .i64 0,.slice none 0 0,.bool false] 31 (0,0))∧Aside (Below V.heap.size V wx∧(PE=0→LS wx (.slice x1 b1 e1) (kdoB bs ss ⟨a,b,c,5,p,q,s,t⟩)∧LS wx (.slice x2 b2 e2) (kdoS bs ss ⟨a,b,c,5,p,q,s,t⟩))∧OwnT wx V.heap.size (.slice tq tn tc) (metR bs ss ⟨a,b,c,5,p,q,s,t⟩).2.1))
    case first=>
     go_region_held3 (fun U=>Below w5.heap.size w5 U∧U.cell? ⟨M,0,none⟩=some (.slice y1 l1 k1)∧U.cell? ⟨M,1,none⟩=some (.slice y2 l2 k2)∧U.cell? ⟨M,3,none⟩=some (.int .i64 lf)∧U.cell? ⟨G,0,none⟩=some (.int .i64 a)∧U.cell? ⟨G,1,none⟩=some (.int .i64 b)∧U.cell? ⟨G,2,none⟩=some (.int .i64 c)∧U.cell? ⟨G,3,none⟩=some (.int .i64 5)∧U.cell? ⟨G,4,none⟩=some (.int .i64 p)∧U.cell? ⟨G,5,none⟩=some (.int .i64 q)∧U.cell? ⟨G,6,none⟩=some (.int .i64 s)∧U.cell? ⟨G,7,none⟩=some (.int .i64 t))
      ((refine SO.out _ ?_;(repeat' (first|with_reducible assumption|with_reducible refine bal ?_ _|with_reducible refine Below.setCell ?_ ?_ _|with_reducible refine Below.drew ?_|with_reducible exact bzR _ _|with_reducible exact nzR _|with_reducible exact Below.size (by with_reducible assumption)|with_reducible refine Nat.le_succ_of_le ?_))))
      (first|(go_at_call 18;with_reducible refine(HKP.out _ ?_).mono ?_;(repeat' (first|with_reducible assumption|with_reducible refine bal ?_ _|with_reducible refine Below.drew ?_|with_reducible exact bzR _ _|with_reducible exact nzR _|with_reducible exact Below.size (by with_reducible assumption)));rintro x Wk ⟨rfl,hbk,hbUk⟩;have yk:=True.intro;(try (have yk:=newBk2 hbUk)))|(go_at_call 17;with_reducible refine(HJO.out _ ?_).mono ?_;(repeat' (first|with_reducible assumption|with_reducible refine bal ?_ _|with_reducible refine Below.drew ?_|with_reducible exact bzR _ _|with_reducible exact nzR _|with_reducible exact Below.size (by with_reducible assumption)));rintro x W3 ⟨x1,x2,b1,b2,e1,e2,rfl,hl3,hb3,hbUj⟩;have yj:=True.intro;(try (have yj:=newBk hbUj));(try (have yj:=(hbUj.block _ (gzE.1 yk).1).trans yk));(try (have yh:=rowTwo yj;obtain⟨ya,yb,yc⟩:=yh;have yc0:=yc 0;have yc1:=yc 1));obtain⟨za,zb,zc⟩:=rowTwo (heap_alloc_new W3 (.cells #[.slice none 0 0,.slice none 0 0] 24));have zc0:=zc 0;have zc1:=zc 1))
     all_goals go_wp2_with fail
     all_goals go_meet
     all_goals first
      | exact⟨x1,x2,b1,b2,e1,e2,_,rfl,rfl,HRELA.out W3 x1 x2 b1 b2 e1 e2 hb3 hl3⟩
      | exact⟨x1,x2,b1,b2,e1,e2,_,rfl,rfl,HREL.out W3 x1 x2 b1 b2 e1 e2 _ hb3 hl3 hbk.size yj⟩
      | exact⟨x1,x2,b1,b2,e1,e2,_,rfl,rfl,HREL.out W3 x1 x2 b1 b2 e1 e2 _ hb3 hl3 (nzR _) yj⟩
    case rest=>
    obtain⟨x1,x2,b1,b2,e1,e2,X0,rfl,rfl,hrx,hrm4,HA4⟩:=hcut
    have HW4:=hidK HA4.out.1
    have HL4:=hidK HA4.out.2.1
    have HT4:=hidK HA4.out.2.2
    clear HA4 o0 o1 o2 o3 o4 o5 o6 o7 m0 m1 m2 m3 m4 m5 m6 SO HKP HJO HREL HRELA hrm HTT HLB HLS
    by_cases hP0:PE=0
    rotate_left
    ·have hP1:(PE != 0)=true:=by simp[hP0]
     obtain⟨hPO,hHX⟩:=HERR.out wc PE HW4.out (HKE.out) hP0
     have HPO:=hidK hPO
     have HHX:=hidK hHX
     obtain⟨⟨-,hzr,-⟩,-⟩:=HSO.out wc HW4.out
     obtain⟨z0,z1,z2,z3,z4,z5,z6,zf⟩:=rowSeven hzr
     have f0:=zf 0
     have f1:=zf 1
     have f2:=zf 2
     have f3:=zf 3
     have f4:=zf 4
     have f5:=zf 5
     have f6:=zf 6
     clear zf hzr hPO hHX HERR HSO HFIN hrm4 hrx hP0
     go_wp2_with fail
     generalize (((((((wc.setCell ⟨Q,0,none⟩ (.slice none 0 0)).setCell ⟨Q,1,none⟩ (.slice none 0 0)).setCell ⟨Q,2,none⟩ (.slice none 0 0)).setCell ⟨Q,3,none⟩ (.int .i64 0)).setCell ⟨Q,4,none⟩ (.int .i64 0)).setCell ⟨Q,5,none⟩ (.slice none 0 0)).setCell ⟨Q,6,none⟩ (.bool false))=ZZ at *
     obtain⟨y0',y1',y2',y3',y4',y5',y6',-⟩:=rowSeven HHX.out
     exact bodyPost_ret (v:=.tuple #[.agg #[.slice none 0 0,.slice none 0 0,.slice none 0 0,.int .i64 0,.int .i64 0,.slice none 0 0,.bool false],.int .i64 PE]) (by simp[results,Tryz.results5,go_sem,y0',y1',y2',y3',y4',y5',y6']) rfl HPO.out
    subst hP0
    obtain⟨v0,v1,-⟩:=rowTwo hrx
    obtain⟨m0,m1,m2,m3,m4,m5,m6,mf⟩:=rowSeven hrm4
    have mf0:=mf 0
    have mf1:=mf 1
    go_upto_region 20 with fail
    have hg5:=grTwo wc M (.slice x1 b1 e1) (.slice x2 b2 e2)
    have hrm5:=seven_two hrm4 (.slice x1 b1 e1) (.slice x2 b2 e2)
    have hbk5:=kdo_bookK HKE.out
    have HW5:=hidK (HW4.out.grown hg5 HW4.out.size (fun k hk=>by cases hk;exact HP.out.2.2.2))
    have HA5:=hidK (ls_off (HL4.out rfl).1 hg5 (met_no hrm4) (book_lv hbk5).1)
    have HB5:=hidK (ls_off (HL4.out rfl).2 hg5 (met_no hrm4) (book_lv hbk5).2)
    have HT5:=hidK (kept_of HT4.out hg5 (fun z hz e=>by cases e;have:=(HTL.out M hz).2;omega))
    clear v0 v1 m0 m1 m2 m3 m4 m5 m6 mf mf0 mf1 hg5 hrm4 hrx hbk5 HW4 HL4 HT4
    generalize (wc.setCell ⟨M,0,none⟩ (.slice x1 b1 e1)).setCell ⟨M,1,none⟩ (.slice x2 b2 e2)=W5 at *
    obtain⟨m0,m1,m2,m3,m4,m5,m6,-⟩:=rowSeven hrm5
    obtain⟨hPO,hHX⟩:=HFIN.out W5 x1 x2 b1 b2 e1 e2 lf 0 tq tn tc HW5.out HA5.out HB5.out HT5.out HKE.out HKV.out.2.2
    have HPO:=hidK hPO
    have HHX:=hidK hHX
    obtain⟨⟨-,hzr,-⟩,-⟩:=HSO.out W5 HW5.out
    obtain⟨z0,z1,z2,z3,z4,z5,z6,zf⟩:=rowSeven hzr
    have f0:=zf 0
    have f1:=zf 1
    have f2:=zf 2
    have f3:=zf 3
    have f4:=zf 4
    have f5:=zf 5
    have f6:=zf 6
    clear zf hzr hPO hHX HERR HSO HFIN hrm5
    go_wp2_with fail
    generalize (((((((W5.setCell ⟨Q,0,none⟩ (.slice x1 b1 e1)).setCell ⟨Q,1,none⟩ (.slice x2 b2 e2)).setCell ⟨Q,2,none⟩ (.slice tq tn tc)).setCell ⟨Q,3,none⟩ (.int .i64 lf)).setCell ⟨Q,4,none⟩ (.int .i64 0)).setCell ⟨Q,5,none⟩ (.slice none 0 0)).setCell ⟨Q,6,none⟩ (.bool false))=ZZ at *
    obtain⟨y0',y1',y2',y3',y4',y5',y6',-⟩:=rowSeven HHX.out
    exact bodyPost_ret (v:=.tuple #[.agg #[.slice x1 b1 e1,.slice x2 b2 e2,.slice tq tn tc,.int .i64 lf,.int .i64 0,.slice none 0 0,.bool false],.int .i64 0]) (by simp[results,Tryz.results5,go_sem,y0',y1',y2',y3',y4',y5',y6']) rfl HPO.out
   ·have hlt:lf < q:=HFS.out.2 ⟨_,_,HOL.out,hmb⟩
    have hk8:kdoE bs ss ⟨a,b,c,5,p,q,s,t⟩=8:=by
     unfold kdoE
     have hr:refE ⟨a,b,c,5,p,q,s,t⟩ (metR bs ss ⟨a,b,c,5,p,q,s,t⟩).2.2=8:=by unfold refE;rw[if_neg (by simp),if_pos ⟨rfl,by rw[HLF.out];exact hlt⟩]
     rw[if_pos HDZ.out,hr]
     rfl
    clear HLB HLS HTT hlt hmb
    obtain⟨hPO,hHX⟩:=HERR.out w5 8 HW2.out (hk8) (by decide)
    have HPO:=hidK hPO
    have HHX:=hidK hHX
    obtain⟨⟨-,hzr,-⟩,-⟩:=HSO.out w5 HW2.out
    obtain⟨z0,z1,z2,z3,z4,z5,z6,zf⟩:=rowSeven hzr
    have f0:=zf 0
    have f1:=zf 1
    have f2:=zf 2
    have f3:=zf 3
    have f4:=zf 4
    have f5:=zf 5
    have f6:=zf 6
    clear zf hzr hPO hHX HERR HSO HFIN hrm
    go_wp2_with fail
    generalize (((((((w5.setCell ⟨Q,0,none⟩ (.slice none 0 0)).setCell ⟨Q,1,none⟩ (.slice none 0 0)).setCell ⟨Q,2,none⟩ (.slice none 0 0)).setCell ⟨Q,3,none⟩ (.int .i64 0)).setCell ⟨Q,4,none⟩ (.int .i64 0)).setCell ⟨Q,5,none⟩ (.slice none 0 0)).setCell ⟨Q,6,none⟩ (.bool false))=ZZ at *
    obtain⟨y0',y1',y2',y3',y4',y5',y6',-⟩:=rowSeven HHX.out
    exact bodyPost_ret (v:=.tuple #[.agg #[.slice none 0 0,.slice none 0 0,.slice none 0 0,.int .i64 0,.int .i64 0,.slice none 0 0,.bool false],.int .i64 8]) (by simp[results,Tryz.results5,go_sem,y0',y1',y2',y3',y4',y5',y6']) rfl HPO.out
 have hd5b:(d == 5)=false:=by simp[hd5]
 have HD5:=hidK hd5
 obtain⟨-,o0,o1,o2,o3,o4,o5,o6,o7⟩:=HSO.out w3 HW2.out
 obtain⟨m0,m1,m2,m3,m4,m5,m6,-⟩:=rowSeven hrm
 have HRF:Hid (refE ⟨a,b,c,d,p,q,s,t⟩ lf=0):=by
  show _=_
  unfold refE
  rw[if_neg (fun h=>by have:=HWO.out h.1;simp only[] at h;omega),if_neg (fun h=>HD5.out h.1)]
 clear hon hd5
 by_cases hl0:lf=0
 ·subst hl0
  have hst:stayB ⟨a,b,c,d,p,q,s,t⟩ 0=false:=by unfold stayB;rfl
  have HKV:=hidK (show kdoE bs ss ⟨a,b,c,d,p,q,s,t⟩=0∧kdoB bs ss ⟨a,b,c,d,p,q,s,t⟩=metB bs ss ⟨a,b,c,d,p,q,s,t⟩∧kdoS bs ss ⟨a,b,c,d,p,q,s,t⟩=metS bs ss ⟨a,b,c,d,p,q,s,t⟩∧kdoG bs ss ⟨a,b,c,d,p,q,s,t⟩=0 by
   unfold kdoE kdoB kdoS kdoG setB setS setG setE
   rw[if_pos HDZ.out,HLF.out,if_pos HRF.out,hst]
   exact⟨rfl,rfl,rfl,rfl⟩)
  obtain⟨hPO,hHX⟩:=HFIN.out w3 y1 y2 l1 l2 k1 k2 0 0 tq tn tc HW2.out (by rw[HKV.out.2.1];exact HLB.out) (by rw[HKV.out.2.2.1];exact HLS.out) HTT.out HKV.out.1 HKV.out.2.2.2
  have HPO:=hidK hPO
  have HHX:=hidK hHX
  obtain⟨⟨-,hzr,-⟩,-⟩:=HSO.out w3 HW2.out
  obtain⟨z0,z1,z2,z3,z4,z5,z6,zf⟩:=rowSeven hzr
  have f0:=zf 0
  have f1:=zf 1
  have f2:=zf 2
  have f3:=zf 3
  have f4:=zf 4
  have f5:=zf 5
  have f6:=zf 6
  clear zf hzr hPO hHX HERR HSO HFIN hst HLB HLS HTT
  go_wp2_with fail
  generalize (((((((w3.setCell ⟨Q,0,none⟩ (.slice y1 l1 k1)).setCell ⟨Q,1,none⟩ (.slice y2 l2 k2)).setCell ⟨Q,2,none⟩ (.slice tq tn tc)).setCell ⟨Q,3,none⟩ (.int .i64 0)).setCell ⟨Q,4,none⟩ (.int .i64 0)).setCell ⟨Q,5,none⟩ (.slice none 0 0)).setCell ⟨Q,6,none⟩ (.bool false))=ZZ at *
  obtain⟨y0',y1',y2',y3',y4',y5',y6',-⟩:=rowSeven HHX.out
  exact bodyPost_ret (v:=.tuple #[.agg #[.slice y1 l1 k1,.slice y2 l2 k2,.slice tq tn tc,.int .i64 0,.int .i64 0,.slice none 0 0,.bool false],.int .i64 0]) (by simp[results,Tryz.results5,go_sem,y0',y1',y2',y3',y4',y5',y6']) rfl HPO.out
 have hlz:(lf == 0)=false:=by simp[hl0]
 have hn4:¬d=4:=fun h=>hl0 (HWO.out h)
 by_cases hd1:d=1
 ·subst hd1
  have hck:=(come_zero HCC.out).2.1
  have hn:=HNQ.out
  have hll:=HLL.out
  have HRE:Hid (restE ⟨a,b,c,1,p,q,s,t⟩ lf=0):=by
   show _=_
   unfold restE
   rw[if_pos hck,if_pos (by simp only[];omega)]
  have HNUM:=hidK (show 0≤s∧s≤10000∧1≤lf∧lf≤10000 by omega)
  clear hck hn hll hn4
  go_upto_region 16 with fail
  clear o0 o1 o2 o3 o4 o5 o6 o7 m0 m1 m2 m3 m4 m5 m6
  obtain⟨r1,r2,r3,r4,r5,hkr⟩:∃r1 r2 r3 r4 r5,keptR ⟨a,b,c,1,p,q,s,t⟩ lf=⟨r1,r2,r3,r4,r5⟩:=⟨_,_,_,_,_,rfl⟩
  obtain⟨PE,hPE⟩:∃PE,putE (metB bs ss ⟨a,b,c,1,p,q,s,t⟩) (metS bs ss ⟨a,b,c,1,p,q,s,t⟩) c p (keptR ⟨a,b,c,1,p,q,s,t⟩ lf)=PE:=⟨_,rfl⟩
  have hst:stayB ⟨a,b,c,1,p,q,s,t⟩ lf=true:=by unfold stayB mayK;simp[hl0]
  have hke0:kdoE bs ss ⟨a,b,c,1,p,q,s,t⟩=PE:=by
   unfold kdoE
   rw[if_pos HDZ.out,HLF.out,if_pos HRF.out]
   unfold setE
   rw[if_pos hst,if_pos HRE.out]
   exact hPE
  have HKE:=hidK hke0
  have HKV:=hidK (show kdoB bs ss ⟨a,b,c,1,p,q,s,t⟩=put1 (metB bs ss ⟨a,b,c,1,p,q,s,t⟩) c p (keptR ⟨a,b,c,1,p,q,s,t⟩ lf)∧kdoS bs ss ⟨a,b,c,1,p,q,s,t⟩=put2 (metS bs ss ⟨a,b,c,1,p,q,s,t⟩) c p (keptR ⟨a,b,c,1,p,q,s,t⟩ lf)∧kdoG bs ss ⟨a,b,c,1,p,q,s,t⟩=0 by
   unfold kdoB kdoS kdoG setB setS setG
   rw[HLF.out,if_pos hst,if_pos hst,if_pos hst]
   exact⟨rfl,rfl,rfl⟩)
  have HKP:Hid (∀U,Below w3.heap.size w3 U→Calls Tryz.prog 18 #[.agg #[.int .i64 a,.int .i64 b,.int .i64 c,.int .i64 1,.int .i64 p,.int .i64 q,.int .i64 s,.int .i64 t],.int .i64 lf] U fun e w'=>e=.returned (.agg #[.int .i64 r1,.int .i64 r2,.int .i64 r3,.int .i64 r4,.int .i64 r5])∧Below w3.heap.size w3 w'∧Below U.heap.size U w'):=fun U hU=>by
   have hn:=HNUM.out
   refine(rkept_any a b c 1 p q s t lf U hn.1 hn.2.1 hn.2.2.1 hn.2.2.2).mono ?_
   rintro e w' ⟨rfl,hb⟩
   exact⟨by rw[hkr];rfl,hU.trans (hb.mono hU.size),hb⟩
  have HJO:Hid (∀U,Below w3.heap.size w3 U→Calls Tryz.prog 17 #[.agg #[.slice y1 l1 k1,.slice y2 l2 k2],.int .i64 c,.int .i64 p,.agg #[.int .i64 r1,.int .i64 r2,.int .i64 r3,.int .i64 r4,.int .i64 r5]] U fun e w'=>∃x1 x2 b1 b2 e1 e2,e=.returned (.tuple #[.agg #[.slice x1 b1 e1,.slice x2 b2 e2],.int .i64 PE])∧(PE=0→LS w' (.slice x1 b1 e1) (kdoB bs ss ⟨a,b,c,1,p,q,s,t⟩)∧LS w' (.slice x2 b2 e2) (kdoS bs ss ⟨a,b,c,1,p,q,s,t⟩))∧Below w3.heap.size w3 w'∧Below U.heap.size U w'):=fun U hU=>by
   refine(rjoin_any c HSD.out y1 y2 l1 l2 k1 k2 _ _ p r1 r2 r3 r4 r5 U (HLB.out.below hU) (HLS.out.below hU) HMB.out).mono ?_
   rintro e w' ⟨x1,x2,b1,b2,e1,e2,rfl,hl,hb⟩
   rw[←hkr] at hl
   rw[hPE] at hl
   refine⟨x1,x2,b1,b2,e1,e2,by rw[←hkr,hPE],fun h=>?_,hU.trans (hb.mono hU.size),hb⟩
   rw[HKV.out.1,HKV.out.2.1]
   exact hl h
  obtain⟨⟨-,-,-⟩,o0,o1,o2,o3,o4,o5,o6,o7⟩:=HSO.out w3 HW2.out
  obtain⟨m0,m1,m2,m3,m4,m5,m6,-⟩:=rowSeven hrm
  have SO:Hid (∀U,Below w3.heap.size w3 U→(Below w3.heap.size w3 U∧U.cell? ⟨M,0,none⟩=some (.slice y1 l1 k1)∧U.cell? ⟨M,1,none⟩=some (.slice y2 l2 k2)∧U.cell? ⟨M,3,none⟩=some (.int .i64 lf)∧U.cell? ⟨G,0,none⟩=some (.int .i64 a)∧U.cell? ⟨G,1,none⟩=some (.int .i64 b)∧U.cell? ⟨G,2,none⟩=some (.int .i64 c)∧U.cell? ⟨G,3,none⟩=some (.int .i64 1)∧U.cell? ⟨G,4,none⟩=some (.int .i64 p)∧U.cell? ⟨G,5,none⟩=some (.int .i64 q)∧U.cell? ⟨G,6,none⟩=some (.int .i64 s)∧U.cell? ⟨G,7,none⟩=some (.int .i64 t))):=fun U hU=>⟨hU,keeps hU m0,keeps hU m1,keeps hU m3,keeps hU o0,keeps hU o1,keeps hU o2,keeps hU o3,keeps hU o4,keeps hU o5,keeps hU o6,keeps hU o7⟩
  clear hkr hPE hst hke0
  have hlb:(lf == 0)=false:=by simp[hl0]
  have HRELA:Hid (∀W3 x1 x2 b1 b2 e1 e2,Below w3.heap.size w3 W3→(PE=0→LS W3 (.slice x1 b1 e1) (kdoB bs ss ⟨a,b,c,1,p,q,s,t⟩)∧LS W3 (.slice x2 b2 e2) (kdoS bs ss ⟨a,b,c,1,p,q,s,t⟩))→(W3.alloc (.cells #[.slice x1 b1 e1,.slice x2 b2 e2] 24)).heap[W3.heap.size]?=some (.cells #[.slice x1 b1 e1,.slice x2 b2 e2] 24 (0,0))∧(W3.alloc (.cells #[.slice x1 b1 e1,.slice x2 b2 e2] 24)).heap[M]?=some (.cells #[.slice y1 l1 k1,.slice y2 l2 k2,.slice tq tn tc,.int .i64 lf,.int .i64 0,.slice none 0 0,.bool false] 31 (0,0))∧Aside (Below V.heap.size V (W3.alloc (.cells #[.slice x1 b1 e1,.slice x2 b2 e2] 24))∧(PE=0→LS (W3.alloc (.cells #[.slice x1 b1 e1,.slice x2 b2 e2] 24)) (.slice x1 b1 e1) (kdoB bs ss ⟨a,b,c,1,p,q,s,t⟩)∧LS (W3.alloc (.cells #[.slice x1 b1 e1,.slice x2 b2 e2] 24)) (.slice x2 b2 e2) (kdoS bs ss ⟨a,b,c,1,p,q,s,t⟩))∧OwnT (W3.alloc (.cells #[.slice x1 b1 e1,.slice x2 b2 e2] 24)) V.heap.size (.slice tq tn tc) (metR bs ss ⟨a,b,c,1,p,q,s,t⟩).2.1)):=fun W3 x1 x2 b1 b2 e1 e2 hB hL=>by
   have hBa:Below W3.heap.size W3 (W3.alloc (.cells #[.slice x1 b1 e1,.slice x2 b2 e2] 24)):=(bzR _ _).alloc (nzR _) _
   have hB2:=hB.trans (hBa.mono hB.size)
   exact⟨heap_alloc_new W3 _,(hB2.block M (gzE.1 hrm).1).trans hrm,HW2.out.trans (hB2.mono HW2.out.size),fun h=>⟨(hL h).1.below hBa,(hL h).2.below hBa⟩,OwnM.below HTT.out hB2⟩
  have HREL:Hid (∀W3 x1 x2 b1 b2 e1 e2 X0,Below w3.heap.size w3 W3→(PE=0→LS W3 (.slice x1 b1 e1) (kdoB bs ss ⟨a,b,c,1,p,q,s,t⟩)∧LS W3 (.slice x2 b2 e2) (kdoS bs ss ⟨a,b,c,1,p,q,s,t⟩))→w3.heap.size≤X0→W3.heap[X0]?=some (.cells #[.slice none 0 0,.slice none 0 0] 24 (0,0))→((W3.setCell ⟨X0,0,none⟩ (.slice x1 b1 e1)).setCell ⟨X0,1,none⟩ (.slice x2 b2 e2)).heap[X0]?=some (.cells #[.slice x1 b1 e1,.slice x2 b2 e2] 24 (0,0))∧((W3.setCell ⟨X0,0,none⟩ (.slice x1 b1 e1)).setCell ⟨X0,1,none⟩ (.slice x2 b2 e2)).heap[M]?=some (.cells #[.slice y1 l1 k1,.slice y2 l2 k2,.slice tq tn tc,.int .i64 lf,.int .i64 0,.slice none 0 0,.bool false] 31 (0,0))∧Aside (Below V.heap.size V ((W3.setCell ⟨X0,0,none⟩ (.slice x1 b1 e1)).setCell ⟨X0,1,none⟩ (.slice x2 b2 e2))∧(PE=0→LS ((W3.setCell ⟨X0,0,none⟩ (.slice x1 b1 e1)).setCell ⟨X0,1,none⟩ (.slice x2 b2 e2)) (.slice x1 b1 e1) (kdoB bs ss ⟨a,b,c,1,p,q,s,t⟩)∧LS ((W3.setCell ⟨X0,0,none⟩ (.slice x1 b1 e1)).setCell ⟨X0,1,none⟩ (.slice x2 b2 e2)) (.slice x2 b2 e2) (kdoS bs ss ⟨a,b,c,1,p,q,s,t⟩))∧OwnT ((W3.setCell ⟨X0,0,none⟩ (.slice x1 b1 e1)).setCell ⟨X0,1,none⟩ (.slice x2 b2 e2)) V.heap.size (.slice tq tn tc) (metR bs ss ⟨a,b,c,1,p,q,s,t⟩).2.1)):=fun W3 x1 x2 b1 b2 e1 e2 X0 hB hL hX hr=>by
   have hg:=grTwo W3 X0 (.slice x1 b1 e1) (.slice x2 b2 e2)
   have hMl:=(gzE.1 hrm).1
   have hW3:=HW2.out.trans (hB.mono HW2.out.size)
   have hrm3:=(hB.block M hMl).trans hrm
   have hT3:=OwnM.below HTT.out hB
   refine⟨setTwo hr _ _,(hg.block M (gzE.1 hrm3).1 (fun e=>by cases e;omega)).trans hrm3,hW3.grown hg hW3.size (fun k hk=>by cases hk;have h1:=HP.out.2.2.2;omega),fun h=>?_,kept_of hT3 hg (fun z hz e=>by cases e;have:=(HTL.out X0 hz).2;omega)⟩
   have hb5:=kdo_bookK (HKE.out.trans h)
   exact⟨ls_off (hL h).1 hg (two_no hr) (book_lv hb5).1,ls_off (hL h).2 hg (two_no hr) (book_lv hb5).2⟩
  go_upto_region 16 with fail
  go_cut [9,12] from 75 to 87 (fun s9 s12 wx=>∃x1 x2 b1 b2 e1 e2 X0,s9=.int .i64 PE∧s12=.pointer (some ⟨X0,0,none⟩)∧wx.heap[X0]?=some (.cells #[.slice x1 b1 e1,.slice x2 b2 e2] 24 (0,0))∧wx.heap[M]?=some (.cells #[.slice y1 l1 k1,.slice y2 l2 k2,.slice tq tn tc,.int .i64 lf,.int .i64 0,.slice none 0 0,.bool false] 31 (0,0))∧Aside (Below V.heap.size V wx∧(PE=0→LS wx (.slice x1 b1 e1) (kdoB bs ss ⟨a,b,c,1,p,q,s,t⟩)∧LS wx (.slice x2 b2 e2) (kdoS bs ss ⟨a,b,c,1,p,q,s,t⟩))∧OwnT wx V.heap.size (.slice tq tn tc) (metR bs ss ⟨a,b,c,1,p,q,s,t⟩).2.1))
  case first=>
   go_region_held3 (fun U=>Below w3.heap.size w3 U∧U.cell? ⟨M,0,none⟩=some (.slice y1 l1 k1)∧U.cell? ⟨M,1,none⟩=some (.slice y2 l2 k2)∧U.cell? ⟨M,3,none⟩=some (.int .i64 lf)∧U.cell? ⟨G,0,none⟩=some (.int .i64 a)∧U.cell? ⟨G,1,none⟩=some (.int .i64 b)∧U.cell? ⟨G,2,none⟩=some (.int .i64 c)∧U.cell? ⟨G,3,none⟩=some (.int .i64 1)∧U.cell? ⟨G,4,none⟩=some (.int .i64 p)∧U.cell? ⟨G,5,none⟩=some (.int .i64 q)∧U.cell? ⟨G,6,none⟩=some (.int .i64 s)∧U.cell? ⟨G,7,none⟩=some (.int .i64 t))
    ((refine SO.out _ ?_;(repeat' (first|with_reducible assumption|with_reducible refine bal ?_ _|with_reducible refine Below.setCell ?_ ?_ _|with_reducible refine Below.drew ?_|with_reducible exact bzR _ _|with_reducible exact nzR _|with_reducible exact Below.size (by with_reducible assumption)|with_reducible refine Nat.le_succ_of_le ?_))))
    (first|(go_at_call 18;with_reducible refine(HKP.out _ ?_).mono ?_;(repeat' (first|with_reducible assumption|with_reducible refine bal ?_ _|with_reducible refine Below.drew ?_|with_reducible exact bzR _ _|with_reducible exact nzR _|with_reducible exact Below.size (by with_reducible assumption)));rintro x Wk ⟨rfl,hbk,hbUk⟩;have yk:=True.intro;(try (have yk:=newBk2 hbUk)))|(go_at_call 17;with_reducible refine(HJO.out _ ?_).mono ?_;(repeat' (first|with_reducible assumption|with_reducible refine bal ?_ _|with_reducible refine Below.drew ?_|with_reducible exact bzR _ _|with_reducible exact nzR _|with_reducible exact Below.size (by with_reducible assumption)));rintro x W3 ⟨x1,x2,b1,b2,e1,e2,rfl,hl3,hb3,hbUj⟩;have yj:=True.intro;(try (have yj:=newBk hbUj));(try (have yj:=(hbUj.block _ (gzE.1 yk).1).trans yk));(try (have yh:=rowTwo yj;obtain⟨ya,yb,yc⟩:=yh;have yc0:=yc 0;have yc1:=yc 1));obtain⟨za,zb,zc⟩:=rowTwo (heap_alloc_new W3 (.cells #[.slice none 0 0,.slice none 0 0] 24));have zc0:=zc 0;have zc1:=zc 1))
   all_goals go_wp2_with fail
   all_goals go_meet
   all_goals first
    | exact⟨x1,x2,b1,b2,e1,e2,_,rfl,rfl,HRELA.out W3 x1 x2 b1 b2 e1 e2 hb3 hl3⟩
    | exact⟨x1,x2,b1,b2,e1,e2,_,rfl,rfl,HREL.out W3 x1 x2 b1 b2 e1 e2 _ hb3 hl3 hbk.size yj⟩
    | exact⟨x1,x2,b1,b2,e1,e2,_,rfl,rfl,HREL.out W3 x1 x2 b1 b2 e1 e2 _ hb3 hl3 (nzR _) yj⟩
  case rest=>
  obtain⟨x1,x2,b1,b2,e1,e2,X0,rfl,rfl,hrx,hrm4,HA4⟩:=hcut
  have HW4:=hidK HA4.out.1
  have HL4:=hidK HA4.out.2.1
  have HT4:=hidK HA4.out.2.2
  clear HA4 o0 o1 o2 o3 o4 o5 o6 o7 m0 m1 m2 m3 m4 m5 m6 SO HKP HJO HREL HRELA hrm HTT HLB HLS
  by_cases hP0:PE=0
  rotate_left
  ·have hP1:(PE != 0)=true:=by simp[hP0]
   obtain⟨hPO,hHX⟩:=HERR.out wc PE HW4.out (HKE.out) hP0
   have HPO:=hidK hPO
   have HHX:=hidK hHX
   obtain⟨⟨-,hzr,-⟩,-⟩:=HSO.out wc HW4.out
   obtain⟨z0,z1,z2,z3,z4,z5,z6,zf⟩:=rowSeven hzr
   have f0:=zf 0
   have f1:=zf 1
   have f2:=zf 2
   have f3:=zf 3
   have f4:=zf 4
   have f5:=zf 5
   have f6:=zf 6
   clear zf hzr hPO hHX HERR HSO HFIN hrm4 hrx hP0
   go_wp2_with fail
   generalize (((((((wc.setCell ⟨Q,0,none⟩ (.slice none 0 0)).setCell ⟨Q,1,none⟩ (.slice none 0 0)).setCell ⟨Q,2,none⟩ (.slice none 0 0)).setCell ⟨Q,3,none⟩ (.int .i64 0)).setCell ⟨Q,4,none⟩ (.int .i64 0)).setCell ⟨Q,5,none⟩ (.slice none 0 0)).setCell ⟨Q,6,none⟩ (.bool false))=ZZ at *
   obtain⟨y0',y1',y2',y3',y4',y5',y6',-⟩:=rowSeven HHX.out
   exact bodyPost_ret (v:=.tuple #[.agg #[.slice none 0 0,.slice none 0 0,.slice none 0 0,.int .i64 0,.int .i64 0,.slice none 0 0,.bool false],.int .i64 PE]) (by simp[results,Tryz.results5,go_sem,y0',y1',y2',y3',y4',y5',y6']) rfl HPO.out
  subst hP0
  obtain⟨v0,v1,-⟩:=rowTwo hrx
  obtain⟨m0,m1,m2,m3,m4,m5,m6,mf⟩:=rowSeven hrm4
  have mf0:=mf 0
  have mf1:=mf 1
  go_upto_region 20 with fail
  have hg5:=grTwo wc M (.slice x1 b1 e1) (.slice x2 b2 e2)
  have hrm5:=seven_two hrm4 (.slice x1 b1 e1) (.slice x2 b2 e2)
  have hbk5:=kdo_bookK HKE.out
  have HW5:=hidK (HW4.out.grown hg5 HW4.out.size (fun k hk=>by cases hk;exact HP.out.2.2.2))
  have HA5:=hidK (ls_off (HL4.out rfl).1 hg5 (met_no hrm4) (book_lv hbk5).1)
  have HB5:=hidK (ls_off (HL4.out rfl).2 hg5 (met_no hrm4) (book_lv hbk5).2)
  have HT5:=hidK (kept_of HT4.out hg5 (fun z hz e=>by cases e;have:=(HTL.out M hz).2;omega))
  clear v0 v1 m0 m1 m2 m3 m4 m5 m6 mf mf0 mf1 hg5 hrm4 hrx hbk5 HW4 HL4 HT4
  generalize (wc.setCell ⟨M,0,none⟩ (.slice x1 b1 e1)).setCell ⟨M,1,none⟩ (.slice x2 b2 e2)=W5 at *
  obtain⟨m0,m1,m2,m3,m4,m5,m6,-⟩:=rowSeven hrm5
  obtain⟨hPO,hHX⟩:=HFIN.out W5 x1 x2 b1 b2 e1 e2 lf 0 tq tn tc HW5.out HA5.out HB5.out HT5.out HKE.out HKV.out.2.2
  have HPO:=hidK hPO
  have HHX:=hidK hHX
  obtain⟨⟨-,hzr,-⟩,-⟩:=HSO.out W5 HW5.out
  obtain⟨z0,z1,z2,z3,z4,z5,z6,zf⟩:=rowSeven hzr
  have f0:=zf 0
  have f1:=zf 1
  have f2:=zf 2
  have f3:=zf 3
  have f4:=zf 4
  have f5:=zf 5
  have f6:=zf 6
  clear zf hzr hPO hHX HERR HSO HFIN hrm5
  go_wp2_with fail
  generalize (((((((W5.setCell ⟨Q,0,none⟩ (.slice x1 b1 e1)).setCell ⟨Q,1,none⟩ (.slice x2 b2 e2)).setCell ⟨Q,2,none⟩ (.slice tq tn tc)).setCell ⟨Q,3,none⟩ (.int .i64 lf)).setCell ⟨Q,4,none⟩ (.int .i64 0)).setCell ⟨Q,5,none⟩ (.slice none 0 0)).setCell ⟨Q,6,none⟩ (.bool false))=ZZ at *
  obtain⟨y0',y1',y2',y3',y4',y5',y6',-⟩:=rowSeven HHX.out
  exact bodyPost_ret (v:=.tuple #[.agg #[.slice x1 b1 e1,.slice x2 b2 e2,.slice tq tn tc,.int .i64 lf,.int .i64 0,.slice none 0 0,.bool false],.int .i64 0]) (by simp[results,Tryz.results5,go_sem,y0',y1',y2',y3',y4',y5',y6']) rfl HPO.out
 have hd23:d=2∨d=3:=by
  have h:=HKD.out
  have h5:=HD5.out
  omega
 have hst:stayB ⟨a,b,c,d,p,q,s,t⟩ lf=false:=by
  unfold stayB mayK
  rcases hd23 with rfl|rfl <;> simp
 have HKV:=hidK (show kdoE bs ss ⟨a,b,c,d,p,q,s,t⟩=0∧kdoB bs ss ⟨a,b,c,d,p,q,s,t⟩=metB bs ss ⟨a,b,c,d,p,q,s,t⟩∧kdoS bs ss ⟨a,b,c,d,p,q,s,t⟩=metS bs ss ⟨a,b,c,d,p,q,s,t⟩∧kdoG bs ss ⟨a,b,c,d,p,q,s,t⟩=lf by
  unfold kdoE kdoB kdoS kdoG setB setS setG setE
  rw[if_pos HDZ.out,HLF.out,if_pos HRF.out,hst]
  exact⟨rfl,rfl,rfl,rfl⟩)
 have hd1b:(d != 1)=true:=by simp[hd1]
 have hd5c:(d != 5)=true:=by simp[HD5.out]
 have mf4:=frozen_of_row w3 M 4 _ _ hrm
 clear hd23 hst hn4 hd1
 go_upto_region 15 with fail
 have hg5:=gr_setCell w3 M 4 (.int .i64 lf)
 have hrm5:(w3.setCell ⟨M,4,none⟩ (.int .i64 lf)).heap[M]?=some (.cells #[.slice y1 l1 k1,.slice y2 l2 k2,.slice tq tn tc,.int .i64 lf,.int .i64 lf,.slice none 0 0,.bool false] 31 (0,0)):=by
  have h0:=heap_setCell_same _ M 4 _ _ (.int .i64 lf) hrm
  simp only[List.setIfInBounds_toArray,List.set_cons_zero,List.set_cons_succ] at h0
  exact h0
 have HW5:=hidK (HW2.out.grown hg5 HW2.out.size (fun k hk=>by cases hk;exact HP.out.2.2.2))
 have HA5:=hidK (ls_off HLB.out hg5 (met_no hrm) (book_lv HMB.out).1)
 have HB5:=hidK (ls_off HLS.out hg5 (met_no hrm) (book_lv HMB.out).2)
 have HT5:=hidK (kept_of HTT.out hg5 (fun z hz e=>by cases e;have:=(HTL.out M hz).2;omega))
 clear o0 o1 o2 o3 o4 o5 o6 o7 m0 m1 m2 m3 m4 m5 m6 mf4 hg5 hrm HLB HLS HTT
 generalize w3.setCell ⟨M,4,none⟩ (.int .i64 lf)=W5 at *
 obtain⟨m0,m1,m2,m3,m4,m5,m6,-⟩:=rowSeven hrm5
 obtain⟨hPO,hHX⟩:=HFIN.out W5 y1 y2 l1 l2 k1 k2 lf lf tq tn tc HW5.out (by rw[HKV.out.2.1];exact HA5.out) (by rw[HKV.out.2.2.1];exact HB5.out) HT5.out HKV.out.1 HKV.out.2.2.2
 have HPO:=hidK hPO
 have HHX:=hidK hHX
 obtain⟨⟨-,hzr,-⟩,-⟩:=HSO.out W5 HW5.out
 obtain⟨z0,z1,z2,z3,z4,z5,z6,zf⟩:=rowSeven hzr
 have f0:=zf 0
 have f1:=zf 1
 have f2:=zf 2
 have f3:=zf 3
 have f4:=zf 4
 have f5:=zf 5
 have f6:=zf 6
 clear zf hzr hPO hHX HERR HSO HFIN hrm5
 go_wp2_with fail
 generalize (((((((W5.setCell ⟨Q,0,none⟩ (.slice y1 l1 k1)).setCell ⟨Q,1,none⟩ (.slice y2 l2 k2)).setCell ⟨Q,2,none⟩ (.slice tq tn tc)).setCell ⟨Q,3,none⟩ (.int .i64 lf)).setCell ⟨Q,4,none⟩ (.int .i64 lf)).setCell ⟨Q,5,none⟩ (.slice none 0 0)).setCell ⟨Q,6,none⟩ (.bool false))=ZZ at *
 obtain⟨y0',y1',y2',y3',y4',y5',y6',-⟩:=rowSeven HHX.out
 exact bodyPost_ret (v:=.tuple #[.agg #[.slice y1 l1 k1,.slice y2 l2 k2,.slice tq tn tc,.int .i64 lf,.int .i64 lf,.slice none 0 0,.bool false],.int .i64 0]) (by simp[results,Tryz.results5,go_sem,y0',y1',y2',y3',y4',y5',y6']) rfl HPO.out
end Go.Proofs.YtnjpjieedgmffaaGreatDoor.kin
