import Derived.Test.YtnjpjieedgmffaaGreatDoorBokFind
import Derived.Test.YtnjpjieedgmffaaGreatDoorQueTake1
import Derived.Test.YtnjpjieedgmffaaGreatDoorSidPut
import Derived.Shelf.Spec.SlicesInsertGrow
import Derived.Deep.MidRow
namespace Go.Proofs.YtnjpjieedgmffaaGreatDoor.bok
open Go.RowKit spn que sid
def WiPost (s:Int) (bs ss ls:List L) (b0:Nat) (w:World) (e:Ending) (w' : World):Prop:=
 ∃q1 q2 n1 n2 c1 c2,e=.returned (.agg #[.slice q1 n1 c1,.slice q2 n2 c2])∧DL w' b0 (.slice q1 n1 c1) (if s=1 then ls else bs)∧DL w' b0 (.slice q2 n2 c2) (if s=1 then ss else ls)∧Below w.heap.size w w'
set_option maxRecDepth 100000 in
set_option maxHeartbeats 2000000 in
theorem with_any (s:Int) (q1 q2 q3:Option Addr) (n1 n2 n3 c1 c2 c3:Nat) (bs ss ls:List L) (b0:Nat) (w:World) (h1:LS w (.slice q1 n1 c1) bs) (h2:LS w (.slice q2 n2 c2) ss) (h3:DL w b0 (.slice q3 n3 c3) ls) (hb0:b0≤w.heap.size) (k1:schk 1 bs=0) (k2:schk 2 ss=0) :
  Calls Tryz.prog 75 #[.agg #[.slice q1 n1 c1,.slice q2 n2 c2],.int .i64 s,.slice q3 n3 c3] w fun e w'=>WiPost s bs ss ls b0 w e w':=by
 have hlen:∀ {t:Int}{xs:List L},schk t xs=0→xs.length≤1000∧(∀l∈xs,l.rests.length≤1000):=fun {t xs} hk=>by
  obtain⟨-,z2,z3,-⟩:=schk_zero hk
  have:=len_cnt (sgo_each z2)
  exact⟨by omega,fun l hl=>by have:=rests_le hl;omega⟩
 have HF1:Hid (∀W,Below w.heap.size w W→Calls Tryz.prog 72 #[.slice q1 n1 c1] W fun e w'=>FreshPost W bs e w'):=fun W hW=>fresh_any _ bs W (h1.below hW) (hlen k1).1 (hlen k1).2 (side_ne k1)
 have HF2:Hid (∀W,Below w.heap.size w W→Calls Tryz.prog 72 #[.slice q2 n2 c2] W fun e w'=>FreshPost W ss e w'):=fun W hW=>fresh_any _ ss W (h2.below hW) (hlen k2).1 (hlen k2).2 (side_ne k2)
 have H3:Hid (DL w b0 (.slice q3 n3 c3) ls):=h3
 obtain⟨V,hV⟩:∃V,V=(w.alloc (.cells #[.slice q1 n1 c1,.slice q2 n2 c2] 24)).alloc (.cells #[.slice none 0 0,.slice none 0 0] 24):=⟨_,rfl⟩
 have HB:Hid (Below w.heap.size w V):=by rw[hV];exact((bzR _ _).alloc (nzR _) _).alloc (by simp) _
 have v0:V.cell? ⟨w.heap.size,0,none⟩=some (.slice q1 n1 c1):=by rw[hV];simp[go_sem]
 have v1:V.cell? ⟨w.heap.size,1,none⟩=some (.slice q2 n2 c2):=by rw[hV];simp[go_sem]
 have hR:V.heap[w.heap.size+1]?=some (.cells #[.slice none 0 0,.slice none 0 0] 24 (0,0)):=by
  rw[hV]
  have:=heap_alloc_new (w.alloc (.cells #[.slice q1 n1 c1,.slice q2 n2 c2] 24)) (.cells #[.slice none 0 0,.slice none 0 0] 24)
  simpa using this
 have hVs:w.heap.size+1 < V.heap.size:=(gzE.1 hR).1
 clear h1 h2 h3 k1 k2 hlen
 by_cases hs:s=1
 ·subst hs
  have HP:Hid (∀W q m c,Below w.heap.size w W→DL W b0 (.slice q m c) ss→DL W b0 (.slice q3 n3 c3) ls→WiPost 1 bs ss ls b0 w (.returned (.agg #[.slice q3 n3 c3,.slice q m c])) W):=fun W q m c hW ha hb=>⟨q3,q,n3,m,c3,c,rfl,by rw[if_pos rfl];exact hb,by rw[if_pos rfl];exact ha,hW⟩
  generalize WiPost 1 bs ss ls b0 w=POST at *
  go_enter Tryz.func75,Tryz.ntmps75
  go_wp2_with fail
  rw[←hV]
  refine(HF2.out V HB.out).mono ?_
  rintro e w1 ⟨v',ps,rfl,hps,hD,b1⟩
  obtain⟨q',c',hv'⟩:=OwnM.form hD.own
  generalize (ps.map (·.1)++([]:List rlv.RL)).length=m' at hv'
  subst hv'
  have hB1:Below w.heap.size w w1:=HB.out.trans (b1.mono HB.out.size)
  have hR1:w1.heap[w.heap.size+1]?=some (.cells #[.slice none 0 0,.slice none 0 0] 24 (0,0)):=by rw[b1.block _ hVs];exact hR
  obtain⟨e0,e1,hf⟩:=rowTwo hR1
  have f0:=hf 0
  have f1:=hf 1
  have HX:=setTwo hR1 (.slice q3 n3 c3) (.slice q' m' c')
  have hg:=grTwo w1 (w.heap.size+1) (.slice q3 n3 c3) (.slice q' m' c')
  have hD2:DL _ b0 _ _:=⟨ps,hps,(hD.other hg hVs).mono (Nat.le_trans hb0 HB.out.size)⟩
  have HPX:=HP.out _ q' m' c' (hB1.grown hg hB1.size (fun k hk=>by cases hk;omega)) hD2 (dl_grown H3.out hB1 hg (by omega))
  have HHX:Hid (((w1.setCell ⟨w.heap.size+1,0,none⟩ (.slice q3 n3 c3)).setCell ⟨w.heap.size+1,1,none⟩ (.slice q' m' c')).heap[w.heap.size+1]?=some (.cells #[.slice q3 n3 c3,.slice q' m' c'] 24 (0,0))):=HX
  clear hD hps hB1 hR1 hf HX hg hD2 HP HF1 HF2 b1 hR v0 v1
  go_wp2_with fail
  generalize (w1.setCell ⟨w.heap.size+1,0,none⟩ (.slice q3 n3 c3)).setCell ⟨w.heap.size+1,1,none⟩ (.slice q' m' c')=X at *
  obtain⟨y0,y1,-⟩:=rowTwo HHX.out
  exact bodyPost_ret (v:=.agg #[.slice q3 n3 c3,.slice q' m' c']) (by simp[results,Tryz.results75,go_sem,y0,y1]) rfl HPX
 ·have hs1:(s == 1)=false:=by simpa using hs
  have HP:Hid (∀W q m c,Below w.heap.size w W→DL W b0 (.slice q m c) bs→DL W b0 (.slice q3 n3 c3) ls→WiPost s bs ss ls b0 w (.returned (.agg #[.slice q m c,.slice q3 n3 c3])) W):=fun W q m c hW ha hb=>⟨q,q3,m,n3,c,c3,rfl,by rw[if_neg hs];exact ha,by rw[if_neg hs];exact hb,hW⟩
  generalize WiPost s bs ss ls b0 w=POST at *
  go_enter Tryz.func75,Tryz.ntmps75
  go_wp2_with fail
  rw[←hV]
  refine(HF1.out V HB.out).mono ?_
  rintro e w1 ⟨v',ps,rfl,hps,hD,b1⟩
  obtain⟨q',c',hv'⟩:=OwnM.form hD.own
  generalize (ps.map (·.1)++([]:List rlv.RL)).length=m' at hv'
  subst hv'
  have hB1:Below w.heap.size w w1:=HB.out.trans (b1.mono HB.out.size)
  have hR1:w1.heap[w.heap.size+1]?=some (.cells #[.slice none 0 0,.slice none 0 0] 24 (0,0)):=by rw[b1.block _ hVs];exact hR
  obtain⟨e0,e1,hf⟩:=rowTwo hR1
  have f0:=hf 0
  have f1:=hf 1
  have HX:=setTwo hR1 (.slice q' m' c') (.slice q3 n3 c3)
  have hg:=grTwo w1 (w.heap.size+1) (.slice q' m' c') (.slice q3 n3 c3)
  have hD2:DL _ b0 _ _:=⟨ps,hps,(hD.other hg hVs).mono (Nat.le_trans hb0 HB.out.size)⟩
  have HPX:=HP.out _ q' m' c' (hB1.grown hg hB1.size (fun k hk=>by cases hk;omega)) hD2 (dl_grown H3.out hB1 hg (by omega))
  have HHX:Hid (((w1.setCell ⟨w.heap.size+1,0,none⟩ (.slice q' m' c')).setCell ⟨w.heap.size+1,1,none⟩ (.slice q3 n3 c3)).heap[w.heap.size+1]?=some (.cells #[.slice q' m' c',.slice q3 n3 c3] 24 (0,0))):=HX
  clear hD hps hB1 hR1 hf HX hg hD2 HP HF1 HF2 b1 hR v0 v1
  go_wp2_with fail
  generalize (w1.setCell ⟨w.heap.size+1,0,none⟩ (.slice q' m' c')).setCell ⟨w.heap.size+1,1,none⟩ (.slice q3 n3 c3)=X at *
  obtain⟨y0,y1,-⟩:=rowTwo HHX.out
  exact bodyPost_ret (v:=.agg #[.slice q' m' c',.slice q3 n3 c3]) (by simp[results,Tryz.results75,go_sem,y0,y1]) rfl HPX
end Go.Proofs.YtnjpjieedgmffaaGreatDoor.bok
namespace Go.Proofs.YtnjpjieedgmffaaGreatDoor.sid
open Go.RowKit spn que
theorem run_copy_wide {P:Program}(w:World) (dT sT ty elem:TypeId) (size:Nat) (b o dLen dCap:Nat) (a:Addr) (sLen sCap:Nat) (cs:List Value)
  (hu:P.underlying dT=some (.slice elem)) (hs:(P.info? elem).map (·.size)=some size) (hn:cs.length=Nat.min sLen dLen * size)
  (hsrc:∀j v,cs[j]?=some v→w.cell? (a.add j)=some v) (ht:w.there b o cs.length) (h1:∀v∈cs,v.oneCell'=true) :
  (Builtin.copy_ #[dT,sT] ty #[.slice (some ⟨b,o,none⟩) dLen dCap,.slice (some a) sLen sCap]).run P w=.ok (goInt (Nat.min sLen dLen)) (w.setCells b o cs):=by
 have hl:=run_firstCells_some (P:=P) w size (Nat.min sLen dLen) a sLen sCap cs hn hsrc
 have hst:=run_storeCells_cells (P:=P) b o cs 0 w (by simpa using fun j hj=>(ht j hj).1) (by simpa using fun j hj=>(ht j hj).2) h1
 cases hq:P.info? elem with
 | none=>simp[hq] at hs
 | some i=>
  have hi:i.size=size:=by simpa [hq] using hs
  simp[Builtin.copy_,run_underlying hu,Builtin.lenOf,sizeOf,typeInfo,hq,hi]
  rw[show Nat.min sLen dLen=min sLen dLen from rfl] at hl
  simp[hl,hst]
theorem setCells_blk (g:Nat) (e:TypeId) (fr:Nat × Nat):∀ (vs:List Value) (o:Nat) (w:World) (cur:Array Value),w.heap[g]?=some (.cells cur e fr)→∃cur',(w.setCells g o vs).heap[g]?=some (.cells cur' e fr)∧cur'.size=cur.size
 | [],_,w,cur,h=>⟨cur,h,rfl⟩
 | v::r,o,w,cur,h=>by
  have hlt:g < w.heap.size:=(gzE.1 h).1
  have h1:(w.setCell ⟨g,o,none⟩ v).heap[g]?=some (.cells (cur.setIfInBounds o v) e fr):=by
   rw[setCell_eq_setRow w g o cur e fr v h];exact setRow_heap w g cur _ e fr h
  obtain⟨c,h2,h3⟩:=setCells_blk g e fr r (o+1) _ _ h1
  exact⟨c,h2,by rw[h3];simp⟩
theorem gr_setCells (g:Nat):∀ (vs:List Value) (o:Nat) (w:World),w.grownBy (w.setCells g o vs) (some g)
 | [],_,_=>⟨rfl,rfl,rfl,nzR _,fun _ _ _=>rfl⟩
 | v::r,o,w=>gr_trans (gr_setCell w g o v) (gr_setCells g r (o+1) _)
theorem gr_drew (w:World) (row:Option Nat):w.grownBy w.drew row:=⟨rfl,rfl,rfl,nzR _,fun _ _ _=>rfl⟩
theorem own_of {w:World}{base:Nat}{e:TypeId}{sz:Nat}{g off n cap:Nat}{xs:List Value}(hl:xs.length=n * sz) (hb:base≤g) {cur:Array Value}(hg:w.heap[g]?=some (.cells cur e (0,0)))
  (hs:off+cap * sz≤cur.size) (hn:n≤cap) (hm:cap≤maxLen) (hr:w.rangeAt g off xs):OwnM w base e sz (.slice (some ⟨g,off,none⟩) n cap) n xs:=by
 refine⟨hl,.inr ⟨g,off,cap,cur,rfl,hb,hg,hn,hm,hs,?_⟩⟩
 apply List.ext_getElem?
 intro j
 rw[List.getElem?_take]
 have hle:n * sz≤cap * sz:=Nat.mul_le_mul_right _ hn
 by_cases hj:j < n * sz
 ·rw[if_pos hj,List.getElem?_drop]
  have hx:xs[j]?=some xs[j]:=List.getElem?_eq_getElem (by omega)
  rw[hx,Array.getElem?_toList,←cell_of_row w g (off+j) cur e (0,0) hg]
  exact hr j _ hx
 ·rw[if_neg hj,List.getElem?_eq_none (by omega)]
theorem own_range {w:World}{base:Nat}{e:TypeId}{sz:Nat}{g off n cap:Nat}{xs:List Value}(h:OwnM w base e sz (.slice (some ⟨g,off,none⟩) n cap) n xs) :
  xs.length=n * sz∧base≤g∧(∃cur,w.heap[g]?=some (.cells cur e (0,0))∧off+cap * sz≤cur.size)∧n≤cap∧cap≤maxLen∧w.rangeAt g off xs∧w.there g off (cap * sz):=by
 obtain⟨hc,hf,hb,-⟩:=OwnM.cells h
 rcases h.2 with ⟨h1,_⟩|⟨g',off',cap',cur,h1,h2,h3,h4,h5,h6,h7⟩
 ·cases h1
 ·cases h1
  refine⟨h.1,hb,⟨cur,h3,h6⟩,h4,h5,hc,fun j hj=>⟨?_,hf _⟩⟩
  rw[cell_of_row w g (off+j) cur e (0,0) h3,Array.getElem?_eq_getElem (by omega)];rfl
theorem range_append {w:World}{b o:Nat}{xs ys:List Value}(h1:w.rangeAt b o xs) (h2:w.rangeAt b (o+xs.length) ys):w.rangeAt b o (xs++ys):=by
 intro j v hv
 by_cases hj:j < xs.length
 ·rw[List.getElem?_append_left hj] at hv;exact h1 j v hv
 ·rw[List.getElem?_append_right (by omega)] at hv
  have:=h2 (j - xs.length) v hv
  rwa [show o+xs.length+(j - xs.length)=o+j by omega] at this
theorem range_left {w:World}{b o:Nat}{xs ys:List Value}(h:w.rangeAt b o (xs++ys)):w.rangeAt b o xs:=fun j v hv=>h j v (by rw[List.getElem?_append_left (List.getElem?_eq_some_iff.1 hv).1];exact hv)
theorem range_right {w:World}{b o:Nat}{xs ys:List Value}(h:w.rangeAt b o (xs++ys)):w.rangeAt b (o+xs.length) ys:=fun j v hv=>by
 have:=h (xs.length+j) v (by rw[List.getElem?_append_right (by omega)];simpa using hv)
 rwa [←Nat.add_assoc] at this
theorem own_cap (q:Option Addr) (n c d:Nat):(Value.slice q n c).ownBlock=(Value.slice q n d).ownBlock:=by cases q <;> rfl
def InsPost (w:World) (base:Nat) (v:Value) (n:Nat) (xs:List Value) (e:Ending) (w' : World):Prop:=
 ∃v',e=.returned v'∧OwnM w' base 51 2 v' n xs∧w.grownBy w' v.ownBlock∧(v'.ownBlock=v.ownBlock∨∃k,v'.ownBlock=some k∧w.heap.size≤k)
set_option maxRecDepth 100000 in
set_option maxHeartbeats 1000000 in
theorem insert_end (w:World) (base:Nat) (v:Value) (n:Nat) (xs:List Value) (vb m vc:Nat) (vs:List Value) (ho:OwnM w base 51 2 v n xs) (hbase:base≤w.heap.size) (hm:0 < m) (hml:m≤1000) (hnl:n≤10000)
  (hvl:vs.length=m * 2) (hvs:w.rangeAt vb 0 vs) (h1:∀u∈vs,u.oneCell'=true) :
  Calls Tryz.prog 118 #[v,.int .i64 n,.slice (some ⟨vb,0,none⟩) m vc] w fun e w'=>InsPost w base v (n+m) (xs++vs) e w':=by
 obtain⟨i0,hi,hz0,hz1,hz2⟩:=rlv.infoR'
 have HI:Hid (Tryz.prog.info? 51=some i0):=hi
 have HO:Hid (OwnM w base 51 2 v n xs):=ho
 obtain⟨q,c,hv⟩:=OwnM.form ho
 have HC:Hid (n≤c∧c≤9223372036854775807):=by
  rcases ho.2 with ⟨e,hn0⟩|⟨g,off,cap,cur,e,-,-,hcap,hcm,-,-⟩
  ·rw[e] at hv;cases hv;exact⟨by omega,by omega⟩
  ·rw[e] at hv;cases hv;exact⟨hcap,by simpa [maxLen] using hcm⟩
 have HVS:Hid (∀j u,vs[j]?=some u→w.cell? ((⟨vb,0,none⟩:Addr).add j)=some u):=fun j u hu=>by rw[Addr.add_lit];exact hvs j u hu
 have HPOST:Hid (∀v' w',OwnM w' base 51 2 v' (n+m) (xs++vs)→w.grownBy w' v.ownBlock→(v'.ownBlock=v.ownBlock∨v'.ownBlock=some w.heap.size)→InsPost w base v (n+m) (xs++vs) (.returned v') w'):=fun v' w' h1 h2 h3=>⟨v',rfl,h1,h2,h3.imp id (fun e=>⟨_,e,nzR _⟩)⟩
 generalize InsPost w base v (n+m) (xs++vs)=POST at *
 clear hi ho hvs
 obtain⟨hc1,hc2⟩:=HC.out
 have hz3:¬((m:Int)=0):=by omega
 have hz4:¬(m=0):=by omega
 have hn0:¬((n:Int) < 0):=by omega
 subst hv
 go_enter Tryz.func118,Tryz.ntmps118
 go_wp2_with (at_builtin;(refine wpList_append_mid _ rfl _ _ 22 rfl base 51 i0 rlv.zeroR 2 32 Tryz.underlying22 HI.out hz0 hz1 hz2 rfl (.slice q n c) n xs rfl HO.out ⟨vb,0,none⟩ m vc vs rfl hvl HVS.out h1 (by unfold maxLen;omega) (by omega) hbase ?_))
 all_goals
  intro v' w' hO' hgr hat
  have HX:=HPOST.out v' w' hO' (by rw[own_cap q n c 0];rw[own_cap q n _ 0] at hgr;exact hgr) (by rw[own_cap q n c 0];rw[own_cap q n _ 0] at hat;exact hat)
  clear hO' hgr hat HPOST
  go_wp2_with fail
  exact HX
end Go.Proofs.YtnjpjieedgmffaaGreatDoor.sid
namespace Go.Proofs.YtnjpjieedgmffaaGreatDoor.sid
open Go.RowKit spn que
theorem run_clear_wide {P:Program}(w:World) (t e ty:TypeId) (z:Value) (size:Nat) (ht:P.underlying t=some (.slice e)) (hv:∀w,(zeroValue e).run P w=.ok z w) (hz:z.cells.size=size) (h1:z.cells.all (·.oneCell')=true) (b o n c:Nat) (hn:0 < n) (hth:w.there b o (n * size)) :
  (Builtin.clear_ #[t] ty #[.slice (some ⟨b,o,none⟩) n c]).run P w=.ok (.tuple #[]) (w.setCells b o (Builtin.zeroCells z.cells n).toList):=by
 have hl:(Builtin.zeroCells z.cells n).toList.length=n * size:=by rw[Array.length_toList,size_zeroCells,hz]
 have h1c:∀v∈(Builtin.zeroCells z.cells n).toList,v.oneCell'=true:=by
  intro v hv'
  rw[Array.mem_toList_iff] at hv'
  simp only[Builtin.zeroCells] at hv'
  rw[Array.all_eq_true] at h1
  rw[Array.mem_map] at hv'
  obtain⟨k,hk,rfl⟩:=hv'
  rw[Array.mem_range] at hk
  have hpos:0 < z.cells.size:=Nat.pos_of_ne_zero fun e=>by rw[e] at hk;simp at hk
  have hp:k % z.cells.size < z.cells.size:=Nat.mod_lt _ hpos
  rw[getElem!_pos z.cells _ hp]
  exact h1 _ hp
 have hst:=run_storeCells_cells (P:=P) b o (Builtin.zeroCells z.cells n).toList 0 w (by rw[hl];simpa using fun j hj=>(hth j hj).1) (by rw[hl];simpa using fun j hj=>(hth j hj).2) h1c
 simp only[Nat.add_zero] at hst
 obtain⟨m,rfl⟩:∃m,n=m+1:=⟨n - 1,by omega⟩
 simp[Builtin.clear_,run_underlying ht,hv,hst]
theorem sizeL:(Tryz.prog.info? 51).map (·.size)=some 2:=by kernel_rfl
theorem sizeOfL (w:World):(Go.sizeOf 51).run Tryz.prog w=.ok 2 w:=by kernel_rfl
set_option maxRecDepth 100000 in
set_option maxHeartbeats 4000000 in
theorem insert_shift (w:World) (base g off n c i vb m vc:Nat) (xs vs:List Value) (vcur:Array Value) (tA:TypeId) (ho:OwnM w base 51 2 (.slice (some ⟨g,off,none⟩) n c) n xs) (hi:i < n) (hm:0 < m) (hml:m≤1000) (hroom:n+m≤c)
  (hvb:vb≠g) (hvl:vs.length=m * 2) (hvs:w.rangeAt vb 0 vs) (hvc:w.heap[vb]?=some (.cells vcur tA (0,0))) (h1x:∀u∈xs,u.oneCell'=true) (h1:∀u∈vs,u.oneCell'=true) :
  Calls Tryz.prog 118 #[.slice (some ⟨g,off,none⟩) n c,.int .i64 i,.slice (some ⟨vb,0,none⟩) m vc] w fun e w'=>InsPost w base (.slice (some ⟨g,off,none⟩) n c) (n+m) (xs.take (i * 2)++vs++xs.drop (i * 2)) e w':=by
 obtain⟨hxl,hbg,⟨cur,hcur,hcs⟩,hnc,hcm,hrg,hth⟩:=own_range ho
 have hc63:c≤9223372036854775807:=by simpa [maxLen] using hcm
 have hcs2:0 < cur.size:=by omega
 have hov:∀lb cb,(callFunc 122 #[.slice (some ⟨vb,0,none⟩) m vc,.slice (some ⟨g,off+(i+m) * 2,none⟩) lb cb]).run Tryz.prog w=.ok (.value (.bool false)) w:=fun lb cb=>by
  rw[run_callFunc_extern Tryz.func122 (by kernel_rfl) (by kernel_rfl) (by kernel_rfl) (e:=Extern.SlicesOverlaps.overlaps #[22,22] #[4]) (by kernel_rfl),
   Lib.run_overlaps_apart w 22 4 51 Tryz.underlying22 2 sizeOfL ⟨vb,0,none⟩ ⟨g,off+(i+m) * 2,none⟩ m vc lb cb hvb tA 51 vcur.size cur.size (by simp[World.shape?,hvc]) (by simp[World.shape?,hcur]) (by omega) (by simp[World.frozen?,hvc]) (by simp[World.frozen?,hvc])]
  rfl
 have hdl:(xs.drop (i * 2)).length=(n - i) * 2:=by rw[List.length_drop,hxl];omega
 have htl:(xs.take (i * 2)).length=i * 2:=by rw[List.length_take,hxl];omega
 have hx:xs=xs.take (i * 2)++xs.drop (i * 2):=(List.take_append_drop _ _).symm
 have hr1:w.rangeAt g off (xs.take (i * 2)):=by rw[hx] at hrg;exact range_left hrg
 have hr2:w.rangeAt g (off+i * 2) (xs.drop (i * 2)):=by rw[hx] at hrg;have:=range_right hrg;rwa [htl] at this
 have hthX:∀o k,o+k≤c * 2→w.there g (off+o) k:=fun o k hk j hj=>by rw[Nat.add_assoc];exact hth (o+j) (by omega)
 have hcp1:∀ty dc sc,(Builtin.copy_ #[22,22] ty #[.slice (some ⟨g,off+(i+m) * 2,none⟩) (n+m - (i+m)) dc,.slice (some ⟨g,off+i * 2,none⟩) (n+m - i) sc]).run Tryz.prog w.drew=.ok (goInt ((n - i:Nat):Int)) (w.drew.setCells g (off+(i+m) * 2) (xs.drop (i * 2))):=fun ty dc sc=>by
  have:=run_copy_wide (P:=Tryz.prog) w.drew 22 22 ty 51 2 g (off+(i+m) * 2) (n+m - (i+m)) dc ⟨g,off+i * 2,none⟩ (n+m - i) sc (xs.drop (i * 2)) Tryz.underlying22 sizeL (by rw[hdl];congr 1;simp only[Nat.min_def];split <;> omega)
   (fun j v hj=>by rw[Addr.add_lit];exact hr2 j v hj) ((World.there_drew _ _ _ _).2 (hthX _ _ (by rw[hdl];omega))) (fun v hv=>h1x v (List.mem_of_mem_drop hv))
  rw[show Nat.min (n+m - i) (n+m - (i+m))=n - i by simp only[Nat.min_def];split <;> omega] at this
  exact this
 obtain⟨W1,hW1⟩:∃W1,W1=w.drew.setCells g (off+(i+m) * 2) (xs.drop (i * 2)):=⟨_,rfl⟩
 have hvs1:W1.rangeAt vb 0 vs:=by rw[hW1];exact World.rangeAt_setCells_apart ((World.rangeAt_drew _ _ _ _).2 hvs) _ _ _ (.inl hvb)
 have hth1:W1.there g (off+i * 2) (m * 2):=by rw[hW1];exact World.there_setCells ((World.there_drew _ _ _ _).2 (hthX _ _ (by omega))) _ _ _
 have hcp2:∀ (W:World),(∀x,W.cell? x=W1.cell? x)→(∀x,W.frozen? x=W1.frozen? x)→∀ty dc,(Builtin.copy_ #[22,22] ty #[.slice (some ⟨g,off+i * 2,none⟩) (n+m - i) dc,.slice (some ⟨vb,0,none⟩) m vc]).run Tryz.prog W=.ok (goInt m) (W.setCells g (off+i * 2) vs):=fun W hWc hWf ty dc=>by
  have:=run_copy_wide (P:=Tryz.prog) W 22 22 ty 51 2 g (off+i * 2) (n+m - i) dc ⟨vb,0,none⟩ m vc vs Tryz.underlying22 sizeL (by rw[hvl];congr 1;simp only[Nat.min_def];split <;> omega)
   (fun j v hj=>by rw[Addr.add_lit,hWc];exact hvs1 j v hj) (fun j hj=>by rw[hvl] at hj;rw[hWc,hWf];exact hth1 j hj) h1
  rw[show Nat.min m (n+m - i)=m by simp only[Nat.min_def];split <;> omega] at this
  exact this
 have HPOST:Hid (InsPost w base (.slice (some ⟨g,off,none⟩) n c) (n+m) (xs.take (i * 2)++vs++xs.drop (i * 2)) (.returned (.slice (some ⟨g,off,none⟩) (n+m) c)) (W1.setCells g (off+i * 2) vs)):=by
  obtain⟨cur1,hb1,hs1⟩:=setCells_blk g 51 (0,0) (xs.drop (i * 2)) (off+(i+m) * 2) w.drew cur hcur
  rw[←hW1] at hb1
  obtain⟨cur2,hb2,hs2⟩:=setCells_blk g 51 (0,0) vs (off+i * 2) W1 cur1 hb1
  refine⟨_,rfl,own_of ?_ hbg hb2 (by rw[hs2,hs1];exact hcs) hroom hcm ?_,?_,.inl rfl⟩
  ·rw[List.length_append,List.length_append,htl,hvl,hdl];omega
  ·refine range_append (range_append ?_ ?_) ?_
   ·refine World.rangeAt_setCells_apart ?_ _ _ _ (.inr (.inl (by rw[htl];omega)))
    rw[hW1]
    exact World.rangeAt_setCells_apart ((World.rangeAt_drew _ _ _ _).2 hr1) _ _ _ (.inr (.inl (by rw[htl];omega)))
   ·rw[htl]
    exact World.rangeAt_setCells_same _ _ _ _ (by rw[hvl];exact hth1)
   ·rw[List.length_append,htl,hvl]
    refine World.rangeAt_setCells_apart ?_ _ _ _ (.inr (.inr (by rw[hvl];omega)))
    rw[hW1,show off+(i * 2+m * 2)=off+(i+m) * 2 by omega]
    exact World.rangeAt_setCells_same _ _ _ _ ((World.there_drew _ _ _ _).2 (hthX _ _ (by rw[hdl];omega)))
  ·rw[hW1]
   exact gr_trans (gr_trans (gr_drew _ _) (gr_setCells g _ _ _)) (gr_setCells g _ _ _)
 generalize InsPost w base (.slice (some ⟨g,off,none⟩) n c) (n+m) (xs.take (i * 2)++vs++xs.drop (i * 2))=POST at *
 rw[←hW1] at hcp1
 have hz1:¬((m:Int)=0):=by omega
 have hz4:¬(m=0):=by omega
 have hz2:¬((i:Int)=(n:Int)):=by omega
 have hw1:IntKind.i64.wrap ((i:Int)+(m:Int))=(i:Int)+(m:Int):=by rw[IntKind.wrap_i64];omega
 have hb1:(0:Int)≤(i:Int)+(m:Int):=by omega
 have hin:i≤n:=by omega
 have htn:((i:Int)+(m:Int)).toNat=i+m:=by omega
 have hb2:¬(c=i+m):=by omega
 have hb3:(i:Int)≤(n:Int)+(m:Int):=by omega
 have hb4:¬(c=i):=by omega
 have hn63:(n:Int)+(m:Int)≤9223372036854775807:=by omega
 clear ho hxl hcur hcs hrg hth hdl htl hx hr1 hr2 hthX hvs1 hth1 hvl hvs hvc h1 h1x hcm hbg hcs2
 have mixed:Tryz.prog.follows Departure.mixedOrders=true:=by kernel_rfl
 go_enter Tryz.func118,Tryz.ntmps118
 go_wp2_with (simp only[hov])
 go_region_law_o (refine step_copy_runI rfl _ _ 22 22 rfl _ _ (by simp[Act.eval,Act.put]) (by simp[Act.eval,Act.put]) (hcp1 _ _ _) ?_)
 go_wp2_with (at_builtin;refine wpList_copy_runI _ rfl _ _ 22 22 rfl _ _ rfl rfl (hcp2 _ (fun _=>rfl) (fun _=>rfl) _ _) ?_)
 have HX:=HPOST.out
 first|exact HX|(rw[hW1] at HX;exact HX)
end Go.Proofs.YtnjpjieedgmffaaGreatDoor.sid
