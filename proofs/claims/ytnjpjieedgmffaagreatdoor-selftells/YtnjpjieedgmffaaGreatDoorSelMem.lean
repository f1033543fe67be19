import Derived.Test.YtnjpjieedgmffaaGreatDoorSelPure
import Derived.Test.YtnjpjieedgmffaaGreatDoorMeeLvl
import Derived.Test.YtnjpjieedgmffaaGreatDoorMeeOwn
namespace Go.Proofs.YtnjpjieedgmffaaGreatDoor.slf
open Go.RowKit spn que sid bok mee
open ord (O mB chk)
open tickP (priceB sideB betOk betR)
def part (o:O) (k:Int):O:=⟨o.id,o.who,o.side,o.kind,o.price,k,0,o.stop⟩
theorem tkl_part (o:O) (k:Int):∀ (ls:List L) (q:Int),tkl (part o k) ls q=tkl o ls q:=by
 intro ls
 induction ls with
 | nil=>intro q;rfl
 | cons l t ih=>
  intro q
  have e1:trd (part o k) l.price=trd o l.price:=rfl
  have e2:mB (part o k) l.price=mB o l.price:=rfl
  rw[tkl,tkl,e1,e2,ih]
theorem chk_part {o:O}{k:Int}(h:chk o=0) (h1:1≤k) (h2:k≤o.qty):chk (part o k)=0:=by
 obtain⟨a,b,c,d,e⟩:=ord.chk_zero h
 have a' : ord.headB (part o k)=true:=a
 have b' : ord.priceOkB (part o k)=true:=b
 have e' : ord.stopB (part o k)=true:=e
 have c' : ord.qtyB (part o k)=true:=by
  simp[ord.qtyB] at c
  obtain⟨⟨⟨c1,c2⟩,c3⟩,c4⟩:=c
  show (decide (1≤k) && decide (k≤10000) && decide ((0:Int)≤0) && decide ((0:Int)≤k))=true
  simp only[Bool.and_eq_true,decide_eq_true_eq]
  omega
 have d' : ord.shapeB (part o k)=true:=by simp[ord.shapeB,part]
 unfold chk
 rw[a',b',c',d',e']
 rfl
def repB (o:O) (bs X:List L):List L:=if o.side=1 then bs else X
def repS (o:O) (ss X:List L):List L:=if o.side=1 then X else ss
structure Less (ls X:List L):Prop where
 ids:∀i∈(allR X).map (·.id),i∈(allR ls).map (·.id)
 two:((allR ls).map (·.id)).Nodup→((allR X).map (·.id)).Nodup
 len:(allR X).length≤(allR ls).length
 price:∀x∈X,∃l∈ls,l.price=x.price
 sgo:∀s prev,sideB s=true→sid.sgo s prev ls=0→sid.sgo s prev X=0
theorem Less.refl (ls:List L):Less ls ls:=⟨fun _ h=>h,fun h=>h,nzR _,fun x hx=>⟨x,hx,rfl⟩,fun _ _ _ h=>h⟩
theorem Less.trans {a b c:List L}(h:Less a b) (k:Less b c):Less a c:=
 ⟨fun i hi=>h.ids i (k.ids i hi),fun x=>k.two (h.two x),Nat.le_trans k.len h.len,fun x hx=>by
  obtain⟨y,hy,e⟩:=k.price x hx
  obtain⟨z,hz,e2⟩:=h.price y hy
  exact⟨z,hz,e2.trans e⟩,fun s prev hs hp=>k.sgo s prev hs (h.sgo s prev hs hp)⟩
theorem less_tkl {o:O}{ls:List L}{q:Int}(hq:0≤q) (hl:∀l∈ls,lchk l=0):Less ls (tkl o ls q).1:=by
 obtain⟨i1,i2,i3,i4⟩:=tkl_ids (o:=o) ls q hq hl
 exact⟨i1,i2,i3,i4,fun s prev hs h=>tkl_sgo hs ls q prev hq h⟩
theorem tkl_good {o:O}{q:Int}(hq:0≤q):∀ {ls:List L},(∀l∈ls,lchk l=0)→∀l∈(tkl o ls q).1,lchk l=0:=by
 intro ls
 induction ls generalizing q with
 | nil=>intro _ l hl;simp[tkl] at hl
 | cons x t ih=>
  intro hg l hl
  by_cases hc:0 < q∧mB o x.price=true
  ·have hx:=hg x (by simp)
   obtain⟨f1,f2,f3,f4,f5,f6,f7⟩:=take_all (lchk_zero hx).2.2 (q:=q) (by omega)
   rcases tkl_step (t:=t) hc.1 hc.2 hx with ⟨he,e⟩|⟨he,hz,e⟩
   ·rw[e] at hl
    exact ih (by omega) (fun y hy=>hg y (by simp[hy])) l hl
   ·rw[e] at hl
    rcases List.mem_cons.1 hl with rfl|hl
    ·exact lchk_of (price_of hx) he f4
    ·exact hg l (by simp[hl])
  ·rw[tkl_done hc] at hl;exact hg l hl
theorem less_out {p:Int}{r:R}{rs:List R}{t:List L}(hl:∀l∈(⟨p,r::rs⟩::t:List L),lchk l=0):Less (⟨p,r::rs⟩::t) (stepL p rs t):=by
 have ha:allR (stepL p rs t)=rs++allR t:=by
  unfold stepL
  by_cases e:rs=[]
  ·rw[if_pos e,e];rfl
  ·rw[if_neg e,allR_cons]
 have hb:allR (⟨p,r::rs⟩::t)=r::(rs++allR t):=by rw[allR_cons];rfl
 refine⟨fun i hi=>?_,fun h=>?_,?_,fun x hx=>?_,fun s prev hs h=>?_⟩
 ·rw[ha] at hi;rw[hb,List.map_cons];exact List.mem_cons_of_mem _ hi
 ·rw[hb,List.map_cons] at h;rw[ha];exact(List.nodup_cons.1 h).2
 ·rw[ha,hb,List.length_cons];omega
 ·unfold stepL at hx
  by_cases e:rs=[]
  ·rw[if_pos e] at hx;exact⟨x,by simp[hx],rfl⟩
  ·rw[if_neg e] at hx
   rcases List.mem_cons.1 hx with rfl|hx
   ·exact⟨⟨p,r::rs⟩,by simp,rfl⟩
   ·exact⟨x,by simp[hx],rfl⟩
 ·obtain⟨h1,h2,h3⟩:=sgo_cons h
  have hg:=out_good hl
  unfold stepL at hg ⊢
  by_cases e:rs=[]
  ·rw[if_pos e];exact sgo_weak hs h3 h2
  ·rw[if_neg e] at hg ⊢;exact sgo_mk (hg _ (by simp)) h2 h3
theorem less_schk {s:Int}{ls X:List L}(h:schk s ls=0) (hl:Less ls X):schk s X=0:=by
 obtain⟨z1,z2,z3,z4⟩:=schk_zero h
 have hlen:=hl.len
 refine schk_ok z1 (hl.sgo s none z1 z2) ?_ (by rw[ids_allR] at *;exact hl.two z4)
 rw[cnt_allR] at *
 omega
theorem rep_book {bs ss X:List L}{o:O}(hb:bookE bs ss=0) (hl:Less (otherL bs ss o) X):bookE (repB o bs X) (repS o ss X)=0:=by
 obtain⟨e1,e2,e3,e4,e5⟩:=book_zero hb
 have hp1:=(sgo_ahd (schk_zero e1).1 bs none (schk_zero e1).2.1).1
 have hp2:=(sgo_ahd (schk_zero e2).1 ss none (schk_zero e2).2.1).1
 unfold twiceB at e4
 simp only[decide_eq_false_iff_not,Classical.not_not] at e4
 rw[List.map_append] at e4
 obtain⟨n1,n2,n3⟩:=List.nodup_append.1 e4
 rw[List.length_append] at e5
 unfold repB repS
 unfold otherL at hl
 by_cases hs:o.side=1
 ·simp only[if_pos hs] at hl ⊢
  have k2:=less_schk e2 hl
  have hlen:=hl.len
  unfold bookE
  rw[if_pos e1,if_pos k2,if_neg,if_neg,if_neg]
  ·rw[List.length_append];omega
  ·unfold twiceB
   simp only[decide_eq_true_eq,Classical.not_not]
   rw[List.map_append]
   exact List.nodup_append.2 ⟨n1,hl.two n2,fun a ha b hb=>n3 a ha b (hl.ids b hb)⟩
  ·intro hx
   unfold crossB at hx e3
   simp only[Bool.and_eq_true,Bool.not_eq_true',List.isEmpty_eq_false_iff,decide_eq_true_eq] at hx
   obtain⟨x1,x2,x3⟩:=hx
   obtain⟨l',hl',e'⟩:=best_mem x2
   obtain⟨l,hl2,el⟩:=hl.price l' hl'
   have hne:ss≠[]:=fun e=>by rw[e] at hl2;cases hl2
   have hb2:=best_first hp2 hl2
   simp only[Bool.and_eq_false_iff,Bool.not_eq_false',List.isEmpty_iff,decide_eq_false_iff_not] at e3
   rcases e3 with e|e|e
   ·exact x1 e
   ·exact hne e
   ·unfold ahd at hb2
    simp at hb2
    omega
 ·simp only[if_neg hs] at hl ⊢
  have k1:=less_schk e1 hl
  have hlen:=hl.len
  unfold bookE
  rw[if_pos k1,if_pos e2,if_neg,if_neg,if_neg]
  ·rw[List.length_append];omega
  ·unfold twiceB
   simp only[decide_eq_true_eq,Classical.not_not]
   rw[List.map_append]
   exact List.nodup_append.2 ⟨hl.two n1,n2,fun a ha b hb=>n3 a (hl.ids a ha) b hb⟩
  ·intro hx
   unfold crossB at hx e3
   simp only[Bool.and_eq_true,Bool.not_eq_true',List.isEmpty_eq_false_iff,decide_eq_true_eq] at hx
   obtain⟨x1,x2,x3⟩:=hx
   obtain⟨l',hl',e'⟩:=best_mem x1
   obtain⟨l,hl2,el⟩:=hl.price l' hl'
   have hne:bs≠[]:=fun e=>by rw[e] at hl2;cases hl2
   have hb2:=best_first hp1 hl2
   simp only[Bool.and_eq_false_iff,Bool.not_eq_false',List.isEmpty_iff,decide_eq_false_iff_not] at e3
   rcases e3 with e|e|e
   ·exact hne e
   ·exact x2 e
   ·unfold ahd at hb2
    simp at hb2
    omega
theorem rep_come {bs ss X:List L}{o:O}{k:Int}(h:comeE bs ss o=0) (hl:Less (otherL bs ss o) X) (h1:1≤k) (h2:k≤o.qty):comeE (repB o bs X) (repS o ss X) (part o k)=0:=by
 obtain⟨hb,hc,hst,hin⟩:=come_zero h
 have hk:=rep_book hb hl
 unfold comeE
 rw[if_pos hk,if_pos (chk_part hc h1 h2),if_pos (show (part o k).stop=0 from hst),if_neg]
 intro hx
 unfold inBook at hx hin
 simp only[decide_eq_true_eq,decide_eq_false_iff_not] at hx hin
 apply hin
 rw[ids_allR,ids_allR] at hx ⊢
 have hid:(part o k).id=o.id:=rfl
 rw[hid] at hx
 unfold repB repS at hx
 unfold otherL at hl
 by_cases hs:o.side=1
 ·simp only[if_pos hs] at hx hl
  rcases hx with hx|hx
  ·exact .inl hx
  ·exact .inr (hl.ids _ hx)
 ·simp only[if_neg hs] at hx hl
  rcases hx with hx|hx
  ·exact .inl (hl.ids _ hx)
  ·exact .inr hx
theorem rep_other (o:O) (bs ss X:List L) (k:Int):otherL (repB o bs X) (repS o ss X) (part o k)=X:=by
 unfold otherL repB repS
 have e:(part o k).side=o.side:=rfl
 rw[e]
 by_cases hs:o.side=1
 ·rw[if_pos hs,if_pos hs]
 ·rw[if_neg hs,if_neg hs]
theorem rep_metR (o:O) (bs ss X:List L) (k:Int):metR (repB o bs X) (repS o ss X) (part o k)=tkl o X k:=by
 unfold metR
 rw[rep_other,tkl_part]
 rfl
theorem rep_metB (o:O) (bs ss X:List L) (k:Int):metB (repB o bs X) (repS o ss X) (part o k)=repB o bs (tkl o X k).1:=by
 unfold metB
 rw[rep_metR]
 have e:(part o k).side=o.side:=rfl
 rw[e]
 unfold repB
 by_cases hs:o.side=1
 ·simp only[if_pos hs]
 ·simp only[if_neg hs]
theorem rep_metS (o:O) (bs ss X:List L) (k:Int):metS (repB o bs X) (repS o ss X) (part o k)=repS o ss (tkl o X k).1:=by
 unfold metS
 rw[rep_metR]
 have e:(part o k).side=o.side:=rfl
 rw[e]
 unfold repS
 by_cases hs:o.side=1
 ·simp only[if_pos hs]
 ·simp only[if_neg hs]
theorem rep_self (o:O) (bs ss:List L):repB o bs (otherL bs ss o)=bs∧repS o ss (otherL bs ss o)=ss:=by
 unfold repB repS otherL
 by_cases hs:o.side=1
 ·rw[if_pos hs,if_pos hs,if_pos hs];exact⟨rfl,rfl⟩
 ·rw[if_neg hs,if_neg hs,if_neg hs];exact⟨rfl,rfl⟩
theorem first_find {s:Int}{p:Int}{r:R}{rs:List R}{t:List L}(h:schk s (⟨p,r::rs⟩::t)=0):findE s (⟨p,r::rs⟩::t) r.id=0∧findP s (⟨p,r::rs⟩::t) r.id=(((0:Nat):Int),((0:Nat):Int)):=by
 have hn:=(schk_zero h).2.2.2
 have h1:=last_at hn (i:=0) (k:=0) (by simp) (by simp)
 have h2:lastAt (flatP 0 (⟨p,r::rs⟩::t)) r.id=some (r.id,((0:Nat):Int),((0:Nat):Int)):=h1
 have hE:findE s (⟨p,r::rs⟩::t) r.id=0:=by
  unfold findE
  rw[if_pos h,h2]
  rfl
 refine⟨hE,?_⟩
 unfold findP
 rw[if_pos hE,h2]
 rfl
theorem first_drop {p:Int}{r:R}{rs:List R}{t:List L}:dropL (⟨p,r::rs⟩::t) 0 0=stepL p rs t:=by
 unfold dropL stepL
 show (if (r::rs).length=1 then _ else _)=_
 by_cases e:rs=[]
 ·subst e
  rw[if_pos (show [r].length=1 from rfl),if_pos rfl]
  rfl
 ·have hl:¬(r::rs).length=1:=fun h=>e (List.length_eq_zero_iff.1 (by simp at h;exact congrArg List.length h))
  rw[if_neg hl,if_neg e]
  rfl
theorem first_not {bs ss:List L}{p:Int}{r:R}{rs:List R}{t:List L}(h:bookE bs ss=0) (hs:ss=⟨p,r::rs⟩::t):findE 1 bs r.id=5:=by
 obtain⟨h1,-,-,ht,-⟩:=book_zero h
 unfold twiceB at ht
 simp only[decide_eq_false_iff_not,Classical.not_not] at ht
 rw[List.map_append,List.nodup_append] at ht
 have hm:r∈allR ss:=by rw[hs,allR_cons];simp
 have hn:r.id ∉ ids bs:=fun e=>by
  rw[ids_allR] at e
  exact ht.2.2 _ e _ (List.mem_map.2 ⟨_,hm,rfl⟩) rfl
 exact findE_out h1 hn
end Go.Proofs.YtnjpjieedgmffaaGreatDoor.slf
namespace Go.Proofs.YtnjpjieedgmffaaGreatDoor.slf
open Go.RowKit spn que sid bok mee
structure FarV (w w' : World) (base VB:Nat):Prop where
 os:w'.os=w.os
 tape:w'.tape=w.tape
 output:w'.output=w.output
 size:w.heap.size≤w'.heap.size
 block:∀j,j < base→j≠VB→w'.heap[j]?=w.heap[j]?
theorem FarV.refl (w:World) (base VB:Nat):FarV w w base VB:=⟨rfl,rfl,rfl,nzR _,fun _ _ _=>rfl⟩
theorem FarV.trans {a b c:World}{base VB:Nat}(h:FarV a b base VB) (k:FarV b c base VB):FarV a c base VB:=
 ⟨k.os.trans h.os,k.tape.trans h.tape,k.output.trans h.output,Nat.le_trans h.size k.size,fun j h1 h2=>(k.block j h1 h2).trans (h.block j h1 h2)⟩
theorem FarV.below {w w' : World}{base VB:Nat}(h:Below w.heap.size w w') (hb:base≤w.heap.size):FarV w w' base VB:=
 ⟨h.os,h.tape,h.output,h.size,fun j h1 _=>h.block j (by omega)⟩
theorem FarV.grown {w w' : World}{base VB:Nat}{row:Option Nat}(h:w.grownBy w' row) (hb:base≤w.heap.size) (hr:∀k,row=some k→k=VB∨base≤k):FarV w w' base VB:=
 ⟨h.os,h.tape,h.output,h.size,fun j h1 h2=>h.block j (by omega) (fun e=>by rcases hr j e.symm with h|h <;> omega)⟩
theorem FarV.ahead {w W W' : World}{base VB:Nat}(hB:Below w.heap.size w W) (h:FarV W W' base VB) (h1:w.heap.size≤VB) (h2:w.heap.size≤base):Below w.heap.size w W':=
 ⟨h.os.trans hB.os,h.tape.trans hB.tape,h.output.trans hB.output,Nat.le_trans hB.size h.size,fun k hk=>(h.block k (by omega) (by omega)).trans (hB.block k hk)⟩
theorem rowV {w:World}{B:Nat}{x0 x1 x2 x3 x4 x5:Value}{t:TypeId}(h:w.heap[B]?=some (.cells #[x0,x1,x2,x3,x4,x5] t (0,0))) :
  w.cell? ⟨B,0,none⟩=some x0∧w.cell? ⟨B,1,none⟩=some x1∧w.cell? ⟨B,2,none⟩=some x2∧w.cell? ⟨B,3,none⟩=some x3∧w.cell? ⟨B,4,none⟩=some x4∧w.cell? ⟨B,5,none⟩=some x5∧∀j,w.frozen? ⟨B,j,none⟩=false:=
 ⟨by simp[World.cell?,h],by simp[World.cell?,h],by simp[World.cell?,h],by simp[World.cell?,h],by simp[World.cell?,h],by simp[World.cell?,h],fun j=>frozen_of_row w _ j _ _ h⟩
theorem rowO {w:World}{B:Nat}{x0 x1 x2 x3 x4 x5 x6 x7:Value}{t:TypeId}(h:w.heap[B]?=some (.cells #[x0,x1,x2,x3,x4,x5,x6,x7] t (0,0))) :
  w.cell? ⟨B,0,none⟩=some x0∧w.cell? ⟨B,1,none⟩=some x1∧w.cell? ⟨B,2,none⟩=some x2∧w.cell? ⟨B,3,none⟩=some x3∧w.cell? ⟨B,4,none⟩=some x4∧w.cell? ⟨B,5,none⟩=some x5∧w.cell? ⟨B,6,none⟩=some x6∧w.cell? ⟨B,7,none⟩=some x7∧∀j,w.frozen? ⟨B,j,none⟩=false:=
 ⟨by simp[World.cell?,h],by simp[World.cell?,h],by simp[World.cell?,h],by simp[World.cell?,h],by simp[World.cell?,h],by simp[World.cell?,h],by simp[World.cell?,h],by simp[World.cell?,h],fun j=>frozen_of_row w _ j _ _ h⟩
section
variable {w:World}{B:Nat}{y0 y1 y2 y3 y4 y5 y6 y7:Value}{t:TypeId}
theorem v_at0 (h:w.heap[B]?=some (.cells #[y0,y1,y2,y3,y4,y5] t (0,0))) (x:Value):(w.setCell ⟨B,0,none⟩ x).heap[B]?=some (.cells #[x,y1,y2,y3,y4,y5] t (0,0)):=by
 have h0:=heap_setCell_same _ B 0 _ _ x h
 simp only[List.setIfInBounds_toArray,List.set_cons_zero] at h0
 exact h0
theorem v_at1 (h:w.heap[B]?=some (.cells #[y0,y1,y2,y3,y4,y5] t (0,0))) (x:Value):(w.setCell ⟨B,1,none⟩ x).heap[B]?=some (.cells #[y0,x,y2,y3,y4,y5] t (0,0)):=by
 have h0:=heap_setCell_same _ B 1 _ _ x h
 simp only[List.setIfInBounds_toArray,List.set_cons_zero,List.set_cons_succ] at h0
 exact h0
theorem v_at2 (h:w.heap[B]?=some (.cells #[y0,y1,y2,y3,y4,y5] t (0,0))) (x:Value):(w.setCell ⟨B,2,none⟩ x).heap[B]?=some (.cells #[y0,y1,x,y3,y4,y5] t (0,0)):=by
 have h0:=heap_setCell_same _ B 2 _ _ x h
 simp only[List.setIfInBounds_toArray,List.set_cons_zero,List.set_cons_succ] at h0
 exact h0
theorem v_at3 (h:w.heap[B]?=some (.cells #[y0,y1,y2,y3,y4,y5] t (0,0))) (x:Value):(w.setCell ⟨B,3,none⟩ x).heap[B]?=some (.cells #[y0,y1,y2,x,y4,y5] t (0,0)):=by
 have h0:=heap_setCell_same _ B 3 _ _ x h
 simp only[List.setIfInBounds_toArray,List.set_cons_zero,List.set_cons_succ] at h0
 exact h0
theorem v_at4 (h:w.heap[B]?=some (.cells #[y0,y1,y2,y3,y4,y5] t (0,0))) (x:Value):(w.setCell ⟨B,4,none⟩ x).heap[B]?=some (.cells #[y0,y1,y2,y3,x,y5] t (0,0)):=by
 have h0:=heap_setCell_same _ B 4 _ _ x h
 simp only[List.setIfInBounds_toArray,List.set_cons_zero,List.set_cons_succ] at h0
 exact h0
theorem v_at5 (h:w.heap[B]?=some (.cells #[y0,y1,y2,y3,y4,y5] t (0,0))) (x:Value):(w.setCell ⟨B,5,none⟩ x).heap[B]?=some (.cells #[y0,y1,y2,y3,y4,x] t (0,0)):=by
 have h0:=heap_setCell_same _ B 5 _ _ x h
 simp only[List.setIfInBounds_toArray,List.set_cons_zero,List.set_cons_succ] at h0
 exact h0
end
theorem gr_six (w:World) (B:Nat) (x0 x1 x2 x3 x4 x5:Value):w.grownBy ((((((w.setCell ⟨B,0,none⟩ x0).setCell ⟨B,1,none⟩ x1).setCell ⟨B,2,none⟩ x2).setCell ⟨B,3,none⟩ x3).setCell ⟨B,4,none⟩ x4).setCell ⟨B,5,none⟩ x5) (some B):=
 gr_trans (gr_trans (gr_trans (gr_trans (gr_trans (gr_setCell _ _ _ _) (gr_setCell _ _ _ _)) (gr_setCell _ _ _ _)) (gr_setCell _ _ _ _)) (gr_setCell _ _ _ _)) (gr_setCell _ _ _ _)
theorem setSixV {w:World}{B:Nat}{y0 y1 y2 y3 y4 y5:Value}{t:TypeId}(h:w.heap[B]?=some (.cells #[y0,y1,y2,y3,y4,y5] t (0,0))) (x0 x1 x2 x3 x4 x5:Value) :
  ((((((w.setCell ⟨B,0,none⟩ x0).setCell ⟨B,1,none⟩ x1).setCell ⟨B,2,none⟩ x2).setCell ⟨B,3,none⟩ x3).setCell ⟨B,4,none⟩ x4).setCell ⟨B,5,none⟩ x5).heap[B]?=some (.cells #[x0,x1,x2,x3,x4,x5] t (0,0)):=
 v_at5 (v_at4 (v_at3 (v_at2 (v_at1 (v_at0 h x0) x1) x2) x3) x4) x5
theorem dl_row {w w' : World}{base:Nat}{v:Value}{ls:List L}{row:Option Nat}(h:DL w base v ls) (hg:w.grownBy w' row) (hr:∀k,row=some k→k < base):DL w' base v ls:=by
 cases row with
 | none=>exact h.below ⟨hg.os,hg.tape,hg.output,hg.size,fun k hk=>hg.block k hk (by simp)⟩
 | some k=>exact h.other hg (hr k rfl)
def SafeS (w0 w:World) (base:Nat) (v:Value) (ls:List L):Prop:=LS w0 v ls∨DL w base v ls
theorem SafeS.ls {w0 w:World}{base:Nat}{v:Value}{ls:List L}(h:SafeS w0 w base v ls) (hB:Below w0.heap.size w0 w):LS w v ls:=h.elim (fun h=>h.below hB) (fun h=>h.ls)
theorem SafeS.row {w0 w w' : World}{base VB:Nat}{v:Value}{ls:List L}(h:SafeS w0 w base v ls) (hg:w.grownBy w' (some VB)) (hV:VB < base):SafeS w0 w' base v ls:=h.imp id (fun h=>h.other hg hV)
theorem SafeS.below {w0 w w' : World}{base:Nat}{v:Value}{ls:List L}(h:SafeS w0 w base v ls) (hB:Below w.heap.size w w'):SafeS w0 w' base v ls:=h.imp id (fun h=>h.below hB)
def flatI (l:List Int):List Value:=l.map (fun x=>.int .i64 x)
abbrev OwnI (w:World) (base:Nat) (v:Value) (l:List Int):Prop:=OwnM w base 3 1 v l.length (flatI l)
theorem infoN:((Tryz.prog.info? 3).map (fun i=>(i.zero,i.size,i.bytes)))=some (some (.int .i64 0),1,8):=by kernel_rfl
theorem infoN' : ∃i,Tryz.prog.info? 3=some i∧i.zero=some (.int .i64 0)∧i.size=1∧i.bytes=8:=by
 have h:=infoN
 cases hq:Tryz.prog.info? 3 with
 | none=>rw[hq] at h;simp at h
 | some i=>
  rw[hq] at h
  simp at h
  exact⟨i,rfl,h.1,h.2.1,h.2.2⟩
theorem own_cell {w:World}{base:Nat}{e:TypeId}{sz:Nat}{ad:Addr}{n c:Nat}{xs:List Value}(h:OwnM w base e sz (.slice (some ad) n c) n xs):∀j u,xs[j]?=some u→w.cell? (ad.add j)=some u:=by
 intro j u hu
 rcases h.2 with ⟨e,-⟩|⟨g,off,cap,cur,he,-,hg,-,-,-,htake⟩
 ·simp at e
 ·simp only[Value.slice.injEq,Option.some.injEq] at he
  obtain⟨rfl,-,-⟩:=he
  rw[Addr.add_lit,cell_of_row w g (off+j) cur e (0,0) hg]
  rw[←htake,List.getElem?_take] at hu
  split at hu
  ·rw[List.getElem?_drop] at hu;simpa using hu
  ·cases hu
theorem one_flatT (ts:List T):∀u∈flatT ts,u.oneCell'=true:=by
 intro u hu
 obtain⟨x,-,hx⟩:=List.mem_flatMap.1 hu
 simp only[tV,List.mem_cons,List.not_mem_nil,or_false] at hx
 rcases hx with rfl|rfl|rfl|rfl|rfl|rfl <;> rfl
theorem len_flatT (ts:List T):(flatT ts).length=ts.length * 6:=by
 induction ts with
 | nil=>rfl
 | cons x t ih=>
  have:flatT (x::t)=tV x++flatT t:=by simp[flatT]
  rw[this,List.length_append,ih,List.length_cons]
  have h6:(tV x).length=6:=rfl
  omega
theorem own_ne {w:World}{b1 b2:Nat}{e1 e2:TypeId}{s1 s2:Nat}{v1 v2:Value}{n1 n2:Nat}{x1 x2:List Value}(h1:OwnM w b1 e1 s1 v1 n1 x1) (h2:OwnM w b2 e2 s2 v2 n2 x2) (he:e1≠e2):∀x,v1.ownBlock=some x→v2.ownBlock≠some x:=by
 intro x hx hy
 rcases h1.2 with ⟨rfl,_⟩|⟨g,off,cap,cur,rfl,-,hg,-⟩
 ·simp[Value.ownBlock] at hx
 ·simp[Value.ownBlock] at hx
  subst hx
  rcases h2.2 with ⟨rfl,_⟩|⟨g2,off2,cap2,cur2,rfl,-,hg2,-⟩
  ·simp[Value.ownBlock] at hy
  ·simp[Value.ownBlock] at hy
   subst hy
   rw[hg] at hg2
   simp at hg2
   exact he hg2.2
theorem lay_trades {base:Nat}{W:World}{tv uv:Value}{ts us:List T}{b2:Nat}(h:OwnT W base tv ts) (hu:OwnT W b2 uv us) (hb:base≤W.heap.size) (hne:us≠[]) (hl:ts.length+us.length≤1000000) :
  ∃tq tc w1,(Builtin.append_ #[28,28] 28 #[tv,uv]).run Tryz.prog W=.ok (.slice tq (ts++us).length tc) w1∧OwnT w1 base (.slice tq (ts++us).length tc) (ts++us)∧W.grownBy w1 tv.ownBlock:=by
 obtain⟨i0,hi0,hz0,hz1,hz2⟩:=infoT'
 obtain⟨ad,c,rfl⟩:∃ad c,uv=.slice (some ad) us.length c:=by
  rcases hu.2 with ⟨-,e⟩|⟨g,off,cap,cur,rfl,-⟩
  ·exact absurd (List.length_eq_zero_iff.1 e) hne
  ·exact⟨_,_,rfl⟩
 obtain⟨v',w',e1,e2,e3,e4⟩:=run_append_mid (P:=Tryz.prog) W base 28 28 74 i0 zeroT 6 48 Tryz.underlying28 hi0 hz0 hz1 hz2 rfl tv ts.length (flatT ts) h ad us.length c (flatT us) (len_flatT us) (own_cell hu) (one_flatT us) (by unfold maxLen;omega) (by omega) hb
 have e2' : OwnT w' base v' (ts++us):=by
  show OwnM _ _ _ _ _ _ _
  rw[flatT_append,List.length_append]
  exact e2
 obtain⟨q',c',hf⟩:=OwnM.form e2'
 subst hf
 exact⟨q',c',w',e1,e2',e3⟩
theorem lay_id {base:Nat}{W:World}{iv:Value}{l:List Int}(x:Int) (h:OwnI W base iv l) (hb:base≤W.heap.size) (hl:l.length≤1000000) :
  ∃tq tc w1,(Builtin.append_ #[29,29] 29 #[iv,.slice (some ⟨W.heap.size,0,none⟩) 1 1]).run Tryz.prog (W.alloc (.cells #[.int .i64 x] 3))=.ok (.slice tq (l++[x]).length tc) w1∧OwnI w1 base (.slice tq (l++[x]).length tc) (l++[x])∧W.grownBy w1 iv.ownBlock:=by
 obtain⟨i0,hi0,hz0,hz1,hz2⟩:=infoN'
 obtain⟨U,hU⟩:∃U,U=W.alloc (.cells #[.int .i64 x] 3):=⟨_,rfl⟩
 have hB:Below W.heap.size W U:=by rw[hU];exact(bzR _ _).alloc (nzR _) _
 have hown:OwnI U base iv l:=OwnM.below h hB
 obtain⟨v',w',e1,e2,e3,e4⟩:=run_append_mid (P:=Tryz.prog) U base 29 29 3 i0 (.int .i64 0) 1 8 Tryz.underlying29 hi0 hz0 hz1 hz2 rfl iv l.length (flatI l) hown ⟨W.heap.size,0,none⟩ 1 1 [.int .i64 x] rfl (fun j u hu=>by
  rw[hU,Addr.add_lit,World.cell?_alloc_at _ _ _ _ rfl]
  simpa using hu) (fun u hu=>by simp only[List.mem_cons,List.not_mem_nil,or_false] at hu;rw[hu];rfl) (by unfold maxLen;omega) (by omega) (Nat.le_trans hb hB.size)
 have e2' : OwnI w' base v' (l++[x]):=by
  show OwnM _ _ _ _ _ _ _
  unfold flatI at e2 ⊢
  rw[List.map_append,List.length_append]
  exact e2
 obtain⟨q',c',hf⟩:=OwnM.form e2'
 subst hf
 rw[hU] at e1
 exact⟨q',c',w',e1,e2',gr_trans (gr_below hB _) e3⟩
end Go.Proofs.YtnjpjieedgmffaaGreatDoor.slf
