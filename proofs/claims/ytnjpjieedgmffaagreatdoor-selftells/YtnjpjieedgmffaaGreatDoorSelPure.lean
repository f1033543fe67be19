import Derived.Test.YtnjpjieedgmffaaGreatDoorMeeOwn
import Derived.Test.YtnjpjieedgmffaaGreatDoorMeeFact2
import Derived.Test.YtnjpjieedgmffaaGreatDoorQueRefQ
namespace Go.Proofs.YtnjpjieedgmffaaGreatDoor.mee
open Go.RowKit spn que sid bok
open ord (O oV mB mE chk meets_any)
theorem trades_none (p q:Option Addr) (c d:Nat) (w:World) :
  Calls Tryz.prog 9 #[.slice p 0 c,.slice q 0 d] w fun e w'=>e=.returned (.bool true)∧Below w.heap.size w w':=by
 go_enter Tryz.func9,Tryz.ntmps9
 go_wp2_with fail
 go_loopg [5] 0 (fun _ s5 wr=>s5=.int .i64 0∧wr=w)
 case atStart=>exact⟨rfl,rfl⟩
 case round=>
  obtain⟨rfl,rfl⟩:=hrel
  go_wp2_with fail
  go_ret
  exact⟨rfl,bzR _ _⟩
set_option maxRecDepth 100000 in
set_option maxHeartbeats 1000000 in
theorem trades_same (q1 q2:Option Addr) (n1 n2 c1 c2 B1 B2:Nat) (ts:List T) (w:World) (hn:ts.length≤9223372036854775807) (h1:OwnT w B1 (.slice q1 n1 c1) ts) (h2:OwnT w B2 (.slice q2 n2 c2) ts) :
  Calls Tryz.prog 9 #[.slice q1 n1 c1,.slice q2 n2 c2] w fun e w'=>e=.returned (.bool true)∧Below w.heap.size w w':=by
 have e1:n1=ts.length:=by obtain⟨q',c',e⟩:=OwnM.form h1;cases e;rfl
 have e2:n2=ts.length:=by obtain⟨q',c',e⟩:=OwnM.form h2;cases e;rfl
 subst e1
 subst e2
 by_cases hz:ts=[]
 ·subst hz
  exact trades_none q1 q2 c1 c2 w
 have hpos:0 < ts.length:=List.length_pos_iff.2 hz
 have HA1:Hid (∀k,k < ts.length→∃g off,q1=some ⟨g,off,none⟩∧g < w.heap.size∧w.cell? ⟨g,off+k * 6,none⟩=some (.int .i64 ts[k]!.maker)∧w.cell? ⟨g,off+k * 6+1,none⟩=some (.int .i64 ts[k]!.taker)∧w.cell? ⟨g,off+k * 6+2,none⟩=some (.int .i64 ts[k]!.frm)∧w.cell? ⟨g,off+k * 6+3,none⟩=some (.int .i64 ts[k]!.into)∧w.cell? ⟨g,off+k * 6+4,none⟩=some (.int .i64 ts[k]!.price)∧w.cell? ⟨g,off+k * 6+5,none⟩=some (.int .i64 ts[k]!.qty)):=fun k hk=>OwnT.at h1 hk
 have HA2:Hid (∀k,k < ts.length→∃g off,q2=some ⟨g,off,none⟩∧g < w.heap.size∧w.cell? ⟨g,off+k * 6,none⟩=some (.int .i64 ts[k]!.maker)∧w.cell? ⟨g,off+k * 6+1,none⟩=some (.int .i64 ts[k]!.taker)∧w.cell? ⟨g,off+k * 6+2,none⟩=some (.int .i64 ts[k]!.frm)∧w.cell? ⟨g,off+k * 6+3,none⟩=some (.int .i64 ts[k]!.into)∧w.cell? ⟨g,off+k * 6+4,none⟩=some (.int .i64 ts[k]!.price)∧w.cell? ⟨g,off+k * 6+5,none⟩=some (.int .i64 ts[k]!.qty)):=fun k hk=>OwnT.at h2 hk
 obtain⟨b,o,rfl,hb,-⟩:=HA1.out 0 hpos
 obtain⟨b',o',rfl,hb',-⟩:=HA2.out 0 hpos
 clear h1 h2 hz hpos
 generalize hN:ts.length=n at *
 go_enter Tryz.func9,Tryz.ntmps9
 go_wp2_with fail
 go_loopg [5] n (fun gg s5 wr=>∃kk:Nat,kk≤n∧n - kk≤gg∧s5=.int .i64 kk∧Aside (Below w.heap.size w wr))
 case atStart=>exact⟨0,Nat.zero_le _,by omega,rfl,bzR _ w⟩
 case round=>
  obtain⟨kk,hkk,hg,rfl,BW⟩:=hrel
  by_cases hlt:kk < n
  ·have hltz:(kk:Int) < (n:Int):=by omega
   obtain⟨g1,o1,ee1,-,a0,a1,a2,a3,a4,a5⟩:=HA1.out kk hlt
   obtain⟨g2,o2,ee2,-,b0,b1,b2,b3,b4,b5⟩:=HA2.out kk hlt
   cases ee1
   cases ee2
   have c0:=keeps BW.out a0
   have c1':=keeps BW.out a1
   have c2':=keeps BW.out a2
   have c3:=keeps BW.out a3
   have c4:=keeps BW.out a4
   have c5:=keeps BW.out a5
   have d0:=keeps BW.out b0
   have d1:=keeps BW.out b1
   have d2:=keeps BW.out b2
   have d3:=keeps BW.out b3
   have d4:=keeps BW.out b4
   have d5:=keeps BW.out b5
   clear a0 a1 a2 a3 a4 a5 b0 b1 b2 b3 b4 b5
   obtain⟨r,hr⟩:∃r,ts[kk]! = r:=⟨_,rfl⟩
   rw[hr] at c0 c1' c2' c3 c4 c5 d0 d1 d2 d3 d4 d5
   obtain⟨r1,r2,r3,r4,r5,r6⟩:=r
   have hin1:¬((kk:Int) < 0):=by omega
   have e1:=que.wrapSucc kk n hlt hn
   clear hr hN
   go_wp2_with fail
   go_quiet (fail)
   go_wp2_with fail
   go_roundg (n - (kk+1))
   case measure=>clear e1;omega
   case rel=>exact⟨kk+1,hlt,nzR _,by go_num,below_drewN BW.out _⟩
  ·have hltz:¬(kk:Int) < (n:Int):=by omega
   go_wp2_with fail
   go_ret
   exact⟨rfl,BW.out⟩
end Go.Proofs.YtnjpjieedgmffaaGreatDoor.mee
namespace Go.Proofs.YtnjpjieedgmffaaGreatDoor.slf
open Go.RowKit spn que sid bok mee
open ord (O mB chk)
open tickP (priceB sideB betOk betR)
structure V where
 ls:List L
 ts:List T
 left:Int
 ends:Bool
 ids:List Int
inductive Fine (m:Int) (o:O):List L→Int→V→Prop
 | done {ls:List L}{k:Int}:k≤0→Fine m o ls k ⟨ls,[],k,false,[]⟩
 | stop {ls:List L}{k:Int}:(∀l t,ls=l::t→mB o l.price=false)→Fine m o ls k ⟨ls,[],k,false,[]⟩
 | taker {p:Int}{r:R}{rs:List R}{t:List L}{k:Int}:0 < k→mB o p=true→r.who=o.who→m=1→Fine m o (⟨p,r::rs⟩::t) k ⟨⟨p,r::rs⟩::t,[],k,true,[]⟩
 | maker {p:Int}{r:R}{rs:List R}{t:List L}{k:Int}{v:V}:0 < k→mB o p=true→r.who=o.who→m=2→Fine m o (stepL p rs t) k v→Fine m o (⟨p,r::rs⟩::t) k ⟨v.ls,v.ts,v.left,v.ends,r.id::v.ids⟩
 | both {p:Int}{r:R}{rs:List R}{t:List L}{k:Int}:0 < k→mB o p=true→r.who=o.who→m=3→Fine m o (⟨p,r::rs⟩::t) k ⟨stepL p rs t,[],k,true,[r.id]⟩
 | fill {p:Int}{r:R}{rs:List R}{t:List L}{k:Int}{v:V}:0 < k→mB o p=true→¬r.who=o.who→Fine m o (stepL p (tk1 (min k r.qty) r rs) t) (k - min k r.qty) v→Fine m o (⟨p,r::rs⟩::t) k ⟨v.ls,trd o p ⟨r.id,r.who,min k r.qty⟩::v.ts,v.left,v.ends,v.ids⟩
theorem fine_det {m:Int}{o:O}{ls:List L}{k:Int}{v:V}(h:Fine m o ls k v):∀v',Fine m o ls k v'→v'=v:=by
 induction h with
 | done h0=>
  intro v' h'
  cases h' with
  | done=>rfl
  | stop=>rfl
  | taker h=>omega
  | maker h=>omega
  | both h=>omega
  | fill h=>omega
 | stop h0=>
  intro v' h'
  cases h' with
  | done=>rfl
  | stop=>rfl
  | taker _ h=>have:=h0 _ _ rfl;simp only[] at this;rw[h] at this;cases this
  | maker _ h=>have:=h0 _ _ rfl;simp only[] at this;rw[h] at this;cases this
  | both _ h=>have:=h0 _ _ rfl;simp only[] at this;rw[h] at this;cases this
  | fill _ h=>have:=h0 _ _ rfl;simp only[] at this;rw[h] at this;cases this
 | taker h0 h1 h2 h3=>
  intro v' h'
  cases h' with
  | done h=>omega
  | stop h=>have:=h _ _ rfl;simp only[] at this;rw[h1] at this;cases this
  | taker=>rfl
  | maker _ _ _ h=>omega
  | both _ _ _ h=>omega
  | fill _ _ h=>exact absurd h2 h
 | maker h0 h1 h2 h3 _ ih=>
  intro v' h'
  cases h' with
  | done h=>omega
  | stop h=>have:=h _ _ rfl;simp only[] at this;rw[h1] at this;cases this
  | taker _ _ _ h=>omega
  | maker _ _ _ _ h=>rw[ih _ h]
  | both _ _ _ h=>omega
  | fill _ _ h=>exact absurd h2 h
 | both h0 h1 h2 h3=>
  intro v' h'
  cases h' with
  | done h=>omega
  | stop h=>have:=h _ _ rfl;simp only[] at this;rw[h1] at this;cases this
  | taker _ _ _ h=>omega
  | maker _ _ _ h=>omega
  | both=>rfl
  | fill _ _ h=>exact absurd h2 h
 | fill h0 h1 h2 _ ih=>
  intro v' h'
  cases h' with
  | done h=>omega
  | stop h=>have:=h _ _ rfl;simp only[] at this;rw[h1] at this;cases this
  | taker _ _ h=>exact absurd h h2
  | maker _ _ h=>exact absurd h h2
  | both _ _ h=>exact absurd h h2
  | fill _ _ _ h=>rw[ih _ h]
theorem out_good {p:Int}{r:R}{rs:List R}{t:List L}(hl:∀l∈(⟨p,r::rs⟩::t:List L),lchk l=0):∀l∈stepL p rs t,lchk l=0:=by
 have h1:lchk ⟨p,r::rs⟩=0:=hl _ (by simp)
 obtain⟨hp,-,hq⟩:=lchk_zero h1
 obtain⟨h60,hg⟩:=(qchk_zero _).1 hq
 intro l hm
 unfold stepL at hm
 by_cases e:rs=[]
 ·rw[if_pos e] at hm;exact hl l (by simp[hm])
 ·rw[if_neg e] at hm
  rcases List.mem_cons.1 hm with rfl|hm
  ·exact lchk_of (price_of h1) e ((qchk_zero _).2 ⟨by simp at h60;omega,good_tail hg⟩)
  ·exact hl l (by simp[hm])
theorem step_count {p:Int}{z:List R}{t:List L}:(allR (stepL p z t)).length=z.length+(allR t).length:=by
 unfold stepL
 by_cases e:z=[]
 ·rw[if_pos e,e];simp
 ·rw[if_neg e,allR_cons,List.length_append]
theorem fine_total {m:Int}{o:O}(hm:m=1∨m=2∨m=3):∀ (n:Nat) (ls:List L) (k:Int),k.toNat+(allR ls).length≤n→(∀l∈ls,lchk l=0)→∃v,Fine m o ls k v:=by
 intro n
 induction n with
 | zero=>
  intro ls k hn _
  exact⟨_,.done (by omega)⟩
 | succ n ih=>
  intro ls k hn hl
  by_cases h0:k≤0
  ·exact⟨_,.done h0⟩
  cases ls with
  | nil=>exact⟨_,.stop (fun l t e=>by cases e)⟩
  | cons l t=>
   obtain⟨p,zs⟩:=l
   cases hb:mB o p with
   | false=>exact⟨_,.stop (fun l' t' e=>by cases e;exact hb)⟩
   | true=>
    obtain⟨-,hne,hq⟩:=lchk_zero (hl ⟨p,zs⟩ (by simp))
    cases zs with
    | nil=>exact absurd rfl hne
    | cons r rs=>
     rw[allR_cons,List.length_append] at hn
     simp only[List.length_cons] at hn
     by_cases hw:r.who=o.who
     ·rcases hm with h|h|h
      ·exact⟨_,.taker (by omega) hb hw h⟩
      ·obtain⟨v,hv⟩:=ih (stepL p rs t) k (by rw[step_count];omega) (out_good hl)
       exact⟨_,.maker (by omega) hb hw h hv⟩
      ·exact⟨_,.both (by omega) hb hw h⟩
     ·have hr:=rest_pos hq
      have hlen:=(tk1_good (k:=min k r.qty) ((qchk_zero _).1 hq).2 (by omega) (by omega)).2.2
      simp only[List.length_cons] at hlen
      obtain⟨v,hv⟩:=ih (stepL p (tk1 (min k r.qty) r rs) t) (k - min k r.qty) (by rw[step_count];omega) (step_good (by omega) hl)
      exact⟨_,.fill (by omega) hb hw hv⟩
theorem fine_ex {m:Int}{o:O}{ls:List L}{k:Int}(hm:m=1∨m=2∨m=3) (hl:∀l∈ls,lchk l=0):∃v,Fine m o ls k v:=fine_total hm _ ls k (nzR _) hl
def idxW (u:Int):List R→Int
 | []=>-1
 | r::t=>if r.who=u then 0 else if idxW u t < 0 then -1 else idxW u t+1
theorem idxW_ge (u:Int) (zs:List R) : -1≤idxW u zs:=by
 induction zs with
 | nil=>simp[idxW]
 | cons r t ih=>unfold idxW;split;omega;split <;> omega
theorem idxW_lt (u:Int) (zs:List R):idxW u zs < zs.length:=by
 induction zs with
 | nil=>simp[idxW]
 | cons r t ih=>unfold idxW;simp only[List.length_cons];split;omega;split <;> omega
theorem idxW_cons (u:Int) (r:R) (t:List R):idxW u (r::t)=if r.who=u then 0 else if idxW u t < 0 then -1 else idxW u t+1:=rfl
theorem idxW_snoc {u:Int}{y:R}(hy:¬y.who=u):∀ (zs:List R),idxW u (zs++[y])=idxW u zs:=by
 intro zs
 induction zs with
 | nil=>simp[idxW,hy]
 | cons r t ih=>rw[List.cons_append,idxW_cons,idxW_cons,ih]
def shq:List R→Int
 | []=>0
 | r::t=>r.qty+shq t
theorem shq_append (a b:List R):shq (a++b)=shq a+shq b:=by
 induction a with
 | nil=>simp[shq]
 | cons x t ih=>simp only[List.cons_append,shq,ih];omega
theorem shq_le (zs:List R) (h:∀r∈zs,rchk r=0):0≤shq zs∧shq zs≤10000 * (zs.length:Int):=by
 induction zs with
 | nil=>simp[shq]
 | cons x t ih=>
  have h1:=(rchk_zero (h x (by simp))).1
  have h2:=ih (fun l hl=>h l (by simp[hl]))
  simp only[shq,List.length_cons]
  omega
def aheadR (o:O):List L→Int × Int
 | []=>(0,0)
 | l::t=>if mB o l.price=false then (0,0) else if 0≤idxW o.who l.rests then (shq (l.rests.take (idxW o.who l.rests).toNat),(l.rests[(idxW o.who l.rests).toNat]!).id) else (tot l.rests+(aheadR o t).1,(aheadR o t).2)
theorem ahead_stop {o:O}{l:L}{t:List L}(h:mB o l.price=false):aheadR o (l::t)=(0,0):=by unfold aheadR;rw[if_pos h]
theorem ahead_own {o:O}{l:L}{t:List L}(h:mB o l.price=true) (hi:0≤idxW o.who l.rests):aheadR o (l::t)=(shq (l.rests.take (idxW o.who l.rests).toNat),(l.rests[(idxW o.who l.rests).toNat]!).id):=by
 unfold aheadR;rw[if_neg (by rw[h];decide),if_pos hi]
theorem ahead_on {o:O}{l:L}{t:List L}(h:mB o l.price=true) (hi:¬0≤idxW o.who l.rests):aheadR o (l::t)=(tot l.rests+(aheadR o t).1,(aheadR o t).2):=by
 rw[aheadR,if_neg (by rw[h];decide),if_neg hi]
theorem ahead_le {o:O}:∀ (ls:List L),(∀l∈ls,lchk l=0)→0≤(aheadR o ls).1∧(aheadR o ls).1≤20000 * cnt ls:=by
 intro ls
 induction ls with
 | nil=>intro _;simp[aheadR,cnt]
 | cons l t ih=>
  intro hl
  obtain⟨-,-,hq⟩:=lchk_zero (hl l (by simp))
  obtain⟨h60,hg⟩:=(qchk_zero _).1 hq
  have hi:=ih (fun x hx=>hl x (by simp[hx]))
  have ht:=tot_le l.rests hg.1
  have hc:cnt (l::t)=(l.rests.length:Int)+cnt t:=rfl
  have hc0:0≤cnt t:=by rw[cnt_allR];omega
  cases hb:mB o l.price with
  | false=>rw[ahead_stop hb,hc];simp only[];omega
  | true=>
   by_cases hx:0≤idxW o.who l.rests
   ·rw[ahead_own hb hx,hc]
    have hs:=shq_le (l.rests.take (idxW o.who l.rests).toNat) (fun r hr=>hg.1 r (List.mem_of_mem_take hr))
    rw[List.length_take] at hs
    simp only[]
    omega
   ·rw[ahead_on hb hx,hc]
    simp only[]
    omega
theorem ahead_fill {o:O}{p:Int}{r:R}{rs:List R}{t:List L}(hb:mB o p=true) (hw:¬r.who=o.who) (hg:qchk (r::rs)=0) :
  aheadR o (⟨p,r::rs⟩::t)=(r.qty+(aheadR o (stepL p (tk1 r.qty r rs) t)).1,(aheadR o (stepL p (tk1 r.qty r rs) t)).2):=by
 have hp:=rest_pos hg
 have hgg:=((qchk_zero _).1 hg).2
 have htot:=(tk1_good (k:=r.qty) hgg (by omega) (by omega)).2.1
 have hidx:idxW o.who (r::rs)=if idxW o.who rs < 0 then -1 else idxW o.who rs+1:=by rw[idxW_cons,if_neg hw]
 have hk1:tk1 r.qty r rs=if r.hid=0 then rs else rs++[{ r with qty:=min r.shw r.hid,hid:=r.hid - min r.shw r.hid }]:=by
  unfold tk1;rw[if_neg (by omega)]
 have hsame:idxW o.who (tk1 r.qty r rs)=idxW o.who rs:=by
  rw[hk1]
  split
  ·rfl
  ·exact idxW_snoc (y:={ r with qty:=min r.shw r.hid,hid:=r.hid - min r.shw r.hid }) hw rs
 by_cases hi:idxW o.who rs < 0
 ·rw[if_pos hi] at hidx
  rw[ahead_on (l:=⟨p,r::rs⟩) hb (by simp only[];omega)]
  unfold stepL
  by_cases hz:tk1 r.qty r rs=[]
  ·rw[hz] at htot
   rw[if_pos hz]
   simp only[tot] at htot ⊢
   rw[show r.qty+r.hid+tot rs=r.qty by omega]
  ·rw[if_neg hz,ahead_on (l:=⟨p,tk1 r.qty r rs⟩) hb (by simp only[];omega)]
   simp only[] at htot ⊢
   rw[htot]
   exact Prod.ext (by simp only[];omega) rfl
 ·rw[if_neg hi] at hidx
  have hne:¬tk1 r.qty r rs=[]:=fun e=>by rw[e] at hsame;simp[idxW] at hsame;omega
  have hlt:=idxW_lt o.who rs
  rw[ahead_own (l:=⟨p,r::rs⟩) hb (by simp only[];omega)]
  unfold stepL
  rw[if_neg hne,ahead_own (l:=⟨p,tk1 r.qty r rs⟩) hb (by simp only[];omega)]
  simp only[hidx,hsame]
  rw[show (idxW o.who rs+1).toNat=(idxW o.who rs).toNat+1 by omega]
  generalize hn:(idxW o.who rs).toNat=n at *
  have hnl:n < rs.length:=by omega
  have e1:(tk1 r.qty r rs).take n=rs.take n:=by
   rw[hk1]
   split
   ·rfl
   ·exact List.take_append_of_le_length (by omega)
  have e2:(tk1 r.qty r rs)[n]! = rs[n]!:=by
   have:n < (tk1 r.qty r rs).length:=by rw[hk1];split;omega;simp;omega
   rw[getE _ _ this,getE _ _ hnl]
   simp only[hk1]
   split
   ·rfl
   ·exact List.getElem_append_left hnl
  rw[e1,e2]
  simp only[List.take_succ_cons,shq]
  refine Prod.ext rfl ?_
  show ((r::rs)[n+1]!).id=_
  rw[getE _ _ (by simp;omega),getE _ _ hnl]
  rfl
theorem coarse {m:Int}{o:O}:∀ (n:Nat) (ls:List L) (k:Int),k≤n→0 < k→(∀l∈ls,lchk l=0)→
  (tkl o ls (min (aheadR o ls).1 k)).2.2=0∧
  (∀v,Fine m o (tkl o ls (min (aheadR o ls).1 k)).1 (k - min (aheadR o ls).1 k) v→Fine m o ls k ⟨v.ls,(tkl o ls (min (aheadR o ls).1 k)).2.1++v.ts,v.left,v.ends,v.ids⟩)∧
  (0 < k - min (aheadR o ls).1 k→((aheadR o ls).2=0→∀l t,(tkl o ls (min (aheadR o ls).1 k)).1=l::t→mB o l.price=false)∧
   (¬(aheadR o ls).2=0→∃p r rs t,(tkl o ls (min (aheadR o ls).1 k)).1=⟨p,r::rs⟩::t∧mB o p=true∧r.who=o.who∧r.id=(aheadR o ls).2)):=by
 intro n
 induction n with
 | zero=>intro ls k h1 h2;omega
 | succ n ih=>
  intro ls k hn hk hl
  cases ls with
  | nil=>
   have e:aheadR o []=(0,0):=rfl
   rw[e]
   simp only[]
   rw[Int.min_eq_left (by omega:(0:Int)≤k),tkl_zero (Int.le_refl 0)]
   refine⟨rfl,fun v hv=>?_,fun _=>⟨fun _ l t e=>by simp at e,fun h=>absurd trivial h⟩⟩
   simpa using hv
  | cons l t=>
   obtain⟨p,zs⟩:=l
   cases hb:mB o p with
   | false=>
    rw[ahead_stop (l:=⟨p,zs⟩) hb]
    simp only[]
    rw[Int.min_eq_left (by omega:(0:Int)≤k),tkl_zero (Int.le_refl 0)]
    refine⟨rfl,fun v hv=>?_,fun _=>⟨fun _ l' t' e=>by cases e;exact hb,fun h=>absurd trivial h⟩⟩
    simpa using hv
   | true=>
    obtain⟨-,hne,hq⟩:=lchk_zero (hl ⟨p,zs⟩ (by simp))
    cases zs with
    | nil=>exact absurd rfl hne
    | cons r rs=>
     have hr:=rest_pos hq
     by_cases hw:r.who=o.who
     ·have hid:idxW o.who (r::rs)=0:=by rw[idxW_cons,if_pos hw]
      have e:aheadR o (⟨p,r::rs⟩::t)=(0,r.id):=by
       rw[ahead_own (l:=⟨p,r::rs⟩) hb (by simp only[hid];omega)]
       simp only[hid]
       rfl
      rw[e]
      simp only[]
      rw[Int.min_eq_left (by omega:(0:Int)≤k),tkl_zero (Int.le_refl 0)]
      have hri:=(rchk_zero (((qchk_zero _).1 hq).2.1 r (by simp))).2.2.2.2.2.1
      refine⟨rfl,fun v hv=>?_,fun _=>⟨fun h=>by omega,fun _=>⟨p,r,rs,t,rfl,hb,hw,rfl⟩⟩⟩
      simpa using hv
     ·have e:=ahead_fill (t:=t) hb hw hq
      have hA:=(ahead_le (o:=o) (stepL p (tk1 r.qty r rs) t) (by
       have h:=step_good (q:=r.qty) (by omega) hl
       rw[Int.min_self] at h
       exact h)).1
      rw[e]
      simp only[]
      generalize hQ:(aheadR o (stepL p (tk1 r.qty r rs) t)).1=Q at *
      have hmin:min (min (r.qty+Q) k) r.qty=min k r.qty:=by omega
      have hpos:0 < min (r.qty+Q) k:=by omega
      have hf:=tkl_fill (t:=t) hpos hb hq
      rw[hmin] at hf
      by_cases hkr:k≤r.qty
      ·have hm1:min (r.qty+Q) k=k:=by omega
       have hm2:min k r.qty=k:=by omega
       rw[hm1] at hf ⊢
       rw[hm2] at hf
       rw[show k - k=0 by omega,tkl_zero (Int.le_refl 0)] at hf
       rw[hf]
       refine⟨rfl,fun v hv=>?_,fun h=>by omega⟩
       have h:=Fine.fill (m:=m) (o:=o) (p:=p) (r:=r) (rs:=rs) (t:=t) (k:=k) (v:=v) hk hb hw (by rw[hm2];exact hv)
       rw[hm2] at h
       exact h
      ·have hm2:min k r.qty=r.qty:=by omega
       have hm3:min (r.qty+Q) k - r.qty=min Q (k - r.qty):=by omega
       rw[hm2,hm3] at hf
       obtain⟨i1,i2,i3⟩:=ih (stepL p (tk1 r.qty r rs) t) (k - r.qty) (by omega) (by omega) (by
        have h:=step_good (q:=r.qty) (by omega) hl
        rw[Int.min_self] at h
        exact h)
       rw[hQ] at i1 i2 i3
       rw[hf]
       have hk2:k - min (r.qty+Q) k=k - r.qty - min Q (k - r.qty):=by omega
       rw[hk2]
       refine⟨i1,fun v hv=>?_,fun h=>i3 h⟩
       have h:=Fine.fill (m:=m) (o:=o) (p:=p) (r:=r) (rs:=rs) (t:=t) (k:=k) hk hb hw (by rw[hm2];exact i2 v hv)
       rw[hm2] at h
       exact h
end Go.Proofs.YtnjpjieedgmffaaGreatDoor.slf
