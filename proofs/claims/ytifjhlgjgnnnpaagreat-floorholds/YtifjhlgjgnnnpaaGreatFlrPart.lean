import Derived.Test.YtifjhlgjgnnnpaaGreatMAPure
import Derived.Deep.RegionHeld3
import Derived.Deep.QuietTactic
import Derived.OwnWalk
import Derived.BigQuiet
set_option maxHeartbeats 2000000
set_option maxRecDepth 100000
namespace Go.Proofs.YtifjhlgjgnnnpaaGreat
namespace flr
open Go.RowKit que sid mee
open ord (O oV chk prB mB)
open bok (zAd zAh)
open kin (kdoE kdoB kdoS kdoG setB setS setG setE zCc zCy zBU zHS zFo)
open slf (V Fine sE zEm lfV gnV repB repS Less zDP zDe zCj zBy)
open tickP (zAm zAz)
inductive Fil (m:Int) (o:O):List L→Int→V→Prop
 | done {ls:List L}{k:Int}:k≤0→Fil m o ls k ⟨ls,[],k,false,[]⟩
 | stop {ls:List L}{k:Int}:(∀l t,ls=l::t→mB o l.price=false)→Fil m o ls k ⟨ls,[],k,false,[]⟩
 | taker {p:Int}{r:R}{rs:List R}{t:List L}{k:Int}:0<k→mB o p=true→r.who=o.who→Fil m o (⟨p,r::rs⟩::t) k ⟨⟨p,r::rs⟩::t,[],k,true,[]⟩
 | maker {p:Int}{r:R}{rs:List R}{t:List L}{k:Int}{v:V}:0<k→mB o p=true→r.who=o.who→Fil m o (zAC p rs t) k v→Fil m o (⟨p,r::rs⟩::t) k ⟨v.ls,v.ts,v.left,v.ends,r.id::v.ids⟩
 | both {p:Int}{r:R}{rs:List R}{t:List L}{k:Int}:0<k→mB o p=true→r.who=o.who→Fil m o (⟨p,r::rs⟩::t) k ⟨zAC p rs t,[],k,true,[r.id]⟩
 | fill {p:Int}{r:R}{rs:List R}{t:List L}{k:Int}{v:V}:0<k→mB o p=true→(¬m=0→¬r.who=o.who)→Fil m o (zAC p (tk1 (min k r.qty) r rs) t) (k - min k r.qty) v→Fil m o (⟨p,r::rs⟩::t) k ⟨v.ls,trd o p ⟨r.id,r.who,min k r.qty⟩::v.ts,v.left,v.ends,v.ids⟩
theorem zOt{m:Int}{o:O}{ls:List L}{k:Int}{v:V}(h:Fine m o ls k v):Fil m o ls k v:=by
 induction h with
 | done h=>exact .done h
 | stop h=>exact .stop h
 | taker a b c _=>exact .taker a b c
 | maker a b c _ _ ih=>exact .maker a b c ih
 | both a b c _=>exact .both a b c
 | fill a b c _ ih=>exact .fill a b (fun _=>c) ih
theorem zQu{o:O}:∀ (n:Nat) (ls:List L) (k:Int),k.toNat≤n→(∀l∈ls,lchk l=0)→Fil 0 o ls k ⟨(tkl o ls k).1,(tkl o ls k).2.1,(tkl o ls k).2.2,false,[]⟩:=by
 intro n
 induction n with
 | zero=>
  intro ls k hn _
  rw[zAZ (by omega)]
  exact .done (by omega)
 | succ n ih=>
  intro ls k hn hl
  by_cases h0:k≤0
  ·rw[zAZ h0];exact .done h0
  cases ls with
  | nil=>exact .stop (fun l t e=>by cases e)
  | cons l t=>
   obtain⟨p,zs⟩:=l
   cases hb:mB o p with
   | false=>rw[zEY (l:=⟨p,zs⟩) hb];exact .stop (fun l' t' e=>by cases e;exact hb)
   | true=>
    obtain⟨-,hne,hq⟩:=zAg (hl ⟨p,zs⟩ (by simp))
    cases zs with
    | nil=>exact absurd rfl hne
    | cons r rs=>
     have hr:=zBg hq
     rw[zFj (by omega) hb hq]
     exact .fill (by omega) hb (fun h=>absurd rfl h) (ih _ _ (by omega) (zBs (by omega) hl))
theorem zEo{o:O}{p k:Int}{r:R}{rs:List R}{t:List L}(hk:0<k)(hb:mB o p=true)(hl:∀l∈(⟨p,r::rs⟩::t:List L),lchk l=0):Less (⟨p,r::rs⟩::t) (zAC p (tk1 (min k r.qty) r rs) t):=by
 obtain⟨-,-,hq⟩:=zAg (hl _ (List.mem_cons_self ..))
 have hr:=zBg hq
 have h1:=zDP (o:=o) (q:=min k r.qty) (by omega) hl
 rw[zFj (by omega) hb hq,show min (min k r.qty) r.qty=min k r.qty by omega,show min k r.qty - min k r.qty=0 by omega,zAZ (jY 0)] at h1
 exact h1
structure FF (o:O) (ls:List L) (k:Int) (v:V):Prop where
 less:Less ls v.ls
 sum:v.left+sumT v.ts=k
 left:0≤v.left
 ids:v.ids.length+(allR v.ls).length≤(allR ls).length
 each:∀x∈v.ts,1≤x.qty∧x.qty≤10000∧1≤x.price∧x.price≤10000∧x.taker=o.id∧mB o x.price=true
 good:∀l∈v.ls,lchk l=0
theorem zLz{m:Int}{o:O}{ls:List L}{k:Int}{v:V}(h:Fil m o ls k v):(∀l∈ls,lchk l=0)→0≤k→FF o ls k v:=by
 induction h with
 | done=>exact fun hl h0=>⟨Less.refl _,by simp[sumT],h0,by simp,(fun _ h=>by cases h),hl⟩
 | stop=>exact fun hl h0=>⟨Less.refl _,by simp[sumT],h0,by simp,(fun _ h=>by cases h),hl⟩
 | taker=>exact fun hl h0=>⟨Less.refl _,by simp[sumT],h0,by simp,(fun _ h=>by cases h),hl⟩
 | @maker p r rs t k v _ _ _ _ ih=>
  intro hl h0
  obtain⟨a,b,c,d,e,f⟩:=ih (zBy hl) h0
  have:=slf.zCb (p:=p) (z:=rs) (t:=t)
  refine⟨(zDe hl).trans a,b,c,?_,e,f⟩
  rw[zAp]
  simp only[jG,jE] at d ⊢
  omega
 | @both p r rs t k _ _ _=>
  intro hl h0
  have:=slf.zCb (p:=p) (z:=rs) (t:=t)
  refine⟨zDe hl,by simp[sumT],h0,?_,(fun _ h=>by cases h),zBy hl⟩
  rw[zAp]
  simp only[jG,jE,List.length_nil]
  omega
 | @fill p r rs t k v h0 hb _ _ ih=>
  intro hl _
  obtain⟨hp,-,hq⟩:=zAg (hl _ (List.mem_cons_self ..))
  have hr:=zBg hq
  obtain⟨a,b,c,d,e,f⟩:=ih (zBs h0 hl) (by omega)
  have hlen:=(zEo (o:=o) h0 hb hl).len
  refine⟨(zEo h0 hb hl).trans a,?_,c,by simp only[] at d ⊢;omega,fun x hx=>?_,f⟩
  ·have:(trd o p ⟨r.id,r.who,min k r.qty⟩).qty=min k r.qty:=by unfold trd;split <;>rfl
   simp only[sumT,this]
   omega
  ·rcases List.mem_cons.1 hx with rfl|hx
   ·simp only[] at hp
    have h1:(trd o p ⟨r.id,r.who,min k r.qty⟩).qty=min k r.qty:=by unfold trd;split <;>rfl
    have h2:(trd o p ⟨r.id,r.who,min k r.qty⟩).price=p:=by unfold trd;split <;>rfl
    have h3:(trd o p ⟨r.id,r.who,min k r.qty⟩).taker=o.id:=by unfold trd;split <;>rfl
    rw[h1,h2,h3]
    exact⟨by omega,by omega,hp.1,hp.2,rfl,hb⟩
   ·exact e x hx
structure VF (m:Int) (bs ss:List L) (o:O) (v:V):Prop where
 come:zAu bs ss o=0
 fil:Fil m o (zAr bs ss o) o.qty v
 set:setE (repB o bs v.ls) (repS o ss v.ls) o (lfV v)=0
 len:v.ts.length≤400
 is:vR m bs ss o=⟨setB (repB o bs v.ls) o (lfV v),setS (repS o ss v.ls) o (lfV v),v.ts,gnV v+setG o (lfV v),v.ids⟩
theorem other_good{bs ss:List L}{o:O}(h:zAu bs ss o=0):∀l∈zAr bs ss o,lchk l=0:=by
 obtain⟨h0,-⟩:=zAG h
 obtain⟨e1,e2,-⟩:=bok.zAf h0
 unfold zAr
 split
 ·exact zAs (zAc e2).2.1
 ·exact zAs (zAc e1).2.1
theorem zIf{m:Int}{bs ss:List L}{o:O}(h0:0≤m)(h3:m≤3)(h:vE m bs ss o=0):∃v,VF m bs ss o v:=by
 unfold vE at h
 by_cases hm:m=0
 ·subst hm
  rw[if_pos rfl] at h
  obtain⟨h1,h2,h4⟩:=zHS h
  obtain⟨h5,h6⟩:=zFo h1
  refine⟨⟨(metR bs ss o).1,(metR bs ss o).2.1,(metR bs ss o).2.2,false,[]⟩,h5,zQu _ _ _ (nzR _) (other_good h5),?_,h6,?_⟩
  ·have e1:repB o bs (metR bs ss o).1=metB bs ss o:=by unfold slf.repB metB;rfl
   have e2:repS o ss (metR bs ss o).1=metS bs ss o:=by unfold slf.repS metS;rfl
   simp only[lfV]
   rw[e1,e2]
   exact h4
  ·unfold vR
   rw[if_pos rfl]
   have e1:repB o bs (metR bs ss o).1=metB bs ss o:=by unfold slf.repB metB;rfl
   have e2:repS o ss (metR bs ss o).1=metS bs ss o:=by unfold slf.repS metS;rfl
   simp only[lfV,gnV,e1,e2]
   simp[kdoB,kdoS,kdoG]
 ·rw[if_neg hm] at h
  by_cases hc:zAu bs ss o=0
  ·rw[if_pos hc] at h
   obtain⟨v,hv⟩:=slf.zEg (m:=m) (o:=o) (k:=o.qty) (by omega) (other_good hc)
   have hvv:=zHr hv
   rw[hvv] at h
   unfold slf.sE at h
   by_cases h4:400<v.ts.length
   ·rw[if_pos h4] at h;omega
   ·rw[if_neg h4] at h
    by_cases h5:zEm o (lfV v) (gnV v) v.ids.length=0
    ·rw[if_pos h5] at h
     refine⟨v,hc,zOt hv,h,by omega,?_⟩
     unfold vR
     rw[if_neg hm]
     simp only[hvv]
    ·rw[if_neg h5] at h;exact absurd h h5
  ·rw[if_neg hc] at h;exact absurd h hc
theorem VF.ff{m:Int}{bs ss:List L}{o:O}{v:V}(h:VF m bs ss o v):FF o (zAr bs ss o) o.qty v:=by
 obtain⟨-,hck,-⟩:=zAG h.come
 have:=(mrg.zAX hck).2.2.1
 exact zLz h.fil (other_good h.come) (by omega)
theorem VF.book{m:Int}{bs ss:List L}{o:O}{v:V}(h:VF m bs ss o v):zAd (repB o bs v.ls) (repS o ss v.ls)=0:=zCj (zAG h.come).1 h.ff.less
theorem zOu{m:Int}{bs ss:List L}{o:O}(h0:0≤m)(h3:m≤3)(h:vE m bs ss o=0):zAd (vR m bs ss o).bs (vR m bs ss o).ss=0:=by
 obtain⟨v,hv⟩:=zIf h0 h3 h
 rw[hv.is]
 simp only[]
 unfold kin.setB kin.setS
 cases hst:zCc o (lfV v) with
 | true=>
  obtain⟨h5,h6⟩:=kin.zQs hv.set hst
  simp only[if_true]
  exact(bok.zOq h6).2.2
 | false=>
  simp only[Bool.false_eq_true,if_false]
  exact hv.book
structure VO (o:O) (v:Vs):Prop where
 ck:chk o=0
 book:zAd v.bs v.ss=0
 g0:0≤v.gone
 g1:v.gone+sumT v.ts≤o.qty
 len:v.ts.length≤400
 ids:v.ids.length≤60
 each:∀x∈v.ts,1≤x.qty∧x.qty≤10000∧1≤x.price∧x.price≤10000∧x.taker=o.id∧mB o x.price=true
theorem zIg{m:Int}{bs ss:List L}{o:O}(h0:0≤m)(h3:m≤3)(h:vE m bs ss o=0):VO o (vR m bs ss o):=by
 have hb:=zOu h0 h3 h
 obtain⟨v,hv⟩:=zIf h0 h3 h
 obtain⟨hbk,hck,-⟩:=zAG hv.come
 have hf:=hv.ff
 have hlen:(allR (zAr bs ss o)).length≤60:=by
  obtain⟨e1,e2,-⟩:=bok.zAf hbk
  unfold zAr
  split
  ·exact bok.zCG e2
  ·exact bok.zCG e1
 have hsum:=hf.sum
 have hl:=hf.left
 refine⟨hck,hb,?_,?_,?_,?_,?_⟩
 ·rw[hv.is]
  simp only[gnV,lfV,setG]
  split <;>split <;>omega
 ·rw[hv.is]
  simp only[gnV,lfV,setG]
  split <;>split <;>omega
 ·rw[hv.is];exact hv.len
 ·rw[hv.is]
  have:=hf.ids
  simp only[]
  omega
 ·rw[hv.is];exact hf.each
theorem zQv{s:Int}(hs:zAz s=true)(x:L)(b:List L):∀ (a:List L) (prev:Option Int),sid.sgo s prev (a++x::b)=0→sid.sgo s prev (a++b)=0:=by
 intro a
 induction a with
 | nil=>
  intro prev h
  obtain⟨h1,h2,h3⟩:=zBa h
  exact zFh hs h3 h2
 | cons y t ih=>
  intro prev h
  obtain⟨h1,h2,h3⟩:=zBa h
  exact zEC h1 h2 (ih _ h3)
theorem zGz{ls:List L}{i k:Nat}(hi:i<ls.length)(hk:k<ls[i].rests.length)(hl:∀l∈ls,lchk l=0):Less ls (zBq ls i k):=by
 obtain⟨a,b,c,d,h1,h2,h3,h4⟩:=swp.zCz hi hk
 generalize hr:ls[i].rests[k]=r at *
 generalize hp:ls[i].price=p at *
 have hx:=hl _ (jT hi)
 have hz:lchk ⟨p,c++r::d⟩=0:=by rw[←h3,←hp];exact hx
 rw[h1,←h2,←h4,swp.zGh]
 have hall:allR (if c.length+d.length=0 then a++b else a++⟨p,c++d⟩::b)=allR a++(c++(d++allR b)):=by
  by_cases e:c.length+d.length=0
  ·rw[if_pos e]
   have e1:c=[]:=List.eq_nil_of_length_eq_zero (by omega)
   have e2:d=[]:=List.eq_nil_of_length_eq_zero (by omega)
   rw[e1,e2,zCg];rfl
  ·rw[if_neg e,swp.zDg];simp
 have hall2:allR (a++⟨p,c++r::d⟩::b)=allR a++(c++r::(d++allR b)):=by rw[swp.zDg];simp
 refine⟨fun j hj=>?_,fun hn=>?_,?_,fun x hx=>?_,fun s prev hs h=>?_⟩
 ·rw[hall] at hj
  rw[hall2]
  simp only[jF,jK,List.mem_append,List.mem_cons] at hj ⊢
  rcases hj with h|h|h|h
  ·exact .inl h
  ·exact .inr (.inl h)
  ·exact .inr (.inr (.inr (.inl h)))
  ·exact .inr (.inr (.inr (.inr h)))
 ·rw[hall2] at hn
  rw[hall]
  refine List.Nodup.sublist ?_ hn
  exact List.Sublist.map _ (List.Sublist.append_left (List.Sublist.append_left (List.sublist_cons_self _ _) _) _)
 ·rw[hall,hall2];simp
 ·split at hx
  ·rcases List.mem_append.1 hx with hx|hx
   ·exact⟨x,by simp[hx],rfl⟩
   ·exact⟨x,by simp[hx],rfl⟩
  ·rcases List.mem_append.1 hx with hx|hx
   ·exact⟨x,by simp[hx],rfl⟩
   ·rcases List.mem_cons.1 hx with rfl|hx
    ·exact⟨⟨p,c++r::d⟩,by simp,rfl⟩
    ·exact⟨x,by simp[hx],rfl⟩
 ·split
  ·exact zQv hs _ b a prev h
  ·rename_i hne
   obtain⟨hpp,-,hq⟩:=zAg hz
   obtain⟨h60,hg⟩:=(zAl _).1 hq
   refine swp.zLa p (zCP (zDc hz) (fun e=>hne (by rw[←jE,e];rfl)) ((zAl _).2 ⟨?_,?_,?_⟩)) a b prev h
   ·simp at h60 ⊢;omega
   ·intro x hx;exact hg.1 x (by simp at hx ⊢;rcases hx with h|h;exact .inl h;exact .inr (.inr h))
   ·refine List.Nodup.sublist (List.Sublist.map _ ?_) hg.2
    exact List.Sublist.append_left (List.sublist_cons_self _ _) _
theorem zBJ{bs ss:List L}{id s p:Int}{r:R}{i k:Nat}(h:swp.At bs ss id s p r i k):zAd (swp.cB s bs i k) (swp.cS s ss i k)=0:=by
 obtain⟨ls,hS,-⟩:=h
 obtain⟨e1,e2,-⟩:=bok.zAf hS.h0
 have hi:=hS.hi
 have hk:=hS.hk
 have h0:=hS.h0
 rcases hS.side with ⟨rfl,rfl,-⟩|⟨rfl,rfl,-⟩
 ·have hL:=zGz hi hk (zAs (zAc e1).2.1)
  have:=zCj (o:=⟨0,0,2,0,0,0,0,0⟩) h0 hL
  exact this
 ·have hL:=zGz hi hk (zAs (zAc e2).2.1)
  have:=zCj (o:=⟨0,0,1,0,0,0,0,0⟩) h0 hL
  exact this
end flr
namespace flr
open Go.RowKit
open que (R rchk)
open sid (L DL)
open mee (T tV)
open ord (O oV chk errV errV_zero errV_of)
open pur (Pz Pu Ok)
open wak (OwnM St oL wpList_append_mid)
open mrg (zBi zBF zBG zFu)
theorem TM.evrow{w w' : World}{b t:Nat}{s:TS}{v:TV}(h:TM w b t s v)(hg:w.grownBy w' (Value.slice v.qe v.ne v.ce).ownBlock):w'.heap[t]?=some (.cells (rowT s v) 85 (0,0)):=by
 rcases h.evs.2 with ⟨h1,_⟩|⟨g,off,cap,cur,h1,h2,h3,_⟩
 ·rw[h1] at hg
  exact(hg.block t h.lt (by simp[Value.ownBlock])).trans h.blk
 ·rw[h1] at hg
  have hg' : w.grownBy w' (some g):=hg
  exact(Kp.grown (S:=[42]) hg' h3 (by simp)).typ _ _ _ h.blk (by decide)
theorem all_any(a b c d e:Int)(w:World)(h:rchk ⟨a,b,c,d,e⟩=0) :
  Calls Tryz.prog 112 #[.agg #[.int .i64 a,.int .i64 b,.int .i64 c,.int .i64 d,.int .i64 e]] w fun x w'=>x=.returned (.int .i64 (c+d))∧Below w.heap.size w w':=by
 have hs:wrap64 (c+d)=c+d:=by
  obtain⟨a,b,-⟩:=que.zAt h
  simp only[] at a b
  unfold wrap64;omega
 have hB:Below w.heap.size w (w.alloc (.cells #[.int .i64 a,.int .i64 b,.int .i64 c,.int .i64 d,.int .i64 e] 54)):=(bzR _ _).alloc (nzR _) _
 clear h
 go_enter Tryz.func112,Tryz.ntmps112
 go_wp2
 go_ret
 exact⟨congrArg Ending.returned (congrArg (Value.int IntKind.i64) hs),hB⟩
theorem zFx(b t:Nat)(s:TS)(v:TV)(what id qty price:Int)(w:World)(h:TM w b t s v)(hl:s.evs.length≤1000000) :
  Calls Tryz.prog 54 #[.pointer (some ⟨t,0,none⟩),.int .i64 what,.int .i64 id,.int .i64 qty,.int .i64 price] w fun e w'=>e=.returned (.tuple #[])∧(∃v',TM w' b t (tell s what id qty price) v')∧Tn tA b w w':=by
 obtain⟨i0,hi0,hz0,hz1,hz2⟩:=infoE'
 have HI:=hidF hi0
 have HN:=hidF h.ne
 obtain⟨W,hW⟩:∃W,W=w.alloc (.cells #[.int .i64 what,.int .i64 id,.int .i64 qty,.int .i64 price,.int .i64 0,.int .i64 0,.int .i64 0,.int .i64 0,.int .i64 0,.int .i64 0] 42):=⟨_,rfl⟩
 have hBW:Below w.heap.size w W:=by rw[hW];exact(bzR _ _).alloc (nzR _) _
 have HT:=hidF (h.below hBW)
 have HTN:=hidF (Tn.below (S:=tA) hBW h.base)
 have hrow:W.heap[w.heap.size]?=some (.cells #[.int .i64 what,.int .i64 id,.int .i64 qty,.int .i64 price,.int .i64 0,.int .i64 0,.int .i64 0,.int .i64 0,.int .i64 0,.int .i64 0] 42 (0,0)):=by rw[hW];exact jA w _
 have HR:=hidF hrow
 have HL:=hidF hl
 obtain⟨x0,x1,x2,x3,x4,x5,x6,x7,-⟩:=h.cells
 obtain⟨q1,n1,c1,q2,n2,c2,sp,vw,pp,qe,ne,ce,qk,nk,ck⟩:=v
 simp only[] at x0 x1 x2 x3 x4 x5 x6 x7 HN
 have HPX:Hid (∀w' v',OwnM w' b 42 10 v' (ne+1) (zAY s.evs++[.int .i64 what,.int .i64 id,.int .i64 qty,.int .i64 price,.int .i64 0,.int .i64 0,.int .i64 0,.int .i64 0,.int .i64 0,.int .i64 0])→W.grownBy w' (Value.slice qe ne ce).ownBlock→∃q n c,v'=.slice q n c∧(w'.cell? ⟨t,6,none⟩=some (.slice qe ne ce)∧w'.frozen? ⟨t,6,none⟩=false)∧(∃v',TM (w'.setCell ⟨t,6,none⟩ (.slice q n c)) b t (tell s what id qty price) v')∧Tn tA b w (w'.setCell ⟨t,6,none⟩ (.slice q n c))):=fun w' v' ho hg=>by
  have hr:=HT.out.evrow hg
  obtain⟨-,-,-,-,-,-,y6,-,yf⟩:=wak.row8 hr
  obtain⟨q,c,rfl⟩:=OwnM.form ho
  have e1:ne+1=(s.evs++[(⟨what,id,qty,price,zeroT⟩:Ev)]).length:=by rw[jE,HN.out];rfl
  have e2:zAY s.evs++[.int .i64 what,.int .i64 id,.int .i64 qty,.int .i64 price,.int .i64 0,.int .i64 0,.int .i64 0,.int .i64 0,.int .i64 0,.int .i64 0]=zAY (s.evs++[(⟨what,id,qty,price,zeroT⟩:Ev)]):=by rw[zDD,zGv];rfl
  rw[e2] at ho
  have ho2:OwnM w' b 42 10 (.slice q (ne+1) c) (s.evs++[(⟨what,id,qty,price,zeroT⟩:Ev)]).length (zAY (s.evs++[(⟨what,id,qty,price,zeroT⟩:Ev)])):=by rw[←e1];exact ho
  obtain⟨a1,a2⟩:=HT.out.told ho2 hg
  exact⟨q,ne+1,c,rfl,⟨y6,yf 6⟩,⟨_,a1⟩,HTN.out.trans a2⟩
 have HO:Hid (OwnM W b 42 10 (.slice qe ne ce) ne (zAY s.evs)):=by
  have:=HT.out.evs
  rwa [←HN.out] at this
 have HBS:Hid (b≤W.heap.size):=HT.out.base
 clear h hi0 hl hBW hrow
 go_enter Tryz.func54,Tryz.ntmps54
 go_wp2_with (at_builtin;(rw[←hW];refine wpList_append_mid _ rfl _ _ 28 rfl b 42 i0 zOp 10 80 Tryz.underlying28 HI.out hz0 hz1 hz2 rfl (.slice qe ne ce) ne (zAY s.evs) rfl ?p0 ⟨w.heap.size,0,none⟩ 1 1 [.int .i64 what,.int .i64 id,.int .i64 qty,.int .i64 price,.int .i64 0,.int .i64 0,.int .i64 0,.int .i64 0,.int .i64 0,.int .i64 0] rfl rfl (World.news_of_block (cs:=#[.int .i64 what,.int .i64 id,.int .i64 qty,.int .i64 price,.int .i64 0,.int .i64 0,.int .i64 0,.int .i64 0,.int .i64 0,.int .i64 0]) HR.out) (by simp[Value.oneCell']) ?p1 ?p2 ?p3 ?_))
 case p0=>exact HO.out
 case p1=>have:=HN.out;have:=HL.out;unfold maxLen;omega
 case p2=>have:=HN.out;have:=HL.out;omega
 case p3=>exact HBS.out
 intro v' w' hO' hgr _
 rw[←hW] at hgr
 obtain⟨q,n,c,rfl,⟨y1,y2⟩,hPX⟩:=HPX.out w' v' hO' hgr
 have HPY:=hidF hPX
 clear hPX HPX hO' hgr
 go_wp2_with fail
 go_end0
 exact⟨rfl,HPY.out⟩
theorem zEp{w0 w w' : World}{b t:Nat}{s:TS}{v:TV}{who c d:Int}(h:TM w b t s v)(h0:Tn tA b w0 w)(hp:Pu 110 9 w' v.pp (pur.zBv s.ps who c d))(hg:w.grownBy w' (some v.pp)):Res tA b t w0 (zCq s who c d) (.returned (errV (pur.zBE s.ps who c d))) w':=by
 unfold zCq
 by_cases e:pur.zBE s.ps who c d=0
 ·rw[if_pos e,e];obtain⟨a1,a2⟩:=h.pay hp hg;exact⟨h0.trans a2,rfl,v,a1⟩
 ·rw[if_neg e,errV_of e];exact⟨h0.trans (h.pay hp hg).2,e,rfl⟩
theorem free_any(b t:Nat)(s:TS)(v:TV)(a1 a2 a3 a4 a5 side price:Int)(w:World)(h:TM w b t s v)(hw:Wf s) :
  Calls Tryz.prog 113 #[.pointer (some ⟨t,0,none⟩),.agg #[.int .i64 a1,.int .i64 a2,.int .i64 a3,.int .i64 a4,.int .i64 a5],.int .i64 side,.int .i64 price] w (Res tA b t w (zCU s ⟨a1,a2,a3,a4,a5⟩ side price)):=by
 obtain⟨W,hW⟩:∃W,W=w.alloc (.cells #[.int .i64 a1,.int .i64 a2,.int .i64 a3,.int .i64 a4,.int .i64 a5] 54):=⟨_,rfl⟩
 have hBW:Below w.heap.size w W:=by rw[hW];exact(bzR _ _).alloc (nzR _) _
 have hrow:W.heap[w.heap.size]?=some (.cells #[.int .i64 a1,.int .i64 a2,.int .i64 a3,.int .i64 a4,.int .i64 a5] 54 (0,0)):=by rw[hW];exact jA w _
 have HLF:=hidF (zFu a1 a2 a3 a4 a5 side price W)
 have HSO:Hid (∀U,Below W.heap.size W U→TM U b t s v∧Tn tA b w U∧U.heap[w.heap.size]?=some (.cells #[.int .i64 a1,.int .i64 a2,.int .i64 a3,.int .i64 a4,.int .i64 a5] 54 (0,0))):=fun U hU=>by
  have hwU:=hBW.trans (hU.mono hBW.size)
  exact⟨h.below hwU,Tn.below hwU h.base,(hU.block _ (gzE.1 hrow).1).trans hrow⟩
 have HOK:=hidF hw.ok
 obtain⟨G,hG⟩:∃G,G=w.heap.size:=⟨_,rfl⟩
 rw[←hG] at HSO
 obtain⟨q1,n1,c1,q2,n2,c2,sp,vw,pp,qe,ne,ce,qk,nk,ck⟩:=v
 generalize hC:zBF ⟨a1,a2,a3,a4,a5⟩ side price=C at *
 generalize hD:zBG ⟨a1,a2,a3,a4,a5⟩ side price=D at *
 by_cases hE:zBi ⟨a1,a2,a3,a4,a5⟩ side price=0
 ·have HX:Hid (zCU s ⟨a1,a2,a3,a4,a5⟩ side price=zCq s a2 C D):=by show _=_;unfold zCU;rw[if_pos hE,hC,hD]
  rw[HX.out]
  rw[hE,errV_zero] at HLF
  have HFR:Hid (∀U,Below W.heap.size W U→Calls Tryz.prog 101 #[.pointer (some ⟨pp,0,none⟩),.int .i64 a2,.int .i64 C,.int .i64 D] U fun e w'=>∃x,e=.returned x∧Hid (Res tA b t w (zCq s a2 C D) (.returned x) w')):=fun U hU=>by
   obtain⟨k1,k2,-⟩:=HSO.out U hU
   refine(pur.free_any pp s.ps a2 C D U k1.purs HOK.out).mono ?_
   rintro e w'⟨rfl,k3,k4⟩
   exact⟨_,rfl,zEp k1 k2 k3 k4⟩
  clear h hw hBW hrow hC hD hE HOK
  go_enter Tryz.func113,Tryz.ntmps113
  go_wp2_with fail
  rw[←hW]
  simp only[←hG]
  clear hW hG
  refine HLF.out.mono ?_
  rintro e w1⟨rfl,b1⟩
  have HB1:=hidF b1
  obtain⟨k1,-,k3⟩:=HSO.out w1 b1
  obtain⟨-,-,-,-,x4,-⟩:=k1.cells
  obtain⟨-,y1,-⟩:=sid.zAe k3
  simp only[] at x4
  clear b1 k1 k3 HLF
  go_upto_region 4 with fail
  go_region_with (go_at_call 101;with_reducible refine(HFR.out _ ?_).mono ?_;(with_reducible repeat' (first|exact HB1.out|assumption|refine Below.drew ?_));rintro x w2 ⟨X,rfl,HR⟩)
  all_goals
   go_wp2_with fail
   go_ret
   exact HR.out
 ·have HX:Hid (zCU s ⟨a1,a2,a3,a4,a5⟩ side price=.error (zBi ⟨a1,a2,a3,a4,a5⟩ side price)):=by show _=_;unfold zCU;rw[if_neg hE]
  rw[HX.out]
  rw[errV_of hE] at HLF
  generalize zBi ⟨a1,a2,a3,a4,a5⟩ side price=K at *
  clear h hw hBW hrow hC hD HOK HX
  go_enter Tryz.func113,Tryz.ntmps113
  go_wp2_with fail
  rw[←hW]
  clear hW hG
  refine HLF.out.mono ?_
  rintro e w1⟨rfl,b1⟩
  have HB1:=hidF (HSO.out w1 b1).2.1
  clear b1 HLF
  go_wp2_with fail
  go_ret
  exact zAD rfl hE HB1.out
end flr
namespace flr
open Go.RowKit
open que (R rchk)
open sid (L DL)
open mee (T tV)
open ord (O oV chk errV errV_zero errV_of)
open pur (Pz Pu Ok)
open wak (OwnM St oL)
open mrg (zBi zBF zBG forC forS zEn)
theorem zBl{w W:World}{B:Nat}{o:Obj}(h:w.heap[B]?=some o)(hB:Below w.heap.size w W):W.heap[B]?=some o:=(hB.block B (gzE.1 h).1).trans h
theorem zDi{S:List TypeId}{b t:Nat}{s:TS}{v:TV}{w0 w:World}{x:Rs}(what id qty price:Int)(h:TM w b t s v)(h0:Tn S b w0 w)(hS:∀t∈tA,t∈S)(hl:s.evs.length≤1000000)(hx:x=.ok (tell s what id qty price)) :
  Calls Tryz.prog 54 #[.pointer (some ⟨t,0,none⟩),.int .i64 what,.int .i64 id,.int .i64 qty,.int .i64 price] w fun e w'=>e=.returned (.tuple #[])∧Hid (Res S b t w0 x (.returned .nilIface) w'):=by
 refine(zFx b t s v what id qty price w h hl).mono ?_
 rintro e w'⟨rfl,⟨v',h1⟩,h2⟩
 exact⟨rfl,zPg hx (h0.trans (h2.mono hS)) h1⟩
theorem zCO{S:List TypeId}{b t:Nat}{w w' : World}{x y:Rs}{e:Ending}(h:Res S b t w x e w')(hxy:x=y):Res S b t w y e w':=hxy ▸ h
theorem zIh(b t:Nat)(s:TS)(v:TV)(a1 a2 a3 a4 a5 side price:Int)(w:World)(h:TM w b t s v)(hw:Wf s)(hr:rchk ⟨a1,a2,a3,a4,a5⟩=0)(hl:s.evs.length≤1000000) :
  Calls Tryz.prog 102 #[.pointer (some ⟨t,0,none⟩),.agg #[.int .i64 a1,.int .i64 a2,.int .i64 a3,.int .i64 a4,.int .i64 a5],.int .i64 side,.int .i64 price] w (Res tA b t w (part s ⟨a1,a2,a3,a4,a5⟩ side price)):=by
 obtain⟨W,hW⟩:∃W,W=w.alloc (.cells #[.int .i64 a1,.int .i64 a2,.int .i64 a3,.int .i64 a4,.int .i64 a5] 54):=⟨_,rfl⟩
 have hBW:Below w.heap.size w W:=by rw[hW];exact(bzR _ _).alloc (nzR _) _
 have hrow:W.heap[w.heap.size]?=some (.cells #[.int .i64 a1,.int .i64 a2,.int .i64 a3,.int .i64 a4,.int .i64 a5] 54 (0,0)):=by rw[hW];exact jA w _
 have HFR:=hidF (free_any b t s v a1 a2 a3 a4 a5 side price W (h.below hBW) hw)
 have HT0:=hidF (Tn.below (S:=tA) hBW h.base)
 have HAL:=hidF (fun U=>all_any a1 a2 a3 a4 a5 U hr)
 obtain⟨G,hG⟩:∃G,G=w.heap.size:=⟨_,rfl⟩
 rw[←hG] at hrow
 have HW:=hidF hw
 have HL:=hidF hl
 have HRW:=hidF hrow
 obtain⟨X,hX⟩:∃X,X=part s ⟨a1,a2,a3,a4,a5⟩ side price:=⟨_,rfl⟩
 rw[←hX]
 have HX:=hidF hX
 obtain⟨c,hc⟩:∃c,c=a3+a4:=⟨_,rfl⟩
 rw[←hc] at HAL
 have HC:=hidF hc
 obtain⟨c0,c1,c2,c3,c4,-⟩:=sid.zAe hrow
 clear h hw hr hl hBW hrow hX hc
 go_enter Tryz.func102,Tryz.ntmps102
 go_wp2_with fail
 rw[←hW]
 simp only[←hG]
 clear hW hG
 refine HFR.out.mono ?_
 intro e w1 hR
 have hT1:=hR.1
 rcases hR.two with ⟨s1,v1,hx1,rfl,hM⟩|⟨k,hx1,hk,rfl⟩
 rotate_left
 ·have HRR:Hid (Res tA b t w X (.returned (.iface 91 (.int .i64 k))) w1):=zAD (by rw[HX.out];unfold part;rw[hx1];rfl) hk (HT0.out.trans hT1)
  clear hR hT1 hx1 c0 c1 c2 c3 c4
  go_wp2_with fail
  go_ret
  exact HRR.out
 ·have hrow1:=hT1.kp.typ _ _ _ HRW.out (by decide)
  have hs1:=(zFv HW.out hx1).2.2
  have hl1:s1.evs.length≤1000000:=by rw[hs1];exact HL.out
  have hxx:X=.ok (tell s1 3 a1 c price):=by rw[HX.out];unfold part;rw[hx1,HC.out];rfl
  have HTL:Hid (∀U,Below w1.heap.size w1 U→Calls Tryz.prog 54 #[.pointer (some ⟨t,0,none⟩),.int .i64 3,.int .i64 a1,.int .i64 c,.int .i64 price] U fun e w'=>e=.returned (.tuple #[])∧Hid (Res tA b t w X (.returned .nilIface) w')):=fun U hU=>
   zDi 3 a1 c price (hM.below hU) ((HT0.out.trans hT1).trans (Tn.below hU hM.base)) (fun _ h=>h) hl1 hxx
  have HK:Hid (∀U,Below w1.heap.size w1 U→U.cell? ⟨G,0,none⟩=some (.int .i64 a1)):=fun U hU=>(sid.zAe (zBl hrow1 hU)).1
  clear hR hT1 hx1 hM hs1 hl1 hxx c0 c1 c2 c3 c4
  obtain⟨c0,c1,c2,c3,c4,-⟩:=sid.zAe hrow1
  clear hrow1
  go_upto_region 4 with fail
  go_region_with (first|(go_at_call 112;with_reducible refine(HAL.out _).mono ?_;rintro x w2 ⟨rfl,b2⟩;have HW2:=hidF ((bzR w1.heap.size w1).drew.trans (b2.mono (bzR w1.heap.size w1).drew.size));have k0:=HK.out w2 HW2.out)|(go_at_call 54;with_reducible refine(HTL.out _ ?_).mono ?_;(with_reducible repeat' (first|exact HW2.out|assumption|refine Below.drew ?_));rintro x w3 ⟨rfl,HR⟩))
  all_goals
   go_wp2_with fail
   go_ret
   exact HR.out
theorem zER(b t:Nat)(s:TS)(v:TV)(a1 a2 a3 a4 a5 a6 a7 a8:Int)(w:World)(h:TM w b t s v)(hw:Wf s)(hl:s.evs.length≤1000000) :
  Calls Tryz.prog 79 #[.pointer (some ⟨t,0,none⟩),.agg #[.int .i64 a1,.int .i64 a2,.int .i64 a3,.int .i64 a4,.int .i64 a5,.int .i64 a6,.int .i64 a7,.int .i64 a8]] w (Res tA b t w (vanish s ⟨a1,a2,a3,a4,a5,a6,a7,a8⟩)):=by
 obtain⟨W,hW⟩:∃W,W=w.alloc (.cells #[.int .i64 a1,.int .i64 a2,.int .i64 a3,.int .i64 a4,.int .i64 a5,.int .i64 a6,.int .i64 a7,.int .i64 a8] 32):=⟨_,rfl⟩
 have hBW:Below w.heap.size w W:=by rw[hW];exact(bzR _ _).alloc (nzR _) _
 have hrow:W.heap[w.heap.size]?=some (.cells #[.int .i64 a1,.int .i64 a2,.int .i64 a3,.int .i64 a4,.int .i64 a5,.int .i64 a6,.int .i64 a7,.int .i64 a8] 32 (0,0)):=by rw[hW];exact jA w _
 have HFO:=hidF (zEn ⟨a1,a2,a3,a4,a5,a6,a7,a8⟩ W)
 rw[show oV ⟨a1,a2,a3,a4,a5,a6,a7,a8⟩=.agg #[.int .i64 a1,.int .i64 a2,.int .i64 a3,.int .i64 a4,.int .i64 a5,.int .i64 a6,.int .i64 a7,.int .i64 a8] from rfl] at HFO
 obtain⟨G,hG⟩:∃G,G=w.heap.size:=⟨_,rfl⟩
 rw[←hG] at hrow
 have HSO:Hid (∀U,Below W.heap.size W U→TM U b t s v∧Tn tA b w U∧U.heap[G]?=some (.cells #[.int .i64 a1,.int .i64 a2,.int .i64 a3,.int .i64 a4,.int .i64 a5,.int .i64 a6,.int .i64 a7,.int .i64 a8] 32 (0,0))):=fun U hU=>by
  have hwU:=hBW.trans (hU.mono hBW.size)
  exact⟨h.below hwU,Tn.below hwU h.base,zBl hrow hU⟩
 have HW:=hidF hw
 have HL:=hidF hl
 obtain⟨X,hX⟩:∃X,X=vanish s ⟨a1,a2,a3,a4,a5,a6,a7,a8⟩:=⟨_,rfl⟩
 rw[←hX]
 have HX:=hidF hX
 obtain⟨c0,c1,c2,c3,c4,c5,c6,c7,-⟩:=wak.row8 hrow
 obtain⟨C,hC⟩:∃C,C=forC ⟨a1,a2,a3,a4,a5,a6,a7,a8⟩:=⟨_,rfl⟩
 obtain⟨D,hD⟩:∃D,D=forS ⟨a1,a2,a3,a4,a5,a6,a7,a8⟩:=⟨_,rfl⟩
 rw[←hC,←hD] at HFO
 have HCD:=hidF (And.intro hC hD)
 clear hC hD
 by_cases hE:chk ⟨a1,a2,a3,a4,a5,a6,a7,a8⟩=0
 rotate_left
 ·rw[errV_of hE] at HFO
  have HXX:Hid (X=.error (chk ⟨a1,a2,a3,a4,a5,a6,a7,a8⟩)):=by show _=_;rw[HX.out];unfold vanish;rw[if_neg hE]
  generalize chk ⟨a1,a2,a3,a4,a5,a6,a7,a8⟩=K at *
  clear h hw hl hBW hrow hX c1 c2 c3 c4 c5 c6 c7 c0
  go_enter Tryz.func79,Tryz.ntmps79
  go_wp2_with fail
  rw[←hW]
  clear hW hG
  refine HFO.out.mono ?_
  rintro e w1⟨rfl,b1⟩
  have HB1:=hidF (HSO.out w1 b1).2.1
  clear b1 HFO
  go_wp2_with fail
  go_ret
  exact zAD HXX.out hE HB1.out
 ·rw[hE,errV_zero] at HFO
  have HXX:Hid (X=(zCq s a2 C D).bind fun s1=>.ok (tell s1 3 a1 a6 a5)):=by show _=_;rw[HX.out];unfold vanish;rw[if_pos hE,HCD.out.1,HCD.out.2]
  have HFR:Hid (∀U,Below W.heap.size W U→Calls Tryz.prog 101 #[.pointer (some ⟨v.pp,0,none⟩),.int .i64 a2,.int .i64 C,.int .i64 D] U fun e w'=>∃E,e=.returned E∧Hid ((∃s1,zCq s a2 C D=.ok s1∧E=.nilIface∧Hid (∃v1,TM w' b t s1 v1)∧Hid (Tn tA b w w')∧w'.heap[G]?=some (.cells #[.int .i64 a1,.int .i64 a2,.int .i64 a3,.int .i64 a4,.int .i64 a5,.int .i64 a6,.int .i64 a7,.int .i64 a8] 32 (0,0)))∨∃k,E=.iface 91 (.int .i64 k)∧Hid (Res tA b t w X (.returned (.iface 91 (.int .i64 k))) w'))):=fun U hU=>by
   obtain⟨k1,k2,k3⟩:=HSO.out U hU
   refine(pur.free_any v.pp s.ps a2 C D U k1.purs HW.out.ok).mono ?_
   rintro e w'⟨rfl,k4,k5⟩
   have hR:=zEp k1 k2 k4 k5
   have h6:w'.heap[G]?=some (.cells #[.int .i64 a1,.int .i64 a2,.int .i64 a3,.int .i64 a4,.int .i64 a5,.int .i64 a6,.int .i64 a7,.int .i64 a8] 32 (0,0)):=((Kp.grown (S:=tA) k5 k1.purs.2 (by decide)).typ _ _ _ k3 (by decide))
   refine⟨_,rfl,?_⟩
   rcases hR.two with ⟨s1,v1,hx1,he,hM⟩|⟨k,hx1,hk,he⟩
   ·exact .inl ⟨s1,hx1,by injection he,⟨v1,hM⟩,hR.1,h6⟩
   ·refine .inr ⟨k,by injection he,?_⟩
    show Res _ _ _ _ _ _ _
    exact zAD (by rw[HXX.out,hx1];rfl) hk hR.1
  obtain⟨q1,n1,c1',q2,n2,c2',sp,vw,pp,qe,ne,ce,qk,nk,ck⟩:=v
  clear h hw hl hBW hrow hX hE
  go_enter Tryz.func79,Tryz.ntmps79
  go_wp2_with fail
  rw[←hW]
  simp only[←hG]
  clear hW hG
  refine HFO.out.mono ?_
  rintro e w1⟨rfl,b1⟩
  have HB1:=hidF b1
  obtain⟨k1,-,k3⟩:=HSO.out w1 b1
  obtain⟨-,-,-,-,x4,-⟩:=k1.cells
  clear c0 c1 c2 c3 c4 c5 c6 c7
  obtain⟨-,c1,-⟩:=wak.row8 k3
  simp only[] at x4
  clear b1 k1 k3 HFO
  go_upto_region 4 with fail
  go_region_with (go_at_call 101;with_reducible refine(HFR.out _ ?_).mono ?_;(with_reducible repeat' (first|exact HB1.out|assumption|refine Below.drew ?_));rintro x w2 ⟨E,rfl,HOR⟩)
  all_goals
   rcases HOR.out with ⟨s1,hx1,rfl,HM,HT,h6⟩|⟨k,rfl,HR⟩
   rotate_left
   ·clear HOR
    go_wp2_with fail
    go_ret
    exact HR.out
   ·(clear HOR
     have hs1:=(free_ok HW.out hx1).2
     have hl1:s1.evs.length≤1000000:=by rw[hs1];exact HL.out
     obtain⟨v1,hM⟩:=HM.out
     have HTL:=hidF (zDi (w0:=w) (x:=X) (S:=tA) 3 a1 a6 a5 hM HT.out (fun _ h=>h) hl1 (by rw[HXX.out,hx1];rfl))
     clear c1 x4 hx1 hs1 hl1 hM
     obtain⟨c0,c1,c2,c3,c4,c5,c6,c7,-⟩:=wak.row8 h6
     clear h6
     go_wp2_with fail
     refine HTL.out.mono ?_
     rintro x w3⟨rfl,HR⟩
     clear c0 c1 c2 c3 c4 c5 c6 c7
     go_wp2_with fail
     go_ret
     exact HR.out)
end flr
end Go.Proofs.YtifjhlgjgnnnpaaGreat
