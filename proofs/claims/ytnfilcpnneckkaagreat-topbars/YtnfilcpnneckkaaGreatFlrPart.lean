import Derived.Test.YtnfilcpnneckkaaGreatMAPure
set_option maxHeartbeats 2000000
set_option maxRecDepth 100000
namespace Go.Proofs.YtnfilcpnneckkaaGreat
open Go.Proofs.Tryz
namespace flr
open Go.RowKit que sid mee
open ord (O oV chk prB mB)
open bok (zAc zAg)
open kin (kdoE kdoB kdoS kdoG setB setS setG setE zBB zBw zBS zIB zFM)
open slf (V Fine sE zER lfV gnV repB repS Less zDR zDc zCf zAR)
open tickP (zAo zAB)
inductive Fil (m:Int) (o:O):List L→Int→V→Prop
 | done {ls:List L}{k:Int}:k≤0→Fil m o ls k ⟨ls,[],k,false,[]⟩
 | stop {ls:List L}{k:Int}:(∀l t,ls=l::t→mB o l.price=false)→Fil m o ls k ⟨ls,[],k,false,[]⟩
 | taker {p:Int}{r:R}{rs:List R}{t:List L}{k:Int}:0<k→mB o p=true→r.who=o.who→Fil m o (⟨p,r::rs⟩::t) k ⟨⟨p,r::rs⟩::t,[],k,true,[]⟩
 | maker {p:Int}{r:R}{rs:List R}{t:List L}{k:Int}{v:V}:0<k→mB o p=true→r.who=o.who→Fil m o (zAw p rs t) k v→Fil m o (⟨p,r::rs⟩::t) k ⟨v.ls,v.ts,v.left,v.ends,r.id::v.ids⟩
 | both {p:Int}{r:R}{rs:List R}{t:List L}{k:Int}:0<k→mB o p=true→r.who=o.who→Fil m o (⟨p,r::rs⟩::t) k ⟨zAw p rs t,[],k,true,[r.id]⟩
 | fill {p:Int}{r:R}{rs:List R}{t:List L}{k:Int}{v:V}:0<k→mB o p=true→(¬m=0→¬r.who=o.who)→Fil m o (zAw p (tk1 (min k r.qty) r rs) t) (k - min k r.qty) v→Fil m o (⟨p,r::rs⟩::t) k ⟨v.ls,trd o p ⟨r.id,r.who,min k r.qty⟩::v.ts,v.left,v.ends,v.ids⟩
theorem zPh{m:Int}{o:O}{ls:List L}{k:Int}{v:V}(h:Fine m o ls k v):Fil m o ls k v:=by
 induction h with
 | done h=>exact .done h
 | stop h=>exact .stop h
 | taker a b c _=>exact .taker a b c
 | maker a b c _ _ ih=>exact .maker a b c ih
 | both a b c _=>exact .both a b c
 | fill a b c _ ih=>exact .fill a b (fun _=>c) ih
theorem zRj{o:O}:∀ (n:Nat) (ls:List L) (k:Int),k.toNat≤n→(∀l∈ls,lchk l=0)→Fil 0 o ls k ⟨(tkl o ls k).1,(tkl o ls k).2.1,(tkl o ls k).2.2,false,[]⟩:=by
 intro n;induction n with
 | zero=>
  intro ls k hn _;rw[zBa (by omega)]
  exact .done (by omega)
 | succ n ih=>
  intro ls k hn hl;by_cases h0:k≤0
  ·rw[zBa h0];exact .done h0
  cases ls with
  | nil=>exact .stop (fun l t e=>by cases e)
  | cons l t=>
   obtain⟨p,zs⟩:=l;cases hb:mB o p with
   | false=>rw[zFw (l:=⟨p,zs⟩) hb];exact .stop (fun l' t' e=>by cases e;exact hb)
   | true=>
    obtain⟨-,H8,hq⟩:=zAf (hl ⟨p,zs⟩ (by simp))
    cases zs with
    | nil=>exact absurd rfl H8
    | cons r rs=>
     have hr:=zBi hq;rw[zFH (by omega) hb hq]
     exact .fill (by omega) hb (fun h=>absurd rfl h) (ih _ _ (by omega) (zBj (by omega) hl))
theorem zEu{o:O}{p k:Int}{r:R}{rs:List R}{t:List L}(hk:0<k)(hb:mB o p=true)(hl:∀l∈(⟨p,r::rs⟩::t:List L),lchk l=0):Less (⟨p,r::rs⟩::t) (zAw p (tk1 (min k r.qty) r rs) t):=by
 obtain⟨-,-,hq⟩:=zAf (hl _ (List.mem_cons_self ..));have hr:=zBi hq;have h1:=zDR (o:=o) (q:=min k r.qty) (by omega) hl
 rw[zFH (by omega) hb hq,show min (min k r.qty) r.qty=min k r.qty by omega,show min k r.qty - min k r.qty=0 by omega,zBa (jY 0)] at h1
 exact h1
structure FF (o:O) (ls:List L) (k:Int) (v:V):Prop where
 less:Less ls v.ls
 sum:v.left+sumT v.ts=k
 left:0≤v.left
 ids:v.ids.length+(allR v.ls).length≤(allR ls).length
 each:∀x∈v.ts,1≤x.qty∧x.qty≤10000∧1≤x.price∧x.price≤10000∧x.taker=o.id∧mB o x.price=true
 good:∀l∈v.ls,lchk l=0
theorem zMv{m:Int}{o:O}{ls:List L}{k:Int}{v:V}(h:Fil m o ls k v):(∀l∈ls,lchk l=0)→0≤k→FF o ls k v:=by
 induction h with
 | done=>exact fun hl h0=>⟨Less.refl _,by simp[sumT],h0,by simp,(fun _ h=>by cases h),hl⟩
 | stop=>exact fun hl h0=>⟨Less.refl _,by simp[sumT],h0,by simp,(fun _ h=>by cases h),hl⟩
 | taker=>exact fun hl h0=>⟨Less.refl _,by simp[sumT],h0,by simp,(fun _ h=>by cases h),hl⟩
 | @maker p r rs t k v _ _ _ _ ih=>
  intro hl h0;obtain⟨a,b,c,d,e,f⟩:=ih (zAR hl) h0;have:=slf.zBX (p:=p) (z:=rs) (t:=t);refine⟨(zDc hl).trans a,b,c,?_,e,f⟩;rw[zAp];simp only[jG,jE] at d ⊢;omega
 | @both p r rs t k _ _ _=>
  intro hl h0;have:=slf.zBX (p:=p) (z:=rs) (t:=t);refine⟨zDc hl,by simp[sumT],h0,?_,(fun _ h=>by cases h),zAR hl⟩
  rw[zAp];simp only[jG,jE,List.length_nil];omega
 | @fill p r rs t k v h0 hb _ _ ih=>
  intro hl _;obtain⟨hp,-,hq⟩:=zAf (hl _ (List.mem_cons_self ..));have hr:=zBi hq;obtain⟨a,b,c,d,e,f⟩:=ih (zBj h0 hl) (by omega)
  have Hh:=(zEu (o:=o) h0 hb hl).len;refine⟨(zEu h0 hb hl).trans a,?_,c,by simp only[] at d ⊢;omega,fun x hx=>?_,f⟩
  ·have:(trd o p ⟨r.id,r.who,min k r.qty⟩).qty=min k r.qty:=by unfold trd;split <;>rfl
   simp only[sumT,this];omega
  ·rcases List.mem_cons.1 hx with rfl|hx
   ·simp only[] at hp;have h1:(trd o p ⟨r.id,r.who,min k r.qty⟩).qty=min k r.qty:=(by unfold trd;split <;>rfl);have h2:(trd o p ⟨r.id,r.who,min k r.qty⟩).price=p:=(by unfold trd;split <;>rfl);have h3:(trd o p ⟨r.id,r.who,min k r.qty⟩).taker=o.id:=(by unfold trd;split <;>rfl);rw[h1,h2,h3];exact⟨by omega,by omega,hp.1,hp.2,rfl,hb⟩
   ·exact e x hx
structure VF (m:Int) (bs ss:List L) (o:O) (v:V):Prop where
 come:zAu bs ss o=0
 fil:Fil m o (zAr bs ss o) o.qty v
 set:setE (repB o bs v.ls) (repS o ss v.ls) o (lfV v)=0
 len:v.ts.length≤400
 is:vR m bs ss o=⟨setB (repB o bs v.ls) o (lfV v),setS (repS o ss v.ls) o (lfV v),v.ts,gnV v+setG o (lfV v),v.ids⟩
theorem wAp{bs ss:List L}{o:O}(h:zAu bs ss o=0):∀l∈zAr bs ss o,lchk l=0:=by
 obtain⟨h0,-⟩:=zAG h;obtain⟨e1,e2,-⟩:=bok.zAh h0;unfold zAr;split
 ·exact zAs (zAe e2).2.1
 ·exact zAs (zAe e1).2.1
theorem zHc{m:Int}{bs ss:List L}{o:O}(h0:0≤m)(h3:m≤3)(h:vE m bs ss o=0):∃v,VF m bs ss o v:=by
 unfold vE at h;by_cases hm:m=0
 ·subst hm;rw[if_pos rfl] at h;obtain⟨h1,h2,h4⟩:=zIB h;obtain⟨h5,h6⟩:=zFM h1;refine⟨⟨(metR bs ss o).1,(metR bs ss o).2.1,(metR bs ss o).2.2,false,[]⟩,h5,zRj _ _ _ (nzR _) (wAp h5),?_,h6,?_⟩
  ·have e1:repB o bs (metR bs ss o).1=metB bs ss o:=by unfold slf.repB metB;rfl
   have e2:repS o ss (metR bs ss o).1=metS bs ss o:=by unfold slf.repS metS;rfl
   simp only[lfV];rw[e1,e2];exact h4
  ·unfold vR;rw[if_pos rfl];have e1:repB o bs (metR bs ss o).1=metB bs ss o:=by unfold slf.repB metB;rfl
   have e2:repS o ss (metR bs ss o).1=metS bs ss o:=by unfold slf.repS metS;rfl
   simp only[lfV,gnV,e1,e2];simp[kdoB,kdoS,kdoG]
 ·rw[if_neg hm] at h;by_cases hc:zAu bs ss o=0
  ·rw[if_pos hc] at h;obtain⟨v,hv⟩:=slf.zEk (m:=m) (o:=o) (k:=o.qty) (by omega) (wAp hc)
   have CZ:=zMt hv;rw[CZ] at h;unfold slf.sE at h;by_cases h4:400<v.ts.length
   ·rw[if_pos h4] at h;omega
   ·rw[if_neg h4] at h;by_cases h5:zER o (lfV v) (gnV v) v.ids.length=0
    ·rw[if_pos h5] at h;refine⟨v,hc,zPh hv,h,by omega,?_⟩
     unfold vR;rw[if_neg hm];simp only[CZ]
    ·rw[if_neg h5] at h;exact absurd h h5
  ·rw[if_neg hc] at h;exact absurd h hc
theorem VF.ff{m:Int}{bs ss:List L}{o:O}{v:V}(h:VF m bs ss o v):FF o (zAr bs ss o) o.qty v:=by
 obtain⟨-,gI,-⟩:=zAG h.come;have:=(mrg.zCy gI).2.2.1;exact zMv h.fil (wAp h.come) (by omega)
theorem VF.book{m:Int}{bs ss:List L}{o:O}{v:V}(h:VF m bs ss o v):zAc (repB o bs v.ls) (repS o ss v.ls)=0:=zCf (zAG h.come).1 h.ff.less
theorem zPi{m:Int}{bs ss:List L}{o:O}(h0:0≤m)(h3:m≤3)(h:vE m bs ss o=0):zAc (vR m bs ss o).bs (vR m bs ss o).ss=0:=by
 obtain⟨v,hv⟩:=zHc h0 h3 h;rw[hv.is];simp only[];unfold kin.setB kin.setS;cases Gb:zBB o (lfV v) with
 | true=>
  obtain⟨h5,h6⟩:=kin.zRi hv.set Gb;simp only[if_true];exact(bok.zPf h6).2.2
 | false=>
  simp only[Bool.false_eq_true,if_false];exact hv.book
structure VO (o:O) (v:Vs):Prop where
 ck:chk o=0
 book:zAc v.bs v.ss=0
 g0:0≤v.gone
 g1:v.gone+sumT v.ts≤o.qty
 len:v.ts.length≤400
 ids:v.ids.length≤60
 each:∀x∈v.ts,1≤x.qty∧x.qty≤10000∧1≤x.price∧x.price≤10000∧x.taker=o.id∧mB o x.price=true
theorem zIO{m:Int}{bs ss:List L}{o:O}(h0:0≤m)(h3:m≤3)(h:vE m bs ss o=0):VO o (vR m bs ss o):=by
 have hb:=zPi h0 h3 h;obtain⟨v,hv⟩:=zHc h0 h3 h;obtain⟨uB,gI,-⟩:=zAG hv.come;have hf:=hv.ff;have Hh:(allR (zAr bs ss o)).length≤60:=by
  obtain⟨e1,e2,-⟩:=bok.zAh uB;unfold zAr;split
  ·exact bok.zCD e2
  ·exact bok.zCD e1
 have hsum:=hf.sum;have hl:=hf.left;refine⟨gI,hb,?_,?_,?_,?_,?_⟩
 ·rw[hv.is];simp only[gnV,lfV,setG];split <;>split <;>omega
 ·rw[hv.is];simp only[gnV,lfV,setG];split <;>split <;>omega
 ·rw[hv.is];exact hv.len
 ·rw[hv.is];have:=hf.ids;simp only[];omega
 ·rw[hv.is];exact hf.each
theorem zRk{s:Int}(hs:zAB s=true)(x:L)(b:List L):∀ (a:List L) (prev:Option Int),sid.sgo s prev (a++x::b)=0→sid.sgo s prev (a++b)=0:=by
 intro a;induction a with
 | nil=>
  intro prev h;obtain⟨h1,h2,h3⟩:=zBb h;exact zFF hs h3 h2
 | cons y t ih=>
  intro prev h;obtain⟨h1,h2,h3⟩:=zBb h;exact zFa h1 h2 (ih _ h3)
theorem zHd{ls:List L}{i k:Nat}(hi:i<ls.length)(hk:k<ls[i].rests.length)(hl:∀l∈ls,lchk l=0):Less ls (zBo ls i k):=by
 obtain⟨a,b,c,d,h1,h2,h3,h4⟩:=swp.zCs hi hk;generalize hr:ls[i].rests[k]=r at *;generalize hp:ls[i].price=p at *;have hx:=hl _ (jT hi);have hz:lchk ⟨p,c++r::d⟩=0:=by rw[←h3,←hp];exact hx
 rw[h1,←h2,←h4,swp.zEq];have Cz:allR (if c.length+d.length=0 then a++b else a++⟨p,c++d⟩::b)=allR a++(c++(d++allR b)):=by
  by_cases e:c.length+d.length=0
  ·rw[if_pos e];have e1:c=[]:=List.eq_nil_of_length_eq_zero (by omega)
   have e2:d=[]:=List.eq_nil_of_length_eq_zero (by omega)
   rw[e1,e2,zCd];rfl
  ·rw[if_neg e,swp.zDe];simp
 have pZ:allR (a++⟨p,c++r::d⟩::b)=allR a++(c++r::(d++allR b)):=by rw[swp.zDe];simp
 refine⟨fun j hj=>?_,fun hn=>?_,?_,fun x hx=>?_,fun s prev hs h=>?_⟩
 ·rw[Cz] at hj;rw[pZ];simp only[jF,jK,List.mem_append,List.mem_cons] at hj ⊢;rcases hj with h|h|h|h
  ·exact .inl h
  ·exact .inr (.inl h)
  ·exact .inr (.inr (.inr (.inl h)))
  ·exact .inr (.inr (.inr (.inr h)))
 ·rw[pZ] at hn;rw[Cz];refine List.Nodup.sublist ?_ hn;exact List.Sublist.map _ (List.Sublist.append_left (List.Sublist.append_left (List.sublist_cons_self _ _) _) _)
 ·rw[Cz,pZ];simp
 ·split at hx
  ·rcases List.mem_append.1 hx with hx|hx
   ·exact⟨x,by simp[hx],rfl⟩
   ·exact⟨x,by simp[hx],rfl⟩
  ·rcases List.mem_append.1 hx with hx|hx
   ·exact⟨x,by simp[hx],rfl⟩
   ·rcases List.mem_cons.1 hx with rfl|hx
    ·exact⟨⟨p,c++r::d⟩,by simp,rfl⟩
    ·exact⟨x,by simp[hx],rfl⟩
 ·split
  ·exact zRk hs _ b a prev h
  ·rename_i H8
   obtain⟨B5,-,hq⟩:=zAf hz;obtain⟨GF,hg⟩:=(zAn _).1 hq;refine swp.zLT p (zCM (zDa hz) (fun e=>H8 (by rw[←jE,e];rfl)) ((zAn _).2 ⟨?_,?_,?_⟩)) a b prev h
   ·simp at GF ⊢;omega
   ·intro x hx;exact hg.1 x (by simp at hx ⊢;rcases hx with h|h;exact .inl h;exact .inr (.inr h))
   ·refine List.Nodup.sublist (List.Sublist.map _ ?_) hg.2;exact List.Sublist.append_left (List.sublist_cons_self _ _) _
theorem zCh{bs ss:List L}{id s p:Int}{r:R}{i k:Nat}(h:swp.At bs ss id s p r i k):zAc (swp.cB s bs i k) (swp.cS s ss i k)=0:=by
 obtain⟨ls,hS,-⟩:=h;obtain⟨e1,e2,-⟩:=bok.zAh hS.h0;have hi:=hS.hi;have hk:=hS.hk;have h0:=hS.h0;rcases hS.side with ⟨rfl,rfl,-⟩|⟨rfl,rfl,-⟩
 ·have hL:=zHd hi hk (zAs (zAe e1).2.1);have:=zCf (o:=⟨0,0,2,0,0,0,0,0⟩) h0 hL;exact this
 ·have hL:=zHd hi hk (zAs (zAe e2).2.1);have:=zCf (o:=⟨0,0,1,0,0,0,0,0⟩) h0 hL;exact this
end flr
namespace flr
open Go.RowKit
open que (R rchk)
open sid (L DL)
open mee (T tV)
open ord (O oV chk errV wAa wAb)
open pur (Pz Pu Ok)
open wak (OwnM St oL wAe)
open mrg (zBp zBJ zBK zIN)
theorem TM.evrow{w w' : World}{b t:Nat}{s:TS}{v:TV}(h:TM w b t s v)(hg:w.grownBy w' (Value.slice v.qe v.ne v.ce).ownBlock):w'.heap[t]?=some (.cells (rowT s v) 73 (0,0)):=by
 rcases h.evs.2 with ⟨h1,_⟩|⟨g,off,cap,cur,h1,h2,h3,_⟩
 ·rw[h1] at hg;exact(hg.block t h.lt (by simp[Value.ownBlock])).trans h.blk
 ·rw[h1] at hg;have bE : w.grownBy w' (some g):=hg;exact(Kp.grown (S:=[40]) bE h3 (by simp)).typ _ _ _ h.blk (by decide)
theorem wBe(a b c d e:Int)(w:World)(h:rchk ⟨a,b,c,d,e⟩=0) :
  Calls prog 104 #[.agg #[.int .i64 a,.int .i64 b,.int .i64 c,.int .i64 d,.int .i64 e]] w fun x w'=>x=.returned (.int .i64 (c+d))∧Bw w w':=by
 have hs:wrap64 (c+d)=c+d:=by
  obtain⟨a,b,-⟩:=que.zAq h;simp only[] at a b;unfold wrap64;omega
 have hB:Bw w (w.alloc (.cells #[.int .i64 a,.int .i64 b,.int .i64 c,.int .i64 d,.int .i64 e] 51)):=(bzR _ _).alloc (nzR _) _;clear h;go_enter func104,ntmps104
 go_wp2
 go_ret;exact⟨congrArg Ending.returned (congrArg (Value.int IntKind.i64) hs),hB⟩
theorem zFX(b t:Nat)(s:TS)(v:TV)(what id qty price:Int)(w:World)(h:TM w b t s v)(hl:s.evs.length≤1000000) :
  Calls prog 36 #[.pointer (some ⟨t,0,none⟩),.int .i64 what,.int .i64 id,.int .i64 qty,.int .i64 price] w fun e w'=>e=.returned (.tuple #[])∧(∃v',TM w' b t (tell s what id qty price) v')∧Tn tA b w w':=by
 obtain⟨i0,gY,gE,gu,gA⟩:=infoE';have HI:=hidF gY;have HN:=hidF h.ne;obtain⟨W,hW⟩:∃W,W=w.alloc (.cells #[.int .i64 what,.int .i64 id,.int .i64 qty,.int .i64 price,.int .i64 0,.int .i64 0,.int .i64 0,.int .i64 0,.int .i64 0,.int .i64 0] 40):=⟨_,rfl⟩;have Hj:Bw w W:=by rw[hW];exact(bzR _ _).alloc (nzR _) _
 have HT:=hidF (h.below Hj);have HTN:=hidF (Tn.below (S:=tA) Hj h.base);have Hd:W.heap[w.heap.size]?=some (.cells #[.int .i64 what,.int .i64 id,.int .i64 qty,.int .i64 price,.int .i64 0,.int .i64 0,.int .i64 0,.int .i64 0,.int .i64 0,.int .i64 0] 40 (0,0)):=by rw[hW];exact jA w _
 have HR:=hidF Hd;have HL:=hidF hl;obtain⟨x0,x1,x2,x3,x4,x5,x6,x7,-⟩:=h.cells;obtain⟨q1,n1,c1,q2,n2,c2,sp,vw,pp,qe,ne,ce,qk,nk,ck⟩:=v;simp only[] at x0 x1 x2 x3 x4 x5 x6 x7 HN;have Gw:Hid (∀w' v',OwnM w' b 40 10 v' (ne+1) (zAD s.evs++[.int .i64 what,.int .i64 id,.int .i64 qty,.int .i64 price,.int .i64 0,.int .i64 0,.int .i64 0,.int .i64 0,.int .i64 0,.int .i64 0])→W.grownBy w' (Value.slice qe ne ce).ownBlock→∃q n c,v'=.slice q n c∧(w'.cell? ⟨t,6,none⟩=some (.slice qe ne ce)∧w'.frozen? ⟨t,6,none⟩=false)∧(∃v',TM (w'.setCell ⟨t,6,none⟩ (.slice q n c)) b t (tell s what id qty price) v')∧Tn tA b w (w'.setCell ⟨t,6,none⟩ (.slice q n c))):=fun w' v' ho hg=>by
  have hr:=HT.out.evrow hg;obtain⟨-,-,-,-,-,-,y6,-,yf⟩:=wak.row8 hr;obtain⟨q,c,rfl⟩:=OwnM.form ho;have e1:ne+1=(s.evs++[(⟨what,id,qty,price,zeroT⟩:Ev)]).length:=by rw[jE,HN.out];rfl
  have e2:zAD s.evs++[.int .i64 what,.int .i64 id,.int .i64 qty,.int .i64 price,.int .i64 0,.int .i64 0,.int .i64 0,.int .i64 0,.int .i64 0,.int .i64 0]=zAD (s.evs++[(⟨what,id,qty,price,zeroT⟩:Ev)]):=by rw[zCm,zGo];rfl
  rw[e2] at ho;have Mi:OwnM w' b 40 10 (.slice q (ne+1) c) (s.evs++[(⟨what,id,qty,price,zeroT⟩:Ev)]).length (zAD (s.evs++[(⟨what,id,qty,price,zeroT⟩:Ev)])):=by rw[←e1];exact ho
  obtain⟨a1,a2⟩:=HT.out.told Mi hg;exact⟨q,ne+1,c,rfl,⟨y6,yf 6⟩,⟨_,a1⟩,HTN.out.trans a2⟩
 have HO:Hid (OwnM W b 40 10 (.slice qe ne ce) ne (zAD s.evs)):=by
  have:=HT.out.evs
  rwa [←HN.out] at this
 have HBS:Hid (b≤W.heap.size):=HT.out.base;clear h gY hl Hj Hd;go_enter func36,ntmps36;go_wp2_with (at_builtin;(rw[←hW];refine wAe _ rfl _ _ 29 rfl b 40 i0 zMs 10 80 underlying29 HI.out gE gu gA rfl (.slice qe ne ce) ne (zAD s.evs) rfl ?p0 ⟨w.heap.size,0,none⟩ 1 1 [.int .i64 what,.int .i64 id,.int .i64 qty,.int .i64 price,.int .i64 0,.int .i64 0,.int .i64 0,.int .i64 0,.int .i64 0,.int .i64 0] rfl rfl (World.news_of_block (cs:=#[.int .i64 what,.int .i64 id,.int .i64 qty,.int .i64 price,.int .i64 0,.int .i64 0,.int .i64 0,.int .i64 0,.int .i64 0,.int .i64 0]) HR.out) (by simp[Value.oneCell']) ?p1 ?p2 ?p3 ?_))
 case p0=>exact HO.out
 case p1=>have:=HN.out;have:=HL.out;unfold maxLen;omega
 case p2=>have:=HN.out;have:=HL.out;omega
 case p3=>exact HBS.out
 intro v' w' gy Hy _;rw[←hW] at Hy;obtain⟨q,n,c,rfl,⟨y1,y2⟩,U6⟩:=Gw.out w' v' gy Hy;have HPY:=hidF U6;clear U6 Gw gy Hy;go_wp2_with fail;go_end0
 exact⟨rfl,HPY.out⟩
theorem zEv{w0 w w' : World}{b t:Nat}{s:TS}{v:TV}{who c d:Int}(h:TM w b t s v)(h0:Tn tA b w0 w)(hp:Pu 98 9 w' v.pp (pur.zCK s.ps who c d))(hg:w.grownBy w' (some v.pp)):Res tA b t w0 (zBY s who c d) (.returned (errV (pur.zCv s.ps who c d))) w':=by
 unfold zBY;by_cases e:pur.zCv s.ps who c d=0
 ·rw[if_pos e,e];obtain⟨a1,a2⟩:=h.pay hp hg;exact⟨h0.trans a2,rfl,v,a1⟩
 ·rw[if_neg e,wAb e];exact⟨h0.trans (h.pay hp hg).2,e,rfl⟩
theorem wAZ(b t:Nat)(s:TS)(v:TV)(a1 a2 a3 a4 a5 side price:Int)(w:World)(h:TM w b t s v)(hw:Wf s) :
  Calls prog 105 #[.pointer (some ⟨t,0,none⟩),.agg #[.int .i64 a1,.int .i64 a2,.int .i64 a3,.int .i64 a4,.int .i64 a5],.int .i64 side,.int .i64 price] w (Res tA b t w (zCk s ⟨a1,a2,a3,a4,a5⟩ side price)):=by
 obtain⟨W,hW⟩:∃W,W=w.alloc (.cells #[.int .i64 a1,.int .i64 a2,.int .i64 a3,.int .i64 a4,.int .i64 a5] 51):=⟨_,rfl⟩;have Hj:Below w.heap.size w W:=by rw[hW];exact(bzR _ _).alloc (nzR _) _
 have Hd:W.heap[w.heap.size]?=some (.cells #[.int .i64 a1,.int .i64 a2,.int .i64 a3,.int .i64 a4,.int .i64 a5] 51 (0,0)):=by rw[hW];exact jA w _
 have M0:=hidF (zIN a1 a2 a3 a4 a5 side price W);have Ho:Hid (∀U,Below W.heap.size W U→TM U b t s v∧Tn tA b w U∧U.heap[w.heap.size]?=some (.cells #[.int .i64 a1,.int .i64 a2,.int .i64 a3,.int .i64 a4,.int .i64 a5] 51 (0,0))):=fun U hU=>by
  have GU:=Hj.trans (hU.mono Hj.size);exact⟨h.below GU,Tn.below GU h.base,(hU.block _ (gzE.1 Hd).1).trans Hd⟩
 have uF:=hidF hw.ok;obtain⟨G,hG⟩:∃G,G=w.heap.size:=⟨_,rfl⟩;rw[←hG] at Ho;obtain⟨q1,n1,c1,q2,n2,c2,sp,vw,pp,qe,ne,ce,qk,nk,ck⟩:=v;generalize hC:zBJ ⟨a1,a2,a3,a4,a5⟩ side price=C at *;generalize hD:zBK ⟨a1,a2,a3,a4,a5⟩ side price=D at *;by_cases hE:zBp ⟨a1,a2,a3,a4,a5⟩ side price=0
 ·have HX:Hid (zCk s ⟨a1,a2,a3,a4,a5⟩ side price=zBY s a2 C D):=by show _=_;unfold zCk;rw[if_pos hE,hC,hD]
  rw[HX.out];rw[hE,wAa] at M0;have uA:Hid (∀U,Below W.heap.size W U→Calls prog 93 #[.pointer (some ⟨pp,0,none⟩),.int .i64 a2,.int .i64 C,.int .i64 D] U fun e w'=>∃x,e=.returned x∧Hid (Res tA b t w (zBY s a2 C D) (.returned x) w')):=fun U hU=>by
   obtain⟨k1,k2,-⟩:=Ho.out U hU;refine(pur.wAZ pp s.ps a2 C D U k1.purs uF.out).mono ?_;rintro e w'⟨rfl,k3,k4⟩;exact⟨_,rfl,zEv k1 k2 k3 k4⟩
  clear h hw Hj Hd hC hD hE uF;go_enter func105,ntmps105;go_wp2_with fail;rw[←hW];simp only[←hG];clear hW hG;refine M0.out.mono ?_;rintro e w1⟨rfl,b1⟩;have He:=hidF b1;obtain⟨k1,-,k3⟩:=Ho.out w1 b1;obtain⟨-,-,-,-,x4,-⟩:=k1.cells;obtain⟨-,y1,-⟩:=sid.zAi k3;simp only[] at x4;clear b1 k1 k3 M0;go_upto_region 4 with fail
  go_region_with (go_at_call 93;with_reducible refine(uA.out _ ?_).mono ?_;(with_reducible repeat' (first|exact He.out|assumption|refine Below.drew ?_));rintro x w2 ⟨X,rfl,HR⟩)
  all_goals
   go_wp2_with fail;go_ret;exact HR.out
 ·have HX:Hid (zCk s ⟨a1,a2,a3,a4,a5⟩ side price=.error (zBp ⟨a1,a2,a3,a4,a5⟩ side price)):=by show _=_;unfold zCk;rw[if_neg hE]
  rw[HX.out];rw[wAb hE] at M0;generalize zBp ⟨a1,a2,a3,a4,a5⟩ side price=K at *;clear h hw Hj Hd hC hD uF HX;go_enter func105,ntmps105;go_wp2_with fail;rw[←hW];clear hW hG;refine M0.out.mono ?_;rintro e w1⟨rfl,b1⟩;have He:=hidF (Ho.out w1 b1).2.1;clear b1 M0;go_wp2_with fail;go_ret;exact zAE rfl hE He.out
end flr
namespace flr
open Go.RowKit
open que (R rchk)
open sid (L DL)
open mee (T tV)
open ord (O oV chk errV wAa wAb)
open pur (Pz Pu Ok)
open wak (OwnM St oL)
open mrg (zBp zBJ zBK forC forS zFU)
theorem zBL{w W:World}{B:Nat}{o:Obj}(h:w.heap[B]?=some o)(hB:Bw w W):W.heap[B]?=some o:=(hB.block B (gzE.1 h).1).trans h
theorem zDh{S:List TypeId}{b t:Nat}{s:TS}{v:TV}{w0 w:World}{x:Rs}(what id qty price:Int)(h:TM w b t s v)(h0:Tn S b w0 w)(hS:∀t∈tA,t∈S)(hl:s.evs.length≤1000000)(hx:x=.ok (tell s what id qty price)) :
  Calls prog 36 #[.pointer (some ⟨t,0,none⟩),.int .i64 what,.int .i64 id,.int .i64 qty,.int .i64 price] w fun e w'=>e=.returned (.tuple #[])∧Hid (Res S b t w0 x (.returned .nilIface) w'):=by
 refine(zFX b t s v what id qty price w h hl).mono ?_;rintro e w'⟨rfl,⟨v',h1⟩,h2⟩;exact⟨rfl,zQa hx (h0.trans (h2.mono hS)) h1⟩
theorem zCL{S:List TypeId}{b t:Nat}{w w' : World}{x y:Rs}{e:Ending}(h:Res S b t w x e w')(hxy:x=y):Res S b t w y e w':=hxy ▸ h
theorem wAT(b t:Nat)(s:TS)(v:TV)(a1 a2 a3 a4 a5 side price:Int)(w:World)(h:TM w b t s v)(hw:Wf s)(hr:rchk ⟨a1,a2,a3,a4,a5⟩=0)(hl:s.evs.length≤1000000) :
  Calls prog 94 #[.pointer (some ⟨t,0,none⟩),.agg #[.int .i64 a1,.int .i64 a2,.int .i64 a3,.int .i64 a4,.int .i64 a5],.int .i64 side,.int .i64 price] w (Res tA b t w (part s ⟨a1,a2,a3,a4,a5⟩ side price)):=by
 obtain⟨W,hW⟩:∃W,W=w.alloc (.cells #[.int .i64 a1,.int .i64 a2,.int .i64 a3,.int .i64 a4,.int .i64 a5] 51):=⟨_,rfl⟩;have Hj:Below w.heap.size w W:=by rw[hW];exact(bzR _ _).alloc (nzR _) _
 have Hd:W.heap[w.heap.size]?=some (.cells #[.int .i64 a1,.int .i64 a2,.int .i64 a3,.int .i64 a4,.int .i64 a5] 51 (0,0)):=by rw[hW];exact jA w _
 have uA:=hidF (wAZ b t s v a1 a2 a3 a4 a5 side price W (h.below Hj) hw);have ua:=hidF (Tn.below (S:=tA) Hj h.base);have cn:=hidF (fun U=>wBe a1 a2 a3 a4 a5 U hr)
 obtain⟨G,hG⟩:∃G,G=w.heap.size:=⟨_,rfl⟩;rw[←hG] at Hd;have HW:=hidF hw;have HL:=hidF hl;have DZ:=hidF Hd;obtain⟨X,hX⟩:∃X,X=part s ⟨a1,a2,a3,a4,a5⟩ side price:=⟨_,rfl⟩;rw[←hX];have HX:=hidF hX;obtain⟨c,hc⟩:∃c,c=a3+a4:=⟨_,rfl⟩;rw[←hc] at cn;have HC:=hidF hc;obtain⟨c0,c1,c2,c3,c4,-⟩:=sid.zAi Hd;clear h hw hr hl Hj Hd hX hc;go_enter func94,ntmps94;go_wp2_with fail;rw[←hW];simp only[←hG];clear hW hG;refine uA.out.mono ?_;intro e w1 hR;have BA:=hR.1;rcases hR.two with ⟨s1,v1,gM,rfl,hM⟩|⟨k,gM,hk,rfl⟩
 rotate_left
 ·have gJ:Hid (Res tA b t w X (.returned (.iface 90 (.int .i64 k))) w1):=zAE (by rw[HX.out];unfold part;rw[gM];rfl) hk (ua.out.trans BA)
  clear hR BA gM c0 c1 c2 c3 c4;go_wp2_with fail;go_ret;exact gJ.out
 ·have Py:=BA.kp.typ _ _ _ DZ.out (by decide)
  have Hl:=(zFV HW.out gM).2.2;have U9:s1.evs.length≤1000000:=by rw[Hl];exact HL.out
  have mg:X=.ok (tell s1 3 a1 c price):=by rw[HX.out];unfold part;rw[gM,HC.out];rfl
  have G0:Hid (∀U,Below w1.heap.size w1 U→Calls prog 36 #[.pointer (some ⟨t,0,none⟩),.int .i64 3,.int .i64 a1,.int .i64 c,.int .i64 price] U fun e w'=>e=.returned (.tuple #[])∧Hid (Res tA b t w X (.returned .nilIface) w')):=fun U hU=>
   zDh 3 a1 c price (hM.below hU) ((ua.out.trans BA).trans (Tn.below hU hM.base)) (fun _ h=>h) U9 mg
  have HK:Hid (∀U,Below w1.heap.size w1 U→U.cell? ⟨G,0,none⟩=some (.int .i64 a1)):=fun U hU=>(sid.zAi (zBL Py hU)).1
  clear hR BA gM hM Hl U9 mg c0 c1 c2 c3 c4;obtain⟨c0,c1,c2,c3,c4,-⟩:=sid.zAi Py;clear Py;go_upto_region 4 with fail
  go_region_with (first|(go_at_call 104;with_reducible refine(cn.out _).mono ?_;rintro x w2 ⟨rfl,b2⟩;have H6:=hidF ((bzR w1.heap.size w1).drew.trans (b2.mono (bzR w1.heap.size w1).drew.size));have k0:=HK.out w2 H6.out)|(go_at_call 36;with_reducible refine(G0.out _ ?_).mono ?_;(with_reducible repeat' (first|exact H6.out|assumption|refine Below.drew ?_));rintro x w3 ⟨rfl,HR⟩))
  all_goals
   go_wp2_with fail;go_ret;exact HR.out
theorem zFn(b t:Nat)(s:TS)(v:TV)(a1 a2 a3 a4 a5 a6 a7 a8:Int)(w:World)(h:TM w b t s v)(hw:Wf s)(hl:s.evs.length≤1000000) :
  Calls prog 63 #[.pointer (some ⟨t,0,none⟩),.agg #[.int .i64 a1,.int .i64 a2,.int .i64 a3,.int .i64 a4,.int .i64 a5,.int .i64 a6,.int .i64 a7,.int .i64 a8]] w (Res tA b t w (vanish s ⟨a1,a2,a3,a4,a5,a6,a7,a8⟩)):=by
 obtain⟨W,hW⟩:∃W,W=w.alloc (.cells #[.int .i64 a1,.int .i64 a2,.int .i64 a3,.int .i64 a4,.int .i64 a5,.int .i64 a6,.int .i64 a7,.int .i64 a8] 34):=⟨_,rfl⟩;have Hj:Below w.heap.size w W:=by rw[hW];exact(bzR _ _).alloc (nzR _) _
 have Hd:W.heap[w.heap.size]?=some (.cells #[.int .i64 a1,.int .i64 a2,.int .i64 a3,.int .i64 a4,.int .i64 a5,.int .i64 a6,.int .i64 a7,.int .i64 a8] 34 (0,0)):=by rw[hW];exact jA w _
 have UX:=hidF (zFU ⟨a1,a2,a3,a4,a5,a6,a7,a8⟩ W);rw[show oV ⟨a1,a2,a3,a4,a5,a6,a7,a8⟩=.agg #[.int .i64 a1,.int .i64 a2,.int .i64 a3,.int .i64 a4,.int .i64 a5,.int .i64 a6,.int .i64 a7,.int .i64 a8] from rfl] at UX
 obtain⟨G,hG⟩:∃G,G=w.heap.size:=⟨_,rfl⟩;rw[←hG] at Hd;have Ho:Hid (∀U,Below W.heap.size W U→TM U b t s v∧Tn tA b w U∧U.heap[G]?=some (.cells #[.int .i64 a1,.int .i64 a2,.int .i64 a3,.int .i64 a4,.int .i64 a5,.int .i64 a6,.int .i64 a7,.int .i64 a8] 34 (0,0))):=fun U hU=>by
  have GU:=Hj.trans (hU.mono Hj.size);exact⟨h.below GU,Tn.below GU h.base,zBL Hd hU⟩
 have HW:=hidF hw;have HL:=hidF hl;obtain⟨X,hX⟩:∃X,X=vanish s ⟨a1,a2,a3,a4,a5,a6,a7,a8⟩:=⟨_,rfl⟩;rw[←hX];have HX:=hidF hX;obtain⟨c0,c1,c2,c3,c4,c5,c6,c7,-⟩:=wak.row8 Hd;obtain⟨C,hC⟩:∃C,C=forC ⟨a1,a2,a3,a4,a5,a6,a7,a8⟩:=⟨_,rfl⟩;obtain⟨D,hD⟩:∃D,D=forS ⟨a1,a2,a3,a4,a5,a6,a7,a8⟩:=⟨_,rfl⟩;rw[←hC,←hD] at UX;have HCD:=hidF (And.intro hC hD);clear hC hD;by_cases hE:chk ⟨a1,a2,a3,a4,a5,a6,a7,a8⟩=0
 rotate_left
 ·rw[wAb hE] at UX;have Gl:Hid (X=.error (chk ⟨a1,a2,a3,a4,a5,a6,a7,a8⟩)):=by show _=_;rw[HX.out];unfold vanish;rw[if_neg hE]
  generalize chk ⟨a1,a2,a3,a4,a5,a6,a7,a8⟩=K at *;clear h hw hl Hj Hd hX c1 c2 c3 c4 c5 c6 c7 c0;go_enter func63,ntmps63;go_wp2_with fail;rw[←hW];clear hW hG;refine UX.out.mono ?_;rintro e w1⟨rfl,b1⟩;have He:=hidF (Ho.out w1 b1).2.1;clear b1 UX;go_wp2_with fail;go_ret;exact zAE Gl.out hE He.out
 ·rw[hE,wAa] at UX;have Gl:Hid (X=(zBY s a2 C D).bind fun s1=>.ok (tell s1 3 a1 a6 a5)):=by show _=_;rw[HX.out];unfold vanish;rw[if_pos hE,HCD.out.1,HCD.out.2]
  have uA:Hid (∀U,Below W.heap.size W U→Calls prog 93 #[.pointer (some ⟨v.pp,0,none⟩),.int .i64 a2,.int .i64 C,.int .i64 D] U fun e w'=>∃E,e=.returned E∧Hid ((∃s1,zBY s a2 C D=.ok s1∧E=.nilIface∧Hid (∃v1,TM w' b t s1 v1)∧Hid (Tn tA b w w')∧w'.heap[G]?=some (.cells #[.int .i64 a1,.int .i64 a2,.int .i64 a3,.int .i64 a4,.int .i64 a5,.int .i64 a6,.int .i64 a7,.int .i64 a8] 34 (0,0)))∨∃k,E=.iface 90 (.int .i64 k)∧Hid (Res tA b t w X (.returned (.iface 90 (.int .i64 k))) w'))):=fun U hU=>by
   obtain⟨k1,k2,k3⟩:=Ho.out U hU;refine(pur.wAZ v.pp s.ps a2 C D U k1.purs HW.out.ok).mono ?_;rintro e w'⟨rfl,k4,k5⟩;have hR:=zEv k1 k2 k4 k5;have h6:w'.heap[G]?=some (.cells #[.int .i64 a1,.int .i64 a2,.int .i64 a3,.int .i64 a4,.int .i64 a5,.int .i64 a6,.int .i64 a7,.int .i64 a8] 34 (0,0)):=((Kp.grown (S:=tA) k5 k1.purs.2 (by decide)).typ _ _ _ k3 (by decide))
   refine⟨_,rfl,?_⟩;rcases hR.two with ⟨s1,v1,gM,he,hM⟩|⟨k,gM,hk,he⟩
   ·exact .inl ⟨s1,gM,by injection he,⟨v1,hM⟩,hR.1,h6⟩
   ·refine .inr ⟨k,by injection he,?_⟩
    show Res _ _ _ _ _ _ _
    exact zAE (by rw[Gl.out,gM];rfl) hk hR.1
  obtain⟨q1,n1,c1',q2,n2,c2',sp,vw,pp,qe,ne,ce,qk,nk,ck⟩:=v;clear h hw hl Hj Hd hX hE;go_enter func63,ntmps63;go_wp2_with fail;rw[←hW];simp only[←hG];clear hW hG;refine UX.out.mono ?_;rintro e w1⟨rfl,b1⟩;have He:=hidF b1;obtain⟨k1,-,k3⟩:=Ho.out w1 b1;obtain⟨-,-,-,-,x4,-⟩:=k1.cells;clear c0 c1 c2 c3 c4 c5 c6 c7;obtain⟨-,c1,-⟩:=wak.row8 k3;simp only[] at x4;clear b1 k1 k3 UX;go_upto_region 4 with fail
  go_region_with (go_at_call 93;with_reducible refine(uA.out _ ?_).mono ?_;(with_reducible repeat' (first|exact He.out|assumption|refine Below.drew ?_));rintro x w2 ⟨E,rfl,uP⟩)
  all_goals
   rcases uP.out with ⟨s1,gM,rfl,HM,HT,h6⟩|⟨k,rfl,HR⟩
   rotate_left
   ·clear uP;go_wp2_with fail;go_ret;exact HR.out
   ·(clear uP
     have Hl:=(wBa HW.out gM).2;have U9:s1.evs.length≤1000000:=(by rw[Hl];exact HL.out);obtain⟨v1,hM⟩:=HM.out;have G0:=hidF (zDh (w0:=w) (x:=X) (S:=tA) 3 a1 a6 a5 hM HT.out (fun _ h=>h) U9 (by rw[Gl.out,gM];rfl))
     clear c1 x4 gM Hl U9 hM;obtain⟨c0,c1,c2,c3,c4,c5,c6,c7,-⟩:=wak.row8 h6;clear h6;go_wp2_with fail;refine G0.out.mono ?_;rintro x w3⟨rfl,HR⟩;clear c0 c1 c2 c3 c4 c5 c6 c7;go_wp2_with fail;go_ret;exact HR.out)
end flr
end Go.Proofs.YtnfilcpnneckkaaGreat
