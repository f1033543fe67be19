import Derived.Test.YtifjhlgjgnnnpaaGreatFlrWf
import Derived.Test.YtifjhlgjgnnnpaaGreatPurHold
namespace Go.Proofs.YtifjhlgjgnnnpaaGreat
namespace flr
open Go.RowKit que sid mee
open ord (O oV chk prB mB)
open bok (zAd zAh)
open kin (setB setS setG setE zCc zCy mayK)
open slf (V Fine sE lfV gnV repB repS)
open mrg (resv forC forS zBi zBF zBG zBh zBW zBX putC putS)
open pur (Pz Ok ix on on_at zAW adC adH adS adT)
def sumI{α:Type}(f:α→Int):List α→Int
 | []=>0
 | x::t=>f x+sumI f t
theorem zAn{α:Type}(f:α→Int)(a b:List α):sumI f (a++b)=sumI f a+sumI f b:=by
 induction a with
 | nil=>simp[sumI]
 | cons x t ih=>simp only[List.cons_append,sumI,ih];omega
theorem zFD{α β:Type}(f:β→Int)(g:α→β)(l:List α):sumI f (l.map g)=sumI (fun x=>f (g x)) l:=by
 induction l with
 | nil=>rfl
 | cons x t ih=>simp only[jK,sumI,ih]
theorem zLI{α:Type}(f:α→Int){a b:List α}(h:a.Perm b):sumI f a=sumI f b:=by
 induction h with
 | nil=>rfl
 | cons x _ ih=>simp only[sumI,ih]
 | swap x y l=>simp only[sumI];omega
 | trans _ _ ih1 ih2=>exact ih1.trans ih2
theorem zCd{α:Type}{f g:α→Int}{l:List α}(h:∀x∈l,f x=g x):sumI f l=sumI g l:=by
 induction l with
 | nil=>rfl
 | cons x t ih=>simp only[sumI];rw[h x (by simp),ih (fun y hy=>h y (by simp[hy]))]
theorem zBw{α:Type}{f:α→Int}{l:List α}(h:∀x∈l,0≤f x):0≤sumI f l:=by
 induction l with
 | nil=>exact jY _
 | cons x t ih=>simp only[sumI];have:=h x (by simp);have:=ih (fun y hy=>h y (by simp[hy]));omega
def prs(ls:List L):List (Int × R):=ls.flatMap fun l=>l.rests.map fun r=>(l.price,r)
theorem zAK(l:L)(t:List L):prs (l::t)=l.rests.map (fun r=>(l.price,r))++prs t:=by simp[prs]
theorem zBm(a b:List L):prs (a++b)=prs a++prs b:=by simp[prs]
theorem zHu(ls:List L):(prs ls).map (·.2)=allR ls:=by
 induction ls with
 | nil=>rfl
 | cons l t ih=>rw[zAK,zAp,jF,ih,List.map_map];congr 1;induction l.rests with
  | nil=>rfl
  | cons r u ih=>simp[ih]
theorem zDl(p:Int)(z:List R)(t:List L):prs (zAC p z t)=z.map (fun r=>(p,r))++prs t:=by
 unfold mee.zAC
 split
 ·rename_i h;rw[h];rfl
 ·rw[zAK]
def tq(r:R):Int:=r.qty+r.hid
def rC(j:Int)(x:Int × R):Int:=if x.2.who=j then x.1*tq x.2 else 0
def rS(j:Int)(x:Int × R):Int:=if x.2.who=j then tq x.2 else 0
def oC(j:Int)(o:O):Int:=if o.who=j∧o.side=1 then resv o*o.qty else 0
def oS(j:Int)(o:O):Int:=if o.who=j∧¬o.side=1 then o.qty else 0
def xC(j:Int)(x:T):Int:=if x.into=j then x.price*x.qty else 0
def xS(j:Int)(x:T):Int:=if x.frm=j then x.qty else 0
theorem zLJ(f:Int × R→Int)(hf:∀ (p:Int) (r r' : R),r.who=r'.who→tq r=tq r'→f (p,r)=f (p,r'))(p q:Int)(r:R)(rs:List R)(t:List L)(g:Int)(hg:f (p,r)=f (p,{ r with qty:=r.qty - q })+g)(hq:q≤r.qty)(h0:q=r.qty→r.hid=0→f (p,{ r with qty:=r.qty - q })=0):sumI f (prs (⟨p,r::rs⟩::t))=sumI f (prs (zAC p (tk1 q r rs) t))+g:=by
 rw[zDl,zAK,jK,zAn,zAn]
 simp only[sumI]
 unfold que.tk1
 by_cases h1:q<r.qty
 ·rw[if_pos h1,jK];simp only[sumI];omega
 ·rw[if_neg h1]
  have e:q=r.qty:=by omega
  by_cases h2:r.hid=0
  ·rw[if_pos h2]
   have:=h0 e h2
   omega
  ·rw[if_neg h2,jF,zAn]
   simp only[jK,List.map_nil,sumI]
   have:=hf p { r with qty:=r.qty - q } { r with qty:=min r.shw r.hid,hid:=r.hid - min r.shw r.hid } rfl (by simp only[tq];omega)
   omega
theorem zQB(j:Int):∀p r r',r.who=r'.who→tq r=tq r'→rC j (p,r)=rC j (p,r'):=fun p r r' h1 h2=>by simp only[rC,h1,h2]
theorem zQC(j:Int):∀p r r',r.who=r'.who→tq r=tq r'→rS j (p,r)=rS j (p,r'):=fun p r r' h1 h2=>by simp only[rS,h1,h2]
theorem zOA{m:Int}{o:O}{ls:List L}{k:Int}{v:V}(h:Fil m o ls k v) :
  (∀l∈ls,lchk l=0)→0≤k→(m=0→v.ids=[])→∃rem:List (Int × R),rem.map (·.2.id)=v.ids∧(∀x∈rem,x.2.who=o.who∧x∈prs ls)∧∀ (f:Int × R→Int) (g:T→Int),(∀ (p:Int) (r r' : R),r.who=r'.who→tq r=tq r'→f (p,r)=f (p,r'))→(∀ (p:Int) (r:R) (q:Int),0<q→q≤r.qty→f (p,r)=f (p,{ r with qty:=r.qty - q })+g (trd o p ⟨r.id,r.who,q⟩))→(∀ (p:Int) (r:R) (q:Int),q=r.qty→r.hid=0→f (p,{ r with qty:=r.qty - q })=0)→sumI f (prs ls)=sumI f (prs v.ls)+sumI g v.ts+sumI f rem:=by
 induction h with
 | done=>exact fun _ _ _=>⟨[],rfl,(fun _ h=>by cases h),fun _ _ _ _ _=>by simp[sumI]⟩
 | stop=>exact fun _ _ _=>⟨[],rfl,(fun _ h=>by cases h),fun _ _ _ _ _=>by simp[sumI]⟩
 | taker=>exact fun _ _ _=>⟨[],rfl,(fun _ h=>by cases h),fun _ _ _ _ _=>by simp[sumI]⟩
 | @maker p r rs t k v _ _ hw _ ih=>
  intro hl h0 hm
  have hm0:¬m=0:=fun e=>by have:=hm e;cases this
  obtain⟨rem,a,b,c⟩:=ih (slf.zBy hl) h0 (fun e=>absurd e hm0)
  refine⟨(p,r)::rem,by simp[a],fun x hx=>?_,?_⟩
  ·rcases List.mem_cons.1 hx with rfl|hx
   ·exact⟨hw,by rw[zAK];simp⟩
   ·refine⟨(b x hx).1,?_⟩
    have:=(b x hx).2
    rw[zDl] at this
    rw[zAK,jK]
    simp only[List.mem_append,List.cons_append,List.mem_cons] at this ⊢
    exact .inr this
  ·intro f g hf hg hz
   have c:=c f g hf hg hz
   rw[zDl] at c
   rw[zAK,jK]
   simp only[List.cons_append,sumI] at c ⊢
   omega
 | @both p r rs t k _ _ hw=>
  intro hl h0 hm
  refine⟨[(p,r)],rfl,fun x hx=>?_,?_⟩
  ·rcases List.mem_cons.1 hx with rfl|hx
   ·exact⟨hw,by rw[zAK];simp⟩
   ·cases hx
  ·intro f g hf hg hz
   rw[zDl,zAK,jK]
   simp only[List.cons_append,sumI]
   omega
 | @fill p r rs t k v h0 hb hne _ ih=>
  intro hl _ hm
  obtain⟨-,-,hq⟩:=zAg (hl _ (List.mem_cons_self ..))
  have hr:=zBg hq
  obtain⟨rem,a,b,c⟩:=ih (zBs h0 hl) (by omega) hm
  refine⟨rem,a,fun x hx=>⟨(b x hx).1,?_⟩,?_⟩
  ·by_cases e:m=0
   ·rw[hm e] at a
    have:rem=[]:=List.map_eq_nil_iff.1 a
    rw[this] at hx;cases hx
   ·have h1:=(b x hx).2
    have h2:=(b x hx).1
    have h3:=hne e
    rw[zDl] at h1
    rw[zAK,jK]
    simp only[List.cons_append,List.mem_append,List.mem_cons] at h1 ⊢
    rcases h1 with h1|h1
    ·obtain⟨r',hr',rfl⟩:=List.mem_map.1 h1
     right;left
     refine List.mem_map.2 ⟨r',?_,rfl⟩
     unfold que.tk1 at hr'
     split at hr'
     ·rcases List.mem_cons.1 hr' with rfl|h
      ·exact absurd h2 h3
      ·exact h
     ·split at hr'
      ·exact hr'
      ·rcases List.mem_append.1 hr' with h|h
       ·exact h
       ·rcases List.mem_cons.1 h with rfl|h
        ·exact absurd h2 h3
        ·cases h
    ·exact .inr (.inr h1)
  ·intro f g hf hg hz
   have hF:=zLJ f hf p (min k r.qty) r rs t (g (trd o p ⟨r.id,r.who,min k r.qty⟩)) (hg p r _ (by omega) (by omega)) (by omega) (hz p r _)
   have c:=c f g hf hg hz
   simp only[sumI] at c ⊢
   omega
end flr
namespace sms
open Go.RowKit spn pur
def sumC(ps:List Pz):Int:=(ps.map (·.cash)).sum
def sumS(ps:List Pz):Int:=(ps.map (·.stock)).sum
theorem zCo(g:Pz→Int):∀ (ps:List Pz) (k:Nat) (z:Pz),k<ps.length→((ps.set k z).map g).sum=(ps.map g).sum+(g z - g ps[k]!)
 | [],k,z,h=>by simp at h
 | o::t,0,z,_=>by
  have e:(o::t)[0]! = o:=rfl
  rw[e,List.set_cons_zero,jK,jK,List.sum_cons,List.sum_cons]
  omega
 | o::t,k+1,z,h=>by
  have hi:k<t.length:=by simpa using h
  have e:(o::t)[k+1]! = t[k]!:=rfl
  rw[e,List.set_cons_succ,jK,jK,List.sum_cons,List.sum_cons,zCo g t k z hi]
  omega
section
variable {ps:List Pz}{k:Nat}
theorem zLK(d:Int)(h:k<ps.length):sumC (on (adC d) k ps)=sumC ps+d:=by
 unfold sumC on;rw[zCo _ ps k _ h];simp only[adC];omega
theorem zLL(d:Int)(h:k<ps.length):sumC (on (adH d) k ps)=sumC ps:=by
 unfold sumC on;rw[zCo _ ps k _ h];simp only[adH];omega
theorem zLM(d:Int)(h:k<ps.length):sumC (on (adS d) k ps)=sumC ps:=by
 unfold sumC on;rw[zCo _ ps k _ h];simp only[adS];omega
theorem zLN(d:Int)(h:k<ps.length):sumC (on (adT d) k ps)=sumC ps:=by
 unfold sumC on;rw[zCo _ ps k _ h];simp only[adT];omega
theorem zLO(d:Int)(h:k<ps.length):sumS (on (adC d) k ps)=sumS ps:=by
 unfold sumS on;rw[zCo _ ps k _ h];simp only[adC];omega
theorem zLP(d:Int)(h:k<ps.length):sumS (on (adH d) k ps)=sumS ps:=by
 unfold sumS on;rw[zCo _ ps k _ h];simp only[adH];omega
theorem zLQ(d:Int)(h:k<ps.length):sumS (on (adS d) k ps)=sumS ps+d:=by
 unfold sumS on;rw[zCo _ ps k _ h];simp only[adS];omega
theorem zLR(d:Int)(h:k<ps.length):sumS (on (adT d) k ps)=sumS ps:=by
 unfold sumS on;rw[zCo _ ps k _ h];simp only[adT];omega
end
theorem ixlt{ps:List Pz}(h:Ok ps){who:Int}(h1:1≤who)(h2:who≤9):ix who<ps.length:=by rw[h.len];unfold ix;omega
theorem zQD{ps:List Pz}(h:Ok ps)(who n:Int):sumC (payP ps who n)=sumC ps+(if payE ps who n=0 then n else 0)∧sumS (payP ps who n)=sumS ps:=by
 unfold payP
 by_cases e:payE ps who n=0
 ·rw[if_pos e,if_pos e]
  have hb:badG who n=false:=by
   unfold payE at e
   by_cases hb:badG who n=true
   ·rw[if_pos hb] at e;omega
   ·simpa using hb
  have hk:=ixlt h (zCB hb).1 (zCB hb).2.1
  exact⟨zLK n hk,zLO n hk⟩
 ·rw[if_neg e,if_neg e];exact⟨(Int.add_zero _).symm,rfl⟩
theorem zOB{ps:List Pz}(h:Ok ps)(who n:Int):sumC (zCk ps who n)=sumC ps∧sumS (zCk ps who n)=sumS ps+(if zCC ps who n=0 then n else 0):=by
 unfold zCk
 by_cases e:zCC ps who n=0
 ·rw[if_pos e,if_pos e]
  have hb:badG who n=false:=by
   unfold zCC at e
   by_cases hb:badG who n=true
   ·rw[if_pos hb] at e;omega
   ·simpa using hb
  have hk:=ixlt h (zCB hb).1 (zCB hb).2.1
  exact⟨zLM n hk,zLQ n hk⟩
 ·rw[if_neg e,if_neg e];exact⟨rfl,(Int.add_zero _).symm⟩
theorem zOC{ps:List Pz}(h:Ok ps)(who c s:Int):sumC (zBu ps who c s)=sumC ps∧sumS (zBu ps who c s)=sumS ps:=by
 unfold zBu
 by_cases e:zBD ps who c s=0
 ·rw[if_pos e]
  have hb:badH who c s=false:=by
   unfold zBD at e
   by_cases hb:badH who c s=true
   ·rw[if_pos hb] at e;omega
   ·simpa using hb
  have hk:=ixlt h (zBV hb).1 (zBV hb).2.1
  have hk2:ix who<(on (adH c) (ix who) ps).length:=by rw[zAW];exact hk
  rw[zLN _ hk2,zLL _ hk,zLR _ hk2,zLP _ hk]
  exact⟨rfl,rfl⟩
 ·rw[if_neg e];exact⟨rfl,rfl⟩
theorem zOD{ps:List Pz}(h:Ok ps)(who c s:Int):sumC (zBv ps who c s)=sumC ps∧sumS (zBv ps who c s)=sumS ps:=by
 unfold zBv
 by_cases e:zBE ps who c s=0
 ·rw[if_pos e]
  have hb:badH who c s=false:=by
   unfold zBE at e
   by_cases hb:badH who c s=true
   ·rw[if_pos hb] at e;omega
   ·simpa using hb
  have hk:=ixlt h (zBV hb).1 (zBV hb).2.1
  have hk2:ix who<(on (adH (-c)) (ix who) ps).length:=by rw[zAW];exact hk
  rw[zLN _ hk2,zLL _ hk,zLR _ hk2,zLP _ hk]
  exact⟨rfl,rfl⟩
 ·rw[if_neg e];exact⟨rfl,rfl⟩
theorem zLS{ps:List Pz}(h:Ok ps)(f t p q:Int):sumC (zAH ps f t p q)=sumC ps∧sumS (zAH ps f t p q)=sumS ps:=by
 unfold zAH
 by_cases e:zAI ps f t p q=0
 ·rw[if_pos e]
  have hb:=zFt (zCT e).1
  have ha:=ixlt h hb.1 hb.2.1
  have hb':=ixlt h hb.2.2.1 hb.2.2.2.1
  unfold zEM
  rw[zLK _ (by simp only[zAW];exact ha),zLK _ (by simp only[zAW];exact hb'),zLL _ (by simp only[zAW];exact hb'),zLM _ (by simp only[zAW];exact hb'),zLM _ (by simp only[zAW];exact ha),zLN _ ha]
  rw[zLO _ (by simp only[zAW];exact ha),zLO _ (by simp only[zAW];exact hb'),zLP _ (by simp only[zAW];exact hb'),zLQ _ (by simp only[zAW];exact hb'),zLQ _ (by simp only[zAW];exact ha),zLR _ ha]
  constructor <;>omega
 ·rw[if_neg e];exact⟨rfl,rfl⟩
end sms
namespace flr
open Go.RowKit que sid mee
open ord (O oV chk prB mB)
open bok (zAd zAh)
open kin (setB setS setG setE zCc zCy mayK)
open slf (V Fine sE lfV gnV repB repS)
open mrg (resv forC forS zBi zBF zBG zBh zBW zBX putC putS)
open pur (Pz Ok ix on on_at zAW adC adH adS adT)
open sms (sumC sumS)
def at1(who j c:Int):Int:=if who=j then c else 0
theorem ix_eq{a b:Int}(ha:1≤a)(hb:1≤b):ix a=ix b↔a=b:=by unfold pur.ix;omega
theorem ix_lt{a:Int}(h1:1≤a)(h2:a≤9):ix a<9:=by unfold pur.ix;omega
theorem zLT{ps:List Pz}{who c d:Int}(ho:Ok ps)(e:pur.zBE ps who c d=0){j:Int}(h1:1≤j)(h2:j≤9) :
  ((pur.zBv ps who c d)[ix j]!).held=(ps[ix j]!).held - at1 who j c∧((pur.zBv ps who c d)[ix j]!).hs=(ps[ix j]!).hs - at1 who j d:=by
 have hb:pur.badH who c d=false:=by
  unfold pur.zBE at e
  cases h:pur.badH who c d with
  | false=>rfl
  | true=>rw[h,if_pos rfl] at e;cases e
 have hb':=pur.zBV hb
 have hl:=ix_lt h1 h2
 unfold pur.zBv
 rw[if_pos e,on_at _ _ _ _ (by rw[zAW,ho.len];exact hl),on_at _ _ _ _ (by rw[ho.len];exact hl)]
 have hx:=ix_eq h1 hb'.1
 unfold at1
 by_cases hj:who=j
 ·subst hj;simp only[if_true,adT,adH];omega
 ·have:¬ix j=ix who:=fun h=>hj (hx.1 h).symm
  simp only[if_neg this,if_neg hj];omega
theorem zLU{ps:List Pz}{who c d:Int}(ho:Ok ps)(e:pur.zBD ps who c d=0){j:Int}(h1:1≤j)(h2:j≤9) :
  ((pur.zBu ps who c d)[ix j]!).held=(ps[ix j]!).held+at1 who j c∧((pur.zBu ps who c d)[ix j]!).hs=(ps[ix j]!).hs+at1 who j d:=by
 have hb:pur.badH who c d=false:=by
  unfold pur.zBD at e
  cases h:pur.badH who c d with
  | false=>rfl
  | true=>rw[h,if_pos rfl] at e;cases e
 have hb':=pur.zBV hb
 have hl:=ix_lt h1 h2
 unfold pur.zBu
 rw[if_pos e,on_at _ _ _ _ (by rw[zAW,ho.len];exact hl),on_at _ _ _ _ (by rw[ho.len];exact hl)]
 have hx:=ix_eq h1 hb'.1
 unfold at1
 by_cases hj:who=j
 ·subst hj;simp only[if_true];exact⟨rfl,rfl⟩
 ·have:¬ix j=ix who:=fun h=>hj (hx.1 h).symm
  simp only[if_neg this,if_neg hj];omega
theorem zIl{ps:List Pz}{f t p q:Int}(ho:Ok ps)(e:pur.zAI ps f t p q=0){j:Int}(h1:1≤j)(h2:j≤9) :
  ((pur.zAH ps f t p q)[ix j]!).held=(ps[ix j]!).held - at1 t j (p*q)∧((pur.zAH ps f t p q)[ix j]!).hs=(ps[ix j]!).hs - at1 f j q:=by
 obtain⟨hb,-⟩:=pur.zCT e
 obtain⟨b1,b2,b3,b4,-⟩:=pur.zFt hb
 have hl:=ix_lt h1 h2
 unfold pur.zAH
 rw[if_pos e,pur.zGr ho.len _ hl]
 have e1:=ix_eq h1 b1
 have e2:=ix_eq h1 b3
 unfold at1
 generalize p*q=c
 constructor
 ·by_cases hj:t=j
  ·subst hj;simp only[if_true];omega
  ·have:¬ix j=ix t:=fun h=>hj (e2.1 h).symm
   simp only[if_neg this,if_neg hj];omega
 ·by_cases hj:f=j
  ·subst hj;simp only[if_true];omega
  ·have:¬ix j=ix f:=fun h=>hj (e1.1 h).symm
   simp only[if_neg this,if_neg hj];omega
theorem zPh{ps:List Pz}{who n:Int}(ho:Ok ps){j:Int}(h1:1≤j)(h2:j≤9) :
  ((pur.payP ps who n)[ix j]!).held=(ps[ix j]!).held∧((pur.payP ps who n)[ix j]!).hs=(ps[ix j]!).hs:=by
 have hl:=ix_lt h1 h2
 unfold pur.payP
 split
 ·rw[on_at _ _ _ _ (by rw[ho.len];exact hl)];split <;>exact⟨rfl,rfl⟩
 ·exact⟨rfl,rfl⟩
theorem zLV{ps:List Pz}{who n:Int}(ho:Ok ps){j:Int}(h1:1≤j)(h2:j≤9) :
  ((pur.zCk ps who n)[ix j]!).held=(ps[ix j]!).held∧((pur.zCk ps who n)[ix j]!).hs=(ps[ix j]!).hs:=by
 have hl:=ix_lt h1 h2
 unfold pur.zCk
 split
 ·rw[on_at _ _ _ _ (by rw[ho.len];exact hl)];split <;>exact⟨rfl,rfl⟩
 ·exact⟨rfl,rfl⟩
structure IV (s:TS) (c d:Int→Int):Prop where
 wf:Wf s
 held:∀j,1≤j→j≤9→(s.ps[ix j]!).held=sumI (rC j) (prs s.bs)+sumI (oC j) s.ws+sumI (fun x:Sl=>oC j x.o) s.row+c j
 hs:∀j,1≤j→j≤9→(s.ps[ix j]!).hs=sumI (rS j) (prs s.ss)+sumI (oS j) s.ws+sumI (fun x:Sl=>oS j x.o) s.row+d j
 wck:∀o∈s.ws,chk o=0
 rck:∀x∈s.row,chk x.o=0
 last:s.last=0∨prB s.last=true
 evs:¬s.mode=0→∀e∈s.evs,e.what=2→¬e.tr.frm=e.tr.into
theorem IV.ext{s:TS}{c d c' d' : Int→Int}(h:IV s c d)(hc:∀j,1≤j→j≤9→c j=c' j)(hd:∀j,1≤j→j≤9→d j=d' j):IV s c' d':=
 ⟨h.wf,fun j h1 h2=>by rw[h.held j h1 h2,hc j h1 h2],fun j h1 h2=>by rw[h.hs j h1 h2,hd j h1 h2],h.wck,h.rck,h.last,h.evs⟩
theorem IV.tell{s:TS}{c d:Int→Int}(h:IV s c d){what:Int}(hw:¬what=2)(id qty price:Int):IV (tell s what id qty price) c d:=
 ⟨zDy h.wf _ _ _ _,h.held,h.hs,h.wck,h.rck,h.last,fun hm e he h2=>by
  rcases List.mem_append.1 he with he|he
  ·exact h.evs hm e he h2
  ·rcases List.mem_cons.1 he with rfl|he
   ·exact absurd h2 hw
   ·cases he⟩
theorem IV.free{s s1:TS}{c d:Int→Int}{who x y:Int}(h:IV s c d)(e:zCq s who x y=.ok s1):IV s1 (fun j=>c j - at1 who j x) (fun j=>d j - at1 who j y)∧sumC s1.ps=sumC s.ps∧sumS s1.ps=sumS s.ps:=by
 obtain⟨hw,rfl⟩:=free_ok h.wf e
 have e0:pur.zBE s.ps who x y=0:=by unfold zCq at e;split at e;assumption;cases e
 refine⟨⟨hw,fun j h1 h2=>?_,fun j h1 h2=>?_,h.wck,h.rck,h.last,h.evs⟩,sms.zOD h.wf.ok _ _ _⟩
 ·show ((pur.zBv s.ps who x y)[ix j]!).held=_
  rw[(zLT h.wf.ok e0 h1 h2).1,h.held j h1 h2];simp only[];omega
 ·show ((pur.zBv s.ps who x y)[ix j]!).hs=_
  rw[(zLT h.wf.ok e0 h1 h2).2,h.hs j h1 h2];simp only[];omega
theorem IV.hold{s s1:TS}{c d:Int→Int}{who x y:Int}(h:IV s c d)(e:zDw s who x y=.ok s1):IV s1 (fun j=>c j+at1 who j x) (fun j=>d j+at1 who j y)∧sumC s1.ps=sumC s.ps∧sumS s1.ps=sumS s.ps:=by
 obtain⟨hw,rfl⟩:=hold_ok h.wf e
 have e0:pur.zBD s.ps who x y=0:=by unfold zDw at e;split at e;assumption;cases e
 refine⟨⟨hw,fun j h1 h2=>?_,fun j h1 h2=>?_,h.wck,h.rck,h.last,h.evs⟩,sms.zOC h.wf.ok _ _ _⟩
 ·show ((pur.zBu s.ps who x y)[ix j]!).held=_
  rw[(zLU h.wf.ok e0 h1 h2).1,h.held j h1 h2];simp only[];omega
 ·show ((pur.zBu s.ps who x y)[ix j]!).hs=_
  rw[(zLU h.wf.ok e0 h1 h2).2,h.hs j h1 h2];simp only[];omega
theorem IV.trades:∀ (ts:List T) {s s1:TS}{c d:Int→Int},IV s c d→trades s ts=.ok s1→(¬s.mode=0→∀x∈ts,¬x.frm=x.into)→IV s1 (fun j=>c j - sumI (xC j) ts) (fun j=>d j - sumI (xS j) ts)∧sumC s1.ps=sumC s.ps∧sumS s1.ps=sumS s.ps
 | [],s,s1,c,d,h,e,_=>by cases e;exact⟨h.ext (fun j _ _=>by simp[sumI]) (fun j _ _=>by simp[sumI]),rfl,rfl⟩
 | x::t,s,s1,c,d,h,e,hn=>by
  obtain⟨s2,e1,e2⟩:=zAy e
  obtain⟨w2,sm⟩:=zGB h.wf e1
  unfold trade1 at e1
  split at e1
  ·rename_i e0
   cases e1
   have h2:IV { s with ps:=pur.zAH s.ps x.frm x.into x.price x.qty,evs:=s.evs++[⟨2,0,0,0,x⟩] } (fun j=>c j - xC j x) (fun j=>d j - xS j x):=by
    refine⟨w2,fun j h1 h2=>?_,fun j h1 h2=>?_,h.wck,h.rck,h.last,fun hm e he _=>?_⟩
    ·show ((pur.zAH s.ps x.frm x.into x.price x.qty)[ix j]!).held=_
     rw[(zIl h.wf.ok e0 h1 h2).1,h.held j h1 h2];simp only[at1,xC];omega
    ·show ((pur.zAH s.ps x.frm x.into x.price x.qty)[ix j]!).hs=_
     rw[(zIl h.wf.ok e0 h1 h2).2,h.hs j h1 h2];simp only[at1,xS];omega
    ·rcases List.mem_append.1 he with he|he
     ·rename_i hw;exact h.evs hm e he hw
     ·rcases List.mem_cons.1 he with rfl|he
      ·exact hn hm x (by simp)
      ·cases he
   obtain⟨h3,k1,k2⟩:=IV.trades t h2 e2 (fun hm y hy=>hn hm y (by simp[hy]))
   have hs:=sms.zLS h.wf.ok x.frm x.into x.price x.qty
   refine⟨h3.ext (fun j _ _=>by simp only[sumI];omega) (fun j _ _=>by simp only[sumI];omega),k1.trans hs.1,k2.trans hs.2⟩
  ·cases e1
theorem zDz{r:R}{a p:Int}(h:zBi r a p=0):(a=1∨a=2)∧zBF r a p=(if a=1 then p*tq r else 0)∧zBG r a p=(if a=1 then 0 else tq r):=by
 have h0:=h
 unfold mrg.zBi at h0
 split at h0
 ·rename_i hr
  split at h0
  ·rename_i hb
   have hs:=mrg.zDv hr
   simp only[Bool.and_eq_true] at hb
   obtain⟨hb1,hb2⟩:=hb
   unfold mrg.sidB at hb1
   unfold ord.prB at hb2
   simp only[Bool.and_eq_true,decide_eq_true_eq] at hb1 hb2
   refine⟨by omega,?_,?_⟩
   ·unfold mrg.zBF mrg.putC
    rw[if_pos h]
    split
    ·have:p*(r.qty+r.hid)≤10000*20000:=Int.mul_le_mul hb2.2 (by omega) (by omega) (by omega)
     have h3:0≤p*(r.qty+r.hid):=Int.mul_nonneg (by omega) (by omega)
     unfold tq wrap64;omega
    ·rfl
   ·unfold mrg.zBG mrg.putS;rw[if_pos h];rfl
  ·cases h0
 ·rename_i hr;exact absurd h0 hr
theorem IV.part{s s1:TS}{c d:Int→Int}{r:R}{a p:Int}(h:IV s c d)(e:part s r a p=.ok s1):IV s1 (fun j=>c j - (if a=1 then rC j (p,r) else 0)) (fun j=>d j - (if a=1 then 0 else rS j (p,r)))∧sumC s1.ps=sumC s.ps∧sumS s1.ps=sumS s.ps:=by
 obtain⟨s2,e1,e2⟩:=zAy e
 unfold zCU at e1
 split at e1
 ·rename_i h0
  obtain⟨-,hc,hd⟩:=zDz h0
  obtain⟨h2,k⟩:=h.free e1
  cases e2
  refine⟨(h2.tell (by decide) _ _ _).ext (fun j _ _=>?_) (fun j _ _=>?_),k⟩
  ·rw[hc];simp only[at1,rC];split <;>split <;>rfl
  ·rw[hd];simp only[at1,rS];split <;>split <;>rfl
 ·cases e1
theorem zPi{ls:List L}(hn:(ids ls).Nodup){x y:Int × R}(hx:x∈prs ls)(hy:y∈prs ls)(h:x.2.id=y.2.id):x=y:=by
 have e:ids ls=(prs ls).map (fun x=>x.2.id):=by rw[zCh,←zHu,List.map_map];rfl
 rw[e] at hn
 clear e
 generalize prs ls=l at *
 induction l with
 | nil=>cases hx
 | cons z t ih=>
  rw[jK,List.nodup_cons] at hn
  rcases List.mem_cons.1 hx with hx1|hx2
  ·rcases List.mem_cons.1 hy with hy1|hy2
   ·exact hx1.trans hy1.symm
   ·exact absurd (List.mem_map.2 ⟨y,hy2,by rw[←hx1];exact h.symm⟩) hn.1
  ·rcases List.mem_cons.1 hy with hy1|hy2
   ·exact absurd (List.mem_map.2 ⟨x,hx2,by rw[←hy1];exact h⟩) hn.1
   ·exact ih hn.2 hx2 hy2
theorem zOE{bs ss:List L}{id s p:Int}{r:R}{i k:Nat}(h:swp.At bs ss id s p r i k):(p,r)∈prs (if s=1 then bs else ss)∧(s=1∨s=2):=by
 refine⟨?_,h.side⟩
 obtain⟨ls,hS,hp,hr⟩:=h
 have hi:=hS.hi
 have hk:=hS.hk
 have hx:(p,r)∈prs ls:=by
  unfold prs
  exact List.mem_flatMap.2 ⟨ls[i],jT hi,List.mem_map.2 ⟨_,jT hk,by rw[hp,hr]⟩⟩
 clear hp hr
 rcases hS.side with ⟨rfl,rfl,-⟩|⟨rfl,rfl,-⟩
 ·rw[if_pos rfl];exact hx
 ·rw[if_neg (by decide)];exact hx
end flr
namespace flr
open Go.RowKit que sid mee
open ord (O oV chk prB mB)
open bok (zAd zAh)
open kin (setB setS setG setE zCc zCy mayK)
open slf (V Fine sE lfV gnV repB repS)
open mrg (resv forC forS zBi zBF zBG zBh zBW zBX putC putS zCE bkC)
open pur (Pz Ok ix on on_at zAW adC adH adS adT)
open sms (sumC sumS)
theorem zLW(f:Int × R→Int)(s p:Int)(r:R)(ls:List L):sumI f (prs (putL s p r ls))=sumI f (prs ls)+f (p,r):=by
 obtain⟨a,b,-,⟨zs,h1,h2⟩|⟨h1,h2,-⟩⟩:=zKf s p r ls
 ·rw[h1] at h2 ⊢
  rw[h2]
  simp only[zBm,zAK,jF,zAn,jK,List.map_nil,sumI]
  omega
 ·rw[h2,h1]
  simp only[zBm,zAK,zAn,jK,List.map_nil,sumI]
  omega
theorem zLX{α:Type}(f:α→Int)(q:α→Bool)(l:List α):sumI f l=sumI f (l.filter q)+sumI f (l.filter fun x=>!q x):=by
 induction l with
 | nil=>rfl
 | cons x t ih=>
  cases h:q x with
  | true=>rw[List.filter_cons_of_pos h,List.filter_cons_of_neg (by simp[h])];simp only[sumI];omega
  | false=>rw[List.filter_cons_of_neg (by simp[h]),List.filter_cons_of_pos (by simp[h])];simp only[sumI];omega
theorem zIm(f:O→Int)(hf:∀o,f (wak.zst o)=f o)(p:Int)(ws:List O):sumI f ws=sumI f (wak.left p ws)+sumI f (wak.woke p ws):=by
 rw[zLX f (wak.wkB p) ws]
 unfold wak.left wak.woke wak.srt
 rw[zFD,zLI _ (wak.zDs _ _),zCd (f:=fun x=>f (wak.zst x)) (g:=f) (fun x _=>hf x)]
 omega
theorem oC_zst(j:Int)(o:O):oC j (wak.zst o)=oC j o:=rfl
theorem oS_zst(j:Int)(o:O):oS j (wak.zst o)=oS j o:=rfl
theorem zQE{o:O}(h:chk o=0):chk (wak.zst o)=0:=by
 obtain⟨h1,h2,h3,h4,-⟩:=ord.zBx h
 unfold ord.chk
 have e1:ord.zCM (wak.zst o)=ord.zCM o:=rfl
 have e2:ord.zAP (wak.zst o)=ord.zAP o:=rfl
 have e3:ord.qtyB (wak.zst o)=ord.qtyB o:=rfl
 have e4:ord.shapeB (wak.zst o)=ord.shapeB o:=rfl
 have e5:ord.zFI (wak.zst o)=true:=rfl
 rw[e1,e2,e3,e4,e5,h1,h2,h3,h4];rfl
theorem IV.wake{s s1:TS}{c d:Int→Int}{ts:List T}(h:IV s c d)(e:zGx s ts=.ok s1):IV s1 c d∧s1.ps=s.ps:=by
 have hg:=zIi h.wf e
 unfold zGx at e
 split at e
 ·cases e;exact⟨h,rfl⟩
 ·split at e
  ·rename_i hp
   cases e
   generalize (ts[ts.length - 1]!).price=p at *
   refine⟨⟨hg.wf,fun j h1 h2=>?_,fun j h1 h2=>?_,fun o ho=>h.wck o (List.mem_filter.1 ho).1,fun x hx=>?_,.inr hp,h.evs⟩,rfl⟩
   ·have:=h.held j h1 h2
    rw[zIm (oC j) (oC_zst j) p s.ws] at this
    show (s.ps[ix j]!).held=sumI (rC j) (prs s.bs)+sumI (oC j) (wak.left p s.ws)+sumI (fun x:Sl=>oC j x.o) (s.row++(wak.woke p s.ws).map (Sl.mk · p))+c j
    have e:sumI (fun x:Sl=>oC j x.o) ((wak.woke p s.ws).map (Sl.mk · p))=sumI (oC j) (wak.woke p s.ws):=zFD _ _ _
    rw[zAn,e]
    omega
   ·have:=h.hs j h1 h2
    rw[zIm (oS j) (oS_zst j) p s.ws] at this
    show (s.ps[ix j]!).hs=sumI (rS j) (prs s.ss)+sumI (oS j) (wak.left p s.ws)+sumI (fun x:Sl=>oS j x.o) (s.row++(wak.woke p s.ws).map (Sl.mk · p))+d j
    have e:sumI (fun x:Sl=>oS j x.o) ((wak.woke p s.ws).map (Sl.mk · p))=sumI (oS j) (wak.woke p s.ws):=zFD _ _ _
    rw[zAn,e]
    omega
   ·rcases List.mem_append.1 hx with hx|hx
    ·exact h.rck x hx
    ·obtain⟨o,ho,rfl⟩:=List.mem_map.1 hx
     unfold wak.woke at ho
     obtain⟨o',ho',rfl⟩:=List.mem_map.1 ho
     refine zQE (h.wck o' ?_)
     exact(List.mem_filter.1 ((wak.zDs _ _).mem_iff.1 ho')).1
  ·cases e
theorem IV.tellLeft{s:TS}{c d:Int→Int}{o:O}{v:Vs}(h:IV s c d):IV (tellLeft s o v) c d∧(flr.tellLeft s o v).ps=s.ps:=by
 have h1:IV (zAJ s o v) c d∧(zAJ s o v).ps=s.ps:=by
  unfold zAJ;split
  ·exact⟨h.tell (by decide) _ _ _,rfl⟩
  ·exact⟨h,rfl⟩
 unfold flr.tellLeft;split
 ·exact⟨h1.1.tell (by decide) _ _ _,h1.2⟩
 ·exact h1
theorem zEr{bs ss:List L}(h:zAd bs ss=0){x y:Int × R}(hx:x∈prs bs)(hy:y∈prs ss):¬x.2.id=y.2.id:=by
 obtain⟨-,-,-,ht,-⟩:=bok.zAf h
 have hn:((allR bs++allR ss).map (·.id)).Nodup:=by unfold bok.zAL at ht;simpa using ht
 rw[jF] at hn
 intro e
 have h1:x.2.id∈(allR bs).map (·.id):=List.mem_map.2 ⟨x.2,by rw[←zHu];exact List.mem_map.2 ⟨x,hx,rfl⟩,rfl⟩
 have h2:y.2.id∈(allR ss).map (·.id):=List.mem_map.2 ⟨y.2,by rw[←zHu];exact List.mem_map.2 ⟨y,hy,rfl⟩,rfl⟩
 exact(List.nodup_append.1 hn).2.2 _ h1 _ h2 e
theorem zQF{s:TS}(h:Wf s){a:Int}(ha:a=1∨a=2){x:Int × R}(hx:x∈prs (if a=1 then s.bs else s.ss))(hin:zAh s.bs s.ss x.2.id=true):(spot s.bs s.ss x.2.id).s=a∧(spot s.bs s.ss x.2.id).p=x.1∧(spot s.bs s.ss x.2.id).r=x.2:=by
 have hA:=spot_at h.book hin
 generalize spot s.bs s.ss x.2.id=y at *
 obtain⟨ys,yp,yr,yi,yk⟩:=y
 have hid:yr.id=x.2.id:=swp.At.id hA
 obtain⟨hy,hs⟩:=zOE hA
 obtain⟨e1,e2,-⟩:=bok.zAf h.book
 simp only[]
 have hsa:ys=a:=by
  rcases hs with rfl|rfl <;>rcases ha with rfl|rfl
  ·rfl
  ·rw[if_pos rfl] at hy;rw[if_neg (show ¬(2:Int)=1 by decide)] at hx;exact absurd hid (zEr h.book hy hx)
  ·rw[if_neg (show ¬(2:Int)=1 by decide)] at hy;rw[if_pos rfl] at hx;exact absurd hid.symm (zEr h.book hx hy)
  ·rfl
 subst hsa
 have:(yp,yr)=x:=by
  rcases hs with rfl|rfl
  ·rw[if_pos rfl] at hx hy;exact zPi (zAc e1).2.2.2 hy hx hid
  ·rw[if_neg (show ¬(2:Int)=1 by decide)] at hx hy;exact zPi (zAc e2).2.2.2 hy hx hid
 rw[←this]
 exact⟨rfl,rfl,rfl⟩
theorem IV.parts{a:Int}(ha:a=1∨a=2):∀ (rem:List (Int × R)) {s s1:TS}{c d:Int→Int},IV s c d→parts s (rem.map (·.2.id))=.ok s1→(∀x∈rem,x∈prs (if a=1 then s.bs else s.ss))→IV s1 (fun j=>c j - (if a=1 then sumI (rC j) rem else 0)) (fun j=>d j - (if a=1 then 0 else sumI (rS j) rem))∧sumC s1.ps=sumC s.ps∧sumS s1.ps=sumS s.ps
 | [],s,s1,c,d,h,e,_=>by cases e;exact⟨h.ext (fun j _ _=>by simp[sumI]) (fun j _ _=>by simp[sumI]),rfl,rfl⟩
 | (xp,xr)::t,s,s1,c,d,h,e,hm=>by
  rw[jK] at e
  obtain⟨s2,e1,e2⟩:=zAy e
  have sm:=(zGC h.wf e1).2
  unfold zEP at e1
  split at e1
  ·rename_i hin
   obtain⟨k1,k2,k3⟩:=zQF h.wf ha (hm (xp,xr) (by simp)) hin
   simp only[] at k1 k2 k3 e1
   rw[k1,k2,k3] at e1
   obtain⟨h2,q1,q2⟩:=h.part e1
   obtain⟨h3,p1,p2⟩:=IV.parts ha t h2 e2 (fun y hy=>by rw[sm.bs,sm.ss];exact hm y (by simp[hy]))
   refine⟨h3.ext (fun j _ _=>?_) (fun j _ _=>?_),p1.trans q1,p2.trans q2⟩
   ·by_cases ha1:a=1
    ·simp only[sumI,if_pos ha1];omega
    ·simp only[sumI,if_neg ha1];omega
   ·by_cases ha1:a=1
    ·simp only[sumI,if_pos ha1];omega
    ·simp only[sumI,if_neg ha1];omega
  ·cases e1
theorem zLY{m:Int}{o:O}{ls:List L}{k:Int}{v:V}(h:Fil m o ls k v):(∀x∈v.ts,(o.side=1→x.into=o.who)∧(¬o.side=1→x.frm=o.who))∧(¬m=0→∀x∈v.ts,¬x.frm=x.into):=by
 induction h with
 | done=>exact⟨(fun _ h=>by cases h),fun _ _ h=>by cases h⟩
 | stop=>exact⟨(fun _ h=>by cases h),fun _ _ h=>by cases h⟩
 | taker=>exact⟨(fun _ h=>by cases h),fun _ _ h=>by cases h⟩
 | maker _ _ _ _ ih=>exact ih
 | both=>exact⟨(fun _ h=>by cases h),fun _ _ h=>by cases h⟩
 | @fill p r rs t k v _ _ hne _ ih=>
  refine⟨fun x hx=>?_,fun hm x hx=>?_⟩
  ·rcases List.mem_cons.1 hx with rfl|hx
   ·unfold mee.trd;split
    ·rename_i h;exact⟨fun _=>rfl,fun h'=>absurd h h'⟩
    ·rename_i h;exact⟨fun h'=>absurd h' h,fun _=>rfl⟩
   ·exact ih.1 x hx
  ·rcases List.mem_cons.1 hx with rfl|hx
   ·have:=hne hm
    unfold mee.trd;split
    ·exact this
    ·exact fun e=>this e.symm
   ·exact ih.2 hm x hx
theorem xC_buy{o:O}{ts:List T}(h:∀x∈ts,x.into=o.who)(j:Int):sumI (xC j) ts=at1 o.who j (zCE ts):=by
 induction ts with
 | nil=>unfold at1;simp[sumI,mrg.zCE]
 | cons x t ih=>
  simp only[sumI,mrg.zCE]
  rw[ih (fun y hy=>h y (by simp[hy]))]
  have:=h x (by simp)
  unfold xC at1
  rw[this]
  split <;>omega
theorem zQG{o:O}{ts:List T}(h:∀x∈ts,x.frm=o.who)(j:Int):sumI (xS j) ts=at1 o.who j (sumT ts):=by
 induction ts with
 | nil=>unfold at1;simp[sumI,mee.sumT]
 | cons x t ih=>
  simp only[sumI,mee.sumT]
  rw[ih (fun y hy=>h y (by simp[hy]))]
  have:=h x (by simp)
  unfold xS at1
  rw[this]
  split <;>omega
theorem zFE(w j a b:Int):at1 w j a - at1 w j b=at1 w j (a - b):=by unfold at1;split <;>omega
theorem zCL(w j:Int):at1 w j 0=0:=by unfold at1;split <;>rfl
theorem oC_at(j:Int)(o:O)(h:o.side=1):oC j o=at1 o.who j (resv o*o.qty):=by
 unfold oC at1
 by_cases hw:o.who=j
 ·rw[if_pos ⟨hw,h⟩,if_pos hw]
 ·rw[if_neg (fun x=>hw x.1),if_neg hw]
theorem oS_at(j:Int)(o:O)(h:¬o.side=1):oS j o=at1 o.who j o.qty:=by
 unfold oS at1
 by_cases hw:o.who=j
 ·rw[if_pos ⟨hw,h⟩,if_pos hw]
 ·rw[if_neg (fun x=>hw x.1),if_neg hw]
theorem oC_no(j:Int)(o:O)(h:¬o.side=1):oC j o=0:=by unfold oC;rw[if_neg (fun x=>h x.2)]
theorem oS_no(j:Int)(o:O)(h:o.side=1):oS j o=0:=by unfold oS;rw[if_neg (fun x=>x.2 h)]
theorem zLZ(o:O)(k:Int):tq (zCy o k)=k:=by unfold tq kin.zCy;simp only[];omega
theorem zQH(o:O)(k p j:Int):rC j (p,zCy o k)=at1 o.who j (p*k):=by unfold rC at1;simp only[zLZ];rfl
theorem zQI(o:O)(k p j:Int):rS j (p,zCy o k)=at1 o.who j k:=by unfold rS at1;simp only[zLZ];rfl
theorem zIn{o:O}{ts:List T}{g:Int}(hs:o.side=1)(hb:zBh o ts g=0)(hv:∀x∈ts,1≤x.qty∧x.qty≤10000∧1≤x.price∧x.price≤10000∧x.taker=o.id∧mB o x.price=true)(hck:chk o=0)(h0:0≤g)(h1:g+sumT ts≤o.qty):zBW o ts g=resv o*g+resv o*sumT ts - zCE ts∧zBX o ts g=0:=by
 have hq:=mrg.zAX hck
 have hn:=(mrg.zEQ ts (fun x hx=>⟨(hv x hx).2.2.1,(hv x hx).2.2.2.1,(hv x hx).1⟩)).1
 have hg:0≤resv o*g∧resv o*g≤10000*10000:=⟨Int.mul_nonneg hq.1 h0,Int.mul_le_mul hq.2.1 (by omega) h0 (by omega)⟩
 have hp:putC o.side (resv o) g=resv o*g:=by unfold mrg.putC;rw[if_pos hs];unfold wrap64;omega
 unfold mrg.zBW mrg.zBX
 rw[if_pos hb,if_pos hb,hp]
 refine⟨mrg.bk_buy hs ⟨hq.1,hq.2.1⟩ ts _ (fun x hx=>?_) hg.1 (by omega),by unfold mrg.putS;rw[if_pos hs]⟩
 obtain⟨k1,k2,k3,k4,-,k6⟩:=hv x hx
 exact⟨k3,mrg.zOs hs k6 k4,k1⟩
theorem zGH{o:O}{ts:List T}{g:Int}(hs:¬o.side=1)(hb:zBh o ts g=0):zBW o ts g=0∧zBX o ts g=g:=by
 unfold mrg.zBW mrg.zBX
 rw[if_pos hb,if_pos hb,mrg.zQt hs]
 exact⟨by unfold mrg.putC;rw[if_neg hs],by unfold mrg.putS;rw[if_neg hs]⟩
theorem zGI{o:O}{v:V}(hff:v.left+sumT v.ts=o.qty):(zCc o (lfV v)=true∧resv o=o.price∧o.qty - (gnV v+setG o (lfV v)) - sumT v.ts=lfV v)∨(zCc o (lfV v)=false∧o.qty - (gnV v+setG o (lfV v)) - sumT v.ts=0):=by
 cases hst:zCc o (lfV v) with
 | true=>
  left
  have h1:=hst
  unfold kin.zCc at h1
  simp only[Bool.and_eq_true,Bool.not_eq_true',beq_eq_false_iff_ne,ne_eq] at h1
  refine⟨rfl,?_,?_⟩
  ·have h2:=h1.2
   unfold kin.mayK at h2
   simp only[Bool.or_eq_true,beq_iff_eq] at h2
   unfold mrg.resv
   rw[if_neg (by omega)]
  ·unfold kin.setG
   rw[hst,if_pos rfl]
   have h3:=h1.1
   unfold slf.lfV at h3 ⊢
   unfold slf.gnV
   split at h3
   ·exact absurd rfl h3
   ·rename_i he;rw[if_neg he,if_neg he];omega
 | false=>
  right
  refine⟨rfl,?_⟩
  unfold kin.setG
  rw[hst]
  simp only[Bool.false_eq_true,if_false]
  unfold slf.lfV slf.gnV
  split <;>omega
theorem fS_ok{o:O}(hs:o.side=1)(j:Int):(∀ (p:Int) (r:R) (q:Int),0<q→q≤r.qty→rS j (p,r)=rS j (p,{ r with qty:=r.qty - q })+xS j (trd o p ⟨r.id,r.who,q⟩))∧(∀ (p:Int) (r:R) (q:Int),q=r.qty→r.hid=0→rS j (p,{ r with qty:=r.qty - q })=0):=by
 refine⟨fun p r q _ _=>?_,fun p r q h1 h2=>?_⟩
 ·unfold rS xS mee.trd tq
  rw[if_pos hs]
  simp only[]
  split <;>omega
 ·unfold rS tq
  simp only[]
  split <;>omega
theorem fC_ok{o:O}(hs:¬o.side=1)(j:Int):(∀ (p:Int) (r:R) (q:Int),0<q→q≤r.qty→rC j (p,r)=rC j (p,{ r with qty:=r.qty - q })+xC j (trd o p ⟨r.id,r.who,q⟩))∧(∀ (p:Int) (r:R) (q:Int),q=r.qty→r.hid=0→rC j (p,{ r with qty:=r.qty - q })=0):=by
 refine⟨fun p r q _ _=>?_,fun p r q h1 h2=>?_⟩
 ·unfold rC xC mee.trd tq
  rw[if_neg hs]
  simp only[]
  split
  ·rw[←Int.mul_add];congr 1;omega
  ·rfl
 ·unfold rC tq
  simp only[]
  split
  ·rw[show r.qty - q+r.hid=0 by omega,Int.mul_zero]
  ·rfl
theorem zGJ{s s1:TS}{o:O}(h:IV s (fun j=>oC j o) (fun j=>oS j o))(hv:vE s.mode s.bs s.ss o=0)(e:settle s o (vR s.mode s.bs s.ss o)=.ok s1):IV s1 (fun _=>0) (fun _=>0)∧sumC s1.ps=sumC s.ps∧sumS s1.ps=sumS s.ps:=by
 have hVO:=zIg h.wf.m0 h.wf.m3 hv
 obtain⟨v,hF⟩:=zIf h.wf.m0 h.wf.m3 hv
 have hm0:s.mode=0→v.ids=[]:=fun hm=>by
  have h1:(vR s.mode s.bs s.ss o).ids=v.ids:=by rw[hF.is]
  rw[←h1]
  unfold vR
  rw[if_pos hm]
 obtain⟨hsh,hself⟩:=zLY hF.fil
 have hff:=hF.ff
 have hck:=(zAG hF.come).2.1
 have hq0:=(mrg.zAX hck).2.2.1
 obtain⟨rem,r1,r2,r3⟩:=zOA hF.fil (other_good hF.come) (by omega) hm0
 rw[hF.is] at e hVO
 obtain⟨s2,e1,e⟩:=zAy e
 obtain⟨i2,q2,q2'⟩:=IV.trades v.ts h e1 hself
 have sm2:=(zDj v.ts h.wf e1).2
 split at e
 ·rename_i hb
  obtain⟨s3,e3,e⟩:=zAy e
  obtain⟨i3,q3,q3'⟩:=i2.free e3
  have sm3:=sm2.trans (zFz i2.wf e3).2
  obtain⟨s4,e4,e⟩:=zAy e
  have sm4:=sm3.trans (zFB v.ids i3.wf e4).2
  simp only[] at hb e e4 i3
  rw[←r1] at e4
  have hother:zAr s.bs s.ss o=if o.side=1 then s.ss else s.bs:=rfl
  have key:IV { s4 with bs:=setB (repB o s.bs v.ls) o (lfV v),ss:=setS (repS o s.ss v.ls) o (lfV v) } (fun _=>0) (fun _=>0)∧sumC s4.ps=sumC s3.ps∧sumS s4.ps=sumS s3.ps:=by
   have hbk:=hVO.book
   simp only[] at hbk
   have hg0:=hVO.g0
   have hg1:=hVO.g1
   simp only[] at hg0 hg1
   by_cases hs:o.side=1
   ·rw[if_pos hs] at hother
    obtain⟨i4,q4⟩:=IV.parts (a:=2) (.inr rfl) rem i3 e4 (fun x hx=>by rw[if_neg (show ¬(2:Int)=1 by decide),sm3.ss,←hother];exact(r2 x hx).2)
    refine⟨⟨⟨i4.wf.m0,i4.wf.m3,hbk,i4.wf.ok,i4.wf.ws⟩,fun j h1 h2=>?_,fun j h1 h2=>?_,i4.wck,i4.rck,i4.last,i4.evs⟩,q4⟩
    ·have hh:=i4.held j h1 h2
     have hB:=zIn hs hb hVO.each hck hg0 hg1
     try simp only[] at hh
     try simp only[] at hB
     rw[sm4.bs,oC_at j o hs,xC_buy (fun x hx=>(hsh x hx).1 hs) j,hB.1,if_neg (show ¬(2:Int)=1 by decide),zFE,zFE] at hh
     show (s4.ps[ix j]!).held=sumI (rC j) (prs (setB (repB o s.bs v.ls) o (lfV v)))+sumI (oC j) s4.ws+sumI (fun x:Sl=>oC j x.o) s4.row+0
     have hrep:repB o s.bs v.ls=s.bs:=by unfold slf.repB;rw[if_pos hs]
     rw[hrep]
     have hnum:resv o*o.qty - zCE v.ts - (resv o*(gnV v+setG o (lfV v))+resv o*sumT v.ts - zCE v.ts)=resv o*(o.qty - (gnV v+setG o (lfV v)) - sumT v.ts):=by
      rw[Int.mul_sub,Int.mul_sub];omega
     rw[hnum] at hh
     rcases zGI hff.sum with ⟨k1,k2,k3⟩|⟨k1,k3⟩
     ·rw[k3,k2] at hh
      unfold kin.setB bok.put1
      rw[k1,if_pos rfl,if_pos hs,zLW,zQH]
      omega
     ·rw[k3,Int.mul_zero,zCL] at hh
      unfold kin.setB
      rw[k1]
      simp only[Bool.false_eq_true,if_false]
      omega
    ·have hh:=i4.hs j h1 h2
     have hB:=zIn hs hb hVO.each hck hg0 hg1
     have h3:=r3 (rS j) (xS j) (zQC j) (fS_ok hs j).1 (fS_ok hs j).2
     try simp only[] at hh
     try simp only[] at hB
     rw[sm4.ss,oS_no j o hs,hB.2,zCL,if_neg (show ¬(2:Int)=1 by decide)] at hh
     rw[hother] at h3
     show (s4.ps[ix j]!).hs=sumI (rS j) (prs (setS (repS o s.ss v.ls) o (lfV v)))+sumI (oS j) s4.ws+sumI (fun x:Sl=>oS j x.o) s4.row+0
     have hrep:setS (repS o s.ss v.ls) o (lfV v)=v.ls:=by
      unfold kin.setS slf.repS bok.put2
      rw[if_pos hs,if_pos hs];split <;>rfl
     rw[hrep]
     omega
   ·rw[if_neg hs] at hother
    obtain⟨i4,q4⟩:=IV.parts (a:=1) (.inl rfl) rem i3 e4 (fun x hx=>by rw[if_pos rfl,sm3.bs,←hother];exact(r2 x hx).2)
    refine⟨⟨⟨i4.wf.m0,i4.wf.m3,hbk,i4.wf.ok,i4.wf.ws⟩,fun j h1 h2=>?_,fun j h1 h2=>?_,i4.wck,i4.rck,i4.last,i4.evs⟩,q4⟩
    ·have hh:=i4.held j h1 h2
     have hB:=zGH hs hb
     have h3:=r3 (rC j) (xC j) (zQB j) (fC_ok hs j).1 (fC_ok hs j).2
     try simp only[] at hh
     try simp only[] at hB
     rw[sm4.bs,oC_no j o hs,hB.1,zCL] at hh
     simp only[if_true] at hh
     rw[hother] at h3
     show (s4.ps[ix j]!).held=sumI (rC j) (prs (setB (repB o s.bs v.ls) o (lfV v)))+sumI (oC j) s4.ws+sumI (fun x:Sl=>oC j x.o) s4.row+0
     have hrep:setB (repB o s.bs v.ls) o (lfV v)=v.ls:=by
      unfold kin.setB slf.repB bok.put1
      rw[if_neg hs,if_neg hs];split <;>rfl
     rw[hrep]
     omega
    ·have hh:=i4.hs j h1 h2
     have hB:=zGH hs hb
     try simp only[] at hh
     try simp only[] at hB
     rw[sm4.ss,oS_at j o hs,zQG (fun x hx=>(hsh x hx).2 hs) j,hB.2] at hh
     simp only[if_true] at hh
     rw[zFE,zFE] at hh
     show (s4.ps[ix j]!).hs=sumI (rS j) (prs (setS (repS o s.ss v.ls) o (lfV v)))+sumI (oS j) s4.ws+sumI (fun x:Sl=>oS j x.o) s4.row+0
     have hrep:repS o s.ss v.ls=s.ss:=by unfold slf.repS;rw[if_neg hs]
     rw[hrep]
     rw[show o.qty - sumT v.ts - (gnV v+setG o (lfV v))=o.qty - (gnV v+setG o (lfV v)) - sumT v.ts by omega] at hh
     rcases zGI hff.sum with ⟨k1,k2,k3⟩|⟨k1,k3⟩
     ·rw[k3] at hh
      unfold kin.setS bok.put2
      rw[k1,if_pos rfl,if_neg hs,zLW,zQI]
      omega
     ·rw[k3,zCL] at hh
      unfold kin.setS
      rw[k1]
      simp only[Bool.false_eq_true,if_false]
      omega
  obtain⟨k1,k2,k3⟩:=key
  obtain⟨j1,j2⟩:=k1.tellLeft (o:=o) (v:=⟨setB (repB o s.bs v.ls) o (lfV v),setS (repS o s.ss v.ls) o (lfV v),v.ts,gnV v+setG o (lfV v),v.ids⟩)
  obtain⟨w1,w2⟩:=j1.wake e
  rw[w2,j2]
  exact⟨w1,(k2.trans q3).trans q2,(k3.trans q3').trans q2'⟩
 ·cases e
end flr
end Go.Proofs.YtifjhlgjgnnnpaaGreat
