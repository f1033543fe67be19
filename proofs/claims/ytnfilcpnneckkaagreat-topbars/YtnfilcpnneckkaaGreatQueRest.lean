import Derived.Test.YtnfilcpnneckkaaGreatTickP
namespace Go.Proofs.YtnfilcpnneckkaaGreat
open Tryz
namespace que
structure R where
 id:Int
 who:Int
 qty:Int
 hid:Int
 shw:Int
deriving DecidableEq,Inhabited
structure F where
 id:Int
 who:Int
 qty:Int
deriving DecidableEq,Inhabited
def inB(n lo hi:Int):Bool:=decide (lo≤n) && decide (n≤hi)
def zBM(r:R):Bool:=inB r.id 1 9999 && inB r.who 1 9 && inB r.qty 1 10000 && inB r.hid 0 10000 && inB r.shw 0 10000
def shapeB(r:R):Bool:=(!(decide (r.shw=0) && !decide (r.hid=0))) && (!((!decide (r.shw=0)) && decide (r.shw<r.qty)))
def rchk(r:R):Int:=if zBM r=true then (if shapeB r=true then 0 else 3) else 1
def idx(id:Int):List R→Int
 | []=>-1
 | r::t=>if r.id=id then 0 else if idx id t<0 then -1 else idx id t+1
def has(id:Int)(zs:List R):Bool:=zs.any (fun r=>decide (r.id=id))
def bchk(ahead:List R)(r:R):Int:=if rchk r=0 then (if has r.id ahead=true then 7 else 0) else rchk r
def qgo(ahead:List R):List R→Int
 | []=>0
 | r::t=>if bchk ahead r=0 then qgo (ahead++[r]) t else bchk ahead r
def qchk(zs:List R):Int:=if 60<zs.length then 4 else qgo [] zs
def tot:List R→Int
 | []=>0
 | r::t=>r.qty+r.hid+tot t
def tk1(k:Int)(r:R)(t:List R):List R:=
 if k<r.qty then { r with qty:=r.qty - k }::t
 else if r.hid=0 then t
 else t++[{ r with qty:=min r.shw r.hid,hid:=r.hid - min r.shw r.hid }]
def tk:Nat→Int→List R→List F × List R
 | 0,_,zs=>([],zs)
 | _+1,_,[]=>([],[])
 | f+1,n,r::t=>if n≤0 then ([],r::t) else
   (⟨r.id,r.who,min n r.qty⟩::(tk f (n - min n r.qty) (tk1 (min n r.qty) r t)).1,(tk f (n - min n r.qty) (tk1 (min n r.qty) r t)).2)
def take(n:Int)(zs:List R):List F × List R:=tk n.toNat n zs
theorem wAX(id:Int)(zs:List R) : -1≤idx id zs:=by
 induction zs with
 | nil=>simp[idx]
 | cons r t ih=>unfold idx;split;omega;split <;>omega
theorem wBj(id:Int)(zs:List R):idx id zs<zs.length:=by
 induction zs with
 | nil=>simp[idx]
 | cons r t ih=>unfold idx;rw[jG];split;omega;split <;>omega
theorem wAL(id:Int)(r:R)(t:List R):idx id (r::t)=if r.id=id then 0 else if idx id t<0 then -1 else idx id t+1:=rfl
theorem zKy(id:Int)(zs:List R):has id zs=decide (0≤idx id zs):=by
 induction zs with
 | nil=>rfl
 | cons r t ih=>
  have e:has id (r::t)=(decide (r.id=id) || has id t):=rfl;have:=wAX id t;rw[e,ih,wAL];by_cases h:r.id=id
  ·rw[if_pos h,decide_eq_true h];rfl
  ·rw[if_neg h,decide_eq_false h,Bool.false_or];by_cases h2:idx id t<0
   ·rw[if_pos h2,decide_eq_false (by omega)];rfl
   ·rw[if_neg h2,decide_eq_true (show 0≤idx id t by omega),decide_eq_true (show 0≤idx id t+1 by omega)]
theorem zKz(n lo hi:Int):inB n lo hi=true↔lo≤n∧n≤hi:=by simp[inB]
theorem zAq{r:R}(h:rchk r=0):(1≤r.qty∧r.qty≤10000)∧(0≤r.hid∧r.hid≤10000)∧(0≤r.shw∧r.shw≤10000)∧(r.shw=0→r.hid=0)∧(r.shw≠0→r.qty≤r.shw)∧(1≤r.id∧r.id≤9999)∧(1≤r.who∧r.who≤9):=by
 unfold rchk at h;by_cases h1:zBM r=true
 ·rw[if_pos h1] at h;by_cases h2:shapeB r=true
  ·simp only[zBM,Bool.and_eq_true,zKz] at h1;simp only[shapeB,Bool.and_eq_true,Bool.not_eq_true',Bool.and_eq_false_iff,decide_eq_false_iff_not,Bool.not_eq_false',decide_eq_true_eq] at h2;obtain⟨⟨⟨⟨h3,h4⟩,h5⟩,h6⟩,h7⟩:=h1;obtain⟨h8,h9⟩:=h2;refine⟨h5,h6,h7,?_,?_,h3,h4⟩
   ·intro e;rcases h8 with h8|h8;exact absurd e h8;exact h8
   ·intro e;rcases h9 with h9|h9;exact absurd h9 e;omega
  ·rw[if_neg h2] at h;cases h
 ·rw[if_neg h1] at h;cases h
theorem zHE{r:R}(h:(1≤r.qty∧r.qty≤10000)∧(0≤r.hid∧r.hid≤10000)∧(0≤r.shw∧r.shw≤10000)∧(r.shw=0→r.hid=0)∧(r.shw≠0→r.qty≤r.shw)∧(1≤r.id∧r.id≤9999)∧(1≤r.who∧r.who≤9)):rchk r=0:=by
 obtain⟨h5,h6,h7,ha,hb,h3,h4⟩:=h;have h1:zBM r=true:=by
  simp only[zBM,Bool.and_eq_true,zKz];exact⟨⟨⟨⟨h3,h4⟩,h5⟩,h6⟩,h7⟩
 have h2:shapeB r=true:=by
  simp only[shapeB,Bool.and_eq_true,Bool.not_eq_true',Bool.and_eq_false_iff,decide_eq_false_iff_not,Bool.not_eq_false',decide_eq_true_eq];constructor
  ·by_cases e:r.shw=0
   ·right;exact ha e
   ·left;exact e
  ·by_cases e:r.shw=0
   ·left;exact e
   ·right;have:=hb e;omega
 unfold rchk;rw[if_pos h1,if_pos h2]
theorem zGq{ahead:List R}{r:R}:bchk ahead r=0↔rchk r=0∧has r.id ahead=false:=by
 unfold bchk;by_cases h:rchk r=0
 ·rw[if_pos h];cases h2:has r.id ahead <;>simp[h]
 ·rw[if_neg h];constructor
  ·intro e;exact absurd e h
  ·intro e;exact absurd e.1 h
def Good(zs:List R):Prop:=(∀r∈zs,rchk r=0)∧(zs.map (·.id)).Nodup
theorem zDV(id:Int)(zs:List R):has id zs=false↔id ∉ zs.map (·.id):=by
 unfold has;rw[List.any_eq_false];simp only[decide_eq_true_eq,List.mem_map,not_exists,not_and]
theorem zNx(t ahead:List R)(h:Good ahead):qgo ahead t=0↔Good (ahead++t):=by
 induction t generalizing ahead with
 | nil=>simp[qgo,h]
 | cons r t ih=>
  unfold qgo;by_cases hb:bchk ahead r=0
  ·rw[if_pos hb];obtain⟨h1,h2⟩:=zGq.1 hb;rw[zDV] at h2;have hg:Good (ahead++[r]):=by
    refine⟨?_,?_⟩
    ·intro x hx;rcases List.mem_append.1 hx with hx|hx
     ·exact h.1 x hx
     ·rw[List.mem_singleton] at hx;rw[hx];exact h1
    ·rw[jF,List.nodup_append];refine⟨h.2,by simp,?_⟩
     intro a ha b hb e;simp at hb;rw[e,hb] at ha;exact h2 ha
   rw[ih _ hg,jS];rfl
  ·rw[if_neg hb];constructor
   ·intro e;exact absurd e hb
   ·intro hg;exfalso;apply hb;rw[zGq,zDV];refine⟨hg.1 r (by simp),?_⟩
    have:=hg.2;rw[jF,List.nodup_append] at this;intro hm;exact this.2.2 r.id hm r.id (by simp) rfl
theorem zAn(zs:List R):qchk zs=0↔zs.length≤60∧Good zs:=by
 unfold qchk;by_cases h:60<zs.length
 ·rw[if_pos h];constructor
  ·intro e;cases e
  ·intro e;omega
 ·rw[if_neg h,zNx zs [] ⟨by simp,by simp⟩]
  rw[jU];exact⟨fun e=>⟨by omega,e⟩,fun e=>e.2⟩
theorem zGr{r:R}{t:List R}(h:Good (r::t)):Good t:=⟨fun x hx=>h.1 x (by simp[hx]),by have:=h.2;simp at this;simpa using this.2⟩
theorem zGs{r r' : R}{t:List R}(h:Good (r::t))(hi:r'.id=r.id)(hr:rchk r'=0):Good (r'::t):=by
 refine⟨?_,?_⟩
 ·intro x hx;rcases List.mem_cons.1 hx with rfl|hx
  ·exact hr
  ·exact h.1 x (by simp[hx])
 ·have:=h.2;rw[jK] at this ⊢;rw[hi];exact this
theorem zKA{r:R}{t:List R}(h:Good (r::t)):Good (t++[r]):=by
 refine⟨?_,?_⟩
 ·intro x hx;rcases List.mem_append.1 hx with hx|hx
  ·exact h.1 x (by simp[hx])
  ·rw[List.mem_singleton] at hx;rw[hx];exact h.1 r (by simp)
 ·have:=h.2;rw[jK,List.nodup_cons] at this;rw[jF,List.nodup_append];refine⟨this.2,by simp,?_⟩
  intro a ha b hb e;simp at hb;rw[e,hb] at ha;exact this.1 ha
theorem zEV(a b:List R):tot (a++b)=tot a+tot b:=by
 induction a with
 | nil=>simp[tot]
 | cons r t ih=>rw[List.cons_append];simp only[tot];rw[ih];omega
theorem zBN{k:Int}{r:R}{t:List R}(h:Good (r::t))(h1:1≤k)(h2:k≤r.qty):Good (tk1 k r t)∧tot (tk1 k r t)=tot (r::t) - k∧(tk1 k r t).length≤(r::t).length:=by
 obtain⟨a1,a2,a3,a4,a5,a6,a7⟩:=zAq (h.1 r (by simp))
 unfold tk1;by_cases c1:k<r.qty
 ·rw[if_pos c1];refine⟨zGs h rfl (zHE ⟨⟨?_,?_⟩,a2,a3,a4,?_,a6,a7⟩),?_,?_⟩
  ·show 1≤r.qty - k;omega
  ·show r.qty - k≤10000;omega
  ·intro e;show r.qty - k≤r.shw;have:=a5 e;omega
  ·simp only[tot];omega
  ·simp
 ·rw[if_neg c1];have e:k=r.qty:=by omega
  by_cases c2:r.hid=0
  ·rw[if_pos c2];refine⟨zGr h,?_,by simp⟩
   simp only[tot];omega
  ·rw[if_neg c2];have s1:1≤r.shw:=by
    by_cases e0:r.shw=0
    ·exact absurd (a4 e0) c2
    ·omega
   have g:Good ({ r with qty:=min r.shw r.hid,hid:=r.hid - min r.shw r.hid }::t):=by
    refine zGs h rfl (zHE ⟨⟨?_,?_⟩,⟨?_,?_⟩,a3,?_,?_,a6,a7⟩)
    ·show 1≤min r.shw r.hid;omega
    ·show min r.shw r.hid≤10000;omega
    ·show 0≤r.hid - min r.shw r.hid;omega
    ·show r.hid - min r.shw r.hid≤10000;omega
    ·intro e0;have e1:r.shw=0:=e0;omega
    ·intro _;show min r.shw r.hid≤r.shw;omega
   refine⟨zKA g,?_,by simp⟩
   rw[zEV];simp only[tot];omega
theorem zDW(f:Nat)(n:Int)(zs:List R)(h:n≤0):tk f n zs=([],zs):=by
 cases f with
 | zero=>rfl
 | succ f=>
  cases zs with
  | nil=>rfl
  | cons r t=>show (if n≤0 then _ else _)=_;rw[if_pos h]
theorem zKB(f:Nat)(n:Int):tk f n []=([],[]):=by cases f <;>rfl
theorem zHF(f:Nat)(n:Int)(r:R)(t:List R)(h:0<n):tk (f+1) n (r::t) =
  (⟨r.id,r.who,min n r.qty⟩::(tk f (n - min n r.qty) (tk1 (min n r.qty) r t)).1,(tk f (n - min n r.qty) (tk1 (min n r.qty) r t)).2):=by
 show (if n≤0 then _ else _)=_;rw[if_neg (by omega)]
theorem zQk(f:Nat):∀ (g:Nat) (n:Int) (zs:List R),n≤f→n≤g→Good zs→tk f n zs=tk g n zs:=by
 induction f with
 | zero=>intro g n zs h1 _ _;rw[zDW _ _ _ (by omega),zDW _ _ _ (by omega)]
 | succ f ih=>
  intro g n zs h1 h2 hg;by_cases h:n≤0
  ·rw[zDW _ _ _ h,zDW _ _ _ h]
  cases zs with
  | nil=>rw[zKB,zKB]
  | cons r t=>
   obtain⟨g,rfl⟩:∃g',g=g' + 1:=⟨g - 1,by omega⟩
   have hq:=(zAq (hg.1 r (by simp))).1
   rw[zHF f n r t (by omega),zHF g n r t (by omega),ih g _ _ (by omega) (by omega) (zBN hg (by omega) (by omega)).1]
theorem zBT(n:Int)(zs:List R)(h:n≤0):take n zs=([],zs):=zDW _ _ _ h
theorem zDK(n:Int):take n []=([],[]):=zKB _ _
theorem zCU(n:Int)(r:R)(t:List R)(h:0<n)(hg:Good (r::t)):take n (r::t) =
  (⟨r.id,r.who,min n r.qty⟩::(take (n - min n r.qty) (tk1 (min n r.qty) r t)).1,(take (n - min n r.qty) (tk1 (min n r.qty) r t)).2):=by
 have hq:=(zAq (hg.1 r (by simp))).1
 have e:take n (r::t)=tk (n.toNat - 1+1) n (r::t):=by unfold take;rw[show n.toNat - 1+1=n.toNat by omega]
 rw[e,zHF _ _ _ _ h];have e2:=zQk (n.toNat - 1) (n - min n r.qty).toNat (n - min n r.qty) _ (by omega) (by omega) (zBN hg (show 1≤min n r.qty by omega) (by omega)).1
 rw[e2];rfl
def sum:List F→Int
 | []=>0
 | f::t=>f.qty+sum t
theorem zEW(m:Nat):∀ (n:Int) (zs:List R),n≤m→Good zs→0≤n→
  Good (take n zs).2∧(take n zs).2.length≤zs.length∧sum (take n zs).1+tot (take n zs).2=tot zs∧sum (take n zs).1≤n∧(∀f∈(take n zs).1,1≤f.qty∧f.qty≤n)∧
  (sum (take n zs).1<n→(take n zs).2=[])∧(take n zs).1.length≤n.toNat∧0≤sum (take n zs).1:=by
 induction m with
 | zero=>
  intro n zs h hg h0;rw[zBT _ _ (by omega)]
  exact⟨hg,nzR _,by simp[sum],by simp[sum];omega,by simp,by simp[sum];omega,by simp,by simp[sum]⟩
 | succ m ih=>
  intro n zs h hg h0;by_cases hn:n≤0
  ·rw[zBT _ _ (by omega)]
   exact⟨hg,nzR _,by simp[sum],by simp[sum];omega,by simp,by simp[sum];omega,by simp,by simp[sum]⟩
  cases zs with
  | nil=>
   rw[zDK];exact⟨hg,nzR _,by simp[sum],by simp[sum];omega,by simp,by simp,by simp,by simp[sum]⟩
  | cons r t=>
   have hq:=(zAq (hg.1 r (by simp))).1
   obtain⟨g1,g2,g3⟩:=zBN hg (show 1≤min n r.qty by omega) (by omega)
   obtain⟨i1,i2,i3,i4,i5,i6,i7,i8⟩:=ih (n - min n r.qty) _ (by omega) g1 (by omega)
   rw[zCU n r t (by omega) hg]
   refine⟨i1,jM i2 g3,?_,?_,?_,?_,?_,?_⟩
   ·simp only[sum];omega
   ·simp only[sum];omega
   ·intro f hf;rcases List.mem_cons.1 hf with rfl|hf
    ·show 1≤min n r.qty∧min n r.qty≤n;omega
    ·have:=i5 f hf;omega
   ·simp only[sum];intro hs;exact i6 (by omega)
   ·simp only[jG];omega
   ·simp only[sum];omega
theorem zKC(zs:List R)(h:∀r∈zs,rchk r=0):0≤tot zs∧tot zs≤20000*(zs.length:Int):=by
 induction zs with
 | nil=>simp[tot]
 | cons r t ih=>
  obtain⟨i1,i2⟩:=ih (fun x hx=>h x (by simp[hx]))
  obtain⟨a1,a2,_⟩:=zAq (h r (by simp))
  simp only[tot,jG];omega
end que
namespace que
open Go.RowKit spn
def rV(r:R):List Value:=[.int .i64 r.id,.int .i64 r.who,.int .i64 r.qty,.int .i64 r.hid,.int .i64 r.shw]
theorem bal{V W:World}(h:Bw V W)(o:Obj):Bw V (W.alloc o):=h.alloc h.size o
structure Kept (V W W' : World):Prop where
 far:Bw V W'
 cel:∀b o,b<W.heap.size→W'.cell? ⟨b,o,none⟩=W.cell? ⟨b,o,none⟩
 fro:∀b o,b<W.heap.size→W'.frozen? ⟨b,o,none⟩=W.frozen? ⟨b,o,none⟩
 siz:∀b,b<W.heap.size→b<W'.heap.size
theorem kept{V W W' : World}(h:Bw V W)(h' : Bw W W'):Kept V W W':=
 ⟨h.trans (h'.mono h.size),fun b o hb=>h'.cell (p:=⟨b,o,none⟩) hb,fun b o hb=>h'.frozen (p:=⟨b,o,none⟩) hb,fun _ hb=>jC hb h'.size⟩
theorem p30(W:World)(p:Nat)(x y z:Value)(h:(W.cell? ⟨p,0,none⟩).isSome=true) :
  (((W.setCell ⟨p,0,none⟩ x).setCell ⟨p,1,none⟩ y).setCell ⟨p,2,none⟩ z).cell? ⟨p,0,none⟩=some x:=by
 rw[World.cell?_setCell_other _ _ _ _ (by simp),World.cell?_setCell_other _ _ _ _ (by simp),World.cell?_setCell_same' _ _ _ h]
theorem p31(W:World)(p:Nat)(x y z:Value)(h:(W.cell? ⟨p,1,none⟩).isSome=true) :
  (((W.setCell ⟨p,0,none⟩ x).setCell ⟨p,1,none⟩ y).setCell ⟨p,2,none⟩ z).cell? ⟨p,1,none⟩=some y:=by
 rw[World.cell?_setCell_other _ _ _ _ (by simp),World.cell?_setCell_same' _ _ _ (by rw[World.cell?_setCell_other _ _ _ _ (by simp)];exact h)]
theorem p32(W:World)(p:Nat)(x y z:Value)(h:(W.cell? ⟨p,2,none⟩).isSome=true) :
  (((W.setCell ⟨p,0,none⟩ x).setCell ⟨p,1,none⟩ y).setCell ⟨p,2,none⟩ z).cell? ⟨p,2,none⟩=some z:=by
 rw[World.cell?_setCell_same' _ _ _ (by rw[World.cell?_setCell_other _ _ _ _ (by simp),World.cell?_setCell_other _ _ _ _ (by simp)];exact h)]
theorem p3far(W:World)(p b o:Nat)(x y z:Value)(h:b<p∨p<b) :
  (((W.setCell ⟨p,0,none⟩ x).setCell ⟨p,1,none⟩ y).setCell ⟨p,2,none⟩ z).cell? ⟨b,o,none⟩=W.cell? ⟨b,o,none⟩:=by
 have hn:p≠b:=by omega
 rw[World.cell?_setCell_far _ _ _ _ hn,World.cell?_setCell_far _ _ _ _ hn,World.cell?_setCell_far _ _ _ _ hn]
theorem ccp0(W:World)(p q:Nat)(x y z x' y' z' : Value)(h:p<q∨q<p)(hp:(W.cell? ⟨p,0,none⟩).isSome=true) :
  ((((((W.setCell ⟨p,0,none⟩ x).setCell ⟨p,1,none⟩ y).setCell ⟨p,2,none⟩ z).setCell ⟨q,0,none⟩ x').setCell ⟨q,1,none⟩ y').setCell ⟨q,2,none⟩ z').cell? ⟨p,0,none⟩=some x:=by
 rw[p3far _ _ _ _ _ _ _ h,p30 _ _ _ _ _ hp]
theorem ccq0(W:World)(p q:Nat)(x y z x' y' z' : Value)(h:p<q∨q<p)(hq:(W.cell? ⟨q,0,none⟩).isSome=true) :
  ((((((W.setCell ⟨p,0,none⟩ x).setCell ⟨p,1,none⟩ y).setCell ⟨p,2,none⟩ z).setCell ⟨q,0,none⟩ x').setCell ⟨q,1,none⟩ y').setCell ⟨q,2,none⟩ z').cell? ⟨q,0,none⟩=some x':=by
 rw[p30];rw[p3far _ _ _ _ _ _ _ (by omega)];exact hq
theorem ccp1(W:World)(p q:Nat)(x y z x' y' z' : Value)(h:p<q∨q<p)(hp:(W.cell? ⟨p,1,none⟩).isSome=true) :
  ((((((W.setCell ⟨p,0,none⟩ x).setCell ⟨p,1,none⟩ y).setCell ⟨p,2,none⟩ z).setCell ⟨q,0,none⟩ x').setCell ⟨q,1,none⟩ y').setCell ⟨q,2,none⟩ z').cell? ⟨p,1,none⟩=some y:=by
 rw[p3far _ _ _ _ _ _ _ h,p31 _ _ _ _ _ hp]
theorem ccq1(W:World)(p q:Nat)(x y z x' y' z' : Value)(h:p<q∨q<p)(hq:(W.cell? ⟨q,1,none⟩).isSome=true) :
  ((((((W.setCell ⟨p,0,none⟩ x).setCell ⟨p,1,none⟩ y).setCell ⟨p,2,none⟩ z).setCell ⟨q,0,none⟩ x').setCell ⟨q,1,none⟩ y').setCell ⟨q,2,none⟩ z').cell? ⟨q,1,none⟩=some y':=by
 rw[p31];rw[p3far _ _ _ _ _ _ _ (by omega)];exact hq
theorem ccp2(W:World)(p q:Nat)(x y z x' y' z' : Value)(h:p<q∨q<p)(hp:(W.cell? ⟨p,2,none⟩).isSome=true) :
  ((((((W.setCell ⟨p,0,none⟩ x).setCell ⟨p,1,none⟩ y).setCell ⟨p,2,none⟩ z).setCell ⟨q,0,none⟩ x').setCell ⟨q,1,none⟩ y').setCell ⟨q,2,none⟩ z').cell? ⟨p,2,none⟩=some z:=by
 rw[p3far _ _ _ _ _ _ _ h,p32 _ _ _ _ _ hp]
theorem ccq2(W:World)(p q:Nat)(x y z x' y' z' : Value)(h:p<q∨q<p)(hq:(W.cell? ⟨q,2,none⟩).isSome=true) :
  ((((((W.setCell ⟨p,0,none⟩ x).setCell ⟨p,1,none⟩ y).setCell ⟨p,2,none⟩ z).setCell ⟨q,0,none⟩ x').setCell ⟨q,1,none⟩ y').setCell ⟨q,2,none⟩ z').cell? ⟨q,2,none⟩=some z':=by
 rw[p32];rw[p3far _ _ _ _ _ _ _ (by omega)];exact hq
theorem of_V(V:World)(n lo hi:Int)(w:World)(h:Bw V w) :
  Calls prog 21 #[.int .i64 n,.int .i64 lo,.int .i64 hi] w fun e w'=>e=.returned (.agg #[.int .i64 n,.int .i64 lo,.int .i64 hi])∧Kept V w w':=
 (zAY n lo hi w).mono fun _ _ h'=>⟨h'.1,kept h h'.2⟩
theorem id_V(V:World)(n:Int)(w:World)(h:Bw V w) :
  Calls prog 72 #[.int .i64 n] w fun e w'=>e=.returned (.agg #[.int .i64 n,.int .i64 1,.int .i64 9999])∧Bw V w':=
 (zGn n w).mono fun _ _ h'=>⟨h'.1,h.trans (h'.2.mono h.size)⟩
theorem who_V(V:World)(n:Int)(w:World)(h:Bw V w) :
  Calls prog 106 #[.int .i64 n] w fun e w'=>e=.returned (.agg #[.int .i64 n,.int .i64 1,.int .i64 9])∧Bw V w':=
 (zCl n w).mono fun _ _ h'=>⟨h'.1,h.trans (h'.2.mono h.size)⟩
theorem qty_V(V:World)(n:Int)(w:World)(h:Bw V w) :
  Calls prog 75 #[.int .i64 n] w fun e w'=>e=.returned (.agg #[.int .i64 n,.int .i64 1,.int .i64 10000])∧Bw V w':=
 (zAK n w).mono fun _ _ h'=>⟨h'.1,h.trans (h'.2.mono h.size)⟩
theorem zKD(a b c d e:Int):[(a,1,9999),(b,1,9),(c,1,10000),(d,0,10000),(e,0,10000)].any zAl = !zBM ⟨a,b,c,d,e⟩:=by
 rw[Bool.eq_iff_iff];simp[zAl,zBM,inB];omega
theorem zNy{a b c d e:Int}(h:zBM ⟨a,b,c,d,e⟩=false):rchk ⟨a,b,c,d,e⟩=1:=by unfold rchk;rw[h];rfl
theorem zKE{a b c d e:Int}(h:zBM ⟨a,b,c,d,e⟩=true):rchk ⟨a,b,c,d,e⟩=if ((!(decide (e=0) && !decide (d=0))) && (!((!decide (e=0)) && decide (e<c))))=true then 0 else 3:=by unfold rchk;rw[if_pos h];rfl
set_option maxRecDepth 100000 in
set_option maxHeartbeats 1000000 in
theorem zCV(a b c d e:Int)(w:World) :
  Calls prog 122 #[.agg #[.int .i64 a,.int .i64 b,.int .i64 c,.int .i64 d,.int .i64 e]] w
   fun x w'=>x=.returned (errV (rchk ⟨a,b,c,d,e⟩))∧Bw w w':=by
 generalize hk:rchk ⟨a,b,c,d,e⟩=k;have HK:Hid (rchk ⟨a,b,c,d,e⟩=k):=hk;clear hk;go_enter func122,ntmps122;go_upto_region 1 with fail
 have hV:Bw w (w.alloc (.cells #[.int .i64 a,.int .i64 b,.int .i64 c,.int .i64 d,.int .i64 e] 51)):=(bzR _ _).alloc (nzR _) _;have hR:=jA w (.cells #[.int .i64 a,.int .i64 b,.int .i64 c,.int .i64 d,.int .i64 e] 51);have hz:w.heap.size<(w.alloc (.cells #[.int .i64 a,.int .i64 b,.int .i64 c,.int .i64 d,.int .i64 e] 51)).heap.size:=by simp
 generalize w.alloc (.cells #[.int .i64 a,.int .i64 b,.int .i64 c,.int .i64 d,.int .i64 e] 51)=V at *;have cel:∀i,V.cell? ⟨w.heap.size,i,none⟩=(#[.int .i64 a,.int .i64 b,.int .i64 c,.int .i64 d,.int .i64 e]:Array Value)[i]?:=fun i=>by simp[World.cell?,hR]
 have c0:=cel 0;have c1:=cel 1;have c2:=cel 2;have c3:=cel 3;have c4:=cel 4;simp only[List.getElem?_toArray,List.getElem?_cons_zero,List.getElem?_cons_succ] at c0 c1 c2 c3 c4;clear cel hR;have SO:Hid (∀W,Bw V W→(Bw V W∧W.cell? ⟨w.heap.size,3,none⟩=some (.int .i64 d)∧W.cell? ⟨w.heap.size,4,none⟩=some (.int .i64 e))):=fun W hW=>⟨hW,zAa hW c3,zAa hW c4⟩
 go_cut [3,4] from 8 to 13 (fun s3 s4 wx=>∃p q,s3=.pointer (some ⟨p,0,none⟩)∧s4=.pointer (some ⟨q,0,none⟩)∧Below V.heap.size V wx∧
  (wx.cell? ⟨p,0,none⟩=some (.int .i64 d)∧wx.cell? ⟨p,1,none⟩=some (.int .i64 0)∧wx.cell? ⟨p,2,none⟩=some (.int .i64 10000))∧
  (wx.cell? ⟨q,0,none⟩=some (.int .i64 e)∧wx.cell? ⟨q,1,none⟩=some (.int .i64 0)∧wx.cell? ⟨q,2,none⟩=some (.int .i64 10000)))
 case first=>
  go_region_held3 (fun W=>Below V.heap.size V W∧W.cell? ⟨w.heap.size,3,none⟩=some (.int .i64 d)∧W.cell? ⟨w.heap.size,4,none⟩=some (.int .i64 e))
   ((refine SO.out _ ?_;(with_reducible repeat' (first|assumption|refine bal ?_ _|refine Below.setCell ?_ ?_ _|refine Below.drew ?_|exact bzR _ _|exact nzR _|exact Below.size (by assumption)|refine jD ?_))))
   (first|(go_at_call 21;refine(of_V V _ _ _ _ ?_).mono ?_;(with_reducible repeat' (first|assumption|refine bal ?_ _|refine Below.setCell ?_ ?_ _|refine Below.drew ?_|exact bzR _ _|exact nzR _|exact Below.size (by assumption)|refine jD ?_));rintro x W ⟨rfl,Hm,hcn,hfn,bT⟩;(try simp only[World.size_alloc,World.size_drew] at bT hcn hfn);(try have hq0:V.heap.size<W.heap.size:=by first|exact bT _ (by with_reducible assumption)|exact bT _ (by omega));(try have hq1:V.heap.size+1<W.heap.size:=by first|exact bT _ (by with_reducible assumption)|exact bT _ (by omega))))
  all_goals (go_wp2_with fail;go_meet;case rel=>(clear SO c0 c1 c2 c3 c4 hV;refine⟨_,_,rfl,rfl,(by(with_reducible repeat' (first|assumption|refine bal ?_ _|refine Below.setCell ?_ ?_ _|refine Below.drew ?_|exact bzR _ _|exact nzR _|exact Below.size (by assumption)|refine jD ?_))),?_,?_⟩ <;>(refine⟨?_,?_,?_⟩ <;>first|(with_reducible refine ccp0 _ _ _ _ _ _ _ _ _ (by omega) ?_;simp[*,go_sem];done)|(with_reducible refine ccp1 _ _ _ _ _ _ _ _ _ (by omega) ?_;simp[*,go_sem];done)|(with_reducible refine ccp2 _ _ _ _ _ _ _ _ _ (by omega) ?_;simp[*,go_sem];done)|(with_reducible refine ccq0 _ _ _ _ _ _ _ _ _ (by omega) ?_;simp[*,go_sem];done)|(with_reducible refine ccq1 _ _ _ _ _ _ _ _ _ (by omega) ?_;simp[*,go_sem];done)|(with_reducible refine ccq2 _ _ _ _ _ _ _ _ _ (by omega) ?_;simp[*,go_sem];done)|(simp[*,go_sem];done))))
 case rest=>
  obtain⟨p,q,rfl,rfl,hb,⟨p0,p1,p2⟩,⟨q0,q1,q2⟩⟩:=hcut;have d0:=zAa hb c0;have d1:=zAa hb c1;have d2:=zAa hb c2;have d3:=zAa hb c3;have d4:=zAa hb c4;have hB:Bw w wc:=hV.trans (hb.mono hV.size);clear SO c0 c1 c2 c3 c4 hb hV hz;generalize hr:[(a,1,9999),(b,1,9),(c,1,10000),(d,0,10000),(e,0,10000)].any zAl=r;have HR:Hid ([(a,1,9999),(b,1,9),(c,1,10000),(d,0,10000),(e,0,10000)].any zAl=r):=hr;clear hr
  have SO:Hid (∀W,Bw wc W→(Bw wc W∧W.cell? ⟨w.heap.size,0,none⟩=some (.int .i64 a)∧W.cell? ⟨w.heap.size,1,none⟩=some (.int .i64 b)∧W.cell? ⟨w.heap.size,2,none⟩=some (.int .i64 c)∧W.cell? ⟨p,0,none⟩=some (.int .i64 d)∧W.cell? ⟨p,1,none⟩=some (.int .i64 0)∧W.cell? ⟨p,2,none⟩=some (.int .i64 10000)∧W.cell? ⟨q,0,none⟩=some (.int .i64 e)∧W.cell? ⟨q,1,none⟩=some (.int .i64 0)∧W.cell? ⟨q,2,none⟩=some (.int .i64 10000))):=fun W hW=>⟨hW,zAa hW d0,zAa hW d1,zAa hW d2,zAa hW p0,zAa hW p1,zAa hW p2,zAa hW q0,zAa hW q1,zAa hW q2⟩
  go_upto_region 2 with fail
  go_region_held3 (fun W=>Below wc.heap.size wc W∧W.cell? ⟨w.heap.size,0,none⟩=some (.int .i64 a)∧W.cell? ⟨w.heap.size,1,none⟩=some (.int .i64 b)∧W.cell? ⟨w.heap.size,2,none⟩=some (.int .i64 c)∧W.cell? ⟨p,0,none⟩=some (.int .i64 d)∧W.cell? ⟨p,1,none⟩=some (.int .i64 0)∧W.cell? ⟨p,2,none⟩=some (.int .i64 10000)∧W.cell? ⟨q,0,none⟩=some (.int .i64 e)∧W.cell? ⟨q,1,none⟩=some (.int .i64 0)∧W.cell? ⟨q,2,none⟩=some (.int .i64 10000))
   ((refine SO.out _ ?_;(with_reducible repeat' (first|assumption|refine bal ?_ _|refine Below.setCell ?_ ?_ _|refine Below.drew ?_|exact bzR _ _|exact nzR _|exact Below.size (by assumption)|refine jD ?_))))
   (first|(go_at_call 72;refine(id_V wc _ _ ?_).mono ?_;(with_reducible repeat' (first|assumption|refine bal ?_ _|refine Below.setCell ?_ ?_ _|refine Below.drew ?_|exact bzR _ _|exact nzR _|exact Below.size (by assumption)|refine jD ?_));rintro x W ⟨rfl,Hm⟩)|(go_at_call 106;refine(who_V wc _ _ ?_).mono ?_;(with_reducible repeat' (first|assumption|refine bal ?_ _|refine Below.setCell ?_ ?_ _|refine Below.drew ?_|exact bzR _ _|exact nzR _|exact Below.size (by assumption)|refine jD ?_));rintro x W ⟨rfl,Hm⟩)|(go_at_call 75;refine(qty_V wc _ _ ?_).mono ?_;(with_reducible repeat' (first|assumption|refine bal ?_ _|refine Below.setCell ?_ ?_ _|refine Below.drew ?_|exact bzR _ _|exact nzR _|exact Below.size (by assumption)|refine jD ?_));rintro x W ⟨rfl,Hm⟩)|(go_at_call 11;refine(scheck5 r _ _ _ _ _ _ _ _ _ _ _ _ _ _ _ _ _ rfl HR.out).mono ?_;rintro x W2 ⟨rfl,GB⟩;have Hm:=Below.trans (by with_reducible assumption) (GB.mono (Below.size (by with_reducible assumption)))))
  have hW:Bw w W2:=hB.trans (Hm.mono hB.size);have f2:=zAa Hm d2;have f3:=zAa Hm d3;have f4:=zAa Hm d4;have HW:Hid (Bw w W2):=hW;have HG:Hid ((!zBM ⟨a,b,c,d,e⟩)=r):=(zKD a b c d e).symm.trans HR.out;clear SO hW hB HR GB Hm d0 d1 d2 d3 d4 p0 p1 p2 q0 q1 q2;cases r
  ·have hg:zBM ⟨a,b,c,d,e⟩=true:=by have:=HG.out;simpa using this
   have Uw:Hid (k=if ((!(decide (e=0) && !decide (d=0))) && (!((!decide (e=0)) && decide (e<c))))=true then 0 else 3):=HK.out.symm.trans (zKE hg)
   clear hg HG HK;simp only[show errV (zAd false)=.nilIface from rfl]
   by_cases e0:e=0
   ·subst e0;by_cases d0:d=0
    ·subst d0;go_wp2_with fail;go_ret;exact⟨by rw[Uw.out];rfl,HW.out⟩
    ·have d1:(d != 0)=true:=(by simp[d0]);go_wp2_with fail;go_ret;exact⟨by rw[Uw.out];simp[d0];rfl,HW.out⟩
   ·have e1:(e != 0)=true:=(by simp[e0]);have e2:(e == 0)=false:=(by simp[e0]);by_cases ec:e<c
    ·go_wp2_with fail;go_ret;exact⟨by rw[Uw.out];simp[e0,ec];rfl,HW.out⟩
    ·go_wp2_with fail;go_ret;exact⟨by rw[Uw.out];simp[e0,ec];rfl,HW.out⟩
  ·have hg:zBM ⟨a,b,c,d,e⟩=false:=by have:=HG.out;simpa using this
   have Uw:Hid (k=1):=HK.out.symm.trans (zNy hg);clear hg HG HK;simp only[show errV (zAd true)=.iface 90 (.int .i64 1) from rfl]
   go_wp2_with fail;go_ret;exact⟨by rw[Uw.out];rfl,HW.out⟩
end que
end Go.Proofs.YtnfilcpnneckkaaGreat
