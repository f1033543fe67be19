import Derived.Test.YtmhcghgfpfainaaGreatDoorTickP
set_option maxHeartbeats 1000000
set_option maxRecDepth 100000
namespace Go.Proofs.YtmhcghgfpfainaaGreatDoor
open Tryz
namespace que
structure R where
 id:Int
 who:Int
 qty:Int
 hid:Int
 shw:Int
deriving DecidableEq,Inhabited
structure F where
 id:Int
 who:Int
 qty:Int
deriving DecidableEq,Inhabited
def inB(n lo hi:Int):Bool:=decide (lo≤n) && decide (n≤hi)
def zBL(r:R):Bool:=inB r.id 1 9999 && inB r.who 1 9 && inB r.qty 1 10000 && inB r.hid 0 10000 && inB r.shw 0 10000
def shapeB(r:R):Bool:=(!(decide (r.shw=0) && !decide (r.hid=0))) && (!((!decide (r.shw=0)) && decide (r.shw<r.qty)))
def rchk(r:R):Int:=if zBL r=true then (if shapeB r=true then 0 else 3) else 1
def idx(id:Int):List R→Int
 | []=>-1
 | r::t=>if r.id=id then 0 else if idx id t<0 then -1 else idx id t+1
def has(id:Int)(zs:List R):Bool:=zs.any (fun r=>decide (r.id=id))
def bchk(ahead:List R)(r:R):Int:=if rchk r=0 then (if has r.id ahead=true then 7 else 0) else rchk r
def qgo(ahead:List R):List R→Int
 | []=>0
 | r::t=>if bchk ahead r=0 then qgo (ahead++[r]) t else bchk ahead r
def qchk(zs:List R):Int:=if 60<zs.length then 4 else qgo [] zs
def tot:List R→Int
 | []=>0
 | r::t=>r.qty+r.hid+tot t
def tk1(k:Int)(r:R)(t:List R):List R:=
 if k<r.qty then { r with qty:=r.qty - k }::t
 else if r.hid=0 then t
 else t++[{ r with qty:=min r.shw r.hid,hid:=r.hid - min r.shw r.hid }]
def tk:Nat→Int→List R→List F × List R
 | 0,_,zs=>([],zs)
 | _+1,_,[]=>([],[])
 | f+1,n,r::t=>if n≤0 then ([],r::t) else
   (⟨r.id,r.who,min n r.qty⟩::(tk f (n - min n r.qty) (tk1 (min n r.qty) r t)).1,(tk f (n - min n r.qty) (tk1 (min n r.qty) r t)).2)
def take(n:Int)(zs:List R):List F × List R:=tk n.toNat n zs
theorem wAS(id:Int)(zs:List R) : -1≤idx id zs:=by
 induction zs with
 | nil=>simp[idx]
 | cons r t ih=>unfold idx;split;omega;split <;>omega
theorem wBe(id:Int)(zs:List R):idx id zs<zs.length:=by
 induction zs with
 | nil=>simp[idx]
 | cons r t ih=>unfold idx;rw[jG];split;omega;split <;>omega
theorem wAL(id:Int)(r:R)(t:List R):idx id (r::t)=if r.id=id then 0 else if idx id t<0 then -1 else idx id t+1:=rfl
theorem zKR(id:Int)(zs:List R):has id zs=decide (0≤idx id zs):=by
 induction zs with
 | nil=>rfl
 | cons r t ih=>
  have e:has id (r::t)=(decide (r.id=id) || has id t):=rfl;have:=wAS id t;rw[e,ih,wAL];by_cases h:r.id=id
  ·rw[if_pos h,decide_eq_true h];rfl
  ·rw[if_neg h,decide_eq_false h,Bool.false_or];by_cases h2:idx id t<0
   ·rw[if_pos h2,decide_eq_false (by omega)];rfl
   ·rw[if_neg h2,decide_eq_true (show 0≤idx id t by omega),decide_eq_true (show 0≤idx id t+1 by omega)]
theorem zKS(n lo hi:Int):inB n lo hi=true↔lo≤n∧n≤hi:=by simp[inB]
theorem zAp{r:R}(h:rchk r=0):(1≤r.qty∧r.qty≤10000)∧(0≤r.hid∧r.hid≤10000)∧(0≤r.shw∧r.shw≤10000)∧(r.shw=0→r.hid=0)∧(r.shw≠0→r.qty≤r.shw)∧(1≤r.id∧r.id≤9999)∧(1≤r.who∧r.who≤9):=by
 unfold rchk at h;by_cases h1:zBL r=true
 ·rw[if_pos h1] at h;by_cases h2:shapeB r=true
  ·simp only[zBL,Bool.and_eq_true,zKS] at h1;simp only[shapeB,Bool.and_eq_true,Bool.not_eq_true',Bool.and_eq_false_iff,decide_eq_false_iff_not,Bool.not_eq_false',decide_eq_true_eq] at h2;obtain⟨⟨⟨⟨h3,h4⟩,h5⟩,h6⟩,h7⟩:=h1;obtain⟨h8,h9⟩:=h2;refine⟨h5,h6,h7,?_,?_,h3,h4⟩
   ·intro e;rcases h8 with h8|h8;exact absurd e h8;exact h8
   ·intro e;rcases h9 with h9|h9;exact absurd h9 e;omega
  ·rw[if_neg h2] at h;cases h
 ·rw[if_neg h1] at h;cases h
theorem zHM{r:R}(h:(1≤r.qty∧r.qty≤10000)∧(0≤r.hid∧r.hid≤10000)∧(0≤r.shw∧r.shw≤10000)∧(r.shw=0→r.hid=0)∧(r.shw≠0→r.qty≤r.shw)∧(1≤r.id∧r.id≤9999)∧(1≤r.who∧r.who≤9)):rchk r=0:=by
 obtain⟨h5,h6,h7,ha,hb,h3,h4⟩:=h;have h1:zBL r=true:=by
  simp only[zBL,Bool.and_eq_true,zKS];exact⟨⟨⟨⟨h3,h4⟩,h5⟩,h6⟩,h7⟩
 have h2:shapeB r=true:=by
  simp only[shapeB,Bool.and_eq_true,Bool.not_eq_true',Bool.and_eq_false_iff,decide_eq_false_iff_not,Bool.not_eq_false',decide_eq_true_eq];constructor
  ·by_cases e:r.shw=0
   ·right;exact ha e
   ·left;exact e
  ·by_cases e:r.shw=0
   ·left;exact e
   ·right;have:=hb e;omega
 unfold rchk;rw[if_pos h1,if_pos h2]
theorem zGw{ahead:List R}{r:R}:bchk ahead r=0↔rchk r=0∧has r.id ahead=false:=by
 unfold bchk;by_cases h:rchk r=0
 ·rw[if_pos h];cases h2:has r.id ahead <;>simp[h]
 ·rw[if_neg h];constructor
  ·intro e;exact absurd e h
  ·intro e;exact absurd e.1 h
def Good(zs:List R):Prop:=(∀r∈zs,rchk r=0)∧(zs.map (·.id)).Nodup
theorem zDY(id:Int)(zs:List R):has id zs=false↔id ∉ zs.map (·.id):=by
 unfold has;rw[List.any_eq_false];simp only[decide_eq_true_eq,List.mem_map,not_exists,not_and]
theorem zNR(t ahead:List R)(h:Good ahead):qgo ahead t=0↔Good (ahead++t):=by
 induction t generalizing ahead with
 | nil=>simp[qgo,h]
 | cons r t ih=>
  unfold qgo;by_cases hb:bchk ahead r=0
  ·rw[if_pos hb];obtain⟨h1,h2⟩:=zGw.1 hb;rw[zDY] at h2;have hg:Good (ahead++[r]):=by
    refine⟨?_,?_⟩
    ·intro x hx;rcases List.mem_append.1 hx with hx|hx
     ·exact h.1 x hx
     ·rw[List.mem_singleton] at hx;rw[hx];exact h1
    ·rw[jF,List.nodup_append];refine⟨h.2,by simp,?_⟩
     intro a ha b hb e;simp at hb;rw[e,hb] at ha;exact h2 ha
   rw[ih _ hg,jS];rfl
  ·rw[if_neg hb];constructor
   ·intro e;exact absurd e hb
   ·intro hg;exfalso;apply hb;rw[zGw,zDY];refine⟨hg.1 r (by simp),?_⟩
    have:=hg.2;rw[jF,List.nodup_append] at this;intro hm;exact this.2.2 r.id hm r.id (by simp) rfl
theorem zAm(zs:List R):qchk zs=0↔zs.length≤60∧Good zs:=by
 unfold qchk;by_cases h:60<zs.length
 ·rw[if_pos h];constructor
  ·intro e;cases e
  ·intro e;omega
 ·rw[if_neg h,zNR zs [] ⟨by simp,by simp⟩]
  rw[jU];exact⟨fun e=>⟨by omega,e⟩,fun e=>e.2⟩
theorem zGx{r:R}{t:List R}(h:Good (r::t)):Good t:=⟨fun x hx=>h.1 x (by simp[hx]),by have:=h.2;simp at this;simpa using this.2⟩
theorem zGy{r r' : R}{t:List R}(h:Good (r::t))(hi:r'.id=r.id)(hr:rchk r'=0):Good (r'::t):=by
 refine⟨?_,?_⟩
 ·intro x hx;rcases List.mem_cons.1 hx with rfl|hx
  ·exact hr
  ·exact h.1 x (by simp[hx])
 ·have:=h.2;rw[jK] at this ⊢;rw[hi];exact this
theorem zKT{r:R}{t:List R}(h:Good (r::t)):Good (t++[r]):=by
 refine⟨?_,?_⟩
 ·intro x hx;rcases List.mem_append.1 hx with hx|hx
  ·exact h.1 x (by simp[hx])
  ·rw[List.mem_singleton] at hx;rw[hx];exact h.1 r (by simp)
 ·have:=h.2;rw[jK,List.nodup_cons] at this;rw[jF,List.nodup_append];refine⟨this.2,by simp,?_⟩
  intro a ha b hb e;simp at hb;rw[e,hb] at ha;exact this.1 ha
theorem zEY(a b:List R):tot (a++b)=tot a+tot b:=by
 induction a with
 | nil=>simp[tot]
 | cons r t ih=>rw[List.cons_append];simp only[tot];rw[ih];omega
theorem zBM{k:Int}{r:R}{t:List R}(h:Good (r::t))(h1:1≤k)(h2:k≤r.qty):Good (tk1 k r t)∧tot (tk1 k r t)=tot (r::t) - k∧(tk1 k r t).length≤(r::t).length:=by
 obtain⟨a1,a2,a3,a4,a5,a6,a7⟩:=zAp (h.1 r (by simp))
 unfold tk1;by_cases c1:k<r.qty
 ·rw[if_pos c1];refine⟨zGy h rfl (zHM ⟨⟨?_,?_⟩,a2,a3,a4,?_,a6,a7⟩),?_,?_⟩
  ·show 1≤r.qty - k;omega
  ·show r.qty - k≤10000;omega
  ·intro e;show r.qty - k≤r.shw;have:=a5 e;omega
  ·simp only[tot];omega
  ·simp
 ·rw[if_neg c1];have e:k=r.qty:=by omega
  by_cases c2:r.hid=0
  ·rw[if_pos c2];refine⟨zGx h,?_,by simp⟩
   simp only[tot];omega
  ·rw[if_neg c2];have s1:1≤r.shw:=by
    by_cases e0:r.shw=0
    ·exact absurd (a4 e0) c2
    ·omega
   have g:Good ({ r with qty:=min r.shw r.hid,hid:=r.hid - min r.shw r.hid }::t):=by
    refine zGy h rfl (zHM ⟨⟨?_,?_⟩,⟨?_,?_⟩,a3,?_,?_,a6,a7⟩)
    ·show 1≤min r.shw r.hid;omega
    ·show min r.shw r.hid≤10000;omega
    ·show 0≤r.hid - min r.shw r.hid;omega
    ·show r.hid - min r.shw r.hid≤10000;omega
    ·intro e0;have e1:r.shw=0:=e0;omega
    ·intro _;show min r.shw r.hid≤r.shw;omega
   refine⟨zKT g,?_,by simp⟩
   rw[zEY];simp only[tot];omega
theorem zDZ(f:Nat)(n:Int)(zs:List R)(h:n≤0):tk f n zs=([],zs):=by
 cases f with
 | zero=>rfl
 | succ f=>
  cases zs with
  | nil=>rfl
  | cons r t=>show (if n≤0 then _ else _)=_;rw[if_pos h]
theorem zKU(f:Nat)(n:Int):tk f n []=([],[]):=by cases f <;>rfl
theorem zHN(f:Nat)(n:Int)(r:R)(t:List R)(h:0<n):tk (f+1) n (r::t) =
  (⟨r.id,r.who,min n r.qty⟩::(tk f (n - min n r.qty) (tk1 (min n r.qty) r t)).1,(tk f (n - min n r.qty) (tk1 (min n r.qty) r t)).2):=by
 show (if n≤0 then _ else _)=_;rw[if_neg (by omega)]
theorem zQD(f:Nat):∀ (g:Nat) (n:Int) (zs:List R),n≤f→n≤g→Good zs→tk f n zs=tk g n zs:=by
 induction f with
 | zero=>intro g n zs h1 _ _;rw[zDZ _ _ _ (by omega),zDZ _ _ _ (by omega)]
 | succ f ih=>
  intro g n zs h1 h2 hg;by_cases h:n≤0
  ·rw[zDZ _ _ _ h,zDZ _ _ _ h]
  cases zs with
  | nil=>rw[zKU,zKU]
  | cons r t=>
   obtain⟨g,rfl⟩:∃g',g=g' + 1:=⟨g - 1,by omega⟩
   have hq:=(zAp (hg.1 r (by simp))).1
   rw[zHN f n r t (by omega),zHN g n r t (by omega),ih g _ _ (by omega) (by omega) (zBM hg (by omega) (by omega)).1]
theorem zBT(n:Int)(zs:List R)(h:n≤0):take n zs=([],zs):=zDZ _ _ _ h
theorem zDM(n:Int):take n []=([],[]):=zKU _ _
theorem zCS(n:Int)(r:R)(t:List R)(h:0<n)(hg:Good (r::t)):take n (r::t) =
  (⟨r.id,r.who,min n r.qty⟩::(take (n - min n r.qty) (tk1 (min n r.qty) r t)).1,(take (n - min n r.qty) (tk1 (min n r.qty) r t)).2):=by
 have hq:=(zAp (hg.1 r (by simp))).1
 have e:take n (r::t)=tk (n.toNat - 1+1) n (r::t):=by unfold take;rw[show n.toNat - 1+1=n.toNat by omega]
 rw[e,zHN _ _ _ _ h];have e2:=zQD (n.toNat - 1) (n - min n r.qty).toNat (n - min n r.qty) _ (by omega) (by omega) (zBM hg (show 1≤min n r.qty by omega) (by omega)).1
 rw[e2];rfl
def sum:List F→Int
 | []=>0
 | f::t=>f.qty+sum t
theorem zEZ(m:Nat):∀ (n:Int) (zs:List R),n≤m→Good zs→0≤n→
  Good (take n zs).2∧(take n zs).2.length≤zs.length∧sum (take n zs).1+tot (take n zs).2=tot zs∧sum (take n zs).1≤n∧(∀f∈(take n zs).1,1≤f.qty∧f.qty≤n)∧
  (sum (take n zs).1<n→(take n zs).2=[])∧(take n zs).1.length≤n.toNat∧0≤sum (take n zs).1:=by
 induction m with
 | zero=>
  intro n zs h hg h0;rw[zBT _ _ (by omega)]
  exact⟨hg,nzR _,by simp[sum],by simp[sum];omega,by simp,by simp[sum];omega,by simp,by simp[sum]⟩
 | succ m ih=>
  intro n zs h hg h0;by_cases hn:n≤0
  ·rw[zBT _ _ (by omega)]
   exact⟨hg,nzR _,by simp[sum],by simp[sum];omega,by simp,by simp[sum];omega,by simp,by simp[sum]⟩
  cases zs with
  | nil=>
   rw[zDM];exact⟨hg,nzR _,by simp[sum],by simp[sum];omega,by simp,by simp,by simp,by simp[sum]⟩
  | cons r t=>
   have hq:=(zAp (hg.1 r (by simp))).1
   obtain⟨g1,g2,g3⟩:=zBM hg (show 1≤min n r.qty by omega) (by omega)
   obtain⟨i1,i2,i3,i4,i5,i6,i7,i8⟩:=ih (n - min n r.qty) _ (by omega) g1 (by omega)
   rw[zCS n r t (by omega) hg]
   refine⟨i1,jM i2 g3,?_,?_,?_,?_,?_,?_⟩
   ·simp only[sum];omega
   ·simp only[sum];omega
   ·intro f hf;rcases List.mem_cons.1 hf with rfl|hf
    ·show 1≤min n r.qty∧min n r.qty≤n;omega
    ·have:=i5 f hf;omega
   ·simp only[sum];intro hs;exact i6 (by omega)
   ·simp only[jG];omega
   ·simp only[sum];omega
theorem zKV(zs:List R)(h:∀r∈zs,rchk r=0):0≤tot zs∧tot zs≤20000*(zs.length:Int):=by
 induction zs with
 | nil=>simp[tot]
 | cons r t ih=>
  obtain⟨i1,i2⟩:=ih (fun x hx=>h x (by simp[hx]))
  obtain⟨a1,a2,_⟩:=zAp (h r (by simp))
  simp only[tot,jG];omega
end que
namespace que
open Go.RowKit spn
def rV(r:R):List Value:=[.int .i64 r.id,.int .i64 r.who,.int .i64 r.qty,.int .i64 r.hid,.int .i64 r.shw]
theorem bal{V W:World}(h:Bw V W)(o:Obj):Bw V (W.alloc o):=h.alloc h.size o
structure Kept (V W W' : World):Prop where
 far:Bw V W'
 cel:∀b o,b<W.heap.size→W'.cell? ⟨b,o,none⟩=W.cell? ⟨b,o,none⟩
 fro:∀b o,b<W.heap.size→W'.frozen? ⟨b,o,none⟩=W.frozen? ⟨b,o,none⟩
 siz:∀b,b<W.heap.size→b<W'.heap.size
theorem kept{V W W' : World}(h:Bw V W)(h' : Bw W W'):Kept V W W':=
 ⟨h.trans (h'.mono h.size),fun b o hb=>h'.cell (p:=⟨b,o,none⟩) hb,fun b o hb=>h'.frozen (p:=⟨b,o,none⟩) hb,fun _ hb=>jC hb h'.size⟩
theorem p30(W:World)(p:Nat)(x y z:Value)(h:(W.cell? ⟨p,0,none⟩).isSome=true) :
  (((W.setCell ⟨p,0,none⟩ x).setCell ⟨p,1,none⟩ y).setCell ⟨p,2,none⟩ z).cell? ⟨p,0,none⟩=some x:=by
 rw[World.cell?_setCell_other _ _ _ _ (by simp),World.cell?_setCell_other _ _ _ _ (by simp),World.cell?_setCell_same' _ _ _ h]
theorem p31(W:World)(p:Nat)(x y z:Value)(h:(W.cell? ⟨p,1,none⟩).isSome=true) :
  (((W.setCell ⟨p,0,none⟩ x).setCell ⟨p,1,none⟩ y).setCell ⟨p,2,none⟩ z).cell? ⟨p,1,none⟩=some y:=by
 rw[World.cell?_setCell_other _ _ _ _ (by simp),World.cell?_setCell_same' _ _ _ (by rw[World.cell?_setCell_other _ _ _ _ (by simp)];exact h)]
theorem p32(W:World)(p:Nat)(x y z:Value)(h:(W.cell? ⟨p,2,none⟩).isSome=true) :
  (((W.setCell ⟨p,0,none⟩ x).setCell ⟨p,1,none⟩ y).setCell ⟨p,2,none⟩ z).cell? ⟨p,2,none⟩=some z:=by
 rw[World.cell?_setCell_same' _ _ _ (by rw[World.cell?_setCell_other _ _ _ _ (by simp),World.cell?_setCell_other _ _ _ _ (by simp)];exact h)]
theorem p3far(W:World)(p b o:Nat)(x y z:Value)(h:b<p∨p<b) :
  (((W.setCell ⟨p,0,none⟩ x).setCell ⟨p,1,none⟩ y).setCell ⟨p,2,none⟩ z).cell? ⟨b,o,none⟩=W.cell? ⟨b,o,none⟩:=by
 have hn:p≠b:=by omega
 rw[World.cell?_setCell_far _ _ _ _ hn,World.cell?_setCell_far _ _ _ _ hn,World.cell?_setCell_far _ _ _ _ hn]
theorem ccp0(W:World)(p q:Nat)(x y z x' y' z' : Value)(h:p<q∨q<p)(hp:(W.cell? ⟨p,0,none⟩).isSome=true) :
  ((((((W.setCell ⟨p,0,none⟩ x).setCell ⟨p,1,none⟩ y).setCell ⟨p,2,none⟩ z).setCell ⟨q,0,none⟩ x').setCell ⟨q,1,none⟩ y').setCell ⟨q,2,none⟩ z').cell? ⟨p,0,none⟩=some x:=by
 rw[p3far _ _ _ _ _ _ _ h,p30 _ _ _ _ _ hp]
theorem ccq0(W:World)(p q:Nat)(x y z x' y' z' : Value)(h:p<q∨q<p)(hq:(W.cell? ⟨q,0,none⟩).isSome=true) :
  ((((((W.setCell ⟨p,0,none⟩ x).setCell ⟨p,1,none⟩ y).setCell ⟨p,2,none⟩ z).setCell ⟨q,0,none⟩ x').setCell ⟨q,1,none⟩ y').setCell ⟨q,2,none⟩ z').cell? ⟨q,0,none⟩=some x':=by
 rw[p30];rw[p3far _ _ _ _ _ _ _ (by omega)];exact hq
theorem ccp1(W:World)(p q:Nat)(x y z x' y' z' : Value)(h:p<q∨q<p)(hp:(W.cell? ⟨p,1,none⟩).isSome=true) :
  ((((((W.setCell ⟨p,0,none⟩ x).setCell ⟨p,1,none⟩ y).setCell ⟨p,2,none⟩ z).setCell ⟨q,0,none⟩ x').setCell ⟨q,1,none⟩ y').setCell ⟨q,2,none⟩ z').cell? ⟨p,1,none⟩=some y:=by
 rw[p3far _ _ _ _ _ _ _ h,p31 _ _ _ _ _ hp]
theorem ccq1(W:World)(p q:Nat)(x y z x' y' z' : Value)(h:p<q∨q<p)(hq:(W.cell? ⟨q,1,none⟩).isSome=true) :
  ((((((W.setCell ⟨p,0,none⟩ x).setCell ⟨p,1,none⟩ y).setCell ⟨p,2,none⟩ z).setCell ⟨q,0,none⟩ x').setCell ⟨q,1,none⟩ y').setCell ⟨q,2,none⟩ z').cell? ⟨q,1,none⟩=some y':=by
 rw[p31];rw[p3far _ _ _ _ _ _ _ (by omega)];exact hq
theorem ccp2(W:World)(p q:Nat)(x y z x' y' z' : Value)(h:p<q∨q<p)(hp:(W.cell? ⟨p,2,none⟩).isSome=true) :
  ((((((W.setCell ⟨p,0,none⟩ x).setCell ⟨p,1,none⟩ y).setCell ⟨p,2,none⟩ z).setCell ⟨q,0,none⟩ x').setCell ⟨q,1,none⟩ y').setCell ⟨q,2,none⟩ z').cell? ⟨p,2,none⟩=some z:=by
 rw[p3far _ _ _ _ _ _ _ h,p32 _ _ _ _ _ hp]
theorem ccq2(W:World)(p q:Nat)(x y z x' y' z' : Value)(h:p<q∨q<p)(hq:(W.cell? ⟨q,2,none⟩).isSome=true) :
  ((((((W.setCell ⟨p,0,none⟩ x).setCell ⟨p,1,none⟩ y).setCell ⟨p,2,none⟩ z).setCell ⟨q,0,none⟩ x').setCell ⟨q,1,none⟩ y').setCell ⟨q,2,none⟩ z').cell? ⟨q,2,none⟩=some z':=by
 rw[p32];rw[p3far _ _ _ _ _ _ _ (by omega)];exact hq
theorem of_V(V:World)(n lo hi:Int)(w:World)(h:Bw V w) :
  Calls prog 40 #[.int .i64 n,.int .i64 lo,.int .i64 hi] w fun e w'=>e=.returned (.agg #[.int .i64 n,.int .i64 lo,.int .i64 hi])∧Kept V w w':=
 (zBp n lo hi w).mono fun _ _ h'=>⟨h'.1,kept h h'.2⟩
theorem id_V(V:World)(n:Int)(w:World)(h:Bw V w) :
  Calls prog 52 #[.int .i64 n] w fun e w'=>e=.returned (.agg #[.int .i64 n,.int .i64 1,.int .i64 9999])∧Bw V w':=
 (zGt n w).mono fun _ _ h'=>⟨h'.1,h.trans (h'.2.mono h.size)⟩
theorem who_V(V:World)(n:Int)(w:World)(h:Bw V w) :
  Calls prog 79 #[.int .i64 n] w fun e w'=>e=.returned (.agg #[.int .i64 n,.int .i64 1,.int .i64 9])∧Bw V w':=
 (zCj n w).mono fun _ _ h'=>⟨h'.1,h.trans (h'.2.mono h.size)⟩
theorem qty_V(V:World)(n:Int)(w:World)(h:Bw V w) :
  Calls prog 81 #[.int .i64 n] w fun e w'=>e=.returned (.agg #[.int .i64 n,.int .i64 1,.int .i64 10000])∧Bw V w':=
 (zAS n w).mono fun _ _ h'=>⟨h'.1,h.trans (h'.2.mono h.size)⟩
theorem zKW(a b c d e:Int):[(a,1,9999),(b,1,9),(c,1,10000),(d,0,10000),(e,0,10000)].any zAo = !zBL ⟨a,b,c,d,e⟩:=by
 rw[Bool.eq_iff_iff];simp[zAo,zBL,inB];omega
theorem zNS{a b c d e:Int}(h:zBL ⟨a,b,c,d,e⟩=false):rchk ⟨a,b,c,d,e⟩=1:=by unfold rchk;rw[h];rfl
theorem zKX{a b c d e:Int}(h:zBL ⟨a,b,c,d,e⟩=true):rchk ⟨a,b,c,d,e⟩=if ((!(decide (e=0) && !decide (d=0))) && (!((!decide (e=0)) && decide (e<c))))=true then 0 else 3:=by unfold rchk;rw[if_pos h];rfl
theorem zCT(a b c d e:Int)(w:World) :
  Calls prog 179 #[.agg #[.int .i64 a,.int .i64 b,.int .i64 c,.int .i64 d,.int .i64 e]] w
   fun x w'=>x=.returned (errV (rchk ⟨a,b,c,d,e⟩))∧Bw w w':=by
 generalize hk:rchk ⟨a,b,c,d,e⟩=k;have HK:Hid (rchk ⟨a,b,c,d,e⟩=k):=hk;clear hk;go_enter func179,ntmps179;go_upto_region 1 with fail
 have hV:Bw w (w.alloc (.cells #[.int .i64 a,.int .i64 b,.int .i64 c,.int .i64 d,.int .i64 e] 54)):=(bzR _ _).alloc (nzR _) _;have hR:=jA w (.cells #[.int .i64 a,.int .i64 b,.int .i64 c,.int .i64 d,.int .i64 e] 54);have hz:w.heap.size<(w.alloc (.cells #[.int .i64 a,.int .i64 b,.int .i64 c,.int .i64 d,.int .i64 e] 54)).heap.size:=by simp
 generalize w.alloc (.cells #[.int .i64 a,.int .i64 b,.int .i64 c,.int .i64 d,.int .i64 e] 54)=V at *;have cel:∀i,V.cell? ⟨w.heap.size,i,none⟩=(#[.int .i64 a,.int .i64 b,.int .i64 c,.int .i64 d,.int .i64 e]:Array Value)[i]?:=fun i=>by simp[World.cell?,hR]
 have c0:=cel 0;have c1:=cel 1;have c2:=cel 2;have c3:=cel 3;have c4:=cel 4;simp only[List.getElem?_toArray,List.getElem?_cons_zero,List.getElem?_cons_succ] at c0 c1 c2 c3 c4;clear cel hR;have SO:Hid (∀W,Bw V W→(Bw V W∧W.cell? ⟨w.heap.size,3,none⟩=some (.int .i64 d)∧W.cell? ⟨w.heap.size,4,none⟩=some (.int .i64 e))):=fun W hW=>⟨hW,zAa hW c3,zAa hW c4⟩
 go_cut [3,4] from 8 to 13 (fun s3 s4 wx=>∃p q,s3=.pointer (some ⟨p,0,none⟩)∧s4=.pointer (some ⟨q,0,none⟩)∧Below V.heap.size V wx∧
  (wx.cell? ⟨p,0,none⟩=some (.int .i64 d)∧wx.cell? ⟨p,1,none⟩=some (.int .i64 0)∧wx.cell? ⟨p,2,none⟩=some (.int .i64 10000))∧
  (wx.cell? ⟨q,0,none⟩=some (.int .i64 e)∧wx.cell? ⟨q,1,none⟩=some (.int .i64 0)∧wx.cell? ⟨q,2,none⟩=some (.int .i64 10000)))
 case first=>
  go_region_held3 (fun W=>Below V.heap.size V W∧W.cell? ⟨w.heap.size,3,none⟩=some (.int .i64 d)∧W.cell? ⟨w.heap.size,4,none⟩=some (.int .i64 e))
   ((refine SO.out _ ?_;(with_reducible repeat' (first|assumption|refine bal ?_ _|refine Below.setCell ?_ ?_ _|refine Below.drew ?_|exact bzR _ _|exact nzR _|exact Below.size (by assumption)|refine jD ?_))))
   (first|(go_at_call 40;refine(of_V V _ _ _ _ ?_).mono ?_;(with_reducible repeat' (first|assumption|refine bal ?_ _|refine Below.setCell ?_ ?_ _|refine Below.drew ?_|exact bzR _ _|exact nzR _|exact Below.size (by assumption)|refine jD ?_));rintro x W ⟨rfl,Hp,Em,Et,MZ⟩;(try simp only[World.size_alloc,World.size_drew] at MZ Em Et);(try have hq0:V.heap.size<W.heap.size:=by first|exact MZ _ (by with_reducible assumption)|exact MZ _ (by omega));(try have hq1:V.heap.size+1<W.heap.size:=by first|exact MZ _ (by with_reducible assumption)|exact MZ _ (by omega))))
  all_goals (go_wp2_with fail;go_meet;case rel=>(clear SO c0 c1 c2 c3 c4 hV;refine⟨_,_,rfl,rfl,(by(with_reducible repeat' (first|assumption|refine bal ?_ _|refine Below.setCell ?_ ?_ _|refine Below.drew ?_|exact bzR _ _|exact nzR _|exact Below.size (by assumption)|refine jD ?_))),?_,?_⟩ <;>(refine⟨?_,?_,?_⟩ <;>first|(with_reducible refine ccp0 _ _ _ _ _ _ _ _ _ (by omega) ?_;simp[*,go_sem];done)|(with_reducible refine ccp1 _ _ _ _ _ _ _ _ _ (by omega) ?_;simp[*,go_sem];done)|(with_reducible refine ccp2 _ _ _ _ _ _ _ _ _ (by omega) ?_;simp[*,go_sem];done)|(with_reducible refine ccq0 _ _ _ _ _ _ _ _ _ (by omega) ?_;simp[*,go_sem];done)|(with_reducible refine ccq1 _ _ _ _ _ _ _ _ _ (by omega) ?_;simp[*,go_sem];done)|(with_reducible refine ccq2 _ _ _ _ _ _ _ _ _ (by omega) ?_;simp[*,go_sem];done)|(simp[*,go_sem];done))))
 case rest=>
  obtain⟨p,q,rfl,rfl,hb,⟨p0,p1,p2⟩,⟨q0,q1,q2⟩⟩:=hcut;have d0:=zAa hb c0;have d1:=zAa hb c1;have d2:=zAa hb c2;have d3:=zAa hb c3;have d4:=zAa hb c4;have hB:Bw w wc:=hV.trans (hb.mono hV.size);clear SO c0 c1 c2 c3 c4 hb hV hz;generalize hr:[(a,1,9999),(b,1,9),(c,1,10000),(d,0,10000),(e,0,10000)].any zAo=r;have HR:Hid ([(a,1,9999),(b,1,9),(c,1,10000),(d,0,10000),(e,0,10000)].any zAo=r):=hr;clear hr
  have SO:Hid (∀W,Bw wc W→(Bw wc W∧W.cell? ⟨w.heap.size,0,none⟩=some (.int .i64 a)∧W.cell? ⟨w.heap.size,1,none⟩=some (.int .i64 b)∧W.cell? ⟨w.heap.size,2,none⟩=some (.int .i64 c)∧W.cell? ⟨p,0,none⟩=some (.int .i64 d)∧W.cell? ⟨p,1,none⟩=some (.int .i64 0)∧W.cell? ⟨p,2,none⟩=some (.int .i64 10000)∧W.cell? ⟨q,0,none⟩=some (.int .i64 e)∧W.cell? ⟨q,1,none⟩=some (.int .i64 0)∧W.cell? ⟨q,2,none⟩=some (.int .i64 10000))):=fun W hW=>⟨hW,zAa hW d0,zAa hW d1,zAa hW d2,zAa hW p0,zAa hW p1,zAa hW p2,zAa hW q0,zAa hW q1,zAa hW q2⟩
  go_upto_region 2 with fail
  go_region_held3 (fun W=>Below wc.heap.size wc W∧W.cell? ⟨w.heap.size,0,none⟩=some (.int .i64 a)∧W.cell? ⟨w.heap.size,1,none⟩=some (.int .i64 b)∧W.cell? ⟨w.heap.size,2,none⟩=some (.int .i64 c)∧W.cell? ⟨p,0,none⟩=some (.int .i64 d)∧W.cell? ⟨p,1,none⟩=some (.int .i64 0)∧W.cell? ⟨p,2,none⟩=some (.int .i64 10000)∧W.cell? ⟨q,0,none⟩=some (.int .i64 e)∧W.cell? ⟨q,1,none⟩=some (.int .i64 0)∧W.cell? ⟨q,2,none⟩=some (.int .i64 10000))
   ((refine SO.out _ ?_;(with_reducible repeat' (first|assumption|refine bal ?_ _|refine Below.setCell ?_ ?_ _|refine Below.drew ?_|exact bzR _ _|exact nzR _|exact Below.size (by assumption)|refine jD ?_))))
   (first|(go_at_call 52;refine(id_V wc _ _ ?_).mono ?_;(with_reducible repeat' (first|assumption|refine bal ?_ _|refine Below.setCell ?_ ?_ _|refine Below.drew ?_|exact bzR _ _|exact nzR _|exact Below.size (by assumption)|refine jD ?_));rintro x W ⟨rfl,Hp⟩)|(go_at_call 79;refine(who_V wc _ _ ?_).mono ?_;(with_reducible repeat' (first|assumption|refine bal ?_ _|refine Below.setCell ?_ ?_ _|refine Below.drew ?_|exact bzR _ _|exact nzR _|exact Below.size (by assumption)|refine jD ?_));rintro x W ⟨rfl,Hp⟩)|(go_at_call 81;refine(qty_V wc _ _ ?_).mono ?_;(with_reducible repeat' (first|assumption|refine bal ?_ _|refine Below.setCell ?_ ?_ _|refine Below.drew ?_|exact bzR _ _|exact nzR _|exact Below.size (by assumption)|refine jD ?_));rintro x W ⟨rfl,Hp⟩)|(go_at_call 17;refine(scheck5 r _ _ _ _ _ _ _ _ _ _ _ _ _ _ _ _ _ rfl HR.out).mono ?_;rintro x W2 ⟨rfl,GL⟩;have Hp:=Below.trans (by with_reducible assumption) (GL.mono (Below.size (by with_reducible assumption)))))
  have hW:Bw w W2:=hB.trans (Hp.mono hB.size);have f2:=zAa Hp d2;have f3:=zAa Hp d3;have f4:=zAa Hp d4;have HW:Hid (Bw w W2):=hW;have HG:Hid ((!zBL ⟨a,b,c,d,e⟩)=r):=(zKW a b c d e).symm.trans HR.out;clear SO hW hB HR GL Hp d0 d1 d2 d3 d4 p0 p1 p2 q0 q1 q2;cases r
  ·have hg:zBL ⟨a,b,c,d,e⟩=true:=by have:=HG.out;simpa using this
   have Uv:Hid (k=if ((!(decide (e=0) && !decide (d=0))) && (!((!decide (e=0)) && decide (e<c))))=true then 0 else 3):=HK.out.symm.trans (zKX hg)
   clear hg HG HK;simp only[show errV (zAg false)=.nilIface from rfl]
   by_cases e0:e=0
   ·subst e0;by_cases d0:d=0
    ·subst d0;go_wp2_with fail;go_ret;exact⟨by rw[Uv.out];rfl,HW.out⟩
    ·have d1:(d != 0)=true:=(by simp[d0]);go_wp2_with fail;go_ret;exact⟨by rw[Uv.out];simp[d0];rfl,HW.out⟩
   ·have e1:(e != 0)=true:=(by simp[e0]);have e2:(e == 0)=false:=(by simp[e0]);by_cases ec:e<c
    ·go_wp2_with fail;go_ret;exact⟨by rw[Uv.out];simp[e0,ec];rfl,HW.out⟩
    ·go_wp2_with fail;go_ret;exact⟨by rw[Uv.out];simp[e0,ec];rfl,HW.out⟩
  ·have hg:zBL ⟨a,b,c,d,e⟩=false:=by have:=HG.out;simpa using this
   have Uv:Hid (k=1):=HK.out.symm.trans (zNS hg);clear hg HG HK;simp only[show errV (zAg true)=.iface 80 (.int .i64 1) from rfl]
   go_wp2_with fail;go_ret;exact⟨by rw[Uv.out];rfl,HW.out⟩
def Lies(w:World)(b o:Nat)(zs:List R):Prop:=∀j,j<zs.length→∀i v,(rV zs[j]!)[i]?=some v→w.cell? ⟨b,o+j*5+i,none⟩=some v
def SL(w:World)(v:Value)(zs:List R):Prop:=
 (v=.slice none 0 0∧zs=[])∨∃b o c,v=.slice (some ⟨b,o,none⟩) zs.length c∧zs.length≤c∧c≤9223372036854775807∧b<w.heap.size∧Lies w b o zs
theorem Lies.below{w w' : World}{b o:Nat}{zs:List R}(h:Lies w b o zs)(hb:b<w.heap.size)(hB:Bw w w'):Lies w' b o zs:=
 fun j hj i v hv=>(hB.cell (p:=⟨b,o+j*5+i,none⟩) hb).trans (h j hj i v hv)
theorem SL.below{w w' : World}{v:Value}{zs:List R}(h:SL w v zs)(hB:Bw w w'):SL w' v zs:=by
 rcases h with h|⟨b,o,c,h1,h2,h3,h4,h5⟩
 ·exact .inl h
 ·exact .inr ⟨b,o,c,h1,h2,h3,jC h4 hB.size,h5.below h4 hB⟩
theorem getE{α:Type}[Inhabited α](l:List α)(j:Nat)(h:j<l.length):l[j]! = l[j]:=by simp[h]
theorem Lies.take{w:World}{b o:Nat}{zs:List R}(h:Lies w b o zs)(n:Nat):Lies w b o (zs.take n):=by
 intro j hj i v hv;have Po:j<n∧j<zs.length:=by rw[jJ] at hj;omega
 have e:(zs.take n)[j]! = zs[j]!:=by
  rw[getE _ _ hj,getE _ _ Po.2,List.getElem_take]
 rw[e] at hv;exact h j Po.2 i v hv
theorem idxFrom(id:Int)(x:R)(zs:List R):∀i,Lib.idxByFrom (fun _ y=>decide (y.id=id)) x zs i=if idx id zs<0 then -1 else (i:Int)+idx id zs:=by
 induction zs with
 | nil=>intro i;rfl
 | cons r t ih=>
  intro i;have:=wAS id t;show (if decide (r.id=id)=true then (i:Int) else Lib.idxByFrom (fun _ y=>decide (y.id=id)) x t (i+1))=_
  rw[ih,wAL];by_cases h:r.id=id
  ·rw[if_pos (decide_eq_true h),if_pos h,if_neg (by omega),Int.add_zero]
  ·rw[if_neg (by simpa using h),if_neg h]
   by_cases h2:idx id t<0
   ·rw[if_pos h2,if_pos h2,if_pos (by omega)]
   ·rw[if_neg h2,if_neg h2,if_neg (by omega)];omega
theorem wAK(id:Int)(x:R)(zs:List R):Lib.idxBy (fun _ y=>decide (y.id=id)) zs x=idx id zs:=by
 have:=wAS id zs;unfold Lib.idxBy;rw[idxFrom];split <;>omega
theorem wAP(id:Int)(B:Nat)(w:World)(hB:B<w.heap.size)(hc:w.cell? ⟨B,0,none⟩=some (.int .i64 id)) :
  PredBelow prog 189 #[.pointer (some ⟨B,0,none⟩)] (fun x=>.agg (rV x).toArray) (fun x=>decide (x.id=id)) w:=by
 intro W x hb;obtain⟨a,b,c,d,e⟩:=x;show Calls prog 189 #[.agg #[.int .i64 a,.int .i64 b,.int .i64 c,.int .i64 d,.int .i64 e],.pointer (some ⟨B,0,none⟩)] W _
 have BR:=zAa hb hc;have hz:B<W.heap.size:=jC hB hb.size;go_enter func189,ntmps189
 go_wp2
 go_ret;exact⟨rfl,hb.alloc hb.size _⟩
theorem zNT(id:Int)(w:World) :
  Calls prog 180 #[.slice none 0 0,.int .i64 id] w fun e w'=>e=.returned (.int .i64 (-1))∧Bw w w':=by
 have h0:∀ (B:Nat) (W:World),Calls prog 177 #[.slice none 0 0,.func (.func 189) #[] #[.pointer (some ⟨B,0,none⟩)]] W fun e w'=>e=.returned (.int .i64 (-1))∧w'=W:=by
  intro B W;go_enter func177,ntmps177
  go_wp2
  go_loopg [5,8] 0 (fun _ _ s8 wr=>s8=.int .i64 0∧wr=W)
  case atStart=>exact⟨rfl,rfl⟩
  case round=>
   obtain⟨rfl,rfl⟩:=hrel
   go_wp2
   go_ret;exact⟨rfl,rfl⟩
 go_enter func180,ntmps180;go_wp2_with (go_at_call 177;refine(h0 _ _).mono ?_;rintro e w' ⟨rfl,rfl⟩)
 go_ret;exact⟨rfl,(bzR _ _).alloc (nzR _) _⟩
theorem zKY(id:Int)(b o c:Nat)(zs:List R)(w:World)(hb:b<w.heap.size)(hn:zs.length≤9223372036854775807)(hl:Lies w b o zs) :
  Calls prog 180 #[.slice (some ⟨b,o,none⟩) zs.length c,.int .i64 id] w fun e w'=>e=.returned (.int .i64 (idx id zs))∧Bw w w':=by
 have eg:∀args w,(callFunc 189 args).run prog w=.ok (.enter 189 args) w:=enters_of func189 (by kernel_rfl) rfl
 have hB:Bw w (w.alloc (.cells #[.int .i64 id] 3)):=(bzR _ _).alloc (nzR _) _;have Hf:=AnyQ.slices_IndexFunc Tryz.lq6 5 isAgg54 sizeOf54 rV (fun x=>rfl) (fun x=>decide (x.id=id)) 189 #[.pointer (some ⟨w.heap.size,0,none⟩)] eg b o zs.length c zs
  (w.alloc (.cells #[.int .i64 id] 3)) (wAP id w.heap.size _ (by simp) (by simp[go_sem])) (nzR _) hn (by simp;omega) (hl.below hb hB)
 change Calls prog 177 _ _ _ at Hf
 rw[List.take_length,wAK] at Hf;generalize idx id zs=k at *;clear hl;generalize zs.length=n at *;go_enter func180,ntmps180;go_wp2_with (go_at_call 177;refine Hf.mono ?_;rintro e w' ⟨rfl,me⟩)
 go_ret;exact⟨rfl,hB.trans (me.mono (by simp))⟩
theorem wAs(id:Int)(v:Value)(zs:List R)(w:World)(h:SL w v zs) :
  Calls prog 180 #[v,.int .i64 id] w fun e w'=>e=.returned (.int .i64 (idx id zs))∧Bw w w':=by
 rcases h with ⟨rfl,rfl⟩|⟨b,o,c,rfl,h2,h3,h4,h5⟩
 ·exact zNT id w
 ·exact zKY id b o c zs w h4 (by omega) h5
theorem zJz(v:Value)(zs:List R)(a b c d e:Int)(w:World)(h:SL w v zs) :
  Calls prog 159 #[v,.agg #[.int .i64 a,.int .i64 b,.int .i64 c,.int .i64 d,.int .i64 e]] w fun x w'=>x=.returned (errV (bchk zs ⟨a,b,c,d,e⟩))∧Bw w w':=by
 have hr:=zCT a b c d e;have e1:bchk zs ⟨a,b,c,d,e⟩=if rchk ⟨a,b,c,d,e⟩=0 then (if 0≤idx a zs then 7 else 0) else rchk ⟨a,b,c,d,e⟩:=by
  unfold bchk;rw[zKR];simp only[decide_eq_true_eq]
 rw[e1];clear e1;generalize rchk ⟨a,b,c,d,e⟩=k at *;have HF:=fun W hW=>wAs a v zs W hW
 have H:Hid (∀W,SL W v zs→Calls prog 180 #[v,.int .i64 a] W fun e w'=>e=.returned (.int .i64 (idx a zs))∧Bw W w'):=HF
 clear HF;have HS:Hid (SL w v zs):=h;clear h;generalize idx a zs=m at *;by_cases hk:k=0
 ·subst hk;rw[if_pos rfl];rw[wAa] at hr;by_cases hm:0≤m
  ·rw[if_pos hm];go_enter func159,ntmps159;go_wp2_with fail;refine(hr _).mono ?_;rintro x w1⟨rfl,Ha⟩;have hB:Bw w w1:=((bzR _ _).alloc (nzR _) _).trans (Ha.mono (by simp))
   obtain⟨Gv,pe⟩:=bcell Ha;clear hr;go_wp2_with fail;refine(H.out _ (HS.out.below hB)).mono ?_;rintro x w2⟨rfl,Hc⟩;clear Gv pe;go_wp2_with fail;go_ret;exact⟨rfl,hB.trans (Hc.mono hB.size)⟩
  ·rw[if_neg hm];go_enter func159,ntmps159;go_wp2_with fail;refine(hr _).mono ?_;rintro x w1⟨rfl,Ha⟩;have hB:Bw w w1:=((bzR _ _).alloc (nzR _) _).trans (Ha.mono (by simp))
   obtain⟨Gv,pe⟩:=bcell Ha;clear hr;go_wp2_with fail;refine(H.out _ (HS.out.below hB)).mono ?_;rintro x w2⟨rfl,Hc⟩;clear Gv pe;go_wp2_with fail;go_ret;exact⟨rfl,hB.trans (Hc.mono hB.size)⟩
 ·rw[if_neg hk];rw[wAb hk] at hr ⊢;go_enter func159,ntmps159;go_wp2_with fail;refine(hr _).mono ?_;rintro x w1⟨rfl,Ha⟩;have hB:Bw w w1:=((bzR _ _).alloc (nzR _) _).trans (Ha.mono (by simp))
  clear hr;go_wp2_with fail;go_ret;exact⟨rfl,hB⟩
theorem zCl{w:World}{b o k:Nat}{zs:List R}(h:Lies w b o zs)(hk:k<zs.length){r1 r2 r3 r4 r5:Int}(he:zs[k]! = ⟨r1,r2,r3,r4,r5⟩) :
  w.cell? ⟨b,o+k*5,none⟩=some (.int .i64 r1)∧w.cell? ⟨b,o+k*5+1,none⟩=some (.int .i64 r2)∧w.cell? ⟨b,o+k*5+2,none⟩=some (.int .i64 r3)∧w.cell? ⟨b,o+k*5+3,none⟩=some (.int .i64 r4)∧w.cell? ⟨b,o+k*5+4,none⟩=some (.int .i64 r5):=by
 have hh:=h k hk;rw[he] at hh;exact⟨hh 0 _ rfl,hh 1 _ rfl,hh 2 _ rfl,hh 3 _ rfl,hh 4 _ rfl⟩
theorem wAT{zs:List R}{k:Nat}(hk:k<zs.length):zs.drop k=zs[k]!::zs.drop (k+1):=by
 rw[List.drop_eq_getElem_cons hk,getE _ _ hk]
theorem zEa{zs:List R}{k:Nat}(hk:k<zs.length):zs.take (k+1)=zs.take k++[zs[k]!]:=by
 rw[List.take_succ_eq_append_getElem hk,getE _ _ hk]
theorem zQE{w:World}{b o c k:Nat}{zs:List R}(hk:k≤zs.length)(hc:zs.length≤c)(hm:c≤9223372036854775807)(hb:b<w.heap.size)(h:Lies w b o zs):SL w (.slice (some ⟨b,o,none⟩) k c) (zs.take k):=by
 refine .inr ⟨b,o,c,?_,?_,hm,hb,h.take k⟩
 ·rw[jJ,Nat.min_eq_left hk]
 ·rw[jJ];omega
theorem zEb(b o c:Nat)(zs:List R)(w:World)(hb:b<w.heap.size)(hc:zs.length≤c)(hm:c≤9223372036854775807)(hl:Lies w b o zs) :
  Calls prog 133 #[.slice (some ⟨b,o,none⟩) zs.length c] w fun e w'=>e=.returned (errV (qchk zs))∧Below w.heap.size w w':=by
 by_cases GA:60<zs.length
 ·have e:qchk zs=4:=by unfold qchk;rw[if_pos GA]
  rw[e];clear hl e;generalize zs.length=n at *;have h60' : (60:Int)<(n:Int):=by omega
  go_enter func133,ntmps133
  go_wp2
  go_ret;exact⟨rfl,bzR _ _⟩
 ·have e:qchk zs=qgo [] zs:=by unfold qchk;rw[if_neg GA]
  rw[e];clear e;generalize hQ:qgo [] zs=Q;have HQ:Hid (qgo [] zs=Q):=hQ;clear hQ;have HL:Hid (Lies w b o zs):=hl;clear hl;generalize hn:zs.length=n at *;have HN:Hid (zs.length=n):=hn;clear hn;have h60' : ¬(60:Int)<(n:Int):=by omega
  go_enter func133,ntmps133;go_wp2_with fail;go_loopg [3,4,5,12] n (fun gg _ _ _ s12 wr=>∃kk:Nat,kk≤n∧n - kk≤gg∧s12=.int .i64 kk∧Aside (Below w.heap.size w wr)∧Aside (qgo (zs.take kk) (zs.drop kk)=Q))
  case atStart=>exact⟨0,jL _,by omega,rfl,bzR _ w,HQ.out⟩
  case round=>
   obtain⟨kk,gh,hg,rfl,BW,A⟩:=hrel;by_cases Hj:kk<n
   ·have Hq:(kk:Int)<(n:Int):=(by omega);have Hv:kk<zs.length:=(by rw[HN.out];exact Hj);have LW:Hid (Lies wr b o zs):=HL.out.below hb BW.out;obtain⟨r,hr⟩:∃r,zs[kk]! = r:=⟨_,rfl⟩;obtain⟨r1,r2,r3,r4,r5⟩:=r;obtain⟨c0,c1,c2,c3,c4⟩:=zCl LW.out Hv hr;have HR:Hid (zs[kk]! = ⟨r1,r2,r3,r4,r5⟩):=hr;have hA:(if bchk (zs.take kk) ⟨r1,r2,r3,r4,r5⟩=0 then qgo (zs.take (kk+1)) (zs.drop (kk+1)) else bchk (zs.take kk) ⟨r1,r2,r3,r4,r5⟩)=Q:=by
     have h:=A.out;rw[wAT Hv,HR.out] at h;rw[zEa Hv,HR.out];exact h
    have HA:Hid ((if bchk (zs.take kk) ⟨r1,r2,r3,r4,r5⟩=0 then qgo (zs.take (kk+1)) (zs.drop (kk+1)) else bchk (zs.take kk) ⟨r1,r2,r3,r4,r5⟩)=Q):=hA
    have mG:b<wr.heap.size:=jC hb BW.out.size;have gU:¬((kk:Int)<0):=(by omega);have Ez:¬((c:Int)<(kk:Int)):=(by omega);have EA:(kk:Int)≤(c:Int):=(by omega);have hBH:=fun v W hW=>zJz v (zs.take kk) r1 r2 r3 r4 r5 W hW
    have HB:Hid (∀v W,SL W v (zs.take kk)→Calls prog 159 #[v,.agg #[.int .i64 r1,.int .i64 r2,.int .i64 r3,.int .i64 r4,.int .i64 r5]] W fun x w'=>x=.returned (errV (bchk (zs.take kk) ⟨r1,r2,r3,r4,r5⟩))∧Below W.heap.size W w'):=hBH
    clear hA hr hBH A;generalize bchk (zs.take kk) ⟨r1,r2,r3,r4,r5⟩=k at HA HB;go_upto_region 6 with fail
    have hV:Below w.heap.size w (wr.alloc (.cells #[.int .i64 r1,.int .i64 r2,.int .i64 r3,.int .i64 r4,.int .i64 r5] 54)):=BW.out.alloc BW.out.size _;have hR:=jA wr (.cells #[.int .i64 r1,.int .i64 r2,.int .i64 r3,.int .i64 r4,.int .i64 r5] 54);have mx:Hid (SL (wr.alloc (.cells #[.int .i64 r1,.int .i64 r2,.int .i64 r3,.int .i64 r4,.int .i64 r5] 54)) (.slice (some ⟨b,o,none⟩) kk c) (zs.take kk)):=(zQE (by rw[HN.out];exact gh) (by rw[HN.out];exact hc) hm mG LW.out).below ((bzR _ _).alloc (nzR _) _)
    generalize wr.alloc (.cells #[.int .i64 r1,.int .i64 r2,.int .i64 r3,.int .i64 r4,.int .i64 r5] 54)=V at *;generalize wr.heap.size=G at *;have cel:∀i,V.cell? ⟨G,i,none⟩=(#[.int .i64 r1,.int .i64 r2,.int .i64 r3,.int .i64 r4,.int .i64 r5]:Array Value)[i]?:=fun i=>by simp[World.cell?,hR]
    have d0:=cel 0;have d1:=cel 1;have d2:=cel 2;have d3:=cel 3;have d4:=cel 4;simp only[List.getElem?_toArray,List.getElem?_cons_zero,List.getElem?_cons_succ] at d0 d1 d2 d3 d4;clear cel hR c0 c1 c2 c3 c4;have SO:Hid (∀W,Below V.heap.size V W→(Below V.heap.size V W∧W.cell? ⟨G,0,none⟩=some (.int .i64 r1)∧W.cell? ⟨G,1,none⟩=some (.int .i64 r2)∧W.cell? ⟨G,2,none⟩=some (.int .i64 r3)∧W.cell? ⟨G,3,none⟩=some (.int .i64 r4)∧W.cell? ⟨G,4,none⟩=some (.int .i64 r5))):=fun W hW=>⟨hW,zAa hW d0,zAa hW d1,zAa hW d2,zAa hW d3,zAa hW d4⟩
    go_region_held3 (fun W=>Below V.heap.size V W∧W.cell? ⟨G,0,none⟩=some (.int .i64 r1)∧W.cell? ⟨G,1,none⟩=some (.int .i64 r2)∧W.cell? ⟨G,2,none⟩=some (.int .i64 r3)∧W.cell? ⟨G,3,none⟩=some (.int .i64 r4)∧W.cell? ⟨G,4,none⟩=some (.int .i64 r5))
     ((refine SO.out _ ?_;(with_reducible repeat' (first|assumption|refine bal ?_ _|refine Below.setCell ?_ ?_ _|refine Below.drew ?_|exact bzR _ _|exact nzR _|exact Below.size (by assumption)|refine jD ?_))))
     (first|(go_at_call 159;refine(HB.out _ _ ?_).mono ?_;exact mx.out.below (bzR _ _).drew;rintro x W ⟨rfl,GL⟩;have Hp:Below V.heap.size V W:=(bzR _ _).drew.trans GL))
    have hW:Below w.heap.size w W:=hV.trans (Hp.mono hV.size);clear SO d0 d1 d2 d3 d4 GL Hp hV mx;by_cases hk:k=0
    ·subst hk;rw[if_pos rfl] at HA;simp only[wAa];go_wp2_with fail;go_roundg (n - (kk+1))
     case measure=>omega
     case rel=>exact⟨kk+1,by omega,by omega,by go_num,hW,HA.out⟩
    ·rw[if_neg hk] at HA;simp only[wAb hk];go_wp2_with fail;go_ret;exact⟨by rw[←HA.out,wAb hk];rfl,hW⟩
   ·have Hq:¬(kk:Int)<(n:Int):=(by omega);have:kk=n:=(by omega);subst this;go_wp2_with fail;go_ret;refine⟨?_,BW.out⟩;have h:=A.out;rw[List.drop_eq_nil_of_le (by rw[HN.out];exact nzR _)] at h
    rw[←h];rfl
theorem zJA(w:World) :
  Calls prog 133 #[.slice none 0 0] w fun e w'=>e=.returned (errV (qchk []))∧Bw w w':=by
 go_enter func133,ntmps133;go_wp2_with fail;go_loopg [3,4,5,12] 0 (fun _ _ _ _ s12 wr=>s12=.int .i64 0∧wr=w)
 case atStart=>exact⟨rfl,rfl⟩
 case round=>
  obtain⟨rfl,rfl⟩:=hrel;go_wp2_with fail;go_ret;exact⟨rfl,bzR _ _⟩
theorem zFa(v:Value)(zs:List R)(w:World)(h:SL w v zs) :
  Calls prog 133 #[v] w fun e w'=>e=.returned (errV (qchk zs))∧Bw w w':=by
 rcases h with ⟨rfl,rfl⟩|⟨b,o,c,rfl,h2,h3,h4,h5⟩
 ·exact zJA w
 ·exact zEb b o c zs w h4 h2 h3 h5
theorem zNU(zs:List R)(k:Nat)(hk:k<zs.length):tot (zs.take (k+1))=tot (zs.take k)+(zs[k]!.qty+zs[k]!.hid):=by
 rw[zEa hk,zEY];simp only[tot];omega
theorem zJB(b o c:Nat)(zs:List R)(w:World)(hb:b<w.heap.size)(hc:zs.length≤c)(hm:c≤9223372036854775807)(hl:Lies w b o zs)(h0:qchk zs=0) :
  Calls prog 185 #[.slice (some ⟨b,o,none⟩) zs.length c] w fun e w'=>e=.returned (.tuple #[.int .i64 (tot zs),.nilIface])∧Bw w w':=by
 have Hf:=zEb b o c zs w hb hc hm hl;rw[h0,wAa] at Hf;obtain⟨GA,hG⟩:=(zAm zs).1 h0;have HG:Hid (Good zs):=hG;have HL:Hid (Lies w b o zs):=hl;clear hl h0 hG;generalize hT:tot zs=T;have HT:Hid (tot zs=T):=hT;clear hT;generalize hn:zs.length=n at *;have HN:Hid (zs.length=n):=hn;clear hn;go_enter func185,ntmps185;go_wp2_with fail;refine Hf.mono ?_;rintro e w1⟨rfl,Ha⟩;have He:Hid (Bw w w1):=Ha;clear Hf Ha;go_wp2_with fail;go_loopg [5,7,15] n (fun gg s5 _ s15 wr=>∃kk:Nat,kk≤n∧n - kk≤gg∧s15=.int .i64 kk∧s5=.int .i64 (tot (zs.take kk))∧Aside (Below w.heap.size w wr))
 case atStart=>exact⟨0,jL _,by omega,rfl,rfl,He.out⟩
 case round=>
  obtain⟨kk,gh,hg,rfl,rfl,BW⟩:=hrel;have hA:Hid (0≤tot (zs.take kk)∧tot (zs.take kk)≤20000*(kk:Int)):=by
   have:=zKV (zs.take kk) (fun r hr=>HG.out.1 r (List.mem_of_mem_take hr))
   rw[jJ,HN.out,Nat.min_eq_left gh] at this;exact this
  by_cases Hj:kk<n
  ·have Hq:(kk:Int)<(n:Int):=by omega
   have Hv:kk<zs.length:=by rw[HN.out];exact Hj
   have LW:Hid (Lies wr b o zs):=HL.out.below hb BW.out;obtain⟨r,hr⟩:∃r,zs[kk]! = r:=⟨_,rfl⟩;obtain⟨r1,r2,r3,r4,r5⟩:=r;obtain⟨c0,c1,c2,c3,c4⟩:=zCl LW.out Hv hr;have hq:=zAp (HG.out.1 zs[kk]! (by rw[getE _ _ Hv];exact jT Hv))
   rw[hr] at hq;obtain⟨⟨q1,q2⟩,⟨q3,q4⟩,-⟩:=hq;simp only[] at q1 q2 q3 q4;have mX:Hid (tot (zs.take (kk+1))=tot (zs.take kk)+(r3+r4)):=by
    have:=zNU zs kk Hv;rw[hr] at this;exact this
   clear hr;obtain⟨t1,t2⟩:=hA.out;clear hA;have mG:b<wr.heap.size:=jC hb BW.out.size;have gU:¬((kk:Int)<0):=by omega
   have e1:wrap64 (r3+r4)=r3+r4:=by unfold wrap64;omega
   have e2:wrap64 (tot (zs.take kk)+(r3+r4))=tot (zs.take kk)+(r3+r4):=by unfold wrap64;omega
   go_wp2_with fail;go_roundg (n - (kk+1))
   case measure=>omega
   case rel=>exact⟨kk+1,by omega,by omega,by go_num,by rw[mX.out],BW.out.alloc BW.out.size _⟩
  ·have Hq:¬(kk:Int)<(n:Int):=by omega
   have hk:kk=n:=by omega
   subst hk;have mW:tot (zs.take kk)=T:=by rw[←HT.out,List.take_of_length_le (by rw[HN.out];exact nzR _)]
   rw[mW];go_wp2_with fail
   go_ret2
   exact⟨rfl,BW.out⟩
end que
end Go.Proofs.YtmhcghgfpfainaaGreatDoor
