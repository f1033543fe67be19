import Derived.Test.YtifjhlgjgnnnpaaGreatFlrOk
import Derived.Test.YtifjhlgjgnnnpaaGreatFlrVis
import Derived.Test.YtifjhlgjgnnnpaaGreatMAPure
namespace Go.Proofs.YtifjhlgjgnnnpaaGreat
namespace flr
open Go.RowKit
open que (R rchk)
open sid (L DL LS)
open mee (T tV OwnT sumT)
open ord (O oV chk errV errV_zero errV_of prB)
open bok (zAd zAh)
open pur (Pz Pu Ok flatP pL ix)
open sms (sumC sumS)
open wak (OwnM OwnQ St SL Lies oL idx Trn)
theorem zGU(ps:List Pz)(k:Nat)(h:k<ps.length):sumC (ps.take (k+1))=sumC (ps.take k)+(ps[k]!).cash:=by
 unfold sumC
 rw[List.take_succ_eq_append_getElem h,jF,List.sum_append,pur.getP ps k h]
 simp
theorem zGV(ps:List Pz)(k:Nat)(h:k<ps.length):sumS (ps.take (k+1))=sumS (ps.take k)+(ps[k]!).stock:=by
 unfold sumS
 rw[List.take_succ_eq_append_getElem h,jF,List.sum_append,pur.getP ps k h]
 simp
theorem zEv{ps:List Pz}(h:Ok ps):∀k,k≤9→0≤sumC (ps.take k)∧sumC (ps.take k)≤1000000000*k∧0≤sumS (ps.take k)∧sumS (ps.take k)≤1000000000*k
 | 0,_=>⟨jY 0,jY 0,jY 0,jY 0⟩
 | k+1,hk=>by
  have ih:=zEv h k (by omega)
  have z:=h.all k (by omega)
  rw[zGU ps k (by rw[h.len];omega),zGV ps k (by rw[h.len];omega)]
  have h1:=z.h0
  have h2:=z.hc
  have h3:=z.cm
  have h4:=z.t0
  have h5:=z.ts
  have h6:=z.sm
  omega
structure LoopI (w wr:World) (F:Nat) (m c d:Int):Prop where
 ex:∃f,FloorAt w wr F f∧FI f c d∧f.mode=m
theorem LoopI.bel{w wr:World}{F:Nat}{m c d:Int}(h:LoopI w wr F m c d):Below w.heap.size w wr:=by obtain⟨f,h1,-⟩:=h.ex;exact h1.bel
theorem FI.small{f:FS}{c d:Int}(h:FI f c d):0≤c∧c≤9000000000∧0≤d∧d≤9000000000:=by
 have ho:=h.iv.wf.ok
 have hl:f.ps.length≤9:=Nat.le_of_eq ho.len
 have hs:=zEv ho 9 (nzR 9)
 have e:(zAq f).ps.take 9=f.ps:=List.take_of_length_le hl
 rw[e] at hs
 have h1:=h.c
 have h2:=h.s
 rw[h1,h2] at hs
 omega
theorem LoopI.small{w wr:World}{F:Nat}{m c d:Int}(h:LoopI w wr F m c d):0≤c∧c≤9000000000∧0≤d∧d≤9000000000:=by obtain⟨f,-,h1,-⟩:=h.ex;exact h1.small
theorem zOS{f:FS}{cm:Cm}{s:TS}(h:WfF f)(e:fdo f cm=.ok s):s.mode=f.mode:=by
 obtain⟨s1,e1,e2⟩:=zAy e
 have g:=zGG h e1
 exact(zDk _ g.wf e2).2.trans g.mode
def LawPost(w:World)(F:Nat)(m c d:Int)(cm:Cm)(w1:World)(e:Ending)(w' : World):Prop:=
 (∃q evs k,e=.returned (.tuple #[.slice q (evs:List Ev).length k,.nilIface])∧OwnM w' w1.heap.size 42 10 (.slice q evs.length k) evs.length (zAY evs)∧(¬m=0→∀x∈evs,x.what=2→¬x.tr.frm=x.tr.into)∧LoopI w w' F m (c+paid cm) (d+given cm))∨∃k,e=.returned (.tuple #[.slice none 0 0,.iface 91 (.int .i64 k)])∧LoopI w w' F m c d
theorem do_law{w w1:World}{F:Nat}{m c d:Int}(what a1 a2 a3 a4 a5 a6 a7 a8 who n:Int)(h:LoopI w w1 F m c d)(hid:(Lit.int .i64 a1).wf=true) :
  Calls Tryz.prog 8 #[.pointer (some ⟨F,0,none⟩),.agg #[.int .i64 what,.int .i64 a1,.int .i64 a2,.int .i64 a3,.int .i64 a4,.int .i64 a5,.int .i64 a6,.int .i64 a7,.int .i64 a8,.int .i64 who,.int .i64 n]] w1 fun e w'=>LawPost w F m c d ⟨what,⟨a1,a2,a3,a4,a5,a6,a7,a8⟩,who,n⟩ w1 e w':=by
 obtain⟨f,h1,h2,h3⟩:=h.ex
 obtain⟨v,hv⟩:=h1.fm
 refine(zMo F f v what a1 a2 a3 a4 a5 a6 a7 a8 who n w1 hv h2.iv.wf hid).mono ?_
 rintro e w'⟨k1,k2⟩
 cases hx:fdo f ⟨what,⟨a1,a2,a3,a4,a5,a6,a7,a8⟩,who,n⟩ with
 | ok s=>
  obtain⟨⟨q,m',k,rfl,ho⟩,⟨v',hv'⟩,hg⟩:=k1 s hx
  obtain⟨q',c',hq⟩:=OwnM.form ho
  cases hq
  obtain⟨g1,g2,-⟩:=fdo_iv h2 hx
  exact .inl ⟨q,s.evs,k,rfl,ho,by rw[←h3];exact g2,⟨_,h1.step hg hv',g1,(zOS h2.iv.wf hx).trans h3⟩⟩
 | error k=>
  obtain⟨-,rfl,hb⟩:=k2 k hx
  exact .inr ⟨k,rfl,⟨f,h1.keep hb,h2,h3⟩⟩
theorem zQW{w:World}(m:Int)(h0:0≤m)(h3:m≤3){W:World}(hB:Below w.heap.size w W) :
  Calls Tryz.prog 7 #[.int .i64 m] W fun e w'=>∃F,e=.returned (.tuple #[.pointer (some ⟨F,0,none⟩),.nilIface])∧LoopI w w' F m 0 0:=by
 refine(zIs m h0 h3 W).mono ?_
 rintro e w'⟨F,v,rfl,hF,hl,hb⟩
 exact⟨F,rfl,⟨_,⟨⟨v,hF⟩,jM hB.size hl,hB.trans (hb.mono hB.size)⟩,zMd h0 h3,rfl⟩⟩
theorem zMs{w w1:World}{F:Nat}{f:FS}(k:Nat)(hk:k<9)(h:FloorAt w w1 F f)(K:Int)(hK:K=(k:Int)+1) :
  Calls Tryz.prog 9 #[.pointer (some ⟨F,0,none⟩),.int .i64 K] w1 fun e w'=>e=.returned (.tuple #[.agg #[.int .i64 (f.ps[k]!).who,.int .i64 (f.ps[k]!).cash,.int .i64 (f.ps[k]!).held,.int .i64 (f.ps[k]!).stock,.int .i64 (f.ps[k]!).hs],.nilIface])∧FloorAt w w' F f∧Below w1.heap.size w1 w':=by
 obtain⟨v,hv⟩:=h.fm
 refine(zGT F f v K w1 hv).mono ?_
 rintro e w'⟨rfl,hb⟩
 have hw:pur.badW K=false:=by subst hK;simp[pur.badW,spn.zAo];omega
 have hz:pur.getZ f.ps K=f.ps[k]!:=by
  unfold pur.getZ
  rw[hw,if_neg (by decide),hK,pur.ix_is]
 rw[hw,hz]
 exact⟨rfl,h.keep hb,hb⟩
theorem zOT{f:FS}{c d:Int}(h:FI f c d){k:Nat}(hk:k<9):sumC (f.ps.take (k+1))=sumC (f.ps.take k)+(f.ps[k]!).cash∧sumS (f.ps.take (k+1))=sumS (f.ps.take k)+(f.ps[k]!).stock:=by
 have hl:k<f.ps.length:=by have:=h.iv.wf.ok.len;have e:(zAq f).ps=f.ps:=rfl;rw[e] at this;omega
 exact⟨zGU f.ps k hl,zGV f.ps k hl⟩
theorem zGW{f:FS}{c d:Int}(h:FI f c d){k:Nat}(hk:k≤9):0≤sumC (f.ps.take k)∧sumC (f.ps.take k)≤9000000000∧0≤sumS (f.ps.take k)∧sumS (f.ps.take k)≤9000000000:=by
 have hs:=zEv h.iv.wf.ok k hk
 have e1:sumC ((zAq f).ps.take k)=sumC (f.ps.take k):=rfl
 have e2:sumS ((zAq f).ps.take k)=sumS (f.ps.take k):=rfl
 rw[e1,e2] at hs
 omega
theorem zQX{f:FS}{c d:Int}(h:FI f c d):sumC (f.ps.take 9)=c∧sumS (f.ps.take 9)=d:=by
 have hl:f.ps.length≤9:=Nat.le_of_eq h.iv.wf.ok.len
 rw[List.take_of_length_le hl]
 exact⟨h.c,h.s⟩
theorem zOU{f:FS}{c d:Int}(h:FI f c d){k:Nat}(hk:k<9):pur.Fz k f.ps[k]!:=h.iv.wf.ok.all k hk
end flr
end Go.Proofs.YtifjhlgjgnnnpaaGreat
