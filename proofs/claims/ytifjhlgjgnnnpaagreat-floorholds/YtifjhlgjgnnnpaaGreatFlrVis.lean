import Derived.Test.YtifjhlgjgnnnpaaGreatFlrInv4
import Derived.Test.YtifjhlgjgnnnpaaGreatFlrWf
namespace Go.Proofs.YtifjhlgjgnnnpaaGreat
namespace flr
open Go.RowKit que sid mee
open ord (O oV chk prB mB)
open bok (zAd zAh)
open mrg (resv forC forS zBi zBF zBG putC putS)
open pur (Pz Ok ix)
open sms (sumC sumS)
structure IZ (s s1:TS):Prop where
 iv:IV s1 (fun _=>0) (fun _=>0)
 c:sumC s1.ps=sumC s.ps
 s:sumS s1.ps=sumS s.ps
theorem zGK{o:O}(h:chk o=0)(j:Int):at1 o.who j (forC o)=oC j o∧at1 o.who j (forS o)=oS j o:=by
 have hq:=mrg.zAX h
 have hb:0≤resv o*o.qty∧resv o*o.qty≤10000*10000:=⟨Int.mul_nonneg hq.1 (by omega),Int.mul_le_mul hq.2.1 (by omega) (by omega) (by omega)⟩
 unfold mrg.forC mrg.forS mrg.putC mrg.putS
 rw[if_pos h,if_pos h]
 by_cases hs:o.side=1
 ·rw[if_pos hs,if_pos hs,oC_at j o hs,oS_no j o hs,zCL]
  refine⟨?_,rfl⟩
  congr 1
  unfold wrap64;omega
 ·rw[if_neg hs,if_neg hs,oC_no j o hs,oS_at j o hs,zCL]
  exact⟨rfl,rfl⟩
theorem zQJ{s s1:TS}{o:O}(h:IV s (fun _=>0) (fun _=>0))(hc:chk o=0)(e:zDw s o.who (forC o) (forS o)=.ok s1):IV s1 (fun j=>oC j o) (fun j=>oS j o)∧sumC s1.ps=sumC s.ps∧sumS s1.ps=sumS s.ps:=by
 obtain⟨h1,k⟩:=h.hold e
 exact⟨h1.ext (fun j _ _=>by rw[(zGK hc j).1];omega) (fun j _ _=>by rw[(zGK hc j).2];omega),k⟩
theorem zGL{s s1:TS}{o:O}(h:IV s (fun j=>oC j o) (fun j=>oS j o))(e:vanish s o=.ok s1):IZ s s1:=by
 unfold vanish at e
 split at e
 ·rename_i hc
  obtain⟨s2,e1,e⟩:=zAy e
  obtain⟨h1,k1,k2⟩:=h.free e1
  cases e
  exact⟨(h1.tell (by decide) _ _ _).ext (fun j _ _=>by rw[(zGK hc j).1];omega) (fun j _ _=>by rw[(zGK hc j).2];omega),k1,k2⟩
 ·cases e
theorem zQK{s s1:TS}{o:O}(h:IV s (fun j=>oC j o) (fun j=>oS j o))(e:rise s o=.ok s1):IZ s s1:=by
 unfold rise at e
 split at e
 ·rename_i h0;obtain⟨a,b,c⟩:=zGJ h h0 e;exact⟨a,b,c⟩
 ·exact zGL h e
theorem zQL{s s1:TS}{o:O}(h:IV s (fun j=>oC j o) (fun j=>oS j o))(e:come s o=.ok s1):IZ s s1:=by
 unfold come at e
 split at e
 ·rename_i h0;obtain⟨a,b,c⟩:=zGJ h h0 e;exact⟨a,b,c⟩
 ·cases e
theorem zOF{s s1:TS}{o:O}(h:IV s (fun j=>oC j o) (fun j=>oS j o))(hc:chk o=0)(e:sleep s o=.ok s1):IZ s s1:=by
 have hg:=zIj h.wf e
 unfold sleep at e
 split at e
 ·rename_i h0
  have hl:=zLG h0 h.wf.ws
  cases e
  have hi:IV { s with ws:=s.ws++[o] } (fun _=>0) (fun _=>0):=by
   refine⟨⟨h.wf.m0,h.wf.m3,h.wf.book,h.wf.ok,by simp;omega⟩,fun j h1 h2=>?_,fun j h1 h2=>?_,fun x hx=>?_,h.rck,h.last,h.evs⟩
   ·have:=h.held j h1 h2
    show (s.ps[ix j]!).held=sumI (rC j) (prs s.bs)+sumI (oC j) (s.ws++[o])+sumI (fun x:Sl=>oC j x.o) s.row+0
    rw[zAn];simp only[sumI];omega
   ·have:=h.hs j h1 h2
    show (s.ps[ix j]!).hs=sumI (rS j) (prs s.ss)+sumI (oS j) (s.ws++[o])+sumI (fun x:Sl=>oS j x.o) s.row+0
    rw[zAn];simp only[sumI];omega
   ·rcases List.mem_append.1 hx with hx|hx
    ·exact h.wck x hx
    ·rcases List.mem_cons.1 hx with rfl|hx
     ·exact hc
     ·cases hx
  exact⟨hi.tell (by decide) _ _ _,rfl,rfl⟩
 ·cases e
theorem IZ.trans{a b c:TS}(h:sumC b.ps=sumC a.ps∧sumS b.ps=sumS a.ps)(k:IZ b c):IZ a c:=⟨k.iv,k.c.trans h.1,k.s.trans h.2⟩
theorem zIo{s s1:TS}{o:O}(h:IV s (fun _=>0) (fun _=>0))(e:place s o=.ok s1):IZ s s1:=by
 unfold place at e
 split at e
 ·rename_i hc
  split at e
  ·cases e
  ·obtain⟨s2,e1,e⟩:=zAy e
   obtain⟨h2,k⟩:=zQJ h hc e1
   split at e
   ·exact IZ.trans k (zQL h2 e)
   ·exact IZ.trans k (zOF h2 hc e)
 ·cases e
theorem zGM:∀ (n:Nat) {s s1:TS},IV s (fun _=>0) (fun _=>0)→zBI n s=.ok s1→IZ s s1
 | 0,s,s1,h,e=>by cases e;exact⟨h,rfl,rfl⟩
 | n+1,s,s1,h,e=>by
  cases hr:s.row with
  | nil=>rw[zBB _ _ hr] at e;cases e;exact⟨h,rfl,rfl⟩
  | cons x t=>
   rw[zCn _ _ hr] at e
   obtain⟨s2,e1,e⟩:=zAy e
   have hi:IV { s with row:=t } (fun j=>oC j x.o) (fun j=>oS j x.o):=by
    refine⟨⟨h.wf.m0,h.wf.m3,h.wf.book,h.wf.ok,h.wf.ws⟩,fun j h1 h2=>?_,fun j h1 h2=>?_,h.wck,fun y hy=>h.rck y (by rw[hr];simp[hy]),h.last,h.evs⟩
    ·have:=h.held j h1 h2
     rw[hr] at this
     show (s.ps[ix j]!).held=sumI (rC j) (prs s.bs)+sumI (oC j) s.ws+sumI (fun x:Sl=>oC j x.o) t+oC j x.o
     simp only[sumI] at this;omega
    ·have:=h.hs j h1 h2
     rw[hr] at this
     show (s.ps[ix j]!).hs=sumI (rS j) (prs s.ss)+sumI (oS j) s.ws+sumI (fun x:Sl=>oS j x.o) t+oS j x.o
     simp only[sumI] at this;omega
   have h2:=zQK (hi.tell (by decide) _ _ _) e1
   have h3:=zGM n h2.iv e
   exact IZ.trans ⟨h2.c,h2.s⟩ h3
theorem zOG(f:Int × R→Int){ls:List L}{i k:Nat}(hi:i<ls.length)(hk:k<ls[i].rests.length):sumI f (prs ls)=sumI f (prs (zBq ls i k))+f (ls[i].price,ls[i].rests[k]):=by
 obtain⟨a,b,c,d,h1,h2,h3,h4⟩:=swp.zCz hi hk
 generalize ls[i].rests[k]=r at *
 generalize ls[i].price=p at *
 rw[h1,←h2,←h4,swp.zGh]
 by_cases e:c.length+d.length=0
 ·rw[if_pos e]
  have e1:c=[]:=List.eq_nil_of_length_eq_zero (by omega)
  have e2:d=[]:=List.eq_nil_of_length_eq_zero (by omega)
  rw[e1,e2]
  simp only[zBm,zAK,zAn,jU,jK,List.map_nil,sumI];omega
 ·rw[if_neg e]
  simp only[zBm,zAK,zAn,jF,jK,sumI];omega
theorem zJo{bs ss:List L}{id a p:Int}{r:R}{i k:Nat}(h:swp.At bs ss id a p r i k)(f:Int × R→Int):sumI f (prs bs)=sumI f (prs (swp.cB a bs i k))+(if a=1 then f (p,r) else 0)∧sumI f (prs ss)=sumI f (prs (swp.cS a ss i k))+(if a=1 then 0 else f (p,r)):=by
 obtain⟨ls,hS,hp,hr⟩:=h
 have hd:=zOG f hS.hi hS.hk
 rw[hp,hr] at hd
 clear hp hr
 unfold swp.cB swp.cS
 rcases hS.side with ⟨rfl,rfl,-⟩|⟨rfl,rfl,-⟩
 ·simp only[if_true];exact⟨hd,by omega⟩
 ·simp only[if_neg (show ¬(2:Int)=1 by decide)];exact⟨by omega,hd⟩
theorem zIp{s s1:TS}{id:Int}(h:IV s (fun _=>0) (fun _=>0))(e:leave s id=.ok s1):IZ s s1:=by
 unfold leave at e
 split at e
 ·rename_i hin
  have hA:=spot_at h.wf.book hin
  have hb:=zBJ hA
  generalize spot s.bs s.ss id=x at *
  obtain⟨xs,xp,xr,xi,xk⟩:=x
  have hd:=fun f=>zJo hA f
  simp only[] at e hd hb
  have hi:IV { s with bs:=swp.cB xs s.bs xi xk,ss:=swp.cS xs s.ss xi xk } (fun j=>if xs=1 then rC j (xp,xr) else 0) (fun j=>if xs=1 then 0 else rS j (xp,xr)):=by
   refine⟨⟨h.wf.m0,h.wf.m3,hb,h.wf.ok,h.wf.ws⟩,fun j h1 h2=>?_,fun j h1 h2=>?_,h.wck,h.rck,h.last,h.evs⟩
   ·have:=h.held j h1 h2
    have h3:=(hd (rC j)).1
    show (s.ps[ix j]!).held=sumI (rC j) (prs (swp.cB xs s.bs xi xk))+sumI (oC j) s.ws+sumI (fun x:Sl=>oC j x.o) s.row+(if xs=1 then rC j (xp,xr) else 0)
    omega
   ·have:=h.hs j h1 h2
    have h3:=(hd (rS j)).2
    show (s.ps[ix j]!).hs=sumI (rS j) (prs (swp.cS xs s.ss xi xk))+sumI (oS j) s.ws+sumI (fun x:Sl=>oS j x.o) s.row+(if xs=1 then 0 else rS j (xp,xr))
    omega
  obtain⟨h2,k1,k2⟩:=hi.part e
  exact⟨h2.ext (fun j _ _=>by omega) (fun j _ _=>by omega),k1,k2⟩
 ·cases e
theorem zGN{α:Type}[Inhabited α](l:List α)(k:Nat)(h:k<l.length):l.drop k=l[k]!::l.drop (k+1):=by
 rw[List.drop_eq_getElem_cons h];simp[h]
theorem zIq(f:O→Int){ws:List O}{i:Nat}(h:i<ws.length):sumI f ws=sumI f (ws.take i++ws.drop (i+1))+f ws[i]!:=by
 have e:ws=ws.take i++ws[i]!::ws.drop (i+1):=by
  rw[←zGN ws i h,jR]
 rw[zAn]
 conv=>lhs;rw[e]
 rw[zAn];simp only[sumI];omega
theorem zMa{s s1:TS}{id:Int}(h:IV s (fun _=>0) (fun _=>0))(e:cancel s id=.ok s1):IZ s s1:=by
 unfold cancel at e
 split at e
 ·exact zIp h e
 ·split at e
  ·cases e
  ·rename_i hi
   have hlt:=wak.idx_lt id s.ws
   have hl:(wak.idx id s.ws).toNat<s.ws.length:=by omega
   have hm:s.ws[(wak.idx id s.ws).toNat]!∈s.ws:=by rw[wak.getE _ _ hl];exact jT _
   unfold drop1 at e
   generalize (wak.idx id s.ws).toNat=i at *
   have hi2:IV { s with ws:=s.ws.take i++s.ws.drop (i+1) } (fun j=>oC j s.ws[i]!) (fun j=>oS j s.ws[i]!):=by
    refine⟨⟨h.wf.m0,h.wf.m3,h.wf.book,h.wf.ok,by have:=h.wf.ws;show (s.ws.take i++s.ws.drop (i+1)).length≤20;simp only[jE,jJ,jQ];omega⟩,fun j h1 h2=>?_,fun j h1 h2=>?_,fun x hx=>h.wck x ?_,h.rck,h.last,h.evs⟩
    ·have:=h.held j h1 h2
     have h3:=zIq (oC j) hl
     show (s.ps[ix j]!).held=sumI (rC j) (prs s.bs)+sumI (oC j) (s.ws.take i++s.ws.drop (i+1))+sumI (fun x:Sl=>oC j x.o) s.row+oC j s.ws[i]!
     omega
    ·have:=h.hs j h1 h2
     have h3:=zIq (oS j) hl
     show (s.ps[ix j]!).hs=sumI (rS j) (prs s.ss)+sumI (oS j) (s.ws.take i++s.ws.drop (i+1))+sumI (fun x:Sl=>oS j x.o) s.row+oS j s.ws[i]!
     omega
    ·rcases List.mem_append.1 hx with hx|hx
     ·exact List.mem_of_mem_take hx
     ·exact List.mem_of_mem_drop hx
   obtain⟨k1,k2,k3⟩:=zGL hi2 e
   exact⟨k1,k2,k3⟩
end flr
namespace flr
open Go.RowKit que sid mee
open ord (O oV chk prB mB)
open bok (zAd zAh)
open mrg (resv forC forS zBi zBF zBG putC putS)
open pur (Pz Ok ix newL)
open sms (sumC sumS)
theorem zQM(f:Int × R→Int){ls:List L}{i k:Nat}(hi:i<ls.length)(hk:k<ls[i].rests.length)(r' : R):sumI f (prs ls)+f (ls[i].price,r')=sumI f (prs (swp.setL ls i k r'))+f (ls[i].price,ls[i].rests[k]):=by
 obtain⟨a,b,c,d,h1,h2,h3,h4⟩:=swp.zCz hi hk
 generalize ls[i].rests[k]=r at *
 generalize ls[i].price=p at *
 rw[h1,←h2,←h4,swp.zFp]
 simp only[zBm,zAK,zAn,jF,jK,sumI];omega
theorem zOH{bs ss:List L}{id a p:Int}{r:R}{i k:Nat}(h:swp.At bs ss id a p r i k)(r' : R)(f:Int × R→Int):sumI f (prs bs)+(if a=1 then f (p,r') else 0)=sumI f (prs (swp.kB a bs i k r'))+(if a=1 then f (p,r) else 0)∧sumI f (prs ss)+(if a=1 then 0 else f (p,r'))=sumI f (prs (swp.kS a ss i k r'))+(if a=1 then 0 else f (p,r)):=by
 obtain⟨ls,hS,hp,hr⟩:=h
 have hd:=zQM f hS.hi hS.hk r'
 rw[hp,hr] at hd
 clear hp hr
 unfold swp.kB swp.kS
 rcases hS.side with ⟨rfl,rfl,-⟩|⟨rfl,rfl,-⟩
 ·simp only[if_true];exact⟨hd,by trivial⟩
 ·simp only[if_neg (show ¬(2:Int)=1 by decide)];exact⟨by trivial,hd⟩
theorem zMb(r:R)(q:Int):tq (swp.zAS r q)=q:=by unfold tq swp.zAS;simp only[];omega
theorem zOI{s s1:TS}{c d:Int→Int}{r:R}{a p:Int}(h:IV s c d)(e:zCU s r a p=.ok s1):IV s1 (fun j=>c j - (if a=1 then rC j (p,r) else 0)) (fun j=>d j - (if a=1 then 0 else rS j (p,r)))∧sumC s1.ps=sumC s.ps∧sumS s1.ps=sumS s.ps:=by
 unfold zCU at e
 split at e
 ·rename_i h0
  obtain⟨-,hc,hd⟩:=zDz h0
  obtain⟨h2,k⟩:=h.free e
  refine⟨h2.ext (fun j _ _=>?_) (fun j _ _=>?_),k⟩
  ·rw[hc];simp only[at1,rC];split <;>split <;>rfl
  ·rw[hd];simp only[at1,rS];split <;>split <;>rfl
 ·cases e
theorem zMc{s s1:TS}{id price qty:Int}(h:IV s (fun _=>0) (fun _=>0))(hin:zAh s.bs s.ss id=true)(hk:swp.zDF (spot s.bs s.ss id).p (spot s.bs s.ss id).r price qty=true)(e:shrink s id price qty=.ok s1):IZ s s1:=by
 have hw1:=(zGF h.wf hin hk e).wf
 have hA:=spot_at h.wf.book hin
 unfold shrink at e
 simp only[] at e
 generalize spot s.bs s.ss id=x at *
 obtain⟨xs,xp,xr,xi,xk⟩:=x
 simp only[] at e hk
 split at e
 ·rename_i hq
  obtain⟨s2,e1,e⟩:=zAy e
  unfold swp.zDF at hk
  simp only[Bool.and_eq_true,decide_eq_true_eq] at hk
  obtain⟨rfl,hle⟩:=hk
  have g1:(IV s2 (fun j=>0 - (if xs=1 then rC j (price,xr) - rC j (price,swp.zAS xr qty) else 0)) (fun j=>0 - (if xs=1 then 0 else rS j (price,xr) - rS j (price,swp.zAS xr qty)))∧sumC s2.ps=sumC s.ps∧sumS s2.ps=sumS s.ps)∧s2.bs=s.bs∧s2.ss=s.ss:=by
   have hnC:∀j,rC j (price,(⟨id,xr.who,xr.qty+xr.hid - qty,0,0⟩:R))=rC j (price,xr) - rC j (price,swp.zAS xr qty):=fun j=>by
    unfold rC
    simp only[zMb]
    have hwho:(swp.zAS xr qty).who=xr.who:=rfl
    rw[hwho]
    unfold tq
    simp only[]
    split
    ·rw[←Int.mul_sub];congr 1;omega
    ·rfl
   have hnS:∀j,rS j (price,(⟨id,xr.who,xr.qty+xr.hid - qty,0,0⟩:R))=rS j (price,xr) - rS j (price,swp.zAS xr qty):=fun j=>by
    unfold rS
    simp only[zMb]
    have hwho:(swp.zAS xr qty).who=xr.who:=rfl
    rw[hwho]
    unfold tq
    simp only[]
    split <;>omega
   split at e1
   ·obtain⟨k1,k2⟩:=zOI h e1
    have sm:=(zDS h.wf e1).2
    exact⟨⟨k1.ext (fun j _ _=>by rw[hnC]) (fun j _ _=>by rw[hnS]),k2⟩,sm.bs,sm.ss⟩
   ·rename_i hz
    cases e1
    have hz2:xr.qty+xr.hid - qty=0:=by omega
    refine⟨⟨h.ext (fun j _ _=>?_) (fun j _ _=>?_),rfl,rfl⟩,rfl,rfl⟩
    ·rw[←hnC];unfold rC tq;simp only[hz2];split
     ·split
      ·simp
      ·rfl
     ·rfl
    ·rw[←hnS];unfold rS tq;simp only[hz2];split
     ·rfl
     ·split <;>rfl
  obtain⟨⟨i2,q1,q2⟩,b1,b2⟩:=g1
  cases e
  have hd:=fun f=>zOH hA (swp.zAS xr qty) f
  have hi:IV { s2 with bs:=swp.kB xs s.bs xi xk (swp.zAS xr qty),ss:=swp.kS xs s.ss xi xk (swp.zAS xr qty) } (fun _=>0) (fun _=>0):=by
   refine⟨⟨hw1.m0,hw1.m3,hw1.book,hw1.ok,hw1.ws⟩,fun j h1 h2=>?_,fun j h1 h2=>?_,i2.wck,i2.rck,i2.last,i2.evs⟩
   ·have h3:=i2.held j h1 h2
    have h4:=(hd (rC j)).1
    rw[b1] at h3
    show (s2.ps[ix j]!).held=sumI (rC j) (prs (swp.kB xs s.bs xi xk (swp.zAS xr qty)))+sumI (oC j) s2.ws+sumI (fun x:Sl=>oC j x.o) s2.row+0
    by_cases hx:xs=1
    ·simp only[if_pos hx] at h3 h4;omega
    ·simp only[if_neg hx] at h3 h4;omega
   ·have h3:=i2.hs j h1 h2
    have h4:=(hd (rS j)).2
    rw[b2] at h3
    show (s2.ps[ix j]!).hs=sumI (rS j) (prs (swp.kS xs s.ss xi xk (swp.zAS xr qty)))+sumI (oS j) s2.ws+sumI (fun x:Sl=>oS j x.o) s2.row+0
    by_cases hx:xs=1
    ·simp only[if_pos hx] at h3 h4;omega
    ·simp only[if_neg hx] at h3 h4;omega
  exact⟨hi.tell (by decide) _ _ _,q1,q2⟩
 ·cases e
theorem zQN{s s1:TS}{id price qty:Int}(h:IV s (fun _=>0) (fun _=>0))(e:swap s id price qty=.ok s1):IZ s s1:=by
 unfold swap at e
 split at e
 ·rename_i hE
  obtain⟨-,hin,-⟩:=swp.zHn hE
  split at e
  ·rename_i hk;exact zMc h hin hk e
  ·obtain⟨s2,e1,e⟩:=zAy e
   have g:=zIp h e1
   exact IZ.trans ⟨g.c,g.s⟩ (zIo g.iv e)
 ·cases e
def paid(c:Cm):Int:=if c.what=4 then c.n else 0
def given(c:Cm):Int:=if c.what=5 then c.n else 0
theorem doC_iv{s s1:TS}{c:Cm}(h:IV s (fun _=>0) (fun _=>0))(e:doC s c=.ok s1):IV s1 (fun _=>0) (fun _=>0)∧sumC s1.ps=sumC s.ps+paid c∧sumS s1.ps=sumS s.ps+given c:=by
 have hg:=zGG h.wf e
 unfold doC at e
 unfold paid given
 split at e
 ·rename_i hw;have g:=zIo h e;rw[if_neg (by omega),if_neg (by omega),g.c,g.s];exact⟨g.iv,by omega,by omega⟩
 split at e
 ·rename_i hw;have g:=zMa h e;rw[if_neg (by omega),if_neg (by omega),g.c,g.s];exact⟨g.iv,by omega,by omega⟩
 split at e
 ·rename_i hw;have g:=zQN h e;rw[if_neg (by omega),if_neg (by omega),g.c,g.s];exact⟨g.iv,by omega,by omega⟩
 split at e
 ·rename_i hw
  unfold payS at e
  split at e
  ·rename_i h0
   cases e
   have hs:=sms.zQD h.wf.ok c.who c.n
   rw[if_pos h0] at hs
   rw[if_pos hw,if_neg (by omega)]
   refine⟨⟨hg.wf,fun j h1 h2=>?_,fun j h1 h2=>?_,h.wck,h.rck,h.last,h.evs⟩,hs.1,by rw[hs.2];omega⟩
   ·rw[←h.held j h1 h2];exact(zPh h.wf.ok h1 h2).1
   ·rw[←h.hs j h1 h2];exact(zPh h.wf.ok h1 h2).2
  ·cases e
 split at e
 ·rename_i hw
  unfold zGy at e
  split at e
  ·rename_i h0
   cases e
   have hs:=sms.zOB h.wf.ok c.who c.n
   rw[if_pos h0] at hs
   rw[if_neg (by omega),if_pos hw]
   refine⟨⟨hg.wf,fun j h1 h2=>?_,fun j h1 h2=>?_,h.wck,h.rck,h.last,h.evs⟩,by rw[hs.1];omega,hs.2⟩
   ·rw[←h.held j h1 h2];exact(zLV h.wf.ok h1 h2).1
   ·rw[←h.hs j h1 h2];exact(zLV h.wf.ok h1 h2).2
  ·cases e
 ·cases e
theorem zEs:∀ (n:Nat) {s s1:TS},Wf s→s.row.length+s.ws.length≤n→zBI n s=.ok s1→s1.row=[]
 | 0,s,s1,_,hn,e=>by cases e;exact List.eq_nil_of_length_eq_zero (by omega)
 | n+1,s,s1,h,hn,e=>by
  cases hr:s.row with
  | nil=>rw[zBB _ _ hr] at e;cases e;exact hr
  | cons x t=>
   rw[zCn _ _ hr] at e
   obtain⟨s2,e1,e⟩:=zAy e
   have hw:Wf (tell { s with row:=t } 4 x.o.id x.o.qty x.p):=⟨h.m0,h.m3,h.book,h.ok,h.ws⟩
   have g:=zHt hw e1
   have h3:(tell { s with row:=t } 4 x.o.id x.o.qty x.p).row.length+(tell { s with row:=t } 4 x.o.id x.o.qty x.p).ws.length=t.length+s.ws.length:=rfl
   have h4:=g.row
   rw[hr] at hn
   simp only[jG] at hn
   exact zEs n g.wf (by omega) e
structure FI (f:FS) (c s:Int):Prop where
 iv:IV (zAq f) (fun _=>0) (fun _=>0)
 c:sumC f.ps=c
 s:sumS f.ps=s
theorem fdo_iv{f:FS}{cm:Cm}{s:TS}{c d:Int}(h:FI f c d)(e:fdo f cm=.ok s):FI (zCm s) (c+paid cm) (d+given cm)∧(¬f.mode=0→∀x∈s.evs,x.what=2→¬x.tr.frm=x.tr.into)∧s.row=[]:=by
 obtain⟨s1,e1,e2⟩:=zAy e
 obtain⟨h1,k1,k2⟩:=doC_iv h.iv e1
 have h2:=zGM _ h1 e2
 have hm1:=(zGG h.iv.wf e1).mode
 have hm2:=(zDk _ h1.wf e2).2
 have hr:=zEs _ h1.wf (nzR _) e2
 have hi:=h2.iv
 refine⟨⟨⟨⟨hi.wf.m0,hi.wf.m3,hi.wf.book,hi.wf.ok,hi.wf.ws⟩,fun j a b=>?_,fun j a b=>?_,hi.wck,(fun x hx=>by cases hx),hi.last,(fun _ x hx=>by cases hx)⟩,?_,?_⟩,fun hm x hx hw=>?_,hr⟩
 ·have:=hi.held j a b
  rw[hr] at this
  exact this
 ·have:=hi.hs j a b
  rw[hr] at this
  exact this
 ·show sumC s.ps=_
  rw[h2.c,k1,←h.c];rfl
 ·show sumS s.ps=_
  rw[h2.s,k2,←h.s];rfl
 ·exact hi.evs (by rw[hm2,hm1];exact hm) x hx hw
theorem zMd{m:Int}(h0:0≤m)(h3:m≤3):FI ⟨m,0,[],[],[],newL 9⟩ 0 0:=by
 refine⟨⟨⟨h0,h3,(show zAd [] []=0 by decide),pur.zQk,jL _⟩,fun j a b=>?_,fun j a b=>?_,(fun x hx=>by cases hx),(fun x hx=>by cases hx),.inl rfl,(fun _ x hx=>by cases hx)⟩,rfl,rfl⟩
 ·show ((newL 9)[ix j]!).held=_
  rw[pur.zDu 9 (ix j) (ix_lt a b)];rfl
 ·show ((newL 9)[ix j]!).hs=_
  rw[pur.zDu 9 (ix j) (ix_lt a b)];rfl
theorem zFF{s:Int}{ls:List L}(h:schk s ls=0):∀x∈prs ls,1≤x.1∧x.1≤10000∧rchk x.2=0:=by
 intro x hx
 unfold prs at hx
 obtain⟨l,hl,hx⟩:=List.mem_flatMap.1 hx
 obtain⟨r,hr,rfl⟩:=List.mem_map.1 hx
 obtain⟨h1,h2,h3⟩:=zAg (zAs (zAc h).2.1 l hl)
 exact⟨h1.1,h1.2,((zAl _).1 h3).2.1 r hr⟩
theorem tq_nn{r:R}(h:rchk r=0):0≤tq r:=by have:=mrg.zDv h;unfold tq;omega
theorem rC_nn{s:Int}{ls:List L}(h:schk s ls=0)(j:Int):∀x∈prs ls,0≤rC j x:=fun x hx=>by
 have h1:=zFF h x hx
 unfold rC
 split
 ·exact Int.mul_nonneg (by omega) (tq_nn h1.2.2)
 ·exact jY _
theorem rS_nn{s:Int}{ls:List L}(h:schk s ls=0)(j:Int):∀x∈prs ls,0≤rS j x:=fun x hx=>by
 have h1:=zFF h x hx
 unfold rS
 split
 ·exact tq_nn h1.2.2
 ·exact jY _
theorem oC_nn{o:O}(h:chk o=0)(j:Int):0≤oC j o:=by
 have h1:=mrg.zAX h
 unfold oC
 split
 ·exact Int.mul_nonneg (by omega) (by omega)
 ·exact jY _
theorem oS_nn{o:O}(h:chk o=0)(j:Int):0≤oS j o:=by
 have h1:=mrg.zAX h
 unfold oS
 split <;>omega
theorem zOJ{r:R}(h:rchk r=0):1≤r.who∧r.who≤9:=(que.zAt h).2.2.2.2.2.2
theorem zQO{o:O}(h:chk o=0):1≤o.who∧o.who≤9:=by
 have h1:=(ord.zBx h).1
 simp[ord.zCM] at h1
 omega
end flr
namespace flr
open Go.RowKit
open que (R rchk)
open sid (L DL LS)
open mee (T tV OwnT zAr zAu metR)
open ord (O oV chk errV errV_zero errV_of)
open bok (zAd zAh)
open kin (kdoE)
open slf (OwnI sE Fine)
open que (bal)
open wak (St SL Lies oL idx Trn)
structure VI (m:Int) (bs ss:List L) (o:O) (w' : World) (q1:Option Addr) (n1 c1:Nat) (q2:Option Addr) (n2 c2:Nat) (qt:Option Addr) (nt ct:Nat) (g:Int) (qi:Option Addr) (ni ci:Nat) (E:Value):Prop where
 ok:vE m bs ss o=0→E=.nilIface∧g=(vR m bs ss o).gone∧DL w' 0 (.slice q1 n1 c1) (vR m bs ss o).bs∧DL w' 0 (.slice q2 n2 c2) (vR m bs ss o).ss∧OwnT w' 0 (.slice qt nt ct) (vR m bs ss o).ts∧OwnI w' 0 (.slice qi ni ci) (vR m bs ss o).ids
 bad:¬vE m bs ss o=0→E=.iface 91 (.int .i64 (vE m bs ss o))
theorem VI.kp{S:List TypeId}{m:Int}{bs ss:List L}{o:O}{w w' : World}{q1:Option Addr}{n1 c1:Nat}{q2:Option Addr}{n2 c2:Nat}{qt:Option Addr}{nt ct:Nat}{g:Int}{qi:Option Addr}{ni ci:Nat}{E:Value}(h:VI m bs ss o w q1 n1 c1 q2 n2 c2 qt nt ct g qi ni ci E)(hk:Kp S w w')(h1:52 ∉ S)(h2:54 ∉ S)(h3:40 ∉ S)(h4:3 ∉ S):VI m bs ss o w' q1 n1 c1 q2 n2 c2 qt nt ct g qi ni ci E:=
 ⟨fun e=>by
  obtain⟨a,b,c,d,e,f⟩:=h.ok e
  exact⟨a,b,hk.dl c h1 h2,hk.dl d h1 h2,hk.ownQ e h3,hk.ownQ f h4⟩,h.bad⟩
theorem zOK(m:Int)(h0:0≤m)(h3:m≤3)(q1 q2:Option Addr)(n1 n2 c1 c2:Nat)(bs ss:List L)(a b c d p q s t:Int)(w:World)(h1:LS w (.slice q1 n1 c1) bs)(h2:LS w (.slice q2 n2 c2) ss) :
  Calls Tryz.prog 98 #[.agg #[.slice q1 n1 c1,.slice q2 n2 c2],.agg #[.int .i64 a,.int .i64 b,.int .i64 c,.int .i64 d,.int .i64 p,.int .i64 q,.int .i64 s,.int .i64 t],.int .i64 m] w fun e w'=>∃u1 m1 d1 u2 m2 d2 qt nt ct g qi ni ci E,e=.returned (.tuple #[.agg #[.slice u1 m1 d1,.slice u2 m2 d2],.slice qt nt ct,.int .i64 g,.slice qi ni ci,E])∧VI m bs ss ⟨a,b,c,d,p,q,s,t⟩ w' u1 m1 d1 u2 m2 d2 qt nt ct g qi ni ci E∧Below w.heap.size w w':=by
 by_cases hm:m=0
 ·subst hm
  refine(slf.zNN q1 q2 n1 n2 c1 c2 bs ss a b c d p q s t w h1 h2).mono ?_
  rintro e w'⟨k1,k2,k3⟩
  have hE:vE 0 bs ss ⟨a,b,c,d,p,q,s,t⟩=kdoE bs ss ⟨a,b,c,d,p,q,s,t⟩:=by unfold vE;rw[if_pos rfl]
  by_cases hk:kdoE bs ss ⟨a,b,c,d,p,q,s,t⟩=0
  ·obtain⟨y1,y2,l1,l2,f1,f2,tv,rfl,D1,D2,OT⟩:=k1 hk
   obtain⟨tq,tc,rfl⟩:=wak.OwnM.form OT
   refine⟨y1,l1,f1,y2,l2,f2,tq,_,tc,_,none,0,0,_,rfl,⟨fun _=>⟨rfl,?_,?_,?_,?_,?_⟩,fun h=>absurd (hE.trans hk) h⟩,k3⟩
   ·unfold vR;rw[if_pos rfl]
   ·unfold vR;rw[if_pos rfl];exact D1.mono (jL _)
   ·unfold vR;rw[if_pos rfl];exact D2.mono (jL _)
   ·unfold vR;rw[if_pos rfl];exact wak.OwnM.mono OT (jL _)
   ·unfold vR;rw[if_pos rfl];exact⟨rfl,.inl ⟨rfl,rfl⟩⟩
  ·have:=k2 hk
   subst this
   exact⟨none,0,0,none,0,0,none,0,0,0,none,0,0,_,rfl,⟨fun h=>absurd (hE.symm.trans h) hk,fun _=>by rw[hE];exact spn.errV_of hk⟩,k3⟩
 ·refine(slf.zNM m (by omega) q1 q2 n1 n2 c1 c2 bs ss a b c d p q s t w h1 h2).mono ?_
  rintro e w'⟨k1,k2,k3⟩
  by_cases hc:zAu bs ss ⟨a,b,c,d,p,q,s,t⟩=0
  ·obtain⟨v,hv⟩:=slf.zEg (m:=m) (o:=⟨a,b,c,d,p,q,s,t⟩) (k:=q) (by omega) (other_good hc)
   have hvv:=zHr hv
   have hE:vE m bs ss ⟨a,b,c,d,p,q,s,t⟩=sE bs ss ⟨a,b,c,d,p,q,s,t⟩ v:=by unfold vE;rw[if_neg hm,if_pos hc];simp only[hvv]
   have hV:vR m bs ss ⟨a,b,c,d,p,q,s,t⟩=⟨kin.setB (slf.repB ⟨a,b,c,d,p,q,s,t⟩ bs v.ls) ⟨a,b,c,d,p,q,s,t⟩ (slf.lfV v),kin.setS (slf.repS ⟨a,b,c,d,p,q,s,t⟩ ss v.ls) ⟨a,b,c,d,p,q,s,t⟩ (slf.lfV v),v.ts,slf.gnV v+kin.setG ⟨a,b,c,d,p,q,s,t⟩ (slf.lfV v),v.ids⟩:=by unfold vR;rw[if_neg hm];simp only[hvv]
   obtain⟨k4,k5⟩:=k2 hc v hv
   by_cases hs:sE bs ss ⟨a,b,c,d,p,q,s,t⟩ v=0
   ·obtain⟨y1,y2,l1,l2,f1,f2,tv,iv,rfl,D1,D2,OT,OI⟩:=k4 hs
    obtain⟨tq,tc,rfl⟩:=wak.OwnM.form OT
    obtain⟨iq,ic,rfl⟩:=wak.OwnM.form OI
    refine⟨y1,l1,f1,y2,l2,f2,tq,_,tc,_,iq,_,ic,_,rfl,⟨fun _=>⟨rfl,?_,?_,?_,?_,?_⟩,fun h=>absurd (hE.trans hs) h⟩,k3⟩
    ·rw[hV]
    ·rw[hV];exact D1.mono (jL _)
    ·rw[hV];exact D2.mono (jL _)
    ·rw[hV];exact wak.OwnM.mono OT (jL _)
    ·rw[hV];exact wak.OwnM.mono OI (jL _)
   ·have:=k5 hs
    subst this
    exact⟨none,0,0,none,0,0,none,0,0,0,none,0,0,_,rfl,⟨fun h=>absurd (hE.symm.trans h) hs,fun _=>by rw[hE];exact spn.errV_of hs⟩,k3⟩
  ·have:=k1 hc
   subst this
   have hE:vE m bs ss ⟨a,b,c,d,p,q,s,t⟩=zAu bs ss ⟨a,b,c,d,p,q,s,t⟩:=by unfold vE;rw[if_neg hm,if_neg hc]
   exact⟨none,0,0,none,0,0,none,0,0,0,none,0,0,_,rfl,⟨fun h=>absurd (hE.symm.trans h) hc,fun _=>by rw[hE];exact spn.errV_of hc⟩,k3⟩
theorem zJp{W w2:World}{cur:Array Value}{t:TypeId}(h:Below (W.alloc (.cells cur t)).drew.heap.size (W.alloc (.cells cur t)).drew w2):w2.heap[W.heap.size]?=some (.cells cur t (0,0)):=zBl (show (W.alloc (.cells cur t)).drew.heap[W.heap.size]?=some (.cells cur t (0,0)) from jA W _) h
set_option maxRecDepth 100000 in
set_option maxHeartbeats 2000000 in
theorem zGO(b t:Nat)(s:TS)(v:TV)(a1 a2 a3 a4 a5 a6 a7 a8:Int)(w:World)(h:TM w b t s v)(hw:Wf s) :
  Calls Tryz.prog 74 #[.pointer (some ⟨t,0,none⟩),.agg #[.int .i64 a1,.int .i64 a2,.int .i64 a3,.int .i64 a4,.int .i64 a5,.int .i64 a6,.int .i64 a7,.int .i64 a8]] w fun e w'=>∃q1 n1 c1 q2 n2 c2 qt nt ct g qi ni ci E,e=.returned (.tuple #[.agg #[.slice q1 n1 c1,.slice q2 n2 c2,.slice qt nt ct,.int .i64 g,.slice qi ni ci],E])∧VI s.mode s.bs s.ss ⟨a1,a2,a3,a4,a5,a6,a7,a8⟩ w' q1 n1 c1 q2 n2 c2 qt nt ct g qi ni ci E∧Below w.heap.size w w':=by
 obtain⟨W1,hW1⟩:∃W,W=w.alloc (.cells #[.int .i64 a1,.int .i64 a2,.int .i64 a3,.int .i64 a4,.int .i64 a5,.int .i64 a6,.int .i64 a7,.int .i64 a8] 32):=⟨_,rfl⟩
 have hb1:Below w.heap.size w W1:=by rw[hW1];exact(bzR _ _).alloc (nzR _) _
 have hs1:W1.heap.size=w.heap.size+1:=by rw[hW1];simp
 have hr1:W1.heap[w.heap.size]?=some (.cells #[.int .i64 a1,.int .i64 a2,.int .i64 a3,.int .i64 a4,.int .i64 a5,.int .i64 a6,.int .i64 a7,.int .i64 a8] 32 (0,0)):=by rw[hW1];exact jA w _
 obtain⟨W,hW⟩:∃W,W=W1.alloc (.cells #[.slice none 0 0,.slice none 0 0,.slice none 0 0,.int .i64 0,.slice none 0 0] 132):=⟨_,rfl⟩
 have hb2:Below W1.heap.size W1 W:=by rw[hW];exact(bzR _ _).alloc (nzR _) _
 have hs2:W.heap.size=w.heap.size+2:=by rw[hW];simp[hs1]
 have hr2:W.heap[w.heap.size+1]?=some (.cells #[.slice none 0 0,.slice none 0 0,.slice none 0 0,.int .i64 0,.slice none 0 0] 132 (0,0)):=by rw[←hs1,hW];exact jA W1 _
 have hBW:=hb1.trans (hb2.mono hb1.size)
 obtain⟨G,hG⟩:∃G,G=w.heap.size:=⟨_,rfl⟩
 have hrG:W.heap[G]?=some (.cells #[.int .i64 a1,.int .i64 a2,.int .i64 a3,.int .i64 a4,.int .i64 a5,.int .i64 a6,.int .i64 a7,.int .i64 a8] 32 (0,0)):=by rw[hG];exact zBl hr1 hb2
 rw[←hG] at hr2
 have HSD:Hid (∀U,Below W.heap.size W U→Calls Tryz.prog 98 #[.agg #[.slice v.q1 v.n1 v.c1,.slice v.q2 v.n2 v.c2],.agg #[.int .i64 a1,.int .i64 a2,.int .i64 a3,.int .i64 a4,.int .i64 a5,.int .i64 a6,.int .i64 a7,.int .i64 a8],.int .i64 s.mode] U fun e w'=>∃u1 m1 d1 u2 m2 d2 qt nt ct g qi ni ci E,e=.returned (.tuple #[.agg #[.slice u1 m1 d1,.slice u2 m2 d2],.slice qt nt ct,.int .i64 g,.slice qi ni ci,E])∧Hid (VI s.mode s.bs s.ss ⟨a1,a2,a3,a4,a5,a6,a7,a8⟩ w' u1 m1 d1 u2 m2 d2 qt nt ct g qi ni ci E)∧Hid (Below U.heap.size U w')∧Below W.heap.size W w'):=fun U hU=>by
  have hM:=h.below (hBW.trans (hU.mono hBW.size))
  refine(zOK s.mode hw.m0 hw.m3 v.q1 v.q2 v.n1 v.n2 v.c1 v.c2 s.bs s.ss a1 a2 a3 a4 a5 a6 a7 a8 U hM.buys.ls hM.sells.ls).mono ?_
  rintro e w'⟨u1,m1,d1,u2,m2,d2,qt,nt,ct,g,qi,ni,ci,E,rfl,k1,k2⟩
  exact⟨u1,m1,d1,u2,m2,d2,qt,nt,ct,g,qi,ni,ci,E,rfl,k1,k2,hU.trans (k2.mono hU.size)⟩
 obtain⟨x0,x1,x2,x3,x4,x5,x6,x7,-⟩:=(h.below hBW).cells
 obtain⟨c0,c1,c2,c3,c4,c5,c6,c7,-⟩:=wak.row8 hrG
 have HRF:=hidF (bzR W.heap.size W)
 have HRP:=hidF hr2
 have HBW:=hidF hBW
 have HSZ:=hidF (show W.heap.size=w.heap.size+2∧G=w.heap.size from⟨hs2,hG⟩)
 obtain⟨q1,n1,c1',q2,n2,c2',sp,vw,pp,qe,ne,ce,qk,nk,ck⟩:=v
 simp only[] at x0 x1 x2 x3 x4 x5 x6 x7
 generalize s.mode=M at *
 generalize s.bs=BS at *
 generalize s.ss=SS at *
 clear h hw hBW hrG hr1 hr2 hb1 hb2 hs1 hs2
 go_enter Tryz.func74,Tryz.ntmps74
 go_upto_region 1 with fail
 rw[←hW1,←hW]
 simp only[←hG]
 clear hW hW1 hG
 have SO:Hid (∀U,Below W.heap.size W U→(U.cell? ⟨t,0,none⟩=some (.int .i64 M)∧U.cell? ⟨t,1,none⟩=some (.slice q1 n1 c1')∧U.cell? ⟨t,2,none⟩=some (.slice q2 n2 c2')∧U.cell? ⟨G,0,none⟩=some (.int .i64 a1)∧U.cell? ⟨G,1,none⟩=some (.int .i64 a2)∧U.cell? ⟨G,2,none⟩=some (.int .i64 a3)∧U.cell? ⟨G,3,none⟩=some (.int .i64 a4)∧U.cell? ⟨G,4,none⟩=some (.int .i64 a5)∧U.cell? ⟨G,5,none⟩=some (.int .i64 a6)∧U.cell? ⟨G,6,none⟩=some (.int .i64 a7)∧U.cell? ⟨G,7,none⟩=some (.int .i64 a8))):=fun U hU=>⟨spn.zAa hU x0,spn.zAa hU x1,spn.zAa hU x2,spn.zAa hU c0,spn.zAa hU c1,spn.zAa hU c2,spn.zAa hU c3,spn.zAa hU c4,spn.zAa hU c5,spn.zAa hU c6,spn.zAa hU c7⟩
 clear x0 x1 x2 x3 x4 x5 x6 x7 c0 c1 c2 c3 c4 c5 c6 c7
 go_region_held3 (fun W=>W.cell? ⟨t,0,none⟩=some (.int .i64 M)∧W.cell? ⟨t,1,none⟩=some (.slice q1 n1 c1')∧W.cell? ⟨t,2,none⟩=some (.slice q2 n2 c2')∧W.cell? ⟨G,0,none⟩=some (.int .i64 a1)∧W.cell? ⟨G,1,none⟩=some (.int .i64 a2)∧W.cell? ⟨G,2,none⟩=some (.int .i64 a3)∧W.cell? ⟨G,3,none⟩=some (.int .i64 a4)∧W.cell? ⟨G,4,none⟩=some (.int .i64 a5)∧W.cell? ⟨G,5,none⟩=some (.int .i64 a6)∧W.cell? ⟨G,6,none⟩=some (.int .i64 a7)∧W.cell? ⟨G,7,none⟩=some (.int .i64 a8))
  (first|with_reducible assumption|(refine SO.out _ ?_;(with_reducible repeat' (first|exact HRF.out|assumption|refine bal ?_ _|refine Below.setCell ?_ ?_ _|refine Below.drew ?_|exact nzR _|exact Below.size (by assumption)));done))
  (first|(go_at_call 98;with_reducible refine(HSD.out _ ?_).mono ?_;(with_reducible repeat' (first|exact HRF.out|assumption|refine bal ?_ _|refine Below.setCell ?_ ?_ _|refine Below.drew ?_|exact nzR _|exact Below.size (by assumption)));rintro x w2 ⟨u1,m1,d1,u2,m2,d2,qt,nt,ct,g,qi,ni,ci,E,rfl,HV,HB2,hb2⟩;have hSW:=SO.out w2 hb2;(first|(have hq:=zJp HB2.out;obtain⟨z0,z1,zf⟩:=sid.zAb hq;have zf0:=zf 0;have zf1:=zf 1)|skip)))
 ·obtain⟨Z,hZ⟩:∃Z,Z=w2.alloc (.cells #[.slice u1 m1 d1,.slice u2 m2 d2] 46):=⟨_,rfl⟩
  have hbZ:Below w2.heap.size w2 Z:=by rw[hZ];exact(bzR _ _).alloc (nzR _) _
  have hrB:Z.heap[w2.heap.size]?=some (.cells #[.slice u1 m1 d1,.slice u2 m2 d2] 46 (0,0)):=by rw[hZ];exact jA w2 _
  have hV:=HV.out.kp (S:=[]) (Kp.below hbZ) (by simp) (by simp) (by simp) (by simp)
  have hbW:=hb2.trans (hbZ.mono hb2.size)
  rw[←hZ]
  clear hZ hbZ hb2 HB2 HV hSW SO HSD
  generalize w2.heap.size=B at *
  obtain⟨b0,b1,-⟩:=sid.zAb hrB
  have hrP:=zBl HRP.out hbW
  obtain⟨p0,p1,p2,p3,p4,pf⟩:=sid.zAe hrP
  have pf0:=pf 0
  have pf1:=pf 1
  have pf2:=pf 2
  have pf3:=pf 3
  have pf4:=pf 4
  have hgg:=sid.zBP Z (G+1) (.slice u1 m1 d1) (.slice u2 m2 d2) (.slice qt nt ct) (.int .i64 g) (.slice qi ni ci)
  have HX1:=hidF (sid.zAV hrP (.slice u1 m1 d1) (.slice u2 m2 d2) (.slice qt nt ct) (.int .i64 g) (.slice qi ni ci))
  have hwZ:=HBW.out.trans (hbW.mono HBW.out.size)
  have HBF:=hidF (hwZ.grown hgg hwZ.size (fun k hk=>by cases hk;have:=HSZ.out;omega))
  have HVF:=hidF (hV.kp (S:=[132]) (Kp.grown hgg hrP (by simp)) (by decide) (by decide) (by decide) (by decide))
  clear hrB hrP pf hgg hwZ hV hbW
  go_wp2_with fail
  generalize ((((Z.setCell ⟨G+1,0,none⟩ (.slice u1 m1 d1)).setCell ⟨G+1,1,none⟩ (.slice u2 m2 d2)).setCell ⟨G+1,2,none⟩ (.slice qt nt ct)).setCell ⟨G+1,3,none⟩ (.int .i64 g)).setCell ⟨G+1,4,none⟩ (.slice qi ni ci)=X at *
  obtain⟨y0,y1,y2,y3,y4,-⟩:=sid.zAe HX1.out
  exact jN (v:=.tuple #[.agg #[.slice u1 m1 d1,.slice u2 m2 d2,.slice qt nt ct,.int .i64 g,.slice qi ni ci],E]) (by simp[results,Tryz.results74,go_sem,y0,y1,y2,y3,y4]) rfl ⟨u1,m1,d1,u2,m2,d2,qt,nt,ct,g,qi,ni,ci,E,rfl,HVF.out,HBF.out⟩
 ·obtain⟨Z,hZ⟩:∃Z,Z=(w2.setCell ⟨W.heap.size,0,none⟩ (.slice u1 m1 d1)).setCell ⟨W.heap.size,1,none⟩ (.slice u2 m2 d2):=⟨_,rfl⟩
  have hgZ:w2.grownBy Z (some W.heap.size):=by rw[hZ];exact sid.zAN w2 W.heap.size _ _
  have hrB:Z.heap[W.heap.size]?=some (.cells #[.slice u1 m1 d1,.slice u2 m2 d2] 46 (0,0)):=by rw[hZ];exact sid.zAw hq _ _
  have hV:=HV.out.kp (S:=[46]) (Kp.grown hgZ hq (by simp)) (by decide) (by decide) (by decide) (by decide)
  have hbW:=hb2.grown hgZ hb2.size (fun k hk=>by cases hk;exact nzR _)
  rw[←hZ]
  clear hZ hgZ hb2 HB2 HV hSW SO HSD z0 z1 zf zf0 zf1 hq
  generalize hBB:W.heap.size=B at hrB
  clear hBB
  obtain⟨b0,b1,-⟩:=sid.zAb hrB
  have hrP:=zBl HRP.out hbW
  obtain⟨p0,p1,p2,p3,p4,pf⟩:=sid.zAe hrP
  have pf0:=pf 0
  have pf1:=pf 1
  have pf2:=pf 2
  have pf3:=pf 3
  have pf4:=pf 4
  have hgg:=sid.zBP Z (G+1) (.slice u1 m1 d1) (.slice u2 m2 d2) (.slice qt nt ct) (.int .i64 g) (.slice qi ni ci)
  have HX1:=hidF (sid.zAV hrP (.slice u1 m1 d1) (.slice u2 m2 d2) (.slice qt nt ct) (.int .i64 g) (.slice qi ni ci))
  have hwZ:=HBW.out.trans (hbW.mono HBW.out.size)
  have HBF:=hidF (hwZ.grown hgg hwZ.size (fun k hk=>by cases hk;have:=HSZ.out;omega))
  have HVF:=hidF (hV.kp (S:=[132]) (Kp.grown hgg hrP (by simp)) (by decide) (by decide) (by decide) (by decide))
  clear hrB hrP pf hgg hwZ hV hbW
  go_wp2_with fail
  generalize ((((Z.setCell ⟨G+1,0,none⟩ (.slice u1 m1 d1)).setCell ⟨G+1,1,none⟩ (.slice u2 m2 d2)).setCell ⟨G+1,2,none⟩ (.slice qt nt ct)).setCell ⟨G+1,3,none⟩ (.int .i64 g)).setCell ⟨G+1,4,none⟩ (.slice qi ni ci)=X at *
  obtain⟨y0,y1,y2,y3,y4,-⟩:=sid.zAe HX1.out
  exact jN (v:=.tuple #[.agg #[.slice u1 m1 d1,.slice u2 m2 d2,.slice qt nt ct,.int .i64 g,.slice qi ni ci],E]) (by simp[results,Tryz.results74,go_sem,y0,y1,y2,y3,y4]) rfl ⟨u1,m1,d1,u2,m2,d2,qt,nt,ct,g,qi,ni,ci,E,rfl,HVF.out,HBF.out⟩
end flr
end Go.Proofs.YtifjhlgjgnnnpaaGreat
