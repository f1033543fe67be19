import Derived.Test.YtifjhlgjgnnnpaaGreatFlrInv6
namespace Go.Proofs.YtifjhlgjgnnnpaaGreat
namespace flr
open Go.RowKit que sid mee
open ord (O oV chk prB mB)
open bok (bookE inBook)
open mrg (resv forC forS leftE leftC leftS putC putS)
open pur (Pz Ok ix newL)
open sms (sumC sumS)
theorem zEj{ps:List Pz}(ho:Ok ps){who c d:Int}(h1:1≤who)(h2:who≤9)(c0:0≤c)(cl:c≤(ps[ix who]!).held)(d0:0≤d)(dl:d≤(ps[ix who]!).hs):pur.freeE ps who c d=0:=by
 have hz:=ho.all (ix who) (ix_lt h1 h2)
 have a1:=hz.hc
 have a2:=hz.cm
 have a3:=hz.ts
 have a4:=hz.sm
 have hb:pur.badH who c d=false:=by simp[pur.badH,spn.spanB];omega
 unfold pur.freeE
 rw[hb,if_neg (by decide),if_neg (by omega)]
def bIds(bs ss:List L):List Int:=(allR bs++allR ss).map (·.id)
theorem zLq{bs ss:List L}{id:Int}:inBook bs ss id=true↔id∈bIds bs ss:=by
 unfold bok.inBook bIds
 rw[decide_eq_true_iff,zAE,zAE,List.map_append,List.mem_append]
theorem drop_ids{ls:List L}{i k:Nat}(hi:i<ls.length)(hk:k<ls[i].rests.length):((allR ls).map (·.id)).Perm (ls[i].rests[k].id::(allR (dropL ls i k)).map (·.id)):=by
 obtain⟨a,b,c,d,h1,h2,h3,h4⟩:=swp.zBa hi hk
 generalize ls[i].rests[k]=r at *
 generalize ls[i].price=p at *
 rw[h1,←h2,←h4,swp.zCT]
 split
 ·rename_i hz
  have hc:c=[]:=List.eq_nil_of_length_eq_zero (by omega)
  have hd:d=[]:=List.eq_nil_of_length_eq_zero (by omega)
  subst hc hd
  rw[zAv,zAv,zAf]
  simp only[List.nil_append,List.map_append,List.map_cons,List.singleton_append]
  exact List.perm_middle
 ·rw[zAv,zAv,zAf,zAf]
  simp only[List.map_append,List.map_cons,List.append_assoc,List.cons_append]
  rw[←List.append_assoc,←List.append_assoc]
  exact List.perm_middle
theorem zIj{bs ss:List L}{id a p:Int}{r:R}{i k:Nat}(h:swp.At bs ss id a p r i k):(bIds bs ss).Perm (id::bIds (swp.cB a bs i k) (swp.cS a ss i k)):=by
 obtain⟨ls,hS,hp,hr⟩:=h
 have hd:=drop_ids hS.hi hS.hk
 rw[hS.hr] at hd
 clear hp hr
 unfold bIds swp.cB swp.cS
 rw[List.map_append,List.map_append]
 rcases hS.side with ⟨rfl,rfl,-⟩|⟨rfl,rfl,-⟩
 ·simp only[if_true]
  exact hd.append_right _
 ·simp only[if_neg (show ¬(2:Int)=1 by decide)]
  exact(hd.append_left _).trans List.perm_middle
theorem zCB{s:Int}{ls:List L}(h:schk s ls=0):∀x∈prs ls,1≤x.1∧x.1≤10000∧rchk x.2=0:=by
 intro x hx
 unfold prs at hx
 obtain⟨l,hl,hx⟩:=List.mem_flatMap.1 hx
 obtain⟨r,hr,rfl⟩:=List.mem_map.1 hx
 obtain⟨h1,h2,h3⟩:=zAc (zAh (zAa h).2.1 l hl)
 exact⟨h1.1,h1.2,((zAd _).1 h3).2.1 r hr⟩
theorem tq_nn{r:R}(h:rchk r=0):0≤tq r:=by have:=mrg.zCg h;unfold tq;omega
theorem rC_nn{s:Int}{ls:List L}(h:schk s ls=0)(j:Int):∀x∈prs ls,0≤rC j x:=fun x hx=>by
 have h1:=zCB h x hx
 unfold rC
 split
 ·exact Int.mul_nonneg (by omega) (tq_nn h1.2.2)
 ·exact Int.le_refl _
theorem rS_nn{s:Int}{ls:List L}(h:schk s ls=0)(j:Int):∀x∈prs ls,0≤rS j x:=fun x hx=>by
 have h1:=zCB h x hx
 unfold rS
 split
 ·exact tq_nn h1.2.2
 ·exact Int.le_refl _
theorem oC_nn{o:O}(h:chk o=0)(j:Int):0≤oC j o:=by
 have h1:=mrg.zAA h
 unfold oC
 split
 ·exact Int.mul_nonneg (by omega) (by omega)
 ·exact Int.le_refl _
theorem oS_nn{o:O}(h:chk o=0)(j:Int):0≤oS j o:=by
 have h1:=mrg.zAA h
 unfold oS
 split <;>omega
theorem who_rest{r:R}(h:rchk r=0):1≤r.who∧r.who≤9:=(que.zAg h).2.2.2.2.2.2
theorem who_ord{o:O}(h:chk o=0):1≤o.who∧o.who≤9:=by
 have h1:=(ord.zAH h).1
 simp[ord.headB] at h1
 omega
theorem zIk{s:TS}{id:Int}(h:IV s (fun _=>0) (fun _=>0))(hr0:s.row=[])(hin:inBook s.bs s.ss id=true) :
  ∃s1,leave s id=.ok s1∧s1.row=[]∧s1.ws=s.ws∧(bIds s.bs s.ss).Perm (id::bIds s1.bs s1.ss):=by
 have hA:=spot_at h.wf.book hin
 obtain⟨e1,e2,-⟩:=bok.zAb h.wf.book
 unfold leave
 rw[if_pos hin]
 generalize spot s.bs s.ss id=x at *
 obtain⟨a,p,r,i,k⟩:=x
 simp only[]
 have hA' : swp.At s.bs s.ss id a p r i k:=hA
 obtain⟨hm,ha⟩:=zGY hA'
 have hk:=hA'.rest
 have hw:=who_rest hk
 have hp:1≤p∧p≤10000:=by
  rcases ha with rfl|rfl
  ·have:=zCB e1 (p,r) (by simpa using hm);exact⟨this.1,this.2.1⟩
  ·have:=zCB e2 (p,r) (by simpa using hm);exact⟨this.1,this.2.1⟩
 have hE:leftE r a p=0:=by
  unfold mrg.leftE
  rw[if_pos hk,if_pos]
  unfold mrg.sidB ord.prB
  simp only[Bool.and_eq_true,decide_eq_true_eq]
  omega
 obtain⟨-,hc,hs⟩:=zCk hE
 have hh:=h.held r.who hw.1 hw.2
 have hg:=h.hs r.who hw.1 hw.2
 rw[hr0] at hh hg
 simp only[sumI] at hh hg
 have w1:0≤sumI (oC r.who) s.ws:=zBD (fun o ho=>oC_nn (h.wck o ho) _)
 have w2:0≤sumI (oS r.who) s.ws:=zBD (fun o ho=>oS_nn (h.wck o ho) _)
 have b1:0≤sumI (rC r.who) (prs s.bs):=zBD (rC_nn e1 _)
 have b2:0≤sumI (rS r.who) (prs s.ss):=zBD (rS_nn e2 _)
 have hF:pur.freeE s.ps r.who (leftC r a p) (leftS r a p)=0:=by
  rw[hc,hs]
  rcases ha with rfl|rfl
  ·simp only[if_true] at hm ⊢
   have l1:=zEg (rC_nn e1 r.who) hm
   have l2:rC r.who (p,r)=p*tq r:=by unfold rC;rw[if_pos rfl]
   rw[l2] at l1
   exact zEj h.wf.ok hw.1 hw.2 (Int.mul_nonneg (by omega) (tq_nn hk)) (by omega) (Int.le_refl _) (by omega)
  ·simp only[if_neg (show ¬(2:Int)=1 by decide)] at hm ⊢
   have l1:=zEg (rS_nn e2 r.who) hm
   have l2:rS r.who (p,r)=tq r:=by unfold rS;rw[if_pos rfl]
   rw[l2] at l1
   exact zEj h.wf.ok hw.1 hw.2 (Int.le_refl _) (by omega) (tq_nn hk) (by omega)
 unfold part freeR freeS
 rw[if_pos hE,if_pos hF]
 exact⟨_,rfl,hr0,rfl,zIj hA'⟩
theorem zLr(id:Int):∀ (ws:List O),id∈ws.map (·.id)→∃a o b,ws=a++o::b∧o.id=id∧wak.idx id ws=a.length
 | [],h=>by cases h
 | o::t,h=>by
  rw[wak.idx_cons]
  by_cases ho:o.id=id
  ·rw[if_pos ho];exact⟨[],o,t,rfl,ho,rfl⟩
  ·rw[if_neg ho]
   have ht:id∈t.map (·.id):=by
    rcases List.mem_cons.1 h with h|h
    ·exact absurd h.symm ho
    ·exact h
   obtain⟨a,x,b,e1,e2,e3⟩:=zLr id t ht
   refine⟨o::a,x,b,by rw[e1];rfl,e2,?_⟩
   rw[e3,if_neg (by omega),List.length_cons];omega
theorem zFX{s:TS}{id:Int}(h:IV s (fun _=>0) (fun _=>0))(hr0:s.row=[])(hin:inBook s.bs s.ss id=false)(hw:id∈s.ws.map (·.id)) :
  ∃s1,cancel s id=.ok s1∧s1.row=[]∧s1.bs=s.bs∧s1.ss=s.ss∧(s.ws.map (·.id)).Perm (id::s1.ws.map (·.id)):=by
 obtain⟨e1,e2,-⟩:=bok.zAb h.wf.book
 obtain⟨a,o,b,ew,eo,ei⟩:=zLr id s.ws hw
 unfold cancel
 rw[if_neg (by rw[hin];decide),ei,if_neg (by omega)]
 have hl:a.length<s.ws.length:=by rw[ew];simp
 have hg:s.ws[((a.length:Int)).toNat]! = o:=by
  rw[show ((a.length:Int)).toNat=a.length by omega,wak.getE _ _ hl]
  simp only[ew]
  rw[List.getElem_append_right (nzR _)]
  simp
 have hd:drop1 s.ws id=a++b:=by
  unfold drop1
  rw[ei,show ((a.length:Int)).toNat=a.length by omega,ew,List.take_left,←List.singleton_append,←List.append_assoc,List.drop_left' (by simp)]
 rw[hg,hd]
 have ho:o∈s.ws:=by rw[ew];simp
 have hk:=h.wck o ho
 have hwho:=who_ord hk
 have hh:=h.held o.who hwho.1 hwho.2
 have hgs:=h.hs o.who hwho.1 hwho.2
 rw[hr0] at hh hgs
 simp only[sumI] at hh hgs
 have w1:=zEg (fun x hx=>oC_nn (h.wck x hx) o.who) ho
 have w2:=zEg (fun x hx=>oS_nn (h.wck x hx) o.who) ho
 have b1:0≤sumI (rC o.who) (prs s.bs):=zBD (rC_nn e1 _)
 have b2:0≤sumI (rS o.who) (prs s.ss):=zBD (rS_nn e2 _)
 obtain⟨f1,f2⟩:=zFr hk o.who
 have f1' : forC o=oC o.who o:=by rw[←f1];unfold at1;rw[if_pos rfl]
 have f2' : forS o=oS o.who o:=by rw[←f2];unfold at1;rw[if_pos rfl]
 have hF:pur.freeE s.ps o.who (forC o) (forS o)=0:=by
  rw[f1',f2']
  exact zEj h.wf.ok hwho.1 hwho.2 (oC_nn hk _) (by omega) (oS_nn hk _) (by omega)
 unfold vanish freeS
 rw[if_pos hk,if_pos hF]
 refine⟨_,rfl,hr0,rfl,rfl,?_⟩
 show (s.ws.map (·.id)).Perm (id::(a++b).map (·.id))
 rw[ew,List.map_append,List.map_cons,List.map_append,eo]
 exact List.perm_middle
def cCm(id:Int):Cm:=⟨2,⟨id,0,0,0,0,0,0,0⟩,0,0⟩
theorem zLs{f:FS}{c d:Int}{id:Int}(h:FI f c d)(hin:id∈bIds f.bs f.ss) :
  ∃s,fdo f (cCm id)=.ok s∧FI (floorOf s) c d∧s.ws=f.ws∧(bIds f.bs f.ss).Perm (id::bIds s.bs s.ss):=by
 obtain⟨s1,e1,e2,e3,e4⟩:=zIk (s:=turnOf f) h.iv rfl (zLq.2 hin)
 have hd:doC (turnOf f) (cCm id)=.ok s1:=by
  show cancel (turnOf f) id=_
  unfold cancel
  rw[if_pos (show inBook (turnOf f).bs (turnOf f).ss id=true from zLq.2 hin)]
  exact e1
 have hf:fdo f (cCm id)=.ok s1:=by
  unfold fdo;rw[hd];exact zAq _ _ e2
 have hi:=(zLo h hf).1
 refine⟨s1,hf,?_,e3,e4⟩
 rw[show paid (cCm id)=0 from rfl,show given (cCm id)=0 from rfl,Int.add_zero,Int.add_zero] at hi
 exact hi
theorem zIl{f:FS}{c d:Int}{id:Int}(h:FI f c d)(hb:f.bs=[])(hs:f.ss=[])(hw:id∈f.ws.map (·.id)) :
  ∃s,fdo f (cCm id)=.ok s∧FI (floorOf s) c d∧s.bs=[]∧s.ss=[]∧(f.ws.map (·.id)).Perm (id::s.ws.map (·.id)):=by
 have hin:inBook (turnOf f).bs (turnOf f).ss id=false:=by
  show inBook f.bs f.ss id=false
  rw[hb,hs];rfl
 obtain⟨s1,e1,e2,e3,e4,e5⟩:=zFX (s:=turnOf f) h.iv rfl hin hw
 have hd:doC (turnOf f) (cCm id)=.ok s1:=e1
 have hf:fdo f (cCm id)=.ok s1:=by
  unfold fdo;rw[hd];exact zAq _ _ e2
 have hi:=(zLo h hf).1
 refine⟨s1,hf,?_,e3.trans hb,e4.trans hs,e5⟩
 rw[show paid (cCm id)=0 from rfl,show given (cCm id)=0 from rfl,Int.add_zero,Int.add_zero] at hi
 exact hi
theorem zFy{s:Int}{ls:List L}(h:schk s ls=0)(hn:allR ls=[]):ls=[]:=by
 cases ls with
 | nil=>rfl
 | cons l t=>
  have:=bok.zAw h l (by simp)
  rw[zAf] at hn
  exact absurd (List.append_eq_nil_iff.1 hn).1 this
theorem zLt{bs ss:List L}(h:bookE bs ss=0)(hn:bIds bs ss=[]):bs=[]∧ss=[]:=by
 obtain⟨e1,e2,-⟩:=bok.zAb h
 unfold bIds at hn
 have h1:=List.map_eq_nil_iff.1 hn
 exact⟨zFy e1 (List.append_eq_nil_iff.1 h1).1,zFy e2 (List.append_eq_nil_iff.1 h1).2⟩
theorem all_free{f:FS}{c d:Int}(h:FI f c d)(hb:f.bs=[])(hs:f.ss=[])(hw:f.ws=[]):∀j,1≤j→j≤9→(f.ps[ix j]!).held=0∧(f.ps[ix j]!).hs=0:=by
 intro j h1 h2
 have a:=h.iv.held j h1 h2
 have b:=h.iv.hs j h1 h2
 have e1:(turnOf f).bs=[]:=hb
 have e2:(turnOf f).ss=[]:=hs
 have e3:(turnOf f).ws=[]:=hw
 have e4:(turnOf f).row=[]:=rfl
 rw[e1,e3,e4] at a
 rw[e2,e3,e4] at b
 exact⟨a,b⟩
end flr
end Go.Proofs.YtifjhlgjgnnnpaaGreat
