import Derived.Test.YtifjhlgjgnnnpaaGreatFlrLaw
import Derived.Test.YtifjhlgjgnnnpaaGreatFCPure
import Derived.Test.YtifjhlgjgnnnpaaGreatFlrRef
namespace Go.Proofs.YtifjhlgjgnnnpaaGreat
namespace flr
open Go.RowKit
open que (R rchk)
open sid (L DL LS allR)
open mee (T tV OwnT sumT)
open ord (O oV chk errV errV_zero errV_of prB)
open bok (bookE inBook)
open pur (Pz Pu Ok flatP pL ix)
open sms (sumC sumS)
open wak (OwnM OwnQ St SL Lies oL idx Trn)
theorem kept_q{w w' : World}{B F:Nat}{v:Value}{zs:List R}(h:que.OwnQ w B v zs)(hF:F<B)(hg:w.grownBy w' (some F)):que.OwnQ w' B v zs:=
 que.OwnM.kept h hg (by
  cases hb:v.ownBlock with
  | none=>exact .inl rfl
  | some k=>right;intro e;cases e;have:=(que.OwnM.lt h _ hb).1;omega)
theorem kept_o{w w' : World}{B F:Nat}{v:Value}{zs:List O}(h:OwnQ w B v zs)(hF:F<B)(hg:w.grownBy w' (some F)):OwnQ w' B v zs:=
 OwnM.kept h hg (by
  cases hb:v.ownBlock with
  | none=>exact .inl rfl
  | some k=>right;intro e;cases e;have:=(OwnM.lt h _ hb).1;omega)
theorem q_form{w:World}{B:Nat}{v:Value}{zs:List R}(h:que.OwnQ w B v zs):∃q c,v=.slice q zs.length c:=by
 rcases h.2 with ⟨h1,h2⟩|⟨g,off,cap,cur,h1,-⟩
 ·exact⟨none,0,by rw[h2];exact h1⟩
 ·exact⟨_,_,h1⟩
theorem rest_at{w:World}{B:Nat}{q:Option Addr}{n c:Nat}{zs:List R}(h:que.OwnQ w B (.slice q n c) zs){k:Nat}(hk:k<zs.length):∃g off,q=some ⟨g,off,none⟩∧g<w.heap.size∧w.cell? ⟨g,off+k*5,none⟩=some (.int .i64 zs[k]!.id):=by
 rcases que.OwnQ.sl h with ⟨_,rfl⟩|⟨g,off,c',e,-,-,hg,hl⟩
 ·exact absurd hk (Nat.not_lt_zero _)
 ·cases e
  exact⟨g,off,rfl,hg,hl k hk 0 _ rfl⟩
structure CxI (w wr:World) (F B:Nat) (q1:Option Addr) (n1 c1:Nat) (RS:List R) (q2:Option Addr) (n2 c2:Nat) (WS:List O) (m c d:Int) (i j:Nat):Prop where
 fl:∃f,FloorAt w wr F f∧FI f c d∧f.mode=m∧(bIds f.bs f.ss).Perm ((RS.map (·.id)).drop i)∧(f.ws.map (·.id)).Perm ((WS.map (·.id)).drop j)
 fb:F<B
 rs:que.OwnQ wr B (.slice q1 n1 c1) RS
 ws:OwnQ wr B (.slice q2 n2 c2) WS
section
variable {w wr:World}{F B:Nat}{q1:Option Addr}{n1 c1:Nat}{RS:List R}{q2:Option Addr}{n2 c2:Nat}{WS:List O}{m c d:Int}{i j:Nat}
theorem CxI.len1(h:CxI w wr F B q1 n1 c1 RS q2 n2 c2 WS m c d i j):n1=RS.length:=by obtain⟨q,c,e⟩:=q_form h.rs;cases e;rfl
theorem CxI.len2(h:CxI w wr F B q1 n1 c1 RS q2 n2 c2 WS m c d i j):n2=WS.length:=by obtain⟨q,c,e⟩:=OwnM.form h.ws;cases e;rfl
theorem CxI.bel(h:CxI w wr F B q1 n1 c1 RS q2 n2 c2 WS m c d i j):Below w.heap.size w wr:=by obtain⟨f,h1,-⟩:=h.fl;exact h1.bel
theorem zLw{α:Type}[Inhabited α](f:α→Int)(l:List α)(k:Nat)(h:k<l.length):(l.map f).drop k=f l[k]!::(l.map f).drop (k+1):=by
 rw[←List.map_drop,zFu l k h,List.map_cons,List.map_drop]
theorem ids_wf{bs ss:List L}(h:bookE bs ss=0){id:Int}(hi:id∈bIds bs ss):(Lit.int .i64 id).wf=true:=swp.At.wf (spot_at h (zLq.2 hi))
theorem zFY(h:CxI w wr F B q1 n1 c1 RS q2 n2 c2 WS m c d i j)(hi:i<RS.length) :
  Calls Tryz.prog 8 #[.pointer (some ⟨F,0,none⟩),.agg #[.int .i64 2,.int .i64 (RS[i]!).id,.int .i64 0,.int .i64 0,.int .i64 0,.int .i64 0,.int .i64 0,.int .i64 0,.int .i64 0,.int .i64 0,.int .i64 0]] wr fun e w'=>∃q n k,e=.returned (.tuple #[.slice q n k,.nilIface])∧CxI w w' F B q1 n1 c1 RS q2 n2 c2 WS m c d (i+1) j:=by
 obtain⟨f,h1,h2,h3,h4,h5⟩:=h.fl
 rw[zLw _ RS i hi] at h4
 generalize (RS[i]!).id=id at *
 have hm:id∈bIds f.bs f.ss:=h4.mem_iff.2 (by simp)
 have hwf:=ids_wf h2.iv.wf.book hm
 obtain⟨s,e1,e2,e3,e4⟩:=zLs h2 hm
 obtain⟨v,hv⟩:=h1.fm
 refine(do_ok F f v 2 id 0 0 0 0 0 0 0 0 0 wr s hv h2.iv.wf hwf e1).mono ?_
 rintro e w'⟨q,k,v',rfl,-,hm',hg⟩
 exact⟨q,_,k,rfl,⟨floorOf s,h1.step hg hm',e2,(zEi h2.iv.wf e1).trans h3,(List.perm_cons id).1 (e4.symm.trans h4),by rw[show (floorOf s).ws=f.ws from e3];exact h5⟩,h.fb,kept_q h.rs h.fb hg,kept_o h.ws h.fb hg⟩
theorem CxI.none(h:CxI w wr F B q1 n1 c1 RS q2 n2 c2 WS m c d RS.length j):∃f,FloorAt w wr F f∧FI f c d∧f.mode=m∧f.bs=[]∧f.ss=[]∧(f.ws.map (·.id)).Perm ((WS.map (·.id)).drop j):=by
 obtain⟨f,h1,h2,h3,h4,h5⟩:=h.fl
 rw[List.drop_of_length_le (by simp)] at h4
 obtain⟨b1,b2⟩:=zLt h2.iv.wf.book (List.Perm.eq_nil h4)
 exact⟨f,h1,h2,h3,b1,b2,h5⟩
theorem ord_wf{o:O}(h:chk o=0):(Lit.int .i64 o.id).wf=true:=by
 have h1:=(ord.zAH h).1
 simp[ord.headB] at h1
 have e:wrap64 o.id=o.id:=by unfold wrap64;omega
 rw[←e]
 exact wrap64_wf _
theorem zFZ(h:CxI w wr F B q1 n1 c1 RS q2 n2 c2 WS m c d RS.length j)(hj:j<WS.length) :
  Calls Tryz.prog 8 #[.pointer (some ⟨F,0,none⟩),.agg #[.int .i64 2,.int .i64 (WS[j]!).id,.int .i64 0,.int .i64 0,.int .i64 0,.int .i64 0,.int .i64 0,.int .i64 0,.int .i64 0,.int .i64 0,.int .i64 0]] wr fun e w'=>∃q n k,e=.returned (.tuple #[.slice q n k,.nilIface])∧CxI w w' F B q1 n1 c1 RS q2 n2 c2 WS m c d RS.length (j+1):=by
 obtain⟨f,h1,h2,h3,hb,hs,h5⟩:=h.none
 rw[zLw _ WS j hj] at h5
 generalize (WS[j]!).id=id at *
 have hm:id∈f.ws.map (·.id):=h5.mem_iff.2 (by simp)
 have hwf:(Lit.int .i64 id).wf=true:=by
  obtain⟨o,ho,rfl⟩:=List.mem_map.1 hm
  exact ord_wf (h2.iv.wck o ho)
 obtain⟨s,e1,e2,e3,e4,e5⟩:=zIl h2 hb hs hm
 obtain⟨v,hv⟩:=h1.fm
 refine(do_ok F f v 2 id 0 0 0 0 0 0 0 0 0 wr s hv h2.iv.wf hwf e1).mono ?_
 rintro e w'⟨q,k,v',rfl,-,hm',hg⟩
 refine⟨q,_,k,rfl,⟨floorOf s,h1.step hg hm',e2,(zEi h2.iv.wf e1).trans h3,?_,(List.perm_cons id).1 (e5.symm.trans h5)⟩,h.fb,kept_q h.rs h.fb hg,kept_o h.ws h.fb hg⟩
 rw[show (floorOf s).bs=[] from e3,show (floorOf s).ss=[] from e4,List.drop_of_length_le (by simp)]
 exact List.Perm.refl _
theorem CxI.done(h:CxI w wr F B q1 n1 c1 RS q2 n2 c2 WS m c d RS.length WS.length):∃f,FloorAt w wr F f∧FI f c d∧f.bs=[]∧f.ss=[]∧f.ws=[]∧∀k,k<9→(f.ps[k]!).held=0∧(f.ps[k]!).hs=0:=by
 obtain⟨f,h1,h2,-,hb,hs,h5⟩:=h.none
 rw[List.drop_of_length_le (by simp)] at h5
 have hw:f.ws=[]:=List.map_eq_nil_iff.1 (List.Perm.eq_nil h5)
 refine⟨f,h1,h2,hb,hs,hw,fun k hk=>?_⟩
 have:=all_free h2 hb hs hw ((k:Int)+1) (by omega) (by omega)
 rw[pur.ix_is] at this
 exact this
end
end flr
end Go.Proofs.YtifjhlgjgnnnpaaGreat
