import Derived.Test.YtifjhlgjgnnnpaaGreatFHPure
import Derived.Test.YtifjhlgjgnnnpaaGreatFlrLaw
import Derived.Test.YtifjhlgjgnnnpaaGreatBokRests
import Derived.Test.YtifjhlgjgnnnpaaGreatFlrRef
namespace Go.Proofs.YtifjhlgjgnnnpaaGreat
namespace flr
open Go.RowKit
open que (R rchk)
open sid (L DL LS allR schk)
open ord (O oV chk errV errV_zero errV_of prB)
open bok (zAd zAh)
open mrg (resv forC forS zBi zBF zBG)
open pur (Pz Pu Ok pL ix)
open sms (sumC sumS)
open wak (OwnM OwnQ St SL Lies oL idx Trn)
def Arr(w:World)(A:Nat)(f:Nat→Int):Prop:=w.heap[A]?=some (.cells ((ten f).map (Value.int .i64)).toArray 43 (0,0))
def addF(f:Nat→Int)(who c:Int):Nat→Int:=fun j=>f j+at1 who (j:Int) c
section
variable {w w' : World}{A:Nat}{f:Nat→Int}
theorem Arr.lt(h:Arr w A f):A<w.heap.size:=(gzE.1 h).1
theorem Arr.cell(h:Arr w A f){k:Nat}(hk:k<10):w.cell? ⟨A,k,none⟩=some (.int .i64 (f k)):=by
 rw[jZ w A k _ _ (0,0) h]
 simp[ten,hk]
theorem Arr.froz(h:Arr w A f)(j:Nat):w.frozen? ⟨A,j,none⟩=false:=frozen_of_row w _ j _ _ h
theorem Arr.below(h:Arr w A f)(hb:Below w.heap.size w w'):Arr w' A f:=(hb.block A h.lt).trans h
theorem Arr.keep{k:Nat}(h:Arr w A f)(hg:w.grownBy w' (some k))(hk:¬A=k):Arr w' A f:=(hg.block A h.lt (fun e=>hk (by cases e;rfl))).trans h
theorem Arr.put(h:Arr w A f){k:Nat}(hk:k<10)(c:Int):Arr (w.setCell ⟨A,k,none⟩ (.int .i64 (f k+c))) A (addF f k c):=by
 have h1:=jB w A k _ _ (.int .i64 (f k+c)) h
 have e:(ten f).set k (f k+c)=ten (addF f k c):=by
  have:=zQV f (addF f k c) (k:=k) (fun j hj=>by
   unfold addF at1
   by_cases hjk:j=k
   ·subst hjk;rw[if_pos rfl,if_pos rfl];omega
   ·rw[if_neg (show ¬(k:Int)=(j:Int) by omega),if_neg hjk];omega)
  rw[←this]
  congr 1
  unfold addF at1
  rw[if_pos rfl]
 unfold Arr
 rw[h1,←e,List.map_set]
 simp
end
theorem zMt(w:World):Arr (w.alloc (.cells #[.int .i64 0,.int .i64 0,.int .i64 0,.int .i64 0,.int .i64 0,.int .i64 0,.int .i64 0,.int .i64 0,.int .i64 0,.int .i64 0] 43)) w.heap.size (fun _=>0):=jA w _
def seen(ls:List L)(i k:Nat):List (Int × R):=prs (ls.take i)++((ls[i]!).rests.take k).map fun r=>((ls[i]!).price,r)
theorem zGX(ls:List L):seen ls 0 0=[]:=by unfold seen;simp[prs]
theorem zMu{ls:List L}{i k:Nat}(hk:k<(ls[i]!).rests.length):seen ls i (k+1)=seen ls i k++[((ls[i]!).price,(ls[i]!).rests[k]!)]:=by
 unfold seen
 rw[List.take_succ_eq_append_getElem hk,jF,wak.getE _ _ hk,jS]
 rfl
theorem zMv{ls:List L}{i:Nat}(hi:i<ls.length):seen ls i (ls[i]!).rests.length=seen ls (i+1) 0:=by
 unfold seen
 rw[List.take_length,List.take_succ_eq_append_getElem hi,zBm,List.take_zero,List.map_nil,jH]
 simp[prs,hi]
theorem zOV(ls:List L):seen ls ls.length 0=prs ls:=by unfold seen;simp
theorem zOW(ls:List L)(i k:Nat)(hi:i≤ls.length):∃z,prs ls=seen ls i k++z:=by
 by_cases h:i<ls.length
 ·have e:ls=ls.take i++(ls[i]!::ls.drop (i+1)):=by
   rw[←zGN ls i h,jR]
  refine⟨((ls[i]!).rests.drop k).map (fun r=>((ls[i]!).price,r))++prs (ls.drop (i+1)),?_⟩
  unfold seen
  conv=>lhs;rw[e]
  rw[zBm,zAK,jS]
  congr 1
  rw[←jS,←jF,jR]
 ·obtain rfl:i=ls.length:=by omega
  refine⟨[],?_⟩
  unfold seen
  have:(ls[ls.length]! : L).rests.take k=[]:=by
   have:ls[ls.length]! = default:=by simp
   rw[this]
   exact List.take_nil
  rw[this,List.take_length];simp
theorem zMw{ls:List L}(g:Int × R→Int)(h:∀x∈prs ls,0≤g x)(i k:Nat)(hi:i≤ls.length):0≤sumI g (seen ls i k)∧sumI g (seen ls i k)≤sumI g (prs ls):=by
 obtain⟨z,hz⟩:=zOW ls i k hi
 rw[hz] at h
 have h1:0≤sumI g (seen ls i k):=zBw (fun x hx=>h x (List.mem_append_left _ hx))
 have h2:0≤sumI g z:=zBw (fun x hx=>h x (List.mem_append_right _ hx))
 rw[hz,zAn]
 omega
def nC(s j:Int)(x:Int × R):Int:=if s=1 then rC j x else 0
def nS(s j:Int)(x:Int × R):Int:=if s=1 then 0 else rS j x
theorem zIt{α:Type}(l:List α):sumI (fun _=>0) l=0:=by
 induction l with
 | nil=>rfl
 | cons x t ih=>simp only[sumI,ih];rfl
theorem nC_1(j:Int)(l:List (Int × R)):sumI (nC 1 j) l=sumI (rC j) l:=zCd (fun x _=>by unfold nC;rw[if_pos rfl])
theorem nC_2(j:Int)(l:List (Int × R)):sumI (nC 2 j) l=0:=(zCd (fun x _=>by unfold nC;rw[if_neg (by decide)])).trans (zIt l)
theorem nS_1(j:Int)(l:List (Int × R)):sumI (nS 1 j) l=0:=(zCd (fun x _=>by unfold nS;rw[if_pos rfl])).trans (zIt l)
theorem nS_2(j:Int)(l:List (Int × R)):sumI (nS 2 j) l=sumI (rS j) l:=zCd (fun x _=>by unfold nS;rw[if_neg (by decide)])
theorem zMx{r:R}{s p:Int}(h:zBi r s p=0)(j:Int):at1 r.who j (zBF r s p)=nC s j (p,r)∧at1 r.who j (zBG r s p)=nS s j (p,r):=by
 obtain⟨-,hc,hs⟩:=zDz h
 rw[hc,hs]
 unfold nC nS rC rS at1
 constructor
 ·by_cases h1:s=1
  ·rw[if_pos h1,if_pos h1]
  ·rw[if_neg h1,if_neg h1];split <;>rfl
 ·by_cases h1:s=1
  ·rw[if_pos h1,if_pos h1];split <;>rfl
  ·rw[if_neg h1,if_neg h1]
def zBe(f:FS)(s:Int):List L:=if s=1 then f.bs else f.ss
theorem zMy{f:FS}{c d:Int}(h:FI f c d){s:Int}(hs:s=1∨s=2):schk s (zBe f s)=0:=by
 obtain⟨e1,e2,-⟩:=bok.zAf h.iv.wf.book
 rcases hs with rfl|rfl
 ·exact e1
 ·exact e2
theorem zMz{f:FS}{c d:Int}(h:FI f c d){s:Int}(hs:s=1∨s=2){i k:Nat}(hi:i<(zBe f s).length)(hk:k<((zBe f s)[i]!).rests.length):zBi ((zBe f s)[i]!).rests[k]! s ((zBe f s)[i]!).price=0∧1≤(((zBe f s)[i]!).rests[k]!).who∧(((zBe f s)[i]!).rests[k]!).who≤9:=by
 have hm:(((zBe f s)[i]!).price,((zBe f s)[i]!).rests[k]!)∈prs (zBe f s):=by
  unfold prs
  refine List.mem_flatMap.2 ⟨(zBe f s)[i]!,?_,List.mem_map.2 ⟨((zBe f s)[i]!).rests[k]!,?_,rfl⟩⟩
  ·rw[wak.getE _ _ hi];exact jT _
  ·rw[wak.getE _ _ hk];exact jT _
 have hg:=zFF (zMy h hs) _ hm
 refine⟨?_,zOJ hg.2.2⟩
 unfold mrg.zBi
 rw[if_pos hg.2.2,if_pos]
 unfold mrg.sidB ord.prB
 simp only[Bool.and_eq_true,decide_eq_true_eq]
 have:=hg.1
 have:=hg.2.1
 simp only[] at *
 omega
theorem zJx{f:FS}{c d:Int}(h:FI f c d){s:Int}(hs:s=1∨s=2){i k:Nat}(hi:i≤(zBe f s).length){j:Int}(h1:1≤j)(h2:j≤9) :
  (0≤(if s=1 then 0 else sumI (rC j) (prs f.bs))+sumI (nC s j) (seen (zBe f s) i k)∧(if s=1 then 0 else sumI (rC j) (prs f.bs))+sumI (nC s j) (seen (zBe f s) i k)≤1000000000)∧0≤sumI (nS s j) (seen (zBe f s) i k)∧sumI (nS s j) (seen (zBe f s) i k)≤1000000000:=by
 obtain⟨e1,e2,-⟩:=bok.zAf h.iv.wf.book
 have hh:=h.iv.held j h1 h2
 have hg:=h.iv.hs j h1 h2
 have er:(zAq f).row=[]:=rfl
 rw[er] at hh hg
 simp only[sumI] at hh hg
 have hz:=h.iv.wf.ok.all (ix j) (ix_lt h1 h2)
 have z1:=hz.hc
 have z2:=hz.cm
 have z3:=hz.ts
 have z4:=hz.sm
 have w1:0≤sumI (oC j) (zAq f).ws:=zBw (fun o ho=>oC_nn (h.iv.wck o ho) _)
 have w2:0≤sumI (oS j) (zAq f).ws:=zBw (fun o ho=>oS_nn (h.iv.wck o ho) _)
 have b1:0≤sumI (rC j) (prs f.bs):=zBw (rC_nn e1 _)
 have b2:0≤sumI (rS j) (prs f.ss):=zBw (rS_nn e2 _)
 have t1:sumI (rC j) (prs (zAq f).bs)=sumI (rC j) (prs f.bs):=rfl
 have t2:sumI (rS j) (prs (zAq f).ss)=sumI (rS j) (prs f.ss):=rfl
 rcases hs with rfl|rfl
 ·rw[if_pos rfl,nC_1,nS_1]
  have:=zMw (ls:=zBe f 1) (rC j) (rC_nn e1 j) i k hi
  have e:zBe f 1=f.bs:=rfl
  rw[e] at this ⊢
  omega
 ·rw[if_neg (by decide),nC_2,nS_2]
  have:=zMw (ls:=zBe f 2) (rS j) (rS_nn e2 j) i k hi
  have e:zBe f 2=f.ss:=rfl
  rw[e] at this ⊢
  omega
theorem zET{f:FS}{c d:Int}(h:FI f c d)(i:Nat){j:Int}(h1:1≤j)(h2:j≤9) :
  (0≤sumI (rC j) (prs f.bs)+sumI (oC j) (f.ws.take i)∧sumI (rC j) (prs f.bs)+sumI (oC j) (f.ws.take i)≤1000000000)∧0≤sumI (rS j) (prs f.ss)+sumI (oS j) (f.ws.take i)∧sumI (rS j) (prs f.ss)+sumI (oS j) (f.ws.take i)≤1000000000:=by
 obtain⟨e1,e2,-⟩:=bok.zAf h.iv.wf.book
 have hh:=h.iv.held j h1 h2
 have hg:=h.iv.hs j h1 h2
 have er:(zAq f).row=[]:=rfl
 rw[er] at hh hg
 simp only[sumI] at hh hg
 have hz:=h.iv.wf.ok.all (ix j) (ix_lt h1 h2)
 have z1:=hz.hc
 have z2:=hz.cm
 have z3:=hz.ts
 have z4:=hz.sm
 have b1:0≤sumI (rC j) (prs f.bs):=zBw (rC_nn e1 _)
 have b2:0≤sumI (rS j) (prs f.ss):=zBw (rS_nn e2 _)
 have t1:sumI (rC j) (prs (zAq f).bs)=sumI (rC j) (prs f.bs):=rfl
 have t2:sumI (rS j) (prs (zAq f).ss)=sumI (rS j) (prs f.ss):=rfl
 have t3:sumI (oC j) (zAq f).ws=sumI (oC j) (f.ws.take i)+sumI (oC j) (f.ws.drop i):=by rw[←zAn,jR];rfl
 have t4:sumI (oS j) (zAq f).ws=sumI (oS j) (f.ws.take i)+sumI (oS j) (f.ws.drop i):=by rw[←zAn,jR];rfl
 have u1:0≤sumI (oC j) (f.ws.take i):=zBw (fun o ho=>oC_nn (h.iv.wck o (List.mem_of_mem_take ho)) _)
 have u2:0≤sumI (oC j) (f.ws.drop i):=zBw (fun o ho=>oC_nn (h.iv.wck o (List.mem_of_mem_drop ho)) _)
 have u3:0≤sumI (oS j) (f.ws.take i):=zBw (fun o ho=>oS_nn (h.iv.wck o (List.mem_of_mem_take ho)) _)
 have u4:0≤sumI (oS j) (f.ws.drop i):=zBw (fun o ho=>oS_nn (h.iv.wck o (List.mem_of_mem_drop ho)) _)
 omega
theorem zGY(g:O→Int){ws:List O}{i:Nat}(h:i<ws.length):sumI g (ws.take (i+1))=sumI g (ws.take i)+g ws[i]!:=by
 rw[List.take_succ_eq_append_getElem h,zAn]
 simp[sumI,h]
theorem zQY{f:FS}{c d:Int}(h:FI f c d){k:Nat}(hk:k<9):(f.ps[k]!).held=sumI (rC ((k+1:Nat):Int)) (prs f.bs)+sumI (oC ((k+1:Nat):Int)) f.ws∧(f.ps[k]!).hs=sumI (rS ((k+1:Nat):Int)) (prs f.ss)+sumI (oS ((k+1:Nat):Int)) f.ws:=by
 have hh:=h.iv.held ((k:Int)+1) (by omega) (by omega)
 have hg:=h.iv.hs ((k:Int)+1) (by omega) (by omega)
 rw[pur.ix_is] at hh hg
 have er:(zAq f).row=[]:=rfl
 rw[er] at hh hg
 simp only[sumI] at hh hg
 have e:((k+1:Nat):Int)=(k:Int)+1:=by omega
 rw[e]
 have t1:sumI (rC ((k:Int)+1)) (prs (zAq f).bs)=sumI (rC ((k:Int)+1)) (prs f.bs):=rfl
 have t2:sumI (rS ((k:Int)+1)) (prs (zAq f).ss)=sumI (rS ((k:Int)+1)) (prs f.ss):=rfl
 have t3:sumI (oC ((k:Int)+1)) (zAq f).ws=sumI (oC ((k:Int)+1)) f.ws:=rfl
 have t4:sumI (oS ((k:Int)+1)) (zAq f).ws=sumI (oS ((k:Int)+1)) f.ws:=rfl
 have t5:((zAq f).ps[k]!).held=(f.ps[k]!).held:=rfl
 have t6:((zAq f).ps[k]!).hs=(f.ps[k]!).hs:=rfl
 omega
structure HdI (w wr:World) (F:Nat) (f:FS) (A1 A2 P B:Nat) (v1 v2:Value) (X Y:Nat→Int):Prop where
 fl:FloorAt w wr F f
 a1:Arr wr A1 X
 a2:Arr wr A2 Y
 l1:w.heap.size≤A1
 l2:A1<A2
 l3:A2<B
 lp:A2<P
 bk:wr.heap[P]?=some (.cells #[v1,v2] 46 (0,0))
 d1:DL wr B v1 f.bs
 d2:DL wr B v2 f.ss
section
variable {w wr W:World}{F:Nat}{f:FS}{A1 A2 P B:Nat}{v1 v2:Value}{X Y:Nat→Int}
theorem HdI.below(h:HdI w wr F f A1 A2 P B v1 v2 X Y)(hb:Below wr.heap.size wr W):HdI w W F f A1 A2 P B v1 v2 X Y:=
 ⟨h.fl.keep hb,h.a1.below hb,h.a2.below hb,h.l1,h.l2,h.l3,h.lp,zBl h.bk hb,h.d1.below hb,h.d2.below hb⟩
theorem FM.kp{v:FV}{S:List TypeId}(h:FM wr F f v)(hk:Kp S wr W)(h1:81 ∉ S)(h2:52 ∉ S)(h3:54 ∉ S)(h4:107 ∉ S)(h5:32 ∉ S)(h6:110 ∉ S):FM W F f v:=
 ⟨hk.typ _ _ _ h.blk h1,hk.dl h.buys h2 h3,hk.dl h.sells h2 h3,hk.st h.stops h4 h5,hk.pu h.purs h6⟩
theorem FloorAt.arr{A k:Nat}(h:FloorAt w wr F f)(ha:Arr wr A X)(hA:w.heap.size≤A)(u:Value):FloorAt w (wr.setCell ⟨A,k,none⟩ u) F f:=by
 have hg:=wak.gr_setCell wr A k u
 obtain⟨v,hv⟩:=h.fm
 have hk:Kp [43] wr (wr.setCell ⟨A,k,none⟩ u):=Kp.grown hg ha (by simp)
 exact⟨⟨v,FM.kp hv hk (by decide) (by decide) (by decide) (by decide) (by decide) (by decide)⟩,h.lo,h.bel.grown hg h.bel.size (fun k hk=>by cases hk;exact hA)⟩
theorem HdI.put1(h:HdI w wr F f A1 A2 P B v1 v2 X Y){k:Nat}(hk:k<10)(c:Int):HdI w (wr.setCell ⟨A1,k,none⟩ (.int .i64 (X k+c))) F f A1 A2 P B v1 v2 (addF X k c) Y:=by
 have hg:=wak.gr_setCell wr A1 k (.int .i64 (X k+c))
 have hl1:=h.l1
 have hl2:=h.l2
 have hl3:=h.l3
 have hlp:=h.lp
 exact⟨h.fl.arr h.a1 hl1 _,h.a1.put hk c,h.a2.keep hg (by omega),hl1,hl2,hl3,hlp,(hg.block P (gzE.1 h.bk).1 (fun e=>by cases e;omega)).trans h.bk,h.d1.other hg (by omega),h.d2.other hg (by omega)⟩
theorem HdI.put2(h:HdI w wr F f A1 A2 P B v1 v2 X Y){k:Nat}(hk:k<10)(c:Int):HdI w (wr.setCell ⟨A2,k,none⟩ (.int .i64 (Y k+c))) F f A1 A2 P B v1 v2 X (addF Y k c):=by
 have hg:=wak.gr_setCell wr A2 k (.int .i64 (Y k+c))
 have hl1:=h.l1
 have hl2:=h.l2
 have hl3:=h.l3
 have hlp:=h.lp
 exact⟨h.fl.arr h.a2 (by omega) _,h.a1.keep hg (by omega),h.a2.put hk c,hl1,hl2,hl3,hlp,(hg.block P (gzE.1 h.bk).1 (fun e=>by cases e;omega)).trans h.bk,h.d1.other hg hl3,h.d2.other hg hl3⟩
theorem HdI.side(h:HdI w wr F f A1 A2 P B v1 v2 X Y){s:Int}:DL wr B (if s=1 then v1 else v2) (zBe f s):=by
 unfold zBe
 split
 ·exact h.d1
 ·exact h.d2
end
end flr
end Go.Proofs.YtifjhlgjgnnnpaaGreat
