import Derived.Test.YtnjpjieedgmffaaGreatDoorSelRC
import Derived.Test.YtnjpjieedgmffaaGreatDoorSelMeet
import Derived.Test.YtnjpjieedgmffaaGreatDoorSelMeetb
import Derived.Test.YtnjpjieedgmffaaGreatDoorSelLink
import Derived.Test.YtnjpjieedgmffaaGreatDoorSelDo
import Derived.Test.YtnjpjieedgmffaaGreatDoorRows
import Derived.Test.YtnjpjieedgmffaaGreatDoorQueRest
import Derived.OpenShut
import Derived.Deep.Slices
import Derived.Carry
import Derived.Test.YtnjpjieedgmffaaGreatDoorQueChk
import Derived.Test.YtnjpjieedgmffaaGreatDoorSidPure
import Derived.Test.YtnjpjieedgmffaaGreatDoorMeeOrd
namespace Go.Proofs.YtnjpjieedgmffaaGreatDoor.smt
open Go.RowKit spn que sid bok mee kin
open ord (O mB chk)
theorem srmeet_any (m:Int) (hmm:m=1∨m=2∨m=3) (v:slf.V) (b0:Nat) (q1 q2:Option Addr) (n1 n2 c1 c2:Nat) (bs ss:List L) (a b c d p q s t:Int) (w:World) (hb0:b0≤w.heap.size) (h1:LS (hide b0 w) (.slice q1 n1 c1) bs) (h2:LS (hide b0 w) (.slice q2 n2 c2) ss) (hC:comeE bs ss ⟨a,b,c,d,p,q,s,t⟩=0) (hv:slf.Fine m ⟨a,b,c,d,p,q,s,t⟩ (otherL bs ss ⟨a,b,c,d,p,q,s,t⟩) q v) :
  Calls Tryz.prog 14 #[.agg #[.slice q1 n1 c1,.slice q2 n2 c2],.agg #[.int .i64 a,.int .i64 b,.int .i64 c,.int .i64 d,.int .i64 p,.int .i64 q,.int .i64 s,.int .i64 t],.int .i64 m] w fun e w'=>SMPost b0 bs ss ⟨a,b,c,d,p,q,s,t⟩ v w e w':=by
 have hs:c=1∨c=2:=by
  have h:=(ord.chk_zero (come_zero hC).2.1).1
  simp[ord.headB] at h
  omega
 rcases hs with rfl|rfl
 ·exact srmeet_buy m hmm v b0 q1 q2 n1 n2 c1 c2 bs ss a b d p q s t w hb0 h1 h2 hC hv
 ·exact srmeet_sell m hmm v b0 q1 q2 n1 n2 c1 c2 bs ss a b d p q s t w hb0 h1 h2 hC hv
theorem srcome_any (m:Int) (hmm:m=1∨m=2∨m=3) (v:slf.V) (q1 q2:Option Addr) (n1 n2 c1 c2:Nat) (bs ss:List L) (a b c d p q s t:Int) (w:World) (h1:LS w (.slice q1 n1 c1) bs) (h2:LS w (.slice q2 n2 c2) ss) (hC:comeE bs ss ⟨a,b,c,d,p,q,s,t⟩=0) (hv:slf.Fine m ⟨a,b,c,d,p,q,s,t⟩ (otherL bs ss ⟨a,b,c,d,p,q,s,t⟩) q v) :
  Calls Tryz.prog 5 #[.agg #[.slice q1 n1 c1,.slice q2 n2 c2],.agg #[.int .i64 a,.int .i64 b,.int .i64 c,.int .i64 d,.int .i64 p,.int .i64 q,.int .i64 s,.int .i64 t],.int .i64 m] w fun e w'=>SCPost bs ss ⟨a,b,c,d,p,q,s,t⟩ v w e w':=srcome_of srmeet_any m hmm v q1 q2 n1 n2 c1 c2 bs ss a b c d p q s t w h1 h2 hC hv
end Go.Proofs.YtnjpjieedgmffaaGreatDoor.smt
namespace Go.Proofs.YtnjpjieedgmffaaGreatDoor.selfTells
open Go.RowKit spn que sid bok mee kin
open ord (O oV mB mE chk)
theorem kdo_come {bs ss:List L}{o:O}(h:¬comeE bs ss o=0):kdoE bs ss o=comeE bs ss o:=by
 have hd:doE bs ss o=comeE bs ss o:=by unfold doE;rw[if_neg h]
 unfold kdoE
 rw[hd,if_neg h]
theorem nilBook:bookE [] []=0:=by decide
theorem walk {w:World}(q1 q2:Option Addr) (n1 n2 c1 c2:Nat) (bs ss:List L) (h1:LS w (.slice q1 n1 c1) bs) (h2:LS w (.slice q2 n2 c2) ss) (a b c d p q s t kq:Int) (B:World) (hI:told.Inv B w) :
  Calls Tryz.prog 3 #[.agg #[.slice q1 n1 c1,.slice q2 n2 c2],.agg #[.int .i64 a,.int .i64 b,.int .i64 c,.int .i64 d,.int .i64 p,.int .i64 q,.int .i64 s,.int .i64 t],.int .i64 kq] w fun e w'=>e=.returned (.bool true)∧told.Inv B w':=by
 by_cases hm:0≤kq∧kq≤3
 rotate_left
 ·refine walk0 q1 q2 n1 n2 c1 c2 bs ss a b c d p q s t kq 1 0 1 [] [] [] [] B w hI h1 h2 (fun _=>rfl) (fun h=>absurd (by omega) h) (fun _=>⟨rfl,rfl,rfl,rfl,rfl,rfl⟩) nilBook (by simp) (fun w' g1 g2=>?_) (fun h=>by omega)
  refine(slf.sdo_bad kq hm q1 q2 n1 n2 c1 c2 a b c d p q s t w').mono ?_
  rintro e w'' ⟨rfl,hb⟩
  exact⟨none,none,0,0,0,0,none,0,0,none,0,0,by rw[errV_of (by omega)],⟨ls_nil _,ls_nil _,ownT_nilK _ _,ownI_nilK _ _⟩,hb⟩
 have hmn:¬(kq < 0∨3 < kq):=by omega
 by_cases h0:kq=0
 ·subst h0
  by_cases hK:kdoE bs ss ⟨a,b,c,d,p,q,s,t⟩=0
  ·have hd:=doE_zero (kdo_zero hK).1
   refine walk0 q1 q2 n1 n2 c1 c2 bs ss a b c d p q s t 0 0 (kdoG bs ss ⟨a,b,c,d,p,q,s,t⟩) (comeE bs ss ⟨a,b,c,d,p,q,s,t⟩) (kdoB bs ss ⟨a,b,c,d,p,q,s,t⟩) (kdoS bs ss ⟨a,b,c,d,p,q,s,t⟩) (metR bs ss ⟨a,b,c,d,p,q,s,t⟩).2.1 [] B w hI h1 h2 (fun h=>absurd h hmn) (fun _=>rfl) (fun h=>absurd hd.1 h) (kdo_bookK hK) hd.2 (fun w' g1 g2=>?_) (fun hE w' g1 g2=>?_)
   ·refine(slf.sdo_zero q1 q2 n1 n2 c1 c2 bs ss a b c d p q s t w' g1 g2).mono ?_
    rintro e w'' ⟨i1,-,hb⟩
    obtain⟨u1,u2,m1,m2,d1,d2,tv,rfl,D1,D2,OT⟩:=i1 hK
    obtain⟨tq,tc,rfl⟩:=OwnM.form OT
    exact⟨u1,u2,m1,m2,d1,d2,tq,_,tc,none,0,0,rfl,⟨D1.ls,D2.ls,OT,ownI_nilK _ _⟩,hb⟩
   ·refine(rcome_any q1 q2 n1 n2 c1 c2 bs ss a b c d p q s t w' g1 g2 hE).mono ?_
    rintro e w'' ⟨i1,-,hb⟩
    obtain⟨y1,y2,l1,l2,k1,k2,tv,lf,rfl,L1,L2,OT⟩:=i1 hK
    obtain⟨tq,tc,rfl⟩:=OwnM.form OT
    exact⟨y1,y2,l1,l2,k1,k2,tq,_,tc,lf,none,0,0,false,rfl,⟨L1,L2,OT,ownI_nilK _ _⟩,hb⟩
  ·refine walk0 q1 q2 n1 n2 c1 c2 bs ss a b c d p q s t 0 (kdoE bs ss ⟨a,b,c,d,p,q,s,t⟩) 0 (comeE bs ss ⟨a,b,c,d,p,q,s,t⟩) [] [] [] [] B w hI h1 h2 (fun h=>absurd h hmn) (fun _=>rfl) (fun h=>⟨kdo_come h,rfl,rfl,rfl,rfl,rfl⟩) nilBook (by simp) (fun w' g1 g2=>?_) (fun hE w' g1 g2=>?_)
   ·refine(slf.sdo_zero q1 q2 n1 n2 c1 c2 bs ss a b c d p q s t w' g1 g2).mono ?_
    rintro e w'' ⟨-,i2,hb⟩
    exact⟨none,none,0,0,0,0,none,0,0,none,0,0,i2 hK,⟨ls_nil _,ls_nil _,ownT_nilK _ _,ownI_nilK _ _⟩,hb⟩
   ·refine(rcome_any q1 q2 n1 n2 c1 c2 bs ss a b c d p q s t w' g1 g2 hE).mono ?_
    rintro e w'' ⟨-,i2,hb⟩
    exact⟨none,none,0,0,0,0,none,0,0,0,none,0,0,false,i2 hK,⟨ls_nil _,ls_nil _,ownT_nilK _ _,ownI_nilK _ _⟩,hb⟩
 ·have hm3:kq=1∨kq=2∨kq=3:=by omega
  by_cases hC:comeE bs ss ⟨a,b,c,d,p,q,s,t⟩=0
  rotate_left
  ·refine walk0 q1 q2 n1 n2 c1 c2 bs ss a b c d p q s t kq (comeE bs ss ⟨a,b,c,d,p,q,s,t⟩) 0 (comeE bs ss ⟨a,b,c,d,p,q,s,t⟩) [] [] [] [] B w hI h1 h2 (fun h=>absurd h hmn) (fun _=>rfl) (fun h=>⟨rfl,rfl,rfl,rfl,rfl,rfl⟩) nilBook (by simp) (fun w' g1 g2=>?_) (fun hE=>absurd hE hC)
   refine(slf.sdo_mode kq hm3 q1 q2 n1 n2 c1 c2 bs ss a b c d p q s t w' g1 g2).mono ?_
   rintro e w'' ⟨i1,-,hb⟩
   exact⟨none,none,0,0,0,0,none,0,0,none,0,0,i1 hC,⟨ls_nil _,ls_nil _,ownT_nilK _ _,ownI_nilK _ _⟩,hb⟩
  have hbk:=(come_zero hC).1
  have hch:=(come_zero hC).2.1
  have hog:=other_good (o:=⟨a,b,c,d,p,q,s,t⟩) hbk
  obtain⟨v,hv⟩:=slf.fine_ex (o:=⟨a,b,c,d,p,q,s,t⟩) (k:=q) hm3 hog
  have hrb:=slf.rep_book hbk (slf.fine_less hv hog (by have h:1≤q∧q≤10000:=qty_of hch;omega))
  by_cases hs:slf.sE bs ss ⟨a,b,c,d,p,q,s,t⟩ v=0
  ·have hlen:v.ts.length≤400:=by
    have h:=hs
    unfold slf.sE at h
    by_cases h4:400 < v.ts.length
    ·rw[if_pos h4] at h;omega
    ·omega
   refine walk0 q1 q2 n1 n2 c1 c2 bs ss a b c d p q s t kq 0 (smt.cG ⟨a,b,c,d,p,q,s,t⟩ v) (comeE bs ss ⟨a,b,c,d,p,q,s,t⟩) (smt.cB bs ⟨a,b,c,d,p,q,s,t⟩ v) (smt.cS ss ⟨a,b,c,d,p,q,s,t⟩ v) v.ts v.ids B w hI h1 h2 (fun h=>absurd h hmn) (fun _=>rfl) (fun h=>absurd hC h) (smt.sc_book hrb hs) hlen (fun w' g1 g2=>?_) (fun hE w' g1 g2=>?_)
   ·refine(slf.sdo_mode kq hm3 q1 q2 n1 n2 c1 c2 bs ss a b c d p q s t w' g1 g2).mono ?_
    rintro e w'' ⟨-,i2,hb⟩
    obtain⟨u1,u2,m1,m2,d1,d2,tv,iv,rfl,D1,D2,OT,OI⟩:=(i2 hC v hv).1 hs
    obtain⟨tq,tc,rfl⟩:=OwnM.form OT
    obtain⟨iq,ic,rfl⟩:=OwnM.form OI
    exact⟨u1,u2,m1,m2,d1,d2,tq,_,tc,iq,_,ic,rfl,⟨D1.ls,D2.ls,OT,OI⟩,hb⟩
   ·refine(smt.srcome_any kq hm3 v q1 q2 n1 n2 c1 c2 bs ss a b c d p q s t w' g1 g2 hE hv).mono ?_
    rintro e w'' ⟨i1,-,hb⟩
    obtain⟨y1,y2,l1,l2,k1,k2,tv,lf,iv,eb,rfl,L1,L2,OT,OI⟩:=i1 hs
    obtain⟨tq,tc,rfl⟩:=OwnM.form OT
    obtain⟨iq,ic,rfl⟩:=OwnM.form OI
    exact⟨y1,y2,l1,l2,k1,k2,tq,_,tc,lf,iq,_,ic,eb,rfl,⟨L1,L2,OT,OI⟩,hb⟩
  ·refine walk0 q1 q2 n1 n2 c1 c2 bs ss a b c d p q s t kq (slf.sE bs ss ⟨a,b,c,d,p,q,s,t⟩ v) 0 (comeE bs ss ⟨a,b,c,d,p,q,s,t⟩) [] [] [] [] B w hI h1 h2 (fun h=>absurd h hmn) (fun _=>rfl) (fun h=>absurd hC h) nilBook (by simp) (fun w' g1 g2=>?_) (fun hE w' g1 g2=>?_)
   ·refine(slf.sdo_mode kq hm3 q1 q2 n1 n2 c1 c2 bs ss a b c d p q s t w' g1 g2).mono ?_
    rintro e w'' ⟨-,i2,hb⟩
    exact⟨none,none,0,0,0,0,none,0,0,none,0,0,(i2 hC v hv).2 hs,⟨ls_nil _,ls_nil _,ownT_nilK _ _,ownI_nilK _ _⟩,hb⟩
   ·refine(smt.srcome_any kq hm3 v q1 q2 n1 n2 c1 c2 bs ss a b c d p q s t w' g1 g2 hE hv).mono ?_
    rintro e w'' ⟨-,i2,hb⟩
    exact⟨none,none,0,0,0,0,none,0,0,0,none,0,0,false,i2 hs,⟨ls_nil _,ls_nil _,ownT_nilK _ _,ownI_nilK _ _⟩,hb⟩
end Go.Proofs.YtnjpjieedgmffaaGreatDoor.selfTells
namespace Go.Proofs.YtnjpjieedgmffaaGreatDoor.que
open Go.ChangeShapes Go.WideShapes Go.ChangeAt Go.RowKit Go.Deep
theorem list5 {α:Type}{l:List α}(h:l.length=5):∃c0 c1 c2 c3 c4,l=[c0,c1,c2,c3,c4]:=by
 match l,h with
 | [c0,c1,c2,c3,c4],_=>exact⟨c0,c1,c2,c3,c4,rfl⟩
theorem cellsR:Tryz.prog.cellsOf 55=5:=by kernel_rfl
theorem cellsI:Tryz.prog.cellsOf 3=1:=by kernel_rfl
section
variable {H:Type}{enc:TypeId × Value→H}{w:World}{base:Nat}{sp:Nat→Bool}{held:Bool}
set_option maxRecDepth 100000 in
theorem open_rest_cells {n:Nat}{cs:List Value}{x:DataW H × List MemPlace}(h:DataW.trod enc Tryz.prog w base sp held n 55 cs=some x) (hl:cs.length=5) :
  ∃r:R,cs=rV r:=by
 obtain⟨c0,c1,c2,c3,c4,rfl⟩:=list5 hl
 obtain⟨xs,n,_,hx,_,hlen,hF⟩:=DataW.trod_struct Tryz.underlying55 h
 obtain⟨y0,y1,y2,y3,y4,rfl⟩:=list5 hlen
 have h0:DataW.trod enc Tryz.prog w base sp held n 3 (([c0,c1,c2,c3,c4].drop 0).take (Tryz.prog.cellsOf 3))=some y0:=hF 0 _ rfl
 rw[cellsI] at h0
 obtain⟨a0,e0,_,_⟩:=DataW.trod_int Tryz.underlying3 h0
 have h1:DataW.trod enc Tryz.prog w base sp held n 3 (([c0,c1,c2,c3,c4].drop 1).take (Tryz.prog.cellsOf 3))=some y1:=hF 1 _ rfl
 rw[cellsI] at h1
 obtain⟨a1,e1,_,_⟩:=DataW.trod_int Tryz.underlying3 h1
 have h2:DataW.trod enc Tryz.prog w base sp held n 3 (([c0,c1,c2,c3,c4].drop 2).take (Tryz.prog.cellsOf 3))=some y2:=hF 2 _ rfl
 rw[cellsI] at h2
 obtain⟨a2,e2,_,_⟩:=DataW.trod_int Tryz.underlying3 h2
 have h3:DataW.trod enc Tryz.prog w base sp held n 3 (([c0,c1,c2,c3,c4].drop 3).take (Tryz.prog.cellsOf 3))=some y3:=hF 3 _ rfl
 rw[cellsI] at h3
 obtain⟨a3,e3,_,_⟩:=DataW.trod_int Tryz.underlying3 h3
 have h4:DataW.trod enc Tryz.prog w base sp held n 3 (([c0,c1,c2,c3,c4].drop 4).take (Tryz.prog.cellsOf 3))=some y4:=hF 4 _ rfl
 rw[cellsI] at h4
 obtain⟨a4,e4,_,_⟩:=DataW.trod_int Tryz.underlying3 h4
 simp at e0 e1 e2 e3 e4
 subst e0 e1 e2 e3 e4
 exact⟨⟨a0,a1,a2,a3,a4⟩,rfl⟩
end
end Go.Proofs.YtnjpjieedgmffaaGreatDoor.que
namespace Go.Proofs.YtnjpjieedgmffaaGreatDoor.que
open Go.ChangeShapes Go.WideShapes Go.ChangeAt Go.RowKit Go.Deep
section
variable {H:Type}{enc:TypeId × Value→H}{w:World}{base:Nat}{sp:Nat→Bool}{held:Bool}
set_option maxRecDepth 100000 in
theorem okWide_slice_lies {r:Reach}{b0:Nat}{t e:TypeId}{v:Value}(ht:Tryz.prog.underlying t=some (.slice e)) (hv:Value.okWide Tryz.prog w r b0 t v) :
  v=.slice none 0 0∨∃b o len cap,v=.slice (some ⟨b,o,none⟩) len cap∧len≤cap∧cap≤9223372036854775807∧b < w.heap.size:=by
 obtain⟨a,len,cap,rfl⟩:=okWide_slice ht hv
 simp only[Value.okWide,ht,Cell.okWide] at hv
 cases a with
 | none=>
  left
  cases len with
  | zero=>
   cases cap with
   | zero=>rfl
   | succ c=>simp[Cell.ok,ht] at hv
  | succ l=>simp[Cell.ok,ht] at hv
 | some a=>
  right
  simp only[Cell.ok,ht] at hv
  obtain⟨h1,h2,_,h4,row,cells,h5,_⟩:=hv
  obtain⟨b,o,s⟩:=a
  simp only at h4 h5
  subst h4
  refine⟨b,o,len,cap,rfl,h1,?_,?_⟩
  ·have:IntKind.i64.max=9223372036854775807:=rfl
   rw[this] at h2
   omega
  ·unfold World.shape? at h5
   split at h5
   ·rename_i hh
    exact(gzE.1 hh).1
   ·cases h5
end
theorem laidOut:laidOutB Tryz.prog=true:=by kernel_rfl
end Go.Proofs.YtnjpjieedgmffaaGreatDoor.que
namespace Go.Proofs.YtnjpjieedgmffaaGreatDoor.sid
open Go.ChangeShapes Go.WideShapes Go.ChangeAt Go.RowKit Go.Deep que
theorem cellsL:Tryz.prog.cellsOf 51=2:=by kernel_rfl
theorem cellsS:Tryz.prog.cellsOf 49=1:=by kernel_rfl
theorem list2 {α:Type}{l:List α}(h:l.length=2):∃c0 c1,l=[c0,c1]:=by
 match l,h with
 | [c0,c1],_=>exact⟨c0,c1,rfl⟩
theorem addr_plain {w:World}{a:Addr}{v:Value}(h:w.cell? a=some v):a.spot=none∧a.block < w.heap.size:=by
 refine⟨?_,World.block_lt_of_cell? w a h⟩
 obtain⟨b,o,s⟩:=a
 cases s with
 | none=>rfl
 | some s=>
  exfalso
  simp only[World.cell?] at h
  split at h
  ·simp at h
  ·cases h
section
variable {H:Type}{enc:TypeId × Value→H}{w:World}{base:Nat}{sp:Nat→Bool}{held:Bool}
set_option maxRecDepth 100000 in
theorem open_rests_in {n:Nat}{v:Value}{x:DataW H × List MemPlace}(h:DataW.trod enc Tryz.prog w base sp held n 49 [v]=some x):∃zs:List R,SLe w v zs:=by
 rcases open_slice Tryz.underlying49 h with ⟨hcs,_⟩|⟨a,len,cap,m,n,D,Pl,hcs,_,hl,hcap,hmm,_,hx⟩
 ·simp at hcs
  exact⟨[],.inl (.inl ⟨hcs,rfl⟩)⟩
 simp at hcs
 subst hcs
 by_cases hz:len=0
 ·subst hz
  exact⟨[],.inr ⟨rfl,_,_,rfl⟩⟩
 have hlm:len≤m:=by rw[hmm];split <;> omega
 obtain⟨hspot,hb⟩:a.spot=none∧a.block < w.heap.size:=by
  obtain⟨cs',h1,h2⟩:=hx 0 (by omega)
  rw[cellsR] at h1
  obtain⟨_,hlen,hcell⟩:=World.cells?_some h1
  have:=hcell 0 (by omega)
  rw[List.getElem?_eq_getElem (by omega)] at this
  rw[Nat.zero_mul,show (a.add 0).add 0=a from rfl] at this
  exact addr_plain this
 obtain⟨b,o,s⟩:=a
 simp only at hspot hb
 subst hspot
 obtain⟨f,hf2⟩:=choose_lt (α:=R) (n:=len) (p:=fun i r=>∀k v,(rV r)[k]?=some v→w.cell? ⟨b,o+i * 5+k,none⟩=some v) (fun i hi=>by
  obtain⟨cs',h1,h2⟩:=hx i (by omega)
  rw[cellsR] at h1
  obtain⟨_,hlen,hcell⟩:=World.cells?_some h1
  obtain⟨r,rfl⟩:=open_rest_cells h2 hlen
  refine⟨r,fun k v hk=>?_⟩
  have hk5:k < 5:=(List.getElem?_eq_some_iff.1 hk).1
  have:=hcell k hk5
  rw[hk,Addr.add_lit,Addr.add_lit] at this
  exact this)
 refine⟨(List.range len).map f,.inl (.inr ⟨b,o,cap,by simp,by simpa using hl,by simpa [maxLen] using hcap,hb,?_⟩)⟩
 intro j hj k v hk
 have hj' : j < len:=by simpa using hj
 rw[getE _ _ hj] at hk
 simp only[List.getElem_map,List.getElem_range] at hk
 exact hf2 j hj' k v hk
set_option maxRecDepth 100000 in
theorem open_level_cells {n:Nat}{cs:List Value}{x:DataW H × List MemPlace}(h:DataW.trod enc Tryz.prog w base sp held n 51 cs=some x) (hl:cs.length=2) :
  ∃ (l:L) (v:Value),cs=[.int .i64 l.price,v]∧SLe w v l.rests:=by
 obtain⟨c0,c1,rfl⟩:=list2 hl
 obtain⟨xs,n,_,hx,_,hlen,hF⟩:=DataW.trod_struct Tryz.underlying51 h
 obtain⟨y0,y1,rfl⟩:=list2 hlen
 have h0:DataW.trod enc Tryz.prog w base sp held n 3 (([c0,c1].drop 0).take (Tryz.prog.cellsOf 3))=some y0:=hF 0 _ rfl
 rw[cellsI] at h0
 obtain⟨a0,e0,_,_⟩:=DataW.trod_int Tryz.underlying3 h0
 have h1:DataW.trod enc Tryz.prog w base sp held n 49 (([c0,c1].drop 1).take (Tryz.prog.cellsOf 49))=some y1:=hF 1 _ rfl
 rw[cellsS] at h1
 have h1' : DataW.trod enc Tryz.prog w base sp held n 49 [c1]=some y1:=h1
 obtain⟨zs,hzs⟩:=open_rests_in h1'
 simp at e0
 subst e0
 exact⟨⟨a0,zs⟩,c1,rfl,hzs⟩
set_option maxRecDepth 100000 in
theorem open_levels_cell {n:Nat}{v:Value}{x:DataW H × List MemPlace}(hv:v=.slice none 0 0∨∃b o len cap,v=.slice (some ⟨b,o,none⟩) len cap∧len≤cap∧cap≤9223372036854775807∧b < w.heap.size) (hf:DataW.trod enc Tryz.prog w base sp held n 22 v.cells.toList=some x) :
  ∃ls:List L,LS w v ls:=by
 rcases hv with rfl|⟨b,o,len,cap,rfl,hl,hm,hb⟩
 ·exact⟨[],.inl ⟨rfl,rfl⟩⟩
 rcases open_slice Tryz.underlying22 hf with ⟨hcs,_⟩|⟨a,len',cap',m,n,D,Pl,hcs,_,hl',_,hmm,_,hx⟩
 ·simp[Value.cells] at hcs
 simp[Value.cells] at hcs
 obtain⟨rfl,rfl,rfl⟩:=hcs
 have hlm:len≤m:=by rw[hmm];split <;> omega
 obtain⟨f,hf2⟩:=choose_lt (α:=L) (n:=len) (p:=fun i l=>w.cell? ⟨b,o+i * 2,none⟩=some (.int .i64 l.price)∧∃v,w.cell? ⟨b,o+i * 2+1,none⟩=some v∧SLe w v l.rests) (fun i hi=>by
  obtain⟨cs',h1,h2⟩:=hx i (by omega)
  rw[cellsL] at h1
  obtain⟨_,hlen,hcell⟩:=World.cells?_some h1
  obtain⟨l,v,rfl,hv⟩:=open_level_cells h2 hlen
  have g0:=hcell 0 (by omega)
  have g1:=hcell 1 (by omega)
  rw[Addr.add_lit,Addr.add_lit] at g0 g1
  exact⟨l,by simpa using g0,v,by simpa using g1,hv⟩)
 refine⟨(List.range len).map f,.inr ⟨b,o,cap,by simp,by simpa using hl,hm,hb,?_⟩⟩
 intro j hj
 have hj' : j < len:=by simpa using hj
 rw[getE _ _ hj]
 simp only[List.getElem_map,List.getElem_range]
 exact hf2 j hj'
end
end Go.Proofs.YtnjpjieedgmffaaGreatDoor.sid
namespace Go.Proofs.YtnjpjieedgmffaaGreatDoor.bok
open Go.ChangeShapes Go.WideShapes Go.ChangeAt Go.RowKit Go.Deep que sid
theorem cellsB:Tryz.prog.cellsOf 24=2:=by kernel_rfl
theorem cellsSL:Tryz.prog.cellsOf 22=1:=by kernel_rfl
theorem typesB:Tryz.prog.cellTypes Tryz.prog.depth 24=some [22,22]:=by kernel_rfl
section
variable {H:Type}{enc:TypeId × Value→H}{w:World}{base:Nat}{sp:Nat→Bool}{held:Bool}
set_option maxRecDepth 100000 in
theorem okWide_lev {r:Reach}{b0:Nat}{v:Value}(h:Cell.okWide Tryz.prog w r b0 22 v):Value.okWide Tryz.prog w r b0 22 v:=by
 simp only[Value.okWide,Tryz.underlying22]
 exact h
theorem slice_cells {v:Value}(h:v=.slice none 0 0∨∃b o len cap,v=.slice (some ⟨b,o,none⟩) len cap∧len≤cap∧cap≤9223372036854775807∧b < w.heap.size):v.cells.toList=[v]∧∃q n c,v=.slice q n c:=by
 rcases h with rfl|⟨b,o,len,cap,rfl,-,-,-⟩
 ·exact⟨rfl,_,_,_,rfl⟩
 ·exact⟨rfl,_,_,_,rfl⟩
set_option maxRecDepth 100000 in
theorem open_book {r:Reach}{b0:Nat}{v:Value}{d:DataW H}{ps:List MemPlace}(hv:Value.okWide Tryz.prog w r b0 24 v) (h:DataW.Trod enc Tryz.prog w base sp held 24 v d ps) :
  ∃q1 q2 n1 n2 c1 c2 bs ss,v=.agg #[.slice q1 n1 c1,.slice q2 n2 c2]∧LS w (.slice q1 n1 c1) bs∧LS w (.slice q2 n2 c2) ss:=by
 simp only[Value.okWide,Tryz.underlying24] at hv
 obtain⟨cs,rfl,hsz,ts,hts,-,hrow⟩:=hv
 rw[typesB] at hts
 have hts':=(Option.some.inj hts).symm
 subst hts'
 obtain⟨c0,c1,hcs⟩:=list2 (l:=cs.toList) (by rw[Array.length_toList];exact hsz.trans cellsB)
 have hcs2:cs=#[c0,c1]:=by rw[←Array.toArray_toList (xs:=cs),hcs]
 subst hcs2
 have k0:Cell.okWide Tryz.prog w r b0 22 c0:=by
  obtain⟨u,hu,hc⟩:=hrow 0 c0 rfl
  have:u=22:=by simpa using hu.symm
  rw[this] at hc;exact hc
 have k1:Cell.okWide Tryz.prog w r b0 22 c1:=by
  obtain⟨u,hu,hc⟩:=hrow 1 c1 rfl
  have:u=22:=by simpa using hu.symm
  rw[this] at hc;exact hc
 have f0:=okWide_slice_lies Tryz.underlying22 (okWide_lev k0)
 have f1:=okWide_slice_lies Tryz.underlying22 (okWide_lev k1)
 obtain⟨fuel,hf⟩:=h
 have hf' : DataW.trod enc Tryz.prog w base sp held fuel 24 [c0,c1]=some (d,ps):=hf
 obtain⟨xs,n,_,hx,_,hlen,hF⟩:=DataW.trod_struct Tryz.underlying24 hf'
 obtain⟨y0,y1,rfl⟩:=list2 hlen
 have h0:DataW.trod enc Tryz.prog w base sp held n 22 (([c0,c1].drop 0).take (Tryz.prog.cellsOf 22))=some y0:=hF 0 _ rfl
 have h1:DataW.trod enc Tryz.prog w base sp held n 22 (([c0,c1].drop 1).take (Tryz.prog.cellsOf 22))=some y1:=hF 1 _ rfl
 rw[cellsSL] at h0 h1
 have h0' : DataW.trod enc Tryz.prog w base sp held n 22 [c0]=some y0:=h0
 have h1' : DataW.trod enc Tryz.prog w base sp held n 22 [c1]=some y1:=h1
 obtain⟨e0,q1,n1,d1,hc0⟩:=slice_cells f0
 obtain⟨e1,q2,n2,d2,hc1⟩:=slice_cells f1
 obtain⟨bs,hbs⟩:=open_levels_cell f0 (by rw[e0];exact h0')
 obtain⟨ss,hss⟩:=open_levels_cell f1 (by rw[e1];exact h1')
 subst hc0
 subst hc1
 exact⟨q1,q2,n1,n2,d1,d2,bs,ss,rfl,hbs,hss⟩
end
end Go.Proofs.YtnjpjieedgmffaaGreatDoor.bok
namespace Go.Proofs.YtnjpjieedgmffaaGreatDoor.mee
open Go.ChangeShapes Go.WideShapes Go.ChangeAt Go.RowKit que
theorem list8 {α:Type}{l:List α}(h:l.length=8):∃c0 c1 c2 c3 c4 c5 c6 c7,l=[c0,c1,c2,c3,c4,c5,c6,c7]:=by
 match l,h with
 | [c0,c1,c2,c3,c4,c5,c6,c7],_=>exact⟨c0,c1,c2,c3,c4,c5,c6,c7,rfl⟩
theorem cellsO:Tryz.prog.cellsOf 26=8:=by kernel_rfl
section
variable {H:Type}{enc:TypeId × Value→H}{w:World}{base:Nat}{sp:Nat→Bool}{held:Bool}
set_option maxRecDepth 100000 in
theorem open_order {r:Reach}{b0:Nat}{v:Value}{d:DataW H}{ps:List MemPlace}(hv:Value.okWide Tryz.prog w r b0 26 v) (h:DataW.Trod enc Tryz.prog w base sp held 26 v d ps) :
  ∃a b c e p q s t:Int,v=.agg #[.int .i64 a,.int .i64 b,.int .i64 c,.int .i64 e,.int .i64 p,.int .i64 q,.int .i64 s,.int .i64 t]:=by
 obtain⟨cs,rfl,hsz⟩:=okWide_struct Tryz.underlying26 hv
 obtain⟨fuel,hf⟩:=h
 have hl:cs.toList.length=8:=by simpa using hsz.trans cellsO
 have hf' : DataW.trod enc Tryz.prog w base sp held fuel 26 cs.toList=some (d,ps):=by simpa [Value.cells] using hf
 obtain⟨c0,c1,c2,c3,c4,c5,c6,c7,hcs⟩:=list8 hl
 rw[hcs] at hf'
 obtain⟨xs,n,_,hx,_,hlen,hF⟩:=DataW.trod_struct Tryz.underlying26 hf'
 obtain⟨y0,y1,y2,y3,y4,y5,y6,y7,rfl⟩:=list8 hlen
 have h0:DataW.trod enc Tryz.prog w base sp held n 3 (([c0,c1,c2,c3,c4,c5,c6,c7].drop 0).take (Tryz.prog.cellsOf 3))=some y0:=hF 0 _ rfl
 rw[cellsI] at h0
 obtain⟨a0,e0,_,_⟩:=DataW.trod_int Tryz.underlying3 h0
 have h1:DataW.trod enc Tryz.prog w base sp held n 3 (([c0,c1,c2,c3,c4,c5,c6,c7].drop 1).take (Tryz.prog.cellsOf 3))=some y1:=hF 1 _ rfl
 rw[cellsI] at h1
 obtain⟨a1,e1,_,_⟩:=DataW.trod_int Tryz.underlying3 h1
 have h2:DataW.trod enc Tryz.prog w base sp held n 3 (([c0,c1,c2,c3,c4,c5,c6,c7].drop 2).take (Tryz.prog.cellsOf 3))=some y2:=hF 2 _ rfl
 rw[cellsI] at h2
 obtain⟨a2,e2,_,_⟩:=DataW.trod_int Tryz.underlying3 h2
 have h3:DataW.trod enc Tryz.prog w base sp held n 3 (([c0,c1,c2,c3,c4,c5,c6,c7].drop 3).take (Tryz.prog.cellsOf 3))=some y3:=hF 3 _ rfl
 rw[cellsI] at h3
 obtain⟨a3,e3,_,_⟩:=DataW.trod_int Tryz.underlying3 h3
 have h4:DataW.trod enc Tryz.prog w base sp held n 3 (([c0,c1,c2,c3,c4,c5,c6,c7].drop 4).take (Tryz.prog.cellsOf 3))=some y4:=hF 4 _ rfl
 rw[cellsI] at h4
 obtain⟨a4,e4,_,_⟩:=DataW.trod_int Tryz.underlying3 h4
 have h5:DataW.trod enc Tryz.prog w base sp held n 3 (([c0,c1,c2,c3,c4,c5,c6,c7].drop 5).take (Tryz.prog.cellsOf 3))=some y5:=hF 5 _ rfl
 rw[cellsI] at h5
 obtain⟨a5,e5,_,_⟩:=DataW.trod_int Tryz.underlying3 h5
 have h6:DataW.trod enc Tryz.prog w base sp held n 3 (([c0,c1,c2,c3,c4,c5,c6,c7].drop 6).take (Tryz.prog.cellsOf 3))=some y6:=hF 6 _ rfl
 rw[cellsI] at h6
 obtain⟨a6,e6,_,_⟩:=DataW.trod_int Tryz.underlying3 h6
 have h7:DataW.trod enc Tryz.prog w base sp held n 3 (([c0,c1,c2,c3,c4,c5,c6,c7].drop 7).take (Tryz.prog.cellsOf 3))=some y7:=hF 7 _ rfl
 rw[cellsI] at h7
 obtain⟨a7,e7,_,_⟩:=DataW.trod_int Tryz.underlying3 h7
 simp at e0 e1 e2 e3 e4 e5 e6 e7
 subst e0 e1 e2 e3 e4 e5 e6 e7
 refine⟨a0,a1,a2,a3,a4,a5,a6,a7,?_⟩
 have:cs=([.int .i64 a0,.int .i64 a1,.int .i64 a2,.int .i64 a3,.int .i64 a4,.int .i64 a5,.int .i64 a6,.int .i64 a7]:List Value).toArray:=by rw[←hcs]
 rw[this]
end
end Go.Proofs.YtnjpjieedgmffaaGreatDoor.mee
