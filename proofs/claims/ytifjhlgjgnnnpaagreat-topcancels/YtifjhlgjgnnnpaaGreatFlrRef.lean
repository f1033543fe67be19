import Derived.Test.YtifjhlgjgnnnpaaGreatSidPut
import Derived.Test.YtifjhlgjgnnnpaaGreatQueOwn
import Derived.Test.YtifjhlgjgnnnpaaGreatQueFil
import Derived.Test.YtifjhlgjgnnnpaaGreatBokFind
import Derived.Deep.AppendLies
import Derived.Deep.QuietTactic
import Derived.BigQuiet
namespace Go.Proofs.YtifjhlgjgnnnpaaGreat
namespace sid
open Go.RowKit spn que
theorem zFz(w:World)(base:Nat)(v x:Value)(zs ys:List R)(hown:OwnQ w base v zs)(hx:SL w x ys)(hlen:zs.length+ys.length≤1000)(hbase:base≤w.heap.size) :
  ∃v' w',(Builtin.append_ #[50,50] 50 #[v,x]).run Tryz.prog w=.ok v' w'∧OwnQ w' base v' (zs++ys)∧w.grownBy w' v.ownBlock∧(v'.ownBlock=v.ownBlock∨v'.ownBlock=some w.heap.size):=by
 obtain⟨i0,hi0,hz0,hz1,hz2⟩:=infoR'
 rcases hx with ⟨rfl,rfl⟩|⟨b,o,c,rfl,h2,h3,h4,h5⟩
 ·refine⟨v,w,run_append_none w _ _ _ _ i0 5 Tryz.underlying50 hi0 _ _ _ hown,by rw[List.append_nil];exact hown,⟨rfl,rfl,rfl,nzR _,fun _ _ _=>rfl⟩,.inl rfl⟩
 ·obtain⟨v',w',e1,e2,e3,e4⟩:=run_append_mid (P:=Tryz.prog) w base 50 50 54 i0 zeroR 5 40 Tryz.underlying50 hi0 hz0 hz1 hz2 rfl v zs.length (flat zs) hown ⟨b,o,none⟩ ys.length c (flat ys) (flat_len _) (lies_flat h5) (flat_one _) (by unfold maxLen;omega) (by omega) hbase
  refine⟨v',w',e1,?_,e3,e4⟩
  show OwnM _ _ _ _ _ _ _
  rw[flat_append,List.length_append]
  exact e2
theorem zLu{ls:List L}{k:Nat}(hk:k<ls.length):allR (ls.take (k+1))=allR (ls.take k)++ls[k]!.rests:=by
 unfold allR;rw[zBI hk,List.flatMap_append];simp
theorem allR_len(ls:List L):((allR ls).length:Int)=cnt ls:=by
 induction ls with
 | nil=>rfl
 | cons x t ih=>
  have e:allR (x::t)=x.rests++allR t:=rfl
  rw[e,List.length_append];simp only[cnt];omega
theorem allR_le(ls:List L)(k:Nat):(allR (ls.take k)).length≤(allR ls).length:=by
 have e:allR ls=allR (ls.take k)++allR (ls.drop k):=by unfold allR;rw[←List.flatMap_append,List.take_append_drop]
 rw[e,List.length_append];omega
theorem zDb{P:Program}(w:World)(base:Nat)(t ty e:TypeId)(i:TypeInfo)(size:Nat)(ht:P.underlying t=some (.slice e))(hi:P.info? e=some i)
  (v:Value) (n:Nat) (xs:List Value) (hown:OwnM w base e size v n xs) (q:Option Addr) (c:Nat):(Builtin.append_ #[t,t] ty #[v,.slice q 0 c]).run P w=.ok v w:=by
 rcases hown.2 with ⟨rfl,rfl⟩|⟨g,off,cap,cur,rfl,hbg,hg,hnc,hcm,hcs,htake⟩
 ·cases q <;>simp[Builtin.append_,run_underlying ht,sizeOf,typeInfo,hi,Builtin.lenOf,Builtin.firstCells,loadCells,loadCellsFrom]
 ·cases q <;>simp[Builtin.append_,run_underlying ht,sizeOf,typeInfo,hi,Builtin.lenOf,Builtin.firstCells,hnc,storeCells,loadCells,loadCellsFrom]
set_option maxRecDepth 100000 in
set_option maxHeartbeats 1000000 in
theorem zIm(b o c:Nat)(ls:List L)(w:World)(hn8:ls.length≤9223372036854775807)(hl:LL w b o ls)(h60:cnt ls≤60) :
  Calls Tryz.prog 21 #[.slice (some ⟨b,o,none⟩) ls.length c] w fun e w'=>∃v,e=.returned v∧OwnQ w' w.heap.size v (allR ls)∧Below w.heap.size w w':=by
 have HLEN:Hid (∀k,(allR (ls.take k)).length≤60):=fun k=>by
  have h1:=allR_le ls k
  have h2:=allR_len ls
  omega
 have HL:Hid (LL w b o ls):=hl
 clear hl h60
 obtain⟨i0,hi,hz0,hz1,hz2⟩:=infoR'
 have HI:Hid (Tryz.prog.info? 54=some i0):=hi
 clear hi
 generalize hn:ls.length=n at *
 have HN:Hid (ls.length=n):=hn
 clear hn
 go_enter Tryz.func21,Tryz.ntmps21
 go_wp2_with fail
 go_loopg [3,4] n (fun gg s3 s4 wr=>∃kk:Nat,kk≤n∧n - kk≤gg∧s4=.int .i64 kk∧Aside (OwnQ wr w.heap.size s3 (allR (ls.take kk)))∧Aside (Below w.heap.size w wr))
 case atStart=>exact⟨0,Nat.zero_le _,by omega,rfl,⟨rfl,.inl ⟨rfl,rfl⟩⟩,bzR _ _⟩
 case round=>
  obtain⟨kk,hkk,hg,rfl,OW,BW⟩:=hrel
  by_cases hlt:kk<n
  ·have hltz:(kk:Int)<(n:Int):=by omega
   have hlz:kk<ls.length:=by rw[HN.out];exact hlt
   obtain⟨r,hr⟩:∃r,ls[kk]! = r:=⟨_,rfl⟩
   obtain⟨p,zs⟩:=r
   obtain⟨q,cc,a0,a1,hs⟩:=HL.out.at hlz hr
   have c1:=keeps BW.out a1
   have HTK:Hid (allR (ls.take (kk+1))=allR (ls.take kk)++zs):=by
    have:=zLu hlz
    rw[hr] at this
    exact this
   have hle:(allR (ls.take kk)).length+zs.length≤60:=by
    have:=HLEN.out (kk+1)
    rw[HTK.out,List.length_append] at this
    exact this
   have hin1:¬((kk:Int)<0):=by omega
   have hw1:wrap64 ((kk:Int)+1)=((kk+1:Nat):Int):=by unfold wrap64;omega
   have hsw:=hs.below BW.out
   clear hr hs a0 a1
   by_cases hz:zs=[]
   ·subst hz
    have hO2:Aside (OwnQ wr w.heap.size u3 (allR (ls.take (kk+1)))):=by
     show OwnQ _ _ _ _
     rw[HTK.out,List.append_nil]
     exact OW.out
    have HR:Hid ((Builtin.append_ #[50,50] 50 #[u3,.slice q 0 cc]).run Tryz.prog wr=.ok u3 wr):=zDb wr _ _ _ _ i0 5 Tryz.underlying50 HI.out _ _ _ OW.out q cc
    rw[List.length_nil] at c1
    clear hle hsw
    go_wp2_with (at_builtin;refine Lib.wpList_append_run _ rfl _ _ _ _ rfl _ _ rfl rfl _ _ HR.out ?_)
    go_roundg (n - (kk+1))
    case measure=>omega
    case rel=>exact⟨kk+1,by omega,by omega,by go_num,hO2,BW⟩
   rcases hsw.sl hz with ⟨hv,hz'⟩|⟨b2,o2,cp,hv,h2,h3,h4,h5⟩
   ·exact absurd hz' hz
   ·injection hv with v1 v2 v3
    subst v1
    subst v3
    have HF:Hid (∀j u,(flat zs)[j]?=some u→wr.cell? ((⟨b2,o2,none⟩:Addr).add j)=some u):=lies_flat h5
    clear h5 hsw
    go_wp2_with (at_builtin;(refine wpList_append_mid _ rfl _ _ 50 rfl w.heap.size 54 i0 zeroR 5 40 Tryz.underlying50 HI.out hz0 hz1 hz2 rfl u3 _ _ rfl OW.out ⟨b2,o2,none⟩ zs.length cc (flat zs) rfl (flat_len _) HF.out (flat_one _) ?c3 ?c4 ?c5 ?_))
    case c3=>unfold maxLen;omega
    case c4=>omega
    case c5=>exact BW.out.size
    intro v' w' hO' hgr hat
    have hB' : Aside (Below w.heap.size w w'):=BW.out.grown hgr BW.out.size (fun k hk=>(OwnM.lt OW.out k hk).1)
    have hO2:Aside (OwnQ w' w.heap.size v' (allR (ls.take (kk+1)))):=by
     show OwnM _ _ _ _ _ _ _
     rw[HTK.out,List.length_append,flat_append]
     exact hO'
    clear hO' hgr hat HF c1
    go_wp2_with fail
    go_roundg (n - (kk+1))
    case measure=>omega
    case rel=>exact⟨kk+1,by omega,by omega,by go_num,hO2,hB'⟩
  ·have hltz:¬(kk:Int)<(n:Int):=by omega
   have hT2:ls.take kk=ls:=List.take_of_length_le (by rw[HN.out];omega)
   rw[hT2] at OW
   go_wp2_with fail
   go_ret
   exact⟨_,rfl,OW.out,BW.out⟩
theorem zLv(w:World) :
  Calls Tryz.prog 21 #[.slice none 0 0] w fun e w'=>e=.returned (.slice none 0 0)∧w'=w:=by
 go_enter Tryz.func21,Tryz.ntmps21
 go_wp2_with fail
 go_loopg [3,4] 0 (fun gg s3 s4 wr=>s3=.slice none 0 0∧s4=.int .i64 0∧wr=w)
 case atStart=>exact⟨rfl,rfl,rfl⟩
 case round=>
  obtain⟨rfl,rfl,rfl⟩:=hrel
  go_wp2_with fail
  go_ret
  exact⟨rfl,rfl⟩
theorem zFA(v:Value)(ls:List L)(w:World)(h:LS w v ls)(h60:cnt ls≤60) :
  Calls Tryz.prog 21 #[v] w fun e w'=>∃u,e=.returned u∧OwnQ w' w.heap.size u (allR ls)∧Below w.heap.size w w':=by
 rcases h with ⟨rfl,rfl⟩|⟨b,o,c,rfl,h2,h3,h4,h5⟩
 ·refine(zLv w).mono ?_
  rintro e w'⟨rfl,rfl⟩
  exact⟨_,rfl,⟨rfl,.inl ⟨rfl,rfl⟩⟩,bzR _ _⟩
 ·exact zIm b o c ls w (by omega) h5 h60
end sid
namespace bok
open Go.RowKit
theorem rof_any(s:Int)(q1 q2:Option Addr)(n1 n2 c1 c2:Nat)(w:World) :
  Calls Tryz.prog 12 #[.agg #[.slice q1 n1 c1,.slice q2 n2 c2],.int .i64 s] w fun e w'=>e=.returned (if s=1 then .slice q1 n1 c1 else .slice q2 n2 c2)∧Below w.heap.size w w':=by
 by_cases hs:s=1
 ·rw[if_pos hs]
  subst hs
  go_enter Tryz.func12,Tryz.ntmps12
  go_wp2
  go_ret
  exact⟨rfl,(bzR _ _).alloc (nzR _) _⟩
 ·rw[if_neg hs]
  have h1:(s == 1)=false:=by simpa using hs
  go_enter Tryz.func12,Tryz.ntmps12
  go_wp2
  go_ret
  exact⟨rfl,(bzR _ _).alloc (nzR _) _⟩
end bok
end Go.Proofs.YtifjhlgjgnnnpaaGreat
