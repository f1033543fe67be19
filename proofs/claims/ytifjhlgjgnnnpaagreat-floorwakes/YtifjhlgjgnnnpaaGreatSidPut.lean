import Derived.Test.YtifjhlgjgnnnpaaGreatQueOwn
import Derived.Test.YtifjhlgjgnnnpaaGreatSidPure
set_option maxHeartbeats 1000000
set_option maxRecDepth 100000
namespace Go.Proofs.YtifjhlgjgnnnpaaGreat
namespace que
open Go.RowKit spn
def zeroR:Value:=.agg #[.int .i64 0,.int .i64 0,.int .i64 0,.int .i64 0,.int .i64 0]
theorem infoR:(Tryz.prog.info? 54).map (fun i=>(i.zero,i.size,i.bytes))=some (some zeroR,5,40):=by kernel_rfl
theorem infoR' : ∃i,Tryz.prog.info? 54=some i∧i.zero=some zeroR∧i.size=5∧i.bytes=40:=by
 have h:=infoR
 cases hq:Tryz.prog.info? 54 with
 | none=>rw[hq] at h;simp at h
 | some i=>
  rw[hq] at h
  simp only[Option.map_some,Option.some.injEq,Prod.mk.injEq] at h
  exact⟨i,rfl,h.1,h.2.1,h.2.2⟩
theorem grow_nil0(w:World) :
  Calls Tryz.prog 116 #[.slice none 0 0,.int .i64 0] w fun e w'=>e=.returned (.slice none 0 0)∧w'=w:=by
 go_enter Tryz.func116,Tryz.ntmps116
 go_wp2
 go_ret
 exact⟨rfl,rfl⟩
theorem grow_nil(n:Nat)(hn:0<n)(hm:n≤100000)(w:World) :
  Calls Tryz.prog 116 #[.slice none 0 0,.int .i64 n] w fun e w'=>∃v,e=.returned v∧OwnQ w' w.heap.size v []∧Below w.heap.size w w':=by
 obtain⟨i,hi,hz,hs,hby⟩:=infoR'
 have hr:=Lib.run_append_nil_zeros (P:=Tryz.prog) w 50 3 50 54 i zeroR .i64 .i64 Tryz.underlying50 Tryz.underlying3 hi hz n hn (by rw[hs];omega) (by omega) (by rw[hby];omega)
 have hge:=grownCap_ge w n 0 54
 have hcm:=grownCap_le_maxLen w n 0 54 (by unfold maxLen;omega)
 have hsz:(Builtin.zeroCells zeroR.cells n++Builtin.zeroCells zeroR.cells (grownCap w n 0 54 - n)).size=grownCap w n 0 54*5:=by
  rw[Array.size_append,size_zeroCells,size_zeroCells]
  show n*5+(grownCap w n 0 54 - n)*5=_
  omega
 have hO:OwnQ (w.drew.alloc (.cells (Builtin.zeroCells zeroR.cells n++Builtin.zeroCells zeroR.cells (grownCap w n 0 54 - n)) 54)) w.heap.size (.slice (some ⟨w.heap.size,0,none⟩) 0 (grownCap w n 0 54)) []:=
  ⟨rfl,.inr ⟨w.heap.size,0,_,_,rfl,nzR _,heap_alloc_new w.drew _,Nat.zero_le _,hcm,by rw[hsz];omega,by simp[flat]⟩⟩
 have hB:Below w.heap.size w (w.drew.alloc (.cells (Builtin.zeroCells zeroR.cells n++Builtin.zeroCells zeroR.cells (grownCap w n 0 54 - n)) 54)):=(bzR _ _).drew.alloc (nzR _) _
 generalize w.drew.alloc (.cells (Builtin.zeroCells zeroR.cells n++Builtin.zeroCells zeroR.cells (grownCap w n 0 54 - n)) 54)=W at *
 generalize grownCap w n 0 54=cap at *
 have HR:Hid ((Builtin.append_ #[50,3] 50 #[.slice none 0 0,.int .i64 n]).run Tryz.prog w=.ok (.slice (some ⟨w.heap.size,0,none⟩) n cap) W):=hr
 have h0:¬((n:Int)<0):=by omega
 have h1:(0:Int)<(n:Int):=by omega
 have h2:wrap64 (n:Int)=n:=by unfold wrap64;omega
 have h3:¬cap=0:=by omega
 clear hr hsz hi hz hs hby
 go_enter Tryz.func116,Tryz.ntmps116
 go_wp2_with (at_builtin;refine Lib.wpList_append_run _ rfl _ _ _ _ rfl _ _ rfl rfl _ _ HR.out ?_)
 go_ret
 exact⟨_,rfl,hO,hB⟩
theorem SL.form{w:World}{v:Value}{zs:List R}(h:SL w v zs):∃p c,v=.slice p zs.length c:=by
 rcases h with ⟨rfl,rfl⟩|⟨b,o,c,h1,_⟩
 ·exact⟨none,0,rfl⟩
 ·exact⟨_,c,h1⟩
def upto(pz:Nat→List R):Nat→List R
 | 0=>[]
 | k+1=>upto pz k++pz k
theorem upto_len(pz:Nat→List R)(k:Nat):(upto pz (k+1)).length=(upto pz k).length+(pz k).length:=List.length_append
theorem upto_le(pz:Nat→List R)(k d:Nat):(upto pz k).length≤(upto pz (k+d)).length:=by
 induction d with
 | zero=>exact nzR _
 | succ d ih=>
  have:=upto_len pz (k+d)
  rw[show k+(d+1)=k+d+1 from rfl]
  omega
theorem upto_le'(pz:Nat→List R){k n:Nat}(h:k≤n):(upto pz k).length≤(upto pz n).length:=by
 have:=upto_le pz k (n - k)
 rwa [show k+(n - k)=n by omega] at this
theorem run_append_none{P:Program}(w:World)(base:Nat)(t ty e:TypeId)(i:TypeInfo)(size:Nat)(ht:P.underlying t=some (.slice e))(hi:P.info? e=some i)
  (v:Value) (n:Nat) (xs:List Value) (hown:OwnM w base e size v n xs):(Builtin.append_ #[t,t] ty #[v,.slice none 0 0]).run P w=.ok v w:=by
 rcases hown.2 with ⟨rfl,rfl⟩|⟨g,off,cap,cur,rfl,hbg,hg,hnc,hcm,hcs,htake⟩
 ·simp[Builtin.append_,run_underlying ht,sizeOf,typeInfo,hi,Builtin.lenOf,Builtin.firstCells]
 ·simp[Builtin.append_,run_underlying ht,sizeOf,typeInfo,hi,Builtin.lenOf,Builtin.firstCells,hnc,storeCells]
theorem concat_any(B c n:Nat)(pv:Nat→Value)(pz:Nat→List R)(w:World)(hps:n≤10)(hcell:∀j,j<n→w.cell? ⟨B,j,none⟩=some (pv j))
  (hsl:∀j,j<n→SL w (pv j) (pz j)) (hlen:(upto pz n).length≤1000) :
  Calls Tryz.prog 86 #[.slice (some ⟨B,0,none⟩) n c] w fun e w'=>∃v,e=.returned v∧OwnQ w' w.heap.size v (upto pz n)∧Below w.heap.size w w':=by
 obtain⟨i0,hi,hz0,hz1,hz2⟩:=infoR'
 have HI:Hid (Tryz.prog.info? 54=some i0):=hi
 clear hi
 have HC:Hid (∀j,j<n→w.cell? ⟨B,j,none⟩=some (pv j)):=hcell
 have HS:Hid (∀j,j<n→SL w (pv j) (pz j)):=hsl
 have HLE:Hid ((upto pz n).length≤1000):=hlen
 clear hcell hsl hlen
 go_enter Tryz.func86,Tryz.ntmps86
 go_wp2_with fail
 go_loopg [3,5,11] n (fun gg s3 _ s11 wr=>∃kk S:Nat,kk≤n∧n - kk≤gg∧s11=.int .i64 kk∧s3=.int .i64 S∧Aside (S=(upto pz kk).length)∧wr=w)
 case atStart=>exact⟨0,0,Nat.zero_le _,by omega,rfl,rfl,rfl,rfl⟩
 case round=>
  obtain⟨kk,S,hkk,hg,rfl,rfl,hS,rfl⟩:=hrel
  by_cases hlt:kk<n
  ·have hltz:(kk:Int)<(n:Int):=by omega
   have hin1:¬((kk:Int)<0):=by omega
   have c0:=HC.out kk hlt
   obtain⟨p,cc,hv⟩:=(HS.out kk hlt).form
   obtain⟨m,hm⟩:∃m,m=(pz kk).length:=⟨_,rfl⟩
   have hle:S+m≤1000:=by
    have h1:=upto_le' pz (show kk+1≤n by omega)
    have h2:=HLE.out
    have h3:=hS.out
    rw[upto_len] at h1
    omega
   have hSm:Aside (S+m=(upto pz (kk+1)).length):=by
    show _=_
    rw[upto_len,←hm,hS.out]
   rw[hv,←hm] at c0
   clear hv hm
   have e1:wrap64 ((S:Int)+(m:Int))=((S+m:Nat):Int):=by unfold wrap64;omega
   have e2:¬(((S+m:Nat):Int)<0):=by omega
   go_wp2_with fail
   go_roundg (n - (kk+1))
   case measure=>omega
   case rel=>exact⟨kk+1,S+m,by omega,by omega,by go_num,rfl,hSm,rfl⟩
  ·have hltz:¬(kk:Int)<(n:Int):=by omega
   have hk:kk=n:=by omega
   subst hk
   obtain⟨w0,hw0⟩:∃w0,w0=wr:=⟨_,rfl⟩
   subst hw0
   have hgrow:Hid (Calls Tryz.prog 116 #[.slice none 0 0,.int .i64 (S:Int)] w0 fun e w'=>∃v,e=.returned v∧OwnQ w' w0.heap.size v []∧Below w0.heap.size w0 w'):=by
    by_cases h0:S=0
    ·rw[h0]
     exact(grow_nil0 w0).mono (fun e w' h=>⟨.slice none 0 0,h.1,⟨rfl,.inl ⟨rfl,rfl⟩⟩,by rw[h.2];exact bzR _ _⟩)
    ·exact grow_nil _ (by omega) (by have h1:=HLE.out;have h2:=hS.out;omega) w0
   clear hS
   go_wp2_with fail
   refine hgrow.out.mono ?_
   rintro e w1⟨v1,rfl,ho1,hb1⟩
   have HO1:Hid (OwnQ w1 w0.heap.size v1 []):=ho1
   have HB1:Hid (Below w0.heap.size w0 w1):=hb1
   clear ho1 hb1 hgrow
   go_wp2_with fail
   go_loopg [6,8,27] kk (fun gg s6 _ s27 W=>∃k2:Nat,k2≤kk∧kk - k2≤gg∧s27=.int .i64 k2∧Aside (OwnQ W w0.heap.size s6 (upto pz k2))∧Aside (Below w0.heap.size w0 W))
   case atStart=>exact⟨0,Nat.zero_le _,by omega,rfl,HO1.out,HB1.out⟩
   case round=>
    obtain⟨k2,hk2,hg2,rfl,hO,hBW⟩:=hrel
    by_cases hlt2:k2<kk
    ·have hltz2:(k2:Int)<(kk:Int):=by omega
     have hin2:¬((k2:Int)<0):=by omega
     have c0:=keeps hBW.out (HC.out k2 hlt2)
     have hsl:SL wr (pv k2) (pz k2):=(HS.out k2 hlt2).below hBW.out
     have hle:(upto pz (k2+1)).length≤1000:=Nat.le_trans (upto_le' pz (show k2+1≤kk by omega)) HLE.out
     rw[upto_len] at hle
     rcases hsl with ⟨hv,hz⟩|⟨b,o,cp,hv,h2,h3,h4,h5⟩
     ·rw[hv] at c0
      have hO2:Aside (OwnQ wr w0.heap.size u6 (upto pz (k2+1))):=by
       show OwnQ _ _ _ _
       rw[show upto pz (k2+1)=upto pz k2++pz k2 from rfl,hz,List.append_nil]
       exact hO.out
      have HR:Hid ((Builtin.append_ #[50,50] 50 #[u6,.slice none 0 0]).run Tryz.prog wr=.ok u6 wr):=run_append_none wr _ _ _ _ i0 5 Tryz.underlying50 HI.out _ _ _ hO.out
      clear hv hz hle hz0 hz1 hz2
      go_wp2_with (at_builtin;refine Lib.wpList_append_run _ rfl _ _ _ _ rfl _ _ rfl rfl _ _ HR.out ?_)
      go_roundg (kk - (k2+1))
      case measure=>omega
      case rel=>exact⟨k2+1,by omega,by omega,by go_num,hO2,hBW⟩
     ·rw[hv] at c0
      have HF:Hid (∀j u,(flat (pz k2))[j]?=some u→wr.cell? ((⟨b,o,none⟩:Addr).add j)=some u):=lies_flat h5
      clear hv h5
      go_wp2_with (at_builtin;(refine wpList_append_mid _ rfl _ _ 50 rfl w0.heap.size 54 i0 zeroR 5 40 Tryz.underlying50 HI.out hz0 hz1 hz2 rfl u6 _ _ rfl hO.out ⟨b,o,none⟩ (pz k2).length cp (flat (pz k2)) rfl (flat_len _) HF.out (flat_one _) ?c3 ?c4 ?c5 ?_))
      case c3=>unfold maxLen;omega
      case c4=>omega
      case c5=>exact hBW.out.size
      intro v' w' hO' hgr hat
      have hB' : Aside (Below w0.heap.size w0 w'):=hBW.out.grown hgr hBW.out.size (fun k hk=>(hO.out.lt k hk).1)
      have hO2:Aside (OwnQ w' w0.heap.size v' (upto pz (k2+1))):=by
       show OwnM _ _ _ _ _ _ _
       rw[upto_len,show upto pz (k2+1)=upto pz k2++pz k2 from rfl,flat_append]
       exact hO'
      clear hO' hgr hat HF c0
      go_wp2_with fail
      go_roundg (kk - (k2+1))
      case measure=>omega
      case rel=>exact⟨k2+1,by omega,by omega,by go_num,hO2,hB'⟩
    ·have hltz2:¬(k2:Int)<(kk:Int):=by omega
     have hk:k2=kk:=by omega
     subst hk
     go_wp2_with fail
     go_ret
     exact⟨_,rfl,hO.out,hBW.out⟩
end que
namespace rlv
open Go.RowKit spn
open que (getE OwnM OwnM.lt OwnM.kept OwnM.below wpList_append_mid run_append_none)
structure RL where
 price:Int
 q:Option Addr
 n:Nat
 c:Nat
deriving Inhabited
def rV(r:RL):List Value:=[.int .i64 r.price,.slice r.q r.n r.c]
def Lies(w:World)(b o:Nat)(zs:List RL):Prop:=∀j,j<zs.length→∀i v,(rV zs[j]!)[i]?=some v→w.cell? ⟨b,o+j*2+i,none⟩=some v
def SL(w:World)(v:Value)(zs:List RL):Prop:=
 (v=.slice none 0 0∧zs=[])∨∃b o c,v=.slice (some ⟨b,o,none⟩) zs.length c∧zs.length≤c∧c≤9223372036854775807∧b<w.heap.size∧Lies w b o zs
theorem Lies.below{w w' : World}{b o:Nat}{zs:List RL}(h:Lies w b o zs)(hb:b<w.heap.size)(hB:Below w.heap.size w w'):Lies w' b o zs:=
 fun j hj i v hv=>(hB.cell (p:=⟨b,o+j*2+i,none⟩) hb).trans (h j hj i v hv)
theorem SL.below{w w' : World}{v:Value}{zs:List RL}(h:SL w v zs)(hB:Below w.heap.size w w'):SL w' v zs:=by
 rcases h with h|⟨b,o,c,h1,h2,h3,h4,h5⟩
 ·exact .inl h
 ·exact .inr ⟨b,o,c,h1,h2,h3,Nat.lt_of_lt_of_le h4 hB.size,h5.below h4 hB⟩
def flat(zs:List RL):List Value:=zs.flatMap rV
theorem flat_cons(r:RL)(t:List RL):flat (r::t)=rV r++flat t:=rfl
theorem flat_append(a b:List RL):flat (a++b)=flat a++flat b:=by unfold flat;rw[List.flatMap_append]
theorem flat_len(zs:List RL):(flat zs).length=zs.length*2:=by
 induction zs with
 | nil=>rfl
 | cons r t ih=>rw[flat_cons,List.length_append,ih,List.length_cons];show 2+t.length*2=_;omega
theorem flat_get(zs:List RL):∀j,j<zs.length→∀i,i<2→(flat zs)[j*2+i]?=(rV zs[j]!)[i]?:=by
 induction zs with
 | nil=>intro j hj;simp at hj
 | cons r t ih=>
  intro j hj i hi
  rw[flat_cons]
  cases j with
  | zero=>rw[Nat.zero_mul,Nat.zero_add,List.getElem?_append_left (by show i<2;exact hi)];rfl
  | succ j=>
   rw[List.getElem?_append_right (by show 2≤_;omega)]
   have:(j+1)*2+i - (rV r).length=j*2+i:=by show (j+1)*2+i - 2=_;omega
   rw[this,ih j (by simpa using hj) i hi]
   rfl
theorem flat_one(zs:List RL):∀u∈flat zs,u.oneCell'=true:=by
 intro u hu
 obtain⟨r,_,hr⟩:=List.mem_flatMap.1 hu
 simp only[rV,List.mem_cons,List.not_mem_nil,or_false] at hr
 rcases hr with rfl|rfl <;>rfl
theorem lies_flat{w:World}{b o:Nat}{zs:List RL}(h:Lies w b o zs):∀j u,(flat zs)[j]?=some u→w.cell? ((⟨b,o,none⟩:Addr).add j)=some u:=by
 intro j u hu
 have hj:j<zs.length*2:=by rw[←flat_len];exact(List.getElem?_eq_some_iff.1 hu).1
 rw[Addr.add_lit]
 have e:j=j / 2*2+j % 2:=by omega
 rw[e,flat_get zs (j / 2) (by omega) (j % 2) (by omega)] at hu
 have:=h (j / 2) (by omega) (j % 2) u hu
 rw[←this]
 congr 2
 omega
theorem flat_lies{w:World}{b o:Nat}{zs:List RL}(h:∀j u,(flat zs)[j]?=some u→w.cell? ⟨b,o+j,none⟩=some u):Lies w b o zs:=by
 intro j hj i v hv
 have hi:i<2:=(List.getElem?_eq_some_iff.1 hv).1
 have:=h (j*2+i) v (by rw[flat_get zs j hj i hi];exact hv)
 rw[←this,Nat.add_assoc]
abbrev OwnQ(w:World)(base:Nat)(v:Value)(zs:List RL):Prop:=OwnM w base 52 2 v zs.length (flat zs)
theorem OwnQ.sl{w:World}{base:Nat}{v:Value}{zs:List RL}(h:OwnQ w base v zs):SL w v zs:=by
 rcases h.2 with ⟨rfl,hn⟩|⟨g,off,cap,cur,rfl,hb,hg,hnc,hcm,hcs,htake⟩
 ·exact .inl ⟨rfl,List.eq_nil_of_length_eq_zero hn⟩
 ·refine .inr ⟨g,off,cap,rfl,hnc,by simpa [maxLen] using hcm,(gzE.1 hg).1,flat_lies ?_⟩
  intro j u hu
  rw[cell_of_row w g (off+j) cur _ (0,0) hg]
  rw[←htake,List.getElem?_take] at hu
  split at hu
  ·rw[List.getElem?_drop] at hu;simpa using hu
  ·cases hu
def zeroR:Value:=.agg #[.int .i64 0,.slice none 0 0]
theorem infoR:(Tryz.prog.info? 52).map (fun i=>(i.zero,i.size,i.bytes))=some (some zeroR,2,32):=by kernel_rfl
theorem infoR' : ∃i,Tryz.prog.info? 52=some i∧i.zero=some zeroR∧i.size=2∧i.bytes=32:=by
 have h:=infoR
 cases hq:Tryz.prog.info? 52 with
 | none=>rw[hq] at h;simp at h
 | some i=>
  rw[hq] at h
  simp only[Option.map_some,Option.some.injEq,Prod.mk.injEq] at h
  exact⟨i,rfl,h.1,h.2.1,h.2.2⟩
theorem grow_nil0(w:World) :
  Calls Tryz.prog 115 #[.slice none 0 0,.int .i64 0] w fun e w'=>e=.returned (.slice none 0 0)∧w'=w:=by
 go_enter Tryz.func115,Tryz.ntmps115
 go_wp2
 go_ret
 exact⟨rfl,rfl⟩
theorem grow_nil(n:Nat)(hn:0<n)(hm:n≤100000)(w:World) :
  Calls Tryz.prog 115 #[.slice none 0 0,.int .i64 n] w fun e w'=>∃v,e=.returned v∧OwnQ w' w.heap.size v []∧Below w.heap.size w w':=by
 obtain⟨i,hi,hz,hs,hby⟩:=infoR'
 have hr:=Lib.run_append_nil_zeros (P:=Tryz.prog) w 44 3 44 52 i zeroR .i64 .i64 Tryz.underlying44 Tryz.underlying3 hi hz n hn (by rw[hs];omega) (by omega) (by rw[hby];omega)
 have hge:=grownCap_ge w n 0 52
 have hcm:=grownCap_le_maxLen w n 0 52 (by unfold maxLen;omega)
 have hsz:(Builtin.zeroCells zeroR.cells n++Builtin.zeroCells zeroR.cells (grownCap w n 0 52 - n)).size=grownCap w n 0 52*2:=by
  rw[Array.size_append,size_zeroCells,size_zeroCells]
  show n*2+(grownCap w n 0 52 - n)*2=_
  omega
 have hO:OwnQ (w.drew.alloc (.cells (Builtin.zeroCells zeroR.cells n++Builtin.zeroCells zeroR.cells (grownCap w n 0 52 - n)) 52)) w.heap.size (.slice (some ⟨w.heap.size,0,none⟩) 0 (grownCap w n 0 52)) []:=
  ⟨rfl,.inr ⟨w.heap.size,0,_,_,rfl,nzR _,heap_alloc_new w.drew _,Nat.zero_le _,hcm,by rw[hsz];omega,by simp[flat]⟩⟩
 have hB:Below w.heap.size w (w.drew.alloc (.cells (Builtin.zeroCells zeroR.cells n++Builtin.zeroCells zeroR.cells (grownCap w n 0 52 - n)) 52)):=(bzR _ _).drew.alloc (nzR _) _
 generalize w.drew.alloc (.cells (Builtin.zeroCells zeroR.cells n++Builtin.zeroCells zeroR.cells (grownCap w n 0 52 - n)) 52)=W at *
 generalize grownCap w n 0 52=cap at *
 have HR:Hid ((Builtin.append_ #[44,3] 44 #[.slice none 0 0,.int .i64 n]).run Tryz.prog w=.ok (.slice (some ⟨w.heap.size,0,none⟩) n cap) W):=hr
 have h0:¬((n:Int)<0):=by omega
 have h1:(0:Int)<(n:Int):=by omega
 have h2:wrap64 (n:Int)=n:=by unfold wrap64;omega
 have h3:¬cap=0:=by omega
 clear hr hsz hi hz hs hby
 go_enter Tryz.func115,Tryz.ntmps115
 go_wp2_with (at_builtin;refine Lib.wpList_append_run _ rfl _ _ _ _ rfl _ _ rfl rfl _ _ HR.out ?_)
 go_ret
 exact⟨_,rfl,hO,hB⟩
theorem SL.form{w:World}{v:Value}{zs:List RL}(h:SL w v zs):∃p c,v=.slice p zs.length c:=by
 rcases h with ⟨rfl,rfl⟩|⟨b,o,c,h1,_⟩
 ·exact⟨none,0,rfl⟩
 ·exact⟨_,c,h1⟩
def upto(pz:Nat→List RL):Nat→List RL
 | 0=>[]
 | k+1=>upto pz k++pz k
theorem upto_len(pz:Nat→List RL)(k:Nat):(upto pz (k+1)).length=(upto pz k).length+(pz k).length:=List.length_append
theorem upto_le(pz:Nat→List RL)(k d:Nat):(upto pz k).length≤(upto pz (k+d)).length:=by
 induction d with
 | zero=>exact nzR _
 | succ d ih=>
  have:=upto_len pz (k+d)
  rw[show k+(d+1)=k+d+1 from rfl]
  omega
theorem upto_le'(pz:Nat→List RL){k n:Nat}(h:k≤n):(upto pz k).length≤(upto pz n).length:=by
 have:=upto_le pz k (n - k)
 rwa [show k+(n - k)=n by omega] at this
theorem concat_any(B c n:Nat)(pv:Nat→Value)(pz:Nat→List RL)(w:World)(hps:n≤10)(hcell:∀j,j<n→w.cell? ⟨B,j,none⟩=some (pv j))
  (hsl:∀j,j<n→SL w (pv j) (pz j)) (hlen:(upto pz n).length≤1000) :
  Calls Tryz.prog 85 #[.slice (some ⟨B,0,none⟩) n c] w fun e w'=>∃v,e=.returned v∧OwnQ w' w.heap.size v (upto pz n)∧Below w.heap.size w w':=by
 obtain⟨i0,hi,hz0,hz1,hz2⟩:=infoR'
 have HI:Hid (Tryz.prog.info? 52=some i0):=hi
 clear hi
 have HC:Hid (∀j,j<n→w.cell? ⟨B,j,none⟩=some (pv j)):=hcell
 have HS:Hid (∀j,j<n→SL w (pv j) (pz j)):=hsl
 have HLE:Hid ((upto pz n).length≤1000):=hlen
 clear hcell hsl hlen
 go_enter Tryz.func85,Tryz.ntmps85
 go_wp2_with fail
 go_loopg [3,5,11] n (fun gg s3 _ s11 wr=>∃kk S:Nat,kk≤n∧n - kk≤gg∧s11=.int .i64 kk∧s3=.int .i64 S∧Aside (S=(upto pz kk).length)∧wr=w)
 case atStart=>exact⟨0,0,Nat.zero_le _,by omega,rfl,rfl,rfl,rfl⟩
 case round=>
  obtain⟨kk,S,hkk,hg,rfl,rfl,hS,rfl⟩:=hrel
  by_cases hlt:kk<n
  ·have hltz:(kk:Int)<(n:Int):=by omega
   have hin1:¬((kk:Int)<0):=by omega
   have c0:=HC.out kk hlt
   obtain⟨p,cc,hv⟩:=(HS.out kk hlt).form
   obtain⟨m,hm⟩:∃m,m=(pz kk).length:=⟨_,rfl⟩
   have hle:S+m≤1000:=by
    have h1:=upto_le' pz (show kk+1≤n by omega)
    have h2:=HLE.out
    have h3:=hS.out
    rw[upto_len] at h1
    omega
   have hSm:Aside (S+m=(upto pz (kk+1)).length):=by
    show _=_
    rw[upto_len,←hm,hS.out]
   rw[hv,←hm] at c0
   clear hv hm
   have e1:wrap64 ((S:Int)+(m:Int))=((S+m:Nat):Int):=by unfold wrap64;omega
   have e2:¬(((S+m:Nat):Int)<0):=by omega
   go_wp2_with fail
   go_roundg (n - (kk+1))
   case measure=>omega
   case rel=>exact⟨kk+1,S+m,by omega,by omega,by go_num,rfl,hSm,rfl⟩
  ·have hltz:¬(kk:Int)<(n:Int):=by omega
   have hk:kk=n:=by omega
   subst hk
   obtain⟨w0,hw0⟩:∃w0,w0=wr:=⟨_,rfl⟩
   subst hw0
   have hgrow:Hid (Calls Tryz.prog 115 #[.slice none 0 0,.int .i64 (S:Int)] w0 fun e w'=>∃v,e=.returned v∧OwnQ w' w0.heap.size v []∧Below w0.heap.size w0 w'):=by
    by_cases h0:S=0
    ·rw[h0]
     exact(grow_nil0 w0).mono (fun e w' h=>⟨.slice none 0 0,h.1,⟨rfl,.inl ⟨rfl,rfl⟩⟩,by rw[h.2];exact bzR _ _⟩)
    ·exact grow_nil _ (by omega) (by have h1:=HLE.out;have h2:=hS.out;omega) w0
   clear hS
   go_wp2_with fail
   refine hgrow.out.mono ?_
   rintro e w1⟨v1,rfl,ho1,hb1⟩
   have HO1:Hid (OwnQ w1 w0.heap.size v1 []):=ho1
   have HB1:Hid (Below w0.heap.size w0 w1):=hb1
   clear ho1 hb1 hgrow
   go_wp2_with fail
   go_loopg [6,8,27] kk (fun gg s6 _ s27 W=>∃k2:Nat,k2≤kk∧kk - k2≤gg∧s27=.int .i64 k2∧Aside (OwnQ W w0.heap.size s6 (upto pz k2))∧Aside (Below w0.heap.size w0 W))
   case atStart=>exact⟨0,Nat.zero_le _,by omega,rfl,HO1.out,HB1.out⟩
   case round=>
    obtain⟨k2,hk2,hg2,rfl,hO,hBW⟩:=hrel
    by_cases hlt2:k2<kk
    ·have hltz2:(k2:Int)<(kk:Int):=by omega
     have hin2:¬((k2:Int)<0):=by omega
     have c0:=keeps hBW.out (HC.out k2 hlt2)
     have hsl:SL wr (pv k2) (pz k2):=(HS.out k2 hlt2).below hBW.out
     have hle:(upto pz (k2+1)).length≤1000:=Nat.le_trans (upto_le' pz (show k2+1≤kk by omega)) HLE.out
     rw[upto_len] at hle
     rcases hsl with ⟨hv,hz⟩|⟨b,o,cp,hv,h2,h3,h4,h5⟩
     ·rw[hv] at c0
      have hO2:Aside (OwnQ wr w0.heap.size u6 (upto pz (k2+1))):=by
       show OwnQ _ _ _ _
       rw[show upto pz (k2+1)=upto pz k2++pz k2 from rfl,hz,List.append_nil]
       exact hO.out
      have HR:Hid ((Builtin.append_ #[44,44] 44 #[u6,.slice none 0 0]).run Tryz.prog wr=.ok u6 wr):=run_append_none wr _ _ _ _ i0 2 Tryz.underlying44 HI.out _ _ _ hO.out
      clear hv hz hle hz0 hz1 hz2
      go_wp2_with (at_builtin;refine Lib.wpList_append_run _ rfl _ _ _ _ rfl _ _ rfl rfl _ _ HR.out ?_)
      go_roundg (kk - (k2+1))
      case measure=>omega
      case rel=>exact⟨k2+1,by omega,by omega,by go_num,hO2,hBW⟩
     ·rw[hv] at c0
      have HF:Hid (∀j u,(flat (pz k2))[j]?=some u→wr.cell? ((⟨b,o,none⟩:Addr).add j)=some u):=lies_flat h5
      clear hv h5
      go_wp2_with (at_builtin;(refine wpList_append_mid _ rfl _ _ 44 rfl w0.heap.size 52 i0 zeroR 2 32 Tryz.underlying44 HI.out hz0 hz1 hz2 rfl u6 _ _ rfl hO.out ⟨b,o,none⟩ (pz k2).length cp (flat (pz k2)) rfl (flat_len _) HF.out (flat_one _) ?c3 ?c4 ?c5 ?_))
      case c3=>unfold maxLen;omega
      case c4=>omega
      case c5=>exact hBW.out.size
      intro v' w' hO' hgr hat
      have hB' : Aside (Below w0.heap.size w0 w'):=hBW.out.grown hgr hBW.out.size (fun k hk=>(hO.out.lt k hk).1)
      have hO2:Aside (OwnQ w' w0.heap.size v' (upto pz (k2+1))):=by
       show OwnM _ _ _ _ _ _ _
       rw[upto_len,show upto pz (k2+1)=upto pz k2++pz k2 from rfl,flat_append]
       exact hO'
      clear hO' hgr hat HF c0
      go_wp2_with fail
      go_roundg (kk - (k2+1))
      case measure=>omega
      case rel=>exact⟨k2+1,by omega,by omega,by go_num,hO2,hB'⟩
    ·have hltz2:¬(k2:Int)<(kk:Int):=by omega
     have hk:k2=kk:=by omega
     subst hk
     go_wp2_with fail
     go_ret
     exact⟨_,rfl,hO.out,hBW.out⟩
end rlv
namespace sid
open Go.RowKit spn que
abbrev RP:=rlv.RL × List R
def sv(r:rlv.RL):Value:=.slice r.q r.n r.c
def toL(p:RP):L:=⟨p.1.price,p.2⟩
def blkR(r:rlv.RL):Option Nat:=(sv r).ownBlock
def AP(a b:RP):Prop:=∀x,blkR a.1=some x→blkR b.1≠some x
theorem zIR(p:RP):(toL p).price=p.1.price:=rfl
theorem zEs(p:RP):(toL p).rests=p.2:=rfl
def Loose(w:World)(v:Value)(ps:List RP):Prop:=rlv.SL w v (ps.map (·.1))∧∀p∈ps,SLe w (sv p.1) p.2
theorem Loose.below{w w' : World}{v:Value}{ps:List RP}(h:Loose w v ps)(hB:Below w.heap.size w w'):Loose w' v ps:=
 ⟨h.1.below hB,fun p hp=>(h.2 p hp).below hB⟩
theorem mget{α β:Type}[Inhabited α][Inhabited β](f:α→β)(l:List α)(k:Nat)(h:k<l.length):(l.map f)[k]! = f l[k]!:=by
 rw[getE _ _ (by simpa using h),getE _ _ h,List.getElem_map]
theorem zLP{w:World}{b o:Nat}{ps:List RP}(h:rlv.Lies w b o (ps.map (·.1)))(he:∀p∈ps,SLe w (sv p.1) p.2):LL w b o (ps.map toL):=by
 intro k hk
 have hk2:k<ps.length:=by simpa using hk
 have h0:=h k (by simpa using hk2) 0 _ (show (rlv.rV (ps.map (·.1))[k]!)[0]?=some _ from rfl)
 have h1:=h k (by simpa using hk2) 1 _ (show (rlv.rV (ps.map (·.1))[k]!)[1]?=some _ from rfl)
 rw[mget _ _ _ hk2] at h0 h1
 rw[mget _ _ _ hk2]
 exact⟨h0,sv ps[k]!.1,h1,he _ (by rw[getE _ _ hk2];exact List.getElem_mem hk2)⟩
theorem Loose.ls{w:World}{v:Value}{ps:List RP}(h:Loose w v ps):LS w v (ps.map toL):=by
 obtain⟨h1,h2⟩:=h
 rcases h1 with ⟨rfl,hn⟩|⟨b,o,c,rfl,hc,hm,hb,hl⟩
 ·have:ps=[]:=by simpa using hn
  subst this
  exact .inl ⟨rfl,rfl⟩
 ·exact .inr ⟨b,o,c,by simp,by simpa using hc,hm,hb,zLP hl h2⟩
theorem ll_tail{w:World}{b o:Nat}{l:L}{t:List L}(h:LL w b o (l::t)):LL w b (o+2) t:=by
 intro k hk
 have:=h (k+1) (by simpa using hk)
 rw[show o+(k+1)*2=o+2+k*2 by omega] at this
 simpa using this
theorem zIS{w:World}{b o:Nat}{r:rlv.RL}{t:List rlv.RL}(h0:w.cell? ⟨b,o,none⟩=some (.int .i64 r.price))(h1:w.cell? ⟨b,o+1,none⟩=some (sv r))(h:rlv.Lies w b (o+2) t):rlv.Lies w b o (r::t):=by
 intro j hj i v hv
 cases j with
 | zero=>
  simp only[List.getElem!_cons_zero,rlv.rV] at hv
  match i,hv with
  | 0,hv=>simp at hv;subst hv;simpa using h0
  | 1,hv=>simp at hv;subst hv;simpa [sv] using h1
  | i+2,hv=>simp at hv
 | succ j=>
  simp only[List.getElem!_cons_succ] at hv
  have:=h j (by simpa using hj) i v hv
  rw[show o+(j+1)*2+i=o+2+j*2+i by omega]
  exact this
theorem zLQ{w:World}{b:Nat}(ls:List L):∀o,LL w b o ls→∃ps:List RP,ps.map toL=ls∧rlv.Lies w b o (ps.map (·.1))∧∀p∈ps,SLe w (sv p.1) p.2:=by
 induction ls with
 | nil=>intro o _;exact⟨[],rfl,fun j hj=>by simp at hj,fun p hp=>by cases hp⟩
 | cons l t ih=>
  intro o h
  obtain⟨ps,e1,e2,e3⟩:=ih _ (ll_tail h)
  obtain⟨h0,v,h1,hs⟩:=h 0 (by simp)
  simp only[List.getElem!_cons_zero,Nat.zero_mul,Nat.add_zero] at h0 h1 hs
  obtain⟨q,c,hv⟩:=zDz hs
  subst hv
  refine⟨(⟨l.price,q,l.rests.length,c⟩,l.rests)::ps,by rw[List.map_cons,e1];rfl,zIS h0 h1 e2,?_⟩
  intro p hp
  rcases List.mem_cons.1 hp with rfl|hp
  ·exact hs
  ·exact e3 p hp
theorem zLR{w:World}{v:Value}{ls:List L}(h:LS w v ls):∃ps:List RP,ps.map toL=ls∧Loose w v ps:=by
 rcases h with ⟨rfl,rfl⟩|⟨b,o,c,rfl,hc,hm,hb,hl⟩
 ·exact⟨[],rfl,.inl ⟨rfl,rfl⟩,fun p hp=>by cases hp⟩
 ·obtain⟨ps,e1,e2,e3⟩:=zLQ ls o hl
  have e4:ps.length=ls.length:=by rw[←e1,List.length_map]
  exact⟨ps,e1,.inr ⟨b,o,c,by simp[e4],by simpa [e4] using hc,hm,hb,e2⟩,e3⟩
structure DeepT (w:World) (base:Nat) (v:Value) (ps:List RP) (tl:List rlv.RL):Prop where
 own:rlv.OwnQ w base v (ps.map (·.1)++tl)
 each:∀p∈ps,OwnQ w base (sv p.1) p.2
 apart:ps.Pairwise AP
 far:∀p∈ps,∀x,blkR p.1=some x→v.ownBlock≠some x
abbrev Deep(w:World)(base:Nat)(v:Value)(ps:List RP):Prop:=DeepT w base v ps []
theorem DeepT.loose{w:World}{base:Nat}{v:Value}{ps:List RP}(h:Deep w base v ps):Loose w v ps:=
 ⟨by have:=rlv.OwnQ.sl h.own;rwa [List.append_nil] at this,fun p hp=>.inl (OwnQ.sl (h.each p hp))⟩
theorem DeepT.ls{w:World}{base:Nat}{v:Value}{ps:List RP}(h:Deep w base v ps):LS w v (ps.map toL):=h.loose.ls
theorem gr_setCell(w:World)(g o:Nat)(u:Value):w.grownBy (w.setCell ⟨g,o,none⟩ u) (some g):=
 ⟨rfl,rfl,rfl,by simp,fun k _ hk=>heap_setCell_other w ⟨g,o,none⟩ k u (fun e=>hk (by rw[e]))⟩
theorem gr_below{w w' : World}(h:Below w.heap.size w w')(row:Option Nat):w.grownBy w' row:=⟨h.os,h.tape,h.output,h.size,fun k hk _=>h.block k hk⟩
theorem gr_trans{a b c:World}{row:Option Nat}(h:a.grownBy b row)(k:b.grownBy c row):a.grownBy c row:=
 ⟨k.os.trans h.os,k.tape.trans h.tape,k.output.trans h.output,Nat.le_trans h.size k.size,fun i hi hn=>(k.block i (Nat.lt_of_lt_of_le hi h.size) hn).trans (h.block i hi hn)⟩
theorem OwnM.mono{w:World}{base base' : Nat}{e:TypeId}{sz:Nat}{v:Value}{n:Nat}{xs:List Value}(h:OwnM w base e sz v n xs)(hb:base'≤base):OwnM w base' e sz v n xs:=by
 refine⟨h.1,?_⟩
 rcases h.2 with hn|⟨g,off,cap,cur,h1,h2,h3⟩
 ·exact .inl hn
 ·exact .inr ⟨g,off,cap,cur,h1,Nat.le_trans hb h2,h3⟩
theorem OwnM.form{w:World}{base:Nat}{e:TypeId}{sz:Nat}{v:Value}{n:Nat}{xs:List Value}(h:OwnM w base e sz v n xs):∃q c,v=.slice q n c:=by
 rcases h.2 with ⟨h1,h2⟩|⟨g,off,cap,cur,h1,_⟩
 ·subst h2;exact⟨_,_,h1⟩
 ·exact⟨_,_,h1⟩
theorem OwnM.set{w:World}{base:Nat}{e:TypeId}{sz:Nat}{g off n cap:Nat}{xs:List Value}(h:OwnM w base e sz (.slice (some ⟨g,off,none⟩) n cap) n xs)(j:Nat)(u:Value) :
  OwnM (w.setCell ⟨g,off+j,none⟩ u) base e sz (.slice (some ⟨g,off,none⟩) n cap) n (xs.set j u):=by
 refine⟨by rw[List.length_set];exact h.1,?_⟩
 rcases h.2 with ⟨h1,_⟩|⟨g',off',cap',cur,h1,h2,h3,h4,h5,h6,h7⟩
 ·cases h1
 ·cases h1
  refine .inr ⟨g,off,cap,cur.setIfInBounds (off+j) u,rfl,h2,heap_setCell_same w g (off+j) cur e u h3,h4,h5,by simpa using h6,?_⟩
  rw[Array.toList_setIfInBounds,List.drop_set,if_neg (by omega),show off+j - off=j by omega,List.take_set,h7]
theorem OwnM.cells{w:World}{base:Nat}{e:TypeId}{sz:Nat}{g off n cap:Nat}{xs:List Value}(h:OwnM w base e sz (.slice (some ⟨g,off,none⟩) n cap) n xs) :
  (∀j u,xs[j]?=some u→w.cell? ⟨g,off+j,none⟩=some u)∧(∀o,w.frozen? ⟨g,o,none⟩=false)∧base≤g∧g<w.heap.size:=by
 rcases h.2 with ⟨h1,_⟩|⟨g',off',cap',cur,h1,h2,h3,h4,h5,h6,h7⟩
 ·cases h1
 ·cases h1
  refine⟨fun j u hu=>?_,fun o=>by simp[World.frozen?,h3],h2,(gzE.1 h3).1⟩
  rw[cell_of_row w g (off+j) cur e (0,0) h3]
  rw[←h7,List.getElem?_take] at hu
  split at hu
  ·rw[List.getElem?_drop] at hu;simpa using hu
  ·cases hu
theorem zBX{w:World}{base g off n cap:Nat}{a:List rlv.RL}{r:rlv.RL}{b:List rlv.RL}(h:rlv.OwnQ w base (.slice (some ⟨g,off,none⟩) n cap) (a++r::b)) :
  n=(a++r::b).length∧w.cell? ⟨g,off+a.length*2,none⟩=some (.int .i64 r.price)∧w.cell? ⟨g,off+a.length*2+1,none⟩=some (.slice r.q r.n r.c)∧(∀o,w.frozen? ⟨g,o,none⟩=false)∧base≤g∧g<w.heap.size:=by
 have hn:n=(a++r::b).length:=by obtain⟨q',c',e⟩:=OwnM.form h;cases e;rfl
 subst hn
 obtain⟨hc,hf,h1,h2⟩:=OwnM.cells h
 refine⟨rfl,?_,?_,hf,h1,h2⟩
 ·have:=hc (a.length*2) (.int .i64 r.price) (by
   rw[rlv.flat_append,List.getElem?_append_right (by rw[rlv.flat_len];omega),rlv.flat_len,Nat.sub_self];rfl)
  exact this
 ·have:=hc (a.length*2+1) (.slice r.q r.n r.c) (by
   rw[rlv.flat_append,List.getElem?_append_right (by rw[rlv.flat_len];omega),rlv.flat_len,show a.length*2+1 - a.length*2=1 by omega];rfl)
  rw[←Nat.add_assoc] at this
  exact this
theorem DeepT.grown{w w' : World}{base:Nat}{v:Value}{ps:List RP}{tl:List rlv.RL}(h:DeepT w base v ps tl){row:Option Nat}(hg:w.grownBy w' row)(h1:∀x,row=some x→w.heap.size≤x):DeepT w' base v ps tl:=by
 refine⟨OwnM.kept h.own hg ?_,fun p hp=>OwnM.kept (h.each p hp) hg ?_,h.apart,h.far⟩
 ·cases hv:v.ownBlock with
  | none=>exact .inl rfl
  | some k=>exact .inr fun e=>by have:=(OwnM.lt h.own k hv).2;have:=h1 k e.symm;omega
 ·cases hv:(sv p.1).ownBlock with
  | none=>exact .inl rfl
  | some k=>exact .inr fun e=>by have:=(OwnM.lt (h.each p hp) k hv).2;have:=h1 k e.symm;omega
theorem DeepT.below{w w' : World}{base:Nat}{v:Value}{ps:List RP}{tl:List rlv.RL}(h:DeepT w base v ps tl)(hB:Below w.heap.size w w'):DeepT w' base v ps tl:=
 h.grown (gr_below hB none) (fun x hx=>by cases hx)
theorem zDC{a:List rlv.RL}{r:rlv.RL}{b:List rlv.RL}(q:Option Addr)(n c:Nat):(rlv.flat (a++r::b)).set (a.length*2+1) (.slice q n c)=rlv.flat (a++⟨r.price,q,n,c⟩::b):=by
 rw[rlv.flat_append,rlv.flat_append,List.set_append,if_neg (by rw[rlv.flat_len];omega),rlv.flat_len,show a.length*2+1 - a.length*2=1 by omega]
 rfl
theorem zAe{w w' : World}{base:Nat}{e:TypeId}{sz:Nat}{v:Value}{n:Nat}{xs:List Value}{row:Option Nat}(h:OwnM w base e sz v n xs)(hg:w.grownBy w' row)(hne:∀x,v.ownBlock=some x→row≠some x):OwnM w' base e sz v n xs:=by
 refine OwnM.kept h hg ?_
 cases hv:v.ownBlock with
 | none=>exact .inl rfl
 | some k=>exact .inr fun e=>hne k hv e.symm
theorem DeepT.next{w w1:World}{base g off n cap:Nat}{ps:List RP}{r:rlv.RL}{tl:List rlv.RL}{zs:List R}{q:Option Addr}{m c:Nat}
  (h:DeepT w base (.slice (some ⟨g,off,none⟩) n cap) ps (r::tl)) (hB:Below w.heap.size w w1) (ho:OwnQ w1 w.heap.size (.slice q m c) zs) (hbase:base≤w.heap.size) :
  DeepT (w1.setCell ⟨g,off+(ps.length*2+1),none⟩ (.slice q m c)) base (.slice (some ⟨g,off,none⟩) n cap) (ps++[(⟨r.price,q,m,c⟩,zs)]) tl:=by
 have h1:=h.below hB
 have hg:=gr_setCell w1 g (off+(ps.length*2+1)) (.slice q m c)
 have hn:n=(ps.map (·.1)++r::tl).length:=by
  obtain⟨q',c',e⟩:=OwnM.form h.own;cases e;rfl
 subst hn
 obtain⟨-,-,-,hlt⟩:=OwnM.cells h.own
 have hnew:∀x,(Value.slice q m c).ownBlock=some x→w.heap.size≤x:=fun x hx=>(OwnM.lt ho x hx).1
 refine⟨?_,?_,?_,?_⟩
 ·have:=OwnM.set h1.own (ps.length*2+1) (.slice q m c)
  rw[show ps.length=(ps.map (·.1)).length by simp,zDC] at this
  rw[List.map_append,List.append_assoc]
  show OwnM _ _ _ _ _ _ _
  simpa using this
 ·intro p hp
  rcases List.mem_append.1 hp with hp|hp
  ·exact zAe (h1.each p hp) hg (fun x hx=>by have:=h.far p hp x hx;simpa [Value.ownBlock] using this)
  ·simp only[List.mem_singleton] at hp
   subst hp
   exact zAe (OwnM.mono ho hbase) hg (fun x hx e=>by have:=hnew x hx;simp at e;omega)
 ·refine List.pairwise_append.2 ⟨h1.apart,by simp,?_⟩
  intro a ha b hb x hx hy
  simp only[List.mem_singleton] at hb
  subst hb
  have:=hnew x hy
  have:=(OwnM.lt (h.each a ha) x hx).2
  omega
 ·intro p hp x hx
  rcases List.mem_append.1 hp with hp|hp
  ·exact h.far p hp x hx
  ·simp only[List.mem_singleton] at hp
   subst hp
   have:=hnew x hx
   intro e
   simp[Value.ownBlock] at e
   omega
theorem zLS(B c:Nat)(v:Value)(zs:List rlv.RL)(w:World)(hc:w.cell? ⟨B,0,none⟩=some v)(hs:rlv.SL w v zs)(hl:zs.length≤1000) :
  Calls Tryz.prog 85 #[.slice (some ⟨B,0,none⟩) 1 c] w fun e w'=>∃v',e=.returned v'∧rlv.OwnQ w' w.heap.size v' zs∧Below w.heap.size w w':=by
 have h:=rlv.concat_any B c 1 (fun _=>v) (fun _=>zs) w (by omega) (fun j hj=>by rw[show j=0 by omega];exact hc) (fun _ _=>hs) (by simpa [rlv.upto] using hl)
 simpa [rlv.upto] using h
theorem zLT(B c:Nat)(v:Value)(zs:List R)(w:World)(hc:w.cell? ⟨B,0,none⟩=some v)(hs:SL w v zs)(hl:zs.length≤1000) :
  Calls Tryz.prog 86 #[.slice (some ⟨B,0,none⟩) 1 c] w fun e w'=>∃v',e=.returned v'∧OwnQ w' w.heap.size v' zs∧Below w.heap.size w w':=by
 have h:=concat_any B c 1 (fun _=>v) (fun _=>zs) w (by omega) (fun j hj=>by rw[show j=0 by omega];exact hc) (fun _ _=>hs) (by simpa [upto] using hl)
 simpa [upto] using h
def FreshPost(w:World)(ls:List L)(e:Ending)(w' : World):Prop:=∃v' ps,e=.returned v'∧ps.map toL=ls∧Deep w' w.heap.size v' ps∧Below w.heap.size w w'
theorem zGg(w:World)(base:Nat):Deep w base (.slice none 0 0) []:=⟨⟨rfl,.inl ⟨rfl,rfl⟩⟩,fun p hp=>(by cases hp),List.Pairwise.nil,fun p hp=>(by cases hp)⟩
theorem zDD{w:World}{v:Value}{ls:List L}(h:LS w v ls):∃q m c,v=.slice q m c:=by
 rcases h with ⟨rfl,rfl⟩|⟨b,o,c,h1,_⟩
 ·exact⟨none,0,0,rfl⟩
 ·exact⟨_,_,c,h1⟩
theorem zAK(v:Value)(ls:List L)(w:World)(h:LS w v ls)(hn:ls.length≤1000)(hr:∀l∈ls,l.rests.length≤1000)(hne:∀l∈ls,l.rests≠[]) :
  Calls Tryz.prog 58 #[v] w fun e w'=>FreshPost w ls e w':=by
 obtain⟨vq,vm,vc,rfl⟩:=zDD h
 obtain⟨ps0,e0,hL⟩:=zLR h
 have hlen:ps0.length=ls.length:=by rw[←e0,List.length_map]
 have HR:Hid (∀p∈ps0,p.2.length≤1000):=fun p hp=>hr (toL p) (by rw[←e0];exact List.mem_map.2 ⟨p,hp,rfl⟩)
 obtain⟨raw,hraw⟩:∃raw,raw=ps0.map (·.1):=⟨_,rfl⟩
 have hB0:Below w.heap.size w (w.alloc (.cells #[.slice vq vm vc] 44)):=(bzR _ _).alloc (nzR _) _
 have hcat:=zLS w.heap.size 1 (.slice vq vm vc) raw (w.alloc (.cells #[.slice vq vm vc] 44)) (by simp[go_sem]) (by rw[hraw];exact hL.1.below hB0) (by rw[hraw];simp;omega)
 have HE:Hid (∀W,Below w.heap.size w W→∀p∈ps0,SL W (sv p.1) p.2):=fun W hW p hp=>((hL.2 p hp).below hW).sl (hne (toL p) (by rw[←e0];exact List.mem_map.2 ⟨p,hp,rfl⟩))
 have HPOST:Hid (∀W v' ps,Below w.heap.size w W→ps.map toL=ps0.map toL→Deep W w.heap.size v' ps→FreshPost w ls (.returned v') W):=fun W v' ps hW e hD=>⟨v',ps,rfl,e.trans e0,hD,hW⟩
 generalize FreshPost w ls=POST at *
 have HRAW:Hid (raw=ps0.map (·.1)):=hraw
 have hsz0:w.heap.size≤(w.alloc (.cells #[.slice vq vm vc] 44)).heap.size:=hB0.size
 clear h hn hr hne e0 hL hlen hraw
 go_enter Tryz.func58,Tryz.ntmps58
 go_wp2_with fail
 refine hcat.mono ?_
 rintro e w1⟨v1,rfl,ho1,hb1⟩
 have HB1:Hid (Below w.heap.size w w1):=hB0.trans (hb1.mono hsz0)
 have HO1:Hid (rlv.OwnQ w1 w.heap.size v1 raw):=OwnM.mono ho1 hsz0
 have hw1:w.heap.size≤w1.heap.size:=HB1.out.size
 clear hcat ho1 hb1 hB0 hsz0
 rcases HO1.out.2 with ⟨rfl,hz⟩|⟨g,off,cap,cur,rfl,hbg,-,hcap,hcm,-,-⟩
 ·have hp0:ps0=[]:=by
   have h1:=HRAW.out
   have h2:raw=[]:=List.length_eq_zero_iff.1 hz
   rw[h2] at h1
   simpa using h1.symm
  have HX:=HPOST.out w1 (.slice none 0 0) [] HB1.out (by rw[hp0]) (zGg _ _)
  clear HPOST HO1 HRAW HE HR hp0 hz
  go_wp2_with fail
  go_loopg [4,10] 0 (fun _ _ s10 wr=>s10=.int .i64 0∧wr=w1)
  case atStart=>exact⟨rfl,rfl⟩
  case round=>
   obtain⟨rfl,rfl⟩:=hrel
   go_wp2_with fail
   exact HX
 ·generalize hm:raw.length=n at *
  have HN:Hid (ps0.length=n):=by show _=_;rw[←hm,HRAW.out,List.length_map]
  have hcap2:cap≤9223372036854775807:=by simpa [maxLen] using hcm
  clear hcm hbg
  have HD1:Hid (DeepT w1 w.heap.size (.slice (some ⟨g,off,none⟩) n cap) [] raw):=⟨by rw[List.map_nil,List.nil_append];exact HO1.out,fun p hp=>(by cases hp),List.Pairwise.nil,fun p hp=>(by cases hp)⟩
  clear HO1 hm
  go_wp2_with fail
  go_loopg [4,10] n (fun gg _ s10 wr=>∃kk:Nat,kk≤n∧n - kk≤gg∧s10=.int .i64 kk∧Aside (∃ps:List RP,ps.length=kk∧ps.map toL=(ps0.take kk).map toL∧DeepT wr w.heap.size (.slice (some ⟨g,off,none⟩) n cap) ps (raw.drop kk))∧Aside (Below w.heap.size w wr))
  case atStart=>exact⟨0,Nat.zero_le _,by omega,rfl,⟨[],rfl,rfl,HD1.out⟩,HB1.out⟩
  case round=>
   obtain⟨kk,hkk,hg,rfl,AD,BW⟩:=hrel
   by_cases hlt:kk<n
   ·have hltz:(kk:Int)<(n:Int):=by omega
    have hin1:¬((kk:Int)<0):=by omega
    obtain⟨ps,hk,hps,hD⟩:=AD.out
    have hlz:kk<ps0.length:=by rw[HN.out];exact hlt
    obtain⟨p,hp⟩:∃p,p=ps0[kk]:=⟨_,rfl⟩
    have hpm:p∈ps0:=by rw[hp];exact List.getElem_mem hlz
    have hdr:raw.drop kk=p.1::raw.drop (kk+1):=by
     rw[HRAW.out,List.drop_eq_getElem_cons (by simpa using hlz),List.getElem_map,←hp]
    rw[hdr] at hD
    obtain⟨⟨pp,pq,pn,pc⟩,zs⟩:=p
    obtain⟨-,-,c1,hfr,hgb,hgs⟩:=zBX hD.own
    rw[List.length_map,hk] at c1
    simp only[] at c1
    have f1:wr.frozen? ⟨g,off+kk*2+1,none⟩=false:=hfr _
    have hBV:Below wr.heap.size wr (wr.alloc (.cells #[.slice pq pn pc] 50)):=(bzR _ _).alloc (nzR _) _
    have hcat:=zLT wr.heap.size 1 (.slice pq pn pc) zs (wr.alloc (.cells #[.slice pq pn pc] 50)) (by simp[go_sem]) (HE.out _ (BW.out.trans (hBV.mono BW.out.size)) _ hpm) (HR.out _ hpm)
    have HDD:Hid (DeepT wr w.heap.size (.slice (some ⟨g,off,none⟩) n cap) ps (⟨pp,pq,pn,pc⟩::raw.drop (kk+1))):=hD
    have HPS:Hid (ps.length=kk∧ps.map toL++[toL (⟨pp,pq,pn,pc⟩,zs)]=(ps0.take (kk+1)).map toL):=by
     refine⟨hk,?_⟩
     rw[List.take_succ_eq_append_getElem hlz,List.map_append,←hps,←hp];rfl
    have HSZ:Hid (wr.heap.size≤(wr.alloc (.cells #[.slice pq pn pc] 50)).heap.size):=hBV.size
    have HBV:Hid (Below wr.heap.size wr (wr.alloc (.cells #[.slice pq pn pc] 50))):=hBV
    clear hfr hD hk hps hp hpm hdr AD hBV
    go_wp2_with fail
    refine hcat.mono ?_
    rintro e w2⟨v2,rfl,ho2,hb2⟩
    obtain⟨q2,cc2,rfl⟩:=OwnM.form ho2
    have HW2:Hid (Below wr.heap.size wr w2):=HBV.out.trans (hb2.mono HSZ.out)
    have HO2:Hid (OwnQ w2 wr.heap.size (.slice q2 zs.length cc2) zs):=OwnM.mono ho2 HSZ.out
    have d1:w2.cell? ⟨g,off+kk*2+1,none⟩=some (.slice pq pn pc):=keeps HW2.out c1
    have f2:w2.frozen? ⟨g,off+kk*2+1,none⟩=false:=(HW2.out.frozen (p:=⟨g,off+kk*2+1,none⟩) hgs).trans f1
    have hgs2:g<w2.heap.size:=Nat.lt_of_lt_of_le hgs HW2.out.size
    have HN2:Hid (DeepT (w2.setCell ⟨g,off+kk*2+1,none⟩ (.slice q2 zs.length cc2)) w.heap.size (.slice (some ⟨g,off,none⟩) n cap) (ps++[(⟨pp,q2,zs.length,cc2⟩,zs)]) (raw.drop (kk+1))):=by
     have:=DeepT.next HDD.out HW2.out HO2.out BW.out.size
     rw[HPS.out.1,←Nat.add_assoc] at this
     exact this
    have HBW:Hid (Below w.heap.size w (w2.setCell ⟨g,off+kk*2+1,none⟩ (.slice q2 zs.length cc2))):=(BW.out.trans (HW2.out.mono BW.out.size)).setCell hgb _
    clear hcat ho2 hb2 HO2 HW2 c1 f1
    go_wp2_with fail
    go_roundg (n - (kk+1))
    case measure=>omega
    case rel=>exact⟨kk+1,by omega,by omega,by go_num,⟨ps++[(⟨pp,q2,zs.length,cc2⟩,zs)],by rw[List.length_append,HPS.out.1];rfl,by rw[List.map_append];exact HPS.out.2,HN2.out⟩,HBW.out⟩
   ·have hltz:¬(kk:Int)<(n:Int):=by omega
    have hkn:kk=n:=by omega
    subst hkn
    obtain⟨ps,hk,hps,hD⟩:=AD.out
    rw[List.drop_eq_nil_of_le (by rw[HRAW.out,List.length_map,HN.out];exact nzR _)] at hD
    rw[List.take_of_length_le (by rw[HN.out];exact nzR _)] at hps
    have HX:=HPOST.out wr _ ps BW.out hps hD
    clear HPOST hD hps hk AD
    go_wp2_with fail
    exact HX
end sid
namespace sid
open Go.RowKit que
open tickP (priceB sideB betOk betR)
theorem lead_iff{s a b:Int}(hs:sideB s=true)(ha:priceB a=true)(hb:priceB b=true):leadB s a b=true↔(if s=1 then b<a else a<b):=by
 simp[sideB] at hs
 rcases hs with rfl|rfl
 ·have e:wrap64 (3 - 1)=2:=by unfold wrap64;omega
  unfold leadB betR betOk
  rw[e,ha,hb]
  simp[sideB]
 ·have e:wrap64 (3 - 2)=1:=by unfold wrap64;omega
  unfold leadB betR betOk
  rw[e,ha,hb]
  simp[sideB]
theorem zHm{s a b:Int}(hs:sideB s=true)(ha:priceB a=true)(hb:priceB b=true)(h:leadB s a b=false)(hne:a≠b):leadB s b a=true:=by
 rw[lead_iff hs hb ha]
 have:=mt (lead_iff hs ha hb).2 (by rw[h];simp)
 split <;>rename_i h1
 ·rw[if_pos h1] at this;omega
 ·rw[if_neg h1] at this;omega
def putL(s p:Int)(r:R):List L→List L
 | []=>[⟨p,[r]⟩]
 | l::t=>if leadB s l.price p=true then l::putL s p r t else if l.price=p then ⟨p,l.rests++[r]⟩::t else ⟨p,[r]⟩::l::t
theorem zAU{p:Int}{zs:List R}(hp:priceB p=true)(hz:zs≠[])(hq:qchk zs=0):lchk ⟨p,zs⟩=0:=by
 unfold lchk;rw[if_pos hp];rw[if_neg hz];exact hq
theorem zBr{l:L}(h:lchk l=0):priceB l.price=true:=by
 have:=(zAc h).1;simp[priceB];exact this
theorem zBk{s:Int}{prev:Option Int}{l:L}{t:List L}(h1:lchk l=0)(h2:behindB s prev l.price=true)(h3:sgo s (some l.price) t=0):sgo s prev (l::t)=0:=by
 unfold sgo;rw[if_pos h1,if_pos h2];exact h3
theorem zGh{r:R}(h:rchk r=0):que.Good [r]:=⟨fun x hx=>by simp at hx;rw[hx];exact h,by simp⟩
theorem zIT{zs:List R}{r:R}(h:que.Good zs)(hr:rchk r=0)(hid:r.id ∉ zs.map (·.id)):que.Good (zs++[r]):=by
 refine⟨fun x hx=>?_,?_⟩
 ·rcases List.mem_append.1 hx with hx|hx
  ·exact h.1 x hx
  ·simp at hx;rw[hx];exact hr
 ·rw[List.map_append,List.nodup_append]
  exact⟨h.2,by simp,fun a ha b hb e=>by simp at hb;rw[e,hb] at ha;exact hid ha⟩
def allR(ls:List L):List R:=ls.flatMap (·.rests)
theorem zAf(l:L)(t:List L):allR (l::t)=l.rests++allR t:=by simp[allR]
theorem zAv(a b:List L):allR (a++b)=allR a++allR b:=by simp[allR]
theorem zAE(ls:List L):ids ls=(allR ls).map (·.id):=zIK 0 ls
theorem zAs(ls:List L):cnt ls=(allR ls).length:=by
 induction ls with
 | nil=>rfl
 | cons x t ih=>rw[zAf,List.length_append];unfold cnt;rw[ih];omega
theorem sgo_put{s p:Int}{r:R}(hs:sideB s=true)(hp:priceB p=true)(hr:rchk r=0) :
  ∀ (ls:List L) (prev:Option Int),sgo s prev ls=0→behindB s prev p=true→r.id ∉ (allR ls).map (·.id)→(∀l∈ls,l.rests.length<60)→sgo s prev (putL s p r ls)=0:=by
 intro ls
 induction ls with
 | nil=>
  intro prev h1 h2 h3 h4
  exact zBk (zAU hp (by simp) ((zAd _).2 ⟨by simp,zGh hr⟩)) h2 rfl
 | cons l t ih=>
  intro prev h1 h2 h3 h4
  obtain⟨g1,g2,g3⟩:=zAy h1
  rw[zAf,List.map_append,List.mem_append] at h3
  have hpl:=zBr g1
  unfold putL
  by_cases hl:leadB s l.price p=true
  ·rw[if_pos hl]
   exact zBk g1 g2 (ih _ g3 hl (fun e=>h3 (.inr e)) (fun x hx=>h4 x (by simp[hx])))
  ·rw[if_neg hl]
   by_cases he:l.price=p
   ·rw[if_pos he]
    obtain⟨-,hz,hq⟩:=zAc g1
    obtain⟨-,hG⟩:=(zAd _).1 hq
    have hlen:=h4 l (by simp)
    refine zBk (zAU hp (by simp) ((zAd _).2 ⟨by rw[List.length_append];simp;omega,zIT hG hr (fun e=>h3 (.inl e))⟩)) h2 ?_
    rw[he] at g3;exact g3
   ·rw[if_neg he]
    refine zBk (zAU hp (by simp) ((zAd _).2 ⟨by simp,zGh hr⟩)) h2 (zBk g1 ?_ g3)
    exact zHm hs hpl hp (by simpa using hl) he
theorem zGi(s p:Int)(r:R)(ls:List L):(allR (putL s p r ls)).Perm (r::allR ls):=by
 induction ls with
 | nil=>simp[putL,allR]
 | cons l t ih=>
  unfold putL
  split
  ·rw[zAf,zAf]
   exact(List.Perm.append_left _ ih).trans List.perm_middle
  ·split
   ·rw[zAf,zAf]
    simp only[List.append_assoc,List.singleton_append]
    exact List.perm_middle
   ·rw[zAf];simp
theorem zIU(s p:Int)(r:R)(ls:List L):cnt (putL s p r ls)=cnt ls+1:=by
 rw[zAs,zAs,(zGi s p r ls).length_eq,List.length_cons];omega
theorem zAt{ls:List L}{l:L}(h:l∈ls):(l.rests.length:Int)≤cnt ls:=by
 induction ls with
 | nil=>cases h
 | cons x t ih=>
  unfold cnt
  have h0:0≤cnt t:=by rw[zAs];omega
  rcases List.mem_cons.1 h with rfl|h
  ·omega
  ·have:=ih h;omega
theorem zLU{s p:Int}{r:R}{ls:List L}(h:schk s ls=0)(hp:priceB p=true)(hr:rchk r=0)(hid:r.id ∉ ids ls)(hc:cnt ls<60):schk s (putL s p r ls)=0:=by
 obtain⟨h1,h2,h3,h4⟩:=zAa h
 rw[zAE] at hid h4
 refine zBW h1 (sgo_put h1 hp hr ls none h2 rfl hid (fun l hl=>by have:=zAt hl;omega)) (by rw[zIU];omega) ?_
 rw[zAE,((zGi s p r ls).map _).nodup_iff,List.map_cons,List.nodup_cons]
 exact⟨hid,h4⟩
theorem zIV(s p:Int)(r:R)(ls:List L):∃a b,(∀l∈a,leadB s l.price p=true)∧
  ((∃zs,ls=a++⟨p,zs⟩::b∧putL s p r ls=a++⟨p,zs++[r]⟩::b)∨
   (ls=a++b∧putL s p r ls=a++⟨p,[r]⟩::b∧(∀x t,b=x::t→leadB s x.price p=false∧x.price≠p))):=by
 induction ls with
 | nil=>exact⟨[],[],by simp,.inr ⟨rfl,rfl,by simp⟩⟩
 | cons l t ih=>
  unfold putL
  by_cases hl:leadB s l.price p=true
  ·obtain⟨a,b,h1,h2⟩:=ih
   rw[if_pos hl]
   refine⟨l::a,b,?_,?_⟩
   ·intro x hx
    rcases List.mem_cons.1 hx with rfl|hx
    ·exact hl
    ·exact h1 x hx
   ·rcases h2 with ⟨zs,e1,e2⟩|⟨e1,e2,e3⟩
    ·exact .inl ⟨zs,by rw[e1];rfl,by rw[e2];rfl⟩
    ·exact .inr ⟨by rw[e1];rfl,by rw[e2];rfl,e3⟩
  ·rw[if_neg hl]
   by_cases he:l.price=p
   ·rw[if_pos he]
    refine⟨[],t,by simp,.inl ⟨l.rests,?_,rfl⟩⟩
    cases l;simp only at he;subst he;rfl
   ·rw[if_neg he]
    refine⟨[],l::t,by simp,.inr ⟨rfl,rfl,?_⟩⟩
    intro x u e
    cases e
    exact⟨by simpa using hl,he⟩
theorem last_of{ps:List P3}(h:(ps.map (·.1)).Nodup){t:P3}(ht:t∈ps):lastAt ps t.1=some t:=by
 unfold lastAt
 have h2:(ps.reverse.map (·.1)).Nodup:=by rw[List.map_reverse];exact(List.reverse_perm _).nodup_iff.2 h
 have ht2:t∈ps.reverse:=by simpa using ht
 generalize ps.reverse=qs at h2 ht2
 clear h ht
 induction qs with
 | nil=>cases ht2
 | cons x u ih=>
  rw[List.find?_cons]
  rw[List.map_cons,List.nodup_cons] at h2
  rcases List.mem_cons.1 ht2 with e|e
  ·rw[e];simp
  ·have hne:x.1≠t.1:=fun e2=>h2.1 (by rw[e2];exact List.mem_map.2 ⟨t,e,rfl⟩)
   simp only[hne,decide_false]
   exact ih h2.2 e
theorem zLV{ps:List P3}{id:Int}{t:P3}(h:lastAt ps id=some t):t∈ps∧t.1=id:=by
 unfold lastAt at h
 exact⟨by simpa using List.mem_of_find?_eq_some h,by simpa using List.find?_some h⟩
theorem zIW{ps:List P3}{id:Int}:lastAt ps id=none↔id ∉ ps.map (·.1):=by
 unfold lastAt
 rw[List.find?_eq_none]
 constructor
 ·intro h hm
  obtain⟨t,ht,e⟩:=List.mem_map.1 hm
  exact h t (by simpa using ht) (by simpa using e)
 ·intro h t ht e
  exact h (List.mem_map.2 ⟨t,by simpa using ht,by simpa using e⟩)
theorem zLW{i k0:Int}{zs:List R}{t:P3}:t∈rowP i k0 zs↔∃k:Nat,∃h:k<zs.length,t=(zs[k].id,i,k0+k):=by
 induction zs generalizing k0 with
 | nil=>simp[rowP]
 | cons x u ih=>
  rw[rowP,List.mem_cons,ih]
  constructor
  ·rintro(e|⟨k,hk,e⟩)
   ·exact⟨0,by simp,by simpa using e⟩
   ·exact⟨k+1,by simpa using hk,by rw[e];simp;omega⟩
  ·rintro⟨k,hk,e⟩
   cases k with
   | zero=>left;simpa using e
   | succ k=>right;exact⟨k,by simpa using hk,by rw[e];simp;omega⟩
theorem zEt{i0:Int}{ls:List L}{t:P3}:t∈flatP i0 ls↔∃i k:Nat,∃h:i<ls.length,∃h2:k<ls[i].rests.length,t=(ls[i].rests[k].id,i0+i,(k:Int)):=by
 induction ls generalizing i0 with
 | nil=>simp[flatP]
 | cons x u ih=>
  rw[flatP,List.mem_append,ih,zLW]
  constructor
  ·rintro(⟨k,hk,e⟩|⟨i,k,hi,hk,e⟩)
   ·exact⟨0,k,by simp,hk,by rw[e];simp⟩
   ·exact⟨i+1,k,by simpa using hi,hk,by rw[e];simp;omega⟩
  ·rintro⟨i,k,hi,hk,e⟩
   cases i with
   | zero=>left;exact⟨k,hk,by rw[e];simp⟩
   | succ i=>right;exact⟨i,k,by simpa using hi,hk,by rw[e];simp;omega⟩
theorem last_at{ls:List L}(h:(ids ls).Nodup){i k:Nat}(hi:i<ls.length)(hk:k<ls[i].rests.length):lastAt (flatP 0 ls) ls[i].rests[k].id=some (ls[i].rests[k].id,(i:Int),(k:Int)):=by
 have:=last_of (ps:=flatP 0 ls) h (t:=(ls[i].rests[k].id,(i:Int),(k:Int))) (zEt.2 ⟨i,k,hi,hk,by simp⟩)
 exact this
theorem last_is{ls:List L}{id:Int}{t:P3}(h:lastAt (flatP 0 ls) id=some t):∃i k:Nat,∃hi:i<ls.length,∃hk:k<ls[i].rests.length,ls[i].rests[k].id=id∧t.2=((i:Int),(k:Int)):=by
 obtain⟨h1,h2⟩:=zLV h
 obtain⟨i,k,hi,hk,e⟩:=zEt.1 h1
 refine⟨i,k,hi,hk,?_,?_⟩
 ·rw[←h2,e]
 ·rw[e];simp
def dropL(ls:List L)(i k:Nat):List L:=if ls[i]!.rests.length=1 then ls.eraseIdx i else ls.set i ⟨ls[i]!.price,ls[i]!.rests.eraseIdx k⟩
theorem zIX(a:List L)(x:L)(b:List L):(a++x::b)[a.length]! = x:=by
 rw[getE _ _ (by simp)];simp
theorem zCK{α:Type}(a:List α)(x:α)(b:List α):(a++x::b).eraseIdx a.length=a++b:=by
 rw[List.eraseIdx_append_of_length_le (nzR _)];simp
theorem zBY{α:Type}(a:List α)(x y:α)(b:List α):(a++x::b).set a.length y=a++y::b:=by
 rw[List.set_append];simp
end sid
end Go.Proofs.YtifjhlgjgnnnpaaGreat
