import Derived.Test.YtnfilcpnneckkaaGreatQueOwn
set_option maxHeartbeats 1000000
set_option maxRecDepth 100000
namespace Go.Proofs.YtnfilcpnneckkaaGreat
open Tryz
namespace que
open Go.RowKit spn
def zeroR:Value:=.agg #[.int .i64 0,.int .i64 0,.int .i64 0,.int .i64 0,.int .i64 0]
theorem infoR:(prog.info? 51).map (fun i=>(i.zero,i.size,i.bytes))=some (some zeroR,5,40):=by kernel_rfl
theorem infoR' : ∃i,prog.info? 51=some i∧i.zero=some zeroR∧i.size=5∧i.bytes=40:=by
 have h:=infoR;cases hq:prog.info? 51 with
 | none=>rw[hq] at h;simp at h
 | some i=>
  rw[hq] at h;simp only[Option.map_some,Option.some.injEq,Prod.mk.injEq] at h;exact⟨i,rfl,h.1,h.2.1,h.2.2⟩
theorem wAJ(w:World) :
  Calls prog 141 #[.slice none 0 0,.int .i64 0] w fun e w'=>e=.returned (.slice none 0 0)∧w'=w:=by
 go_enter func141,ntmps141
 go_wp2
 go_ret;exact⟨rfl,rfl⟩
theorem wAR(n:Nat)(hn:0<n)(hm:n≤100000)(w:World) :
  Calls prog 141 #[.slice none 0 0,.int .i64 n] w fun e w'=>∃v,e=.returned v∧OwnQ w' w.heap.size v []∧Bw w w':=by
 obtain⟨i,hi,hz,hs,UD⟩:=infoR';have hr:=Lib.run_append_nil_zeros (P:=prog) w 52 3 52 51 i zeroR .i64 .i64 underlying52 underlying3 hi hz n hn (by rw[hs];omega) (by omega) (by rw[UD];omega)
 have bH:=grownCap_ge w n 0 51;have gi:=grownCap_le_maxLen w n 0 51 (by unfold maxLen;omega)
 have ur:(Builtin.zeroCells zeroR.cells n++Builtin.zeroCells zeroR.cells (grownCap w n 0 51 - n)).size=grownCap w n 0 51*5:=by
  rw[Array.size_append,size_zeroCells,size_zeroCells];show n*5+(grownCap w n 0 51 - n)*5=_
  omega
 have hO:OwnQ (w.drew.alloc (.cells (Builtin.zeroCells zeroR.cells n++Builtin.zeroCells zeroR.cells (grownCap w n 0 51 - n)) 51)) w.heap.size (.slice (some ⟨w.heap.size,0,none⟩) 0 (grownCap w n 0 51)) []:=
  ⟨rfl,.inr ⟨w.heap.size,0,_,_,rfl,nzR _,jA w.drew _,jL _,gi,by rw[ur];omega,by simp[flat]⟩⟩
 have hB:Bw w (w.drew.alloc (.cells (Builtin.zeroCells zeroR.cells n++Builtin.zeroCells zeroR.cells (grownCap w n 0 51 - n)) 51)):=(bzR _ _).drew.alloc (nzR _) _;generalize w.drew.alloc (.cells (Builtin.zeroCells zeroR.cells n++Builtin.zeroCells zeroR.cells (grownCap w n 0 51 - n)) 51)=W at *;generalize grownCap w n 0 51=cap at *;have HR:Hid ((Builtin.append_ #[52,3] 52 #[.slice none 0 0,.int .i64 n]).run prog w=.ok (.slice (some ⟨w.heap.size,0,none⟩) n cap) W):=hr;have h0:¬((n:Int)<0):=by omega
 have h1:(0:Int)<(n:Int):=by omega
 have h2:wrap64 (n:Int)=n:=by unfold wrap64;omega
 have h3:¬cap=0:=by omega
 clear hr ur hi hz hs UD;go_enter func141,ntmps141;go_wp2_with (at_builtin;refine Lib.wpList_append_run _ rfl _ _ _ _ rfl _ _ rfl rfl _ _ HR.out ?_)
 go_ret;exact⟨_,rfl,hO,hB⟩
theorem SL.form{w:World}{v:Value}{zs:List R}(h:SL w v zs):∃p c,v=.slice p zs.length c:=by
 rcases h with ⟨rfl,rfl⟩|⟨b,o,c,h1,_⟩
 ·exact⟨none,0,rfl⟩
 ·exact⟨_,c,h1⟩
def upto(pz:Nat→List R):Nat→List R
 | 0=>[]
 | k+1=>upto pz k++pz k
theorem wAn(pz:Nat→List R)(k:Nat):(upto pz (k+1)).length=(upto pz k).length+(pz k).length:=jE
theorem wAW(pz:Nat→List R)(k d:Nat):(upto pz k).length≤(upto pz (k+d)).length:=by
 induction d with
 | zero=>exact nzR _
 | succ d ih=>
  have:=wAn pz (k+d);rw[show k+(d+1)=k+d+1 from rfl]
  omega
theorem wAF(pz:Nat→List R){k n:Nat}(h:k≤n):(upto pz k).length≤(upto pz n).length:=by
 have:=wAW pz k (n - k)
 rwa [show k+(n - k)=n by omega] at this
theorem wAt{P:Program}(w:World)(base:Nat)(t ty e:TypeId)(i:TypeInfo)(size:Nat)(ht:P.underlying t=some (.slice e))(hi:P.info? e=some i)
  (v:Value) (n:Nat) (xs:List Value) (Hk:OwnM w base e size v n xs):(Builtin.append_ #[t,t] ty #[v,.slice none 0 0]).run P w=.ok v w:=by
 rcases Hk.2 with ⟨rfl,rfl⟩|⟨g,off,cap,cur,rfl,ud,hg,GH,gi,Gy,ga⟩
 ·simp[Builtin.append_,run_underlying ht,sizeOf,typeInfo,hi,Builtin.lenOf,Builtin.firstCells]
 ·simp[Builtin.append_,run_underlying ht,sizeOf,typeInfo,hi,Builtin.lenOf,Builtin.firstCells,GH,storeCells]
theorem wAG(B c n:Nat)(pv:Nat→Value)(pz:Nat→List R)(w:World)(GC:n≤10)(gv:∀j,j<n→w.cell? ⟨B,j,none⟩=some (pv j))
  (UG:∀j,j<n→SL w (pv j) (pz j)) (Hh:(upto pz n).length≤1000) :
  Calls prog 113 #[.slice (some ⟨B,0,none⟩) n c] w fun e w'=>∃v,e=.returned v∧OwnQ w' w.heap.size v (upto pz n)∧Bw w w':=by
 obtain⟨i0,hi,gE,gu,gA⟩:=infoR';have HI:Hid (prog.info? 51=some i0):=hi;clear hi;have HC:Hid (∀j,j<n→w.cell? ⟨B,j,none⟩=some (pv j)):=gv;have HS:Hid (∀j,j<n→SL w (pv j) (pz j)):=UG;have Ux:Hid ((upto pz n).length≤1000):=Hh;clear gv UG Hh;go_enter func113,ntmps113;go_wp2_with fail;go_loopg [3,5,11] n (fun gg s3 _ s11 wr=>∃kk S:Nat,kk≤n∧n - kk≤gg∧s11=.int .i64 kk∧s3=.int .i64 S∧Aside (S=(upto pz kk).length)∧wr=w)
 case atStart=>exact⟨0,0,jL _,by omega,rfl,rfl,rfl,rfl⟩
 case round=>
  obtain⟨kk,S,gd,hg,rfl,rfl,hS,rfl⟩:=hrel;by_cases Hi:kk<n
  ·have Hp:(kk:Int)<(n:Int):=by omega
   have gR:¬((kk:Int)<0):=by omega
   have c0:=HC.out kk Hi;obtain⟨p,cc,hv⟩:=(HS.out kk Hi).form;obtain⟨m,hm⟩:∃m,m=(pz kk).length:=⟨_,rfl⟩;have Gh:S+m≤1000:=by
    have h1:=wAF pz (show kk+1≤n by omega)
    have h2:=Ux.out;have h3:=hS.out;rw[wAn] at h1;omega
   have Ee:Aside (S+m=(upto pz (kk+1)).length):=by
    show _=_
    rw[wAn,←hm,hS.out]
   rw[hv,←hm] at c0;clear hv hm;have e1:wrap64 ((S:Int)+(m:Int))=((S+m:Nat):Int):=by unfold wrap64;omega
   have e2:¬(((S+m:Nat):Int)<0):=by omega
   go_wp2_with fail;go_roundg (n - (kk+1))
   case measure=>omega
   case rel=>exact⟨kk+1,S+m,by omega,by omega,by go_num,rfl,Ee,rfl⟩
  ·have Hp:¬(kk:Int)<(n:Int):=by omega
   have hk:kk=n:=by omega
   subst hk;obtain⟨w0,mf⟩:∃w0,w0=wr:=⟨_,rfl⟩;subst mf;have gC:Hid (Calls prog 141 #[.slice none 0 0,.int .i64 (S:Int)] w0 fun e w'=>∃v,e=.returned v∧OwnQ w' w0.heap.size v []∧Bw w0 w'):=by
    by_cases h0:S=0
    ·rw[h0];exact(wAJ w0).mono (fun e w' h=>⟨.slice none 0 0,h.1,⟨rfl,.inl ⟨rfl,rfl⟩⟩,by rw[h.2];exact bzR _ _⟩)
    ·exact wAR _ (by omega) (by have h1:=Ux.out;have h2:=hS.out;omega) w0
   clear hS;go_wp2_with fail;refine gC.out.mono ?_;rintro e w1⟨v1,rfl,Us,Hc⟩;have Gu:Hid (OwnQ w1 w0.heap.size v1 []):=Us;have He:Hid (Bw w0 w1):=Hc;clear Us Hc gC;go_wp2_with fail;go_loopg [6,8,27] kk (fun gg s6 _ s27 W=>∃k2:Nat,k2≤kk∧kk - k2≤gg∧s27=.int .i64 k2∧Aside (OwnQ W w0.heap.size s6 (upto pz k2))∧Aside (Below w0.heap.size w0 W))
   case atStart=>exact⟨0,jL _,by omega,rfl,Gu.out,He.out⟩
   case round=>
    obtain⟨k2,Gg,Ge,rfl,hO,Hj⟩:=hrel;by_cases hlt2:k2<kk
    ·have uT:(k2:Int)<(kk:Int):=(by omega);have CH:¬((k2:Int)<0):=(by omega);have c0:=zAa Hj.out (HC.out k2 hlt2);have UG:SL wr (pv k2) (pz k2):=(HS.out k2 hlt2).below Hj.out;have Gh:(upto pz (k2+1)).length≤1000:=jM (wAF pz (show k2+1≤kk by omega)) Ux.out
     rw[wAn] at Gh;rcases UG with ⟨hv,hz⟩|⟨b,o,cp,hv,h2,h3,h4,h5⟩
     ·rw[hv] at c0;have uL:Aside (OwnQ wr w0.heap.size u6 (upto pz (k2+1))):=by
       show OwnQ _ _ _ _
       rw[show upto pz (k2+1)=upto pz k2++pz k2 from rfl,hz,jH]
       exact hO.out
      have HR:Hid ((Builtin.append_ #[52,52] 52 #[u6,.slice none 0 0]).run prog wr=.ok u6 wr):=wAt wr _ _ _ _ i0 5 underlying52 HI.out _ _ _ hO.out;clear hv hz Gh gE gu gA;go_wp2_with (at_builtin;refine Lib.wpList_append_run _ rfl _ _ _ _ rfl _ _ rfl rfl _ _ HR.out ?_)
      go_roundg (kk - (k2+1))
      case measure=>omega
      case rel=>exact⟨k2+1,by omega,by omega,by go_num,uL,Hj⟩
     ·rw[hv] at c0;have HF:Hid (∀j u,(flat (pz k2))[j]?=some u→wr.cell? ((⟨b,o,none⟩:Addr).add j)=some u):=wAE h5;clear hv h5;go_wp2_with (at_builtin;(refine wAe _ rfl _ _ 52 rfl w0.heap.size 51 i0 zeroR 5 40 underlying52 HI.out gE gu gA rfl u6 _ _ rfl hO.out ⟨b,o,none⟩ (pz k2).length cp (flat (pz k2)) rfl (wAl _) HF.out (wAB _) ?c3 ?c4 ?c5 ?_))
      case c3=>unfold maxLen;omega
      case c4=>omega
      case c5=>exact Hj.out.size
      intro v' w' gy Hy Gm;have U3 : Aside (Bw w0 w'):=Hj.out.grown Hy Hj.out.size (fun k hk=>(hO.out.lt k hk).1)
      have uL:Aside (OwnQ w' w0.heap.size v' (upto pz (k2+1))):=by
       show OwnM _ _ _ _ _ _ _
       rw[wAn,show upto pz (k2+1)=upto pz k2++pz k2 from rfl,wAg]
       exact gy
      clear gy Hy Gm HF c0;go_wp2_with fail;go_roundg (kk - (k2+1))
      case measure=>omega
      case rel=>exact⟨k2+1,by omega,by omega,by go_num,uL,U3⟩
    ·have uT:¬(k2:Int)<(kk:Int):=(by omega);have hk:k2=kk:=(by omega);subst hk;go_wp2_with fail;go_ret;exact⟨_,rfl,hO.out,Hj.out⟩
end que
namespace rlv
open Go.RowKit spn
open que (getE OwnM OwnM.lt OwnM.kept OwnM.below wAe wAt)
structure RL where
 price:Int
 q:Option Addr
 n:Nat
 c:Nat
deriving Inhabited
def rV(r:RL):List Value:=[.int .i64 r.price,.slice r.q r.n r.c]
def Lies(w:World)(b o:Nat)(zs:List RL):Prop:=∀j,j<zs.length→∀i v,(rV zs[j]!)[i]?=some v→w.cell? ⟨b,o+j*2+i,none⟩=some v
def SL(w:World)(v:Value)(zs:List RL):Prop:=
 (v=.slice none 0 0∧zs=[])∨∃b o c,v=.slice (some ⟨b,o,none⟩) zs.length c∧zs.length≤c∧c≤9223372036854775807∧b<w.heap.size∧Lies w b o zs
theorem Lies.below{w w' : World}{b o:Nat}{zs:List RL}(h:Lies w b o zs)(hb:b<w.heap.size)(hB:Bw w w'):Lies w' b o zs:=
 fun j hj i v hv=>(hB.cell (p:=⟨b,o+j*2+i,none⟩) hb).trans (h j hj i v hv)
theorem SL.below{w w' : World}{v:Value}{zs:List RL}(h:SL w v zs)(hB:Bw w w'):SL w' v zs:=by
 rcases h with h|⟨b,o,c,h1,h2,h3,h4,h5⟩
 ·exact .inl h
 ·exact .inr ⟨b,o,c,h1,h2,h3,jC h4 hB.size,h5.below h4 hB⟩
def flat(zs:List RL):List Value:=zs.flatMap rV
theorem wAm(r:RL)(t:List RL):flat (r::t)=rV r++flat t:=rfl
theorem wAg(a b:List RL):flat (a++b)=flat a++flat b:=by unfold flat;rw[List.flatMap_append]
theorem wAl(zs:List RL):(flat zs).length=zs.length*2:=by
 induction zs with
 | nil=>rfl
 | cons r t ih=>rw[wAm,jE,ih,jG];show 2+t.length*2=_;omega
theorem wAA(zs:List RL):∀j,j<zs.length→∀i,i<2→(flat zs)[j*2+i]?=(rV zs[j]!)[i]?:=by
 induction zs with
 | nil=>intro j hj;simp at hj
 | cons r t ih=>
  intro j hj i hi;rw[wAm];cases j with
  | zero=>rw[Nat.zero_mul,Nat.zero_add,List.getElem?_append_left (by show i<2;exact hi)];rfl
  | succ j=>
   rw[jV (by show 2≤_;omega)]
   have:(j+1)*2+i - (rV r).length=j*2+i:=by show (j+1)*2+i - 2=_;omega
   rw[this,ih j (by simpa using hj) i hi]
   rfl
theorem wAB(zs:List RL):∀u∈flat zs,u.oneCell'=true:=by
 intro u hu;obtain⟨r,_,hr⟩:=List.mem_flatMap.1 hu;simp only[rV,List.mem_cons,List.not_mem_nil,or_false] at hr;rcases hr with rfl|rfl <;>rfl
theorem wAE{w:World}{b o:Nat}{zs:List RL}(h:Lies w b o zs):∀j u,(flat zs)[j]?=some u→w.cell? ((⟨b,o,none⟩:Addr).add j)=some u:=by
 intro j u hu;have hj:j<zs.length*2:=by rw[←wAl];exact(List.getElem?_eq_some_iff.1 hu).1
 rw[Addr.add_lit];have e:j=j / 2*2+j % 2:=by omega
 rw[e,wAA zs (j / 2) (by omega) (j % 2) (by omega)] at hu
 have:=h (j / 2) (by omega) (j % 2) u hu
 rw[←this]
 congr 2
 omega
theorem wAI{w:World}{b o:Nat}{zs:List RL}(h:∀j u,(flat zs)[j]?=some u→w.cell? ⟨b,o+j,none⟩=some u):Lies w b o zs:=by
 intro j hj i v hv;have hi:i<2:=(List.getElem?_eq_some_iff.1 hv).1;have:=h (j*2+i) v (by rw[wAA zs j hj i hi];exact hv)
 rw[←this,Nat.add_assoc]
abbrev OwnQ(w:World)(base:Nat)(v:Value)(zs:List RL):Prop:=OwnM w base 54 2 v zs.length (flat zs)
theorem OwnQ.sl{w:World}{base:Nat}{v:Value}{zs:List RL}(h:OwnQ w base v zs):SL w v zs:=by
 rcases h.2 with ⟨rfl,hn⟩|⟨g,off,cap,cur,rfl,hb,hg,GH,gi,Gy,ga⟩
 ·exact .inl ⟨rfl,List.eq_nil_of_length_eq_zero hn⟩
 ·refine .inr ⟨g,off,cap,rfl,GH,by simpa [maxLen] using gi,(gzE.1 hg).1,wAI ?_⟩
  intro j u hu;rw[jZ w g (off+j) cur _ (0,0) hg];rw[←ga,List.getElem?_take] at hu;split at hu
  ·rw[List.getElem?_drop] at hu;simpa using hu
  ·cases hu
def zeroR:Value:=.agg #[.int .i64 0,.slice none 0 0]
theorem infoR:(prog.info? 54).map (fun i=>(i.zero,i.size,i.bytes))=some (some zeroR,2,32):=by kernel_rfl
theorem infoR' : ∃i,prog.info? 54=some i∧i.zero=some zeroR∧i.size=2∧i.bytes=32:=by
 have h:=infoR;cases hq:prog.info? 54 with
 | none=>rw[hq] at h;simp at h
 | some i=>
  rw[hq] at h;simp only[Option.map_some,Option.some.injEq,Prod.mk.injEq] at h;exact⟨i,rfl,h.1,h.2.1,h.2.2⟩
theorem wAJ(w:World) :
  Calls prog 140 #[.slice none 0 0,.int .i64 0] w fun e w'=>e=.returned (.slice none 0 0)∧w'=w:=by
 go_enter func140,ntmps140
 go_wp2
 go_ret;exact⟨rfl,rfl⟩
theorem wAR(n:Nat)(hn:0<n)(hm:n≤100000)(w:World) :
  Calls prog 140 #[.slice none 0 0,.int .i64 n] w fun e w'=>∃v,e=.returned v∧OwnQ w' w.heap.size v []∧Bw w w':=by
 obtain⟨i,hi,hz,hs,UD⟩:=infoR';have hr:=Lib.run_append_nil_zeros (P:=prog) w 55 3 55 54 i zeroR .i64 .i64 underlying55 underlying3 hi hz n hn (by rw[hs];omega) (by omega) (by rw[UD];omega)
 have bH:=grownCap_ge w n 0 54;have gi:=grownCap_le_maxLen w n 0 54 (by unfold maxLen;omega)
 have ur:(Builtin.zeroCells zeroR.cells n++Builtin.zeroCells zeroR.cells (grownCap w n 0 54 - n)).size=grownCap w n 0 54*2:=by
  rw[Array.size_append,size_zeroCells,size_zeroCells];show n*2+(grownCap w n 0 54 - n)*2=_
  omega
 have hO:OwnQ (w.drew.alloc (.cells (Builtin.zeroCells zeroR.cells n++Builtin.zeroCells zeroR.cells (grownCap w n 0 54 - n)) 54)) w.heap.size (.slice (some ⟨w.heap.size,0,none⟩) 0 (grownCap w n 0 54)) []:=
  ⟨rfl,.inr ⟨w.heap.size,0,_,_,rfl,nzR _,jA w.drew _,jL _,gi,by rw[ur];omega,by simp[flat]⟩⟩
 have hB:Bw w (w.drew.alloc (.cells (Builtin.zeroCells zeroR.cells n++Builtin.zeroCells zeroR.cells (grownCap w n 0 54 - n)) 54)):=(bzR _ _).drew.alloc (nzR _) _;generalize w.drew.alloc (.cells (Builtin.zeroCells zeroR.cells n++Builtin.zeroCells zeroR.cells (grownCap w n 0 54 - n)) 54)=W at *;generalize grownCap w n 0 54=cap at *;have HR:Hid ((Builtin.append_ #[55,3] 55 #[.slice none 0 0,.int .i64 n]).run prog w=.ok (.slice (some ⟨w.heap.size,0,none⟩) n cap) W):=hr;have h0:¬((n:Int)<0):=by omega
 have h1:(0:Int)<(n:Int):=by omega
 have h2:wrap64 (n:Int)=n:=by unfold wrap64;omega
 have h3:¬cap=0:=by omega
 clear hr ur hi hz hs UD;go_enter func140,ntmps140;go_wp2_with (at_builtin;refine Lib.wpList_append_run _ rfl _ _ _ _ rfl _ _ rfl rfl _ _ HR.out ?_)
 go_ret;exact⟨_,rfl,hO,hB⟩
theorem SL.form{w:World}{v:Value}{zs:List RL}(h:SL w v zs):∃p c,v=.slice p zs.length c:=by
 rcases h with ⟨rfl,rfl⟩|⟨b,o,c,h1,_⟩
 ·exact⟨none,0,rfl⟩
 ·exact⟨_,c,h1⟩
def upto(pz:Nat→List RL):Nat→List RL
 | 0=>[]
 | k+1=>upto pz k++pz k
theorem wAn(pz:Nat→List RL)(k:Nat):(upto pz (k+1)).length=(upto pz k).length+(pz k).length:=jE
theorem wAW(pz:Nat→List RL)(k d:Nat):(upto pz k).length≤(upto pz (k+d)).length:=by
 induction d with
 | zero=>exact nzR _
 | succ d ih=>
  have:=wAn pz (k+d);rw[show k+(d+1)=k+d+1 from rfl]
  omega
theorem wAF(pz:Nat→List RL){k n:Nat}(h:k≤n):(upto pz k).length≤(upto pz n).length:=by
 have:=wAW pz k (n - k)
 rwa [show k+(n - k)=n by omega] at this
theorem wAG(B c n:Nat)(pv:Nat→Value)(pz:Nat→List RL)(w:World)(GC:n≤10)(gv:∀j,j<n→w.cell? ⟨B,j,none⟩=some (pv j))
  (UG:∀j,j<n→SL w (pv j) (pz j)) (Hh:(upto pz n).length≤1000) :
  Calls prog 112 #[.slice (some ⟨B,0,none⟩) n c] w fun e w'=>∃v,e=.returned v∧OwnQ w' w.heap.size v (upto pz n)∧Bw w w':=by
 obtain⟨i0,hi,gE,gu,gA⟩:=infoR';have HI:Hid (prog.info? 54=some i0):=hi;clear hi;have HC:Hid (∀j,j<n→w.cell? ⟨B,j,none⟩=some (pv j)):=gv;have HS:Hid (∀j,j<n→SL w (pv j) (pz j)):=UG;have Ux:Hid ((upto pz n).length≤1000):=Hh;clear gv UG Hh;go_enter func112,ntmps112;go_wp2_with fail;go_loopg [3,5,11] n (fun gg s3 _ s11 wr=>∃kk S:Nat,kk≤n∧n - kk≤gg∧s11=.int .i64 kk∧s3=.int .i64 S∧Aside (S=(upto pz kk).length)∧wr=w)
 case atStart=>exact⟨0,0,jL _,by omega,rfl,rfl,rfl,rfl⟩
 case round=>
  obtain⟨kk,S,gd,hg,rfl,rfl,hS,rfl⟩:=hrel;by_cases Hi:kk<n
  ·have Hp:(kk:Int)<(n:Int):=by omega
   have gR:¬((kk:Int)<0):=by omega
   have c0:=HC.out kk Hi;obtain⟨p,cc,hv⟩:=(HS.out kk Hi).form;obtain⟨m,hm⟩:∃m,m=(pz kk).length:=⟨_,rfl⟩;have Gh:S+m≤1000:=by
    have h1:=wAF pz (show kk+1≤n by omega)
    have h2:=Ux.out;have h3:=hS.out;rw[wAn] at h1;omega
   have Ee:Aside (S+m=(upto pz (kk+1)).length):=by
    show _=_
    rw[wAn,←hm,hS.out]
   rw[hv,←hm] at c0;clear hv hm;have e1:wrap64 ((S:Int)+(m:Int))=((S+m:Nat):Int):=by unfold wrap64;omega
   have e2:¬(((S+m:Nat):Int)<0):=by omega
   go_wp2_with fail;go_roundg (n - (kk+1))
   case measure=>omega
   case rel=>exact⟨kk+1,S+m,by omega,by omega,by go_num,rfl,Ee,rfl⟩
  ·have Hp:¬(kk:Int)<(n:Int):=by omega
   have hk:kk=n:=by omega
   subst hk;obtain⟨w0,mf⟩:∃w0,w0=wr:=⟨_,rfl⟩;subst mf;have gC:Hid (Calls prog 140 #[.slice none 0 0,.int .i64 (S:Int)] w0 fun e w'=>∃v,e=.returned v∧OwnQ w' w0.heap.size v []∧Bw w0 w'):=by
    by_cases h0:S=0
    ·rw[h0];exact(wAJ w0).mono (fun e w' h=>⟨.slice none 0 0,h.1,⟨rfl,.inl ⟨rfl,rfl⟩⟩,by rw[h.2];exact bzR _ _⟩)
    ·exact wAR _ (by omega) (by have h1:=Ux.out;have h2:=hS.out;omega) w0
   clear hS;go_wp2_with fail;refine gC.out.mono ?_;rintro e w1⟨v1,rfl,Us,Hc⟩;have Gu:Hid (OwnQ w1 w0.heap.size v1 []):=Us;have He:Hid (Bw w0 w1):=Hc;clear Us Hc gC;go_wp2_with fail;go_loopg [6,8,27] kk (fun gg s6 _ s27 W=>∃k2:Nat,k2≤kk∧kk - k2≤gg∧s27=.int .i64 k2∧Aside (OwnQ W w0.heap.size s6 (upto pz k2))∧Aside (Below w0.heap.size w0 W))
   case atStart=>exact⟨0,jL _,by omega,rfl,Gu.out,He.out⟩
   case round=>
    obtain⟨k2,Gg,Ge,rfl,hO,Hj⟩:=hrel;by_cases hlt2:k2<kk
    ·have uT:(k2:Int)<(kk:Int):=(by omega);have CH:¬((k2:Int)<0):=(by omega);have c0:=zAa Hj.out (HC.out k2 hlt2);have UG:SL wr (pv k2) (pz k2):=(HS.out k2 hlt2).below Hj.out;have Gh:(upto pz (k2+1)).length≤1000:=jM (wAF pz (show k2+1≤kk by omega)) Ux.out
     rw[wAn] at Gh;rcases UG with ⟨hv,hz⟩|⟨b,o,cp,hv,h2,h3,h4,h5⟩
     ·rw[hv] at c0;have uL:Aside (OwnQ wr w0.heap.size u6 (upto pz (k2+1))):=by
       show OwnQ _ _ _ _
       rw[show upto pz (k2+1)=upto pz k2++pz k2 from rfl,hz,jH]
       exact hO.out
      have HR:Hid ((Builtin.append_ #[55,55] 55 #[u6,.slice none 0 0]).run prog wr=.ok u6 wr):=wAt wr _ _ _ _ i0 2 underlying55 HI.out _ _ _ hO.out;clear hv hz Gh gE gu gA;go_wp2_with (at_builtin;refine Lib.wpList_append_run _ rfl _ _ _ _ rfl _ _ rfl rfl _ _ HR.out ?_)
      go_roundg (kk - (k2+1))
      case measure=>omega
      case rel=>exact⟨k2+1,by omega,by omega,by go_num,uL,Hj⟩
     ·rw[hv] at c0;have HF:Hid (∀j u,(flat (pz k2))[j]?=some u→wr.cell? ((⟨b,o,none⟩:Addr).add j)=some u):=wAE h5;clear hv h5;go_wp2_with (at_builtin;(refine wAe _ rfl _ _ 55 rfl w0.heap.size 54 i0 zeroR 2 32 underlying55 HI.out gE gu gA rfl u6 _ _ rfl hO.out ⟨b,o,none⟩ (pz k2).length cp (flat (pz k2)) rfl (wAl _) HF.out (wAB _) ?c3 ?c4 ?c5 ?_))
      case c3=>unfold maxLen;omega
      case c4=>omega
      case c5=>exact Hj.out.size
      intro v' w' gy Hy Gm;have U3 : Aside (Bw w0 w'):=Hj.out.grown Hy Hj.out.size (fun k hk=>(hO.out.lt k hk).1)
      have uL:Aside (OwnQ w' w0.heap.size v' (upto pz (k2+1))):=by
       show OwnM _ _ _ _ _ _ _
       rw[wAn,show upto pz (k2+1)=upto pz k2++pz k2 from rfl,wAg]
       exact gy
      clear gy Hy Gm HF c0;go_wp2_with fail;go_roundg (kk - (k2+1))
      case measure=>omega
      case rel=>exact⟨k2+1,by omega,by omega,by go_num,uL,U3⟩
    ·have uT:¬(k2:Int)<(kk:Int):=(by omega);have hk:k2=kk:=(by omega);subst hk;go_wp2_with fail;go_ret;exact⟨_,rfl,hO.out,Hj.out⟩
end rlv
end Go.Proofs.YtnfilcpnneckkaaGreat
