import Derived.Test.YtmhcghgfpfainaaGreatDoorQueOwn
set_option maxHeartbeats 1000000
set_option maxRecDepth 100000
namespace Go.Proofs.YtmhcghgfpfainaaGreatDoor
open Tryz
namespace que
open Go.RowKit spn
def zeroR:Value:=.agg #[.int .i64 0,.int .i64 0,.int .i64 0,.int .i64 0,.int .i64 0]
theorem infoR:(prog.info? 54).map (fun i=>(i.zero,i.size,i.bytes))=some (some zeroR,5,40):=by kernel_rfl
theorem infoR' : ∃i,prog.info? 54=some i∧i.zero=some zeroR∧i.size=5∧i.bytes=40:=by
 have h:=infoR;cases hq:prog.info? 54 with
 | none=>rw[hq] at h;simp at h
 | some i=>
  rw[hq] at h;simp only[Option.map_some,Option.some.injEq,Prod.mk.injEq] at h;exact⟨i,rfl,h.1,h.2.1,h.2.2⟩
theorem wAJ(w:World) :
  Calls prog 131 #[.slice none 0 0,.int .i64 0] w fun e w'=>e=.returned (.slice none 0 0)∧w'=w:=by
 go_enter func131,ntmps131
 go_wp2
 go_ret;exact⟨rfl,rfl⟩
theorem wAN(n:Nat)(hn:0<n)(hm:n≤100000)(w:World) :
  Calls prog 131 #[.slice none 0 0,.int .i64 n] w fun e w'=>∃v,e=.returned v∧OwnQ w' w.heap.size v []∧Bw w w':=by
 obtain⟨i,hi,hz,hs,UB⟩:=infoR';have hr:=Lib.run_append_nil_zeros (P:=prog) w 88 3 88 54 i zeroR .i64 .i64 underlying88 underlying3 hi hz n hn (by rw[hs];omega) (by omega) (by rw[UB];omega)
 have CO:=grownCap_ge w n 0 54;have ga:=grownCap_le_maxLen w n 0 54 (by unfold maxLen;omega)
 have G4:(Builtin.zeroCells zeroR.cells n++Builtin.zeroCells zeroR.cells (grownCap w n 0 54 - n)).size=grownCap w n 0 54*5:=by
  rw[Array.size_append,size_zeroCells,size_zeroCells];show n*5+(grownCap w n 0 54 - n)*5=_
  omega
 have hO:OwnQ (w.drew.alloc (.cells (Builtin.zeroCells zeroR.cells n++Builtin.zeroCells zeroR.cells (grownCap w n 0 54 - n)) 54)) w.heap.size (.slice (some ⟨w.heap.size,0,none⟩) 0 (grownCap w n 0 54)) []:=
  ⟨rfl,.inr ⟨w.heap.size,0,_,_,rfl,nzR _,jA w.drew _,jL _,ga,by rw[G4];omega,by simp[flat]⟩⟩
 have hB:Bw w (w.drew.alloc (.cells (Builtin.zeroCells zeroR.cells n++Builtin.zeroCells zeroR.cells (grownCap w n 0 54 - n)) 54)):=(bzR _ _).drew.alloc (nzR _) _;generalize w.drew.alloc (.cells (Builtin.zeroCells zeroR.cells n++Builtin.zeroCells zeroR.cells (grownCap w n 0 54 - n)) 54)=W at *;generalize grownCap w n 0 54=cap at *;have HR:Hid ((Builtin.append_ #[88,3] 88 #[.slice none 0 0,.int .i64 n]).run prog w=.ok (.slice (some ⟨w.heap.size,0,none⟩) n cap) W):=hr;have h0:¬((n:Int)<0):=by omega
 have h1:(0:Int)<(n:Int):=by omega
 have h2:wrap64 (n:Int)=n:=by unfold wrap64;omega
 have h3:¬cap=0:=by omega
 clear hr G4 hi hz hs UB;go_enter func131,ntmps131;go_wp2_with (at_builtin;refine Lib.wpList_append_run _ rfl _ _ _ _ rfl _ _ rfl rfl _ _ HR.out ?_)
 go_ret;exact⟨_,rfl,hO,hB⟩
theorem SL.form{w:World}{v:Value}{zs:List R}(h:SL w v zs):∃p c,v=.slice p zs.length c:=by
 rcases h with ⟨rfl,rfl⟩|⟨b,o,c,h1,_⟩
 ·exact⟨none,0,rfl⟩
 ·exact⟨_,c,h1⟩
def upto(pz:Nat→List R):Nat→List R
 | 0=>[]
 | k+1=>upto pz k++pz k
theorem wAn(pz:Nat→List R)(k:Nat):(upto pz (k+1)).length=(upto pz k).length+(pz k).length:=jE
theorem wAR(pz:Nat→List R)(k d:Nat):(upto pz k).length≤(upto pz (k+d)).length:=by
 induction d with
 | zero=>exact nzR _
 | succ d ih=>
  have:=wAn pz (k+d);rw[show k+(d+1)=k+d+1 from rfl]
  omega
theorem wAF(pz:Nat→List R){k n:Nat}(h:k≤n):(upto pz k).length≤(upto pz n).length:=by
 have:=wAR pz k (n - k)
 rwa [show k+(n - k)=n by omega] at this
theorem wAt{P:Program}(w:World)(base:Nat)(t ty e:TypeId)(i:TypeInfo)(size:Nat)(ht:P.underlying t=some (.slice e))(hi:P.info? e=some i)
  (v:Value) (n:Nat) (xs:List Value) (Hh:OwnM w base e size v n xs):(Builtin.append_ #[t,t] ty #[v,.slice none 0 0]).run P w=.ok v w:=by
 rcases Hh.2 with ⟨rfl,rfl⟩|⟨g,off,cap,cur,rfl,G7,hg,GM,ga,Gy,H8⟩
 ·simp[Builtin.append_,run_underlying ht,sizeOf,typeInfo,hi,Builtin.lenOf,Builtin.firstCells]
 ·simp[Builtin.append_,run_underlying ht,sizeOf,typeInfo,hi,Builtin.lenOf,Builtin.firstCells,GM,storeCells]
theorem wAG(B c n:Nat)(pv:Nat→Value)(pz:Nat→List R)(w:World)(Gz:n≤10)(gu:∀j,j<n→w.cell? ⟨B,j,none⟩=some (pv j))
  (UE:∀j,j<n→SL w (pv j) (pz j)) (Hi:(upto pz n).length≤1000) :
  Calls prog 88 #[.slice (some ⟨B,0,none⟩) n c] w fun e w'=>∃v,e=.returned v∧OwnQ w' w.heap.size v (upto pz n)∧Bw w w':=by
 obtain⟨i0,hi,gH,gw,gD⟩:=infoR';have HI:Hid (prog.info? 54=some i0):=hi;clear hi;have HC:Hid (∀j,j<n→w.cell? ⟨B,j,none⟩=some (pv j)):=gu;have HS:Hid (∀j,j<n→SL w (pv j) (pz j)):=UE;have U0:Hid ((upto pz n).length≤1000):=Hi;clear gu UE Hi;go_enter func88,ntmps88;go_wp2_with fail;go_loopg [3,5,11] n (fun gg s3 _ s11 wr=>∃kk S:Nat,kk≤n∧n - kk≤gg∧s11=.int .i64 kk∧s3=.int .i64 S∧Aside (S=(upto pz kk).length)∧wr=w)
 case atStart=>exact⟨0,0,jL _,by omega,rfl,rfl,rfl,rfl⟩
 case round=>
  obtain⟨kk,S,gh,hg,rfl,rfl,hS,rfl⟩:=hrel;by_cases Hj:kk<n
  ·have Hq:(kk:Int)<(n:Int):=by omega
   have gU:¬((kk:Int)<0):=by omega
   have c0:=HC.out kk Hj;obtain⟨p,cc,hv⟩:=(HS.out kk Hj).form;obtain⟨m,hm⟩:∃m,m=(pz kk).length:=⟨_,rfl⟩;have GR:S+m≤1000:=by
    have h1:=wAF pz (show kk+1≤n by omega)
    have h2:=U0.out;have h3:=hS.out;rw[wAn] at h1;omega
   have Ec:Aside (S+m=(upto pz (kk+1)).length):=by
    show _=_
    rw[wAn,←hm,hS.out]
   rw[hv,←hm] at c0;clear hv hm;have e1:wrap64 ((S:Int)+(m:Int))=((S+m:Nat):Int):=by unfold wrap64;omega
   have e2:¬(((S+m:Nat):Int)<0):=by omega
   go_wp2_with fail;go_roundg (n - (kk+1))
   case measure=>omega
   case rel=>exact⟨kk+1,S+m,by omega,by omega,by go_num,rfl,Ec,rfl⟩
  ·have Hq:¬(kk:Int)<(n:Int):=by omega
   have hk:kk=n:=by omega
   subst hk;obtain⟨w0,mo⟩:∃w0,w0=wr:=⟨_,rfl⟩;subst mo;have uD:Hid (Calls prog 131 #[.slice none 0 0,.int .i64 (S:Int)] w0 fun e w'=>∃v,e=.returned v∧OwnQ w' w0.heap.size v []∧Bw w0 w'):=by
    by_cases h0:S=0
    ·rw[h0];exact(wAJ w0).mono (fun e w' h=>⟨.slice none 0 0,h.1,⟨rfl,.inl ⟨rfl,rfl⟩⟩,by rw[h.2];exact bzR _ _⟩)
    ·exact wAN _ (by omega) (by have h1:=U0.out;have h2:=hS.out;omega) w0
   clear hS;go_wp2_with fail;refine uD.out.mono ?_;rintro e w1⟨v1,rfl,Us,Ha⟩;have Gi:Hid (OwnQ w1 w0.heap.size v1 []):=Us;have He:Hid (Bw w0 w1):=Ha;clear Us Ha uD;go_wp2_with fail;go_loopg [6,8,27] kk (fun gg s6 _ s27 W=>∃k2:Nat,k2≤kk∧kk - k2≤gg∧s27=.int .i64 k2∧Aside (OwnQ W w0.heap.size s6 (upto pz k2))∧Aside (Below w0.heap.size w0 W))
   case atStart=>exact⟨0,jL _,by omega,rfl,Gi.out,He.out⟩
   case round=>
    obtain⟨k2,GB,Gb,rfl,hO,Hk⟩:=hrel;by_cases hlt2:k2<kk
    ·have uh:(k2:Int)<(kk:Int):=(by omega);have bU:¬((k2:Int)<0):=(by omega);have c0:=zAa Hk.out (HC.out k2 hlt2);have UE:SL wr (pv k2) (pz k2):=(HS.out k2 hlt2).below Hk.out;have GR:(upto pz (k2+1)).length≤1000:=jM (wAF pz (show k2+1≤kk by omega)) U0.out
     rw[wAn] at GR;rcases UE with ⟨hv,hz⟩|⟨b,o,cp,hv,h2,h3,h4,h5⟩
     ·rw[hv] at c0;have ul:Aside (OwnQ wr w0.heap.size u6 (upto pz (k2+1))):=by
       show OwnQ _ _ _ _
       rw[show upto pz (k2+1)=upto pz k2++pz k2 from rfl,hz,jH]
       exact hO.out
      have HR:Hid ((Builtin.append_ #[88,88] 88 #[u6,.slice none 0 0]).run prog wr=.ok u6 wr):=wAt wr _ _ _ _ i0 5 underlying88 HI.out _ _ _ hO.out;clear hv hz GR gH gw gD;go_wp2_with (at_builtin;refine Lib.wpList_append_run _ rfl _ _ _ _ rfl _ _ rfl rfl _ _ HR.out ?_)
      go_roundg (kk - (k2+1))
      case measure=>omega
      case rel=>exact⟨k2+1,by omega,by omega,by go_num,ul,Hk⟩
     ·rw[hv] at c0;have HF:Hid (∀j u,(flat (pz k2))[j]?=some u→wr.cell? ((⟨b,o,none⟩:Addr).add j)=some u):=wAD h5;clear hv h5;go_wp2_with (at_builtin;(refine wAd _ rfl _ _ 88 rfl w0.heap.size 54 i0 zeroR 5 40 underlying88 HI.out gH gw gD rfl u6 _ _ rfl hO.out ⟨b,o,none⟩ (pz k2).length cp (flat (pz k2)) rfl (wAl _) HF.out (wAA _) ?c3 ?c4 ?c5 ?_))
      case c3=>unfold maxLen;omega
      case c4=>omega
      case c5=>exact Hk.out.size
      intro v' w' gA Hw Gk;have U8 : Aside (Bw w0 w'):=Hk.out.grown Hw Hk.out.size (fun k hk=>(hO.out.lt k hk).1)
      have ul:Aside (OwnQ w' w0.heap.size v' (upto pz (k2+1))):=by
       show OwnM _ _ _ _ _ _ _
       rw[wAn,show upto pz (k2+1)=upto pz k2++pz k2 from rfl,wAg]
       exact gA
      clear gA Hw Gk HF c0;go_wp2_with fail;go_roundg (kk - (k2+1))
      case measure=>omega
      case rel=>exact⟨k2+1,by omega,by omega,by go_num,ul,U8⟩
    ·have uh:¬(k2:Int)<(kk:Int):=(by omega);have hk:k2=kk:=(by omega);subst hk;go_wp2_with fail;go_ret;exact⟨_,rfl,hO.out,Hk.out⟩
end que
namespace rlv
open Go.RowKit spn
open que (getE OwnM OwnM.lt OwnM.kept OwnM.below wAd wAt)
structure RL where
 price:Int
 q:Option Addr
 n:Nat
 c:Nat
deriving Inhabited
def rV(r:RL):List Value:=[.int .i64 r.price,.slice r.q r.n r.c]
def Lies(w:World)(b o:Nat)(zs:List RL):Prop:=∀j,j<zs.length→∀i v,(rV zs[j]!)[i]?=some v→w.cell? ⟨b,o+j*2+i,none⟩=some v
def SL(w:World)(v:Value)(zs:List RL):Prop:=
 (v=.slice none 0 0∧zs=[])∨∃b o c,v=.slice (some ⟨b,o,none⟩) zs.length c∧zs.length≤c∧c≤9223372036854775807∧b<w.heap.size∧Lies w b o zs
theorem Lies.below{w w' : World}{b o:Nat}{zs:List RL}(h:Lies w b o zs)(hb:b<w.heap.size)(hB:Bw w w'):Lies w' b o zs:=
 fun j hj i v hv=>(hB.cell (p:=⟨b,o+j*2+i,none⟩) hb).trans (h j hj i v hv)
theorem SL.below{w w' : World}{v:Value}{zs:List RL}(h:SL w v zs)(hB:Bw w w'):SL w' v zs:=by
 rcases h with h|⟨b,o,c,h1,h2,h3,h4,h5⟩
 ·exact .inl h
 ·exact .inr ⟨b,o,c,h1,h2,h3,jC h4 hB.size,h5.below h4 hB⟩
def flat(zs:List RL):List Value:=zs.flatMap rV
theorem wAm(r:RL)(t:List RL):flat (r::t)=rV r++flat t:=rfl
theorem wAg(a b:List RL):flat (a++b)=flat a++flat b:=by unfold flat;rw[List.flatMap_append]
theorem wAl(zs:List RL):(flat zs).length=zs.length*2:=by
 induction zs with
 | nil=>rfl
 | cons r t ih=>rw[wAm,jE,ih,jG];show 2+t.length*2=_;omega
theorem wAz(zs:List RL):∀j,j<zs.length→∀i,i<2→(flat zs)[j*2+i]?=(rV zs[j]!)[i]?:=by
 induction zs with
 | nil=>intro j hj;simp at hj
 | cons r t ih=>
  intro j hj i hi;rw[wAm];cases j with
  | zero=>rw[Nat.zero_mul,Nat.zero_add,List.getElem?_append_left (by show i<2;exact hi)];rfl
  | succ j=>
   rw[jV (by show 2≤_;omega)]
   have:(j+1)*2+i - (rV r).length=j*2+i:=by show (j+1)*2+i - 2=_;omega
   rw[this,ih j (by simpa using hj) i hi]
   rfl
theorem wAA(zs:List RL):∀u∈flat zs,u.oneCell'=true:=by
 intro u hu;obtain⟨r,_,hr⟩:=List.mem_flatMap.1 hu;simp only[rV,List.mem_cons,List.not_mem_nil,or_false] at hr;rcases hr with rfl|rfl <;>rfl
theorem wAD{w:World}{b o:Nat}{zs:List RL}(h:Lies w b o zs):∀j u,(flat zs)[j]?=some u→w.cell? ((⟨b,o,none⟩:Addr).add j)=some u:=by
 intro j u hu;have hj:j<zs.length*2:=by rw[←wAl];exact(List.getElem?_eq_some_iff.1 hu).1
 rw[Addr.add_lit];have e:j=j / 2*2+j % 2:=by omega
 rw[e,wAz zs (j / 2) (by omega) (j % 2) (by omega)] at hu
 have:=h (j / 2) (by omega) (j % 2) u hu
 rw[←this]
 congr 2
 omega
theorem wAI{w:World}{b o:Nat}{zs:List RL}(h:∀j u,(flat zs)[j]?=some u→w.cell? ⟨b,o+j,none⟩=some u):Lies w b o zs:=by
 intro j hj i v hv;have hi:i<2:=(List.getElem?_eq_some_iff.1 hv).1;have:=h (j*2+i) v (by rw[wAz zs j hj i hi];exact hv)
 rw[←this,Nat.add_assoc]
abbrev OwnQ(w:World)(base:Nat)(v:Value)(zs:List RL):Prop:=OwnM w base 94 2 v zs.length (flat zs)
theorem OwnQ.sl{w:World}{base:Nat}{v:Value}{zs:List RL}(h:OwnQ w base v zs):SL w v zs:=by
 rcases h.2 with ⟨rfl,hn⟩|⟨g,off,cap,cur,rfl,hb,hg,GM,ga,Gy,H8⟩
 ·exact .inl ⟨rfl,List.eq_nil_of_length_eq_zero hn⟩
 ·refine .inr ⟨g,off,cap,rfl,GM,by simpa [maxLen] using ga,(gzE.1 hg).1,wAI ?_⟩
  intro j u hu;rw[jZ w g (off+j) cur _ (0,0) hg];rw[←H8,List.getElem?_take] at hu;split at hu
  ·rw[List.getElem?_drop] at hu;simpa using hu
  ·cases hu
def zeroR:Value:=.agg #[.int .i64 0,.slice none 0 0]
theorem infoR:(prog.info? 94).map (fun i=>(i.zero,i.size,i.bytes))=some (some zeroR,2,32):=by kernel_rfl
theorem infoR' : ∃i,prog.info? 94=some i∧i.zero=some zeroR∧i.size=2∧i.bytes=32:=by
 have h:=infoR;cases hq:prog.info? 94 with
 | none=>rw[hq] at h;simp at h
 | some i=>
  rw[hq] at h;simp only[Option.map_some,Option.some.injEq,Prod.mk.injEq] at h;exact⟨i,rfl,h.1,h.2.1,h.2.2⟩
theorem wAJ(w:World) :
  Calls prog 130 #[.slice none 0 0,.int .i64 0] w fun e w'=>e=.returned (.slice none 0 0)∧w'=w:=by
 go_enter func130,ntmps130
 go_wp2
 go_ret;exact⟨rfl,rfl⟩
theorem wAN(n:Nat)(hn:0<n)(hm:n≤100000)(w:World) :
  Calls prog 130 #[.slice none 0 0,.int .i64 n] w fun e w'=>∃v,e=.returned v∧OwnQ w' w.heap.size v []∧Bw w w':=by
 obtain⟨i,hi,hz,hs,UB⟩:=infoR';have hr:=Lib.run_append_nil_zeros (P:=prog) w 48 3 48 94 i zeroR .i64 .i64 underlying48 underlying3 hi hz n hn (by rw[hs];omega) (by omega) (by rw[UB];omega)
 have CO:=grownCap_ge w n 0 94;have ga:=grownCap_le_maxLen w n 0 94 (by unfold maxLen;omega)
 have G4:(Builtin.zeroCells zeroR.cells n++Builtin.zeroCells zeroR.cells (grownCap w n 0 94 - n)).size=grownCap w n 0 94*2:=by
  rw[Array.size_append,size_zeroCells,size_zeroCells];show n*2+(grownCap w n 0 94 - n)*2=_
  omega
 have hO:OwnQ (w.drew.alloc (.cells (Builtin.zeroCells zeroR.cells n++Builtin.zeroCells zeroR.cells (grownCap w n 0 94 - n)) 94)) w.heap.size (.slice (some ⟨w.heap.size,0,none⟩) 0 (grownCap w n 0 94)) []:=
  ⟨rfl,.inr ⟨w.heap.size,0,_,_,rfl,nzR _,jA w.drew _,jL _,ga,by rw[G4];omega,by simp[flat]⟩⟩
 have hB:Bw w (w.drew.alloc (.cells (Builtin.zeroCells zeroR.cells n++Builtin.zeroCells zeroR.cells (grownCap w n 0 94 - n)) 94)):=(bzR _ _).drew.alloc (nzR _) _;generalize w.drew.alloc (.cells (Builtin.zeroCells zeroR.cells n++Builtin.zeroCells zeroR.cells (grownCap w n 0 94 - n)) 94)=W at *;generalize grownCap w n 0 94=cap at *;have HR:Hid ((Builtin.append_ #[48,3] 48 #[.slice none 0 0,.int .i64 n]).run prog w=.ok (.slice (some ⟨w.heap.size,0,none⟩) n cap) W):=hr;have h0:¬((n:Int)<0):=by omega
 have h1:(0:Int)<(n:Int):=by omega
 have h2:wrap64 (n:Int)=n:=by unfold wrap64;omega
 have h3:¬cap=0:=by omega
 clear hr G4 hi hz hs UB;go_enter func130,ntmps130;go_wp2_with (at_builtin;refine Lib.wpList_append_run _ rfl _ _ _ _ rfl _ _ rfl rfl _ _ HR.out ?_)
 go_ret;exact⟨_,rfl,hO,hB⟩
theorem SL.form{w:World}{v:Value}{zs:List RL}(h:SL w v zs):∃p c,v=.slice p zs.length c:=by
 rcases h with ⟨rfl,rfl⟩|⟨b,o,c,h1,_⟩
 ·exact⟨none,0,rfl⟩
 ·exact⟨_,c,h1⟩
def upto(pz:Nat→List RL):Nat→List RL
 | 0=>[]
 | k+1=>upto pz k++pz k
theorem wAn(pz:Nat→List RL)(k:Nat):(upto pz (k+1)).length=(upto pz k).length+(pz k).length:=jE
theorem wAR(pz:Nat→List RL)(k d:Nat):(upto pz k).length≤(upto pz (k+d)).length:=by
 induction d with
 | zero=>exact nzR _
 | succ d ih=>
  have:=wAn pz (k+d);rw[show k+(d+1)=k+d+1 from rfl]
  omega
theorem wAF(pz:Nat→List RL){k n:Nat}(h:k≤n):(upto pz k).length≤(upto pz n).length:=by
 have:=wAR pz k (n - k)
 rwa [show k+(n - k)=n by omega] at this
theorem wAG(B c n:Nat)(pv:Nat→Value)(pz:Nat→List RL)(w:World)(Gz:n≤10)(gu:∀j,j<n→w.cell? ⟨B,j,none⟩=some (pv j))
  (UE:∀j,j<n→SL w (pv j) (pz j)) (Hi:(upto pz n).length≤1000) :
  Calls prog 87 #[.slice (some ⟨B,0,none⟩) n c] w fun e w'=>∃v,e=.returned v∧OwnQ w' w.heap.size v (upto pz n)∧Bw w w':=by
 obtain⟨i0,hi,gH,gw,gD⟩:=infoR';have HI:Hid (prog.info? 94=some i0):=hi;clear hi;have HC:Hid (∀j,j<n→w.cell? ⟨B,j,none⟩=some (pv j)):=gu;have HS:Hid (∀j,j<n→SL w (pv j) (pz j)):=UE;have U0:Hid ((upto pz n).length≤1000):=Hi;clear gu UE Hi;go_enter func87,ntmps87;go_wp2_with fail;go_loopg [3,5,11] n (fun gg s3 _ s11 wr=>∃kk S:Nat,kk≤n∧n - kk≤gg∧s11=.int .i64 kk∧s3=.int .i64 S∧Aside (S=(upto pz kk).length)∧wr=w)
 case atStart=>exact⟨0,0,jL _,by omega,rfl,rfl,rfl,rfl⟩
 case round=>
  obtain⟨kk,S,gh,hg,rfl,rfl,hS,rfl⟩:=hrel;by_cases Hj:kk<n
  ·have Hq:(kk:Int)<(n:Int):=by omega
   have gU:¬((kk:Int)<0):=by omega
   have c0:=HC.out kk Hj;obtain⟨p,cc,hv⟩:=(HS.out kk Hj).form;obtain⟨m,hm⟩:∃m,m=(pz kk).length:=⟨_,rfl⟩;have GR:S+m≤1000:=by
    have h1:=wAF pz (show kk+1≤n by omega)
    have h2:=U0.out;have h3:=hS.out;rw[wAn] at h1;omega
   have Ec:Aside (S+m=(upto pz (kk+1)).length):=by
    show _=_
    rw[wAn,←hm,hS.out]
   rw[hv,←hm] at c0;clear hv hm;have e1:wrap64 ((S:Int)+(m:Int))=((S+m:Nat):Int):=by unfold wrap64;omega
   have e2:¬(((S+m:Nat):Int)<0):=by omega
   go_wp2_with fail;go_roundg (n - (kk+1))
   case measure=>omega
   case rel=>exact⟨kk+1,S+m,by omega,by omega,by go_num,rfl,Ec,rfl⟩
  ·have Hq:¬(kk:Int)<(n:Int):=by omega
   have hk:kk=n:=by omega
   subst hk;obtain⟨w0,mo⟩:∃w0,w0=wr:=⟨_,rfl⟩;subst mo;have uD:Hid (Calls prog 130 #[.slice none 0 0,.int .i64 (S:Int)] w0 fun e w'=>∃v,e=.returned v∧OwnQ w' w0.heap.size v []∧Bw w0 w'):=by
    by_cases h0:S=0
    ·rw[h0];exact(wAJ w0).mono (fun e w' h=>⟨.slice none 0 0,h.1,⟨rfl,.inl ⟨rfl,rfl⟩⟩,by rw[h.2];exact bzR _ _⟩)
    ·exact wAN _ (by omega) (by have h1:=U0.out;have h2:=hS.out;omega) w0
   clear hS;go_wp2_with fail;refine uD.out.mono ?_;rintro e w1⟨v1,rfl,Us,Ha⟩;have Gi:Hid (OwnQ w1 w0.heap.size v1 []):=Us;have He:Hid (Bw w0 w1):=Ha;clear Us Ha uD;go_wp2_with fail;go_loopg [6,8,27] kk (fun gg s6 _ s27 W=>∃k2:Nat,k2≤kk∧kk - k2≤gg∧s27=.int .i64 k2∧Aside (OwnQ W w0.heap.size s6 (upto pz k2))∧Aside (Below w0.heap.size w0 W))
   case atStart=>exact⟨0,jL _,by omega,rfl,Gi.out,He.out⟩
   case round=>
    obtain⟨k2,GB,Gb,rfl,hO,Hk⟩:=hrel;by_cases hlt2:k2<kk
    ·have uh:(k2:Int)<(kk:Int):=(by omega);have bU:¬((k2:Int)<0):=(by omega);have c0:=zAa Hk.out (HC.out k2 hlt2);have UE:SL wr (pv k2) (pz k2):=(HS.out k2 hlt2).below Hk.out;have GR:(upto pz (k2+1)).length≤1000:=jM (wAF pz (show k2+1≤kk by omega)) U0.out
     rw[wAn] at GR;rcases UE with ⟨hv,hz⟩|⟨b,o,cp,hv,h2,h3,h4,h5⟩
     ·rw[hv] at c0;have ul:Aside (OwnQ wr w0.heap.size u6 (upto pz (k2+1))):=by
       show OwnQ _ _ _ _
       rw[show upto pz (k2+1)=upto pz k2++pz k2 from rfl,hz,jH]
       exact hO.out
      have HR:Hid ((Builtin.append_ #[48,48] 48 #[u6,.slice none 0 0]).run prog wr=.ok u6 wr):=wAt wr _ _ _ _ i0 2 underlying48 HI.out _ _ _ hO.out;clear hv hz GR gH gw gD;go_wp2_with (at_builtin;refine Lib.wpList_append_run _ rfl _ _ _ _ rfl _ _ rfl rfl _ _ HR.out ?_)
      go_roundg (kk - (k2+1))
      case measure=>omega
      case rel=>exact⟨k2+1,by omega,by omega,by go_num,ul,Hk⟩
     ·rw[hv] at c0;have HF:Hid (∀j u,(flat (pz k2))[j]?=some u→wr.cell? ((⟨b,o,none⟩:Addr).add j)=some u):=wAD h5;clear hv h5;go_wp2_with (at_builtin;(refine wAd _ rfl _ _ 48 rfl w0.heap.size 94 i0 zeroR 2 32 underlying48 HI.out gH gw gD rfl u6 _ _ rfl hO.out ⟨b,o,none⟩ (pz k2).length cp (flat (pz k2)) rfl (wAl _) HF.out (wAA _) ?c3 ?c4 ?c5 ?_))
      case c3=>unfold maxLen;omega
      case c4=>omega
      case c5=>exact Hk.out.size
      intro v' w' gA Hw Gk;have U8 : Aside (Bw w0 w'):=Hk.out.grown Hw Hk.out.size (fun k hk=>(hO.out.lt k hk).1)
      have ul:Aside (OwnQ w' w0.heap.size v' (upto pz (k2+1))):=by
       show OwnM _ _ _ _ _ _ _
       rw[wAn,show upto pz (k2+1)=upto pz k2++pz k2 from rfl,wAg]
       exact gA
      clear gA Hw Gk HF c0;go_wp2_with fail;go_roundg (kk - (k2+1))
      case measure=>omega
      case rel=>exact⟨k2+1,by omega,by omega,by go_num,ul,U8⟩
    ·have uh:¬(k2:Int)<(kk:Int):=(by omega);have hk:k2=kk:=(by omega);subst hk;go_wp2_with fail;go_ret;exact⟨_,rfl,hO.out,Hk.out⟩
end rlv
end Go.Proofs.YtmhcghgfpfainaaGreatDoor
