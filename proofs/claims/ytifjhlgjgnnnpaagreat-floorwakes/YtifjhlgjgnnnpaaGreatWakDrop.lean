import Derived.Test.YtifjhlgjgnnnpaaGreatWakPart
import Derived.Deep.RegionLaw
set_option maxHeartbeats 2000000
set_option maxRecDepth 100000
namespace Go.Proofs.YtifjhlgjgnnnpaaGreat
namespace wak
open Go.RowKit spn ord
theorem grow_nil0(w:World) :
  Calls Tryz.prog 91 #[.slice none 0 0,.int .i64 0] w fun e w'=>e=.returned (.slice none 0 0)∧w'=w:=by
 go_enter Tryz.func91,Tryz.ntmps91
 go_wp2
 go_ret
 exact⟨rfl,rfl⟩
theorem grow_nil(n:Nat)(hn:0<n)(hm:n≤100000)(w:World) :
  Calls Tryz.prog 91 #[.slice none 0 0,.int .i64 n] w fun e w'=>∃v,e=.returned v∧OwnQ w' w.heap.size v []∧Below w.heap.size w w':=by
 obtain⟨i,hi,hz,hs,hby⟩:=infoR'
 have hr:=Lib.run_append_nil_zeros (P:=Tryz.prog) w 57 3 57 32 i zeroR .i64 .i64 Tryz.underlying57 Tryz.underlying3 hi hz n hn (by rw[hs];omega) (by omega) (by rw[hby];omega)
 have hge:=grownCap_ge w n 0 32
 have hcm:=grownCap_le_maxLen w n 0 32 (by unfold maxLen;omega)
 have hsz:(Builtin.zeroCells zeroR.cells n++Builtin.zeroCells zeroR.cells (grownCap w n 0 32 - n)).size=grownCap w n 0 32*8:=by
  rw[Array.size_append,size_zeroCells,size_zeroCells]
  show n*8+(grownCap w n 0 32 - n)*8=_
  omega
 have hO:OwnQ (w.drew.alloc (.cells (Builtin.zeroCells zeroR.cells n++Builtin.zeroCells zeroR.cells (grownCap w n 0 32 - n)) 32)) w.heap.size (.slice (some ⟨w.heap.size,0,none⟩) 0 (grownCap w n 0 32)) []:=
  ⟨rfl,.inr ⟨w.heap.size,0,_,_,rfl,nzR _,heap_alloc_new w.drew _,Nat.zero_le _,hcm,by rw[hsz];omega,by simp[flat]⟩⟩
 have hB:Below w.heap.size w (w.drew.alloc (.cells (Builtin.zeroCells zeroR.cells n++Builtin.zeroCells zeroR.cells (grownCap w n 0 32 - n)) 32)):=(bzR _ _).drew.alloc (nzR _) _
 generalize w.drew.alloc (.cells (Builtin.zeroCells zeroR.cells n++Builtin.zeroCells zeroR.cells (grownCap w n 0 32 - n)) 32)=W at *
 generalize grownCap w n 0 32=cap at *
 have HR:Hid ((Builtin.append_ #[57,3] 57 #[.slice none 0 0,.int .i64 n]).run Tryz.prog w=.ok (.slice (some ⟨w.heap.size,0,none⟩) n cap) W):=hr
 have h0:¬((n:Int)<0):=by omega
 have h1:(0:Int)<(n:Int):=by omega
 have h2:wrap64 (n:Int)=n:=by unfold wrap64;omega
 have h3:¬cap=0:=by omega
 clear hr hsz hi hz hs hby
 go_enter Tryz.func91,Tryz.ntmps91
 go_wp2_with (at_builtin;refine Lib.wpList_append_run _ rfl _ _ _ _ rfl _ _ rfl rfl _ _ HR.out ?_)
 go_ret
 exact⟨_,rfl,hO,hB⟩
theorem SL.form{w:World}{v:Value}{zs:List O}(h:SL w v zs):∃p c,v=.slice p zs.length c:=by
 rcases h with ⟨rfl,rfl⟩|⟨b,o,c,h1,_⟩
 ·exact⟨none,0,rfl⟩
 ·exact⟨_,c,h1⟩
def upto(pz:Nat→List O):Nat→List O
 | 0=>[]
 | k+1=>upto pz k++pz k
theorem upto_len(pz:Nat→List O)(k:Nat):(upto pz (k+1)).length=(upto pz k).length+(pz k).length:=List.length_append
theorem upto_le(pz:Nat→List O)(k d:Nat):(upto pz k).length≤(upto pz (k+d)).length:=by
 induction d with
 | zero=>exact nzR _
 | succ d ih=>
  have:=upto_len pz (k+d)
  rw[show k+(d+1)=k+d+1 from rfl]
  omega
theorem upto_le'(pz:Nat→List O){k n:Nat}(h:k≤n):(upto pz k).length≤(upto pz n).length:=by
 have:=upto_le pz k (n - k)
 rwa [show k+(n - k)=n by omega] at this
theorem concat_any(B c n:Nat)(pv:Nat→Value)(pz:Nat→List O)(w:World)(hps:n≤10)(hcell:∀j,j<n→w.cell? ⟨B,j,none⟩=some (pv j))
  (hsl:∀j,j<n→SL w (pv j) (pz j)) (hlen:(upto pz n).length≤1000) :
  Calls Tryz.prog 64 #[.slice (some ⟨B,0,none⟩) n c] w fun e w'=>∃v,e=.returned v∧OwnQ w' w.heap.size v (upto pz n)∧Below w.heap.size w w':=by
 obtain⟨i0,hi,hz0,hz1,hz2⟩:=infoR'
 have HI:Hid (Tryz.prog.info? 32=some i0):=hi
 clear hi
 have HC:Hid (∀j,j<n→w.cell? ⟨B,j,none⟩=some (pv j)):=hcell
 have HS:Hid (∀j,j<n→SL w (pv j) (pz j)):=hsl
 have HLE:Hid ((upto pz n).length≤1000):=hlen
 clear hcell hsl hlen
 go_enter Tryz.func64,Tryz.ntmps64
 go_wp2_with fail
 go_loopg [3,5,11] n (fun gg s3 _ s11 wr=>∃kk S:Nat,kk≤n∧n - kk≤gg∧s11=.int .i64 kk∧s3=.int .i64 S∧Aside (S=(upto pz kk).length)∧wr=w)
 case atStart=>exact⟨0,0,Nat.zero_le _,by omega,rfl,rfl,rfl,rfl⟩
 case round=>
  obtain⟨kk,S,hkk,hg,rfl,rfl,hS,rfl⟩:=hrel
  by_cases hlt:kk<n
  ·have hltz:(kk:Int)<(n:Int):=by omega
   have hin1:¬((kk:Int)<0):=by omega
   have c0:=HC.out kk hlt
   obtain⟨p,cc,hv⟩:=(HS.out kk hlt).form
   obtain⟨m,hm⟩:∃m,m=(pz kk).length:=⟨_,rfl⟩
   have hle:S+m≤1000:=by
    have h1:=upto_le' pz (show kk+1≤n by omega)
    have h2:=HLE.out
    have h3:=hS.out
    rw[upto_len] at h1
    omega
   have hSm:Aside (S+m=(upto pz (kk+1)).length):=by
    show _=_
    rw[upto_len,←hm,hS.out]
   rw[hv,←hm] at c0
   clear hv hm
   have e1:wrap64 ((S:Int)+(m:Int))=((S+m:Nat):Int):=by unfold wrap64;omega
   have e2:¬(((S+m:Nat):Int)<0):=by omega
   go_wp2_with fail
   go_roundg (n - (kk+1))
   case measure=>omega
   case rel=>exact⟨kk+1,S+m,by omega,by omega,by go_num,rfl,hSm,rfl⟩
  ·have hltz:¬(kk:Int)<(n:Int):=by omega
   have hk:kk=n:=by omega
   subst hk
   obtain⟨w0,hw0⟩:∃w0,w0=wr:=⟨_,rfl⟩
   subst hw0
   have hgrow:Hid (Calls Tryz.prog 91 #[.slice none 0 0,.int .i64 (S:Int)] w0 fun e w'=>∃v,e=.returned v∧OwnQ w' w0.heap.size v []∧Below w0.heap.size w0 w'):=by
    by_cases h0:S=0
    ·rw[h0]
     exact(grow_nil0 w0).mono (fun e w' h=>⟨.slice none 0 0,h.1,⟨rfl,.inl ⟨rfl,rfl⟩⟩,by rw[h.2];exact bzR _ _⟩)
    ·exact grow_nil _ (by omega) (by have h1:=HLE.out;have h2:=hS.out;omega) w0
   clear hS
   go_wp2_with fail
   refine hgrow.out.mono ?_
   rintro e w1⟨v1,rfl,ho1,hb1⟩
   have HO1:Hid (OwnQ w1 w0.heap.size v1 []):=ho1
   have HB1:Hid (Below w0.heap.size w0 w1):=hb1
   clear ho1 hb1 hgrow
   go_wp2_with fail
   go_loopg [6,8,27] kk (fun gg s6 _ s27 W=>∃k2:Nat,k2≤kk∧kk - k2≤gg∧s27=.int .i64 k2∧Aside (OwnQ W w0.heap.size s6 (upto pz k2))∧Aside (Below w0.heap.size w0 W))
   case atStart=>exact⟨0,Nat.zero_le _,by omega,rfl,HO1.out,HB1.out⟩
   case round=>
    obtain⟨k2,hk2,hg2,rfl,hO,hBW⟩:=hrel
    by_cases hlt2:k2<kk
    ·have hltz2:(k2:Int)<(kk:Int):=by omega
     have hin2:¬((k2:Int)<0):=by omega
     have c0:=keeps hBW.out (HC.out k2 hlt2)
     have hsl:SL wr (pv k2) (pz k2):=(HS.out k2 hlt2).below hBW.out
     have hle:(upto pz (k2+1)).length≤1000:=Nat.le_trans (upto_le' pz (show k2+1≤kk by omega)) HLE.out
     rw[upto_len] at hle
     rcases hsl with ⟨hv,hz⟩|⟨b,o,cp,hv,h2,h3,h4,h5⟩
     ·rw[hv] at c0
      have hO2:Aside (OwnQ wr w0.heap.size u6 (upto pz (k2+1))):=by
       show OwnQ _ _ _ _
       rw[show upto pz (k2+1)=upto pz k2++pz k2 from rfl,hz,List.append_nil]
       exact hO.out
      have HR:Hid ((Builtin.append_ #[57,57] 57 #[u6,.slice none 0 0]).run Tryz.prog wr=.ok u6 wr):=run_append_none wr _ _ _ _ i0 8 Tryz.underlying57 HI.out _ _ _ hO.out
      clear hv hz hle hz0 hz1 hz2
      go_wp2_with (at_builtin;refine Lib.wpList_append_run _ rfl _ _ _ _ rfl _ _ rfl rfl _ _ HR.out ?_)
      go_roundg (kk - (k2+1))
      case measure=>omega
      case rel=>exact⟨k2+1,by omega,by omega,by go_num,hO2,hBW⟩
     ·rw[hv] at c0
      have HF:Hid (∀j u,(flat (pz k2))[j]?=some u→wr.cell? ((⟨b,o,none⟩:Addr).add j)=some u):=lies_flat h5
      clear hv h5
      go_wp2_with (at_builtin;(refine wpList_append_mid _ rfl _ _ 57 rfl w0.heap.size 32 i0 zeroR 8 64 Tryz.underlying57 HI.out hz0 hz1 hz2 rfl u6 _ _ rfl hO.out ⟨b,o,none⟩ (pz k2).length cp (flat (pz k2)) rfl (flat_len _) HF.out (flat_one _) ?c3 ?c4 ?c5 ?_))
      case c3=>unfold maxLen;omega
      case c4=>omega
      case c5=>exact hBW.out.size
      intro v' w' hO' hgr hat
      have hB' : Aside (Below w0.heap.size w0 w'):=hBW.out.grown hgr hBW.out.size (fun k hk=>(hO.out.lt k hk).1)
      have hO2:Aside (OwnQ w' w0.heap.size v' (upto pz (k2+1))):=by
       show OwnM _ _ _ _ _ _ _
       rw[upto_len,show upto pz (k2+1)=upto pz k2++pz k2 from rfl,flat_append]
       exact hO'
      clear hO' hgr hat HF c0
      go_wp2_with fail
      go_roundg (kk - (k2+1))
      case measure=>omega
      case rel=>exact⟨k2+1,by omega,by omega,by go_num,hO2,hB'⟩
    ·have hltz2:¬(k2:Int)<(kk:Int):=by omega
     have hk:k2=kk:=by omega
     subst hk
     go_wp2_with fail
     go_ret
     exact⟨_,rfl,hO.out,hBW.out⟩
end wak
namespace wak
open Go.RowKit ord
open spn (keeps bcell)
theorem hidW{P:Prop}(h:P):Hid P:=h
structure Trn (w w' : World) (p:Nat) (v:Value):Prop where
 os:w'.os=w.os
 tape:w'.tape=w.tape
 output:w'.output=w.output
 size:w.heap.size≤w'.heap.size
 block:∀k,k<w.heap.size→k≠p→v.ownBlock≠some k→w'.heap[k]?=w.heap[k]?
theorem Trn.of_below{w w' : World}{p:Nat}{v:Value}(h:Below w.heap.size w w'):Trn w w' p v:=⟨h.os,h.tape,h.output,h.size,fun k hk _ _=>h.block k hk⟩
def Frs(w:World)(v v' : Value):Prop:=v'.ownBlock=v.ownBlock∨∀k,v'.ownBlock=some k→w.heap.size≤k
theorem Trn.below{w w' : World}{b p:Nat}{v:Value}{os:List O}(h:Trn w w' p v)(hs:St w b p v os):Below b w w':=
 ⟨h.os,h.tape,h.output,h.size,fun k hk=>h.block k (by have:=hs.lt;have:=hs.le;omega) (by have:=hs.le;omega) (fun e=>by have:=(OwnM.lt hs.own k e).1;omega)⟩
def putE(os:List O)(o:O):Int:=if chk o=0 then (if o.stop=0 then 6 else if 0≤idx o.id os then 7 else if os.length=20 then 4 else 0) else chk o
def putL(os:List O)(o:O):List O:=if putE os o=0 then os++[o] else os
theorem new_any(w:World):Calls Tryz.prog 25 #[] w fun e w'=>e=.returned (.pointer (some ⟨w.heap.size,0,none⟩))∧St w' w.heap.size w.heap.size (.slice none 0 0) []∧Below w.heap.size w w':=by
 have hr:=heap_alloc_new w (.cells #[.slice none 0 0] 107)
 go_enter Tryz.func25,Tryz.ntmps25
 go_wp2
 go_ret
 exact⟨rfl,⟨hr,nzR _,⟨rfl,.inl ⟨rfl,rfl⟩⟩⟩,(bzR _ _).alloc (nzR _) _⟩
theorem OwnQ.form{w:World}{base:Nat}{v:Value}{zs:List O}(h:OwnQ w base v zs):∃q c,v=.slice q zs.length c:=h.sl.form
theorem all_any(b p:Nat)(v:Value)(os:List O)(w:World)(h:St w b p v os)(hl:os.length≤1000) :
  Calls Tryz.prog 40 #[.pointer (some ⟨p,0,none⟩)] w fun e w'=>∃q c,e=.returned (.slice q os.length c)∧OwnQ w' w.heap.size (.slice q os.length c) os∧Below w.heap.size w w':=by
 obtain⟨vq,vc,hv⟩:=OwnQ.form h.own
 obtain⟨vn,hvn⟩:∃vn,vn=os.length:=⟨_,rfl⟩
 rw[←hvn] at hv
 subst hv
 have hc:=h.cell
 generalize hvv:Value.slice vq vn vc=v at h hc
 have hB:Below w.heap.size w (w.alloc (.cells #[v] 57)):=(bzR _ _).alloc (nzR _) _
 have hcon:=concat_any w.heap.size 1 1 (fun _=>v) (fun _=>os) (w.alloc (.cells #[v] 57)) (by omega) (fun j hj=>by
   obtain rfl:j=0:=by omega
   simp[go_sem]) (fun j hj=>(h.below hB).own.sl) (by simpa [upto] using hl)
 rw[show upto (fun _=>os) 1=os by simp[upto]] at hcon
 subst hvv
 have HCON:=hidW hcon
 have HVN:=hidW hvn
 rw[←hvn]
 clear hcon h hvn
 go_enter Tryz.func40,Tryz.ntmps40
 go_wp2_with fail
 refine HCON.out.mono ?_
 rintro e w1⟨v1,rfl,ho,hb⟩
 obtain⟨q,c,hq⟩:=OwnQ.form ho
 rw[←HVN.out] at hq
 subst hq
 have HO:=hidW (show OwnQ w1 w.heap.size (.slice q vn c) os from⟨ho.1,by
  rcases ho.2 with h|⟨g,off,cap,cur,h1,h2,h3⟩
  ·exact .inl h
  ·exact .inr ⟨g,off,cap,cur,h1,by simp at h2;omega,h3⟩⟩)
 have HB:=hidW (hB.trans (hb.mono (by simp)))
 clear ho hb hB hc
 go_wp2_with fail
 go_ret
 exact⟨q,c,rfl,HO.out,HB.out⟩
section
variable (a1 a2 a3 a4 a5 a6 a7 a8:Int)(b p:Nat)(v:Value)(os:List O)(w:World)
theorem zMW(h:¬chk ⟨a1,a2,a3,a4,a5,a6,a7,a8⟩=0) :
  Calls Tryz.prog 97 #[.pointer (some ⟨p,0,none⟩),.agg #[.int .i64 a1,.int .i64 a2,.int .i64 a3,.int .i64 a4,.int .i64 a5,.int .i64 a6,.int .i64 a7,.int .i64 a8]] w fun e w'=>e=.returned (errV (chk ⟨a1,a2,a3,a4,a5,a6,a7,a8⟩))∧Below w.heap.size w w':=by
 have HC:Hid (∀W,Calls Tryz.prog 41 #[.agg #[.int .i64 a1,.int .i64 a2,.int .i64 a3,.int .i64 a4,.int .i64 a5,.int .i64 a6,.int .i64 a7,.int .i64 a8]] W fun e w'=>e=.returned (.iface 91 (.int .i64 (chk ⟨a1,a2,a3,a4,a5,a6,a7,a8⟩)))∧Below W.heap.size W w'):=fun W=>by
  have:=check_any ⟨a1,a2,a3,a4,a5,a6,a7,a8⟩ W
  rwa [errV_of h] at this
 rw[errV_of h]
 generalize chk ⟨a1,a2,a3,a4,a5,a6,a7,a8⟩=k at *
 go_enter Tryz.func97,Tryz.ntmps97
 go_wp2_with fail
 refine(HC.out _).mono ?_
 rintro x w1⟨rfl,hb1⟩
 have hB:Below w.heap.size w w1:=((bzR _ _).alloc (nzR _) _).trans (hb1.mono (by simp))
 clear hb1
 go_wp2_with fail
 go_ret
 exact⟨rfl,hB⟩
theorem zMX(h:chk ⟨a1,a2,a3,a4,a5,a6,a7,0⟩=0) :
  Calls Tryz.prog 97 #[.pointer (some ⟨p,0,none⟩),.agg #[.int .i64 a1,.int .i64 a2,.int .i64 a3,.int .i64 a4,.int .i64 a5,.int .i64 a6,.int .i64 a7,.int .i64 0]] w fun e w'=>e=.returned (errV 6)∧Below w.heap.size w w':=by
 have HC:Hid (∀W,Calls Tryz.prog 41 #[.agg #[.int .i64 a1,.int .i64 a2,.int .i64 a3,.int .i64 a4,.int .i64 a5,.int .i64 a6,.int .i64 a7,.int .i64 0]] W fun e w'=>e=.returned .nilIface∧Below W.heap.size W w'):=fun W=>by
  have:=check_any ⟨a1,a2,a3,a4,a5,a6,a7,0⟩ W
  rwa [h,errV_zero] at this
 clear h
 go_enter Tryz.func97,Tryz.ntmps97
 go_wp2_with fail
 refine(HC.out _).mono ?_
 rintro x w1⟨rfl,hb1⟩
 have hB:Below w.heap.size w w1:=((bzR _ _).alloc (nzR _) _).trans (hb1.mono (by simp))
 obtain⟨hc1,hf1⟩:=bcell hb1
 clear hb1
 go_wp2_with fail
 go_ret
 exact⟨rfl,hB⟩
theorem zMY(h:chk ⟨a1,a2,a3,a4,a5,a6,a7,a8⟩=0)(h8:¬a8=0)(hs:St w b p v os)(hi:0≤idx a1 os) :
  Calls Tryz.prog 97 #[.pointer (some ⟨p,0,none⟩),.agg #[.int .i64 a1,.int .i64 a2,.int .i64 a3,.int .i64 a4,.int .i64 a5,.int .i64 a6,.int .i64 a7,.int .i64 a8]] w fun e w'=>e=.returned (errV 7)∧Below w.heap.size w w':=by
 have HC:Hid (∀W,Calls Tryz.prog 41 #[.agg #[.int .i64 a1,.int .i64 a2,.int .i64 a3,.int .i64 a4,.int .i64 a5,.int .i64 a6,.int .i64 a7,.int .i64 a8]] W fun e w'=>e=.returned .nilIface∧Below W.heap.size W w'):=fun W=>by
  have:=check_any ⟨a1,a2,a3,a4,a5,a6,a7,a8⟩ W
  rwa [h,errV_zero] at this
 have HF:Hid (∀W,Below w.heap.size w W→Calls Tryz.prog 107 #[.pointer (some ⟨p,0,none⟩),.int .i64 a1] W fun e w'=>e=.returned (.int .i64 (idx a1 os))∧Below W.heap.size W w'):=fun W hW=>find_any a1 b p v os W (hs.below hW)
 have e8:(a8 == 0)=false:=by simpa using h8
 generalize idx a1 os=m at *
 clear h hs
 go_enter Tryz.func97,Tryz.ntmps97
 go_wp2_with fail
 refine(HC.out _).mono ?_
 rintro x w1⟨rfl,hb1⟩
 have hB:Below w.heap.size w w1:=((bzR _ _).alloc (nzR _) _).trans (hb1.mono (by simp))
 obtain⟨hc1,hf1⟩:=bcell hb1
 clear hb1
 go_wp2_with fail
 refine(HF.out _ hB).mono ?_
 rintro x w2⟨rfl,hb2⟩
 have hB2:=hB.trans (hb2.mono hB.size)
 clear hb2 hB hc1 hf1
 go_wp2_with fail
 go_ret
 exact⟨rfl,hB2⟩
theorem zMZ(q:Option Addr)(c:Nat)(h:chk ⟨a1,a2,a3,a4,a5,a6,a7,a8⟩=0)(h8:¬a8=0)(hs:St w b p (.slice q 20 c) os)(hi:¬0≤idx a1 os) :
  Calls Tryz.prog 97 #[.pointer (some ⟨p,0,none⟩),.agg #[.int .i64 a1,.int .i64 a2,.int .i64 a3,.int .i64 a4,.int .i64 a5,.int .i64 a6,.int .i64 a7,.int .i64 a8]] w fun e w'=>e=.returned (errV 4)∧Below w.heap.size w w':=by
 have HC:Hid (∀W,Calls Tryz.prog 41 #[.agg #[.int .i64 a1,.int .i64 a2,.int .i64 a3,.int .i64 a4,.int .i64 a5,.int .i64 a6,.int .i64 a7,.int .i64 a8]] W fun e w'=>e=.returned .nilIface∧Below W.heap.size W w'):=fun W=>by
  have:=check_any ⟨a1,a2,a3,a4,a5,a6,a7,a8⟩ W
  rwa [h,errV_zero] at this
 have HF:Hid (∀W,Below w.heap.size w W→Calls Tryz.prog 107 #[.pointer (some ⟨p,0,none⟩),.int .i64 a1] W fun e w'=>e=.returned (.int .i64 (idx a1 os))∧Below W.heap.size W w'):=fun W hW=>find_any a1 b p _ os W (hs.below hW)
 have e8:(a8 == 0)=false:=by simpa using h8
 have HCL:=hidW hs.cell
 generalize idx a1 os=m at *
 clear h hs
 go_enter Tryz.func97,Tryz.ntmps97
 go_wp2_with fail
 refine(HC.out _).mono ?_
 rintro x w1⟨rfl,hb1⟩
 have hB:Below w.heap.size w w1:=((bzR _ _).alloc (nzR _) _).trans (hb1.mono (by simp))
 obtain⟨hc1,hf1⟩:=bcell hb1
 clear hb1
 go_wp2_with fail
 refine(HF.out _ hB).mono ?_
 rintro x w2⟨rfl,hb2⟩
 have hB2:=hB.trans (hb2.mono hB.size)
 have hcl:=keeps hB2 HCL.out
 clear hb2 hB hc1 hf1
 go_wp2_with fail
 go_ret
 exact⟨rfl,hB2⟩
def PutOk(b p:Nat)(v:Value)(L:List O)(w w' : World):Prop:=∃v',St w' b p v' L∧Trn w w' p v∧Frs w v v'
theorem put_ok(q:Option Addr)(n c:Nat)(hn:n=os.length)(h:chk ⟨a1,a2,a3,a4,a5,a6,a7,a8⟩=0)(h8:¬a8=0)(hs:St w b p (.slice q n c) os)(hi:¬0≤idx a1 os)(hl:n<20) :
  Calls Tryz.prog 97 #[.pointer (some ⟨p,0,none⟩),.agg #[.int .i64 a1,.int .i64 a2,.int .i64 a3,.int .i64 a4,.int .i64 a5,.int .i64 a6,.int .i64 a7,.int .i64 a8]] w fun e w'=>e=.returned .nilIface∧PutOk b p (.slice q n c) (os++[⟨a1,a2,a3,a4,a5,a6,a7,a8⟩]) w w':=by
 have HC:Hid (∀W,Calls Tryz.prog 41 #[.agg #[.int .i64 a1,.int .i64 a2,.int .i64 a3,.int .i64 a4,.int .i64 a5,.int .i64 a6,.int .i64 a7,.int .i64 a8]] W fun e w'=>e=.returned .nilIface∧Below W.heap.size W w'):=fun W=>by
  have:=check_any ⟨a1,a2,a3,a4,a5,a6,a7,a8⟩ W
  rwa [h,errV_zero] at this
 have HF:Hid (∀W,Below w.heap.size w W→Calls Tryz.prog 107 #[.pointer (some ⟨p,0,none⟩),.int .i64 a1] W fun e w'=>e=.returned (.int .i64 (idx a1 os))∧Below W.heap.size W w'):=fun W hW=>find_any a1 b p _ os W (hs.below hW)
 have e8:(a8 == 0)=false:=by simpa using h8
 have e20:((n:Int) == 20)=false:=by simp;omega
 have e21:¬(n:Int)=20:=by omega
 have HS:=hidW hs
 have HN:=hidW (show n=os.length∧n<20 from⟨hn,hl⟩)
 obtain⟨i0,hi0,hz0,hz1,hz2⟩:=infoR'
 have HI:=hidW hi0
 have HPX:Hid (∀W w' v',Below w.heap.size w W→OwnM w' b 32 8 v' (n+1) (flat os++[.int .i64 a1,.int .i64 a2,.int .i64 a3,.int .i64 a4,.int .i64 a5,.int .i64 a6,.int .i64 a7,.int .i64 a8])→W.grownBy w' (Value.slice q n c).ownBlock→(v'.ownBlock=(Value.slice q n c).ownBlock∨v'.ownBlock=some W.heap.size)→
   (w'.cell? ⟨p,0,none⟩=some (.slice q n c)∧w'.frozen? ⟨p,0,none⟩=false)∧PutOk b p (.slice q n c) (os++[⟨a1,a2,a3,a4,a5,a6,a7,a8⟩]) w (w'.setCell ⟨p,0,none⟩ v')):=fun W w' v' hW hO hg ha=>by
  have hSW:=HS.out.below hW
  have hne:some p≠(Value.slice q n c).ownBlock:=fun e=>by
   rcases HS.out.own.2 with ⟨h1,_⟩|⟨g,off,cap,cur,h1,h2,h3,_⟩
   ·rw[h1] at e;cases e
   ·rw[h1] at e
    simp only[Value.ownBlock,Option.some.injEq] at e
    have h4:=HS.out.blk
    rw[e,h3] at h4
    simp only[Option.some.injEq,Obj.cells.injEq] at h4
    exact absurd h4.2.1 (by decide)
  have hrow:w'.heap[p]?=some (.cells #[.slice q n c] 107 (0,0)):=(hg.block p hSW.lt hne).trans hSW.blk
  refine⟨⟨by simp[World.cell?,hrow],by simp[World.frozen?,hrow]⟩,v',⟨?_,HS.out.le,?_⟩,⟨?_,?_,?_,?_,?_⟩,?_⟩
  ·rw[setCell_eq_setRow w' p 0 _ _ _ v' hrow,setRow_heap w' p _ _ _ _ hrow];rfl
  ·have hlp:(Value.ownBlock v')≠some p:=fun e=>by
    rcases hO.2 with ⟨h1,_⟩|⟨g,off,cap,cur,h1,h2,h3,_⟩
    ·rw[h1] at e;cases e
    ·rw[h1] at e
     simp only[Value.ownBlock,Option.some.injEq] at e
     rw[e,hrow] at h3
     simp only[Option.some.injEq,Obj.cells.injEq] at h3
     exact absurd h3.2.1 (by decide)
   have hO2:=OwnM.kept hO (gr_setCell w' p 0 v') (.inr hlp)
   show OwnM _ _ _ _ _ _ _
   rw[List.length_append,flat_append,show ([⟨a1,a2,a3,a4,a5,a6,a7,a8⟩]:List O).length=1 from rfl,←HN.out.1]
   exact hO2
  ·exact hg.os.trans hW.os
  ·exact hg.tape.trans hW.tape
  ·exact hg.output.trans hW.output
  ·have h1:=hg.size;have h2:=hW.size;simp[World.setCell];omega
  ·intro k hk hkp hkv
   rw[Below.heap_setCell _ _ _ _ (show k≠p from hkp),hg.block k (Nat.lt_of_lt_of_le hk hW.size) (fun e=>hkv e.symm),hW.block k hk]
  ·rcases ha with e|e
   ·exact .inl e
   ·exact .inr fun k hk=>by rw[e] at hk;cases hk;exact hW.size
 have HCL:=hidW hs.cell
 generalize idx a1 os=m at *
 clear h hs hn hl hi0
 go_enter Tryz.func97,Tryz.ntmps97
 go_wp2_with fail
 refine(HC.out _).mono ?_
 rintro x w1⟨rfl,hb1⟩
 have hB:Below w.heap.size w w1:=((bzR _ _).alloc (nzR _) _).trans (hb1.mono (by simp))
 have hR1:w1.heap[w.heap.size]?=some (.cells #[.int .i64 a1,.int .i64 a2,.int .i64 a3,.int .i64 a4,.int .i64 a5,.int .i64 a6,.int .i64 a7,.int .i64 a8] 32 (0,0)):=(hb1.block _ (by simp)).trans (heap_alloc_new w _)
 obtain⟨hc1,hf1⟩:=bcell hb1
 clear hb1
 go_wp2_with fail
 refine(HF.out _ hB).mono ?_
 rintro x w2⟨rfl,hb2⟩
 have HB2:=hidW (hB.trans (hb2.mono hB.size))
 have hcl:=keeps HB2.out HCL.out
 have hR2:w2.heap[w.heap.size]?=some (.cells #[.int .i64 a1,.int .i64 a2,.int .i64 a3,.int .i64 a4,.int .i64 a5,.int .i64 a6,.int .i64 a7,.int .i64 a8] 32 (0,0)):=(hb2.block _ (gzE.1 hR1).1).trans hR1
 have cel:∀i,w2.cell? ⟨w.heap.size,i,none⟩=(#[.int .i64 a1,.int .i64 a2,.int .i64 a3,.int .i64 a4,.int .i64 a5,.int .i64 a6,.int .i64 a7,.int .i64 a8]:Array Value)[i]?:=fun i=>by simp[World.cell?,hR2]
 have t0:=cel 0
 have t1:=cel 1
 have t2:=cel 2
 have t3:=cel 3
 have t4:=cel 4
 have t5:=cel 5
 have t6:=cel 6
 have t7:=cel 7
 simp only[List.getElem?_toArray,List.getElem?_cons_zero,List.getElem?_cons_succ] at t0 t1 t2 t3 t4 t5 t6 t7
 have HO2:Hid (OwnM w2 b 32 8 (.slice q n c) n (flat os)):=by
  have:=(HS.out.below HB2.out).own
  rwa [OwnQ,←HN.out.1] at this
 have hbs:b≤w2.heap.size:=by have h1:=HS.out.lt;have h2:=HS.out.le;have h3:=HB2.out.size;omega
 have hn1:n+1≤20:=HN.out.2
 have hpl:p<w2.heap.size:=Nat.lt_of_lt_of_le HS.out.lt HB2.out.size
 have hwl:w.heap.size<w2.heap.size:=(gzE.1 hR2).1
 have HR3:Hid (∀W,Below w2.heap.size w2 W→Below w.heap.size w W):=fun W hW=>HB2.out.trans (hW.mono HB2.out.size)
 clear hb2 hB hc1 hf1 cel hR1 hR2
 go_upto_region 10 with fail
 go_region_law (refine step_append_mid _ rfl _ _ 57 rfl b 32 i0 zeroR 8 64 Tryz.underlying57 HI.out hz0 hz1 hz2 rfl (.slice q n c) n (flat os) rfl (OwnM.below HO2.out (by(with_reducible repeat' (first|assumption|refine bal ?_ _|refine Below.drew ?_|exact bzR _ _)))) _ 1 1 [.int .i64 a1,.int .i64 a2,.int .i64 a3,.int .i64 a4,.int .i64 a5,.int .i64 a6,.int .i64 a7,.int .i64 a8] rfl rfl (World.news_of_block (cs:=#[.int .i64 a1,.int .i64 a2,.int .i64 a3,.int .i64 a4,.int .i64 a5,.int .i64 a6,.int .i64 a7,.int .i64 a8]) (heap_alloc_new _ _)) (by simp[Value.oneCell']) (by unfold maxLen;omega) (by omega) (Nat.le_trans hbs (Below.size (w:=w2) (B:=w2.heap.size) (by(with_reducible repeat' (first|assumption|refine bal ?_ _|refine Below.drew ?_|exact bzR _ _))))) ?_;intro v' w' hO' hgr hat;obtain⟨⟨hS2,hS3⟩,hPX⟩:=HPX.out _ _ _ (HR3.out _ (by(with_reducible repeat' (first|assumption|refine bal ?_ _|refine Below.drew ?_|exact bzR _ _)))) hO' hgr hat;obtain⟨q',c',rfl⟩:=OwnM.form hO')
 all_goals
  go_wp2_with fail
  go_ret
  exact⟨rfl,hPX⟩
end
theorem put_any(o:O)(b p:Nat)(v:Value)(os:List O)(w:World)(hs:St w b p v os)(hl:os.length≤20) :
  Calls Tryz.prog 97 #[.pointer (some ⟨p,0,none⟩),oV o] w fun e w'=>e=.returned (errV (putE os o))∧PutOk b p v (putL os o) w w':=by
 obtain⟨a1,a2,a3,a4,a5,a6,a7,a8⟩:=o
 have hno:∀w',Below w.heap.size w w'→PutOk b p v os w w':=fun w' hb=>⟨v,hs.below hb,Trn.of_below hb,.inl rfl⟩
 by_cases h:chk ⟨a1,a2,a3,a4,a5,a6,a7,a8⟩=0
 rotate_left
 ·have e:putE os ⟨a1,a2,a3,a4,a5,a6,a7,a8⟩=chk ⟨a1,a2,a3,a4,a5,a6,a7,a8⟩:=by unfold putE;rw[if_neg h]
  rw[putL,e,if_neg h]
  exact(zMW a1 a2 a3 a4 a5 a6 a7 a8 p w h).mono fun x w' hx=>⟨hx.1,hno _ hx.2⟩
 by_cases h8:a8=0
 ·subst h8
  have e:putE os ⟨a1,a2,a3,a4,a5,a6,a7,0⟩=6:=by unfold putE;rw[if_pos h,if_pos rfl]
  rw[putL,e,if_neg (by decide)]
  exact(zMX a1 a2 a3 a4 a5 a6 a7 p w h).mono fun x w' hx=>⟨hx.1,hno _ hx.2⟩
 by_cases hi:0≤idx a1 os
 ·have e:putE os ⟨a1,a2,a3,a4,a5,a6,a7,a8⟩=7:=by unfold putE;rw[if_pos h,if_neg h8,if_pos hi]
  rw[putL,e,if_neg (by decide)]
  exact(zMY a1 a2 a3 a4 a5 a6 a7 a8 b p v os w h h8 hs hi).mono fun x w' hx=>⟨hx.1,hno _ hx.2⟩
 obtain⟨q,c,rfl⟩:=OwnQ.form hs.own
 by_cases h20:os.length=20
 ·have e:putE os ⟨a1,a2,a3,a4,a5,a6,a7,a8⟩=4:=by unfold putE;rw[if_pos h,if_neg h8,if_neg hi,if_pos h20]
  rw[putL,e,if_neg (by decide)]
  have hs2:=hs
  rw[h20] at hs2
  exact(zMZ a1 a2 a3 a4 a5 a6 a7 a8 b p os w q c h h8 hs2 hi).mono fun x w' hx=>⟨hx.1,hno _ hx.2⟩
 ·have e:putE os ⟨a1,a2,a3,a4,a5,a6,a7,a8⟩=0:=by unfold putE;rw[if_pos h,if_neg h8,if_neg hi,if_neg h20]
  rw[putL,e,if_pos rfl]
  exact put_ok a1 a2 a3 a4 a5 a6 a7 a8 b p os w q _ c rfl h h8 hs hi (by omega)
def zk(k:Nat)(l:List O):List O:=(l.take k).map zst++l.drop k
theorem zKa(k:Nat)(l:List O):(zk k l).length=l.length:=by unfold zk;rw[List.length_append,List.length_map,List.length_take,List.length_drop];omega
theorem zk_all(l:List O):zk l.length l=l.map zst:=by unfold zk;rw[List.take_length,List.drop_length,List.append_nil]
theorem zk_step(k:Nat)(l:List O)(h:k<l.length):(flat (zk k l)).set (k*8+7) (.int .i64 0)=flat (zk (k+1) l):=by
 have e1:zk k l=(l.take k).map zst++l[k]::l.drop (k+1):=by unfold zk;rw[List.drop_eq_getElem_cons h]
 have e2:zk (k+1) l=(l.take k).map zst++zst l[k]::l.drop (k+1):=by unfold zk;rw[List.take_succ_eq_append_getElem h,List.map_append,List.append_assoc];rfl
 have hl:(flat ((l.take k).map zst)).length=k*8:=by rw[flat_len,List.length_map,List.length_take,Nat.min_eq_left (by omega)]
 rw[e1,e2,flat_append,flat_append,flat_cons,flat_cons,List.set_append_right _ _ (by omega),hl,show k*8+7 - k*8=7 by omega]
 rfl
theorem zFQ{W W' : World}{b p:Nat}{v:Value}{os:List O}{row:Option Nat}(h:St W b p v os)(hg:W.grownBy W' row)(h1:some p≠row)(h2:v.ownBlock=none∨v.ownBlock≠row):St W' b p v os:=
 ⟨(hg.block p h.lt h1).trans h.blk,h.le,OwnM.kept h.own hg h2⟩
section
variable (x:Int)(b p:Nat)(w:World)
def WkPost(x:Int)(b p:Nat)(os:List O)(w:World)(e:Ending)(w' : World):Prop:=
 ∃q m c v2,e=.returned (.tuple #[.slice q m c,.nilIface])∧m=(woke x os).length∧OwnQ w' w.heap.size (.slice q m c) (woke x os)∧St w' b p v2 (left x os)∧w.grownBy w' (some p)∧(∀k,v2.ownBlock=some k→w.heap.size≤k)∧(∀k,v2.ownBlock=some k→(Value.slice q m c).ownBlock≠some k)
theorem wake_ok(vq:Option Addr)(n vc:Nat)(os:List O)(hn:n=os.length)(hx:prB x=true)(h:St w b p (.slice vq n vc) os)(hl:n≤20) :
  Calls Tryz.prog 129 #[.pointer (some ⟨p,0,none⟩),.int .i64 x] w fun e w'=>WkPost x b p os w e w':=by
 have HP:=hidP (fun W=>zBc x W hx)
 have HS:=hidP h
 have HN:=hidP hn
 have HL:=hidP hl
 clear hx h hn hl
 go_enter Tryz.func129,Tryz.ntmps129
 go_wp2_with fail
 refine(HP.out _).mono ?_
 rintro e w1⟨rfl,hb1⟩
 have HB1:=hidP (((bzR _ w).alloc (nzR _) _).trans (hb1.mono (by simp)))
 have hR1:w1.heap[w.heap.size]?=some (.cells #[.int .i64 x] 3 (0,0)):=(hb1.block _ (by simp)).trans (heap_alloc_new w _)
 have hc1:w1.cell? ⟨w.heap.size,0,none⟩=some (.int .i64 x):=by simp[World.cell?,hR1]
 have hz1:w.heap.size<w1.heap.size:=(gzE.1 hR1).1
 have HQ1:=hidP (part_1 x w.heap.size b p vq n vc os w1 HN.out (HS.out.below HB1.out) hz1 hc1 (by have:=HL.out;omega))
 have HC1:=hidP hc1
 have HZ1:=hidP hz1
 clear hb1 hR1 hc1 hz1
 go_wp2_with fail
 refine HQ1.out.mono ?_
 rintro e w2⟨q1,m1,c1,rfl,hm1,ho1,hb2⟩
 have HB2:=hidP (HB1.out.trans (hb2.mono HB1.out.size))
 have HQ2:=hidP (part_2 x w.heap.size b p vq n vc os w2 HN.out (HS.out.below HB2.out) (Nat.lt_of_lt_of_le HZ1.out hb2.size) (keeps hb2 HC1.out) (by have:=HL.out;omega))
 have HM1:=hidP hm1
 have HO1:=hidP ho1
 have HX1:=hidP (show ∀k,(Value.slice q1 m1 c1).ownBlock=some k→w.heap.size≤k∧k<w2.heap.size from fun k hk=>by
  have h1:=OwnM.lt ho1 k hk
  have h2:=HZ1.out
  omega)
 clear hm1 ho1 hb2 HQ1
 have SO:Hid (∀W,Below w.heap.size w W→W.cell? ⟨p,0,none⟩=some (.slice vq n vc)∧W.frozen? ⟨p,0,none⟩=false):=fun W hW=>by
  have hr:=(HS.out.below hW).blk
  exact⟨by simp[World.cell?,hr],by simp[World.frozen?,hr]⟩
 go_upto_region 5 with fail
 go_wp2_with fail
 refine HQ2.out.mono ?_
 rintro e w3⟨q2,m2,c2,rfl,hm2,ho2,hb3⟩
 have HB3:=hidP (HB2.out.trans (hb3.mono HB2.out.size))
 obtain⟨p0,pf⟩:=SO.out _ HB3.out
 have hrow:=(HS.out.below HB3.out).blk
 have HK4:Hid (St (w3.setCell ⟨p,0,none⟩ (.slice q2 m2 c2)) b p (.slice q2 m2 c2) (left x os)∧OwnQ (w3.setCell ⟨p,0,none⟩ (.slice q2 m2 c2)) w.heap.size (.slice q1 m1 c1) (os.filter (wkB x))∧w.grownBy (w3.setCell ⟨p,0,none⟩ (.slice q2 m2 c2)) (some p)):=by
  have hg:=gr_setCell w3 p 0 (.slice q2 m2 c2)
  have hpw:p<w.heap.size:=HS.out.lt
  refine⟨⟨?_,HS.out.le,?_⟩,?_,gr_trans (gr_below HB3.out _) hg⟩
  ·rw[setCell_eq_setRow w3 p 0 _ _ _ _ hrow,setRow_heap w3 p _ _ _ _ hrow];rfl
  ·exact OwnM.mono (OwnM.kept ho2 hg (.inr fun e=>by have:=(OwnM.lt ho2 p e).1;have:=HB2.out.size;omega)) (by have:=HB2.out.size;have:=HS.out.le;omega)
  ·exact OwnM.mono (OwnM.kept (OwnM.below HO1.out hb3) hg (.inr fun e=>by have:=(OwnM.lt HO1.out p e).1;have:=HB1.out.size;omega)) (by have:=HB1.out.size;omega)
 have HV2:=hidP (show ∀k,(Value.slice q2 m2 c2).ownBlock=some k→w2.heap.size≤k from fun k hk=>(OwnM.lt ho2 k hk).1)
 clear hm2 ho2 hb3 hrow HQ2 SO
 go_wp2_with fail
 generalize w3.setCell ⟨p,0,none⟩ (.slice q2 m2 c2)=W4 at *
 clear p0 pf
 have HML:Hid (m1≤20):=by
  show _≤_
  have h1:=HM1.out
  have h2:=List.length_filter_le (wkB x) os
  have h3:=HN.out
  have h4:=HL.out
  omega
 refine(zHU q1 m1 c1 (os.filter (wkB x)) w.heap.size W4 HM1.out HK4.out.2.1 HML.out).mono ?_
 rintro e w5⟨rfl,hs5⟩
 have HK5:Hid (St w5 b p (.slice q2 m2 c2) (left x os)∧OwnQ w5 w.heap.size (.slice q1 m1 c1) (srt x os)∧w.grownBy w5 (some p)):=by
  obtain⟨k1,k2,k3⟩:=HK4.out
  have hpw:p<w.heap.size:=HS.out.lt
  refine⟨zFQ k1 hs5.2 (fun e=>by have:=(HX1.out p e.symm).1;omega) ?_,hs5.1,?_⟩
  ·cases hq:(Value.slice q2 m2 c2).ownBlock with
   | none=>exact .inl rfl
   | some k=>
    refine .inr fun e=>?_
    have h1:=(HX1.out k e.symm).2
    have h2:=HV2.out k hq
    omega
  ·have hB:=k3
   refine⟨hs5.2.os.trans k3.os,hs5.2.tape.trans k3.tape,hs5.2.output.trans k3.output,Nat.le_trans k3.size hs5.2.size,fun k hk hne=>?_⟩
   rw[hs5.2.block k (Nat.lt_of_lt_of_le hk k3.size) (fun e=>by have:=(HX1.out k e.symm).1;omega),k3.block k hk hne]
 have HSL:Hid ((srt x os).length=m1):=by show _=_;rw[zJW];exact HM1.out.symm
 clear hs5 HK4
 go_wp2_with fail
 go_loopg [8,27] m1 (fun gg _ s27 wr=>∃kk:Nat,kk≤m1∧m1 - kk≤gg∧s27=.int .i64 kk∧Aside (St wr b p (.slice q2 m2 c2) (left x os)∧OwnQ wr w.heap.size (.slice q1 m1 c1) (zk kk (srt x os))∧w.grownBy wr (some p)))
 case atStart=>exact⟨0,Nat.zero_le _,by omega,rfl,HK5.out.1,HK5.out.2.1,HK5.out.2.2⟩
 case round=>
  obtain⟨kk,hkk,hg,rfl,HA⟩:=hrel
  by_cases hlt:kk<m1
  ·have hltz:(kk:Int)<(m1:Int):=by omega
   have hin1:¬((kk:Int)<0):=by omega
   have hn0:(zk kk (srt x os)).length=m1:=(zKa _ _).trans HSL.out
   obtain⟨g,off,rfl⟩:∃g off,q1=some ⟨g,off,none⟩:=by
    rcases HA.out.2.1.2 with ⟨h1,h2⟩|⟨g,off,cap,cur,h1,_⟩
    ·rw[hn0] at h2;omega
    ·cases h1;exact⟨g,off,rfl⟩
   have hO:OwnM wr w.heap.size 32 8 (.slice (some ⟨g,off,none⟩) m1 c1) m1 (flat (zk kk (srt x os))):=by
    have:=HA.out.2.1
    rwa [OwnQ,hn0] at this
   obtain⟨-,hgb,-,hmc,-,-,hth⟩:=own_range hO
   have hc:=hth (kk*8+7) (by omega)
   rw[←Nat.add_assoc] at hc
   obtain⟨cv,hcv⟩:=Option.isSome_iff_exists.1 hc.1
   have hcf:=hc.2
   have HO:=hidP hO
   have HGP:=hidP (show p<w.heap.size∧w.heap.size≤g∧g<w2.heap.size from⟨HS.out.lt,HX1.out g rfl⟩)
   have es:wrap64 ((kk:Int)+1)=((kk+1:Nat):Int):=by have:=HML.out;unfold wrap64;omega
   have HNX:Hid (St (wr.setCell ⟨g,off+kk*8+7,none⟩ (.int .i64 0)) b p (.slice q2 m2 c2) (left x os)∧OwnQ (wr.setCell ⟨g,off+kk*8+7,none⟩ (.int .i64 0)) w.heap.size (.slice (some ⟨g,off,none⟩) m1 c1) (zk (kk+1) (srt x os))∧w.grownBy (wr.setCell ⟨g,off+kk*8+7,none⟩ (.int .i64 0)) (some p)):=by
    have hgr:=gr_setCell wr g (off+kk*8+7) (.int .i64 0)
    obtain⟨g1,g2,g3⟩:=HGP.out
    refine⟨zFQ HA.out.1 hgr (fun e=>by cases e;omega) ?_,?_,?_⟩
    ·cases hq:(Value.slice q2 m2 c2).ownBlock with
     | none=>exact .inl rfl
     | some k=>exact .inr fun e=>by cases e;have:=HV2.out g hq;omega
    ·have h1:=OwnM.set hO (kk*8+7) (.int .i64 0)
     rw[←Nat.add_assoc,zk_step kk (srt x os) (by rw[HSL.out];exact hlt)] at h1
     show OwnM _ _ _ _ _ _ _
     rw[zKa,HSL.out]
     exact h1
    ·have k3:=HA.out.2.2
     refine⟨hgr.os.trans k3.os,hgr.tape.trans k3.tape,hgr.output.trans k3.output,Nat.le_trans k3.size hgr.size,fun k hk hne=>?_⟩
     rw[hgr.block k (Nat.lt_of_lt_of_le hk k3.size) (fun e=>by cases e;omega),k3.block k hk hne]
   clear hO hth hc hmc hgb hn0 HA
   go_wp2_with fail
   go_roundg (m1 - (kk+1))
   case measure=>clear es;omega
   case rel=>exact⟨kk+1,hlt,nzR _,by go_num,HNX.out.1,HNX.out.2.1,HNX.out.2.2⟩
  ·have hltz:¬(kk:Int)<(m1:Int):=by omega
   have HE:Hid (zk kk (srt x os)=woke x os):=by
    show _=_
    have:kk=(srt x os).length:=by rw[HSL.out];omega
    rw[this,zk_all]
    rfl
   have HW:=hidP (show m1=(woke x os).length by rw[←HE.out,zKa,HSL.out])
   have HF:=hidP HA.out
   rw[HE.out] at HF
   clear HA
   go_wp2_with fail
   go_ret2
   refine⟨q1,m1,c1,_,rfl,HW.out,HF.out.2.1,HF.out.1,HF.out.2.2,fun k hk=>?_,fun k hk e=>?_⟩
   ·have h1:=HV2.out k hk;have h2:=HB2.out.size;omega
   ·have h1:=HV2.out k hk;have h2:=(HX1.out k e).2;omega
end
theorem wake_any(x:Int)(b p:Nat)(v:Value)(os:List O)(w:World)(hx:prB x=true)(h:St w b p v os)(hl:os.length≤20) :
  Calls Tryz.prog 129 #[.pointer (some ⟨p,0,none⟩),.int .i64 x] w fun e w'=>WkPost x b p os w e w':=by
 obtain⟨q,c,rfl⟩:=OwnQ.form h.own
 exact wake_ok x b p w q _ c os rfl hx h hl
end wak
namespace wak
open ord Go.Sort
def Good(os:List O):Prop:=(∀o∈os,chk o=0)∧os.Pairwise (fun a b=>a.id≠b.id)∧os.length≤20
theorem sl_at{w:World}{q:Option Addr}{n c:Nat}{zs:List O}(h:SL w (.slice q n c) zs)(hn:n=zs.length){k:Nat}(hk:k<n):∃g off,q=some ⟨g,off,none⟩∧∀i v,(oL zs[k]!)[i]?=some v→w.cell? ⟨g,off+k*8+i,none⟩=some v:=by
 rcases h with ⟨h1,h2⟩|⟨g,off,cc,h1,h2,h3,h4,h5⟩
 ·cases h1;omega
 ·cases h1;exact⟨g,off,rfl,h5 k (by omega)⟩
end wak
namespace wak
open Go.RowKit ord
open spn (keeps bcell)
theorem set8{w:World}{B:Nat}{y0 y1 y2 y3 y4 y5 y6 y7:Value}{t:TypeId}(h:w.heap[B]?=some (.cells #[y0,y1,y2,y3,y4,y5,y6,y7] t (0,0)))(x0 x1 x2 x3 x4 x5 x6 x7:Value) :
  ((((((((w.setCell ⟨B,0,none⟩ x0).setCell ⟨B,1,none⟩ x1).setCell ⟨B,2,none⟩ x2).setCell ⟨B,3,none⟩ x3).setCell ⟨B,4,none⟩ x4).setCell ⟨B,5,none⟩ x5).setCell ⟨B,6,none⟩ x6).setCell ⟨B,7,none⟩ x7).heap[B]?=some (.cells #[x0,x1,x2,x3,x4,x5,x6,x7] t (0,0)):=by
 have h0:(w.setCell ⟨B,0,none⟩ x0).heap[B]?=some (.cells #[x0,y1,y2,y3,y4,y5,y6,y7] t (0,0)):=heap_setCell_same _ B 0 _ _ x0 h
 have h1:((w.setCell ⟨B,0,none⟩ x0).setCell ⟨B,1,none⟩ x1).heap[B]?=some (.cells #[x0,x1,y2,y3,y4,y5,y6,y7] t (0,0)):=heap_setCell_same _ B 1 _ _ x1 h0
 have h2:(((w.setCell ⟨B,0,none⟩ x0).setCell ⟨B,1,none⟩ x1).setCell ⟨B,2,none⟩ x2).heap[B]?=some (.cells #[x0,x1,x2,y3,y4,y5,y6,y7] t (0,0)):=heap_setCell_same _ B 2 _ _ x2 h1
 have h3:((((w.setCell ⟨B,0,none⟩ x0).setCell ⟨B,1,none⟩ x1).setCell ⟨B,2,none⟩ x2).setCell ⟨B,3,none⟩ x3).heap[B]?=some (.cells #[x0,x1,x2,x3,y4,y5,y6,y7] t (0,0)):=heap_setCell_same _ B 3 _ _ x3 h2
 have h4:(((((w.setCell ⟨B,0,none⟩ x0).setCell ⟨B,1,none⟩ x1).setCell ⟨B,2,none⟩ x2).setCell ⟨B,3,none⟩ x3).setCell ⟨B,4,none⟩ x4).heap[B]?=some (.cells #[x0,x1,x2,x3,x4,y5,y6,y7] t (0,0)):=heap_setCell_same _ B 4 _ _ x4 h3
 have h5:((((((w.setCell ⟨B,0,none⟩ x0).setCell ⟨B,1,none⟩ x1).setCell ⟨B,2,none⟩ x2).setCell ⟨B,3,none⟩ x3).setCell ⟨B,4,none⟩ x4).setCell ⟨B,5,none⟩ x5).heap[B]?=some (.cells #[x0,x1,x2,x3,x4,x5,y6,y7] t (0,0)):=heap_setCell_same _ B 5 _ _ x5 h4
 have h6:(((((((w.setCell ⟨B,0,none⟩ x0).setCell ⟨B,1,none⟩ x1).setCell ⟨B,2,none⟩ x2).setCell ⟨B,3,none⟩ x3).setCell ⟨B,4,none⟩ x4).setCell ⟨B,5,none⟩ x5).setCell ⟨B,6,none⟩ x6).heap[B]?=some (.cells #[x0,x1,x2,x3,x4,x5,x6,y7] t (0,0)):=heap_setCell_same _ B 6 _ _ x6 h5
 have h7:((((((((w.setCell ⟨B,0,none⟩ x0).setCell ⟨B,1,none⟩ x1).setCell ⟨B,2,none⟩ x2).setCell ⟨B,3,none⟩ x3).setCell ⟨B,4,none⟩ x4).setCell ⟨B,5,none⟩ x5).setCell ⟨B,6,none⟩ x6).setCell ⟨B,7,none⟩ x7).heap[B]?=some (.cells #[x0,x1,x2,x3,x4,x5,x6,x7] t (0,0)):=heap_setCell_same _ B 7 _ _ x7 h6
 exact h7
theorem row8{w:World}{B:Nat}{x0 x1 x2 x3 x4 x5 x6 x7:Value}{t:TypeId}(h:w.heap[B]?=some (.cells #[x0,x1,x2,x3,x4,x5,x6,x7] t (0,0))) :
  w.cell? ⟨B,0,none⟩=some x0∧w.cell? ⟨B,1,none⟩=some x1∧w.cell? ⟨B,2,none⟩=some x2∧w.cell? ⟨B,3,none⟩=some x3∧w.cell? ⟨B,4,none⟩=some x4∧w.cell? ⟨B,5,none⟩=some x5∧w.cell? ⟨B,6,none⟩=some x6∧w.cell? ⟨B,7,none⟩=some x7∧∀j,w.frozen? ⟨B,j,none⟩=false:=
 ⟨by simp[World.cell?,h],by simp[World.cell?,h],by simp[World.cell?,h],by simp[World.cell?,h],by simp[World.cell?,h],by simp[World.cell?,h],by simp[World.cell?,h],by simp[World.cell?,h],fun j=>frozen_of_row w _ j _ _ h⟩
theorem gr8(w:World)(B:Nat)(x0 x1 x2 x3 x4 x5 x6 x7:Value):w.grownBy ((((((((w.setCell ⟨B,0,none⟩ x0).setCell ⟨B,1,none⟩ x1).setCell ⟨B,2,none⟩ x2).setCell ⟨B,3,none⟩ x3).setCell ⟨B,4,none⟩ x4).setCell ⟨B,5,none⟩ x5).setCell ⟨B,6,none⟩ x6).setCell ⟨B,7,none⟩ x7) (some B):=
 gr_trans (gr_trans (gr_trans (gr_trans (gr_trans (gr_trans (gr_trans (gr_setCell w B 0 x0) (gr_setCell _ B 1 x1)) (gr_setCell _ B 2 x2)) (gr_setCell _ B 3 x3)) (gr_setCell _ B 4 x4)) (gr_setCell _ B 5 x5)) (gr_setCell _ B 6 x6)) (gr_setCell _ B 7 x7)
theorem zKb(id:Int)(b p:Nat)(v:Value)(os:List O)(w:World)(h:St w b p v os)(h1:idx id os<0) :
  Calls Tryz.prog 78 #[.pointer (some ⟨p,0,none⟩),.int .i64 id] w fun x w'=>x=.returned (.tuple #[.agg #[.int .i64 0,.int .i64 0,.int .i64 0,.int .i64 0,.int .i64 0,.int .i64 0,.int .i64 0,.int .i64 0],errV 5])∧Below w.heap.size w w':=by
 have HF:Hid (∀W,Below w.heap.size w W→Calls Tryz.prog 107 #[.pointer (some ⟨p,0,none⟩),.int .i64 id] W fun e w'=>e=.returned (.int .i64 (idx id os))∧Below W.heap.size W w'):=fun W hW=>find_any id b p v os W (h.below hW)
 generalize idx id os=k at *
 clear h
 go_enter Tryz.func78,Tryz.ntmps78
 go_wp2_with fail
 refine(HF.out _ ((bzR _ _).alloc (nzR _) _)).mono ?_
 rintro x w2⟨rfl,hb2⟩
 have hB2:Below w.heap.size w w2:=((bzR _ _).alloc (nzR _) _).trans (hb2.mono (by simp))
 have hR2:w2.heap[w.heap.size]?=some (.cells #[.int .i64 0,.int .i64 0,.int .i64 0,.int .i64 0,.int .i64 0,.int .i64 0,.int .i64 0,.int .i64 0] 32 (0,0)):=(hb2.block w.heap.size (by simp)).trans (heap_alloc_new w _)
 clear hb2
 obtain⟨c0,c1,c2,c3,c4,c5,c6,c7,hf⟩:=row8 hR2
 have f0:=hf 0
 have f1:=hf 1
 have f2:=hf 2
 have f3:=hf 3
 have f4:=hf 4
 have f5:=hf 5
 have f6:=hf 6
 have f7:=hf 7
 clear hf
 have HX:=set8 hR2 (.int .i64 0) (.int .i64 0) (.int .i64 0) (.int .i64 0) (.int .i64 0) (.int .i64 0) (.int .i64 0) (.int .i64 0)
 have HBX:Below w.heap.size w ((((((((w2.setCell ⟨w.heap.size,0,none⟩ (.int .i64 0)).setCell ⟨w.heap.size,1,none⟩ (.int .i64 0)).setCell ⟨w.heap.size,2,none⟩ (.int .i64 0)).setCell ⟨w.heap.size,3,none⟩ (.int .i64 0)).setCell ⟨w.heap.size,4,none⟩ (.int .i64 0)).setCell ⟨w.heap.size,5,none⟩ (.int .i64 0)).setCell ⟨w.heap.size,6,none⟩ (.int .i64 0)).setCell ⟨w.heap.size,7,none⟩ (.int .i64 0)):=hB2.grown (gr8 w2 w.heap.size (.int .i64 0) (.int .i64 0) (.int .i64 0) (.int .i64 0) (.int .i64 0) (.int .i64 0) (.int .i64 0) (.int .i64 0)) hB2.size (fun k hk=>by cases hk;exact nzR _)
 go_wp2_with fail
 generalize ((((((((w2.setCell ⟨w.heap.size,0,none⟩ (.int .i64 0)).setCell ⟨w.heap.size,1,none⟩ (.int .i64 0)).setCell ⟨w.heap.size,2,none⟩ (.int .i64 0)).setCell ⟨w.heap.size,3,none⟩ (.int .i64 0)).setCell ⟨w.heap.size,4,none⟩ (.int .i64 0)).setCell ⟨w.heap.size,5,none⟩ (.int .i64 0)).setCell ⟨w.heap.size,6,none⟩ (.int .i64 0)).setCell ⟨w.heap.size,7,none⟩ (.int .i64 0))=V at *
 obtain⟨d0,d1,d2,d3,d4,d5,d6,d7,-⟩:=row8 HX
 clear HX
 exact bodyPost_ret (v:=.tuple #[.agg #[.int .i64 0,.int .i64 0,.int .i64 0,.int .i64 0,.int .i64 0,.int .i64 0,.int .i64 0,.int .i64 0],.iface 91 (.int .i64 5)]) (by simp[results,Tryz.results78,go_sem,d0,d1,d2,d3,d4,d5,d6,d7]) rfl ⟨rfl,HBX⟩
def DropOk(b p:Nat)(v:Value)(L:List O)(w w' : World):Prop:=∃v',St w' b p v' L∧Trn w w' p v∧v'.ownBlock=v.ownBlock
theorem zKc(id:Int)(i:Nat)(b p g off n c:Nat)(a1 a2 a3 a4 a5 a6 a7 a8:Int)(os:List O)(w:World)(hn:n=os.length)(h:St w b p (.slice (some ⟨g,off,none⟩) n c) os)(hi:i<n)(h1:idx id os=(i:Int))(ho:os[i]! = ⟨a1,a2,a3,a4,a5,a6,a7,a8⟩)(hl:n≤1000) :
  Calls Tryz.prog 78 #[.pointer (some ⟨p,0,none⟩),.int .i64 id] w fun x w'=>x=.returned (.tuple #[.agg #[.int .i64 a1,.int .i64 a2,.int .i64 a3,.int .i64 a4,.int .i64 a5,.int .i64 a6,.int .i64 a7,.int .i64 a8],.nilIface])∧DropOk b p (.slice (some ⟨g,off,none⟩) n c) (os.take i++os.drop (i+1)) w w':=by
 have HF:Hid (∀W,Below w.heap.size w W→Calls Tryz.prog 107 #[.pointer (some ⟨p,0,none⟩),.int .i64 id] W fun e w'=>e=.returned (.int .i64 (i:Int))∧Below W.heap.size W w'):=fun W hW=>by
  have:=find_any id b p _ os W (h.below hW)
  rwa [h1] at this
 have HS:=hidP h
 have HN:=hidP (show n=os.length∧i<n∧n≤1000 from⟨hn,hi,hl⟩)
 have hOn:OwnM w b 32 8 (.slice (some ⟨g,off,none⟩) n c) n (flat os):=by
  have:=h.own
  rwa [OwnQ,←hn] at this
 obtain⟨hfl,hbg,-,hnc,hcm,-,-⟩:=own_range hOn
 have HOn:=hidP hOn
 have HLI:Hid (∀j v,(oL ⟨a1,a2,a3,a4,a5,a6,a7,a8⟩)[j]?=some v→w.cell? ⟨g,off+i*8+j,none⟩=some v):=fun j v hv=>by
  rcases h.own.sl with ⟨e,_⟩|⟨g',off',c',e,_,_,_,hli⟩
  ·cases e
  ·cases e;exact hli i (by omega) j v (by rw[ho];exact hv)
 have hgp:g≠p:=fun e=>by
  obtain⟨cur,h3,-⟩:=(own_range hOn).2.2.1
  have h4:=h.blk
  rw[←e,h3] at h4
  simp only[Option.some.injEq,Obj.cells.injEq] at h4
  exact absurd h4.2.1 (by decide)
 have HGP:=hidP (show g≠p∧g<w.heap.size∧p<w.heap.size∧b≤g∧b≤p from⟨hgp,(OwnM.lt hOn g rfl).2,h.lt,hbg,h.le⟩)
 have hcc:c≤9223372036854775807:=by simpa [maxLen] using hcm
 have SO:Hid (∀W,Below w.heap.size w W→W.cell? ⟨p,0,none⟩=some (.slice (some ⟨g,off,none⟩) n c)∧W.frozen? ⟨p,0,none⟩=false):=fun W hW=>by
  have hr:=(HS.out.below hW).blk
  exact⟨by simp[World.cell?,hr],by simp[World.frozen?,hr]⟩
 have hin:(i:Int)<(n:Int):=by omega
 have hi0:¬((i:Int)<0):=by omega
 have HES:=hidP (show wrap64 ((i:Int)+1)=((i+1:Nat):Int) by unfold wrap64;omega)
 clear h hn hi h1 ho hl hOn hfl hbg hnc hcm hgp hcc
 go_enter Tryz.func78,Tryz.ntmps78
 go_wp2_with fail
 refine(HF.out _ ((bzR _ _).alloc (nzR _) _)).mono ?_
 rintro x w2⟨rfl,hb2⟩
 have HB2:=hidP (((bzR _ w).alloc (nzR _) _).trans (hb2.mono (by simp)))
 have hR2:w2.heap[w.heap.size]?=some (.cells #[.int .i64 0,.int .i64 0,.int .i64 0,.int .i64 0,.int .i64 0,.int .i64 0,.int .i64 0,.int .i64 0] 32 (0,0)):=(hb2.block w.heap.size (by simp)).trans (heap_alloc_new w _)
 clear hb2 HF
 obtain⟨P0,hP0⟩:∃P0,P0=w.heap.size:=⟨_,rfl⟩
 rw[←hP0] at hR2 ⊢
 have HP0:=hidP hP0
 clear hP0
 have hq2:P0<w2.heap.size:=(gzE.1 hR2).1
 obtain⟨q0,qf⟩:=SO.out _ HB2.out
 have t0:=keeps HB2.out (HLI.out 0 _ rfl)
 have t1:=keeps HB2.out (HLI.out 1 _ rfl)
 have t2:=keeps HB2.out (HLI.out 2 _ rfl)
 have t3:=keeps HB2.out (HLI.out 3 _ rfl)
 have t4:=keeps HB2.out (HLI.out 4 _ rfl)
 have t5:=keeps HB2.out (HLI.out 5 _ rfl)
 have t6:=keeps HB2.out (HLI.out 6 _ rfl)
 have t7:=keeps HB2.out (HLI.out 7 _ rfl)
 simp only[Nat.add_zero] at t0
 have hpl:p<w2.heap.size:=by have h1:=HGP.out;have h2:=HB2.out.size;omega
 have hR3:=heap_alloc_new w2 (.cells #[.int .i64 a1,.int .i64 a2,.int .i64 a3,.int .i64 a4,.int .i64 a5,.int .i64 a6,.int .i64 a7,.int .i64 a8] 32)
 have hBA:=(bzR _ w2).alloc (nzR _) (.cells #[.int .i64 a1,.int .i64 a2,.int .i64 a3,.int .i64 a4,.int .i64 a5,.int .i64 a6,.int .i64 a7,.int .i64 a8] 32)
 have es:=HES.out
 go_upto_region 5 with fail
 clear t0 t1 t2 t3 t4 t5 t6 t7 q0 qf
 generalize hW3:w2.alloc (.cells #[.int .i64 a1,.int .i64 a2,.int .i64 a3,.int .i64 a4,.int .i64 a5,.int .i64 a6,.int .i64 a7,.int .i64 a8] 32)=W3 at *
 have HB3:=hidP (HB2.out.trans (hBA.mono HB2.out.size))
 have hR23:W3.heap[P0]?=some (.cells #[.int .i64 0,.int .i64 0,.int .i64 0,.int .i64 0,.int .i64 0,.int .i64 0,.int .i64 0,.int .i64 0] 32 (0,0)):=(hBA.block _ hq2).trans hR2
 obtain⟨P1,hP1⟩:∃P1,P1=w2.heap.size:=⟨_,rfl⟩
 simp only[←hP1] at hR3 ⊢
 have HP1:=hidP (show P0<P1 by rw[hP1];exact hq2)
 clear hP1 hW3 hBA hR2 hq2 hpl
 obtain⟨q0,qf⟩:=SO.out _ HB3.out
 have HDL:=hidP (delete_own W3 b g off n c i (i+1) (flat os) (OwnM.below HOn.out HB3.out) (by omega) (by have:=HN.out;omega) (flat_one _))
 have e1:((i+1:Nat):Int)=(i:Int)+1:=by omega
 go_wp2_with fail
 refine HDL.out.mono ?_
 rintro e w4⟨rfl,hO4,hg4⟩
 have hR34:w4.heap[P1]?=some (.cells #[.int .i64 a1,.int .i64 a2,.int .i64 a3,.int .i64 a4,.int .i64 a5,.int .i64 a6,.int .i64 a7,.int .i64 a8] 32 (0,0)):=(hg4.block P1 (gzE.1 hR3).1 (fun e=>by cases e;have h1:=HGP.out;have h2:=HP1.out;have h3:=HP0.out;omega)).trans hR3
 have hR24:w4.heap[P0]?=some (.cells #[.int .i64 0,.int .i64 0,.int .i64 0,.int .i64 0,.int .i64 0,.int .i64 0,.int .i64 0,.int .i64 0] 32 (0,0)):=(hg4.block P0 (gzE.1 hR23).1 (fun e=>by cases e;have h1:=HGP.out;have h3:=HP0.out;omega)).trans hR23
 have hrow:w4.heap[p]?=some (.cells #[.slice (some ⟨g,off,none⟩) n c] 107 (0,0)):=(hg4.block p (by have h1:=HGP.out;have h2:=HB3.out.size;omega) (fun e=>by cases e;exact HGP.out.1 rfl)).trans (HS.out.below HB3.out).blk
 obtain⟨v4,hv4⟩:∃v4,v4=i+(n - (i+1)):=⟨_,rfl⟩
 rw[←hv4] at hO4 ⊢
 obtain⟨W5,hW5⟩:∃W5,W5=w4.setCell ⟨p,0,none⟩ (.slice (some ⟨g,off,none⟩) v4 c):=⟨_,rfl⟩
 have hg5:w4.grownBy W5 (some p):=by rw[hW5];exact gr_setCell w4 p 0 _
 have HST5:Hid (St W5 b p (.slice (some ⟨g,off,none⟩) v4 c) (os.take i++os.drop (i+1))):=by
  refine⟨?_,HGP.out.2.2.2.2,?_⟩
  ·rw[hW5,setCell_eq_setRow w4 p 0 _ _ _ _ hrow,setRow_heap w4 p _ _ _ _ hrow];rfl
  ·have h5:=OwnM.kept hO4 hg5 (.inr fun e=>by cases e;exact HGP.out.1 rfl)
   have e2:(flat os).take (i*8)++(flat os).drop ((i+1)*8)=flat (os.take i++os.drop (i+1)):=by
    have e3:os=os.take i++os.drop i:=(List.take_append_drop _ _).symm
    have hl1:(flat (os.take i)).length=i*8:=by rw[flat_len,List.length_take,Nat.min_eq_left (by have:=HN.out;omega)]
    have hl2:(flat (os.take (i+1))).length=(i+1)*8:=by rw[flat_len,List.length_take,Nat.min_eq_left (by have:=HN.out;omega)]
    have f1:flat os=flat (os.take i)++flat (os.drop i):=by rw[←flat_append,List.take_append_drop]
    have f2:flat os=flat (os.take (i+1))++flat (os.drop (i+1)):=by rw[←flat_append,List.take_append_drop]
    rw[flat_append]
    congr 1
    ·rw[f1,←hl1,List.take_left]
    ·rw[f2,←hl2,List.drop_left]
   rw[e2] at h5
   have hlen:(os.take i++os.drop (i+1)).length=v4:=by rw[List.length_append,List.length_take,List.length_drop,hv4];have:=HN.out;omega
   show OwnM _ _ _ _ _ _ _
   rw[hlen]
   exact h5
 have HTR5:Hid (Trn w W5 p (.slice (some ⟨g,off,none⟩) n c)):=
  ⟨hg5.os.trans (hg4.os.trans HB3.out.os),hg5.tape.trans (hg4.tape.trans HB3.out.tape),hg5.output.trans (hg4.output.trans HB3.out.output),Nat.le_trans HB3.out.size (Nat.le_trans hg4.size hg5.size),fun k hk hkp hkv=>by
   have hk3:k<W3.heap.size:=Nat.lt_of_lt_of_le hk HB3.out.size
   rw[hg5.block k (Nat.lt_of_lt_of_le hk3 hg4.size) (fun e=>by cases e;exact hkp rfl),hg4.block k hk3 (fun e=>hkv e.symm),HB3.out.block k hk]⟩
 have c0:w4.cell? ⟨p,0,none⟩=some (.slice (some ⟨g,off,none⟩) n c):=by simp[World.cell?,hrow]
 have cf:w4.frozen? ⟨p,0,none⟩=false:=by simp[World.frozen?,hrow]
 have hR35:W5.heap[P1]?=some (.cells #[.int .i64 a1,.int .i64 a2,.int .i64 a3,.int .i64 a4,.int .i64 a5,.int .i64 a6,.int .i64 a7,.int .i64 a8] 32 (0,0)):=(hg5.block P1 (gzE.1 hR34).1 (fun e=>by cases e;have h1:=HGP.out;have h2:=HP1.out;have h3:=HP0.out;omega)).trans hR34
 have hR25:W5.heap[P0]?=some (.cells #[.int .i64 0,.int .i64 0,.int .i64 0,.int .i64 0,.int .i64 0,.int .i64 0,.int .i64 0,.int .i64 0] 32 (0,0)):=(hg5.block P0 (gzE.1 hR24).1 (fun e=>by cases e;have h1:=HGP.out;have h3:=HP0.out;omega)).trans hR24
 have HVB:=hidP (show (Value.slice (some ⟨g,off,none⟩) v4 c).ownBlock=(Value.slice (some ⟨g,off,none⟩) n c).ownBlock from rfl)
 have HW5:=hidP hW5
 clear hO4 hg4 hg5 hR34 hR24 hrow hR3 hR23 q0 qf HDL hv4 e1 es hW5
 go_upto_region 6 with fail
 rw[←HW5.out]
 clear HW5 c0 cf
 obtain⟨x0,x1,x2,x3,x4,x5,x6,x7,-⟩:=row8 hR35
 obtain⟨z0,z1,z2,z3,z4,z5,z6,z7,hzf⟩:=row8 hR25
 have f0:=hzf 0
 have f1:=hzf 1
 have f2:=hzf 2
 have f3:=hzf 3
 have f4:=hzf 4
 have f5:=hzf 5
 have f6:=hzf 6
 have f7:=hzf 7
 clear hzf
 have HX:=set8 hR25 (.int .i64 a1) (.int .i64 a2) (.int .i64 a3) (.int .i64 a4) (.int .i64 a5) (.int .i64 a6) (.int .i64 a7) (.int .i64 a8)
 have HG6:=hidP (gr8 W5 P0 (.int .i64 a1) (.int .i64 a2) (.int .i64 a3) (.int .i64 a4) (.int .i64 a5) (.int .i64 a6) (.int .i64 a7) (.int .i64 a8))
 go_wp2_with fail
 generalize ((((((((W5.setCell ⟨P0,0,none⟩ (.int .i64 a1)).setCell ⟨P0,1,none⟩ (.int .i64 a2)).setCell ⟨P0,2,none⟩ (.int .i64 a3)).setCell ⟨P0,3,none⟩ (.int .i64 a4)).setCell ⟨P0,4,none⟩ (.int .i64 a5)).setCell ⟨P0,5,none⟩ (.int .i64 a6)).setCell ⟨P0,6,none⟩ (.int .i64 a7)).setCell ⟨P0,7,none⟩ (.int .i64 a8))=V at *
 obtain⟨d0,d1,d2,d3,d4,d5,d6,d7,-⟩:=row8 HX
 have HPO:Hid (DropOk b p (.slice (some ⟨g,off,none⟩) n c) (os.take i++os.drop (i+1)) w V):=by
  refine⟨.slice (some ⟨g,off,none⟩) v4 c,zFQ HST5.out HG6.out (fun e=>by cases e;have h1:=HGP.out;have h3:=HP0.out;omega) (.inr fun e=>by have hg:g=P0:=Option.some.inj e;have h1:=HGP.out;have h3:=HP0.out;omega),?_,HVB.out⟩
  have t:=HTR5.out
  have g6:=HG6.out
  exact⟨g6.os.trans t.os,g6.tape.trans t.tape,g6.output.trans t.output,Nat.le_trans t.size g6.size,fun k hk hkp hkv=>by
   rw[g6.block k (Nat.lt_of_lt_of_le hk t.size) (fun e=>by cases e;have h3:=HP0.out;omega),t.block k hk hkp hkv]⟩
 clear HX
 exact bodyPost_ret (v:=.tuple #[.agg #[.int .i64 a1,.int .i64 a2,.int .i64 a3,.int .i64 a4,.int .i64 a5,.int .i64 a6,.int .i64 a7,.int .i64 a8],.nilIface]) (by simp[results,Tryz.results78,go_sem,d0,d1,d2,d3,d4,d5,d6,d7]) rfl ⟨rfl,HPO.out⟩
end wak
end Go.Proofs.YtifjhlgjgnnnpaaGreat
