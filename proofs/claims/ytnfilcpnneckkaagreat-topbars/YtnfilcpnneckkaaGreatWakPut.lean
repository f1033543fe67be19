import Derived.Test.YtnfilcpnneckkaaGreatWakPure
set_option maxHeartbeats 2000000
set_option maxRecDepth 100000
namespace Go.Proofs.YtnfilcpnneckkaaGreat
open Tryz
namespace wak
open Go.RowKit spn ord
theorem wAJ(w:World) :
  Calls prog 124 #[.slice none 0 0,.int .i64 0] w fun e w'=>e=.returned (.slice none 0 0)∧w'=w:=by
 go_enter func124,ntmps124
 go_wp2
 go_ret;exact⟨rfl,rfl⟩
theorem wAR(n:Nat)(hn:0<n)(hm:n≤100000)(w:World) :
  Calls prog 124 #[.slice none 0 0,.int .i64 n] w fun e w'=>∃v,e=.returned v∧OwnQ w' w.heap.size v []∧Bw w w':=by
 obtain⟨i,hi,hz,hs,UD⟩:=infoR';have hr:=Lib.run_append_nil_zeros (P:=prog) w 91 3 91 34 i zeroR .i64 .i64 underlying91 underlying3 hi hz n hn (by rw[hs];omega) (by omega) (by rw[UD];omega)
 have bH:=grownCap_ge w n 0 34;have gi:=grownCap_le_maxLen w n 0 34 (by unfold maxLen;omega)
 have ur:(Builtin.zeroCells zeroR.cells n++Builtin.zeroCells zeroR.cells (grownCap w n 0 34 - n)).size=grownCap w n 0 34*8:=by
  rw[Array.size_append,size_zeroCells,size_zeroCells];show n*8+(grownCap w n 0 34 - n)*8=_
  omega
 have hO:OwnQ (w.drew.alloc (.cells (Builtin.zeroCells zeroR.cells n++Builtin.zeroCells zeroR.cells (grownCap w n 0 34 - n)) 34)) w.heap.size (.slice (some ⟨w.heap.size,0,none⟩) 0 (grownCap w n 0 34)) []:=
  ⟨rfl,.inr ⟨w.heap.size,0,_,_,rfl,nzR _,jA w.drew _,jL _,gi,by rw[ur];omega,by simp[flat]⟩⟩
 have hB:Bw w (w.drew.alloc (.cells (Builtin.zeroCells zeroR.cells n++Builtin.zeroCells zeroR.cells (grownCap w n 0 34 - n)) 34)):=(bzR _ _).drew.alloc (nzR _) _;generalize w.drew.alloc (.cells (Builtin.zeroCells zeroR.cells n++Builtin.zeroCells zeroR.cells (grownCap w n 0 34 - n)) 34)=W at *;generalize grownCap w n 0 34=cap at *;have HR:Hid ((Builtin.append_ #[91,3] 91 #[.slice none 0 0,.int .i64 n]).run prog w=.ok (.slice (some ⟨w.heap.size,0,none⟩) n cap) W):=hr;have h0:¬((n:Int)<0):=by omega
 have h1:(0:Int)<(n:Int):=by omega
 have h2:wrap64 (n:Int)=n:=by unfold wrap64;omega
 have h3:¬cap=0:=by omega
 clear hr ur hi hz hs UD;go_enter func124,ntmps124;go_wp2_with (at_builtin;refine Lib.wpList_append_run _ rfl _ _ _ _ rfl _ _ rfl rfl _ _ HR.out ?_)
 go_ret;exact⟨_,rfl,hO,hB⟩
theorem SL.form{w:World}{v:Value}{zs:List O}(h:SL w v zs):∃p c,v=.slice p zs.length c:=by
 rcases h with ⟨rfl,rfl⟩|⟨b,o,c,h1,_⟩
 ·exact⟨none,0,rfl⟩
 ·exact⟨_,c,h1⟩
def upto(pz:Nat→List O):Nat→List O
 | 0=>[]
 | k+1=>upto pz k++pz k
theorem wAn(pz:Nat→List O)(k:Nat):(upto pz (k+1)).length=(upto pz k).length+(pz k).length:=jE
theorem wAW(pz:Nat→List O)(k d:Nat):(upto pz k).length≤(upto pz (k+d)).length:=by
 induction d with
 | zero=>exact nzR _
 | succ d ih=>
  have:=wAn pz (k+d);rw[show k+(d+1)=k+d+1 from rfl]
  omega
theorem wAF(pz:Nat→List O){k n:Nat}(h:k≤n):(upto pz k).length≤(upto pz n).length:=by
 have:=wAW pz k (n - k)
 rwa [show k+(n - k)=n by omega] at this
theorem wAG(B c n:Nat)(pv:Nat→Value)(pz:Nat→List O)(w:World)(GC:n≤10)(gv:∀j,j<n→w.cell? ⟨B,j,none⟩=some (pv j))
  (UG:∀j,j<n→SL w (pv j) (pz j)) (Hh:(upto pz n).length≤1000) :
  Calls prog 84 #[.slice (some ⟨B,0,none⟩) n c] w fun e w'=>∃v,e=.returned v∧OwnQ w' w.heap.size v (upto pz n)∧Bw w w':=by
 obtain⟨i0,hi,gE,gu,gA⟩:=infoR';have HI:Hid (prog.info? 34=some i0):=hi;clear hi;have HC:Hid (∀j,j<n→w.cell? ⟨B,j,none⟩=some (pv j)):=gv;have HS:Hid (∀j,j<n→SL w (pv j) (pz j)):=UG;have Ux:Hid ((upto pz n).length≤1000):=Hh;clear gv UG Hh;go_enter func84,ntmps84;go_wp2_with fail;go_loopg [3,5,11] n (fun gg s3 _ s11 wr=>∃kk S:Nat,kk≤n∧n - kk≤gg∧s11=.int .i64 kk∧s3=.int .i64 S∧Aside (S=(upto pz kk).length)∧wr=w)
 case atStart=>exact⟨0,0,jL _,by omega,rfl,rfl,rfl,rfl⟩
 case round=>
  obtain⟨kk,S,gd,hg,rfl,rfl,hS,rfl⟩:=hrel;by_cases Hi:kk<n
  ·have Hp:(kk:Int)<(n:Int):=by omega
   have gR:¬((kk:Int)<0):=by omega
   have c0:=HC.out kk Hi;obtain⟨p,cc,hv⟩:=(HS.out kk Hi).form;obtain⟨m,hm⟩:∃m,m=(pz kk).length:=⟨_,rfl⟩;have Gh:S+m≤1000:=by
    have h1:=wAF pz (show kk+1≤n by omega)
    have h2:=Ux.out;have h3:=hS.out;rw[wAn] at h1;omega
   have Ee:Aside (S+m=(upto pz (kk+1)).length):=by
    show _=_
    rw[wAn,←hm,hS.out]
   rw[hv,←hm] at c0;clear hv hm;have e1:wrap64 ((S:Int)+(m:Int))=((S+m:Nat):Int):=by unfold wrap64;omega
   have e2:¬(((S+m:Nat):Int)<0):=by omega
   go_wp2_with fail;go_roundg (n - (kk+1))
   case measure=>omega
   case rel=>exact⟨kk+1,S+m,by omega,by omega,by go_num,rfl,Ee,rfl⟩
  ·have Hp:¬(kk:Int)<(n:Int):=by omega
   have hk:kk=n:=by omega
   subst hk;obtain⟨w0,mf⟩:∃w0,w0=wr:=⟨_,rfl⟩;subst mf;have gC:Hid (Calls prog 124 #[.slice none 0 0,.int .i64 (S:Int)] w0 fun e w'=>∃v,e=.returned v∧OwnQ w' w0.heap.size v []∧Bw w0 w'):=by
    by_cases h0:S=0
    ·rw[h0];exact(wAJ w0).mono (fun e w' h=>⟨.slice none 0 0,h.1,⟨rfl,.inl ⟨rfl,rfl⟩⟩,by rw[h.2];exact bzR _ _⟩)
    ·exact wAR _ (by omega) (by have h1:=Ux.out;have h2:=hS.out;omega) w0
   clear hS;go_wp2_with fail;refine gC.out.mono ?_;rintro e w1⟨v1,rfl,Us,Hc⟩;have Gu:Hid (OwnQ w1 w0.heap.size v1 []):=Us;have He:Hid (Bw w0 w1):=Hc;clear Us Hc gC;go_wp2_with fail;go_loopg [6,8,27] kk (fun gg s6 _ s27 W=>∃k2:Nat,k2≤kk∧kk - k2≤gg∧s27=.int .i64 k2∧Aside (OwnQ W w0.heap.size s6 (upto pz k2))∧Aside (Below w0.heap.size w0 W))
   case atStart=>exact⟨0,jL _,by omega,rfl,Gu.out,He.out⟩
   case round=>
    obtain⟨k2,Gg,Ge,rfl,hO,Hj⟩:=hrel;by_cases hlt2:k2<kk
    ·have uT:(k2:Int)<(kk:Int):=(by omega);have CH:¬((k2:Int)<0):=(by omega);have c0:=zAa Hj.out (HC.out k2 hlt2);have UG:SL wr (pv k2) (pz k2):=(HS.out k2 hlt2).below Hj.out;have Gh:(upto pz (k2+1)).length≤1000:=jM (wAF pz (show k2+1≤kk by omega)) Ux.out
     rw[wAn] at Gh;rcases UG with ⟨hv,hz⟩|⟨b,o,cp,hv,h2,h3,h4,h5⟩
     ·rw[hv] at c0;have uL:Aside (OwnQ wr w0.heap.size u6 (upto pz (k2+1))):=by
       show OwnQ _ _ _ _
       rw[show upto pz (k2+1)=upto pz k2++pz k2 from rfl,hz,jH]
       exact hO.out
      have HR:Hid ((Builtin.append_ #[91,91] 91 #[u6,.slice none 0 0]).run prog wr=.ok u6 wr):=wAt wr _ _ _ _ i0 8 underlying91 HI.out _ _ _ hO.out;clear hv hz Gh gE gu gA;go_wp2_with (at_builtin;refine Lib.wpList_append_run _ rfl _ _ _ _ rfl _ _ rfl rfl _ _ HR.out ?_)
      go_roundg (kk - (k2+1))
      case measure=>omega
      case rel=>exact⟨k2+1,by omega,by omega,by go_num,uL,Hj⟩
     ·rw[hv] at c0;have HF:Hid (∀j u,(flat (pz k2))[j]?=some u→wr.cell? ((⟨b,o,none⟩:Addr).add j)=some u):=wAE h5;clear hv h5;go_wp2_with (at_builtin;(refine wAe _ rfl _ _ 91 rfl w0.heap.size 34 i0 zeroR 8 64 underlying91 HI.out gE gu gA rfl u6 _ _ rfl hO.out ⟨b,o,none⟩ (pz k2).length cp (flat (pz k2)) rfl (wAl _) HF.out (wAB _) ?c3 ?c4 ?c5 ?_))
      case c3=>unfold maxLen;omega
      case c4=>omega
      case c5=>exact Hj.out.size
      intro v' w' gy Hy Gm;have U3 : Aside (Bw w0 w'):=Hj.out.grown Hy Hj.out.size (fun k hk=>(hO.out.lt k hk).1)
      have uL:Aside (OwnQ w' w0.heap.size v' (upto pz (k2+1))):=by
       show OwnM _ _ _ _ _ _ _
       rw[wAn,show upto pz (k2+1)=upto pz k2++pz k2 from rfl,wAg]
       exact gy
      clear gy Hy Gm HF c0;go_wp2_with fail;go_roundg (kk - (k2+1))
      case measure=>omega
      case rel=>exact⟨k2+1,by omega,by omega,by go_num,uL,U3⟩
    ·have uT:¬(k2:Int)<(kk:Int):=(by omega);have hk:k2=kk:=(by omega);subst hk;go_wp2_with fail;go_ret;exact⟨_,rfl,hO.out,Hj.out⟩
end wak
namespace wak
open Go.RowKit ord
open spn (zAa bcell)
theorem hidW{P:Prop}(h:P):Hid P:=h
structure Trn (w w' : World) (p:Nat) (v:Value):Prop where
 os:w'.os=w.os
 tape:w'.tape=w.tape
 output:w'.output=w.output
 size:w.heap.size≤w'.heap.size
 block:∀k,k<w.heap.size→k≠p→v.ownBlock≠some k→w'.heap[k]?=w.heap[k]?
theorem Trn.of_below{w w' : World}{p:Nat}{v:Value}(h:Bw w w'):Trn w w' p v:=⟨h.os,h.tape,h.output,h.size,fun k hk _ _=>h.block k hk⟩
def Frs(w:World)(v v' : Value):Prop:=v'.ownBlock=v.ownBlock∨∀k,v'.ownBlock=some k→w.heap.size≤k
theorem Trn.below{w w' : World}{b p:Nat}{v:Value}{os:List O}(h:Trn w w' p v)(hs:St w b p v os):Below b w w':=
 ⟨h.os,h.tape,h.output,h.size,fun k hk=>h.block k (by have:=hs.lt;have:=hs.le;omega) (by have:=hs.le;omega) (fun e=>by have:=(OwnM.lt hs.own k e).1;omega)⟩
def putE(os:List O)(o:O):Int:=if chk o=0 then (if o.stop=0 then 6 else if 0≤idx o.id os then 7 else if os.length=20 then 4 else 0) else chk o
def putL(os:List O)(o:O):List O:=if putE os o=0 then os++[o] else os
theorem new_any(w:World):Calls prog 13 #[] w fun e w'=>e=.returned (.pointer (some ⟨w.heap.size,0,none⟩))∧St w' w.heap.size w.heap.size (.slice none 0 0) []∧Bw w w':=by
 have hr:=jA w (.cells #[.slice none 0 0] 93);go_enter func13,ntmps13
 go_wp2
 go_ret;exact⟨rfl,⟨hr,nzR _,⟨rfl,.inl ⟨rfl,rfl⟩⟩⟩,(bzR _ _).alloc (nzR _) _⟩
theorem OwnQ.form{w:World}{base:Nat}{v:Value}{zs:List O}(h:OwnQ w base v zs):∃q c,v=.slice q zs.length c:=h.sl.form
theorem wBe(b p:Nat)(v:Value)(os:List O)(w:World)(h:St w b p v os)(hl:os.length≤1000) :
  Calls prog 53 #[.pointer (some ⟨p,0,none⟩)] w fun e w'=>∃q c,e=.returned (.slice q os.length c)∧OwnQ w' w.heap.size (.slice q os.length c) os∧Bw w w':=by
 obtain⟨vq,vc,hv⟩:=OwnQ.form h.own;obtain⟨vn,hvn⟩:∃vn,vn=os.length:=⟨_,rfl⟩;rw[←hvn] at hv;subst hv;have hc:=h.cell;generalize CZ:Value.slice vq vn vc=v at h hc;have hB:Bw w (w.alloc (.cells #[v] 91)):=(bzR _ _).alloc (nzR _) _;have Hf:=wAG w.heap.size 1 1 (fun _=>v) (fun _=>os) (w.alloc (.cells #[v] 91)) (by omega) (fun j hj=>by
   obtain rfl:j=0:=by omega
   simp[go_sem]) (fun j hj=>(h.below hB).own.sl) (by simpa [upto] using hl)
 rw[show upto (fun _=>os) 1=os by simp[upto]] at Hf
 subst CZ;have HCON:=hidW Hf;have eh:=hidW hvn;rw[←hvn];clear Hf h hvn;go_enter func53,ntmps53;go_wp2_with fail;refine HCON.out.mono ?_;rintro e w1⟨v1,rfl,ho,hb⟩;obtain⟨q,c,hq⟩:=OwnQ.form ho;rw[←eh.out] at hq;subst hq;have HO:=hidW (show OwnQ w1 w.heap.size (.slice q vn c) os from⟨ho.1,by
  rcases ho.2 with h|⟨g,off,cap,cur,h1,h2,h3⟩
  ·exact .inl h
  ·exact .inr ⟨g,off,cap,cur,h1,by simp at h2;omega,h3⟩⟩)
 have HB:=hidW (hB.trans (hb.mono (by simp)))
 clear ho hb hB hc;go_wp2_with fail;go_ret;exact⟨q,c,rfl,HO.out,HB.out⟩
section
variable (a1 a2 a3 a4 a5 a6 a7 a8:Int)(b p:Nat)(v:Value)(os:List O)(w:World)
theorem zOT(h:¬chk ⟨a1,a2,a3,a4,a5,a6,a7,a8⟩=0) :
  Calls prog 89 #[.pointer (some ⟨p,0,none⟩),.agg #[.int .i64 a1,.int .i64 a2,.int .i64 a3,.int .i64 a4,.int .i64 a5,.int .i64 a6,.int .i64 a7,.int .i64 a8]] w fun e w'=>e=.returned (errV (chk ⟨a1,a2,a3,a4,a5,a6,a7,a8⟩))∧Bw w w':=by
 have HC:Hid (∀W,Calls prog 79 #[.agg #[.int .i64 a1,.int .i64 a2,.int .i64 a3,.int .i64 a4,.int .i64 a5,.int .i64 a6,.int .i64 a7,.int .i64 a8]] W fun e w'=>e=.returned (.iface 90 (.int .i64 (chk ⟨a1,a2,a3,a4,a5,a6,a7,a8⟩)))∧Bw W w'):=fun W=>by
  have:=wAf ⟨a1,a2,a3,a4,a5,a6,a7,a8⟩ W
  rwa [wAb h] at this
 rw[wAb h];generalize chk ⟨a1,a2,a3,a4,a5,a6,a7,a8⟩=k at *;go_enter func89,ntmps89;go_wp2_with fail;refine(HC.out _).mono ?_;rintro x w1⟨rfl,Hc⟩;have hB:Bw w w1:=((bzR _ _).alloc (nzR _) _).trans (Hc.mono (by simp))
 clear Hc;go_wp2_with fail;go_ret;exact⟨rfl,hB⟩
theorem zOU(h:chk ⟨a1,a2,a3,a4,a5,a6,a7,0⟩=0) :
  Calls prog 89 #[.pointer (some ⟨p,0,none⟩),.agg #[.int .i64 a1,.int .i64 a2,.int .i64 a3,.int .i64 a4,.int .i64 a5,.int .i64 a6,.int .i64 a7,.int .i64 0]] w fun e w'=>e=.returned (errV 6)∧Bw w w':=by
 have HC:Hid (∀W,Calls prog 79 #[.agg #[.int .i64 a1,.int .i64 a2,.int .i64 a3,.int .i64 a4,.int .i64 a5,.int .i64 a6,.int .i64 a7,.int .i64 0]] W fun e w'=>e=.returned .nilIface∧Bw W w'):=fun W=>by
  have:=wAf ⟨a1,a2,a3,a4,a5,a6,a7,0⟩ W
  rwa [h,wAa] at this
 clear h;go_enter func89,ntmps89;go_wp2_with fail;refine(HC.out _).mono ?_;rintro x w1⟨rfl,Hc⟩;have hB:Bw w w1:=((bzR _ _).alloc (nzR _) _).trans (Hc.mono (by simp))
 obtain⟨Gn,M4⟩:=bcell Hc;clear Hc;go_wp2_with fail;go_ret;exact⟨rfl,hB⟩
theorem zOV(h:chk ⟨a1,a2,a3,a4,a5,a6,a7,a8⟩=0)(h8:¬a8=0)(hs:St w b p v os)(hi:0≤idx a1 os) :
  Calls prog 89 #[.pointer (some ⟨p,0,none⟩),.agg #[.int .i64 a1,.int .i64 a2,.int .i64 a3,.int .i64 a4,.int .i64 a5,.int .i64 a6,.int .i64 a7,.int .i64 a8]] w fun e w'=>e=.returned (errV 7)∧Bw w w':=by
 have HC:Hid (∀W,Calls prog 79 #[.agg #[.int .i64 a1,.int .i64 a2,.int .i64 a3,.int .i64 a4,.int .i64 a5,.int .i64 a6,.int .i64 a7,.int .i64 a8]] W fun e w'=>e=.returned .nilIface∧Bw W w'):=fun W=>by
  have:=wAf ⟨a1,a2,a3,a4,a5,a6,a7,a8⟩ W
  rwa [h,wAa] at this
 have HF:Hid (∀W,Bw w W→Calls prog 99 #[.pointer (some ⟨p,0,none⟩),.int .i64 a1] W fun e w'=>e=.returned (.int .i64 (idx a1 os))∧Bw W w'):=fun W hW=>wAr a1 b p v os W (hs.below hW)
 have e8:(a8 == 0)=false:=by simpa using h8
 generalize idx a1 os=m at *;clear h hs;go_enter func89,ntmps89;go_wp2_with fail;refine(HC.out _).mono ?_;rintro x w1⟨rfl,Hc⟩;have hB:Bw w w1:=((bzR _ _).alloc (nzR _) _).trans (Hc.mono (by simp))
 obtain⟨Gn,M4⟩:=bcell Hc;clear Hc;go_wp2_with fail;refine(HF.out _ hB).mono ?_;rintro x w2⟨rfl,Ha⟩;have gG:=hB.trans (Ha.mono hB.size);clear Ha hB Gn M4;go_wp2_with fail;go_ret;exact⟨rfl,gG⟩
theorem zOW(q:Option Addr)(c:Nat)(h:chk ⟨a1,a2,a3,a4,a5,a6,a7,a8⟩=0)(h8:¬a8=0)(hs:St w b p (.slice q 20 c) os)(hi:¬0≤idx a1 os) :
  Calls prog 89 #[.pointer (some ⟨p,0,none⟩),.agg #[.int .i64 a1,.int .i64 a2,.int .i64 a3,.int .i64 a4,.int .i64 a5,.int .i64 a6,.int .i64 a7,.int .i64 a8]] w fun e w'=>e=.returned (errV 4)∧Bw w w':=by
 have HC:Hid (∀W,Calls prog 79 #[.agg #[.int .i64 a1,.int .i64 a2,.int .i64 a3,.int .i64 a4,.int .i64 a5,.int .i64 a6,.int .i64 a7,.int .i64 a8]] W fun e w'=>e=.returned .nilIface∧Bw W w'):=fun W=>by
  have:=wAf ⟨a1,a2,a3,a4,a5,a6,a7,a8⟩ W
  rwa [h,wAa] at this
 have HF:Hid (∀W,Bw w W→Calls prog 99 #[.pointer (some ⟨p,0,none⟩),.int .i64 a1] W fun e w'=>e=.returned (.int .i64 (idx a1 os))∧Bw W w'):=fun W hW=>wAr a1 b p _ os W (hs.below hW)
 have e8:(a8 == 0)=false:=by simpa using h8
 have PJ:=hidW hs.cell;generalize idx a1 os=m at *;clear h hs;go_enter func89,ntmps89;go_wp2_with fail;refine(HC.out _).mono ?_;rintro x w1⟨rfl,Hc⟩;have hB:Bw w w1:=((bzR _ _).alloc (nzR _) _).trans (Hc.mono (by simp))
 obtain⟨Gn,M4⟩:=bcell Hc;clear Hc;go_wp2_with fail;refine(HF.out _ hB).mono ?_;rintro x w2⟨rfl,Ha⟩;have gG:=hB.trans (Ha.mono hB.size);have U8:=zAa gG PJ.out;clear Ha hB Gn M4;go_wp2_with fail;go_ret;exact⟨rfl,gG⟩
def PutOk(b p:Nat)(v:Value)(L:List O)(w w' : World):Prop:=∃v',St w' b p v' L∧Trn w w' p v∧Frs w v v'
theorem wBh(q:Option Addr)(n c:Nat)(hn:n=os.length)(h:chk ⟨a1,a2,a3,a4,a5,a6,a7,a8⟩=0)(h8:¬a8=0)(hs:St w b p (.slice q n c) os)(hi:¬0≤idx a1 os)(hl:n<20) :
  Calls prog 89 #[.pointer (some ⟨p,0,none⟩),.agg #[.int .i64 a1,.int .i64 a2,.int .i64 a3,.int .i64 a4,.int .i64 a5,.int .i64 a6,.int .i64 a7,.int .i64 a8]] w fun e w'=>e=.returned .nilIface∧PutOk b p (.slice q n c) (os++[⟨a1,a2,a3,a4,a5,a6,a7,a8⟩]) w w':=by
 have HC:Hid (∀W,Calls prog 79 #[.agg #[.int .i64 a1,.int .i64 a2,.int .i64 a3,.int .i64 a4,.int .i64 a5,.int .i64 a6,.int .i64 a7,.int .i64 a8]] W fun e w'=>e=.returned .nilIface∧Bw W w'):=fun W=>by
  have:=wAf ⟨a1,a2,a3,a4,a5,a6,a7,a8⟩ W
  rwa [h,wAa] at this
 have HF:Hid (∀W,Bw w W→Calls prog 99 #[.pointer (some ⟨p,0,none⟩),.int .i64 a1] W fun e w'=>e=.returned (.int .i64 (idx a1 os))∧Bw W w'):=fun W hW=>wAr a1 b p _ os W (hs.below hW)
 have e8:(a8 == 0)=false:=by simpa using h8
 have e20:((n:Int) == 20)=false:=by simp;omega
 have e21:¬(n:Int)=20:=by omega
 have HS:=hidW hs;have HN:=hidW (show n=os.length∧n<20 from⟨hn,hl⟩)
 obtain⟨i0,gY,gE,gu,gA⟩:=infoR';have HI:=hidW gY;have Gw:Hid (∀W w' v',Bw w W→OwnM w' b 34 8 v' (n+1) (flat os++[.int .i64 a1,.int .i64 a2,.int .i64 a3,.int .i64 a4,.int .i64 a5,.int .i64 a6,.int .i64 a7,.int .i64 a8])→W.grownBy w' (Value.slice q n c).ownBlock→(v'.ownBlock=(Value.slice q n c).ownBlock∨v'.ownBlock=some W.heap.size)→
   (w'.cell? ⟨p,0,none⟩=some (.slice q n c)∧w'.frozen? ⟨p,0,none⟩=false)∧PutOk b p (.slice q n c) (os++[⟨a1,a2,a3,a4,a5,a6,a7,a8⟩]) w (w'.setCell ⟨p,0,none⟩ v')):=fun W w' v' hW hO hg ha=>by
  have pV:=HS.out.below hW;have H8:some p≠(Value.slice q n c).ownBlock:=fun e=>by
   rcases HS.out.own.2 with ⟨h1,_⟩|⟨g,off,cap,cur,h1,h2,h3,_⟩
   ·rw[h1] at e;cases e
   ·rw[h1] at e;simp only[Value.ownBlock,Option.some.injEq] at e;have h4:=HS.out.blk;rw[e,h3] at h4;simp only[Option.some.injEq,Obj.cells.injEq] at h4;exact absurd h4.2.1 (by decide)
  have Hd:w'.heap[p]?=some (.cells #[.slice q n c] 93 (0,0)):=(hg.block p pV.lt H8).trans pV.blk;refine⟨⟨by simp[World.cell?,Hd],by simp[World.frozen?,Hd]⟩,v',⟨?_,HS.out.le,?_⟩,⟨?_,?_,?_,?_,?_⟩,?_⟩
  ·rw[setCell_eq_setRow w' p 0 _ _ _ v' Hd,setRow_heap w' p _ _ _ _ Hd];rfl
  ·have hlp:(Value.ownBlock v')≠some p:=fun e=>by
    rcases hO.2 with ⟨h1,_⟩|⟨g,off,cap,cur,h1,h2,h3,_⟩
    ·rw[h1] at e;cases e
    ·rw[h1] at e;simp only[Value.ownBlock,Option.some.injEq] at e;rw[e,Hd] at h3;simp only[Option.some.injEq,Obj.cells.injEq] at h3;exact absurd h3.2.1 (by decide)
   have uL:=OwnM.kept hO (wAc w' p 0 v') (.inr hlp);show OwnM _ _ _ _ _ _ _
   rw[jE,wAg,show ([⟨a1,a2,a3,a4,a5,a6,a7,a8⟩]:List O).length=1 from rfl,←HN.out.1]
   exact uL
  ·exact hg.os.trans hW.os
  ·exact hg.tape.trans hW.tape
  ·exact hg.output.trans hW.output
  ·have h1:=hg.size;have h2:=hW.size;simp[World.setCell];omega
  ·intro k hk M7 ED;rw[Below.heap_setCell _ _ _ _ (show k≠p from M7),hg.block k (jC hk hW.size) (fun e=>ED e.symm),hW.block k hk]
  ·rcases ha with e|e
   ·exact .inl e
   ·exact .inr fun k hk=>by rw[e] at hk;cases hk;exact hW.size
 have PJ:=hidW hs.cell;generalize idx a1 os=m at *;clear h hs hn hl gY;go_enter func89,ntmps89;go_wp2_with fail;refine(HC.out _).mono ?_;rintro x w1⟨rfl,Hc⟩;have hB:Bw w w1:=((bzR _ _).alloc (nzR _) _).trans (Hc.mono (by simp))
 have gh:w1.heap[w.heap.size]?=some (.cells #[.int .i64 a1,.int .i64 a2,.int .i64 a3,.int .i64 a4,.int .i64 a5,.int .i64 a6,.int .i64 a7,.int .i64 a8] 34 (0,0)):=(Hc.block _ (by simp)).trans (jA w _)
 obtain⟨Gn,M4⟩:=bcell Hc;clear Hc;go_wp2_with fail;refine(HF.out _ hB).mono ?_;rintro x w2⟨rfl,Ha⟩;have Hg:=hidW (hB.trans (Ha.mono hB.size));have U8:=zAa Hg.out PJ.out;have gw:w2.heap[w.heap.size]?=some (.cells #[.int .i64 a1,.int .i64 a2,.int .i64 a3,.int .i64 a4,.int .i64 a5,.int .i64 a6,.int .i64 a7,.int .i64 a8] 34 (0,0)):=(Ha.block _ (gzE.1 gh).1).trans gh;have cel:∀i,w2.cell? ⟨w.heap.size,i,none⟩=(#[.int .i64 a1,.int .i64 a2,.int .i64 a3,.int .i64 a4,.int .i64 a5,.int .i64 a6,.int .i64 a7,.int .i64 a8]:Array Value)[i]?:=fun i=>by simp[World.cell?,gw]
 have t0:=cel 0;have t1:=cel 1;have t2:=cel 2;have t3:=cel 3;have t4:=cel 4;have t5:=cel 5;have t6:=cel 6;have t7:=cel 7;simp only[List.getElem?_toArray,List.getElem?_cons_zero,List.getElem?_cons_succ] at t0 t1 t2 t3 t4 t5 t6 t7;have Gv:Hid (OwnM w2 b 34 8 (.slice q n c) n (flat os)):=by
  have:=(HS.out.below Hg.out).own
  rwa [OwnQ,←HN.out.1] at this
 have GB:b≤w2.heap.size:=by have h1:=HS.out.lt;have h2:=HS.out.le;have h3:=Hg.out.size;omega
 have hn1:n+1≤20:=HN.out.2;have Pw:p<w2.heap.size:=jC HS.out.lt Hg.out.size;have hwl:w.heap.size<w2.heap.size:=(gzE.1 gw).1;have cV:Hid (∀W,Bw w2 W→Bw w W):=fun W hW=>Hg.out.trans (hW.mono Hg.out.size)
 clear Ha hB Gn M4 cel gh gw;go_upto_region 10 with fail
 go_region_law (refine wAj _ rfl _ _ 91 rfl b 34 i0 zeroR 8 64 underlying91 HI.out gE gu gA rfl (.slice q n c) n (flat os) rfl (OwnM.below Gv.out (by(with_reducible repeat' (first|assumption|refine bal ?_ _|refine Below.drew ?_|exact bzR _ _)))) _ 1 1 [.int .i64 a1,.int .i64 a2,.int .i64 a3,.int .i64 a4,.int .i64 a5,.int .i64 a6,.int .i64 a7,.int .i64 a8] rfl rfl (World.news_of_block (cs:=#[.int .i64 a1,.int .i64 a2,.int .i64 a3,.int .i64 a4,.int .i64 a5,.int .i64 a6,.int .i64 a7,.int .i64 a8]) (jA _ _)) (by simp[Value.oneCell']) (by unfold maxLen;omega) (by omega) (jM GB (Below.size (w:=w2) (B:=w2.heap.size) (by(with_reducible repeat' (first|assumption|refine bal ?_ _|refine Below.drew ?_|exact bzR _ _))))) ?_;intro v' w' gy Hy Gm;obtain⟨⟨hS2,mu⟩,U6⟩:=Gw.out _ _ _ (cV.out _ (by(with_reducible repeat' (first|assumption|refine bal ?_ _|refine Below.drew ?_|exact bzR _ _)))) gy Hy Gm;obtain⟨q',c',rfl⟩:=OwnM.form gy)
 all_goals
  go_wp2_with fail;go_ret;exact⟨rfl,U6⟩
end
theorem zQX(o:O)(b p:Nat)(v:Value)(os:List O)(w:World)(hs:St w b p v os)(hl:os.length≤20) :
  Calls prog 89 #[.pointer (some ⟨p,0,none⟩),oV o] w fun e w'=>e=.returned (errV (putE os o))∧PutOk b p v (putL os o) w w':=by
 obtain⟨a1,a2,a3,a4,a5,a6,a7,a8⟩:=o;have M8:∀w',Bw w w'→PutOk b p v os w w':=fun w' hb=>⟨v,hs.below hb,Trn.of_below hb,.inl rfl⟩
 by_cases h:chk ⟨a1,a2,a3,a4,a5,a6,a7,a8⟩=0
 rotate_left
 ·have e:putE os ⟨a1,a2,a3,a4,a5,a6,a7,a8⟩=chk ⟨a1,a2,a3,a4,a5,a6,a7,a8⟩:=by unfold putE;rw[if_neg h]
  rw[putL,e,if_neg h];exact(zOT a1 a2 a3 a4 a5 a6 a7 a8 p w h).mono fun x w' hx=>⟨hx.1,M8 _ hx.2⟩
 by_cases h8:a8=0
 ·subst h8;have e:putE os ⟨a1,a2,a3,a4,a5,a6,a7,0⟩=6:=by unfold putE;rw[if_pos h,if_pos rfl]
  rw[putL,e,if_neg (by decide)]
  exact(zOU a1 a2 a3 a4 a5 a6 a7 p w h).mono fun x w' hx=>⟨hx.1,M8 _ hx.2⟩
 by_cases hi:0≤idx a1 os
 ·have e:putE os ⟨a1,a2,a3,a4,a5,a6,a7,a8⟩=7:=by unfold putE;rw[if_pos h,if_neg h8,if_pos hi]
  rw[putL,e,if_neg (by decide)]
  exact(zOV a1 a2 a3 a4 a5 a6 a7 a8 b p v os w h h8 hs hi).mono fun x w' hx=>⟨hx.1,M8 _ hx.2⟩
 obtain⟨q,c,rfl⟩:=OwnQ.form hs.own;by_cases h20:os.length=20
 ·have e:putE os ⟨a1,a2,a3,a4,a5,a6,a7,a8⟩=4:=by unfold putE;rw[if_pos h,if_neg h8,if_neg hi,if_pos h20]
  rw[putL,e,if_neg (by decide)]
  have H9:=hs;rw[h20] at H9;exact(zOW a1 a2 a3 a4 a5 a6 a7 a8 b p os w q c h h8 H9 hi).mono fun x w' hx=>⟨hx.1,M8 _ hx.2⟩
 ·have e:putE os ⟨a1,a2,a3,a4,a5,a6,a7,a8⟩=0:=by unfold putE;rw[if_pos h,if_neg h8,if_neg hi,if_neg h20]
  rw[putL,e,if_pos rfl];exact wBh a1 a2 a3 a4 a5 a6 a7 a8 b p os w q _ c rfl h h8 hs hi (by omega)
end wak
end Go.Proofs.YtnfilcpnneckkaaGreat
