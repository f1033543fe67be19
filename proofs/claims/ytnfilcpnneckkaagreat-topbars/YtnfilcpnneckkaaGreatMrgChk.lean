import Derived.Test.YtnfilcpnneckkaaGreatPurHold
import Derived.Test.YtnfilcpnneckkaaGreatMeeOrd
import Derived.OwnWalk
set_option maxHeartbeats 2000000
set_option maxRecDepth 100000
namespace Go.Proofs.YtnfilcpnneckkaaGreat
open Tryz
namespace pur
open Go.RowKit spn
theorem zRb(P:Nat)(ps:List Pz)(who n:Int)(w:World)(h:Pu 98 9 w P ps)(ho:Ok ps) :
  Calls prog 34 #[.pointer (some ⟨P,0,none⟩),.int .i64 who,.int .i64 n] w fun e w'=>e=.returned (errV (payE ps who n))∧Pu 98 9 w' P (payP ps who n)∧w.grownBy w' (some P):=by
 have HG:=hidU (zGV who n w);have HP:=hidU h;cases hb:badG who n with
 | true=>
  rw[hb] at HG;have HE:Hid (payE ps who n=1):=by show _=_;unfold payE;rw[hb];rfl
  have HF:Hid (payP ps who n=ps):=by show _=_;unfold payP;rw[HE.out];rfl
  rw[HE.out,HF.out];clear h ho hb HE HF;simp only[show errV (zAd true)=.iface 90 (.int .i64 1) from rfl] at HG
  go_enter func34,ntmps34;go_wp2_with fail;refine HG.out.mono ?_;rintro e w1⟨rfl,Hc⟩;have He:=hidU Hc;clear Hc;go_wp2_with fail;go_ret;exact⟨rfl,HP.out.below He.out,grB He.out _⟩
 | false=>
  rw[hb] at HG;simp only[show errV (zAd false)=.nilIface from rfl] at HG
  obtain⟨b1,b2,b3,b4⟩:=zFS hb;obtain⟨k,hw,hk,Ud⟩:=ix_of b1 b2;have z:=ho.all k hk;have Ui:Hid (∀W,Calls prog 69 #[.pointer (some ⟨P,0,none⟩),.int .i64 who] W fun e w'=>e=.returned (.pointer (some ⟨P,k*5,none⟩))∧w'=W):=fun W=>of_at P k who W hw hk
  have HX:Hid (∀W,Pu 98 9 W P ps→W.cell? ⟨P,k*5+1,none⟩=some (.int .i64 (ps[k]!).cash)∧W.frozen? ⟨P,k*5+1,none⟩=false):=fun W hW=>⟨hW.cell k hk 1 _ rfl,hW.froz _⟩
  have HE:Hid (payE ps who n=if 1000000000<(ps[k]!).cash+n then 4 else 0):=by show _=_;unfold payE;rw[hb,Ud];rfl
  have HN:Hid (∀W,Pu 98 9 W P ps→¬1000000000<(ps[k]!).cash+n→Pu 98 9 (W.setCell ⟨P,k*5+1,none⟩ (.int .i64 ((ps[k]!).cash+n))) P (payP ps who n)):=fun W hW hf=>by
   unfold payP;rw[HE.out,if_neg hf,if_pos rfl,Ud];exact hW.put k 1 _ _ hk (by omega) rfl
  have HF:Hid (1000000000<(ps[k]!).cash+n→payP ps who n=ps):=fun hf=>by unfold payP;rw[HE.out,if_pos hf,if_neg (by decide)]
  have mD:wrap64 ((ps[k]!).cash+n)=(ps[k]!).cash+n:=zAN _ (by have:=z.h0;have:=z.hc;have:=z.t0;have:=z.ts;omega) (by have:=z.cm;have:=z.sm;omega)
  generalize (ps[k]!).cash=x at *;clear h ho hb z hw hk Ud b1 b2 b3 b4;by_cases hf:1000000000<x+n
  ·have Uj:Hid (∀W,Pu 98 9 W P ps→Calls prog 68 #[.pointer (some ⟨P,k*5+1,none⟩),.int .i64 n] W fun e w'=>e=.returned (errV 4)∧w'=W):=fun W hW=>zIK P _ x n W (HX.out W hW).1 mD hf
   rw[HE.out,if_pos hf,HF.out hf];clear hf mD HE HF HN HX;go_enter func34,ntmps34;go_wp2_with fail;refine HG.out.mono ?_;rintro e w1⟨rfl,Hc⟩;have He:=hidU Hc;clear Hc;go_wp2_with fail;refine(Ui.out _).mono ?_;rintro e w2⟨rfl,rfl⟩;go_wp2_with fail;refine(Uj.out _ (HP.out.below He.out)).mono ?_;rintro e w3⟨rfl,rfl⟩;go_wp2_with fail;go_ret;exact⟨rfl,HP.out.below He.out,grB He.out _⟩
  ·have Uj:Hid (∀W,Pu 98 9 W P ps→Calls prog 68 #[.pointer (some ⟨P,k*5+1,none⟩),.int .i64 n] W fun e w'=>e=.returned (errV 0)∧w'=W.setCell ⟨P,k*5+1,none⟩ (.int .i64 (x+n))):=fun W hW=>wBh P _ x n W (HX.out W hW).1 (HX.out W hW).2 mD hf
   have Ug:=hidU (fun W hW=>HN.out W hW hf)
   rw[HE.out,if_neg hf];clear hf mD HE HF HN HX;go_enter func34,ntmps34;go_wp2_with fail;refine HG.out.mono ?_;rintro e w1⟨rfl,Hc⟩;have He:=hidU Hc;clear Hc;go_wp2_with fail;refine(Ui.out _).mono ?_;rintro e w2⟨rfl,rfl⟩;go_wp2_with fail;refine(Uj.out _ (HP.out.below He.out)).mono ?_;rintro e w3⟨rfl,rfl⟩;have HL:=hidU (Ug.out _ (HP.out.below He.out));have HGR:=hidU (grT (grB He.out (some P)) (grC w2 P (k*5+1) (.int .i64 (x+n))));clear Ug Uj;generalize w2.setCell ⟨P,k*5+1,none⟩ (.int .i64 (x+n))=w4 at *;go_wp2_with fail;go_ret;exact⟨rfl,HL.out,HGR.out⟩
theorem zOY(P:Nat)(ps:List Pz)(who n:Int)(w:World)(h:Pu 98 9 w P ps)(ho:Ok ps) :
  Calls prog 35 #[.pointer (some ⟨P,0,none⟩),.int .i64 who,.int .i64 n] w fun e w'=>e=.returned (errV (zDf ps who n))∧Pu 98 9 w' P (zDv ps who n)∧w.grownBy w' (some P):=by
 have HG:=hidU (zGV who n w);have HP:=hidU h;cases hb:badG who n with
 | true=>
  rw[hb] at HG;have HE:Hid (zDf ps who n=1):=by show _=_;unfold zDf;rw[hb];rfl
  have HF:Hid (zDv ps who n=ps):=by show _=_;unfold zDv;rw[HE.out];rfl
  rw[HE.out,HF.out];clear h ho hb HE HF;simp only[show errV (zAd true)=.iface 90 (.int .i64 1) from rfl] at HG
  go_enter func35,ntmps35;go_wp2_with fail;refine HG.out.mono ?_;rintro e w1⟨rfl,Hc⟩;have He:=hidU Hc;clear Hc;go_wp2_with fail;go_ret;exact⟨rfl,HP.out.below He.out,grB He.out _⟩
 | false=>
  rw[hb] at HG;simp only[show errV (zAd false)=.nilIface from rfl] at HG
  obtain⟨b1,b2,b3,b4⟩:=zFS hb;obtain⟨k,hw,hk,Ud⟩:=ix_of b1 b2;have z:=ho.all k hk;have Ui:Hid (∀W,Calls prog 69 #[.pointer (some ⟨P,0,none⟩),.int .i64 who] W fun e w'=>e=.returned (.pointer (some ⟨P,k*5,none⟩))∧w'=W):=fun W=>of_at P k who W hw hk
  have HX:Hid (∀W,Pu 98 9 W P ps→W.cell? ⟨P,k*5+3,none⟩=some (.int .i64 (ps[k]!).stock)∧W.frozen? ⟨P,k*5+3,none⟩=false):=fun W hW=>⟨hW.cell k hk 3 _ rfl,hW.froz _⟩
  have HE:Hid (zDf ps who n=if 1000000000<(ps[k]!).stock+n then 4 else 0):=by show _=_;unfold zDf;rw[hb,Ud];rfl
  have HN:Hid (∀W,Pu 98 9 W P ps→¬1000000000<(ps[k]!).stock+n→Pu 98 9 (W.setCell ⟨P,k*5+3,none⟩ (.int .i64 ((ps[k]!).stock+n))) P (zDv ps who n)):=fun W hW hf=>by
   unfold zDv;rw[HE.out,if_neg hf,if_pos rfl,Ud];exact hW.put k 3 _ _ hk (by omega) rfl
  have HF:Hid (1000000000<(ps[k]!).stock+n→zDv ps who n=ps):=fun hf=>by unfold zDv;rw[HE.out,if_pos hf,if_neg (by decide)]
  have mD:wrap64 ((ps[k]!).stock+n)=(ps[k]!).stock+n:=zAN _ (by have:=z.h0;have:=z.hc;have:=z.t0;have:=z.ts;omega) (by have:=z.cm;have:=z.sm;omega)
  generalize (ps[k]!).stock=x at *;clear h ho hb z hw hk Ud b1 b2 b3 b4;by_cases hf:1000000000<x+n
  ·have Uj:Hid (∀W,Pu 98 9 W P ps→Calls prog 68 #[.pointer (some ⟨P,k*5+3,none⟩),.int .i64 n] W fun e w'=>e=.returned (errV 4)∧w'=W):=fun W hW=>zIK P _ x n W (HX.out W hW).1 mD hf
   rw[HE.out,if_pos hf,HF.out hf];clear hf mD HE HF HN HX;go_enter func35,ntmps35;go_wp2_with fail;refine HG.out.mono ?_;rintro e w1⟨rfl,Hc⟩;have He:=hidU Hc;clear Hc;go_wp2_with fail;refine(Ui.out _).mono ?_;rintro e w2⟨rfl,rfl⟩;go_wp2_with fail;refine(Uj.out _ (HP.out.below He.out)).mono ?_;rintro e w3⟨rfl,rfl⟩;go_wp2_with fail;go_ret;exact⟨rfl,HP.out.below He.out,grB He.out _⟩
  ·have Uj:Hid (∀W,Pu 98 9 W P ps→Calls prog 68 #[.pointer (some ⟨P,k*5+3,none⟩),.int .i64 n] W fun e w'=>e=.returned (errV 0)∧w'=W.setCell ⟨P,k*5+3,none⟩ (.int .i64 (x+n))):=fun W hW=>wBh P _ x n W (HX.out W hW).1 (HX.out W hW).2 mD hf
   have Ug:=hidU (fun W hW=>HN.out W hW hf)
   rw[HE.out,if_neg hf];clear hf mD HE HF HN HX;go_enter func35,ntmps35;go_wp2_with fail;refine HG.out.mono ?_;rintro e w1⟨rfl,Hc⟩;have He:=hidU Hc;clear Hc;go_wp2_with fail;refine(Ui.out _).mono ?_;rintro e w2⟨rfl,rfl⟩;go_wp2_with fail;refine(Uj.out _ (HP.out.below He.out)).mono ?_;rintro e w3⟨rfl,rfl⟩;have HL:=hidU (Ug.out _ (HP.out.below He.out));have HGR:=hidU (grT (grB He.out (some P)) (grC w2 P (k*5+3) (.int .i64 (x+n))));clear Ug Uj;generalize w2.setCell ⟨P,k*5+3,none⟩ (.int .i64 (x+n))=w4 at *;go_wp2_with fail;go_ret;exact⟨rfl,HL.out,HGR.out⟩
def newL(k:Nat):List Pz:=(List.range 9).map fun i=>⟨if i<k then (i:Int)+1 else 0,0,0,0,0⟩
theorem zCg(k:Nat):(newL k).length=9:=by unfold newL;simp
theorem zDx(k i:Nat)(h:i<9):(newL k)[i]! = ⟨if i<k then (i:Int)+1 else 0,0,0,0,0⟩:=by
 rw[getP _ i (by rw[zCg];exact h)]
 unfold newL;rw[List.getElem_map,List.getElem_range]
theorem zMl(k:Nat)(h:k<9):(newL k).set k ⟨(k:Int)+1,0,0,0,0⟩=newL (k+1):=by
 refine ext9 (n:=9) (by rw[List.length_set,zCg]) (zCg _) (fun i hi=>?_)
 rw[zDx _ i hi,getP _ i (by rw[List.length_set,zCg];exact hi)]
 by_cases e:i=k
 ·subst e;rw[List.getElem_set_self,if_pos (by omega)]
 ·rw[List.getElem_set_ne (fun x=>e x.symm),←getP _ i (by rw[zCg];exact hi),zDx k i hi]
  by_cases h1:i<k
  ·rw[if_pos h1,if_pos (by omega)]
  ·rw[if_neg h1,if_neg (by omega)]
theorem zRc:Ok (newL 9):=by
 refine⟨zCg 9,fun i hi=>?_⟩
 rw[zDx 9 i hi,if_pos hi];exact⟨rfl,jY 0,jY 0,(by show (0:Int)≤1000000000;decide),jY 0,jY 0,(by show (0:Int)≤1000000000;decide)⟩
theorem succP(i:Nat)(h:i≤5000):wrap64 ((i:Int)+1)=((i+1:Nat):Int):=by unfold wrap64;omega
theorem zero45:(flatP (newL 0)).toArray=#[.int .i64 0,.int .i64 0,.int .i64 0,.int .i64 0,.int .i64 0,.int .i64 0,.int .i64 0,.int .i64 0,.int .i64 0,.int .i64 0,.int .i64 0,.int .i64 0,.int .i64 0,.int .i64 0,.int .i64 0,.int .i64 0,.int .i64 0,.int .i64 0,.int .i64 0,.int .i64 0,.int .i64 0,.int .i64 0,.int .i64 0,.int .i64 0,.int .i64 0,.int .i64 0,.int .i64 0,.int .i64 0,.int .i64 0,.int .i64 0,.int .i64 0,.int .i64 0,.int .i64 0,.int .i64 0,.int .i64 0,.int .i64 0,.int .i64 0,.int .i64 0,.int .i64 0,.int .i64 0,.int .i64 0,.int .i64 0,.int .i64 0,.int .i64 0,.int .i64 0]:=rfl
theorem new_any(w:World) :
  Calls prog 14 #[] w fun e w'=>e=.returned (.pointer (some ⟨w.heap.size,0,none⟩))∧Pu 98 9 w' w.heap.size (newL 9)∧Below w.heap.size w w':=by
 have Gq:=hidU ((bzR _ w).alloc (nzR _) (.cells #[.int .i64 0,.int .i64 0,.int .i64 0,.int .i64 0,.int .i64 0,.int .i64 0,.int .i64 0,.int .i64 0,.int .i64 0,.int .i64 0,.int .i64 0,.int .i64 0,.int .i64 0,.int .i64 0,.int .i64 0,.int .i64 0,.int .i64 0,.int .i64 0,.int .i64 0,.int .i64 0,.int .i64 0,.int .i64 0,.int .i64 0,.int .i64 0,.int .i64 0,.int .i64 0,.int .i64 0,.int .i64 0,.int .i64 0,.int .i64 0,.int .i64 0,.int .i64 0,.int .i64 0,.int .i64 0,.int .i64 0,.int .i64 0,.int .i64 0,.int .i64 0,.int .i64 0,.int .i64 0,.int .i64 0,.int .i64 0,.int .i64 0,.int .i64 0,.int .i64 0] 98))
 have PP:Hid (Pu 98 9 (w.alloc (.cells #[.int .i64 0,.int .i64 0,.int .i64 0,.int .i64 0,.int .i64 0,.int .i64 0,.int .i64 0,.int .i64 0,.int .i64 0,.int .i64 0,.int .i64 0,.int .i64 0,.int .i64 0,.int .i64 0,.int .i64 0,.int .i64 0,.int .i64 0,.int .i64 0,.int .i64 0,.int .i64 0,.int .i64 0,.int .i64 0,.int .i64 0,.int .i64 0,.int .i64 0,.int .i64 0,.int .i64 0,.int .i64 0,.int .i64 0,.int .i64 0,.int .i64 0,.int .i64 0,.int .i64 0,.int .i64 0,.int .i64 0,.int .i64 0,.int .i64 0,.int .i64 0,.int .i64 0,.int .i64 0,.int .i64 0,.int .i64 0,.int .i64 0,.int .i64 0,.int .i64 0] 98)) w.heap.size (newL 0)):=⟨zCg 0,by rw[zero45];exact jA w _⟩
 obtain⟨P,hP⟩:∃P,P=w.heap.size:=⟨_,rfl⟩;have HP:Hid (w.heap.size≤P):=Nat.le_of_eq hP.symm;rw[←hP] at PP;go_enter func14,ntmps14;go_wp2_with fail;simp only[←hP];generalize w.alloc (.cells #[.int .i64 0,.int .i64 0,.int .i64 0,.int .i64 0,.int .i64 0,.int .i64 0,.int .i64 0,.int .i64 0,.int .i64 0,.int .i64 0,.int .i64 0,.int .i64 0,.int .i64 0,.int .i64 0,.int .i64 0,.int .i64 0,.int .i64 0,.int .i64 0,.int .i64 0,.int .i64 0,.int .i64 0,.int .i64 0,.int .i64 0,.int .i64 0,.int .i64 0,.int .i64 0,.int .i64 0,.int .i64 0,.int .i64 0,.int .i64 0,.int .i64 0,.int .i64 0,.int .i64 0,.int .i64 0,.int .i64 0,.int .i64 0,.int .i64 0,.int .i64 0,.int .i64 0,.int .i64 0,.int .i64 0,.int .i64 0,.int .i64 0,.int .i64 0,.int .i64 0] 98)=w0 at *;have HQ:Hid (w.heap.size=P):=hP.symm;clear hP
 go_loopg [2,5] 9 (fun gg _ s5 wr=>∃kk:Nat,kk≤9∧9 - kk≤gg∧s5=.int .i64 kk∧Aside (Pu 98 9 wr P (newL kk)∧Below w.heap.size w wr))
 case atStart=>exact⟨0,jL _,by omega,rfl,PP.out,Gq.out⟩
 case round=>
  obtain⟨kk,gd,hg,rfl,HA⟩:=hrel;by_cases Hi:kk<9
  ·have Hp:(kk:Int)<9:=by omega
   have h0:(0:Int)≤(kk:Int):=by omega
   have hc:=HA.out.1.cell kk Hi 0 _ rfl;have hf:=HA.out.1.froz (kk*5);simp only[Nat.add_zero] at hc;generalize ((newL kk)[kk]!).who=x at hc;have HN:Hid (Pu 98 9 (wr.setCell ⟨P,kk*5,none⟩ (.int .i64 ((kk:Int)+1))) P (newL (kk+1))):=by
    have:=HA.out.1.put kk 0 (.int .i64 ((kk:Int)+1)) ⟨(kk:Int)+1,0,0,0,0⟩ Hi (by omega) (by rw[zDx kk kk Hi];rfl)
    rw[zMl kk Hi] at this;exact this
   have Uu:=hidU (belG HA.out.2 (grC wr P (kk*5) (.int .i64 ((kk:Int)+1))) HA.out.2.size HP.out);have HM:Hid (kk<9∧9 - kk≤gk):=⟨Hi,hg⟩;have es:=succP kk (by omega)
   have es2:wrap64 ((kk:Int)+1)=(kk:Int)+1:=zAN _ (by clear es;omega) (by clear es;omega)
   clear HA gd hg Hi es;go_wp2_with fail;go_roundg (9 - (kk+1))
   case measure=>have:=HM.out;clear es2;omega
   case rel=>exact⟨kk+1,HM.out.1,nzR _,by first|rfl|exact congrArg (Value.int .i64) es2,HN.out,Uu.out⟩
  ·obtain rfl:kk=9:=by omega
   have Hp:¬((9:Nat):Int)<9:=by omega
   have HA1:=hidU HA.out;clear HA gd hg Hi;go_wp2_with fail;go_ret;have hq:=HQ.out;subst hq;exact⟨rfl,HA1.out.1,HA1.out.2⟩
end pur
namespace mrg
open Go.RowKit mee
def Lies(w:World)(b o:Nat)(zs:List T):Prop:=∀j,j<zs.length→∀i v,(tV zs[j]!)[i]?=some v→w.cell? ⟨b,o+j*6+i,none⟩=some v
def TL(w:World)(v:Value)(zs:List T):Prop:=
 (v=.slice none 0 0∧zs=[])∨∃b o c,v=.slice (some ⟨b,o,none⟩) zs.length c∧zs.length≤c∧c≤9223372036854775807∧b<w.heap.size∧Lies w b o zs
theorem Lies.below{w w' : World}{b o:Nat}{zs:List T}(h:Lies w b o zs)(hb:b<w.heap.size)(hB:Bw w w'):Lies w' b o zs:=
 fun j hj i v hv=>(hB.cell (p:=⟨b,o+j*6+i,none⟩) hb).trans (h j hj i v hv)
theorem TL.below{w w' : World}{v:Value}{zs:List T}(h:TL w v zs)(hB:Bw w w'):TL w' v zs:=by
 rcases h with h|⟨b,o,c,h1,h2,h3,h4,h5⟩
 ·exact .inl h
 ·exact .inr ⟨b,o,c,h1,h2,h3,jC h4 hB.size,h5.below h4 hB⟩
theorem getE{α:Type}[Inhabited α](l:List α)(j:Nat)(h:j<l.length):l[j]! = l[j]:=by simp[h]
theorem TL.form{w:World}{v:Value}{zs:List T}(h:TL w v zs):∃q c,v=.slice q zs.length c∧zs.length≤9223372036854775807:=by
 rcases h with ⟨h1,h2⟩|⟨b,o,c,h1,h2,h3,h4,h5⟩
 ·subst h2;exact⟨none,0,h1,by simp⟩
 ·exact⟨some ⟨b,o,none⟩,c,h1,by omega⟩
theorem TL.at{w:World}{q:Option Addr}{n c:Nat}{zs:List T}(h:TL w (.slice q n c) zs){k:Nat}(hk:k<zs.length):∃g off,q=some ⟨g,off,none⟩∧g<w.heap.size∧∀i v,(tV zs[k]!)[i]?=some v→w.cell? ⟨g,off+k*6+i,none⟩=some v:=by
 rcases h with ⟨h1,h2⟩|⟨b,o,c,h1,h2,h3,h4,h5⟩
 ·subst h2;simp at hk
 ·cases h1;exact⟨b,o,rfl,h4,h5 k hk⟩
end mrg
namespace mrg
open Go.RowKit mee
open spn (zAa bcell zAl zBc zAY zAK zAt zAP scheck1 scheck2 zAd)
open ord (O oV chk errV wAa wAb wAf mB mE zAy bal prB)
theorem hidM{P:Prop}(h:P):Hid P:=h
def resv(o:O):Int:=if o.kind=2 then 10000 else o.price
def putC(s p q:Int):Int:=if s=1 then wrap64 (p*q) else 0
def putS(s q:Int):Int:=if s=1 then 0 else q
theorem zGY(s p q:Int)(w:World):Calls prog 85 #[.int .i64 s,.int .i64 p,.int .i64 q] w fun e w'=>e=.returned (.tuple #[.int .i64 (putC s p q),.int .i64 (putS s q)])∧w'=w:=by
 by_cases h:s=1
 ·subst h;have e1:putC 1 p q=wrap64 (p*q):=if_pos rfl;have e2:putS 1 q=0:=if_pos rfl;rw[e1,e2];clear e1 e2;go_enter func85,ntmps85
  go_wp2
  go_ret2
  exact⟨rfl,rfl⟩
 ·have h1:(s == 1)=false:=by simp[h]
  have e1:putC s p q=0:=if_neg h;have e2:putS s q=q:=if_neg h;rw[e1,e2];clear e1 e2;go_enter func85,ntmps85
  go_wp2
  go_ret2
  exact⟨rfl,rfl⟩
theorem zGZ(a b c d p q s t:Int)(w:World):Calls prog 86 #[.agg #[.int .i64 a,.int .i64 b,.int .i64 c,.int .i64 d,.int .i64 p,.int .i64 q,.int .i64 s,.int .i64 t]] w fun e w'=>e=.returned (.int .i64 (resv ⟨a,b,c,d,p,q,s,t⟩))∧Bw w w':=by
 by_cases h:d=2
 ·have e1:resv ⟨a,b,c,d,p,q,s,t⟩=10000:=if_pos h;rw[e1];subst h;go_enter func86,ntmps86
  go_wp2
  go_ret;exact⟨rfl,(bzR _ _).alloc (nzR _) _⟩
 ·have h1:(d == 2)=false:=by simp[h]
  have e1:resv ⟨a,b,c,d,p,q,s,t⟩=p:=if_neg h;rw[e1];clear e1;go_enter func86,ntmps86
  go_wp2
  go_ret;exact⟨rfl,(bzR _ _).alloc (nzR _) _⟩
theorem zFl(V:World)(a b c d p q s t:Int)(w:World)(h:Bw V w):Calls prog 86 #[.agg #[.int .i64 a,.int .i64 b,.int .i64 c,.int .i64 d,.int .i64 p,.int .i64 q,.int .i64 s,.int .i64 t]] w fun e w'=>e=.returned (.int .i64 (resv ⟨a,b,c,d,p,q,s,t⟩))∧Bw V w':=
 (zGZ a b c d p q s t w).mono fun _ _ h'=>⟨h'.1,h.trans (h'.2.mono h.size)⟩
theorem zMm(V:World)(s p q:Int)(w:World)(h:Bw V w):Calls prog 85 #[.int .i64 s,.int .i64 p,.int .i64 q] w fun e w'=>e=.returned (.tuple #[.int .i64 (putC s p q),.int .i64 (putS s q)])∧Bw V w':=
 (zGY s p q w).mono fun _ _ h'=>⟨h'.1,h'.2 ▸ h⟩
def forC(o:O):Int:=if chk o=0 then putC o.side (resv o) o.qty else 0
def forS(o:O):Int:=if chk o=0 then putS o.side o.qty else 0
theorem zOZ(a b c d p q s t:Int)(w:World) :
  Calls prog 54 #[.agg #[.int .i64 a,.int .i64 b,.int .i64 c,.int .i64 d,.int .i64 p,.int .i64 q,.int .i64 s,.int .i64 t]] w fun e w'=>e=.returned (.tuple #[.int .i64 (forC ⟨a,b,c,d,p,q,s,t⟩),.int .i64 (forS ⟨a,b,c,d,p,q,s,t⟩),errV (chk ⟨a,b,c,d,p,q,s,t⟩)])∧Bw w w':=by
 have GE:Hid (∀W,Calls prog 79 #[.agg #[.int .i64 a,.int .i64 b,.int .i64 c,.int .i64 d,.int .i64 p,.int .i64 q,.int .i64 s,.int .i64 t]] W fun e w'=>e=.returned (errV (chk ⟨a,b,c,d,p,q,s,t⟩))∧Bw W w'):=fun W=>wAf ⟨a,b,c,d,p,q,s,t⟩ W
 by_cases h0:chk ⟨a,b,c,d,p,q,s,t⟩=0
 rotate_left
 ·have e1:forC ⟨a,b,c,d,p,q,s,t⟩=0:=if_neg h0;have e2:forS ⟨a,b,c,d,p,q,s,t⟩=0:=if_neg h0;rw[e1,e2,wAb h0];rw[wAb h0] at GE;clear e1 e2;generalize chk ⟨a,b,c,d,p,q,s,t⟩=k at *;go_enter func54,ntmps54;go_wp2_with fail;refine(GE.out _).mono ?_;rintro e w1⟨rfl,hb⟩;have hW:Bw w w1:=((bzR _ _).alloc (nzR _) _).trans (hb.mono (by simp))
  go_wp2_with fail
  go_ret3
  exact⟨rfl,hW⟩
 have e1:forC ⟨a,b,c,d,p,q,s,t⟩=putC c (resv ⟨a,b,c,d,p,q,s,t⟩) q:=if_pos h0;have e2:forS ⟨a,b,c,d,p,q,s,t⟩=putS c q:=if_pos h0;rw[e1,e2,h0,wAa];rw[h0,wAa] at GE;clear e1 e2 h0;have de:Hid (∀V W,Bw V W→Calls prog 86 #[.agg #[.int .i64 a,.int .i64 b,.int .i64 c,.int .i64 d,.int .i64 p,.int .i64 q,.int .i64 s,.int .i64 t]] W fun e w'=>e=.returned (.int .i64 (resv ⟨a,b,c,d,p,q,s,t⟩))∧Bw V w'):=fun V W h=>zFl V a b c d p q s t W h
 generalize resv ⟨a,b,c,d,p,q,s,t⟩=rv at *;go_enter func54,ntmps54;go_wp2_with fail;refine(GE.out _).mono ?_;rintro e w1⟨rfl,hb⟩;have hW:Bw w w1:=((bzR _ _).alloc (nzR _) _).trans (hb.mono (by simp))
 have d0:w1.cell? ⟨w.heap.size,0,none⟩=some (.int .i64 a):=zAa hb (by simp)
 have d1:w1.cell? ⟨w.heap.size,1,none⟩=some (.int .i64 b):=zAa hb (by simp)
 have d2:w1.cell? ⟨w.heap.size,2,none⟩=some (.int .i64 c):=zAa hb (by simp)
 have d3:w1.cell? ⟨w.heap.size,3,none⟩=some (.int .i64 d):=zAa hb (by simp)
 have d4:w1.cell? ⟨w.heap.size,4,none⟩=some (.int .i64 p):=zAa hb (by simp)
 have d5:w1.cell? ⟨w.heap.size,5,none⟩=some (.int .i64 q):=zAa hb (by simp)
 have d6:w1.cell? ⟨w.heap.size,6,none⟩=some (.int .i64 s):=zAa hb (by simp)
 have d7:w1.cell? ⟨w.heap.size,7,none⟩=some (.int .i64 t):=zAa hb (by simp)
 clear hb;have SO:Hid (∀W,Bw w1 W→(Bw w1 W∧W.cell? ⟨w.heap.size,0,none⟩=some (.int .i64 a)∧W.cell? ⟨w.heap.size,1,none⟩=some (.int .i64 b)∧W.cell? ⟨w.heap.size,2,none⟩=some (.int .i64 c)∧W.cell? ⟨w.heap.size,3,none⟩=some (.int .i64 d)∧W.cell? ⟨w.heap.size,4,none⟩=some (.int .i64 p)∧W.cell? ⟨w.heap.size,5,none⟩=some (.int .i64 q)∧W.cell? ⟨w.heap.size,6,none⟩=some (.int .i64 s)∧W.cell? ⟨w.heap.size,7,none⟩=some (.int .i64 t))):=fun W hW=>⟨hW,zAa hW d0,zAa hW d1,zAa hW d2,zAa hW d3,zAa hW d4,zAa hW d5,zAa hW d6,zAa hW d7⟩
 go_upto_region 4 with fail
 go_region_held3 (fun W=>Below w1.heap.size w1 W∧W.cell? ⟨w.heap.size,0,none⟩=some (.int .i64 a)∧W.cell? ⟨w.heap.size,1,none⟩=some (.int .i64 b)∧W.cell? ⟨w.heap.size,2,none⟩=some (.int .i64 c)∧W.cell? ⟨w.heap.size,3,none⟩=some (.int .i64 d)∧W.cell? ⟨w.heap.size,4,none⟩=some (.int .i64 p)∧W.cell? ⟨w.heap.size,5,none⟩=some (.int .i64 q)∧W.cell? ⟨w.heap.size,6,none⟩=some (.int .i64 s)∧W.cell? ⟨w.heap.size,7,none⟩=some (.int .i64 t))
  ((refine SO.out _ ?_;(with_reducible repeat' (first|assumption|refine bal ?_ _|refine Below.drew ?_|exact bzR _ _|exact nzR _|exact Below.size (by assumption)|refine jD ?_))))
  (first|(go_at_call 86;refine(de.out w1 _ ?_).mono ?_;(with_reducible repeat' (first|assumption|refine bal ?_ _|refine Below.drew ?_|exact bzR _ _|exact nzR _|exact Below.size (by assumption)|refine jD ?_));rintro x W ⟨rfl,Hm⟩)|(go_at_call 85;refine(zMm w1 _ _ _ _ ?_).mono ?_;(with_reducible repeat' (first|assumption|refine bal ?_ _|refine Below.drew ?_|exact bzR _ _|exact nzR _|exact Below.size (by assumption)|refine jD ?_));rintro x W2 ⟨rfl,Hm⟩))
 all_goals
  have gb:Bw w W2:=hW.trans (Hm.mono hW.size);clear SO d0 d1 d2 d3 d4 d5 d6 d7;go_wp2_with fail
  go_ret3
  exact⟨rfl,gb⟩
theorem zFU(o:O)(w:World) :
  Calls prog 54 #[oV o] w fun e w'=>e=.returned (.tuple #[.int .i64 (forC o),.int .i64 (forS o),errV (chk o)])∧Bw w w':=by
 obtain⟨a,b,c,d,p,q,s,t⟩:=o;exact zOZ a b c d p q s t w
theorem zRd(a b c d p q s t t1 t2 t3 t4 t5 t6:Int)(w:World)(k:Int)(hm:∀W,Calls prog 108 #[.agg #[.int .i64 a,.int .i64 b,.int .i64 c,.int .i64 d,.int .i64 p,.int .i64 q,.int .i64 s,.int .i64 t],.int .i64 t5] W fun e w'=>e=.returned (.tuple #[.bool false,.iface 90 (.int .i64 k)])∧Bw W w') :
  Calls prog 130 #[.agg #[.int .i64 a,.int .i64 b,.int .i64 c,.int .i64 d,.int .i64 p,.int .i64 q,.int .i64 s,.int .i64 t],.agg #[.int .i64 t1,.int .i64 t2,.int .i64 t3,.int .i64 t4,.int .i64 t5,.int .i64 t6]] w fun e w'=>e=.returned (.iface 90 (.int .i64 k))∧Bw w w':=by
 have HM:=hidM hm;clear hm;go_enter func130,ntmps130;go_wp2_with fail;refine(HM.out _).mono ?_;rintro e w1⟨rfl,hb⟩;have hW:Bw w w1:=(((bzR _ _).alloc (nzR _) _).alloc (by simp) _).trans (hb.mono (by simp;omega))
 go_wp2_with fail;go_ret;exact⟨rfl,hW⟩
theorem zRe(a b c d p q s t t1 t2 t3 t4 t5 t6:Int)(w:World)(m:Bool)(hm:∀W,Calls prog 108 #[.agg #[.int .i64 a,.int .i64 b,.int .i64 c,.int .i64 d,.int .i64 p,.int .i64 q,.int .i64 s,.int .i64 t],.int .i64 t5] W fun e w'=>e=.returned (.tuple #[.bool m,.nilIface])∧Bw W w')(hq:[(t6,1,10000)].any zAl=true) :
  Calls prog 130 #[.agg #[.int .i64 a,.int .i64 b,.int .i64 c,.int .i64 d,.int .i64 p,.int .i64 q,.int .i64 s,.int .i64 t],.agg #[.int .i64 t1,.int .i64 t2,.int .i64 t3,.int .i64 t4,.int .i64 t5,.int .i64 t6]] w fun e w'=>e=.returned (.iface 90 (.int .i64 1))∧Bw w w':=by
 have HM:=hidM hm;have HQ:=hidM hq;clear hm hq;go_enter func130,ntmps130;go_wp2_with fail;refine(HM.out _).mono ?_;rintro e w1⟨rfl,hb⟩;have hW:Bw w w1:=(((bzR _ _).alloc (nzR _) _).alloc (by simp) _).trans (hb.mono (by simp;omega))
 have d0:w1.cell? ⟨w.heap.size,0,none⟩=some (.int .i64 a):=zAa hb (by simp)
 have d1:w1.cell? ⟨w.heap.size+1,1,none⟩=some (.int .i64 t2):=zAa hb (by simp)
 have d5:w1.cell? ⟨w.heap.size+1,5,none⟩=some (.int .i64 t6):=zAa hb (by simp)
 clear hb;go_wp2_with fail;refine(zAK t6 _).mono ?_;rintro x w2⟨rfl,Ha⟩;have gb:=hW.trans (Ha.mono hW.size);have c0:=zAa Ha d0;have c1:=zAa Ha d1;clear Ha d0 d1 d5;go_wp2_with fail;refine(scheck1 true _ _ _ _ _ rfl HQ.out).mono ?_;rintro x w3⟨rfl,Hr⟩;have gQ:=gb.trans (Hr.mono gb.size);have d0:=zAa Hr c0;have d1:=zAa Hr c1;clear Hr c0 c1;simp only[show spn.errV (zAd true)=.iface 90 (.int .i64 1) from rfl]
 go_wp2_with fail;go_ret;exact⟨rfl,gQ⟩
theorem zMn(a b c d p q s t t1 t2 t3 t4 t5 t6:Int)(w:World)(m:Bool)(hm:∀W,Calls prog 108 #[.agg #[.int .i64 a,.int .i64 b,.int .i64 c,.int .i64 d,.int .i64 p,.int .i64 q,.int .i64 s,.int .i64 t],.int .i64 t5] W fun e w'=>e=.returned (.tuple #[.bool m,.nilIface])∧Bw W w')(hq:[(t6,1,10000)].any zAl=false)(hk:(t2 != a)=true) :
  Calls prog 130 #[.agg #[.int .i64 a,.int .i64 b,.int .i64 c,.int .i64 d,.int .i64 p,.int .i64 q,.int .i64 s,.int .i64 t],.agg #[.int .i64 t1,.int .i64 t2,.int .i64 t3,.int .i64 t4,.int .i64 t5,.int .i64 t6]] w fun e w'=>e=.returned (.iface 90 (.int .i64 3))∧Bw w w':=by
 have HM:=hidM hm;have HQ:=hidM hq;clear hm hq;go_enter func130,ntmps130;go_wp2_with fail;refine(HM.out _).mono ?_;rintro e w1⟨rfl,hb⟩;have hW:Bw w w1:=(((bzR _ _).alloc (nzR _) _).alloc (by simp) _).trans (hb.mono (by simp;omega))
 have d0:w1.cell? ⟨w.heap.size,0,none⟩=some (.int .i64 a):=zAa hb (by simp)
 have d1:w1.cell? ⟨w.heap.size+1,1,none⟩=some (.int .i64 t2):=zAa hb (by simp)
 have d5:w1.cell? ⟨w.heap.size+1,5,none⟩=some (.int .i64 t6):=zAa hb (by simp)
 clear hb;go_wp2_with fail;refine(zAK t6 _).mono ?_;rintro x w2⟨rfl,Ha⟩;have gb:=hW.trans (Ha.mono hW.size);have c0:=zAa Ha d0;have c1:=zAa Ha d1;clear Ha d0 d1 d5;go_wp2_with fail;refine(scheck1 false _ _ _ _ _ rfl HQ.out).mono ?_;rintro x w3⟨rfl,Hr⟩;have gQ:=gb.trans (Hr.mono gb.size);have d0:=zAa Hr c0;have d1:=zAa Hr c1;clear Hr c0 c1;simp only[show spn.errV (zAd false)=.nilIface from rfl]
 go_wp2_with fail;go_ret;exact⟨rfl,gQ⟩
theorem zPa(a b c d p q s t t1 t2 t3 t4 t5 t6:Int)(w:World)(m:Bool)(hm:∀W,Calls prog 108 #[.agg #[.int .i64 a,.int .i64 b,.int .i64 c,.int .i64 d,.int .i64 p,.int .i64 q,.int .i64 s,.int .i64 t],.int .i64 t5] W fun e w'=>e=.returned (.tuple #[.bool m,.nilIface])∧Bw W w')(hq:[(t6,1,10000)].any zAl=false)(hk:(t2 != a)=false)(mz:m=false) :
  Calls prog 130 #[.agg #[.int .i64 a,.int .i64 b,.int .i64 c,.int .i64 d,.int .i64 p,.int .i64 q,.int .i64 s,.int .i64 t],.agg #[.int .i64 t1,.int .i64 t2,.int .i64 t3,.int .i64 t4,.int .i64 t5,.int .i64 t6]] w fun e w'=>e=.returned (.iface 90 (.int .i64 3))∧Bw w w':=by
 subst mz;have HM:=hidM hm;have HQ:=hidM hq;clear hm hq;go_enter func130,ntmps130;go_wp2_with fail;refine(HM.out _).mono ?_;rintro e w1⟨rfl,hb⟩;have hW:Bw w w1:=(((bzR _ _).alloc (nzR _) _).alloc (by simp) _).trans (hb.mono (by simp;omega))
 have d0:w1.cell? ⟨w.heap.size,0,none⟩=some (.int .i64 a):=zAa hb (by simp)
 have d1:w1.cell? ⟨w.heap.size+1,1,none⟩=some (.int .i64 t2):=zAa hb (by simp)
 have d5:w1.cell? ⟨w.heap.size+1,5,none⟩=some (.int .i64 t6):=zAa hb (by simp)
 clear hb;go_wp2_with fail;refine(zAK t6 _).mono ?_;rintro x w2⟨rfl,Ha⟩;have gb:=hW.trans (Ha.mono hW.size);have c0:=zAa Ha d0;have c1:=zAa Ha d1;clear Ha d0 d1 d5;go_wp2_with fail;refine(scheck1 false _ _ _ _ _ rfl HQ.out).mono ?_;rintro x w3⟨rfl,Hr⟩;have gQ:=gb.trans (Hr.mono gb.size);have d0:=zAa Hr c0;have d1:=zAa Hr c1;clear Hr c0 c1;simp only[show spn.errV (zAd false)=.nilIface from rfl]
 go_wp2_with fail;go_ret;exact⟨rfl,gQ⟩
theorem zPb(a b c d p q s t t1 t2 t3 t4 t5 t6:Int)(w:World)(m:Bool)(hm:∀W,Calls prog 108 #[.agg #[.int .i64 a,.int .i64 b,.int .i64 c,.int .i64 d,.int .i64 p,.int .i64 q,.int .i64 s,.int .i64 t],.int .i64 t5] W fun e w'=>e=.returned (.tuple #[.bool m,.nilIface])∧Bw W w')(hq:[(t6,1,10000)].any zAl=false)(hk:(t2 != a)=false)(mz:m=true) :
  Calls prog 130 #[.agg #[.int .i64 a,.int .i64 b,.int .i64 c,.int .i64 d,.int .i64 p,.int .i64 q,.int .i64 s,.int .i64 t],.agg #[.int .i64 t1,.int .i64 t2,.int .i64 t3,.int .i64 t4,.int .i64 t5,.int .i64 t6]] w fun e w'=>e=.returned (.nilIface)∧Bw w w':=by
 subst mz;have HM:=hidM hm;have HQ:=hidM hq;clear hm hq;go_enter func130,ntmps130;go_wp2_with fail;refine(HM.out _).mono ?_;rintro e w1⟨rfl,hb⟩;have hW:Bw w w1:=(((bzR _ _).alloc (nzR _) _).alloc (by simp) _).trans (hb.mono (by simp;omega))
 have d0:w1.cell? ⟨w.heap.size,0,none⟩=some (.int .i64 a):=zAa hb (by simp)
 have d1:w1.cell? ⟨w.heap.size+1,1,none⟩=some (.int .i64 t2):=zAa hb (by simp)
 have d5:w1.cell? ⟨w.heap.size+1,5,none⟩=some (.int .i64 t6):=zAa hb (by simp)
 clear hb;go_wp2_with fail;refine(zAK t6 _).mono ?_;rintro x w2⟨rfl,Ha⟩;have gb:=hW.trans (Ha.mono hW.size);have c0:=zAa Ha d0;have c1:=zAa Ha d1;clear Ha d0 d1 d5;go_wp2_with fail;refine(scheck1 false _ _ _ _ _ rfl HQ.out).mono ?_;rintro x w3⟨rfl,Hr⟩;have gQ:=gb.trans (Hr.mono gb.size);have d0:=zAa Hr c0;have d1:=zAa Hr c1;clear Hr c0 c1;simp only[show spn.errV (zAd false)=.nilIface from rfl]
 go_wp2_with fail;go_ret;exact⟨rfl,gQ⟩
def qtB(n:Int):Bool:=decide (1≤n) && decide (n≤10000)
def ctE(o:O)(x:T):Int:=if prB x.price && qtB x.qty then (if x.taker=o.id∧mB o x.price=true then 0 else 3) else 1
theorem wBk(n:Int):[(n,1,10000)].any zAl = !qtB n:=by
 rw[Bool.eq_iff_iff];simp[zAl,qtB]
theorem zRf(o:O)(x:T)(w:World)(h:chk o=0) :
  Calls prog 130 #[oV o,.agg (tV x).toArray] w fun e w'=>e=.returned (errV (ctE o x))∧Bw w w':=by
 have hm:=fun W=>zAy o x.price W
 have hq:=wBk x.qty;obtain⟨a,b,c,d,p,q,s,t⟩:=o;obtain⟨t1,t2,t3,t4,t5,t6⟩:=x;unfold ctE;simp only;simp only at hm hq;unfold mE at hm;rw[if_pos h] at hm;generalize mB ⟨a,b,c,d,p,q,s,t⟩ t5=m at *;cases hp:prB t5
 ·rw[hp] at hm;exact zRd a b c d p q s t t1 t2 t3 t4 t5 t6 w 1 hm
 ·rw[hp] at hm;simp only[if_true] at hm;cases CR:qtB t6
  ·rw[CR] at hq;exact zRe a b c d p q s t t1 t2 t3 t4 t5 t6 w m hm hq
  ·rw[CR] at hq;simp only[Bool.and_self,if_true];by_cases hk:t2=a
   ·cases m
    ·rw[if_neg (by simp)]
     exact zPa a b c d p q s t t1 t2 t3 t4 t5 t6 w false hm hq (by simp[hk]) rfl
    ·rw[if_pos ⟨hk,rfl⟩];exact zPb a b c d p q s t t1 t2 t3 t4 t5 t6 w true hm hq (by simp[hk]) rfl
   ·rw[if_neg (fun h=>hk h.1)]
    exact zMn a b c d p q s t t1 t2 t3 t4 t5 t6 w m hm hq (by simp[hk])
end mrg
end Go.Proofs.YtnfilcpnneckkaaGreat
