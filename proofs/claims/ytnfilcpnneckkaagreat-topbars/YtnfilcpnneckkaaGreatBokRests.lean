import Derived.Test.YtnfilcpnneckkaaGreatQueFil
import Derived.Deep.QuietTactic
set_option maxHeartbeats 2000000
set_option maxRecDepth 100000
namespace Go.Proofs.YtnfilcpnneckkaaGreat
open Tryz
namespace bok
open Go.RowKit spn que sid
def zCe:List L→Int
 | []=>0
 | l::_=>l.price
theorem zIq(q:Option Addr)(c:Nat)(w:World) :
  Calls prog 142 #[.slice q 0 c] w fun e w'=>e=.returned (.int .i64 0)∧w'=w:=by
 go_enter func142,ntmps142
 go_wp2
 go_ret;exact⟨rfl,rfl⟩
theorem zLi(b o n c:Nat)(p:Int)(w:World)(hn:0<n)(h0:w.cell? ⟨b,o,none⟩=some (.int .i64 p)) :
  Calls prog 142 #[.slice (some ⟨b,o,none⟩) n c] w fun e w'=>e=.returned (.int .i64 p)∧w'=w:=by
 have h1:¬n=0:=by omega
 have h2:(0:Int)<(n:Int):=by omega
 have h3:¬(n:Int)=0:=by omega
 go_enter func142,ntmps142
 go_wp2
 go_ret;exact⟨rfl,rfl⟩
theorem zNV{w:World}{b o:Nat}{l:L}{t:List L}(h:LL w b o (l::t)):w.cell? ⟨b,o,none⟩=some (.int .i64 l.price):=by
 have:=(h 0 (by simp)).1
 simpa using this
theorem zNW(v:Value)(ls:List L)(w:World)(h:LS w v ls) :
  Calls prog 142 #[v] w fun e w'=>e=.returned (.int .i64 (zCe ls))∧w'=w:=by
 rcases h with ⟨rfl,rfl⟩|⟨b,o,c,rfl,h2,h3,h4,h5⟩
 ·exact zIq none 0 w
 ·cases ls with
  | nil=>exact zIq _ c w
  | cons l t=>exact zLi b o _ c l.price w (by simp) (zNV h5)
theorem zPU(V:World)(v:Value)(ls:List L)(w:World)(h:LS w v ls)(hV:Bw V w) :
  Calls prog 142 #[v] w fun e w'=>e=.returned (.int .i64 (zCe ls))∧Bw V w':=
 (zNW v ls w h).mono fun e w' hh=>⟨hh.1,by rw[hh.2];exact hV⟩
theorem zAx(s:Int)(q1 q2:Option Addr)(n1 n2 c1 c2:Nat)(w:World) :
  Calls prog 82 #[.agg #[.slice q1 n1 c1,.slice q2 n2 c2],.int .i64 s] w fun e w'=>e=.returned (if s=1 then .slice q1 n1 c1 else .slice q2 n2 c2)∧Bw w w':=by
 by_cases hs:s=1
 ·rw[if_pos hs];subst hs;go_enter func82,ntmps82
  go_wp2
  go_ret;exact⟨rfl,(bzR _ _).alloc (nzR _) _⟩
 ·rw[if_neg hs];have h1:(s == 1)=false:=by simpa using hs
  go_enter func82,ntmps82
  go_wp2
  go_ret;exact⟨rfl,(bzR _ _).alloc (nzR _) _⟩
def zBv(bs ss:List L):Bool:=!bs.isEmpty && (!ss.isEmpty && decide (zCe ss≤zCe bs))
theorem zHJ(q1 q2:Option Addr)(n1 n2 c1 c2:Nat)(bs ss:List L)(w:World)(h1:LS w (.slice q1 n1 c1) bs)(h2:LS w (.slice q2 n2 c2) ss) :
  Calls prog 118 #[.agg #[.slice q1 n1 c1,.slice q2 n2 c2]] w fun e w'=>e=.returned (.bool (zBv bs ss))∧Bw w w':=by
 have U9:n1=bs.length:=by
  rcases h1 with ⟨e,e2⟩|⟨b,o,c,e,-⟩
  ·cases e;rw[e2];rfl
  ·cases e;rfl
 have uM:n2=ss.length:=by
  rcases h2 with ⟨e,e2⟩|⟨b,o,c,e,-⟩
  ·cases e;rw[e2];rfl
  ·cases e;rfl
 have hB:Bw w (w.alloc (.cells #[.slice q1 n1 c1,.slice q2 n2 c2] 57)):=(bzR _ _).alloc (nzR _) _;by_cases e1:bs=[]
 ·have ec:zBv bs ss=false:=by rw[e1];rfl
  rw[ec];have hn1:n1=0:=by rw[U9,e1];rfl
  subst hn1;clear U9 uM h1 h2 ec e1;go_enter func118,ntmps118;go_upto_region 1 with fail
  go_quiet (fail)
  go_wp2_with fail;go_ret;exact⟨rfl,zEb hB _⟩
 ·have hn1:0<n1:=by rw[U9];exact List.length_pos_iff.2 e1
  have b1:bs.isEmpty=false:=by simpa using e1
  by_cases e2:ss=[]
  ·have ec:zBv bs ss=false:=by unfold zBv;rw[e2];simp
   rw[ec];have BV:n2=0:=by rw[uM,e2];rfl
   subst BV;have d1:decide ((0:Int)<(n1:Int))=true:=by simp;omega
   have d2:decide (0<n1)=true:=by simp;omega
   have d3:(0:Int)<(n1:Int):=by omega
   clear U9 uM h1 h2 ec e1 e2 b1;go_enter func118,ntmps118;go_upto_region 1 with fail
   go_quiet (fail)
   go_wp2_with fail;go_ret;exact⟨rfl,zEb hB _⟩
  ·have BV:0<n2:=by rw[uM];exact List.length_pos_iff.2 e2
   have b2:ss.isEmpty=false:=by simpa using e2
   have ec:zBv bs ss=decide (zCe ss≤zCe bs):=by unfold zBv;rw[b1,b2];simp
   rw[ec];have d1:decide ((0:Int)<(n1:Int))=true:=by simp;omega
   have d2:decide (0<n1)=true:=by simp;omega
   have d3:(0:Int)<(n1:Int):=by omega
   have d4:decide ((0:Int)<(n2:Int))=true:=by simp;omega
   have d5:decide (0<n2)=true:=by simp;omega
   have d6:(0:Int)<(n2:Int):=by omega
   have H1:Hid (∀W,Bw w W→LS W (.slice q1 n1 c1) bs):=fun W hW=>h1.below hW
   have H2:Hid (∀W,Bw w W→LS W (.slice q2 n2 c2) ss):=fun W hW=>h2.below hW
   obtain⟨x,hx⟩:∃x,x=zCe bs:=⟨_,rfl⟩;obtain⟨y,hy⟩:∃y,y=zCe ss:=⟨_,rfl⟩;rw[←hx,←hy];have Cg:Hid (x=zCe bs∧y=zCe ss):=⟨hx,hy⟩;clear hx hy;have hR:=jA w (.cells #[.slice q1 n1 c1,.slice q2 n2 c2] 57);clear U9 uM h1 h2 ec e1 e2 b1 b2;go_enter func118,ntmps118;go_upto_region 1 with fail
   generalize w.alloc (.cells #[.slice q1 n1 c1,.slice q2 n2 c2] 57)=V at *;have v0:V.cell? ⟨w.heap.size,0,none⟩=some (.slice q1 n1 c1):=by simp[World.cell?,hR]
   have v1:V.cell? ⟨w.heap.size,1,none⟩=some (.slice q2 n2 c2):=by simp[World.cell?,hR]
   clear hR;have SO:Hid (∀W,Bw V W→(Bw V W∧W.cell? ⟨w.heap.size,0,none⟩=some (.slice q1 n1 c1)∧W.cell? ⟨w.heap.size,1,none⟩=some (.slice q2 n2 c2))):=fun W hW=>⟨hW,zAa hW v0,zAa hW v1⟩
   have H3:Hid (∀W,Bw V W→Calls prog 142 #[.slice q1 n1 c1] W fun e w'=>e=.returned (.int .i64 x)∧Bw V w'):=fun W hW=>by rw[Cg.out.1];exact zPU V _ bs W (H1.out W (hB.trans (hW.mono hB.size))) hW
   have H4:Hid (∀W,Bw V W→Calls prog 142 #[.slice q2 n2 c2] W fun e w'=>e=.returned (.int .i64 y)∧Bw V w'):=fun W hW=>by rw[Cg.out.2];exact zPU V _ ss W (H2.out W (hB.trans (hW.mono hB.size))) hW
   clear H1 H2;go_region_held3 (fun W=>Below V.heap.size V W∧W.cell? ⟨w.heap.size,0,none⟩=some (.slice q1 n1 c1)∧W.cell? ⟨w.heap.size,1,none⟩=some (.slice q2 n2 c2))
    ((refine SO.out _ ?_;(with_reducible repeat' (first|assumption|refine bal ?_ _|refine Below.setCell ?_ ?_ _|refine Below.drew ?_|exact bzR _ _|exact nzR _|exact Below.size (by assumption)|refine jD ?_))))
    (first|(go_at_call 142;with_reducible refine(H3.out _ ?_).mono ?_;(with_reducible repeat' (first|assumption|refine bal ?_ _|refine Below.setCell ?_ ?_ _|refine Below.drew ?_|exact bzR _ _|exact nzR _|exact Below.size (by assumption)|refine jD ?_));rintro x W ⟨rfl,Hm⟩)|(go_at_call 142;with_reducible refine(H4.out _ ?_).mono ?_;(with_reducible repeat' (first|assumption|refine bal ?_ _|refine Below.setCell ?_ ?_ _|refine Below.drew ?_|exact bzR _ _|exact nzR _|exact Below.size (by assumption)|refine jD ?_));rintro x W ⟨rfl,Hm⟩))
   all_goals
    go_wp2_with fail;go_ret;exact⟨rfl,hB.trans (Below.mono (by assumption) hB.size)⟩
theorem zEi{w:World}{q:Option Addr}{n c:Nat}{ls:List L}(h:LS w (.slice q n c) ls):n=ls.length:=by
 rcases h with ⟨e,e2⟩|⟨b,o,c,e,-⟩
 ·cases e;rw[e2];rfl
 ·cases e;rfl
theorem ls_at{w:World}{q:Option Addr}{n c:Nat}{ls:List L}(h:LS w (.slice q n c) ls)(H8:∀l∈ls,l.rests≠[]){kk:Nat}(hk:kk<ls.length):∃b o rb ro rc,q=some ⟨b,o,none⟩∧b<w.heap.size∧w.cell? ⟨b,o+kk*2,none⟩=some (.int .i64 ls[kk]!.price)∧w.cell? ⟨b,o+kk*2+1,none⟩=some (.slice (some ⟨rb,ro,none⟩) ls[kk]!.rests.length rc)∧rb<w.heap.size∧Lies w rb ro ls[kk]!.rests:=by
 rcases h with ⟨-,e⟩|⟨b,o,c',e,-,-,hb,hl⟩
 ·rw[e] at hk;simp at hk
 ·cases e;obtain⟨h0,v,h1,hs⟩:=hl kk hk;have hm:ls[kk]!∈ls:=by rw[getE _ _ hk];exact jT hk
  have hz:=H8 _ hm;obtain⟨q,rc,hv⟩:=zFv hs;subst hv;obtain⟨rb,ro,hq,-,B7,dJ⟩:=zFx (j:=0) hs (Nat.pos_of_ne_zero fun e=>hz (List.length_eq_zero_iff.1 e))
  subst hq;exact⟨b,o,rb,ro,rc,rfl,hb,h0,h1,B7,dJ⟩
theorem zGE{ls:List L}(h:cnt ls≤60)(k:Nat):(allR (ls.take k)).length≤60:=by
 have h1:cnt ls=cnt (ls.take k)+cnt (ls.drop k):=by rw[←zEZ,jR]
 have h2:0≤cnt (ls.drop k):=by rw[zAQ];omega
 have h3:=zAQ (ls.take k);omega
theorem zFd{ls:List L}(h:∀l∈ls,l.rests≠[]):(ls.length:Int)≤cnt ls:=by
 induction ls with
 | nil=>simp[cnt]
 | cons x t ih=>
  have h1:=ih (fun l hl=>h l (by simp[hl]))
  have h2:x.rests.length≠0:=fun e=>h x (by simp) (List.length_eq_zero_iff.1 e)
  unfold cnt;rw[jG];omega
theorem zLj(q1 q2:Option Addr)(n1 n2 c1 c2:Nat)(bs ss:List L)(w:World)(h1:LS w (.slice q1 n1 c1) bs)(h2:LS w (.slice q2 n2 c2) ss)(CN:∀l∈bs,l.rests≠[])(MP:∀l∈ss,l.rests≠[])(Gn:cnt bs≤60)(mT:cnt ss≤60) :
  Calls prog 119 #[.agg #[.slice q1 n1 c1,.slice q2 n2 c2]] w fun e w'=>∃v,e=.returned v∧OwnQ w' w.heap.size v (allR bs++allR ss)∧Bw w w':=by
 obtain⟨i0,hi,gE,gu,gA⟩:=infoR';have HI:Hid (prog.info? 51=some i0):=hi;have DB:Hid (n1=bs.length):=zEi h1;have Ug:Hid (n2=ss.length):=zEi h2;have hnb1:n1≤60:=by have:=zFd CN;have:=DB.out;omega
 have hnb2:n2≤60:=by have:=zFd MP;have:=Ug.out;omega
 have HAT1:Hid (∀kk,kk<bs.length→_):=fun kk hk=>ls_at h1 CN hk
 have HAT2:Hid (∀kk,kk<ss.length→_):=fun kk hk=>ls_at h2 MP hk
 have cW:Hid (∀kk,kk<bs.length→bs[kk]!.rests.length≤60):=fun kk hk=>by
  have:=zAV (show bs[kk]!∈bs by rw[getE _ _ hk];exact jT hk);omega
 have cX:Hid (∀kk,kk<ss.length→ss[kk]!.rests.length≤60):=fun kk hk=>by
  have:=zAV (show ss[kk]!∈ss by rw[getE _ _ hk];exact jT hk);omega
 have Dw:Hid (∀kk,([]++allR (bs.take kk)).length≤200):=fun kk=>by have:=zGE Gn kk;rw[jU];omega
 have Dx:Hid (∀kk,(allR bs++allR (ss.take kk)).length≤200):=fun kk=>by
  have:=zGE mT kk;have h3:=zAQ bs;rw[jE];omega
 have hB:Bw w (w.alloc (.cells #[.slice q1 n1 c1,.slice q2 n2 c2] 57)):=(bzR _ _).alloc (nzR _) _;have hR:=jA w (.cells #[.slice q1 n1 c1,.slice q2 n2 c2] 57);clear hi h1 h2 CN MP Gn mT;go_enter func119,ntmps119;go_wp2_with fail;generalize w.alloc (.cells #[.slice q1 n1 c1,.slice q2 n2 c2] 57)=V at *;have v0:V.cell? ⟨w.heap.size,0,none⟩=some (.slice q1 n1 c1):=by simp[World.cell?,hR]
 have v1:V.cell? ⟨w.heap.size,1,none⟩=some (.slice q2 n2 c2):=by simp[World.cell?,hR]
 have gp:w.heap.size<V.heap.size:=(gzE.1 hR).1;have pK:Hid (∀W,Bw V W→Bw w W):=fun W hW=>hB.trans (hW.mono hB.size)
 clear hR hB;go_loopg [3,4,6] 2 (fun gg s3 s4 _ wr=>((s4=.int .i64 1∧Aside (OwnQ wr V.heap.size s3 [])∧2≤gg)∨(s4=.int .i64 2∧Aside (OwnQ wr V.heap.size s3 (allR bs))∧1≤gg)∨(s4=.int .i64 3∧Aside (OwnQ wr V.heap.size s3 (allR bs++allR ss))))∧Aside (Below V.heap.size V wr))
 case atStart=>exact⟨.inl ⟨rfl,⟨rfl,.inl ⟨rfl,rfl⟩⟩,nzR _⟩,bzR _ _⟩
 case round=>
  obtain⟨EU,BW⟩:=hrel;have d0:=zAa BW.out v0;have d1:=zAa BW.out v1;have mD:w.heap.size<wr.heap.size:=jC gp BW.out.size;rcases EU with ⟨rfl,OW,hgk⟩|⟨rfl,OW,hgk⟩|⟨rfl,OW⟩
  ·have bI:1<gk:=by omega
   go_wp2_with fail;refine(zAx 1 q1 q2 n1 n2 c1 c2 wr).mono ?_;rintro e w1⟨rfl,Hc⟩;rw[show (if (1:Int)=1 then Value.slice q1 n1 c1 else .slice q2 n2 c2)=.slice q1 n1 c1 from rfl]
   have go:Hid (Bw V w1):=BW.out.trans (Hc.mono BW.out.size);have Gu:Hid (OwnQ w1 V.heap.size u3 ([])):=OwnM.below OW.out Hc;clear Hc;go_wp2_with fail;go_loopg [3,6,15] n1 (fun g2 s3 _ s15 wi=>∃kk:Nat,kk≤n1∧n1 - kk≤g2∧s15=.int .i64 kk∧Aside (OwnQ wi V.heap.size s3 ([]++allR (bs.take kk)))∧Aside (Below V.heap.size V wi))
   case atStart=>exact⟨0,jL _,by omega,rfl,(show OwnQ _ _ _ _ by have:=Gu.out;simpa [allR] using this),go.out⟩
   case round=>
    obtain⟨kk,gd,Ge,rfl,OI,BI⟩:=hrel;by_cases Hi:kk<n1
    ·have Hp:(kk:Int)<(n1:Int):=(by omega);have gR:¬((kk:Int)<0):=(by omega);have Hs:kk<bs.length:=(by rw[←DB.out];exact Hi);obtain⟨b,o,rb,ro,rc,hq,GB,a0,a1,mZ,MT⟩:=HAT1.out kk Hs;obtain⟨l,hl⟩:∃l,bs[kk]! = l:=⟨_,rfl⟩;obtain⟨p,zs⟩:=l;have Bv:allR [bs[kk]!]=zs:=(by rw[hl];simp[allR]);rw[hl] at a0 a1 MT;simp only[] at a0 a1 MT;subst hq;have Bb:zs.length≤60:=(by have:=cW.out kk Hs;rw[hl] at this;exact this);clear hl;have c0':=zAa (pK.out _ BI.out) a0;have c1':=zAa (pK.out _ BI.out) a1;have Ua:Hid ([]++allR (bs.take (kk+1))=([]++allR (bs.take kk))++zs):=by
      show _=_
      rw[zDL Hs,zCd,jS,Bv]
     have Gh:([]++allR (bs.take kk)).length≤200:=Dw.out kk;have MI:b<wr.heap.size:=jC GB (pK.out _ BI.out).size;have HF:Hid (∀j u,(flat zs)[j]?=some u→(wr.alloc (.cells #[.int .i64 p,.slice (some ⟨rb,ro,none⟩) zs.length rc] 54)).cell? ((⟨rb,ro,none⟩:Addr).add j)=some u):=wAE (Lies.below (MT.below mZ (pK.out _ BI.out)) (jC mZ (pK.out _ BI.out).size) ((bzR _ _).alloc (nzR _) _));have OV:Hid (OwnQ (wr.alloc (.cells #[.int .i64 p,.slice (some ⟨rb,ro,none⟩) zs.length rc] 54)) V.heap.size u3 ([]++allR (bs.take kk))):=OwnM.below OI.out ((bzR _ _).alloc (nzR _) _);have HV:Hid (Bw V (wr.alloc (.cells #[.int .i64 p,.slice (some ⟨rb,ro,none⟩) zs.length rc] 54))):=BI.out.alloc BI.out.size _;clear Bv MT a0 a1;generalize []++allR (bs.take kk)=DS at *
     go_wp2_with (at_builtin;(refine wAe _ rfl _ _ 52 rfl V.heap.size 51 i0 zeroR 5 40 underlying52 HI.out gE gu gA rfl u3 _ _ rfl OV.out ⟨rb,ro,none⟩ zs.length rc (flat zs) rfl (wAl _) HF.out (wAB _) (by unfold maxLen;omega) (by omega) HV.out.size ?_))
     intro v' w' gy Hy Gm;have H2:Hid (Bw V w'):=HV.out.grown Hy HV.out.size (fun k hk=>(OwnM.lt OV.out k hk).1)
     have H1:Hid (OwnQ w' V.heap.size v' ([]++allR (bs.take (kk+1)))):=by
      rw[Ua.out];show OwnM _ _ _ _ _ _ _
      rw[wAg,jE];exact gy
     clear gy Hy Gm HF OV HV Ua Gh;go_wp2_with fail;go_roundg (n1 - (kk+1))
     case measure=>omega
     case rel=>exact⟨kk+1,by omega,by omega,by go_num,H1.out,H2.out⟩
    ·have Hp:¬(kk:Int)<(n1:Int):=(by omega);have H1:Hid (OwnQ wr V.heap.size u3 (allR bs)):=by
      have h1:=OI.out;rw[List.take_of_length_le (by rw[←DB.out];omega)] at h1
      rw[jU] at h1;exact h1
     go_wp2_with fail;go_roundg (1)
     case measure=>exact bI
     case rel=>exact⟨.inr (.inl ⟨rfl,H1.out,nzR _⟩),BI.out⟩
  ·have bI:0<gk:=by omega
   go_wp2_with fail;refine(zAx 2 q1 q2 n1 n2 c1 c2 wr).mono ?_;rintro e w1⟨rfl,Hc⟩;rw[show (if (2:Int)=1 then Value.slice q1 n1 c1 else .slice q2 n2 c2)=.slice q2 n2 c2 from rfl]
   have go:Hid (Bw V w1):=BW.out.trans (Hc.mono BW.out.size);have Gu:Hid (OwnQ w1 V.heap.size u3 (allR bs)):=OwnM.below OW.out Hc;clear Hc;go_wp2_with fail;go_loopg [3,6,15] n2 (fun g2 s3 _ s15 wi=>∃kk:Nat,kk≤n2∧n2 - kk≤g2∧s15=.int .i64 kk∧Aside (OwnQ wi V.heap.size s3 (allR bs++allR (ss.take kk)))∧Aside (Below V.heap.size V wi))
   case atStart=>exact⟨0,jL _,by omega,rfl,(show OwnQ _ _ _ _ by have:=Gu.out;simpa [allR] using this),go.out⟩
   case round=>
    obtain⟨kk,gd,Ge,rfl,OI,BI⟩:=hrel;by_cases Hi:kk<n2
    ·have Hp:(kk:Int)<(n2:Int):=(by omega);have gR:¬((kk:Int)<0):=(by omega);have Hs:kk<ss.length:=(by rw[←Ug.out];exact Hi);obtain⟨b,o,rb,ro,rc,hq,GB,a0,a1,mZ,MT⟩:=HAT2.out kk Hs;obtain⟨l,hl⟩:∃l,ss[kk]! = l:=⟨_,rfl⟩;obtain⟨p,zs⟩:=l;have Bv:allR [ss[kk]!]=zs:=(by rw[hl];simp[allR]);rw[hl] at a0 a1 MT;simp only[] at a0 a1 MT;subst hq;have Bb:zs.length≤60:=(by have:=cX.out kk Hs;rw[hl] at this;exact this);clear hl;have c0':=zAa (pK.out _ BI.out) a0;have c1':=zAa (pK.out _ BI.out) a1;have Ua:Hid (allR bs++allR (ss.take (kk+1))=(allR bs++allR (ss.take kk))++zs):=by
      show _=_
      rw[zDL Hs,zCd,jS,Bv]
     have Gh:(allR bs++allR (ss.take kk)).length≤200:=Dx.out kk;have MI:b<wr.heap.size:=jC GB (pK.out _ BI.out).size;have HF:Hid (∀j u,(flat zs)[j]?=some u→(wr.alloc (.cells #[.int .i64 p,.slice (some ⟨rb,ro,none⟩) zs.length rc] 54)).cell? ((⟨rb,ro,none⟩:Addr).add j)=some u):=wAE (Lies.below (MT.below mZ (pK.out _ BI.out)) (jC mZ (pK.out _ BI.out).size) ((bzR _ _).alloc (nzR _) _));have OV:Hid (OwnQ (wr.alloc (.cells #[.int .i64 p,.slice (some ⟨rb,ro,none⟩) zs.length rc] 54)) V.heap.size u3 (allR bs++allR (ss.take kk))):=OwnM.below OI.out ((bzR _ _).alloc (nzR _) _);have HV:Hid (Bw V (wr.alloc (.cells #[.int .i64 p,.slice (some ⟨rb,ro,none⟩) zs.length rc] 54))):=BI.out.alloc BI.out.size _;clear Bv MT a0 a1;generalize allR bs++allR (ss.take kk)=DS at *
     go_wp2_with (at_builtin;(refine wAe _ rfl _ _ 52 rfl V.heap.size 51 i0 zeroR 5 40 underlying52 HI.out gE gu gA rfl u3 _ _ rfl OV.out ⟨rb,ro,none⟩ zs.length rc (flat zs) rfl (wAl _) HF.out (wAB _) (by unfold maxLen;omega) (by omega) HV.out.size ?_))
     intro v' w' gy Hy Gm;have H2:Hid (Bw V w'):=HV.out.grown Hy HV.out.size (fun k hk=>(OwnM.lt OV.out k hk).1)
     have H1:Hid (OwnQ w' V.heap.size v' (allR bs++allR (ss.take (kk+1)))):=by
      rw[Ua.out];show OwnM _ _ _ _ _ _ _
      rw[wAg,jE];exact gy
     clear gy Hy Gm HF OV HV Ua Gh;go_wp2_with fail;go_roundg (n2 - (kk+1))
     case measure=>omega
     case rel=>exact⟨kk+1,by omega,by omega,by go_num,H1.out,H2.out⟩
    ·have Hp:¬(kk:Int)<(n2:Int):=(by omega);have H1:Hid (OwnQ wr V.heap.size u3 (allR bs++allR ss)):=by
      have h1:=OI.out;rw[List.take_of_length_le (by rw[←Ug.out];omega)] at h1
      skip
      exact h1
     go_wp2_with fail;go_roundg (0)
     case measure=>exact bI
     case rel=>exact⟨.inr (.inr ⟨rfl,H1.out⟩),BI.out⟩
  ·go_wp2_with fail;go_ret;exact⟨_,rfl,OwnM.mono OW.out (jX gp),pK.out _ BW.out⟩
end bok
end Go.Proofs.YtnfilcpnneckkaaGreat
