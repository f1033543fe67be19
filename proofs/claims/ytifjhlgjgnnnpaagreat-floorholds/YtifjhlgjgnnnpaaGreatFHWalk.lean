import Derived.Test.YtifjhlgjgnnnpaaGreatFHSum
import Derived.BigQuiet
namespace Go.Proofs.YtifjhlgjgnnnpaaGreat
namespace flr
open Go.RowKit
open que (R rchk)
open sid (L DL LS allR schk)
open mee (T tV OwnT sumT)
open ord (O oV chk errV errV_zero errV_of prB)
open bok (zAd zAh)
open mrg (zBi zBF zBG forC forS)
open pur (Pz Pu Ok pL ix)
open sms (sumC sumS)
open wak (OwnM OwnQ St SL Lies oL idx Trn)
theorem zPl{w:World}{b:Nat}{e:TypeId}{sz n c:Nat}{q:Option Addr}{xs:List Value}(h:OwnM w b e sz (.slice q n c) n xs)(hn:0<n):∃g o,q=some ⟨g,o,none⟩∧b≤g∧g<w.heap.size∧∀j v,xs[j]?=some v→w.cell? ⟨g,o+j,none⟩=some v:=by
 rcases h.2 with ⟨h1,h2⟩|⟨g,off,cap,cur,h1,h2,h3,h4,h5,h6,h7⟩
 ·omega
 ·cases h1
  refine⟨g,off,rfl,h2,(gzE.1 h3).1,fun j v hj=>?_⟩
  rw[jZ w g (off+j) cur e (0,0) h3,←hj,←h7,List.getElem?_take,List.getElem?_drop,if_pos]
  ·simp
  ·have:=(List.getElem?_eq_some_iff.1 hj).1
   rw[h.1] at this;exact this
theorem zFH(x y:Int)(h:x=y)(h1 : -9000000000000000000≤y)(h2:y≤9000000000000000000):wrap64 x=y:=by subst h;unfold wrap64;omega
theorem zMA(k:Nat)(h:k≤1000000):wrap64 ((k:Int)+1)=((k+1:Nat):Int):=by unfold wrap64;omega
theorem succB(k n:Nat)(h:k<n)(hn:n≤9223372036854775807):wrap64 ((k:Int)+1)=((k+1:Nat):Int):=by unfold wrap64;omega
theorem ev_at{w:World}{b n c:Nat}{q:Option Addr}{evs:List Ev}(h:OwnM w b 42 10 (.slice q n c) n (zAY evs))(hn:n=evs.length){k:Nat}(hk:k<n):∃g o,q=some ⟨g,o,none⟩∧g<w.heap.size∧w.cell? ⟨g,o+k*10,none⟩=some (.int .i64 (evs[k]!).what)∧w.cell? ⟨g,o+k*10+6,none⟩=some (.int .i64 (evs[k]!).tr.frm)∧w.cell? ⟨g,o+k*10+7,none⟩=some (.int .i64 (evs[k]!).tr.into):=by
 obtain⟨g,o,rfl,-,hg,hc⟩:=zPl h (by omega)
 have hget:∀ (l:List Ev) (k i:Nat),k<l.length→i<10→(zAY l)[k*10+i]?=(evL l[k]!)[i]?:=by
  intro l
  induction l with
  | nil=>intro k i hk;simp at hk
  | cons x t ih=>
   intro k i hk hi
   have e:zAY (x::t)=evL x++zAY t:=by simp[zAY]
   have hl:(evL x).length=10:=rfl
   rw[e]
   cases k with
   | zero=>rw[List.getElem?_append_left (by rw[hl];omega),Nat.zero_mul,Nat.zero_add];rfl
   | succ k=>
    rw[jV (by rw[hl];omega),hl,show (k+1)*10+i - 10=k*10+i by omega,ih k i (by simpa using hk) hi]
    rfl
 refine⟨g,o,rfl,hg,?_,?_,?_⟩
 ·have:=hc (k*10+0) _ (hget evs k 0 (by omega) (by omega))
  rw[Nat.add_zero] at this;exact this
 ·have:=hc (k*10+6) _ (hget evs k 6 (by omega) (by omega))
  rw[←Nat.add_assoc] at this;exact this
 ·have:=hc (k*10+7) _ (hget evs k 7 (by omega) (by omega))
  rw[←Nat.add_assoc] at this;exact this
set_option maxRecDepth 100000 in
set_option maxHeartbeats 8000000 in
theorem zJy(m:Int)(q:Option Addr)(n cc:Nat)(zs:List Cm)(w:World)(hS:CL w (.slice q n cc) zs) :
  Calls Tryz.prog 3 #[.int .i64 m,.slice q n cc] w fun e w'=>e=.returned (.bool true)∧Below w.heap.size w w':=by
 have HS:=hidF hS
 have HN:Hid (n=zs.length):=by obtain⟨q',c',e,-⟩:=hS.form;cases e;rfl
 clear hS
 go_enter Tryz.func3,Tryz.ntmps3
 go_wp2_with fail
 refine(zIs 1 (by decide) (by decide) w).mono ?_
 rintro e w1⟨F0,v0,rfl,hF,hlo,hb⟩
 have H0:Hid (FloorAt w w1 F0 hF0):=⟨⟨v0,hF⟩,hlo,hb⟩
 clear hF hlo hb
 go_wp2_with fail
 refine(do_at 4 0 0 0 0 0 0 0 0 2 1000 (zAq hF1) H0.out (zMd (by decide) (by decide)).iv.wf (by decide) h_pay).mono ?_
 rintro e w2⟨q2,k2,rfl,-,h2⟩
 have H2:=hidF h2
 clear h2 H0
 generalize (zAq hF1).evs.length=n2
 go_wp2_with fail
 refine(do_at 1 1 2 1 1 100 7 0 0 0 0 hS2 H2.out (fdo_wf (zMd (m:=1) (by decide) (by decide)).iv.wf h_pay) (by decide) h_do).mono ?_
 rintro e w3⟨q3,k3,rfl,o3,h3⟩
 have H3:=hidF h3
 obtain⟨g3,f3,rfl,-,hg3,hc3⟩:=zPl o3 (by show 0<1;decide)
 have HX3:Hid (w3.cell? ⟨g3,f3,none⟩=some (.int .i64 1)∧g3<w3.heap.size):=⟨hc3 0 _ rfl,hg3⟩
 rw[show hS2.evs.length=1 from rfl]
 have hpp:Calls Tryz.prog 9 #[.pointer (some ⟨F0,0,none⟩),.int .i64 2] w3 fun e w'=>e=.returned (.tuple #[.agg #[.int .i64 2,.int .i64 1000,.int .i64 700,.int .i64 0,.int .i64 0],.nilIface])∧Below w3.heap.size w3 w':=by
  obtain⟨v,hv⟩:=h3.fm
  refine(zGT F0 _ v 2 w3 hv).mono ?_
  rintro e w'⟨rfl,hb⟩
  rw[zQT]
  exact⟨rfl,hb⟩
 have HPP:=hidF hpp
 clear h3 o3 hg3 hc3 hpp H2
 go_wp2_with fail
 refine HPP.out.mono ?_
 rintro e w4⟨rfl,hb4⟩
 have hb44:Below w4.heap.size w4 (w4.alloc (.cells #[.int .i64 2,.int .i64 1000,.int .i64 700,.int .i64 0,.int .i64 0] 36)):=(bzR _ _).alloc (nzR _) _
 have hr4:(w4.alloc (.cells #[.int .i64 2,.int .i64 1000,.int .i64 700,.int .i64 0,.int .i64 0] 36)).heap[w4.heap.size]?=some (.cells #[.int .i64 2,.int .i64 1000,.int .i64 700,.int .i64 0,.int .i64 0] 36 (0,0)):=jA w4 _
 have hb45:=hb4.trans (hb44.mono hb4.size)
 have H4:=hidF (H3.out.bel.trans (hb45.mono H3.out.bel.size))
 have x3:=(hb45.cell (p:=⟨g3,f3,none⟩) HX3.out.2).trans HX3.out.1
 have HR4:=hidF hr4
 clear hb4 hb44 hr4 hb45 HPP H3 HX3
 go_upto_region 7 with fail
 generalize w4.alloc (.cells #[.int .i64 2,.int .i64 1000,.int .i64 700,.int .i64 0,.int .i64 0] 36)=W4 at *
 generalize w4.heap.size=P4 at *
 obtain⟨p0,p1,p2,p3,p4,-⟩:=sid.zAe HR4.out
 go_wp2_with fail
 clear p0 p1 p2 p3 p4 HR4 x3
 by_cases hm:0≤m∧m≤3
 rotate_left
 ·by_cases h0:m<0
  ·have d0:decide (m<0)=true:=decide_eq_true h0
   refine(zMq m hm W4).mono ?_
   rintro e w5⟨rfl,hb5⟩
   have HB5:=hidF (H4.out.trans (hb5.mono H4.out.size))
   clear hb5 hm
   go_wp2_with fail
   go_ret
   exact⟨rfl,HB5.out⟩
  ·have h3:3<m:=by omega
   have d0:decide (m<0)=false:=decide_eq_false h0
   have d3:decide (3<m)=true:=decide_eq_true h3
   refine(zMq m hm W4).mono ?_
   rintro e w5⟨rfl,hb5⟩
   have HB5:=hidF (H4.out.trans (hb5.mono H4.out.size))
   clear hb5 hm
   go_wp2_with fail
   go_ret
   exact⟨rfl,HB5.out⟩
 have HM:=hidF hm
 clear hm
 refine(zQW (w:=w) m HM.out.1 HM.out.2 H4.out).mono ?_
 rintro e w5⟨F,rfl,h5⟩
 have H5:=hidF h5
 clear h5 H4
 go_wp2_with fail
 go_loopg [15,16,17,18,19,20] 60 (fun gg s15 s16 s17 _ _ _ wr=>∃ (kk:Nat) (c d:Int),kk≤n∧kk≤60∧60 - kk≤gg∧s15=.int .i64 c∧s16=.int .i64 d∧s17=.int .i64 kk∧Aside (LoopI w wr F m c d))
 case atStart=>exact⟨0,0,0,jL _,by omega,by omega,rfl,rfl,rfl,H5.out⟩
 case round=>
  clear H5
  obtain⟨kk,c,d,hkk,hk60,hg,rfl,rfl,rfl,HA⟩:=hrel
  by_cases hlt:kk<n∧kk<60
  ·as_aux_lemma=>
   have h1z:(kk:Int)<(n:Int):=by omega
   have h2z:(kk:Int)<60:=by omega
   obtain⟨g,off,rfl,hgw,hx,hwf⟩:=HS.out.at (k:=kk) (by rw[←HN.out];exact hlt.1)
   rcases hcm:zs[kk]! with ⟨what,⟨a1,a2,a3,a4,a5,a6,a7,a8⟩,who,num⟩
   rw[hcm] at hx hwf
   have HX:Hid (∀W,Below w.heap.size w W→∀i v,(cmL ⟨what,⟨a1,a2,a3,a4,a5,a6,a7,a8⟩,who,num⟩)[i]?=some v→W.cell? ⟨g,off+kk*11+i,none⟩=some v):=fun W hW i v hv=>(hW.cell (p:=⟨g,off+kk*11+i,none⟩) hgw).trans (hx i v hv)
   have HWF:=hidF hwf
   have HK:Hid (kk<n∧kk<60∧60 - kk≤gk):=⟨hlt.1,hlt.2,hg⟩
   have hb:=HA.out.bel
   have x0:=HX.out wr hb 0 _ rfl
   have x1:=HX.out wr hb 1 _ rfl
   have x2:=HX.out wr hb 2 _ rfl
   have x3:=HX.out wr hb 3 _ rfl
   have x4:=HX.out wr hb 4 _ rfl
   have x5:=HX.out wr hb 5 _ rfl
   have x6:=HX.out wr hb 6 _ rfl
   have x7:=HX.out wr hb 7 _ rfl
   have x8:=HX.out wr hb 8 _ rfl
   have x9:=HX.out wr hb 9 _ rfl
   have x10:=HX.out wr hb 10 _ rfl
   simp only[Nat.add_zero] at x0
   have ei:=zMA kk (by omega)
   have hn0:¬((kk:Int)<0):=by omega
   clear hcm hx hwf hlt hkk hk60 hg hb hgw
   go_wp2_with fail
   refine(do_law what a1 a2 a3 a4 a5 a6 a7 a8 who num HA.out HWF.out).mono ?_
   rintro e w6 hpost
   obtain⟨qv,nv,cv,ev,evs,c1,d1,rfl,hE⟩:∃qv nv cv ev evs c1 d1,e=.returned (.tuple #[.slice qv nv cv,ev])∧((ev=.nilIface∧c1=c+paid ⟨what,⟨a1,a2,a3,a4,a5,a6,a7,a8⟩,who,num⟩∧d1=d+given ⟨what,⟨a1,a2,a3,a4,a5,a6,a7,a8⟩,who,num⟩)∨((∃k,ev=.iface 91 (.int .i64 k))∧c1=c∧d1=d))∧LoopI w w6 F m c1 d1∧OwnM w6 0 42 10 (.slice qv nv cv) nv (zAY evs)∧nv=(evs:List Ev).length∧nv≤9223372036854775807∧(¬m=0→∀x∈evs,x.what=2→¬x.tr.frm=x.tr.into):=by
    rcases hpost with ⟨q3,evs,k3,rfl,ho,hev,h3⟩|⟨k3,rfl,h3⟩
    ·refine⟨q3,_,k3,_,evs,_,_,rfl,.inl ⟨rfl,rfl,rfl⟩,h3,OwnM.mono ho (jL _),rfl,?_,hev⟩
     rcases ho.2 with ⟨-,h2⟩|⟨g',off',cap,cur,e1,-,-,e4,e5,-⟩
     ·omega
     ·unfold maxLen at e5;omega
    ·exact⟨none,0,0,_,[],c,d,rfl,.inr ⟨⟨k3,rfl⟩,rfl,rfl⟩,h3,⟨rfl,.inl ⟨rfl,rfl⟩⟩,rfl,by omega,fun _ x hx=>by cases hx⟩
   have HE:=hidF hE
   have hb6:=hE.2.1.bel
   have y0:=HX.out w6 hb6 0 _ rfl
   have y10:=HX.out w6 hb6 10 _ rfl
   simp only[Nat.add_zero] at y0
   clear x0 x1 x2 x3 x4 x5 x6 x7 x8 x9 x10 hb6 hpost hE
   obtain⟨b4,hb4⟩:∃b:Bool,(b=true∧ev=.nilIface∧what=4∧c1=c+num)∨(b=false∧c1=c∧((ev=.nilIface∧¬what=4)∨∃k,ev=.iface 91 (.int .i64 k))):=by
    rcases HE.out.1 with ⟨rfl,e1,-⟩|⟨⟨k3,rfl⟩,rfl,-⟩
    ·by_cases h:what=4
     ·exact⟨true,.inl ⟨rfl,rfl,h,by rw[e1,h];rfl⟩⟩
     ·exact⟨false,.inr ⟨rfl,by rw[e1];unfold paid;rw[if_neg h];exact Int.add_zero _,.inl ⟨rfl,h⟩⟩⟩
    ·exact⟨false,.inr ⟨rfl,rfl,.inr ⟨k3,rfl⟩⟩⟩
   have HB4:=hidF hb4
   clear hb4
   go_upto_region 18 with fail
   go_cut [132] from 123 to 132 (fun s wx=>s=.bool b4∧wx=w6)
   case first=>
    rcases HB4.out with ⟨rfl,rfl,rfl,-⟩|⟨rfl,-,⟨rfl,h⟩|⟨k3,rfl⟩⟩
    ·go_wp2_with fail
     go_meet
     case rel=>exact⟨rfl,rfl⟩
    ·have hb:(what == 4)=false:=by simpa using h
     go_wp2_with fail
     go_meet
     case rel=>exact⟨rfl,rfl⟩
    ·go_wp2_with fail
     go_meet
     case rel=>exact⟨rfl,rfl⟩
   case rest=>
   obtain⟨rfl,rfl⟩:=hcut
   generalize wc=w6 at *
   go_upto_if 132 with fail
   go_cut [15] from 132 to 139 (fun s wx=>s=.int .i64 c1∧wx=w6)
   case first=>
    rcases HB4.out with ⟨rfl,-,-,e1⟩|⟨rfl,rfl,-⟩
    ·have hsm:=HE.out.2.1.small
     have ec:=zFH (c+num) c1 e1.symm (by omega) (by omega)
     clear hsm e1
     go_wp2_with fail
     go_meet
     case rel=>exact⟨by first|rfl|exact congrArg (Value.int .i64) ec,rfl⟩
    ·go_wp2_with fail
     go_meet
     case rel=>exact⟨rfl,rfl⟩
   case rest=>
   obtain⟨rfl,rfl⟩:=hcut
   generalize wc=w6 at *
   clear HB4
   obtain⟨b5,hb5⟩:∃b:Bool,(b=true∧ev=.nilIface∧what=5∧d1=d+num)∨(b=false∧d1=d∧((ev=.nilIface∧¬what=5)∨∃k,ev=.iface 91 (.int .i64 k))):=by
    rcases HE.out.1 with ⟨rfl,-,e1⟩|⟨⟨k3,rfl⟩,-,rfl⟩
    ·by_cases h:what=5
     ·exact⟨true,.inl ⟨rfl,rfl,h,by rw[e1,h];rfl⟩⟩
     ·exact⟨false,.inr ⟨rfl,by rw[e1];unfold given;rw[if_neg h];exact Int.add_zero _,.inl ⟨rfl,h⟩⟩⟩
    ·exact⟨false,.inr ⟨rfl,rfl,.inr ⟨k3,rfl⟩⟩⟩
   have HB5:=hidF hb5
   clear hb5
   go_upto_region 20 with fail
   go_cut [149] from 140 to 149 (fun s wx=>s=.bool b5∧wx=w6)
   case first=>
    rcases HB5.out with ⟨rfl,rfl,rfl,-⟩|⟨rfl,-,⟨rfl,h⟩|⟨k3,rfl⟩⟩
    ·go_wp2_with fail
     go_meet
     case rel=>exact⟨rfl,rfl⟩
    ·have hb:(what == 5)=false:=by simpa using h
     go_wp2_with fail
     go_meet
     case rel=>exact⟨rfl,rfl⟩
    ·go_wp2_with fail
     go_meet
     case rel=>exact⟨rfl,rfl⟩
   case rest=>
   obtain⟨rfl,rfl⟩:=hcut
   generalize wc=w6 at *
   go_upto_if 149 with fail
   go_cut [16] from 149 to 156 (fun s wx=>s=.int .i64 d1∧wx=w6)
   case first=>
    rcases HB5.out with ⟨rfl,-,-,e1⟩|⟨rfl,rfl,-⟩
    ·have hsm:=HE.out.2.1.small
     have ec:=zFH (d+num) d1 e1.symm (by omega) (by omega)
     clear hsm e1
     go_wp2_with fail
     go_meet
     case rel=>exact⟨by first|rfl|exact congrArg (Value.int .i64) ec,rfl⟩
    ·go_wp2_with fail
     go_meet
     case rel=>exact⟨rfl,rfl⟩
   case rest=>
   obtain⟨rfl,rfl⟩:=hcut
   generalize wc=w6 at *
   clear HB5
   clear y0 y10
   have HI6:=hidF HE.out.2.1
   have HO6:=hidF HE.out.2.2.1
   have HN6:=hidF (And.intro HE.out.2.2.2.1 HE.out.2.2.2.2.1)
   have HT6:=hidF HE.out.2.2.2.2.2
   clear HE HX HWF HA
   go_wp2_with fail
   go_loopg [20] nv (fun gg s20 wr2=>∃jj:Nat,jj≤nv∧nv - jj≤gg∧s20=.int .i64 jj∧Aside (LoopI w wr2 F m c1 d1∧OwnM wr2 0 42 10 (.slice qv nv cv) nv (zAY evs)))
   case atStart=>exact⟨0,jL _,by omega,rfl,HI6.out,HO6.out⟩
   case round=>
    clear HI6 HO6
    obtain⟨jj,hjj,hg,rfl,HD⟩:=hrel
    by_cases hl2:jj<nv
    ·have hz2:(jj:Int)<(nv:Int):=by omega
     have hn2:¬((jj:Int)<0):=by omega
     have ej:=succB jj nv hl2 HN6.out.2
     obtain⟨ge,oe,rfl,hge,u0,u6,u7⟩:=ev_at HD.out.2 HN6.out.1 hl2
     have hmem:(evs[jj]!)∈evs:=by rw[wak.getE _ _ (by rw[←HN6.out.1];exact hl2)];exact jT _
     have hno:=fun hm=>HT6.out hm _ hmem
     clear hmem
     generalize evs[jj]! = E at *
     obtain⟨ewhat,eid,eqty,eprice,⟨t1,t2,t3,t4,t5,t6⟩⟩:=E
     simp only[] at u0 u6 u7 hno
     have HNO:=hidF hno
     have HK2:Hid (jj<nv∧nv - jj≤gk):=⟨hl2,hg⟩
     have HDN:=hidF (fun x=>And.intro (show LoopI w (wr.drewN x) F m c1 d1 by
      obtain⟨f,h1,h2,h3⟩:=HD.out.1.ex
      exact⟨f,h1.keep (sid.zCN (bzR _ _) _),h2,h3⟩) (OwnM.below HD.out.2 (sid.zCN (bzR _ _) x)))
     clear hl2 hjj hg HD hno h1z h2z hn0
     go_upto_region 25 with fail
     by_cases hm0:m=0
     ·have hmb:(m != 0)=false:=by simp[hm0]
      clear hm0
      go_quiet (fail)
      go_wp2_with fail
      go_roundg (nv - (jj+1))
      case measure=>have:=HK2.out;clear ei ej;omega
      case rel=>exact⟨jj+1,HK2.out.1,nzR _,by first|rfl|exact congrArg (Value.int .i64) ej,HDN.out _⟩
     ·have hmb:(m != 0)=true:=by simp[hm0]
      by_cases hw2:ewhat=2
      ·subst hw2
       have hne:¬t3=t4:=HNO.out hm0 rfl
       have hnb:(t3 == t4)=false:=by simp[hne]
       clear hm0 hne
       go_quiet (fail)
       go_wp2_with fail
       go_roundg (nv - (jj+1))
       case measure=>have:=HK2.out;clear ei ej;omega
       case rel=>exact⟨jj+1,HK2.out.1,nzR _,by first|rfl|exact congrArg (Value.int .i64) ej,HDN.out _⟩
      ·have hwb:(ewhat == 2)=false:=by simp[hw2]
       clear hm0 hw2
       go_quiet (fail)
       go_wp2_with fail
       go_roundg (nv - (jj+1))
       case measure=>have:=HK2.out;clear ei ej;omega
       case rel=>exact⟨jj+1,HK2.out.1,nzR _,by first|rfl|exact congrArg (Value.int .i64) ej,HDN.out _⟩
    ·obtain rfl:jj=nv:=by omega
     have hz2:¬(jj:Int)<(jj:Int):=by omega
     have HI7:=hidF HD.out.1
     clear HD hl2 hjj hg HN6 HT6 h1z h2z hn0
     go_wp2_with fail
     go_roundg (60 - (kk+1))
     case measure=>have:=HK.out;clear ei;omega
     case rel=>exact⟨kk+1,c1,d1,HK.out.1,HK.out.2.1,nzR _,rfl,rfl,by first|rfl|exact congrArg (Value.int .i64) ei,HI7.out⟩
  ·have hend:Hid (((kk:Int)<(n:Int)∧¬(kk:Int)<60)∨¬(kk:Int)<(n:Int)):=by
    by_cases h1:kk<n
    ·exact .inl ⟨by omega,by omega⟩
    ·exact .inr (by omega)
   clear hlt hkk hk60 hg
   go_upto_region 15 with fail
   go_cut [111] from 104 to 111 (fun s111 wx=>s111=.bool false∧wx=wr)
   case first=>
    rcases hend.out with ⟨e1,e2⟩|e1
    ·go_wp2_with fail
     go_meet
     case rel=>exact⟨rfl,rfl⟩
    ·go_wp2_with fail
     go_meet
     case rel=>exact⟨rfl,rfl⟩
   case rest=>
   obtain⟨rfl,rfl⟩:=hcut
   clear hend
   generalize wc=W at *
   obtain⟨f,hF,hI,-⟩:=HA.out.ex
   have HFI:=hidF hI
   obtain⟨W1,hW1⟩:∃W1,W1=W.alloc (.cells #[.int .i64 0,.int .i64 0,.int .i64 0,.int .i64 0,.int .i64 0,.int .i64 0,.int .i64 0,.int .i64 0,.int .i64 0,.int .i64 0] 43):=⟨_,rfl⟩
   obtain⟨W2,hW2⟩:∃W2,W2=W1.alloc (.cells #[.int .i64 0,.int .i64 0,.int .i64 0,.int .i64 0,.int .i64 0,.int .i64 0,.int .i64 0,.int .i64 0,.int .i64 0,.int .i64 0] 43):=⟨_,rfl⟩
   have hB1:Below W.heap.size W W1:=by rw[hW1];exact(bzR _ _).alloc (nzR _) _
   have hB2:Below W1.heap.size W1 W2:=by rw[hW2];exact(bzR _ _).alloc (nzR _) _
   have hA1:Arr W1 W.heap.size (fun _=>0):=by rw[hW1];exact zMt W
   have hA2:Arr W2 W1.heap.size (fun _=>0):=by rw[hW2];exact zMt W1
   have HL1:Hid (w.heap.size≤W.heap.size∧W.heap.size<W1.heap.size∧W1.heap.size<W2.heap.size):=⟨hF.bel.size,hA1.lt,hA2.lt⟩
   have HAR:=hidF (And.intro (hA1.below hB2) hA2)
   have hF2:=(hF.keep hB1).keep hB2
   obtain⟨v,hv⟩:=hF2.fm
   have HBK:=hidF (zMr F f v W2 hv hI.iv.wf.book)
   have HF2:=hidF hF2
   have hs1:W1.heap.size=W.heap.size+1:=by rw[hW1];simp
   clear hF hI hB1 hB2 hA1 hA2 hF2 hv HA
   go_upto_region 28 with fail
   rw[←hW1,←hW2]
   try simp only[←hs1]
   clear hW1 hW2 hs1
   go_wp2_with fail
   refine HBK.out.mono ?_
   rintro e w7⟨r1,l1,k1,r2,l2,k2,rfl,D1,D2,hb7⟩
   obtain⟨W3,hW3⟩:∃W3,W3=w7.alloc (.cells #[.slice r1 l1 k1,.slice r2 l2 k2] 46):=⟨_,rfl⟩
   have hb73:Below w7.heap.size w7 W3:=by rw[hW3];exact(bzR _ _).alloc (nzR _) _
   have hr3:W3.heap[w7.heap.size]?=some (.cells #[.slice r1 l1 k1,.slice r2 l2 k2] 46 (0,0)):=by rw[hW3];exact jA w7 _
   have hb23:=hb7.trans (hb73.mono hb7.size)
   have HH:Hid (HdI w W3 F f W.heap.size W1.heap.size w7.heap.size W2.heap.size (.slice r1 l1 k1) (.slice r2 l2 k2) (fun _=>0) (fun _=>0)):=
    ⟨HF2.out.keep hb23,HAR.out.1.below hb23,HAR.out.2.below hb23,HL1.out.1,HL1.out.2.1,HL1.out.2.2,jC HL1.out.2.2 hb7.size,hr3,D1.below hb73,D2.below hb73⟩
   have HCK:=hidF (bok.check_any r1 r2 l1 l2 k1 k2 f.bs f.ss W3 (D1.below hb73).ls (D2.below hb73).ls)
   rw[show zAd f.bs f.ss=0 from HFI.out.iv.wf.book,show spn.errV 0=.nilIface from rfl] at HCK
   clear D1 D2 hb7 hb73 hr3 hb23 HBK HF2 HAR HL1
   go_upto_region 29 with fail
   rw[←hW3]
   generalize w7.heap.size=P at *
   generalize W.heap.size=A1 at *
   generalize W1.heap.size=A2 at *
   generalize W2.heap.size=B at *
   clear hW3
   obtain⟨p0,p1,-⟩:=sid.zAb HH.out.bk
   go_wp2_with fail
   refine HCK.out.mono ?_
   rintro e w8⟨rfl,hb8⟩
   have HH8:=hidF (HH.out.below hb8)
   clear hb8 HCK HH p0 p1
   go_wp2_with fail
   go_loopg [24,25,26,27,28,29,30,31] 2 (fun gg s24 _ _ _ _ _ _ _ wr=>∃ (ph:Nat) (K:Int) (X Y:Nat→Int),ph≤2∧2 - ph≤gg∧s24=.int .i64 K∧Aside (K=(ph:Int)+1∧HdI w wr F f A1 A2 P B (.slice r1 l1 k1) (.slice r2 l2 k2) X Y∧(∀j:Nat,X j=if 1≤ph then sumI (rC j) (prs f.bs) else 0)∧∀j:Nat,Y j=if 2≤ph then sumI (rS j) (prs f.ss) else 0))
   case atStart=>exact⟨0,1,_,_,jL _,by omega,rfl,rfl,HH8.out,fun j=>rfl,fun j=>rfl⟩
   case round=>
    clear HH8
    obtain⟨ph,K,X0,Y0,hph,hg,rfl,HA⟩:=hrel
    by_cases hlt:ph<2
    ·have hs:K=1∨K=2:=by have:=HA.out.1;omega
     have hle:K≤2:=by omega
     have HX0:Hid (∀j:Nat,X0 j=if K=1 then 0 else sumI (rC j) (prs f.bs)):=fun j=>by
      rw[HA.out.2.2.1 j]
      have hK:=HA.out.1
      by_cases h1:K=1
      ·rw[if_pos h1,if_neg (by omega)]
      ·rw[if_neg h1,if_pos (by omega)]
     have HY0:Hid (∀j:Nat,Y0 j=0):=fun j=>by
      rw[HA.out.2.2.2 j,if_neg (by omega)]
     obtain⟨qs,ns,cs,hv⟩:∃qs ns cs,(if K=1 then Value.slice r1 l1 k1 else .slice r2 l2 k2)=.slice qs ns cs:=by
      split
      ·exact⟨_,_,_,rfl⟩
      ·exact⟨_,_,_,rfl⟩
     have HLS:Hid (∀ (U:World) (X Y:Nat→Int),HdI w U F f A1 A2 P B (.slice r1 l1 k1) (.slice r2 l2 k2) X Y→LS U (.slice qs ns cs) (zBe f K)):=fun U X Y h=>by
      have:=(h.side (s:=K)).ls
      rw[hv] at this
      exact this
     have HLE:=hidF (fun i k (hi:i<(zBe f K).length) (hk:k<((zBe f K)[i]!).rests.length)=>zMz HFI.out hs hi hk)
     have HBD:=hidF (fun i k (hi:i≤(zBe f K).length) (j:Int) (h1:1≤j) (h2:j≤9)=>zJx HFI.out hs (k:=k) hi h1 h2)
     have HSK:=hidF (zMy HFI.out hs)
     have HNE:=hidF (bok.zBd HSK.out)
     have HNS:Hid (ns=(zBe f K).length):=bok.zDB (HLS.out _ _ _ HA.out.2.1)
     have HNX:Hid (∀X Y:Nat→Int,(∀j:Nat,X j=X0 j+sumI (nC K j) (prs (zBe f K)))→(∀j:Nat,Y j=sumI (nS K j) (prs (zBe f K)))→(∀j:Nat,X j=if 1≤ph+1 then sumI (rC j) (prs f.bs) else 0)∧∀j:Nat,Y j=if 2≤ph+1 then sumI (rS j) (prs f.ss) else 0):=fun X Y hX hY=>by
      have hK:=HA.out.1
      refine⟨fun j=>?_,fun j=>?_⟩
      ·rw[hX j,HX0.out j,if_pos (show 1≤ph+1 by omega)]
       rcases hs with rfl|rfl
       ·rw[if_pos rfl,nC_1];exact Int.zero_add _
       ·rw[if_neg (by decide),nC_2];exact Int.add_zero _
      ·rw[hY j]
       rcases hs with rfl|rfl
       ·rw[nS_1,if_neg (show ¬2≤ph+1 by omega)]
       ·rw[nS_2,if_pos (show 2≤ph+1 by omega)];rfl
     have HOF:=hidF (fun U=>bok.rof_any K r1 r2 l1 l2 k1 k2 U)
     rw[hv] at HOF
     obtain⟨K1,hK1⟩:∃t:Int,t=K+1:=⟨_,rfl⟩
     have eK:=zFH (K+1) K1 hK1.symm (by omega) (by omega)
     have HK:Hid (ph<2∧2 - ph≤gk∧K1=((ph+1:Nat):Int)+1∧wrap64 (K+1)=K1):=⟨hlt,hg,by have:=HA.out.1;omega,eK⟩
     have HHA:=hidF HA.out.2.1
     obtain⟨p0,p1,-⟩:=sid.zAb HHA.out.bk
     generalize zBe f K=ls at *
     clear hv hs hK1 hlt hph hg HA eK
     go_wp2_with fail
     refine(HOF.out _).mono ?_
     rintro e w9⟨rfl,hb9⟩
     have HH9:=hidF (HHA.out.below hb9)
     clear hb9 HOF HHA p0 p1 hle
     go_wp2_with fail
     go_loopg [26,27,28,29,30,31] ns (fun gg s26 _ _ _ _ _ wr=>∃ (i:Nat) (X Y:Nat→Int),i≤ns∧ns - i≤gg∧s26=.int .i64 i∧Aside (HdI w wr F f A1 A2 P B (.slice r1 l1 k1) (.slice r2 l2 k2) X Y∧(∀j:Nat,X j=X0 j+sumI (nC K j) (seen ls i 0))∧∀j:Nat,Y j=sumI (nS K j) (seen ls i 0)))
     case atStart=>exact⟨0,X0,Y0,jL _,by omega,rfl,HH9.out,fun j=>by rw[zGX];exact(Int.add_zero _).symm,fun j=>by rw[zGX];exact HY0.out j⟩
     case round=>
      clear HH9
      obtain⟨i,X1,Y1,hi,hg,rfl,HA⟩:=hrel
      by_cases hlt:i<ns
      ·have hiz:(i:Int)<(ns:Int):=by omega
       have hn0:¬((i:Int)<0):=by omega
       have hil:i<ls.length:=by rw[←HNS.out];exact hlt
       obtain⟨b,o,rfl⟩:∃b o,qs=some ⟨b,o,none⟩:=by
        obtain⟨b,o,-,-,-,e,-⟩:=bok.ls_at (HLS.out _ _ _ HA.out.1) HNE.out hil
        exact⟨b,o,e⟩
       obtain⟨m5,hm5⟩:∃t,t=(ls[i]!).rests.length:=⟨_,rfl⟩
       obtain⟨pr,hpr⟩:∃t,t=(ls[i]!).price:=⟨_,rfl⟩
       have HM5:=hidF (And.intro hm5 (And.intro hpr hil))
       have HK4:Hid (i<ns∧ns - i≤gk):=⟨hlt,hg⟩
       have HA4:=hidF HA.out
       have hns:ns≤1000000:=by
        have:=sid.zCQ (sid.zAs (sid.zAc HSK.out).2.1)
        have:=(sid.zAc HSK.out).2.2.1
        have:=HNS.out
        omega
       have hm60:m5≤1000000:=by
        have h1:=sid.zAR (show ls[i]!∈ls by rw[wak.getE _ _ hil];exact jT _)
        have:=(sid.zAc HSK.out).2.2.1
        omega
       have ei:=zMA i (by omega)
       clear hm5 hpr hlt hi hg HA hil hns
       go_wp2_with fail
       go_loopg [27,28,29,30,31] m5 (fun gg s27 _ _ _ _ wr=>∃ (k:Nat) (X Y:Nat→Int),k≤m5∧m5 - k≤gg∧s27=.int .i64 k∧Aside (HdI w wr F f A1 A2 P B (.slice r1 l1 k1) (.slice r2 l2 k2) X Y∧(∀j:Nat,X j=X0 j+sumI (nC K j) (seen ls i k))∧∀j:Nat,Y j=sumI (nS K j) (seen ls i k)))
       case atStart=>exact⟨0,X1,Y1,jL _,by omega,rfl,HA4.out⟩
       case round=>
        clear HA4
        obtain⟨k,X2,Y2,hk,hg,rfl,HA⟩:=hrel
        obtain⟨b',o',rb,ro,rc,hq,hbs,x0,x1,hrs,hrl⟩:=bok.ls_at (HLS.out _ _ _ HA.out.1) HNE.out HM5.out.2.2
        cases hq
        rw[←HM5.out.1] at x1
        rw[←HM5.out.2.1] at x0
        by_cases hlt:k<m5
        ·as_aux_lemma=>
         have hkz:(k:Int)<(m5:Int):=by omega
         have hk0:¬((k:Int)<0):=by omega
         have ek:=zMA k (by omega)
         have hkl:k<(ls[i]!).rests.length:=by rw[←HM5.out.1];exact hlt
         have hLE:=HLE.out i k HM5.out.2.2 hkl
         have hst:=zMu (ls:=ls) (i:=i) hkl
         have hcell:=hrl k hkl
         have hbd:=fun j(h1:1≤j)(h2:j≤9)=>HBD.out i (k+1) (jX HM5.out.2.2) j h1 h2
         rw[←HM5.out.2.1] at hLE hst
         generalize (ls[i]!).rests[k]! = z at *
         obtain⟨b1,b2,b3,b4,b5⟩:=z
         obtain⟨u,rfl⟩:∃u:Nat,b2=(u:Int):=⟨b2.toNat,by have:=hLE.2.1;simp only[] at this;omega⟩
         have hu:1≤u∧u≤9:=by have:=hLE.2;simp only[] at this;omega
         have hla:=zMx hLE.1
         have HLF:=hidF (fun U=>mrg.zFu b1 (u:Int) b3 b4 b5 K pr U)
         rw[hLE.1,errV_zero] at HLF
         generalize zBF ⟨b1,(u:Int),b3,b4,b5⟩ K pr=C at *
         generalize zBG ⟨b1,(u:Int),b3,b4,b5⟩ K pr=D at *
         have hX3:∀j:Nat,addF X2 u C j=X0 j+sumI (nC K j) (seen ls i (k+1)):=fun j=>by
          rw[hst,zAn]
          unfold addF
          rw[HA.out.2.1 j,(hla j).1]
          simp only[sumI];omega
         have hY3:∀j:Nat,addF Y2 u D j=sumI (nS K j) (seen ls i (k+1)):=fun j=>by
          rw[hst,zAn]
          unfold addF
          rw[HA.out.2.2 j,(hla j).2]
          simp only[sumI];omega
         have ew1:wrap64 (X2 u+C)=X2 u+C:=by
          have h1:=hX3 u
          have h2:=(hbd u (by omega) (by omega)).1
          rw[←HX0.out u,←h1] at h2
          unfold addF at1 at h2
          rw[if_pos rfl] at h2
          exact zFH _ _ rfl (by omega) (by omega)
         have ew2:wrap64 (Y2 u+D)=Y2 u+D:=by
          have h1:=hY3 u
          have h2:=(hbd u (by omega) (by omega)).2
          rw[←h1] at h2
          unfold addF at1 at h2
          rw[if_pos rfl] at h2
          exact zFH _ _ rfl (by omega) (by omega)
         have HSM:=hidF (And.intro hX3 (And.intro hY3 (And.intro ew1 ew2)))
         have HU:=hidF hu
         have HK5:Hid (k<m5∧m5 - k≤gk):=⟨hlt,hg⟩
         have y0:=hcell 0 _ rfl
         have y1:=hcell 1 _ rfl
         have y2:=hcell 2 _ rfl
         have y3:=hcell 3 _ rfl
         have y4:=hcell 4 _ rfl
         simp only[Nat.add_zero] at y0
         obtain⟨V,hV⟩:∃V,V=wr.alloc (.cells #[.int .i64 b1,.int .i64 u,.int .i64 b3,.int .i64 b4,.int .i64 b5] 54):=⟨_,rfl⟩
         have hBV:Below wr.heap.size wr V:=by rw[hV];exact(bzR _ _).alloc (nzR _) _
         have hrV:V.heap[wr.heap.size]?=some (.cells #[.int .i64 b1,.int .i64 u,.int .i64 b3,.int .i64 b4,.int .i64 b5] 54 (0,0)):=by rw[hV];exact jA wr _
         have HHV:=hidF (HA.out.1.below hBV)
         have HPV:Hid (V.cell? ⟨b,o+i*2,none⟩=some (.int .i64 pr)):=(hBV.cell (p:=⟨b,o+i*2,none⟩) hbs).trans x0
         have HRV:=hidF hrV
         have HLT:Hid (A1<wr.heap.size∧A2<wr.heap.size):=⟨HA.out.1.a1.lt,HA.out.1.a2.lt⟩
         clear hLE hst hcell hbd hla hX3 hY3 ew1 ew2 hu hlt hk hg hBV hrV hkl hrl hrs HA
         go_upto_region 42 with fail
         rw[←hV]
         clear hV x1 y0 y1 y2 y3 y4 hkz
         have HBS:Hid (b<V.heap.size):=by
          show b<V.heap.size
          exact jC hbs (by have:=HHV.out.a1.lt;have:=(gzE.1 HRV.out).1;omega)
         generalize wr.heap.size=RB at *
         clear x0 hbs
         obtain⟨z0,z1,z2,z3,z4,-⟩:=sid.zAe HRV.out
         have hpv:=HPV.out
         have SO:Hid (∀U,Below V.heap.size V U→(Below V.heap.size V U∧U.cell? ⟨RB,0,none⟩=some (.int .i64 b1)∧U.cell? ⟨RB,1,none⟩=some (.int .i64 u)∧U.cell? ⟨RB,2,none⟩=some (.int .i64 b3)∧U.cell? ⟨RB,3,none⟩=some (.int .i64 b4)∧U.cell? ⟨RB,4,none⟩=some (.int .i64 b5)∧U.cell? ⟨b,o+i*2,none⟩=some (.int .i64 pr))):=fun U hU=>by
          obtain⟨a0,a1,a2,a3,a4,-⟩:=sid.zAe (zBl HRV.out hU)
          exact⟨hU,a0,a1,a2,a3,a4,(hU.cell (p:=⟨b,o+i*2,none⟩) HBS.out).trans HPV.out⟩
         have HLV:Hid (∀U,Below V.heap.size V U→Calls Tryz.prog 13 #[.agg #[.int .i64 b1,.int .i64 u,.int .i64 b3,.int .i64 b4,.int .i64 b5],.int .i64 K,.int .i64 pr] U fun x w'=>x=.returned (.tuple #[.int .i64 C,.int .i64 D,.nilIface])∧Below V.heap.size V w'):=fun U hU=>(HLF.out U).mono (by rintro x w' ⟨rfl,hb⟩;exact⟨rfl,hU.trans (hb.mono hU.size)⟩)
         go_cut [29,30,31] from 225 to 235 (fun s29 s30 s31 wx=>s29=.int .i64 C∧s30=.int .i64 D∧s31=.nilIface∧Aside (Below V.heap.size V wx))
         case first=>
          go_region_held3 (fun U=>Below V.heap.size V U∧U.cell? ⟨RB,0,none⟩=some (.int .i64 b1)∧U.cell? ⟨RB,1,none⟩=some (.int .i64 u)∧U.cell? ⟨RB,2,none⟩=some (.int .i64 b3)∧U.cell? ⟨RB,3,none⟩=some (.int .i64 b4)∧U.cell? ⟨RB,4,none⟩=some (.int .i64 b5)∧U.cell? ⟨b,o+i*2,none⟩=some (.int .i64 pr))
           ((refine SO.out _ ?_;(with_reducible repeat' (first|assumption|refine bal ?_ _|refine Below.drew ?_|exact bzR _ _|exact nzR _|exact Below.size (by assumption)|refine jD ?_))))
           ((go_at_call 13;with_reducible refine(HLV.out _ ?_).mono ?_;(with_reducible repeat' (first|assumption|refine bal ?_ _|refine Below.drew ?_|exact bzR _ _|exact nzR _|exact Below.size (by assumption)|refine jD ?_));rintro x U ⟨rfl,hbn⟩))
          all_goals
           go_wp2_with fail
           go_meet
           exact⟨rfl,rfl,rfl,show Below V.heap.size V _ by with_reducible repeat' (first|assumption|refine bal ?_ _|refine Below.drew ?_|exact bzR _ _|exact nzR _|exact Below.size (by assumption)|refine jD ?_)⟩
         case rest=>
         obtain⟨rfl,rfl,rfl,HB⟩:=hcut
         have HHC:=hidF (HHV.out.below HB.out)
         have HRC:=hidF (zBl HRV.out HB.out)
         clear z0 z1 z2 z3 z4 hpv SO HLV HB HLF HPV HHV HRV HBS
         obtain⟨z0,z1,z2,z3,z4,-⟩:=sid.zAe HRC.out
         have n1:¬(u:Int)<1:=by have:=HU.out;omega
         have n9:¬9<(u:Int):=by have:=HU.out;omega
         have n0:¬(u:Int)<0:=by have:=HU.out;omega
         have n10:(u:Int)<10:=by have:=HU.out;omega
         have hu10:u<10:=by have:=HU.out;omega
         go_upto_region 45 with fail
         have cA:=HHC.out.a1.cell hu10
         have fA:=HHC.out.a1.froz u
         have ew:=HSM.out.2.2.1
         go_region
         have HHD:=hidF (HHC.out.put1 hu10 C)
         have HRD:Hid ((wc.setCell ⟨A1,u,none⟩ (.int .i64 (X2 u+C))).heap[RB]?=some (.cells #[.int .i64 b1,.int .i64 u,.int .i64 b3,.int .i64 b4,.int .i64 b5] 54 (0,0))):=((wak.gr_setCell wc A1 u _).block RB (gzE.1 HRC.out).1 (fun e=>by cases e;have:=HLT.out;omega)).trans HRC.out
         generalize wc.setCell ⟨A1,u,none⟩ (.int .i64 (X2 u+C))=wd at *
         clear cA fA ew z0 z1 z2 z3 z4 n1 n9 HHC HRC
         obtain⟨-,z1,-⟩:=sid.zAe HRD.out
         have cA:=HHD.out.a2.cell hu10
         have fA:=HHD.out.a2.froz u
         have ew:=HSM.out.2.2.2
         go_upto_region 46 with fail
         go_region
         have HHE:=hidF (HHD.out.put2 hu10 D)
         generalize wd.setCell ⟨A2,u,none⟩ (.int .i64 (Y2 u+D))=we at *
         clear cA fA ew z1 n0 n10 HHD HRD
         go_wp2_with fail
         go_roundg (m5 - (k+1))
         case measure=>have:=HK5.out;clear ek ei;omega
         case rel=>exact⟨k+1,addF X2 u C,addF Y2 u D,HK5.out.1,nzR _,by first|rfl|exact congrArg (Value.int .i64) ek,HHE.out.below (bzR _ _).drew.drew,HSM.out.1,HSM.out.2.1⟩
        ·obtain rfl:k=m5:=by omega
         have hkz:¬(k:Int)<(k:Int):=by omega
         have hsn:=zMv HM5.out.2.2
         rw[←HM5.out.1] at hsn
         have HA5:Hid (HdI w wr F f A1 A2 P B (.slice r1 l1 k1) (.slice r2 l2 k2) X2 Y2∧(∀j:Nat,X2 j=X0 j+sumI (nC K j) (seen ls (i+1) 0))∧∀j:Nat,Y2 j=sumI (nS K j) (seen ls (i+1) 0)):=by rw[←hsn];exact HA.out
         clear hsn hrl hrs x0 hbs hlt hk hg HA hm60
         go_wp2_with fail
         go_roundg (ns - (i+1))
         case measure=>have:=HK4.out;clear ei;omega
         case rel=>exact⟨i+1,X2,Y2,HK4.out.1,nzR _,by first|rfl|exact congrArg (Value.int .i64) ei,HA5.out⟩
      ·obtain rfl:i=ns:=by omega
       have hiz:¬(i:Int)<(i:Int):=by omega
       have hse:=zOV ls
       rw[←HNS.out] at hse
       have hA:=HA.out
       rw[hse] at hA
       have HA5:=hidF (And.intro hA.1 (HNX.out X1 Y1 hA.2.1 hA.2.2))
       have eK:=HK.out.2.2.2
       clear hA hse hlt hi hg HA HLS HLE HBD HNE HNS HNX HSK
       go_wp2_with fail
       go_roundg (2 - (ph+1))
       case measure=>have:=HK.out;clear eK;omega
       case rel=>exact⟨ph+1,K1,X1,Y1,HK.out.1,nzR _,by first|rfl|exact congrArg (Value.int .i64) eK,HK.out.2.2.1,HA5.out⟩
    ·obtain rfl:ph=2:=by omega
     have hle:¬K≤2:=by have:=HA.out.1;omega
     have HA7:Hid (HdI w wr F f A1 A2 P B (.slice r1 l1 k1) (.slice r2 l2 k2) X0 Y0∧(∀j:Nat,X0 j=sumI (rC j) (prs f.bs))∧∀j:Nat,Y0 j=sumI (rS j) (prs f.ss)):=⟨HA.out.2.1,HA.out.2.2.1,HA.out.2.2.2⟩
     obtain⟨v,hv⟩:=HA.out.2.1.fl.fm
     have HST:=hidF (zMp F f v wr hv HFI.out.iv.wf.ws)
     have HLW:Hid (A1<wr.heap.size∧A2<wr.heap.size):=⟨HA.out.2.1.a1.lt,HA.out.2.1.a2.lt⟩
     clear hv hlt hph hg HA
     go_wp2_with fail
     refine HST.out.mono ?_
     rintro e w11⟨qw,cw,rfl,ow,hb11⟩
     have HH11:=hidF (HA7.out.1.below hb11)
     have HOW:=hidF ow
     have HXY:=hidF HA7.out.2
     have hwl:f.ws.length≤20:=HFI.out.iv.wf.ws
     generalize wr.heap.size=BW at *
     obtain⟨nw,hnw⟩:∃t,t=f.ws.length:=⟨_,rfl⟩
     rw[←hnw]
     rw[←hnw] at hwl
     have HNW:=hidF hnw
     clear ow hb11 HST HA7 hle hnw
     go_wp2_with fail
     go_loopg [33,34,35,36] nw (fun gg s33 _ _ _ wr=>∃ (i:Nat) (X Y:Nat→Int),i≤nw∧nw - i≤gg∧s33=.int .i64 i∧Aside (HdI w wr F f A1 A2 P B (.slice r1 l1 k1) (.slice r2 l2 k2) X Y∧OwnM wr BW 32 8 (.slice qw nw cw) nw (wak.flat f.ws)∧(∀j:Nat,X j=sumI (rC j) (prs f.bs)+sumI (oC j) (f.ws.take i))∧∀j:Nat,Y j=sumI (rS j) (prs f.ss)+sumI (oS j) (f.ws.take i)))
     case atStart=>exact⟨0,X0,Y0,jL _,by omega,rfl,HH11.out,by rw[HNW.out];exact HOW.out,fun j=>by rw[HXY.out.1 j];exact(Int.add_zero _).symm,fun j=>by rw[HXY.out.2 j];exact(Int.add_zero _).symm⟩
     case round=>
      clear HH11 HOW HXY
      obtain⟨i,X1,Y1,hi,hg,rfl,HA⟩:=hrel
      by_cases hlt:i<nw
      ·as_aux_lemma=>
       have hiz:(i:Int)<(nw:Int):=by omega
       have hi0:¬((i:Int)<0):=by omega
       have ei:=zMA i (by omega)
       have hil:i<f.ws.length:=by rw[←HNW.out];exact hlt
       have hoq:OwnQ wr BW (.slice qw nw cw) f.ws:=by have:=HA.out.2.1;rw[HNW.out] at this ⊢;exact this
       obtain⟨g,off,rfl,hgw,y0,y1,y2,y3,y4,y5,y6,y7⟩:=zPj hoq hil
       have hck:chk (f.ws[i]!)=0:=HFI.out.iv.wck _ (by rw[wak.getE _ _ hil];exact jT _)
       have hst1:=fun j=>zGY (oC j) hil
       have hst2:=fun j=>zGY (oS j) hil
       generalize f.ws[i]! = z at *
       obtain⟨b1,b2,b3,b4,b5,b6,b7,b8⟩:=z
       have hwho:=zQO hck
       obtain⟨u,rfl⟩:∃u:Nat,b2=(u:Int):=⟨b2.toNat,by have:=hwho.1;simp only[] at this;omega⟩
       have hu:1≤u∧u≤9:=by simp only[] at hwho;omega
       have hfa:=zGK hck
       have HFO:Hid (∀U,Calls Tryz.prog 15 #[.agg #[.int .i64 b1,.int .i64 u,.int .i64 b3,.int .i64 b4,.int .i64 b5,.int .i64 b6,.int .i64 b7,.int .i64 b8]] U fun e w'=>e=.returned (.tuple #[.int .i64 (forC ⟨b1,u,b3,b4,b5,b6,b7,b8⟩),.int .i64 (forS ⟨b1,u,b3,b4,b5,b6,b7,b8⟩),.nilIface])∧Below U.heap.size U w'):=fun U=>by
        have:=mrg.zEn ⟨b1,u,b3,b4,b5,b6,b7,b8⟩ U
        rw[hck,errV_zero] at this
        exact this
       generalize forC ⟨b1,(u:Int),b3,b4,b5,b6,b7,b8⟩=C at *
       generalize forS ⟨b1,(u:Int),b3,b4,b5,b6,b7,b8⟩=D at *
       have hX3:∀j:Nat,addF X1 u C j=sumI (rC j) (prs f.bs)+sumI (oC j) (f.ws.take (i+1)):=fun j=>by
        rw[hst1]
        unfold addF
        rw[HA.out.2.2.1 j,(hfa j).1];omega
       have hY3:∀j:Nat,addF Y1 u D j=sumI (rS j) (prs f.ss)+sumI (oS j) (f.ws.take (i+1)):=fun j=>by
        rw[hst2]
        unfold addF
        rw[HA.out.2.2.2 j,(hfa j).2];omega
       have ew1:wrap64 (X1 u+C)=X1 u+C:=by
        have h1:=hX3 u
        have h2:=(zET HFI.out (i+1) (j:=(u:Int)) (by omega) (by omega)).1
        rw[←h1] at h2
        unfold addF at1 at h2
        rw[if_pos rfl] at h2
        exact zFH _ _ rfl (by omega) (by omega)
       have ew2:wrap64 (Y1 u+D)=Y1 u+D:=by
        have h1:=hY3 u
        have h2:=(zET HFI.out (i+1) (j:=(u:Int)) (by omega) (by omega)).2
        rw[←h1] at h2
        unfold addF at1 at h2
        rw[if_pos rfl] at h2
        exact zFH _ _ rfl (by omega) (by omega)
       have HSM:=hidF (And.intro hX3 (And.intro hY3 (And.intro ew1 ew2)))
       have HK6:Hid (i<nw∧nw - i≤gk):=⟨hlt,hg⟩
       have HU:=hidF hu
       have HYG:Hid (g<wr.heap.size∧wr.cell? ⟨g,off+i*8+1,none⟩=some (.int .i64 u)):=⟨hgw,y1⟩
       have HA6:=hidF (And.intro HA.out.1 HA.out.2.1)
       have HGB:Hid (BW≤g):=by
        have h:=(OwnM.lt HA.out.2.1 g rfl).1
        exact h
       clear hck hst1 hst2 hwho hfa hX3 hY3 ew1 ew2 hu hlt hi hg HA hil hoq hgw
       simp only[] at y0 y1 y2 y3 y4 y5 y6 y7
       go_wp2_with fail
       refine(HFO.out _).mono ?_
       rintro e w12⟨rfl,hb12⟩
       have HHC:=hidF (HA6.out.1.below hb12)
       have HOC:=hidF (OwnM.below HA6.out.2 hb12)
       have HYC:Hid (w12.cell? ⟨g,off+i*8+1,none⟩=some (.int .i64 u)):=(hb12.cell (p:=⟨g,off+i*8+1,none⟩) HYG.out.1).trans HYG.out.2
       clear y0 y1 y2 y3 y4 y5 y6 y7 hb12 HFO HA6 HYG hiz
       have n1:¬(u:Int)<1:=by have:=HU.out;omega
       have n9:¬9<(u:Int):=by have:=HU.out;omega
       have n0:¬(u:Int)<0:=by have:=HU.out;omega
       have n10:(u:Int)<10:=by have:=HU.out;omega
       have hu10:u<10:=by have:=HU.out;omega
       have hiz:(i:Int)<(nw:Int):=by have:=HK6.out;omega
       have yc:=HYC.out
       go_upto_region 54 with fail
       have cA:=HHC.out.a1.cell hu10
       have fA:=HHC.out.a1.froz u
       have ew:=HSM.out.2.2.1
       go_region
       have HHD:=hidF (HHC.out.put1 hu10 C)
       have HOD:=hidF (OwnM.kept HOC.out (wak.gr_setCell w12 A1 u (.int .i64 (X1 u+C))) (.inr (fun e=>by have e2:g=A1:=(by simpa [Value.ownBlock] using e);have:=HGB.out;have:=HLW.out;omega)))
       have HYD:Hid ((w12.setCell ⟨A1,u,none⟩ (.int .i64 (X1 u+C))).cell? ⟨g,off+i*8+1,none⟩=some (.int .i64 u)):=by
        have hb:=(wak.gr_setCell w12 A1 u (.int .i64 (X1 u+C))).block g ((OwnM.lt HOC.out g rfl).2) (fun e=>by cases e;have:=HGB.out;have:=HLW.out;omega)
        have hc:=HYC.out
        unfold World.cell? at hc ⊢
        rw[show (w12.setCell ⟨A1,u,none⟩ (.int .i64 (X1 u+C))).heap[(⟨g,off+i*8+1,none⟩:Addr).block]?=w12.heap[(⟨g,off+i*8+1,none⟩:Addr).block]? from hb]
        exact hc
       generalize w12.setCell ⟨A1,u,none⟩ (.int .i64 (X1 u+C))=wd at *
       clear cA fA ew n1 n9 yc HHC HOC HYC
       have yc:=HYD.out
       have cA:=HHD.out.a2.cell hu10
       have fA:=HHD.out.a2.froz u
       have ew:=HSM.out.2.2.2
       go_upto_region 55 with fail
       go_region
       have HHE:=hidF (HHD.out.put2 hu10 D)
       have HOE:=hidF (OwnM.kept HOD.out (wak.gr_setCell wd A2 u (.int .i64 (Y1 u+D))) (.inr (fun e=>by have e2:g=A2:=(by simpa [Value.ownBlock] using e);have:=HGB.out;have:=HLW.out;omega)))
       generalize wd.setCell ⟨A2,u,none⟩ (.int .i64 (Y1 u+D))=we at *
       clear cA fA ew n0 n10 yc HHD HOD HYD
       go_wp2_with fail
       go_roundg (nw - (i+1))
       case measure=>have:=HK6.out;clear ei;omega
       case rel=>exact⟨i+1,addF X1 u C,addF Y1 u D,HK6.out.1,nzR _,by first|rfl|exact congrArg (Value.int .i64) ei,HHE.out.below (bzR _ _).drew.drew,OwnM.below HOE.out (bzR _ _).drew.drew,HSM.out.1,HSM.out.2.1⟩
      ·obtain rfl:i=nw:=by omega
       have hiz:¬(i:Int)<(i:Int):=by omega
       have hA:=HA.out
       have ht:f.ws.take i=f.ws:=by rw[HNW.out];exact List.take_length
       rw[ht] at hA
       have HA8:Hid (HdI w wr F f A1 A2 P B (.slice r1 l1 k1) (.slice r2 l2 k2) X1 Y1∧∀t:Nat,t<9→X1 (t+1)=(f.ps[t]!).held∧Y1 (t+1)=(f.ps[t]!).hs):=⟨hA.1,fun t ht=>by
        have h:=zQY HFI.out ht
        exact⟨(hA.2.2.1 (t+1)).trans h.1.symm,(hA.2.2.2 (t+1)).trans h.2.symm⟩⟩
       clear hA ht hlt hi hg HA HNW hwl
       go_wp2_with fail
       go_loopg [15,16,37,38,39] 9 (fun gg s15 s16 s37 _ _ wr=>∃ (t:Nat) (x y:Int),t≤9∧9 - t≤gg∧s15=.int .i64 x∧s16=.int .i64 y∧s37=.int .i64 ((t+1:Nat):Int)∧Aside (x=c - sumC (f.ps.take t)∧y=d - sumS (f.ps.take t)∧HdI w wr F f A1 A2 P B (.slice r1 l1 k1) (.slice r2 l2 k2) X1 Y1))
       case atStart=>exact⟨0,c,d,jL _,by omega,rfl,rfl,rfl,by rw[show sumC (f.ps.take 0)=0 from rfl];omega,by rw[show sumS (f.ps.take 0)=0 from rfl];omega,HA8.out.1⟩
       case round=>
        obtain⟨t,x,y,ht,hg,rfl,rfl,rfl,HA⟩:=hrel
        clear hiz
        by_cases hlt:t<9
        ·as_aux_lemma=>
         have hp:=zMs t hlt HA.out.2.2.fl ((t+1:Nat):Int) (by omega)
         have hst:=zOT HFI.out hlt
         have hb1:=zGW HFI.out (jX hlt)
         have hb2:=zGW HFI.out (show t+1≤9 from hlt)
         have hcd:=HFI.out.small
         have hzz:=zOU HFI.out hlt
         have hxy:=HA8.out.2 t hlt
         have h2:=hzz.hc
         have h4:=hzz.ts
         have h1:=hzz.h0
         have h3:=hzz.t0
         clear hzz
         generalize f.ps[t]! = z at *
         obtain⟨zw,zc,zh,zs',zt⟩:=z
         simp only[] at hp hst hxy h1 h2 h3 h4
         have hx:=HA.out.1
         have hy:=HA.out.2.1
         obtain⟨x1,hx1⟩:∃s,s=x - zc:=⟨_,rfl⟩
         obtain⟨y1,hy1⟩:∃s,s=y - zs':=⟨_,rfl⟩
         have HX1:Hid (x1=c - sumC (f.ps.take (t+1))∧y1=d - sumS (f.ps.take (t+1))):=⟨by omega,by omega⟩
         obtain⟨T,hT⟩:∃T,T=t+1:=⟨_,rfl⟩
         rw[←hT] at hp hxy ⊢
         have hT1:(T:Int)≤9:=by omega
         have hT0:¬(T:Int)<0:=by omega
         have hT10:(T:Int)<10:=by omega
         have hT10n:T<10:=by omega
         have hTb:T≤1000000:=by omega
         have HKT:Hid (t<9∧9 - t≤gk∧T=t+1):=⟨hlt,hg,hT⟩
         have HDT:Hid (decide (zc<zh)=false∧decide (zs'<zt)=false):=⟨decide_eq_false (by omega),decide_eq_false (by omega)⟩
         have g1 : -9000000000000000000≤x1∧x1≤9000000000000000000:=by omega
         have g2 : -9000000000000000000≤y1∧y1≤9000000000000000000:=by omega
         have HP:=hidF hp
         have HXY:=hidF hxy
         have HHT:=hidF HA.out.2.2
         have HWT:=hidF (And.intro (zFH (x - zc) x1 hx1.symm g1.1 g1.2) (And.intro (zFH (y - zs') y1 hy1.symm g2.1 g2.2) (zMA T hTb)))
         clear hp hxy hst hb1 hb2 hcd h1 h2 h3 h4 hx hy hx1 hy1 hlt ht hg g1 g2 hTb HA hT
         go_wp2_with fail
         refine HP.out.mono ?_
         rintro e w13⟨rfl,-,hb13⟩
         have hb5:Below w13.heap.size w13 (w13.alloc (.cells #[.int .i64 zw,.int .i64 zc,.int .i64 zh,.int .i64 zs',.int .i64 zt] 36)):=(bzR _ _).alloc (nzR _) _
         have hr5:(w13.alloc (.cells #[.int .i64 zw,.int .i64 zc,.int .i64 zh,.int .i64 zs',.int .i64 zt] 36)).heap[w13.heap.size]?=some (.cells #[.int .i64 zw,.int .i64 zc,.int .i64 zh,.int .i64 zs',.int .i64 zt] 36 (0,0)):=jA w13 _
         have HHU:=hidF ((HHT.out.below hb13).below hb5)
         have HR5:=hidF hr5
         clear hb13 hb5 hr5 HP HHT hT1
         go_upto_region 60 with fail
         generalize w13.alloc (.cells #[.int .i64 zw,.int .i64 zc,.int .i64 zh,.int .i64 zs',.int .i64 zt] 36)=W13 at *
         generalize w13.heap.size=P13 at *
         obtain⟨q0,q1,q2',q3',q4,-⟩:=sid.zAe HR5.out
         have cA:=HHU.out.a1.cell hT10n
         have cB:=HHU.out.a2.cell hT10n
         have hXT:X1 T=zh:=HXY.out.1
         have hYT:Y1 T=zt:=HXY.out.2
         rw[hXT] at cA
         rw[hYT] at cB
         have d1':=HDT.out.1
         have d2':=HDT.out.2
         clear hXT hYT
         have HHQ:=hidF (fun n=>And.intro (HHU.out.below (sid.zCN (bzR _ _) n)) (show (W13.drewN n).heap[P13]?=some (.cells #[.int .i64 zw,.int .i64 zc,.int .i64 zh,.int .i64 zs',.int .i64 zt] 36 (0,0)) from HR5.out))
         go_quiet (fail)
         have hq:=HHQ.out nq
         generalize W13.drewN nq=Wq at hq ⊢
         clear q0 q1 q2' q3' q4 cA cB d1' d2' hT0 hT10 HHQ HHU HR5
         obtain⟨hHd,hRw⟩:=hq
         obtain⟨q0,q1,q2',q3',q4,-⟩:=sid.zAe hRw
         have HHV:=hidF hHd
         have ex:=HWT.out.1
         have ey:=HWT.out.2.1
         have eT:=HWT.out.2.2
         clear hHd hRw hT10n
         go_wp2_with fail
         go_roundg (9 - (t+1))
         case measure=>have:=HKT.out;clear ex ey eT;omega
         case rel=>exact⟨t+1,x1,y1,HKT.out.1,nzR _,by first|rfl|exact congrArg (Value.int .i64) ex,by first|rfl|exact congrArg (Value.int .i64) ey,by have h3:=HKT.out.2.2;subst h3;first|rfl|exact congrArg (Value.int .i64) HWT.out.2.2,HX1.out.1,HX1.out.2,HHV.out⟩
        ·obtain rfl:t=9:=by omega
         have hle:¬(((9+1:Nat):Int)≤9):=by decide
         have hsm:=zQX HFI.out
         obtain rfl:x=0:=by have:=HA.out.1;omega
         obtain rfl:y=0:=by have:=HA.out.2.1;omega
         obtain⟨v,hv⟩:=HA.out.2.2.fl.fm
         have HLA:=hidF (zOR F f v wr hv)
         have HBL:=hidF HA.out.2.2.fl.bel
         have hl:f.last=0∨prB f.last=true:=HFI.out.iv.last
         generalize f.last=lp at HLA hl
         clear hv hsm hlt ht hg HA
         rcases hl with rfl|hp
         ·go_wp2_with fail
          refine HLA.out.mono ?_
          rintro e w14⟨rfl,rfl⟩
          go_wp2_with fail
          go_ret
          exact⟨rfl,HBL.out⟩
         ·have hzb:(lp == 0)=false:=by
           cases hb:(lp == 0) with
           | false=>rfl
           | true=>
            have:lp=0:=by simpa using hb
            rw[this] at hp
            exact absurd hp (by decide)
          have HPR:=hidF hp
          clear hp
          go_wp2_with fail
          refine HLA.out.mono ?_
          rintro e w14⟨rfl,rfl⟩
          go_wp2_with fail
          refine HLA.out.mono ?_
          rintro e w15⟨rfl,rfl⟩
          go_wp2_with fail
          refine(ord.zBM lp _ HPR.out).mono ?_
          rintro e w16⟨rfl,hb16⟩
          have HB16:=hidF (HBL.out.trans (hb16.mono HBL.out.size))
          clear hb16
          go_wp2_with fail
          go_ret
          exact⟨rfl,HB16.out⟩
end flr
end Go.Proofs.YtifjhlgjgnnnpaaGreat
