import Derived.Test.YtifjhlgjgnnnpaaGreatFCLaw
import Derived.Test.YtifjhlgjgnnnpaaGreatFlrOne
import Derived.Test.YtifjhlgjgnnnpaaGreatBokCnt
import Derived.BigQuiet
set_option maxHeartbeats 8000000
set_option maxRecDepth 100000
namespace Go.Proofs.YtifjhlgjgnnnpaaGreat
namespace flr
open Go.RowKit
open que (R rchk)
open sid (L DL LS allR)
open mee (T tV OwnT sumT)
open ord (O oV chk errV errV_zero errV_of prB)
open bok (bookE inBook)
open pur (Pz Pu Ok flatP pL ix)
open sms (sumC sumS)
open wak (OwnM OwnQ St SL Lies oL idx Trn)
theorem wrapS(x y:Int)(h:x=y)(h1 : -9000000000000000000≤y)(h2:y≤9000000000000000000):wrap64 x=y:=by subst h;unfold wrap64;omega
theorem succS(k:Nat)(h:k≤1000000):wrap64 ((k:Int)+1)=((k+1:Nat):Int):=by unfold wrap64;omega
theorem zIo(m:Int)(q:Option Addr)(n cc:Nat)(zs:List Cm)(w:World)(hS:CL w (.slice q n cc) zs)(m0:0≤m)(m3:m≤3) :
  Calls Tryz.prog 6 #[.int .i64 m,.slice q n cc] w fun e w'=>e=.returned (.bool true)∧Below w.heap.size w w':=by
 have HS:=hidF hS
 have HM:=hidF (And.intro m0 m3)
 have HN:Hid (n=zs.length):=by obtain⟨q',c',e,-⟩:=hS.form;cases e;rfl
 clear hS m0 m3
 go_enter Tryz.func6,Tryz.ntmps6
 go_wp2_with fail
 refine(tcw.one_any _).mono ?_
 rintro e w1⟨rfl,hb1⟩
 have HB1:=hidF hb1
 clear hb1
 go_wp2_with fail
 refine(new_law (w:=w) m HM.out.1 HM.out.2 HB1.out).mono ?_
 rintro e w2⟨F,rfl,h2⟩
 have H2:=hidF h2
 clear h2 HB1
 go_wp2_with fail
 go_loopg [8,9,10,11,12] 60 (fun gg s8 s9 s10 _ _ wr=>∃ (kk:Nat) (c d:Int),kk≤n∧kk≤60∧60 - kk≤gg∧s8=.int .i64 c∧s9=.int .i64 d∧s10=.int .i64 kk∧Aside (LoopI w wr F m c d))
 case atStart=>exact⟨0,0,0,Nat.zero_le _,by omega,by omega,rfl,rfl,rfl,H2.out⟩
 case round=>
  clear H2
  obtain⟨kk,c,d,hkk,hk60,hg,rfl,rfl,rfl,HA⟩:=hrel
  by_cases hlt:kk<n∧kk<60
  ·have h1z:(kk:Int)<(n:Int):=by omega
   have h2z:(kk:Int)<60:=by omega
   obtain⟨g,off,rfl,hgw,hx,hwf⟩:=HS.out.at (k:=kk) (by rw[←HN.out];exact hlt.1)
   rcases hcm:zs[kk]! with ⟨what,⟨a1,a2,a3,a4,a5,a6,a7,a8⟩,who,num⟩
   rw[hcm] at hx hwf
   have HX:Hid (∀W,Below w.heap.size w W→∀i v,(cmL ⟨what,⟨a1,a2,a3,a4,a5,a6,a7,a8⟩,who,num⟩)[i]?=some v→W.cell? ⟨g,off+kk*11+i,none⟩=some v):=fun W hW i v hv=>(hW.cell (p:=⟨g,off+kk*11+i,none⟩) hgw).trans (hx i v hv)
   have HWF:=hidF hwf
   have HK:Hid (kk<n∧kk<60∧60 - kk≤gk):=⟨hlt.1,hlt.2,hg⟩
   have hb:=HA.out.bel
   have x0:=HX.out wr hb 0 _ rfl
   have x1:=HX.out wr hb 1 _ rfl
   have x2:=HX.out wr hb 2 _ rfl
   have x3:=HX.out wr hb 3 _ rfl
   have x4:=HX.out wr hb 4 _ rfl
   have x5:=HX.out wr hb 5 _ rfl
   have x6:=HX.out wr hb 6 _ rfl
   have x7:=HX.out wr hb 7 _ rfl
   have x8:=HX.out wr hb 8 _ rfl
   have x9:=HX.out wr hb 9 _ rfl
   have x10:=HX.out wr hb 10 _ rfl
   simp only[Nat.add_zero] at x0
   have ei:=succS kk (by omega)
   have hn0:¬((kk:Int)<0):=by omega
   clear hcm hx hwf hlt hkk hk60 hg hb hgw
   go_wp2_with fail
   refine(do_law what a1 a2 a3 a4 a5 a6 a7 a8 who num HA.out HWF.out).mono ?_
   rintro e w3 hpost
   have hb3:Below w.heap.size w w3:=by
    rcases hpost with ⟨_,_,_,-,-,-,h⟩|⟨_,-,h⟩
    ·exact h.bel
    ·exact h.bel
   have y0:=HX.out w3 hb3 0 _ rfl
   have y10:=HX.out w3 hb3 10 _ rfl
   simp only[Nat.add_zero] at y0
   clear x0 x1 x2 x3 x4 x5 x6 x7 x8 x9 x10 hb3
   rcases hpost with ⟨q3,evs,k3,rfl,-,-,h3⟩|⟨k3,rfl,h3⟩
   ·generalize evs.length=ne
    by_cases h4:what=4
    ·subst h4
     rw[show paid ⟨4,⟨a1,a2,a3,a4,a5,a6,a7,a8⟩,who,num⟩=num from rfl,show given ⟨4,⟨a1,a2,a3,a4,a5,a6,a7,a8⟩,who,num⟩=0 from rfl,Int.add_zero] at h3
     have hsm:=h3.small
     obtain⟨c1,hc1⟩:∃x,x=c+num:=⟨_,rfl⟩
     have ec:=wrapS (c+num) c1 hc1.symm (by omega) (by omega)
     rw[←hc1] at h3
     have H3:=hidF h3
     clear h3 hsm hc1
     go_wp2_with fail
     go_roundg (60 - (kk+1))
     case measure=>have:=HK.out;clear ei ec;omega
     case rel=>exact⟨kk+1,c1,d,HK.out.1,HK.out.2.1,nzR _,by first|rfl|exact congrArg (Value.int .i64) ec,rfl,by first|rfl|exact congrArg (Value.int .i64) ei,H3.out⟩
    ·by_cases h5:what=5
     ·subst h5
      rw[show paid ⟨5,⟨a1,a2,a3,a4,a5,a6,a7,a8⟩,who,num⟩=0 from rfl,show given ⟨5,⟨a1,a2,a3,a4,a5,a6,a7,a8⟩,who,num⟩=num from rfl,Int.add_zero] at h3
      have hsm:=h3.small
      obtain⟨c1,hc1⟩:∃x,x=d+num:=⟨_,rfl⟩
      have ec:=wrapS (d+num) c1 hc1.symm (by omega) (by omega)
      rw[←hc1] at h3
      have H3:=hidF h3
      clear h3 hsm hc1 h4
      go_wp2_with fail
      go_roundg (60 - (kk+1))
      case measure=>have:=HK.out;clear ei ec;omega
      case rel=>exact⟨kk+1,c,c1,HK.out.1,HK.out.2.1,nzR _,rfl,by first|rfl|exact congrArg (Value.int .i64) ec,by first|rfl|exact congrArg (Value.int .i64) ei,H3.out⟩
     ·have e4:paid ⟨what,⟨a1,a2,a3,a4,a5,a6,a7,a8⟩,who,num⟩=0:=by unfold paid;rw[if_neg h4]
      have e5:given ⟨what,⟨a1,a2,a3,a4,a5,a6,a7,a8⟩,who,num⟩=0:=by unfold given;rw[if_neg h5]
      rw[e4,e5,Int.add_zero,Int.add_zero] at h3
      have H3:=hidF h3
      have b4:(what == 4)=false:=by simpa using h4
      have b5:(what == 5)=false:=by simpa using h5
      clear h3 e4 e5
      go_wp2_with fail
      go_roundg (60 - (kk+1))
      case measure=>have:=HK.out;clear ei;omega
      case rel=>exact⟨kk+1,c,d,HK.out.1,HK.out.2.1,nzR _,rfl,rfl,by first|rfl|exact congrArg (Value.int .i64) ei,H3.out⟩
   ·have H3:=hidF h3
    clear h3
    go_wp2_with fail
    go_roundg (60 - (kk+1))
    case measure=>have:=HK.out;clear ei;omega
    case rel=>exact⟨kk+1,c,d,HK.out.1,HK.out.2.1,nzR _,rfl,rfl,by first|rfl|exact congrArg (Value.int .i64) ei,H3.out⟩
  ·have hend:Hid (((kk:Int)<(n:Int)∧¬(kk:Int)<60)∨¬(kk:Int)<(n:Int)):=by
    by_cases h1:kk<n
    ·exact .inl ⟨by omega,by omega⟩
    ·exact .inr (by omega)
   clear hlt hkk hk60 hg
   go_upto_region 10 with fail
   go_cut [50] from 43 to 50 (fun s50 wx=>s50=.bool false∧wx=wr)
   case first=>
    rcases hend.out with ⟨e1,e2⟩|e1
    ·go_wp2_with fail
     go_meet
     case rel=>exact⟨rfl,rfl⟩
    ·go_wp2_with fail
     go_meet
     case rel=>exact⟨rfl,rfl⟩
   case rest=>
   obtain⟨rfl,rfl⟩:=hcut
   clear hend
   generalize wc=W at *
   obtain⟨f,hF,hI,-⟩:=HA.out.ex
   obtain⟨v,hv⟩:=hF.fm
   have hbk:=hI.iv.wf.book
   obtain⟨s1,s2,-⟩:=bok.zAb hbk
   have HC1:Hid (sid.cnt f.bs≤60∧sid.cnt f.ss≤60):=⟨(sid.zAa s1).2.2.1,(sid.zAa s2).2.2.1⟩
   have HBK:=hidF (zFj F f v W hv hbk)
   have HFM:=hidF hv
   have HFA:=hidF hF
   have HFI:=hidF hI
   clear hv hF hI hbk s1 s2 HA
   go_wp2_with fail
   refine HBK.out.mono ?_
   rintro e w3⟨r1,l1,k1,r2,l2,k2,rfl,D1,D2,hb3⟩
   obtain⟨W3,hW3⟩:∃W3,W3=w3.alloc (.cells #[.slice r1 l1 k1,.slice r2 l2 k2] 46):=⟨_,rfl⟩
   have hb33:Below w3.heap.size w3 W3:=by rw[hW3];exact(bzR _ _).alloc (nzR _) _
   have hr3:W3.heap[w3.heap.size]?=some (.cells #[.slice r1 l1 k1,.slice r2 l2 k2] 46 (0,0)):=by rw[hW3];exact heap_alloc_new w3 _
   have hbW3:=hb3.trans (hb33.mono hb3.size)
   have HD:Hid (LS W3 (.slice r1 l1 k1) f.bs∧LS W3 (.slice r2 l2 k2) f.ss):=⟨D1.ls.below hb33,D2.ls.below hb33⟩
   have HR3:=hidF hr3
   have HB3:=hidF hbW3
   have HFW:Hid (F<W3.heap.size):=Nat.lt_of_lt_of_le HFM.out.lt hbW3.size
   clear hb33 hr3 hbW3 D1 D2 hb3 HBK
   go_upto_region 18 with fail
   rw[←hW3]
   generalize w3.heap.size=P at *
   clear hW3
   obtain⟨p0,p1,-⟩:=sid.rowTwo HR3.out
   go_wp2_with fail
   refine(sid.zFA _ f.bs W3 HD.out.1 HC1.out.1).mono ?_
   rintro e w4⟨u1,rfl,o4,hb4⟩
   have HO4:=hidF o4
   have HB4:=hidF hb4
   have hr4:=keepF HR3.out hb4
   clear p0 p1 o4 hb4
   obtain⟨p0,p1,-⟩:=sid.rowTwo hr4
   go_wp2_with fail
   refine(sid.zFA _ f.ss w4 (HD.out.2.below HB4.out) HC1.out.2).mono ?_
   rintro e w5⟨u2,rfl,o5,hb5⟩
   have hle:(allR f.bs).length+(allR f.ss).length≤1000:=by
    have e1:=sid.allR_len f.bs
    have e2:=sid.allR_len f.ss
    have:=HC1.out
    omega
   obtain⟨v6,w6,hap,o6,hg6,-⟩:=sid.zFz w5 W3.heap.size u1 u2 (allR f.bs) (allR f.ss) (que.OwnM.below HO4.out hb5) (que.OwnQ.sl o5) hle (Nat.le_trans HB4.out.size hb5.size)
   have hb46:Below W3.heap.size W3 w6:=(HB4.out.trans (hb5.mono HB4.out.size)).grown hg6 (Nat.le_trans HB4.out.size hb5.size) (fun k hk=>(que.OwnM.lt HO4.out k hk).1)
   have HAP:=hidF hap
   have HB6:=hidF (HB3.out.trans (hb46.mono HB3.out.size))
   have HO6:=hidF o6
   have HS6:=hidF hb46.size
   clear o5 hb5 hle hap o6 hg6 hb46 HO4 HB4 hr4 p0 p1
   go_wp2_with (at_builtin;refine Lib.wpList_append_run _ rfl _ _ _ _ rfl _ _ rfl rfl _ _ HAP.out ?_)
   refine(zFi F f v w6 (HFM.out.below HB6.out) HFI.out.iv.wf.ws).mono ?_
   rintro e w7⟨q7,c7,rfl,o7,hb7⟩
   obtain⟨q6,c6,hq6⟩:=q_form HO6.out
   subst hq6
   have hC0:CxI w w7 F W3.heap.size q6 (allR f.bs++allR f.ss).length c6 (allR f.bs++allR f.ss) q7 f.ws.length c7 f.ws f.mode c d 0 0:=⟨⟨f,(HFA.out.keep HB6.out).keep hb7,HFI.out,rfl,List.Perm.refl _,List.Perm.refl _⟩,HFW.out,que.OwnM.below HO6.out hb7,OwnM.mono o7 HS6.out⟩
   have HC0:=hidF hC0
   have HLN:Hid ((allR f.bs++allR f.ss).length≤1000∧f.ws.length≤1000):=by
    have e1:=sid.allR_len f.bs
    have e2:=sid.allR_len f.ss
    have:=HC1.out
    have:=HFI.out.iv.wf.ws
    have e3:(turnOf f).ws=f.ws:=rfl
    rw[e3] at this
    refine⟨?_,by omega⟩
    rw[List.length_append];omega
   generalize W3.heap.size=B at *
   generalize f.mode=mm at *
   generalize allR f.bs++allR f.ss=RS at *
   generalize f.ws=WS at *
   clear hC0 o7 hb7 HO6 HB6 HAP HS6 HFW HD HR3 HB3 HC1 HFM HFA HFI
   clear f v
   generalize hn6:RS.length=n6 at *
   generalize hn7:WS.length=n7 at *
   have HN6:=hidF hn6
   have HN7:=hidF hn7
   clear hn6 hn7
   go_wp2_with fail
   go_loopg [16,17,18] n6 (fun gg s16 _ _ wr=>∃kk:Nat,kk≤n6∧n6 - kk≤gg∧s16=.int .i64 kk∧Aside (CxI w wr F B q6 n6 c6 RS q7 n7 c7 WS mm c d kk 0))
   case atStart=>exact⟨0,Nat.zero_le _,by omega,rfl,HC0.out⟩
   case round=>
    clear HC0
    obtain⟨jj,hjj,hg,rfl,HA⟩:=hrel
    by_cases hlt:jj<n6
    ·have hz:(jj:Int)<(n6:Int):=by omega
     have hn0:¬((jj:Int)<0):=by omega
     have hlz:jj<RS.length:=by rw[HN6.out];exact hlt
     obtain⟨g,off,rfl,hgw,hx⟩:=rest_at HA.out.rs hlz
     have hC:=zFY HA.out hlz
     generalize (RS[jj]!).id=id at hx hC
     have HC:=hidF hC
     have HK:Hid (jj<n6∧n6 - jj≤gk):=⟨hlt,hg⟩
     have ei:=succS jj (by have:=HLN.out;omega)
     clear hC hlz hlt hjj hg hgw
     go_wp2_with fail
     refine HC.out.mono ?_
     rintro e w8⟨q8,n8,k8,rfl,h8⟩
     have H8:=hidF h8
     clear h8 HC hx
     go_wp2_with fail
     go_roundg (n6 - (jj+1))
     case measure=>have:=HK.out;clear ei;omega
     case rel=>exact⟨jj+1,HK.out.1,nzR _,by first|rfl|exact congrArg (Value.int .i64) ei,H8.out⟩
    ·obtain rfl:jj=n6:=by omega
     have hz:¬(jj:Int)<(jj:Int):=by omega
     have hA0:=HA.out
     rw[←HN6.out] at hA0
     have HA0:=hidF hA0
     clear hA0 HA hlt hjj hg
     go_wp2_with fail
     go_loopg [19,20,21] n7 (fun gg s19 _ _ wr=>∃kk:Nat,kk≤n7∧n7 - kk≤gg∧s19=.int .i64 kk∧Aside (CxI w wr F B q6 RS.length c6 RS q7 n7 c7 WS mm c d RS.length kk))
     case atStart=>exact⟨0,Nat.zero_le _,by omega,rfl,HA0.out⟩
     case round=>
      clear HA0
      obtain⟨ii,hii,hg,rfl,HA⟩:=hrel
      by_cases hlt:ii<n7
      ·have hz7:(ii:Int)<(n7:Int):=by omega
       have hn0:¬((ii:Int)<0):=by omega
       have hlz:ii<WS.length:=by rw[HN7.out];exact hlt
       obtain⟨g,off,rfl,hgw,hx,-⟩:=ord_at HA.out.ws hlz
       have hC:=zFZ HA.out hlz
       generalize (WS[ii]!).id=id at hx hC
       have HC:=hidF hC
       have HK:Hid (ii<n7∧n7 - ii≤gk):=⟨hlt,hg⟩
       have ei:=succS ii (by have:=HLN.out;omega)
       clear hC hlz hlt hii hg hgw hz
       go_wp2_with fail
       refine HC.out.mono ?_
       rintro e w8⟨q8,n8,k8,rfl,h8⟩
       have H8:=hidF h8
       clear h8 HC hx
       go_wp2_with fail
       go_roundg (n7 - (ii+1))
       case measure=>have:=HK.out;clear ei;omega
       case rel=>exact⟨ii+1,HK.out.1,nzR _,by first|rfl|exact congrArg (Value.int .i64) ei,H8.out⟩
      ·obtain rfl:ii=n7:=by omega
       have hz7:¬(ii:Int)<(ii:Int):=by omega
       have hA0:=HA.out
       rw[←HN7.out] at hA0
       obtain⟨f,hF,hI,hb,hs,hw,hh⟩:=hA0.done
       obtain⟨v,hv⟩:=hF.fm
       have HBK:=hidF (zFj F f v wr hv hI.iv.wf.book)
       have HFM:=hidF hv
       have HFA:=hidF hF
       have HFI:=hidF hI
       have HHH:=hidF hh
       have HE:=hidF (And.intro hb (And.intro hs hw))
       clear hA0 hF hI hv hh hb hs hw HA hlt hii hg hz HLN HN6 HN7
       go_wp2_with fail
       clear hz7
       refine HBK.out.mono ?_
       rintro e w9⟨r1,l1,k1,r2,l2,k2,rfl,D1,D2,hb9⟩
       rw[HE.out.1] at D1
       rw[HE.out.2.1] at D2
       have hcn:=bok.zIn r1 r2 l1 l2 k1 k2 [] [] w9 D1.ls D2.ls (by decide)
       rw[show (((allR []++allR []).length:Nat):Int)=0 from rfl] at hcn
       have HCN:=hidF hcn
       have HB9:=hidF hb9
       clear hcn D1 D2 hb9 HBK
       go_wp2_with fail
       refine HCN.out.mono ?_
       rintro e w10⟨rfl,hb10⟩
       have hb10':=HB9.out.trans (hb10.mono HB9.out.size)
       have H10:=hidF (HFA.out.keep hb10')
       have hst:=zFi F f v w10 (HFM.out.below hb10') (by rw[HE.out.2.2];exact Nat.zero_le _)
       rw[HE.out.2.2] at hst
       have HST:=hidF hst
       clear hst hb10 hb10' HCN HB9 HFA
       go_wp2_with fail
       refine HST.out.mono ?_
       rintro e w11⟨q11,c11,rfl,-,hb11⟩
       have H11:=hidF (H10.out.keep hb11)
       rw[show ([]:List O).length=0 from rfl]
       clear hb11 HST H10 HFM
       go_wp2_with fail
       go_loopg [8,9,24,25,26] 9 (fun gg s8 s9 s24 _ _ wr=>∃ (k:Nat) (K x y:Int),k≤9∧9 - k≤gg∧s8=.int .i64 x∧s9=.int .i64 y∧s24=.int .i64 K∧Aside (K=(k:Int)+1∧x=c - sumC (f.ps.take k)∧y=d - sumS (f.ps.take k)∧FloorAt w wr F f))
       case atStart=>exact⟨0,1,c,d,Nat.zero_le _,by omega,rfl,rfl,rfl,rfl,by rw[show sumC (f.ps.take 0)=0 from rfl];omega,by rw[show sumS (f.ps.take 0)=0 from rfl];omega,H11.out⟩
       case round=>
        clear H11
        obtain⟨k,K,x,y,hk,hg,rfl,rfl,rfl,HA⟩:=hrel
        by_cases hlt:k<9
        ·have hle:K≤9:=by have:=HA.out.1;omega
         have hp:=zLp k hlt HA.out.2.2.2 K HA.out.1
         have hst:=sum_step HFI.out hlt
         have hb1:=zFx HFI.out (Nat.le_of_lt hlt)
         have hb2:=zFx HFI.out (show k+1≤9 from hlt)
         have hcd:=HFI.out.small
         have hzz:=purse_ok HFI.out hlt
         have hh:=HHH.out k hlt
         have h1:=hzz.h0
         have h2:=hzz.hc
         have h3:=hzz.t0
         have h4:=hzz.ts
         clear hzz
         generalize f.ps[k]! = z at *
         obtain⟨zw,zc,zh,zs',zt⟩:=z
         simp only[] at hp hst hh h1 h2 h3 h4
         obtain⟨rfl,rfl⟩:=hh
         have hx:=HA.out.2.1
         have hy:=HA.out.2.2.1
         obtain⟨x1,hx1⟩:∃t,t=x - zc:=⟨_,rfl⟩
         obtain⟨y1,hy1⟩:∃t,t=y - zs':=⟨_,rfl⟩
         obtain⟨K1,hK1⟩:∃t,t=K+1:=⟨_,rfl⟩
         have HX1:Hid (K1=((k+1:Nat):Int)+1∧x1=c - sumC (f.ps.take (k+1))∧y1=d - sumS (f.ps.take (k+1))):=⟨by have:=HA.out.1;omega,by omega,by omega⟩
         have nc:¬zc<0:=by omega
         have ns:¬zs'<0:=by omega
         have ex:=wrapS (x - zc) x1 hx1.symm (by omega) (by omega)
         have ey:=wrapS (y - zs') y1 hy1.symm (by omega) (by omega)
         have eK:=wrapS (K+1) K1 hK1.symm (by have:=HA.out.1;omega) (by have:=HA.out.1;omega)
         have HP:=hidF hp
         have HK:Hid (k<9∧9 - k≤gk):=⟨hlt,hg⟩
         have HW:=hidF (And.intro ex (And.intro ey eK))
         clear hp hst hb1 hb2 hcd h1 h2 h3 h4 hx hy hx1 hy1 hK1 hlt hk hg ex ey eK HA
         go_wp2_with fail
         refine HP.out.mono ?_
         rintro e w12⟨rfl,h12,-⟩
         have hb5:Below w12.heap.size w12 (w12.alloc (.cells #[.int .i64 zw,.int .i64 zc,.int .i64 0,.int .i64 zs',.int .i64 0] 36)):=(bzR _ _).alloc (nzR _) _
         have hr5:(w12.alloc (.cells #[.int .i64 zw,.int .i64 zc,.int .i64 0,.int .i64 zs',.int .i64 0] 36)).heap[w12.heap.size]?=some (.cells #[.int .i64 zw,.int .i64 zc,.int .i64 0,.int .i64 zs',.int .i64 0] 36 (0,0)):=heap_alloc_new w12 _
         have H12:=hidF (h12.keep hb5)
         have HR5:=hidF hr5
         clear h12 hb5 hr5 HP
         go_upto_region 40 with fail
         generalize w12.alloc (.cells #[.int .i64 zw,.int .i64 zc,.int .i64 0,.int .i64 zs',.int .i64 0] 36)=W12 at *
         generalize w12.heap.size=P12 at *
         obtain⟨p0,p1,p2,p3,p4,-⟩:=sid.rowFive HR5.out
         have ex:=HW.out.1
         have ey:=HW.out.2.1
         have eK:=HW.out.2.2
         clear hle
         go_wp2_with fail
         go_roundg (9 - (k+1))
         case measure=>have:=HK.out;clear ex ey eK;omega
         case rel=>exact⟨k+1,K1,x1,y1,HK.out.1,nzR _,by first|rfl|exact congrArg (Value.int .i64) ex,by first|rfl|exact congrArg (Value.int .i64) ey,by first|rfl|exact congrArg (Value.int .i64) eK,HX1.out.1,HX1.out.2.1,HX1.out.2.2,H12.out⟩
        ·obtain rfl:k=9:=by omega
         have hle:¬K≤9:=by have:=HA.out.1;omega
         have hsm:=sum_all HFI.out
         obtain rfl:x=0:=by have:=HA.out.2.1;omega
         obtain rfl:y=0:=by have:=HA.out.2.2.1;omega
         have HB:=hidF HA.out.2.2.2.bel
         clear HA hk hg hlt hsm
         go_wp2_with fail
         go_ret
         exact⟨rfl,HB.out⟩
theorem zGa(m:Int)(q:Option Addr)(n cc:Nat)(w:World)(hm:¬(0≤m∧m≤3)) :
  Calls Tryz.prog 6 #[.int .i64 m,.slice q n cc] w fun e w'=>e=.returned (.bool true)∧Below w.heap.size w w':=by
 have HM:=hidF hm
 by_cases h0:m<0
 ·have d0:decide (m<0)=true:=decide_eq_true h0
  clear hm
  go_enter Tryz.func6,Tryz.ntmps6
  go_wp2_with fail
  refine(tcw.one_any _).mono ?_
  rintro e w1⟨rfl,hb1⟩
  have HB1:=hidF hb1
  clear hb1
  go_wp2_with fail
  refine(zKH m HM.out w1).mono ?_
  rintro e w2⟨rfl,hb2⟩
  have HB2:=hidF (HB1.out.trans (hb2.mono HB1.out.size))
  clear hb2 HB1
  go_wp2_with fail
  go_ret
  exact⟨rfl,HB2.out⟩
 ·have h3:3<m:=by omega
  have d0:decide (m<0)=false:=decide_eq_false h0
  have d3:decide (3<m)=true:=decide_eq_true h3
  clear hm
  go_enter Tryz.func6,Tryz.ntmps6
  go_wp2_with fail
  refine(tcw.one_any _).mono ?_
  rintro e w1⟨rfl,hb1⟩
  have HB1:=hidF hb1
  clear hb1
  go_wp2_with fail
  refine(zKH m HM.out w1).mono ?_
  rintro e w2⟨rfl,hb2⟩
  have HB2:=hidF (HB1.out.trans (hb2.mono HB1.out.size))
  clear hb2 HB1
  go_wp2_with fail
  go_ret
  exact⟨rfl,HB2.out⟩
theorem zFB(m:Int)(q:Option Addr)(n cc:Nat)(zs:List Cm)(w:World)(hS:CL w (.slice q n cc) zs) :
  Calls Tryz.prog 6 #[.int .i64 m,.slice q n cc] w fun e w'=>e=.returned (.bool true)∧Below w.heap.size w w':=by
 by_cases h:0≤m∧m≤3
 ·exact zIo m q n cc zs w hS h.1 h.2
 ·exact zGa m q n cc w h
end flr
end Go.Proofs.YtifjhlgjgnnnpaaGreat
