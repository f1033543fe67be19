import Derived.Test.YtifjhlgjgnnnpaaGreatFlrOk
import Derived.Test.YtifjhlgjgnnnpaaGreatFPPure
import Derived.BigQuiet
namespace Go.Proofs.YtifjhlgjgnnnpaaGreat
namespace flr
open Go.RowKit
open que (R rchk)
open sid (L DL LS)
open mee (T tV OwnT sumT)
open ord (O oV chk errV errV_zero errV_of prB)
open bok (bookE inBook)
open pur (Pz Pu Ok flatP pL payE payP giveE giveP)
open wak (OwnM OwnQ St SL Lies oL idx Trn)
def richF(m:Int)(k:Nat):FS:=⟨m,0,[],[],[],richP k⟩
theorem zEd{m:Int}(h0:0≤m)(h3:m≤3){k:Nat}(hk:k≤9):WfF (richF m k):=⟨h0,h3,(show bookE [] []=0 by decide),rich_ok k hk,Nat.zero_le _⟩
theorem rich_one{m:Int}(h0:0≤m)(h3:m≤3){k:Nat}(hk:k<9){K:Int}(hK:K=(k:Int)+1) :
  ∃s1 s2,fdo (richF m k) ⟨4,⟨0,0,0,0,0,0,0,0⟩,K,500000000⟩=.ok s1∧WfF (floorOf s1)∧fdo (floorOf s1) ⟨5,⟨0,0,0,0,0,0,0,0⟩,K,100000⟩=.ok s2∧floorOf s2=richF m (k+1):=by
 subst hK
 obtain⟨e1,e2,e3⟩:=zKI k hk
 have d1:=fdo_pay (f:=richF m k) (o:=⟨0,0,0,0,0,0,0,0⟩) e1
 refine⟨_,_,d1,fdo_wf (zEd h0 h3 (by omega)) d1,fdo_give (f:=floorOf _) (o:=⟨0,0,0,0,0,0,0,0⟩) e2,?_⟩
 show (⟨m,0,[],[],[],giveP (payP (richP k) ((k:Int)+1) 500000000) ((k:Int)+1) 100000⟩:FS)=_
 rw[e3];rfl
theorem zKO:pur.getZ (richP 9) 9=⟨9,500000000,0,100000,0⟩:=by kernel_rfl
set_option maxRecDepth 100000 in
set_option maxHeartbeats 4000000 in
theorem zBw(m:Int)(h0:0≤m)(h3:m≤3)(w:World) :
  Calls Tryz.prog 18 #[.int .i64 m] w fun e w'=>∃F,e=.returned (.tuple #[.pointer (some ⟨F,0,none⟩),.bool true])∧FloorAt w w' F (richF m 9):=by
 have HM:Hid (0≤m∧m≤3):=⟨h0,h3⟩
 clear h0 h3
 go_enter Tryz.func18,Tryz.ntmps18
 go_wp2_with fail
 refine(zGQ m HM.out.1 HM.out.2 w).mono ?_
 rintro e w1⟨F,v,rfl,hF,hlo,hb⟩
 have H0:Hid (FloorAt w w1 F (richF m 0)):=⟨⟨v,hF⟩,hlo,hb⟩
 clear hF hlo hb
 go_wp2_with fail
 go_loopg [6,7,8,9,10] 9 (fun gg s6 _ _ _ _ wr=>∃ (kk:Nat) (K:Int),kk≤9∧9 - kk≤gg∧s6=.int .i64 K∧Aside (K=(kk:Int)+1∧FloorAt w wr F (richF m kk)))
 case atStart=>exact⟨0,1,Nat.zero_le _,by omega,rfl,rfl,H0.out⟩
 case round=>
  clear H0
  obtain⟨kk,K,hkk,hg,rfl,HA⟩:=hrel
  by_cases hlt:kk<9
  ·have hle:K≤9:=by have:=HA.out.1;omega
   obtain⟨K1,hK1⟩:∃x:Int,x=K+1:=⟨_,rfl⟩
   have ek:wrap64 (K+1)=K1:=by rw[hK1];have:=HA.out.1;unfold wrap64;omega
   have HK1:Hid (K1=(kk:Int)+1+1):=by show _=_;rw[hK1,HA.out.1]
   obtain⟨s1,s2,d1,g1,d2,g2⟩:=rich_one HM.out.1 HM.out.2 hlt HA.out.1
   have HD:=hidF (And.intro d1 (And.intro g1 (And.intro d2 g2)))
   have HM2:Hid (kk<9∧9 - kk≤gk):=⟨hlt,hg⟩
   have HWF:=hidF (zEd HM.out.1 HM.out.2 hkk)
   clear d1 g1 d2 g2 hK1 hkk hg hlt
   go_wp2_with fail
   refine(do_at 4 0 0 0 0 0 0 0 0 K 500000000 s1 HA.out.2 HWF.out (by decide) HD.out.1).mono ?_
   rintro e w2⟨q2,k2,rfl,-,h2⟩
   have H2:=hidF h2
   clear h2
   go_wp2_with fail
   refine(do_at 5 0 0 0 0 0 0 0 0 K 100000 s2 H2.out HD.out.2.1 (by decide) HD.out.2.2.1).mono ?_
   rintro e w3⟨q3,k3,rfl,-,h3⟩
   rw[HD.out.2.2.2] at h3
   have H3:=hidF h3
   clear h3
   go_wp2_with fail
   go_roundg (9 - (kk+1))
   case measure=>have:=HM2.out;clear ek;omega
   case rel=>exact⟨kk+1,K1,HM2.out.1,nzR _,by first|rfl|exact congrArg (Value.int .i64) ek,HK1.out,H3.out⟩
  ·obtain rfl:kk=9:=by omega
   have hle:¬K≤9:=by have:=HA.out.1;omega
   have HAT:=hidF HA.out.2
   obtain⟨v,hv⟩:=HA.out.2.fm
   have HP:=hidF (zBS F _ v 9 wr hv)
   rw[show pur.getZ (richF m 9).ps 9=⟨9,500000000,0,100000,0⟩ from zKO,show spn.errV (spn.rangeE (pur.badW 9))=.nilIface from rfl,show pL ⟨9,500000000,0,100000,0⟩=[.int .i64 9,.int .i64 500000000,.int .i64 0,.int .i64 100000,.int .i64 0] from rfl] at HP
   clear hv HA hkk hg hlt
   go_wp2_with fail
   refine HP.out.mono ?_
   rintro e w4⟨rfl,hb⟩
   have H4:=hidF (HAT.out.keep hb)
   clear hb HP HAT
   have hb5:Below w4.heap.size w4 (w4.alloc (.cells #[.int .i64 9,.int .i64 500000000,.int .i64 0,.int .i64 100000,.int .i64 0] 36)):=(bzR _ _).alloc (nzR _) _
   have hx5:(w4.alloc (.cells #[.int .i64 9,.int .i64 500000000,.int .i64 0,.int .i64 100000,.int .i64 0] 36)).cell? ⟨w4.heap.size,1,none⟩=some (.int .i64 500000000):=by simp[go_sem]
   have H5:=hidF (H4.out.keep hb5)
   clear hb5 H4
   go_upto_region 12 with fail
   generalize w4.alloc (.cells #[.int .i64 9,.int .i64 500000000,.int .i64 0,.int .i64 100000,.int .i64 0] 36)=w5 at *
   generalize w4.heap.size=P at *
   go_quiet (fail)
   go_wp2_with fail
   go_ret2
   exact⟨F,rfl,H5.out.keep (sid.belowN (bzR _ _) _)⟩
end flr
end Go.Proofs.YtifjhlgjgnnnpaaGreat
