import Derived.Test.YtnjpjieedgmffaaGreatDoorSidLay
namespace Go.Proofs.YtnjpjieedgmffaaGreatDoor.sid
open Go.RowKit spn que
open tickP (priceB sideB betOk betR)
set_option maxRecDepth 100000 in
set_option maxHeartbeats 4000000 in
theorem rput_some (s p r1 r2 r3 r4 r5:Int) (b o cc n:Nat) (ls:List L) (ps:List RP) (w:World) (hps:ps.map toL=ls) (hn:ls.length=n) (hc:n≤cc) (hm:cc≤9223372036854775807) (hb:b < w.heap.size) (hl:rlv.Lies w b o (ps.map (·.1))) (he:∀p∈ps,SLe w (sv p.1) p.2) (hs:sideB s=true) (hp:priceB p=true) (hpr:∀l∈ls,priceB l.price=true) (h60:n≤60) (hr60:∀l∈ls,l.rests.length≤60∧l.rests≠[]) :
  Calls Tryz.prog 59 #[.int .i64 s,.slice (some ⟨b,o,none⟩) n cc,.int .i64 p,.agg #[.int .i64 r1,.int .i64 r2,.int .i64 r3,.int .i64 r4,.int .i64 r5]] w fun x w'=>∃v',x=.returned v'∧LS w' v' (putL s p ⟨r1,r2,r3,r4,r5⟩ ls)∧Below w.heap.size w w':=by
 have HLL:Hid (LL w b o ls):=by rw[←hps];exact loose_ll hl he
 have HN:Hid (ls.length=n):=hn
 have HPN:Hid (ps.length=n):=by show _=_;rw[←hn,←hps,List.length_map]
 have HS:Hid (sideB s=true∧priceB p=true∧∀l∈ls,priceB l.price=true):=⟨hs,hp,hpr⟩
 have HL:Hid (rlv.Lies w b o (ps.map (·.1))):=hl
 have HE:Hid (∀p∈ps,SLe w (sv p.1) p.2):=he
 have HPS:Hid (ps.map toL=ls):=hps
 have HR60:Hid (∀l∈ls,l.rests.length≤60∧l.rests≠[]):=hr60
 clear hl he hps hs hp hpr hn hr60
 obtain⟨V,hV⟩:∃V,V=w.alloc (.cells #[.int .i64 r1,.int .i64 r2,.int .i64 r3,.int .i64 r4,.int .i64 r5] 55):=⟨_,rfl⟩
 have HBV:Hid (Below w.heap.size w V):=by rw[hV];exact(bzR _ _).alloc (nzR _) _
 have HRV:Hid (V.heap[w.heap.size]?=some (.cells #[.int .i64 r1,.int .i64 r2,.int .i64 r3,.int .i64 r4,.int .i64 r5] 55 (0,0))):=by rw[hV];exact heap_alloc_new w _
 have n0:¬((n:Int) < 0):=by omega
 have n1:(n:Int)≤(cc:Int):=by omega
 go_enter Tryz.func59,Tryz.ntmps59
 go_wp2_with fail
 rw[←hV]
 clear hV
 go_loopg [9] n (fun gg s9 wr=>∃kk:Nat,kk≤n∧n - kk≤gg∧s9=.int .i64 kk∧Aside (∀j,j < kk→leadB s ls[j]!.price p=true)∧Aside (Below V.heap.size V wr))
 case atStart=>exact⟨0,Nat.zero_le _,by omega,rfl,fun j hj=>absurd hj (Nat.not_lt_zero _),bzR _ _⟩
 case round=>
  obtain⟨kk,hkk,hg,rfl,hP,BW⟩:=hrel
  have HW:Hid (Below w.heap.size w wr):=HBV.out.trans (BW.out.mono HBV.out.size)
  by_cases hlt:kk < n
  ·have hltz:(kk:Int) < (n:Int):=by omega
   have hlz:kk < ls.length:=by rw[HN.out];exact hlt
   obtain⟨l,hl⟩:∃l,ls[kk]! = l:=⟨_,rfl⟩
   obtain⟨pp,zs⟩:=l
   obtain⟨rq,rc,a0,a1,hsl⟩:=HLL.out.at hlz hl
   have HMEM:Hid (ls[kk]!∈ls):=by show _∈_;rw[getE _ _ hlz];exact List.getElem_mem hlz
   have HZL:Hid (zs.length≤60∧zs≠[]):=by have h:=HR60.out _ HMEM.out;rw[hl] at h;exact h
   have HZS:Hid (ls[kk]!.rests=zs):=by show _=_;rw[hl]
   have HSR:Hid (SL wr (.slice rq zs.length rc) zs):=(hsl.sl HZL.out.2).below HW.out
   have c0:=keeps HW.out a0
   have rc1:=keeps HW.out a1
   have HAL:Hid (aheadB (wrap64 (3 - s)) ls[kk]!.price p=leadB s ls[kk]!.price p):=ahead_lead HS.out.1 (HS.out.2.2 _ HMEM.out) HS.out.2.1
   have hin1:¬((kk:Int) < 0):=by omega
   have hin2:(kk:Int)≤(cc:Int):=by omega
   have hin3:(kk:Int)≤(n:Int):=by omega
   have hin4:¬(((kk+1:Nat):Int) < 0):=by omega
   have hin5:((kk+1:Nat):Int)≤(n:Int):=by omega
   have hw1:wrap64 ((kk:Int)+1)=((kk+1:Nat):Int):=by unfold wrap64;omega
   have HAH:Hid (∀W,Calls Tryz.prog 52 #[.int .i64 (wrap64 (3 - s)),.int .i64 pp,.int .i64 p] W fun e w'=>e=.returned (.bool (leadB s pp p))∧w'=W):=fun W=>by
    have h:=ref_ahead (wrap64 (3 - s)) pp p W
    have e:=HAL.out
    rw[hl] at e
    simp only[] at e
    rw[e] at h
    exact h
   generalize hT:leadB s pp p=t at HAH
   have HT:Hid (leadB s ls[kk]!.price p=t∧ls[kk]!.price=pp):=by rw[hl];exact⟨hT,rfl⟩
   clear a0 a1 hsl HAL hl hT
   cases t
   ·go_wp2_with fail
    refine(HAH.out _).mono ?_
    rintro e wr ⟨rfl,rfl⟩
    by_cases hpe:pp=p
    ·have hpe2:ls[kk]!.price=p:=by rw[HT.out.2];exact hpe
     have hpe' : p=pp:=hpe.symm
     subst hpe'
     by_cases hcap:kk+1=cc
     ·obtain rfl:n=kk+1:=by omega
      subst hcap
      have HX1:Hid (rlv.SL wr (.slice (some ⟨b,o,none⟩) kk (kk+1)) ((ps.take kk).map (·.1))):=by
       show rlv.SL _ _ _
       rw[List.map_take]
       exact rlv.sl_take (by rw[List.length_map,HPN.out];omega) (by rw[List.length_map,HPN.out];exact hc) hm (Nat.lt_of_lt_of_le hb HW.out.size) (HL.out.below hb HW.out)
      have HX5:Hid (rlv.SL wr (.slice (some ⟨b,o,none⟩) 0 0) ((ps.drop (kk+1)).map (·.1))):=by
       show rlv.SL _ _ _
       rw[List.map_drop]
       rw[List.drop_eq_nil_of_le (by rw[List.length_map,HPN.out];omega)]
       exact .inr ⟨b,o,0,rfl,by simp,by omega,Nat.lt_of_lt_of_le hb HW.out.size,fun j hj=>absurd hj (Nat.not_lt_zero _)⟩
      obtain⟨v1,w1,A1,O1,B1⟩:=lay_first wr (.slice (some ⟨b,o,none⟩) kk (kk+1)) _ HX1.out (by simp;omega)
      obtain⟨v2,w2,A2,O2,B2⟩:=lay_rests w1 (.slice rq zs.length rc) zs ((HSR.out.below B1)) (by have:=HZL.out;omega)
      have x2:=(B1.trans (B2.mono B1.size))
      obtain⟨q3,m3,c3,w3,A3,O3,B3⟩:=lay_rest w1.heap.size w2 v2 zs r1 r2 r3 r4 r5 O2 B2.size (by have:=HZL.out;omega)
      obtain⟨v4,w4,v5,w5,A4,A5,E5,B5⟩:=lay_last wr w1 w3 v1 (.slice (some ⟨b,o,none⟩) 0 0) (ps.take kk) (ps.drop (kk+1)) p q3 m3 c3 (zs++[⟨r1,r2,r3,r4,r5⟩]) B1 O1 (B2.trans B3) O3 HX5.out (fun y hy=>(HE.out y (List.mem_of_mem_take hy)).below HW.out) (fun y hy=>(HE.out y (List.mem_of_mem_drop hy)).below HW.out) (by have:=HPN.out;simp;omega)
      have HF:Hid (LS w5 v5 (putL s p ⟨r1,r2,r3,r4,r5⟩ ls)∧Below w.heap.size w w5):=by
       refine⟨?_,HW.out.trans (B5.mono HW.out.size)⟩
       rw[putL_same hlz hP.out HT.out.1 hpe2]
       rw[List.map_take,List.map_drop,HPS.out] at E5
       rw[HZS.out]
       exact E5
      have HA1:Hid (appL (.slice none 0 0) (.slice (some ⟨b,o,none⟩) kk (kk+1)) wr v1 w1):=A1
      have HA2:Hid (appR (.slice none 0 0) (.slice rq zs.length rc) w1 v2 w2):=A2
      have HA3:Hid (appR v2 (.slice (some ⟨w2.heap.size,0,none⟩) 1 1) (w2.alloc (.cells #[.int .i64 r1,.int .i64 r2,.int .i64 r3,.int .i64 r4,.int .i64 r5] 55)) (.slice q3 m3 c3) w3):=A3
      have HA4:Hid (appL v1 (.slice (some ⟨w3.heap.size,0,none⟩) 1 1) (w3.alloc (.cells #[.int .i64 p,.slice q3 m3 c3] 51)) v4 w4):=A4
      have HA5:Hid (appL v4 (.slice (some ⟨b,o,none⟩) 0 0) w4 v5 w5):=A5
      obtain⟨y0,y1,y2,y3,y4,-⟩:=rowFive HRV.out
      have z0:=keeps B2 (keeps B1 (keeps BW.out y0))
      have z1:=keeps B2 (keeps B1 (keeps BW.out y1))
      have z2:=keeps B2 (keeps B1 (keeps BW.out y2))
      have z3:=keeps B2 (keeps B1 (keeps BW.out y3))
      have z4:=keeps B2 (keeps B1 (keeps BW.out y4))
      have z5:=keeps B1 rc1
      have z6:=keeps B1 c0
      clear A1 A2 x2 A3 A4 A5 O1 O2 O3 B1 B2 B3 B5 E5 y0 y1 y2 y3 y4
      clear HX1 HX5
      go_upto_region 5 with fail
      go_upto_region 7 with (at_builtin;refine Lib.wpList_append_run _ rfl _ _ _ _ rfl _ _ rfl rfl _ _ HA1.out ?_)
      go_upto_region 10 with (at_builtin;refine Lib.wpList_append_run _ rfl _ _ _ _ rfl _ _ rfl rfl _ _ HA2.out ?_)
      go_upto_region 11 with (at_builtin;refine Lib.wpList_append_run _ rfl _ _ _ _ rfl _ _ rfl rfl _ _ HA3.out ?_)
      go_upto_region 12 with (at_builtin;refine Lib.wpList_append_run _ rfl _ _ _ _ rfl _ _ rfl rfl _ _ HA4.out ?_)
      go_wp2_with (at_builtin;refine Lib.wpList_append_run _ rfl _ _ _ _ rfl _ _ rfl rfl _ _ HA5.out ?_)
      go_ret
      exact⟨_,rfl,HF.out⟩
     ·have HX1:Hid (rlv.SL wr (.slice (some ⟨b,o,none⟩) kk cc) ((ps.take kk).map (·.1))):=by
       show rlv.SL _ _ _
       rw[List.map_take]
       exact rlv.sl_take (by rw[List.length_map,HPN.out];omega) (by rw[List.length_map,HPN.out];exact hc) hm (Nat.lt_of_lt_of_le hb HW.out.size) (HL.out.below hb HW.out)
      have HX5:Hid (rlv.SL wr (.slice (some ⟨b,o+(kk+1) * 2,none⟩) (n - (kk+1)) (cc - (kk+1))) ((ps.drop (kk+1)).map (·.1))):=by
       show rlv.SL _ _ _
       rw[List.map_drop]
       have h:=rlv.sl_drop (k:=(kk+1)) (by rw[List.length_map,HPN.out];omega) (by rw[List.length_map,HPN.out];exact hc) hm (Nat.lt_of_lt_of_le hb HW.out.size) (HL.out.below hb HW.out)
       rw[List.length_map,HPN.out] at h
       unfold rlv.offK at h
       rw[if_neg hcap] at h
       exact h
      obtain⟨v1,w1,A1,O1,B1⟩:=lay_first wr (.slice (some ⟨b,o,none⟩) kk cc) _ HX1.out (by simp;omega)
      obtain⟨v2,w2,A2,O2,B2⟩:=lay_rests w1 (.slice rq zs.length rc) zs ((HSR.out.below B1)) (by have:=HZL.out;omega)
      have x2:=(B1.trans (B2.mono B1.size))
      obtain⟨q3,m3,c3,w3,A3,O3,B3⟩:=lay_rest w1.heap.size w2 v2 zs r1 r2 r3 r4 r5 O2 B2.size (by have:=HZL.out;omega)
      obtain⟨v4,w4,v5,w5,A4,A5,E5,B5⟩:=lay_last wr w1 w3 v1 (.slice (some ⟨b,o+(kk+1) * 2,none⟩) (n - (kk+1)) (cc - (kk+1))) (ps.take kk) (ps.drop (kk+1)) p q3 m3 c3 (zs++[⟨r1,r2,r3,r4,r5⟩]) B1 O1 (B2.trans B3) O3 HX5.out (fun y hy=>(HE.out y (List.mem_of_mem_take hy)).below HW.out) (fun y hy=>(HE.out y (List.mem_of_mem_drop hy)).below HW.out) (by have:=HPN.out;simp;omega)
      have HF:Hid (LS w5 v5 (putL s p ⟨r1,r2,r3,r4,r5⟩ ls)∧Below w.heap.size w w5):=by
       refine⟨?_,HW.out.trans (B5.mono HW.out.size)⟩
       rw[putL_same hlz hP.out HT.out.1 hpe2]
       rw[List.map_take,List.map_drop,HPS.out] at E5
       rw[HZS.out]
       exact E5
      have HA1:Hid (appL (.slice none 0 0) (.slice (some ⟨b,o,none⟩) kk cc) wr v1 w1):=A1
      have HA2:Hid (appR (.slice none 0 0) (.slice rq zs.length rc) w1 v2 w2):=A2
      have HA3:Hid (appR v2 (.slice (some ⟨w2.heap.size,0,none⟩) 1 1) (w2.alloc (.cells #[.int .i64 r1,.int .i64 r2,.int .i64 r3,.int .i64 r4,.int .i64 r5] 55)) (.slice q3 m3 c3) w3):=A3
      have HA4:Hid (appL v1 (.slice (some ⟨w3.heap.size,0,none⟩) 1 1) (w3.alloc (.cells #[.int .i64 p,.slice q3 m3 c3] 51)) v4 w4):=A4
      have HA5:Hid (appL v4 (.slice (some ⟨b,o+(kk+1) * 2,none⟩) (n - (kk+1)) (cc - (kk+1))) w4 v5 w5):=A5
      obtain⟨y0,y1,y2,y3,y4,-⟩:=rowFive HRV.out
      have z0:=keeps B2 (keeps B1 (keeps BW.out y0))
      have z1:=keeps B2 (keeps B1 (keeps BW.out y1))
      have z2:=keeps B2 (keeps B1 (keeps BW.out y2))
      have z3:=keeps B2 (keeps B1 (keeps BW.out y3))
      have z4:=keeps B2 (keeps B1 (keeps BW.out y4))
      have z5:=keeps B1 rc1
      have z6:=keeps B1 c0
      clear A1 A2 x2 A3 A4 A5 O1 O2 O3 B1 B2 B3 B5 E5 y0 y1 y2 y3 y4
      clear HX1 HX5
      go_upto_region 5 with fail
      go_upto_region 7 with (at_builtin;refine Lib.wpList_append_run _ rfl _ _ _ _ rfl _ _ rfl rfl _ _ HA1.out ?_)
      go_upto_region 10 with (at_builtin;refine Lib.wpList_append_run _ rfl _ _ _ _ rfl _ _ rfl rfl _ _ HA2.out ?_)
      go_upto_region 11 with (at_builtin;refine Lib.wpList_append_run _ rfl _ _ _ _ rfl _ _ rfl rfl _ _ HA3.out ?_)
      go_upto_region 12 with (at_builtin;refine Lib.wpList_append_run _ rfl _ _ _ _ rfl _ _ rfl rfl _ _ HA4.out ?_)
      go_wp2_with (at_builtin;refine Lib.wpList_append_run _ rfl _ _ _ _ rfl _ _ rfl rfl _ _ HA5.out ?_)
      go_ret
      exact⟨_,rfl,HF.out⟩
    ·have hpe2:¬ls[kk]!.price=p:=by rw[HT.out.2];exact hpe
     have hpb:(pp == p)=false:=by simp[hpe]
     have hcap:¬kk=cc:=by omega
     have HX1:Hid (rlv.SL wr (.slice (some ⟨b,o,none⟩) kk cc) ((ps.take kk).map (·.1))):=by
      show rlv.SL _ _ _
      rw[List.map_take]
      exact rlv.sl_take (by rw[List.length_map,HPN.out];omega) (by rw[List.length_map,HPN.out];exact hc) hm (Nat.lt_of_lt_of_le hb HW.out.size) (HL.out.below hb HW.out)
     have HX5:Hid (rlv.SL wr (.slice (some ⟨b,o+kk * 2,none⟩) (n - kk) (cc - kk)) ((ps.drop kk).map (·.1))):=by
      show rlv.SL _ _ _
      rw[List.map_drop]
      have h:=rlv.sl_drop (k:=kk) (by rw[List.length_map,HPN.out];omega) (by rw[List.length_map,HPN.out];exact hc) hm (Nat.lt_of_lt_of_le hb HW.out.size) (HL.out.below hb HW.out)
      rw[List.length_map,HPN.out] at h
      unfold rlv.offK at h
      rw[if_neg hcap] at h
      exact h
     obtain⟨v1,w1,A1,O1,B1⟩:=lay_first wr (.slice (some ⟨b,o,none⟩) kk cc) _ HX1.out (by simp;omega)
     have O2:OwnQ w1 w1.heap.size (.slice none 0 0) []:=qown_nil _ _
     have B2:Below w1.heap.size w1 w1:=bzR _ _
     obtain⟨q3,m3,c3,w3,A3,O3,B3⟩:=lay_rest w1.heap.size w1 (.slice none 0 0) ([]:List R) r1 r2 r3 r4 r5 O2 B2.size (by simp)
     obtain⟨v4,w4,v5,w5,A4,A5,E5,B5⟩:=lay_last wr w1 w3 v1 (.slice (some ⟨b,o+kk * 2,none⟩) (n - kk) (cc - kk)) (ps.take kk) (ps.drop kk) p q3 m3 c3 (([]:List R)++[⟨r1,r2,r3,r4,r5⟩]) B1 O1 (B2.trans B3) O3 HX5.out (fun y hy=>(HE.out y (List.mem_of_mem_take hy)).below HW.out) (fun y hy=>(HE.out y (List.mem_of_mem_drop hy)).below HW.out) (by have:=HPN.out;simp;omega)
     have HF:Hid (LS w5 v5 (putL s p ⟨r1,r2,r3,r4,r5⟩ ls)∧Below w.heap.size w w5):=by
      refine⟨?_,HW.out.trans (B5.mono HW.out.size)⟩
      rw[putL_new hlz hP.out HT.out.1 hpe2]
      rw[List.map_take,List.map_drop,HPS.out] at E5
      exact E5
     have HA1:Hid (appL (.slice none 0 0) (.slice (some ⟨b,o,none⟩) kk cc) wr v1 w1):=A1
     have HA3:Hid (appR (.slice none 0 0) (.slice (some ⟨w1.heap.size,0,none⟩) 1 1) (w1.alloc (.cells #[.int .i64 r1,.int .i64 r2,.int .i64 r3,.int .i64 r4,.int .i64 r5] 55)) (.slice q3 m3 c3) w3):=A3
     have HA4:Hid (appL v1 (.slice (some ⟨w3.heap.size,0,none⟩) 1 1) (w3.alloc (.cells #[.int .i64 p,.slice q3 m3 c3] 51)) v4 w4):=A4
     have HA5:Hid (appL v4 (.slice (some ⟨b,o+kk * 2,none⟩) (n - kk) (cc - kk)) w4 v5 w5):=A5
     obtain⟨y0,y1,y2,y3,y4,-⟩:=rowFive HRV.out
     have z0:=keeps B1 (keeps BW.out y0)
     have z1:=keeps B1 (keeps BW.out y1)
     have z2:=keeps B1 (keeps BW.out y2)
     have z3:=keeps B1 (keeps BW.out y3)
     have z4:=keeps B1 (keeps BW.out y4)
     have z6:=keeps B1 c0
     clear A1 A3 A4 A5 O1 O2 O3 B1 B2 B3 B5 E5 y0 y1 y2 y3 y4
     clear HX1 HX5
     go_upto_region 5 with fail
     go_upto_region 7 with (at_builtin;refine Lib.wpList_append_run _ rfl _ _ _ _ rfl _ _ rfl rfl _ _ HA1.out ?_)
     go_upto_region 10 with fail
     go_upto_region 11 with (at_builtin;refine Lib.wpList_append_run _ rfl _ _ _ _ rfl _ _ rfl rfl _ _ HA3.out ?_)
     go_upto_region 12 with (at_builtin;refine Lib.wpList_append_run _ rfl _ _ _ _ rfl _ _ rfl rfl _ _ HA4.out ?_)
     go_wp2_with (at_builtin;refine Lib.wpList_append_run _ rfl _ _ _ _ rfl _ _ rfl rfl _ _ HA5.out ?_)
     go_ret
     exact⟨_,rfl,HF.out⟩
   ·go_wp2_with fail
    refine(HAH.out _).mono ?_
    rintro e wr ⟨rfl,rfl⟩
    go_wp2_with fail
    go_roundg (n - (kk+1))
    case measure=>omega
    case rel=>exact⟨kk+1,by omega,by omega,by go_num,fun j hj=>by
     by_cases e:j=kk
     ·rw[e];exact HT.out.1
     ·exact hP.out j (by omega),BW⟩
  ·have hltz:¬(kk:Int) < (n:Int):=by omega
   obtain rfl:kk=n:=by omega
   by_cases hcap:kk=cc
   ·subst hcap
    have HX1:Hid (rlv.SL wr (.slice (some ⟨b,o,none⟩) kk kk) ((ps.take kk).map (·.1))):=by
     show rlv.SL _ _ _
     rw[List.map_take]
     exact rlv.sl_take (by rw[List.length_map,HPN.out];omega) (by rw[List.length_map,HPN.out];exact hc) hm (Nat.lt_of_lt_of_le hb HW.out.size) (HL.out.below hb HW.out)
    have HX5:Hid (rlv.SL wr (.slice (some ⟨b,o,none⟩) 0 0) ((ps.drop kk).map (·.1))):=by
     show rlv.SL _ _ _
     rw[List.map_drop]
     rw[List.drop_eq_nil_of_le (by rw[List.length_map,HPN.out];omega)]
     exact .inr ⟨b,o,0,rfl,by simp,by omega,Nat.lt_of_lt_of_le hb HW.out.size,fun j hj=>absurd hj (Nat.not_lt_zero _)⟩
    obtain⟨v1,w1,A1,O1,B1⟩:=lay_first wr (.slice (some ⟨b,o,none⟩) kk kk) _ HX1.out (by simp;omega)
    have O2:OwnQ w1 w1.heap.size (.slice none 0 0) []:=qown_nil _ _
    have B2:Below w1.heap.size w1 w1:=bzR _ _
    obtain⟨q3,m3,c3,w3,A3,O3,B3⟩:=lay_rest w1.heap.size w1 (.slice none 0 0) ([]:List R) r1 r2 r3 r4 r5 O2 B2.size (by simp)
    obtain⟨v4,w4,v5,w5,A4,A5,E5,B5⟩:=lay_last wr w1 w3 v1 (.slice (some ⟨b,o,none⟩) 0 0) (ps.take kk) (ps.drop kk) p q3 m3 c3 (([]:List R)++[⟨r1,r2,r3,r4,r5⟩]) B1 O1 (B2.trans B3) O3 HX5.out (fun y hy=>(HE.out y (List.mem_of_mem_take hy)).below HW.out) (fun y hy=>(HE.out y (List.mem_of_mem_drop hy)).below HW.out) (by have:=HPN.out;simp;omega)
    have HF:Hid (LS w5 v5 (putL s p ⟨r1,r2,r3,r4,r5⟩ ls)∧Below w.heap.size w w5):=by
     refine⟨?_,HW.out.trans (B5.mono HW.out.size)⟩
     rw[putL_end (by rw[HN.out];exact hP.out)]
     rw[List.map_take,HPS.out,List.take_of_length_le (by rw[HN.out];exact nzR _),List.map_drop,HPS.out,List.drop_eq_nil_of_le (by rw[HN.out];exact nzR _)] at E5
     exact E5
    have HA1:Hid (appL (.slice none 0 0) (.slice (some ⟨b,o,none⟩) kk kk) wr v1 w1):=A1
    have HA3:Hid (appR (.slice none 0 0) (.slice (some ⟨w1.heap.size,0,none⟩) 1 1) (w1.alloc (.cells #[.int .i64 r1,.int .i64 r2,.int .i64 r3,.int .i64 r4,.int .i64 r5] 55)) (.slice q3 m3 c3) w3):=A3
    have HA4:Hid (appL v1 (.slice (some ⟨w3.heap.size,0,none⟩) 1 1) (w3.alloc (.cells #[.int .i64 p,.slice q3 m3 c3] 51)) v4 w4):=A4
    have HA5:Hid (appL v4 (.slice (some ⟨b,o,none⟩) 0 0) w4 v5 w5):=A5
    obtain⟨y0,y1,y2,y3,y4,-⟩:=rowFive HRV.out
    have z0:=keeps B1 (keeps BW.out y0)
    have z1:=keeps B1 (keeps BW.out y1)
    have z2:=keeps B1 (keeps BW.out y2)
    have z3:=keeps B1 (keeps BW.out y3)
    have z4:=keeps B1 (keeps BW.out y4)
    clear A1 A3 A4 A5 O1 O2 O3 B1 B2 B3 B5 E5 y0 y1 y2 y3 y4
    clear HX1 HX5
    go_upto_region 5 with fail
    go_upto_region 7 with (at_builtin;refine Lib.wpList_append_run _ rfl _ _ _ _ rfl _ _ rfl rfl _ _ HA1.out ?_)
    go_upto_region 10 with fail
    go_upto_region 11 with (at_builtin;refine Lib.wpList_append_run _ rfl _ _ _ _ rfl _ _ rfl rfl _ _ HA3.out ?_)
    go_upto_region 12 with (at_builtin;refine Lib.wpList_append_run _ rfl _ _ _ _ rfl _ _ rfl rfl _ _ HA4.out ?_)
    go_wp2_with (at_builtin;refine Lib.wpList_append_run _ rfl _ _ _ _ rfl _ _ rfl rfl _ _ HA5.out ?_)
    go_ret
    exact⟨_,rfl,HF.out⟩
   ·have HX1:Hid (rlv.SL wr (.slice (some ⟨b,o,none⟩) kk cc) ((ps.take kk).map (·.1))):=by
     show rlv.SL _ _ _
     rw[List.map_take]
     exact rlv.sl_take (by rw[List.length_map,HPN.out];omega) (by rw[List.length_map,HPN.out];exact hc) hm (Nat.lt_of_lt_of_le hb HW.out.size) (HL.out.below hb HW.out)
    have HX5:Hid (rlv.SL wr (.slice (some ⟨b,o+kk * 2,none⟩) 0 (cc - kk)) ((ps.drop kk).map (·.1))):=by
     show rlv.SL _ _ _
     rw[List.map_drop]
     have h:=rlv.sl_drop (k:=kk) (by rw[List.length_map,HPN.out];omega) (by rw[List.length_map,HPN.out];exact hc) hm (Nat.lt_of_lt_of_le hb HW.out.size) (HL.out.below hb HW.out)
     rw[List.length_map,HPN.out] at h
     unfold rlv.offK at h
     rw[if_neg hcap,Nat.sub_self] at h
     exact h
    obtain⟨v1,w1,A1,O1,B1⟩:=lay_first wr (.slice (some ⟨b,o,none⟩) kk cc) _ HX1.out (by simp;omega)
    have O2:OwnQ w1 w1.heap.size (.slice none 0 0) []:=qown_nil _ _
    have B2:Below w1.heap.size w1 w1:=bzR _ _
    obtain⟨q3,m3,c3,w3,A3,O3,B3⟩:=lay_rest w1.heap.size w1 (.slice none 0 0) ([]:List R) r1 r2 r3 r4 r5 O2 B2.size (by simp)
    obtain⟨v4,w4,v5,w5,A4,A5,E5,B5⟩:=lay_last wr w1 w3 v1 (.slice (some ⟨b,o+kk * 2,none⟩) 0 (cc - kk)) (ps.take kk) (ps.drop kk) p q3 m3 c3 (([]:List R)++[⟨r1,r2,r3,r4,r5⟩]) B1 O1 (B2.trans B3) O3 HX5.out (fun y hy=>(HE.out y (List.mem_of_mem_take hy)).below HW.out) (fun y hy=>(HE.out y (List.mem_of_mem_drop hy)).below HW.out) (by have:=HPN.out;simp;omega)
    have HF:Hid (LS w5 v5 (putL s p ⟨r1,r2,r3,r4,r5⟩ ls)∧Below w.heap.size w w5):=by
     refine⟨?_,HW.out.trans (B5.mono HW.out.size)⟩
     rw[putL_end (by rw[HN.out];exact hP.out)]
     rw[List.map_take,HPS.out,List.take_of_length_le (by rw[HN.out];exact nzR _),List.map_drop,HPS.out,List.drop_eq_nil_of_le (by rw[HN.out];exact nzR _)] at E5
     exact E5
    have HA1:Hid (appL (.slice none 0 0) (.slice (some ⟨b,o,none⟩) kk cc) wr v1 w1):=A1
    have HA3:Hid (appR (.slice none 0 0) (.slice (some ⟨w1.heap.size,0,none⟩) 1 1) (w1.alloc (.cells #[.int .i64 r1,.int .i64 r2,.int .i64 r3,.int .i64 r4,.int .i64 r5] 55)) (.slice q3 m3 c3) w3):=A3
    have HA4:Hid (appL v1 (.slice (some ⟨w3.heap.size,0,none⟩) 1 1) (w3.alloc (.cells #[.int .i64 p,.slice q3 m3 c3] 51)) v4 w4):=A4
    have HA5:Hid (appL v4 (.slice (some ⟨b,o+kk * 2,none⟩) 0 (cc - kk)) w4 v5 w5):=A5
    obtain⟨y0,y1,y2,y3,y4,-⟩:=rowFive HRV.out
    have z0:=keeps B1 (keeps BW.out y0)
    have z1:=keeps B1 (keeps BW.out y1)
    have z2:=keeps B1 (keeps BW.out y2)
    have z3:=keeps B1 (keeps BW.out y3)
    have z4:=keeps B1 (keeps BW.out y4)
    clear A1 A3 A4 A5 O1 O2 O3 B1 B2 B3 B5 E5 y0 y1 y2 y3 y4
    clear HX1 HX5
    go_upto_region 5 with fail
    go_upto_region 7 with (at_builtin;refine Lib.wpList_append_run _ rfl _ _ _ _ rfl _ _ rfl rfl _ _ HA1.out ?_)
    go_upto_region 10 with fail
    go_upto_region 11 with (at_builtin;refine Lib.wpList_append_run _ rfl _ _ _ _ rfl _ _ rfl rfl _ _ HA3.out ?_)
    go_upto_region 12 with (at_builtin;refine Lib.wpList_append_run _ rfl _ _ _ _ rfl _ _ rfl rfl _ _ HA4.out ?_)
    go_wp2_with (at_builtin;refine Lib.wpList_append_run _ rfl _ _ _ _ rfl _ _ rfl rfl _ _ HA5.out ?_)
    go_ret
    exact⟨_,rfl,HF.out⟩
set_option maxRecDepth 100000 in
set_option maxHeartbeats 2000000 in
theorem rput_nil (s p r1 r2 r3 r4 r5:Int) (w:World) :
  Calls Tryz.prog 59 #[.int .i64 s,.slice none 0 0,.int .i64 p,.agg #[.int .i64 r1,.int .i64 r2,.int .i64 r3,.int .i64 r4,.int .i64 r5]] w fun x w'=>∃v',x=.returned v'∧LS w' v' (putL s p ⟨r1,r2,r3,r4,r5⟩ [])∧Below w.heap.size w w':=by
 obtain⟨V,hV⟩:∃V,V=w.alloc (.cells #[.int .i64 r1,.int .i64 r2,.int .i64 r3,.int .i64 r4,.int .i64 r5] 55):=⟨_,rfl⟩
 have HBV:Hid (Below w.heap.size w V):=by rw[hV];exact(bzR _ _).alloc (nzR _) _
 have HRV:Hid (V.heap[w.heap.size]?=some (.cells #[.int .i64 r1,.int .i64 r2,.int .i64 r3,.int .i64 r4,.int .i64 r5] 55 (0,0))):=by rw[hV];exact heap_alloc_new w _
 go_enter Tryz.func59,Tryz.ntmps59
 go_wp2_with fail
 rw[←hV]
 clear hV
 go_loopg [9] 0 (fun gg s9 wr=>s9=.int .i64 0∧wr=V)
 case atStart=>exact⟨rfl,rfl⟩
 case round=>
  obtain⟨rfl,rfl⟩:=hrel
  obtain⟨v1,w1,A1,O1,B1⟩:=lay_first wr (.slice none 0 0) _ (.inl ⟨rfl,rfl⟩) (by simp)
  have O2:OwnQ w1 w1.heap.size (.slice none 0 0) []:=qown_nil _ _
  have B2:Below w1.heap.size w1 w1:=bzR _ _
  obtain⟨q3,m3,c3,w3,A3,O3,B3⟩:=lay_rest w1.heap.size w1 (.slice none 0 0) ([]:List R) r1 r2 r3 r4 r5 O2 B2.size (by simp)
  obtain⟨v4,w4,v5,w5,A4,A5,E5,B5⟩:=lay_last wr w1 w3 v1 (.slice none 0 0) ([]:List RP) ([]:List RP) p q3 m3 c3 (([]:List R)++[⟨r1,r2,r3,r4,r5⟩]) B1 O1 (B2.trans B3) O3 (.inl ⟨rfl,rfl⟩) (by simp) (by simp) (by simp)
  have HF:Hid (LS w5 v5 (putL s p ⟨r1,r2,r3,r4,r5⟩ [])∧Below w.heap.size w w5):=⟨E5,HBV.out.trans (B5.mono HBV.out.size)⟩
  have HA1:Hid (appL (.slice none 0 0) (.slice none 0 0) wr v1 w1):=A1
  have HA3:Hid (appR (.slice none 0 0) (.slice (some ⟨w1.heap.size,0,none⟩) 1 1) (w1.alloc (.cells #[.int .i64 r1,.int .i64 r2,.int .i64 r3,.int .i64 r4,.int .i64 r5] 55)) (.slice q3 m3 c3) w3):=A3
  have HA4:Hid (appL v1 (.slice (some ⟨w3.heap.size,0,none⟩) 1 1) (w3.alloc (.cells #[.int .i64 p,.slice q3 m3 c3] 51)) v4 w4):=A4
  have HA5:Hid (appL v4 (.slice none 0 0) w4 v5 w5):=A5
  obtain⟨y0,y1,y2,y3,y4,-⟩:=rowFive HRV.out
  have z0:=keeps B1 y0
  have z1:=keeps B1 y1
  have z2:=keeps B1 y2
  have z3:=keeps B1 y3
  have z4:=keeps B1 y4
  clear A1 A3 A4 A5 O1 O2 O3 B1 B2 B3 B5 E5 y0 y1 y2 y3 y4
  go_upto_region 5 with fail
  go_upto_region 7 with (at_builtin;refine Lib.wpList_append_run _ rfl _ _ _ _ rfl _ _ rfl rfl _ _ HA1.out ?_)
  go_upto_region 10 with fail
  go_upto_region 11 with (at_builtin;refine Lib.wpList_append_run _ rfl _ _ _ _ rfl _ _ rfl rfl _ _ HA3.out ?_)
  go_upto_region 12 with (at_builtin;refine Lib.wpList_append_run _ rfl _ _ _ _ rfl _ _ rfl rfl _ _ HA4.out ?_)
  go_wp2_with (at_builtin;refine Lib.wpList_append_run _ rfl _ _ _ _ rfl _ _ rfl rfl _ _ HA5.out ?_)
  go_ret
  exact⟨_,rfl,HF.out⟩
theorem rput_good (s p r1 r2 r3 r4 r5:Int) (v:Value) (ls:List L) (w:World) (h:LS w v ls) (h0:schk s ls=0) (hp:priceB p=true) :
  Calls Tryz.prog 59 #[.int .i64 s,v,.int .i64 p,.agg #[.int .i64 r1,.int .i64 r2,.int .i64 r3,.int .i64 r4,.int .i64 r5]] w fun x w'=>∃v',x=.returned v'∧LS w' v' (putL s p ⟨r1,r2,r3,r4,r5⟩ ls)∧Below w.heap.size w w':=by
 obtain⟨z1,z2,z3,-⟩:=schk_zero h0
 have hE:=sgo_each z2
 have hlen:=len_cnt hE
 rcases h with ⟨rfl,rfl⟩|⟨b,o,c,rfl,h2,h3,h4,h5⟩
 ·exact rput_nil s p r1 r2 r3 r4 r5 w
 ·obtain⟨ps,e1,e2,e3⟩:=ll_loose ls o h5
  exact rput_some s p r1 r2 r3 r4 r5 b o c ls.length ls ps w e1 rfl h2 h3 h4 e2 e3 z1 hp (fun l hl=>price_of (hE l hl)) (by omega) (fun l hl=>⟨by have:=rests_le hl;omega,(lchk_zero (hE l hl)).2.1⟩)
end Go.Proofs.YtnjpjieedgmffaaGreatDoor.sid
