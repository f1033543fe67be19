import Derived.Test.YtnjpjieedgmffaaGreatDoorSelHid
import Derived.Test.YtnjpjieedgmffaaGreatDoorSidRef9
import Derived.Test.YtnjpjieedgmffaaGreatDoorSelMem
import Derived.Test.YtnjpjieedgmffaaGreatDoorMeeFact2
import Derived.BigRegion
import Derived.Deep.RegionWith
import Derived.Deep.RegionHeld3
namespace Go.Proofs.YtnjpjieedgmffaaGreatDoor.smt
open Go.RowKit spn que sid bok mee
theorem lay_lastH (b0:Nat) (W w1 w3:World) (v1 x5:Value) (xa xb:List RP) (p:Int) (q:Option Addr) (m cc:Nat) (zs:List R) (hB1:Below W.heap.size W w1) (O1:rlv.OwnQ w1 W.heap.size v1 (xa.map (·.1))) (hB3:Below w1.heap.size w1 w3) (O3:OwnQ w3 w1.heap.size (.slice q m cc) zs)
  (hx:rlv.SL W x5 (xb.map (·.1))) (ha:∀p∈xa,SLe (hide b0 W) (sv p.1) p.2) (hb:∀p∈xb,SLe (hide b0 W) (sv p.1) p.2) (hl:xa.length+xb.length≤100) :
  ∃v4 w4 v5 w5,appL v1 (.slice (some ⟨w3.heap.size,0,none⟩) 1 1) (w3.alloc (.cells #[.int .i64 p,.slice q m cc] 51)) v4 w4∧appL v4 x5 w4 v5 w5∧LS (hide b0 w5) v5 (xa.map toL++⟨p,zs⟩::xb.map toL)∧Below W.heap.size W w5:=by
 have hB3a:Below w3.heap.size w3 (w3.alloc (.cells #[.int .i64 p,.slice q m cc] 51)):=(bzR _ _).alloc (nzR _) _
 have hs1:=hB1.size
 have hs3:=hB3.size
 have hO1:rlv.OwnQ (w3.alloc (.cells #[.int .i64 p,.slice q m cc] 51)) W.heap.size v1 (xa.map (·.1)):=OwnM.below (OwnM.below O1 hB3) hB3a
 obtain⟨v4,w4,e1,o4,g4,b4⟩:=rlv.run_append_r _ W.heap.size v1 (.slice (some ⟨w3.heap.size,0,none⟩) 1 1) (xa.map (·.1)) [⟨p,q,m,cc⟩] hO1 (rlv.one_sl w3 p q m cc) (by simp;omega) (by simp;omega)
 have hW3:Below W.heap.size W w3:=hB1.trans (hB3.mono hs1)
 have hW3a:=hW3.trans (hB3a.mono hW3.size)
 have hW4:Below W.heap.size W w4:=hW3a.grown g4 hW3a.size (fun k hk=>(OwnM.lt O1 k hk).1)
 obtain⟨v5,w5,e2,o5,g5,b5⟩:=rlv.run_append_r w4 W.heap.size v4 x5 (xa.map (·.1)++[⟨p,q,m,cc⟩]) (xb.map (·.1)) o4 (hx.below hW4) (by simp;omega) hW4.size
 have hW5:Below W.heap.size W w5:=hW4.grown g5 hW4.size (fun k hk=>(OwnM.lt o4 k hk).1)
 have r3:OwnQ (w3.alloc (.cells #[.int .i64 p,.slice q m cc] 51)) w1.heap.size (.slice q m cc) zs:=OwnM.below O3 hB3a
 have r4:OwnQ w4 w1.heap.size (.slice q m cc) zs:=kept_of r3 g4 (fun z hz e=>by
  have h1:=(OwnM.lt O3 z hz).1
  have h2:=(OwnM.lt O1 z e).2
  omega)
 have r5:OwnQ w5 w1.heap.size (.slice q m cc) zs:=kept_of r4 g5 (fun z hz e=>by
  have h1:=(OwnM.lt O3 z hz).1
  have h3:=(OwnM.lt O3 z hz).2
  rcases b4 with b4|b4
  ·rw[b4] at e
   have h2:=(OwnM.lt O1 z e).2
   omega
  ·rw[b4] at e
   simp at e
   omega)
 refine⟨v4,w4,v5,w5,e1,e2,?_,hW5⟩
 exact laid_ls (x:=(⟨p,q,m,cc⟩,zs)) ha hb (.inl (OwnQ.sl (ownQ_hide r5))) (hide_below hW5) (by have o6:=ownL_hide (b0:=b0) o5;rw[List.append_assoc] at o6;exact o6)
theorem lay_rest2H (b0:Nat) (W w1 w3:World) (v1 x5:Value) (xa xb:List RP) (hB1:Below W.heap.size W w1) (O1:rlv.OwnQ w1 W.heap.size v1 (xa.map (·.1))) (hB3:Below w1.heap.size w1 w3)
  (hx:rlv.SL W x5 (xb.map (·.1))) (ha:∀p∈xa,SLe (hide b0 W) (sv p.1) p.2) (hb:∀p∈xb,SLe (hide b0 W) (sv p.1) p.2) (hl:xa.length+xb.length≤100) :
  ∃v5 w5,appL v1 x5 w3 v5 w5∧LS (hide b0 w5) v5 (xa.map toL++xb.map toL)∧Below W.heap.size W w5:=by
 have hs1:=hB1.size
 have hs3:=hB3.size
 have hW3:Below W.heap.size W w3:=hB1.trans (hB3.mono hs1)
 have hO1:rlv.OwnQ w3 W.heap.size v1 (xa.map (·.1)):=OwnM.below O1 hB3
 obtain⟨v5,w5,e2,o5,g5,b5⟩:=rlv.run_append_r w3 W.heap.size v1 x5 (xa.map (·.1)) (xb.map (·.1)) hO1 (hx.below hW3) (by simp;omega) hW3.size
 have hW5:Below W.heap.size W w5:=hW3.grown g5 hW3.size (fun k hk=>(OwnM.lt O1 k hk).1)
 exact⟨v5,w5,e2,laid_ls2 ha hb (hide_below hW5) (ownL_hide (b0:=b0) o5),hW5⟩
set_option maxRecDepth 100000 in
set_option maxHeartbeats 4000000 in
theorem rout_someH (b0:Nat) (b o cc n:Nat) (ls:List L) (ps:List RP) (i k:Nat) (w:World) (hps:ps.map toL=ls) (hn:ls.length=n) (hc:n≤cc) (hm:cc≤9223372036854775807) (hb:b < w.heap.size) (hl:rlv.Lies w b o (ps.map (·.1))) (heH:∀p∈ps,SLe (hide b0 w) (sv p.1) p.2) (hi:i < n) (p:Int) (zs:List R) (hli:ls[i]! = ⟨p,zs⟩) (hk:k < zs.length) (h60:n≤60) (hr60:zs.length≤60) :
  Calls Tryz.prog 33 #[.slice (some ⟨b,o,none⟩) n cc,.int .i64 i,.int .i64 k] w fun x w'=>∃q' n' c',x=.returned (.slice q' n' c')∧LS (hide b0 w') (.slice q' n' c') (dropL ls i k)∧Below w.heap.size w w':=by
 have he:∀p∈ps,SLe w (sv p.1) p.2:=fun p hp=>hide_sle (heH p hp)
 have HLL:Hid (LL w b o ls):=by rw[←hps];exact loose_ll hl he
 have HN:Hid (ls.length=n):=hn
 have HPN:Hid (ps.length=n):=by show _=_;rw[←hn,←hps,List.length_map]
 have HL:Hid (rlv.Lies w b o (ps.map (·.1))):=hl
 have HE:Hid (∀p∈ps,SLe (hide b0 w) (sv p.1) p.2):=heH
 have HPS:Hid (ps.map toL=ls):=hps
 have HLI:Hid (ls[i]! = ⟨p,zs⟩):=hli
 obtain⟨rq,rc,c0,c1,hsl⟩:=HLL.out.at (by rw[HN.out];exact hi) hli
 have hne:zs≠[]:=fun e=>by rw[e] at hk;simp at hk
 clear hl he heH hps hn hli
 have i0:¬((i:Int) < 0):=by omega
 have i1:(i:Int) < (n:Int):=by omega
 have i2:(i:Int)≤(cc:Int):=by omega
 have i3:¬(((i+1:Nat):Int) < 0):=by omega
 have i4:((i+1:Nat):Int)≤(n:Int):=by omega
 have i5:(n:Int)≤(cc:Int):=by omega
 have w1e:wrap64 ((i:Int)+1)=((i+1:Nat):Int):=by unfold wrap64;omega
 have HX1:Hid (rlv.SL w (.slice (some ⟨b,o,none⟩) i cc) ((ps.take i).map (·.1))):=by
  show rlv.SL _ _ _
  rw[List.map_take]
  exact rlv.sl_take (by rw[List.length_map,HPN.out];omega) (by rw[List.length_map,HPN.out];exact hc) hm hb HL.out
 obtain⟨v1,w1,A1,O1,B1⟩:=lay_first w (.slice (some ⟨b,o,none⟩) i cc) _ HX1.out (by simp;omega)
 have HA1:Hid (appL (.slice none 0 0) (.slice (some ⟨b,o,none⟩) i cc) w v1 w1):=A1
 have HB1:Hid (Below w.heap.size w w1):=B1
 have HO1:Hid (rlv.OwnQ w1 w.heap.size v1 ((ps.take i).map (·.1))):=O1
 have x0:=keeps B1 c0
 have x1:=keeps B1 c1
 have HWO:Hid (Calls Tryz.prog 57 #[.slice rq zs.length rc,.int .i64 k] w1 fun e w'=>∃v,e=.returned v∧OwnQ w' w1.heap.size v (zs.take k++zs.drop (k+1))∧Below w1.heap.size w1 w'):=by
  rcases(hsl.sl hne).below B1 with ⟨hv,hz'⟩|⟨b2,o2,cp,hv,h2,h3,h4,h5⟩
  ·exact absurd hz' hne
  ·cases hv
   exact without_some b2 o2 rc zs.length zs k w1 rfl h4 h2 h3 (by omega) h5 hk
 clear A1 O1 B1 HX1 c0 c1 hsl
 go_enter Tryz.func33,Tryz.ntmps33
 go_upto_region 3 with (at_builtin;refine Lib.wpList_append_run _ rfl _ _ _ _ rfl _ _ rfl rfl _ _ HA1.out ?_)
 go_wp2_with fail
 refine HWO.out.mono ?_
 rintro e w2 ⟨v3,rfl,O3,B2⟩
 obtain⟨q3,c3,hv3⟩:=OwnM.form O3
 subst hv3
 have hlen:(zs.take k++zs.drop (k+1)).length=zs.length - 1:=by simp;omega
 have HO3:Hid (OwnQ w2 w1.heap.size (.slice q3 (zs.length - 1) c3) (zs.take k++zs.drop (k+1))):=by rw[hlen] at O3;exact O3
 have HB2:Hid (Below w1.heap.size w1 w2):=B2
 rw[hlen]
 have y0:=keeps B2 x0
 clear O3 B2 hlen x0 x1
 by_cases hz1:zs.length=1
 ·rw[hz1]
  by_cases hcap:i+1=cc
  ·obtain rfl:n=i+1:=by omega
   subst hcap
   have HX5:Hid (rlv.SL w (.slice (some ⟨b,o,none⟩) 0 0) ((ps.drop (i+1)).map (·.1))):=by
    show rlv.SL _ _ _
    rw[List.map_drop]
    rw[List.drop_eq_nil_of_le (by rw[List.length_map,HPN.out];omega)]
    exact .inr ⟨b,o,0,rfl,by simp,by omega,hb,fun j hj=>absurd hj (Nat.not_lt_zero _)⟩
   obtain⟨v5,w5,A5,E5,B5⟩:=lay_rest2H b0 w w1 w2 v1 (.slice (some ⟨b,o,none⟩) 0 0) (ps.take i) (ps.drop (i+1)) HB1.out HO1.out HB2.out HX5.out (fun y hy=>HE.out y (List.mem_of_mem_take hy)) (fun y hy=>HE.out y (List.mem_of_mem_drop hy)) (by have:=HPN.out;simp;omega)
   have HF:Hid (LS (hide b0 w5) v5 (dropL ls i k)∧Below w.heap.size w w5):=by
    refine⟨?_,B5⟩
    rw[List.map_take,List.map_drop,HPS.out] at E5
    unfold dropL
    rw[HLI.out,if_pos hz1,List.eraseIdx_eq_take_drop_succ]
    exact E5
   have HA5:Hid (appL v1 (.slice (some ⟨b,o,none⟩) 0 0) w2 v5 w5):=A5
   clear A5 E5 B5 HX5
   go_wp2_with (at_builtin;refine Lib.wpList_append_run _ rfl _ _ _ _ rfl _ _ rfl rfl _ _ HA5.out ?_)
   go_ret
   obtain⟨q',n',c',hv'⟩:=ls_form HF.out.1
   subst hv'
   exact⟨q',n',c',rfl,HF.out⟩
  ·have HX5:Hid (rlv.SL w (.slice (some ⟨b,o+(i+1) * 2,none⟩) (n - (i+1)) (cc - (i+1))) ((ps.drop (i+1)).map (·.1))):=by
    show rlv.SL _ _ _
    rw[List.map_drop]
    have h:=rlv.sl_drop (k:=i+1) (by rw[List.length_map,HPN.out];omega) (by rw[List.length_map,HPN.out];exact hc) hm hb HL.out
    rw[List.length_map,HPN.out] at h
    unfold rlv.offK at h
    rw[if_neg hcap] at h
    exact h
   obtain⟨v5,w5,A5,E5,B5⟩:=lay_rest2H b0 w w1 w2 v1 (.slice (some ⟨b,o+(i+1) * 2,none⟩) (n - (i+1)) (cc - (i+1))) (ps.take i) (ps.drop (i+1)) HB1.out HO1.out HB2.out HX5.out (fun y hy=>HE.out y (List.mem_of_mem_take hy)) (fun y hy=>HE.out y (List.mem_of_mem_drop hy)) (by have:=HPN.out;simp;omega)
   have HF:Hid (LS (hide b0 w5) v5 (dropL ls i k)∧Below w.heap.size w w5):=by
    refine⟨?_,B5⟩
    rw[List.map_take,List.map_drop,HPS.out] at E5
    unfold dropL
    rw[HLI.out,if_pos hz1,List.eraseIdx_eq_take_drop_succ]
    exact E5
   have HA5:Hid (appL v1 (.slice (some ⟨b,o+(i+1) * 2,none⟩) (n - (i+1)) (cc - (i+1))) w2 v5 w5):=A5
   clear A5 E5 B5 HX5
   go_wp2_with (at_builtin;refine Lib.wpList_append_run _ rfl _ _ _ _ rfl _ _ rfl rfl _ _ HA5.out ?_)
   go_ret
   obtain⟨q',n',c',hv'⟩:=ls_form HF.out.1
   subst hv'
   exact⟨q',n',c',rfl,HF.out⟩
 ·have hz2:(0:Int) < ((zs.length - 1:Nat):Int):=by omega
  obtain⟨m3,hm3⟩:∃m3,zs.length - 1=m3:=⟨_,rfl⟩
  rw[hm3] at HO3 hz2 ⊢
  have hz3:0 < m3:=by omega
  by_cases hcap:i+1=cc
  ·obtain rfl:n=i+1:=by omega
   subst hcap
   have HX5:Hid (rlv.SL w (.slice (some ⟨b,o,none⟩) 0 0) ((ps.drop (i+1)).map (·.1))):=by
    show rlv.SL _ _ _
    rw[List.map_drop]
    rw[List.drop_eq_nil_of_le (by rw[List.length_map,HPN.out];omega)]
    exact .inr ⟨b,o,0,rfl,by simp,by omega,hb,fun j hj=>absurd hj (Nat.not_lt_zero _)⟩
   obtain⟨v4,w4,v5,w5,A4,A5,E5,B5⟩:=lay_lastH b0 w w1 w2 v1 (.slice (some ⟨b,o,none⟩) 0 0) (ps.take i) (ps.drop (i+1)) p q3 m3 c3 (zs.take k++zs.drop (k+1)) HB1.out HO1.out HB2.out HO3.out HX5.out (fun y hy=>HE.out y (List.mem_of_mem_take hy)) (fun y hy=>HE.out y (List.mem_of_mem_drop hy)) (by have:=HPN.out;simp;omega)
   have HF:Hid (LS (hide b0 w5) v5 (dropL ls i k)∧Below w.heap.size w w5):=by
    refine⟨?_,B5⟩
    rw[List.map_take,List.map_drop,HPS.out] at E5
    unfold dropL
    rw[HLI.out,if_neg hz1,List.eraseIdx_eq_take_drop_succ,List.set_eq_take_append_cons_drop,if_pos (by rw[HN.out];exact hi)]
    exact E5
   have HA4:Hid (appL v1 (.slice (some ⟨w2.heap.size,0,none⟩) 1 1) (w2.alloc (.cells #[.int .i64 p,.slice q3 m3 c3] 51)) v4 w4):=A4
   have HA5:Hid (appL v4 (.slice (some ⟨b,o,none⟩) 0 0) w4 v5 w5):=A5
   clear A4 A5 E5 B5 HX5
   go_upto_region 6 with (at_builtin;refine Lib.wpList_append_run _ rfl _ _ _ _ rfl _ _ rfl rfl _ _ HA4.out ?_)
   go_wp2_with (at_builtin;refine Lib.wpList_append_run _ rfl _ _ _ _ rfl _ _ rfl rfl _ _ HA5.out ?_)
   go_ret
   obtain⟨q',n',c',hv'⟩:=ls_form HF.out.1
   subst hv'
   exact⟨q',n',c',rfl,HF.out⟩
  ·have HX5:Hid (rlv.SL w (.slice (some ⟨b,o+(i+1) * 2,none⟩) (n - (i+1)) (cc - (i+1))) ((ps.drop (i+1)).map (·.1))):=by
    show rlv.SL _ _ _
    rw[List.map_drop]
    have h:=rlv.sl_drop (k:=i+1) (by rw[List.length_map,HPN.out];omega) (by rw[List.length_map,HPN.out];exact hc) hm hb HL.out
    rw[List.length_map,HPN.out] at h
    unfold rlv.offK at h
    rw[if_neg hcap] at h
    exact h
   obtain⟨v4,w4,v5,w5,A4,A5,E5,B5⟩:=lay_lastH b0 w w1 w2 v1 (.slice (some ⟨b,o+(i+1) * 2,none⟩) (n - (i+1)) (cc - (i+1))) (ps.take i) (ps.drop (i+1)) p q3 m3 c3 (zs.take k++zs.drop (k+1)) HB1.out HO1.out HB2.out HO3.out HX5.out (fun y hy=>HE.out y (List.mem_of_mem_take hy)) (fun y hy=>HE.out y (List.mem_of_mem_drop hy)) (by have:=HPN.out;simp;omega)
   have HF:Hid (LS (hide b0 w5) v5 (dropL ls i k)∧Below w.heap.size w w5):=by
    refine⟨?_,B5⟩
    rw[List.map_take,List.map_drop,HPS.out] at E5
    unfold dropL
    rw[HLI.out,if_neg hz1,List.eraseIdx_eq_take_drop_succ,List.set_eq_take_append_cons_drop,if_pos (by rw[HN.out];exact hi)]
    exact E5
   have HA4:Hid (appL v1 (.slice (some ⟨w2.heap.size,0,none⟩) 1 1) (w2.alloc (.cells #[.int .i64 p,.slice q3 m3 c3] 51)) v4 w4):=A4
   have HA5:Hid (appL v4 (.slice (some ⟨b,o+(i+1) * 2,none⟩) (n - (i+1)) (cc - (i+1))) w4 v5 w5):=A5
   clear A4 A5 E5 B5 HX5
   go_upto_region 6 with (at_builtin;refine Lib.wpList_append_run _ rfl _ _ _ _ rfl _ _ rfl rfl _ _ HA4.out ?_)
   go_wp2_with (at_builtin;refine Lib.wpList_append_run _ rfl _ _ _ _ rfl _ _ rfl rfl _ _ HA5.out ?_)
   go_ret
   obtain⟨q',n',c',hv'⟩:=ls_form HF.out.1
   subst hv'
   exact⟨q',n',c',rfl,HF.out⟩
theorem rout_goodH (b0:Nat) (s:Int) (v:Value) (ls:List L) (i k:Nat) (w:World) (h:LS (hide b0 w) v ls) (h0:schk s ls=0) (hi:i < ls.length) (hk:k < ls[i].rests.length) :
  Calls Tryz.prog 33 #[v,.int .i64 i,.int .i64 k] w fun x w'=>∃q' n' c',x=.returned (.slice q' n' c')∧LS (hide b0 w') (.slice q' n' c') (dropL ls i k)∧Below w.heap.size w w':=by
 obtain⟨z1,z2,z3,-⟩:=schk_zero h0
 have hE:=sgo_each z2
 have hlen:=len_cnt hE
 rcases h with ⟨rfl,rfl⟩|⟨b,o,c,rfl,h2,h3,h4,h5⟩
 ·simp at hi
 ·rw[hide_size] at h4
  obtain⟨ps,e1,e2,e3⟩:=ll_loose ls o h5
  exact rout_someH b0 b o c ls.length ls ps i k w e1 rfl h2 h3 h4 (fun j hj i v hv=>hide_cell (e2 j hj i v hv)) e3 hi ls[i].price ls[i].rests (by rw[getE _ _ hi]) hk (by omega) (by have:=rests_le (List.getElem_mem hi);omega)
end Go.Proofs.YtnjpjieedgmffaaGreatDoor.smt
namespace Go.Proofs.YtnjpjieedgmffaaGreatDoor.smt
open Go.RowKit spn que sid bok mee
open ord (O mB chk)
theorem seven_at5 {w:World}{B:Nat}{y0 y1 y2 y3 y4 y5 y6:Value}{t:TypeId}(h:w.heap[B]?=some (.cells #[y0,y1,y2,y3,y4,y5,y6] t (0,0))) (x:Value) :
  (w.setCell ⟨B,5,none⟩ x).heap[B]?=some (.cells #[y0,y1,y2,y3,y4,x,y6] t (0,0)):=by
 have h0:=heap_setCell_same _ B 5 _ _ x h
 simp only[List.setIfInBounds_toArray,List.set_cons_zero,List.set_cons_succ] at h0
 exact h0
theorem seven_at6 {w:World}{B:Nat}{y0 y1 y2 y3 y4 y5 y6:Value}{t:TypeId}(h:w.heap[B]?=some (.cells #[y0,y1,y2,y3,y4,y5,y6] t (0,0))) (x:Value) :
  (w.setCell ⟨B,6,none⟩ x).heap[B]?=some (.cells #[y0,y1,y2,y3,y4,y5,x] t (0,0)):=by
 have h0:=heap_setCell_same _ B 6 _ _ x h
 simp only[List.setIfInBounds_toArray,List.set_cons_zero,List.set_cons_succ] at h0
 exact h0
theorem less_step {o:O}{p left:Int}{r:R}{rs:List R}{t:List L}(hl:0 < left) (hm:mB o p=true) (hg:∀l∈(⟨p,r::rs⟩::t:List L),lchk l=0):slf.Less (⟨p,r::rs⟩::t) (stepL p (tk1 (min left r.qty) r rs) t):=by
 have hq:qchk (r::rs)=0:=(lchk_zero (hg ⟨p,r::rs⟩ (by simp))).2.2
 have hp:=rest_pos hq
 have h:=slf.less_tkl (o:=o) (q:=min left r.qty) (by omega) hg
 rw[tkl_fill (by omega) hm hq,show min (min left r.qty) r.qty=min left r.qty by omega,show min left r.qty - min left r.qty=0 by omega,tkl_zero (Int.le_refl 0)] at h
 exact h
end Go.Proofs.YtnjpjieedgmffaaGreatDoor.smt
namespace Go.Proofs.YtnjpjieedgmffaaGreatDoor.slf
open Go.RowKit spn que sid bok mee
open ord (O oV mB mE chk)
theorem hidT {P:Prop}(h:P):Hid P:=h
theorem take_nothing (VB:Nat) (a b c d p q s t:Int) (w:World) :
  Calls Tryz.prog 43 #[.pointer (some ⟨VB,0,none⟩),.agg #[.int .i64 a,.int .i64 b,.int .i64 c,.int .i64 d,.int .i64 p,.int .i64 q,.int .i64 s,.int .i64 t],.int .i64 0] w fun e w'=>e=.returned .nilIface∧Below w.heap.size w w':=by
 go_enter Tryz.func43,Tryz.ntmps43
 go_wp2_with fail
 go_ret
 exact⟨rfl,(bzR _ _).alloc (nzR _) _⟩
theorem newBkS {U w' : World}(h:Below (U.alloc (.cells #[.slice none 0 0,.slice none 0 0] 24)).heap.size (U.alloc (.cells #[.slice none 0 0,.slice none 0 0] 24)) w'):w'.heap[U.heap.size]?=some (.cells #[.slice none 0 0,.slice none 0 0] 24 (0,0)):=(h.block _ (by simp)).trans (heap_alloc_new U _)
theorem newBkS2 {U w' : World}(h:Below (U.alloc (.cells #[.slice none 0 0,.slice none 0 0] 24)).drew.heap.size (U.alloc (.cells #[.slice none 0 0,.slice none 0 0] 24)).drew w'):w'.heap[U.heap.size]?=some (.cells #[.slice none 0 0,.slice none 0 0] 24 (0,0)):=by
 have e:(U.alloc (.cells #[.slice none 0 0,.slice none 0 0] 24)).drew.heap=(U.alloc (.cells #[.slice none 0 0,.slice none 0 0] 24)).heap:=rfl
 have h1:=h.block U.heap.size (by rw[e];simp)
 rw[e] at h1
 exact h1.trans (heap_alloc_new U _)
def TakeV (w0:World) (o:O) (bs ss X:List L) (ts:List T) (ids:List Int) (left gone k:Int) (iv:Value) (base VB:Nat) (w:World) (e:Ending) (w' : World):Prop:=
 ((ts++(tkl o X k).2.1).length≤400→e=.returned .nilIface∧∃q1 q2 n1 n2 c1 c2 tv,w'.heap[VB]?=some (.cells #[.slice q1 n1 c1,.slice q2 n2 c2,tv,.int .i64 (left - k),.int .i64 gone,iv] 64 (0,0))∧SafeS w0 w' base (.slice q1 n1 c1) (repB o bs (tkl o X k).1)∧SafeS w0 w' base (.slice q2 n2 c2) (repS o ss (tkl o X k).1)∧OwnT w' base tv (ts++(tkl o X k).2.1)∧OwnI w' base iv ids)∧
 (¬(ts++(tkl o X k).2.1).length≤400→e=.returned (.iface 70 (.int .i64 4)))∧FarV w w' base VB
set_option maxRecDepth 100000 in
set_option maxHeartbeats 4000000 in
theorem take_some (w0:World) (VB base:Nat) (q1 q2:Option Addr) (n1 n2 c1 c2:Nat) (tv iv:Value) (bs ss X:List L) (ts:List T) (ids:List Int) (left gone k:Int) (a b c d p q s t:Int) (w:World)
  (hrow:w.heap[VB]?=some (.cells #[.slice q1 n1 c1,.slice q2 n2 c2,tv,.int .i64 left,.int .i64 gone,iv] 64 (0,0)))
  (h1:LS w (.slice q1 n1 c1) (repB ⟨a,b,c,d,p,q,s,t⟩ bs X)) (h2:LS w (.slice q2 n2 c2) (repS ⟨a,b,c,d,p,q,s,t⟩ ss X)) (hT:OwnT w base tv ts) (hI:OwnI w base iv ids) (hVb:VB < base) (hbase:base≤w.heap.size) (hts:ts.length≤400)
  (hX:∀l∈X,lchk l=0) (hk1:1≤k) (hk2:k≤left) (hl:left≤10000) (hC:comeE (repB ⟨a,b,c,d,p,q,s,t⟩ bs X) (repS ⟨a,b,c,d,p,q,s,t⟩ ss X) (part ⟨a,b,c,d,p,q,s,t⟩ k)=0) (hz:(tkl ⟨a,b,c,d,p,q,s,t⟩ X k).2.2=0) :
  Calls Tryz.prog 43 #[.pointer (some ⟨VB,0,none⟩),.agg #[.int .i64 a,.int .i64 b,.int .i64 c,.int .i64 d,.int .i64 p,.int .i64 q,.int .i64 s,.int .i64 t],.int .i64 k] w fun e w'=>TakeV w0 ⟨a,b,c,d,p,q,s,t⟩ bs ss X ts ids left gone k iv base VB w e w':=by
 obtain⟨U,hU⟩:∃U,U=w.alloc (.cells #[.int .i64 a,.int .i64 b,.int .i64 c,.int .i64 d,.int .i64 p,.int .i64 k,.int .i64 0,.int .i64 t] 26):=⟨_,rfl⟩
 have hBU:Below w.heap.size w U:=by rw[hU];exact(bzR _ _).alloc (nzR _) _
 have hrU:U.heap[w.heap.size]?=some (.cells #[.int .i64 a,.int .i64 b,.int .i64 c,.int .i64 d,.int .i64 p,.int .i64 k,.int .i64 0,.int .i64 t] 26 (0,0)):=by rw[hU];exact heap_alloc_new w _
 obtain⟨Q,hQ⟩:∃Q,Q=w.heap.size:=⟨_,rfl⟩
 rw[←hQ] at hrU
 have hQV:Q < U.heap.size:=(gzE.1 hrU).1
 have hVQ:VB < Q:=by omega
 have HBU:=hidT hBU
 have hrowU:=(hBU.block VB (by omega)).trans hrow
 have HTU:=hidT (OwnM.below hT hBU)
 have HIU:=hidT (OwnM.below hI hBU)
 have HCE:Hid (comeE (repB ⟨a,b,c,d,p,q,s,t⟩ bs X) (repS ⟨a,b,c,d,p,q,s,t⟩ ss X) ⟨a,b,c,d,p,k,0,t⟩=0):=hC
 have HMR:Hid (metR (repB ⟨a,b,c,d,p,q,s,t⟩ bs X) (repS ⟨a,b,c,d,p,q,s,t⟩ ss X) ⟨a,b,c,d,p,k,0,t⟩=tkl ⟨a,b,c,d,p,q,s,t⟩ X k∧metB (repB ⟨a,b,c,d,p,q,s,t⟩ bs X) (repS ⟨a,b,c,d,p,q,s,t⟩ ss X) ⟨a,b,c,d,p,k,0,t⟩=repB ⟨a,b,c,d,p,q,s,t⟩ bs (tkl ⟨a,b,c,d,p,q,s,t⟩ X k).1∧metS (repB ⟨a,b,c,d,p,q,s,t⟩ bs X) (repS ⟨a,b,c,d,p,q,s,t⟩ ss X) ⟨a,b,c,d,p,k,0,t⟩=repS ⟨a,b,c,d,p,q,s,t⟩ ss (tkl ⟨a,b,c,d,p,q,s,t⟩ X k).1):=
  ⟨rep_metR ⟨a,b,c,d,p,q,s,t⟩ bs ss X k,rep_metB ⟨a,b,c,d,p,q,s,t⟩ bs ss X k,rep_metS ⟨a,b,c,d,p,q,s,t⟩ bs ss X k⟩
 have HNE:Hid (¬(tkl ⟨a,b,c,d,p,q,s,t⟩ X k).2.1=[]∧(tkl ⟨a,b,c,d,p,q,s,t⟩ X k).2.1.length≤10000):=by
  have h:=tkl_sum (o:=⟨a,b,c,d,p,q,s,t⟩) X k (by omega) hX
  refine⟨fun e=>?_,by omega⟩
  rw[e] at h
  simp only[sumT] at h
  omega
 obtain⟨TK,hTK⟩:∃TK,tkl ⟨a,b,c,d,p,q,s,t⟩ X k=TK:=⟨_,rfl⟩
 have HTK:=hidT hTK
 have HNUM:=hidT (show VB < base∧base≤w.heap.size∧ts.length≤400∧VB < Q∧Q=w.heap.size∧Q < U.heap.size from⟨hVb,hbase,hts,hVQ,hQ,hQV⟩)
 have hkb:(k == 0)=false:=by simp;omega
 have E1:Hid (wrap64 (left - k)=left - k):=by show _=_;unfold wrap64;omega
 obtain⟨BX,hBX⟩:∃BX,repB ⟨a,b,c,d,p,q,s,t⟩ bs TK.1=BX:=⟨_,rfl⟩
 obtain⟨SX,hSX⟩:∃SX,repS ⟨a,b,c,d,p,q,s,t⟩ ss TK.1=SX:=⟨_,rfl⟩
 obtain⟨US,hUS⟩:∃US,TK.2.1=US:=⟨_,rfl⟩
 unfold TakeV
 rw[hTK]
 rw[hTK] at HMR HNE
 rw[hBX,hSX] at HMR
 rw[hBX,hSX,hUS]
 rw[hUS] at HNE
 obtain⟨DE,hDE⟩:∃DE:Int,(if 400 < US.length then 4 else 0)=DE:=⟨_,rfl⟩
 have HDE:Hid (doE (repB ⟨a,b,c,d,p,q,s,t⟩ bs X) (repS ⟨a,b,c,d,p,q,s,t⟩ ss X) ⟨a,b,c,d,p,k,0,t⟩=DE):=by
  show _=_
  unfold doE
  rw[if_pos HCE.out,HMR.out.1,hUS]
  exact hDE
 have HDO:Hid (∀W,Below U.heap.size U W→Calls Tryz.prog 39 #[.agg #[.slice q1 n1 c1,.slice q2 n2 c2],.agg #[.int .i64 a,.int .i64 b,.int .i64 c,.int .i64 d,.int .i64 p,.int .i64 k,.int .i64 0,.int .i64 t]] W fun e w'=>∃u1 u2 m1 m2 k1 k2 uq un uc z,e=.returned (.tuple #[.agg #[.slice u1 m1 k1,.slice u2 m2 k2],.slice uq un uc,.int .i64 z,errV DE])∧(DE=0→DL w' W.heap.size (.slice u1 m1 k1) BX∧DL w' W.heap.size (.slice u2 m2 k2) SX∧OwnT w' W.heap.size (.slice uq un uc) US)∧Below U.heap.size U w'∧Below W.heap.size W w'):=fun W hW=>by
  refine(do_anyD q1 q2 n1 n2 c1 c2 (repB ⟨a,b,c,d,p,q,s,t⟩ bs X) (repS ⟨a,b,c,d,p,q,s,t⟩ ss X) a b c d p k 0 t W ((h1.below hBU).below hW) ((h2.below hBU).below hW)).mono ?_
  rintro e w' ⟨i1,i2,hb⟩
  have hd:=HDE.out
  obtain⟨m1,m2,m3⟩:=HMR.out
  by_cases h0:doE (repB ⟨a,b,c,d,p,q,s,t⟩ bs X) (repS ⟨a,b,c,d,p,q,s,t⟩ ss X) ⟨a,b,c,d,p,k,0,t⟩=0
  ·obtain⟨u1,u2,mm1,mm2,k1,k2,uv,rfl,D1,D2,OT⟩:=i1 h0
   rw[m1,hUS] at OT
   rw[m2] at D1
   rw[m3] at D2
   obtain⟨uq,uc,hf⟩:=OwnM.form OT
   subst hf
   exact⟨u1,u2,mm1,mm2,k1,k2,uq,_,uc,_,by rw[←hd,h0];rfl,fun _=>⟨D1,D2,OT⟩,hW.trans (hb.mono hW.size),hb⟩
  ·have e:=i2 h0
   subst e
   exact⟨none,none,0,0,0,0,none,0,0,0,by rw[hd],fun h=>absurd (hd.trans h) h0,hW.trans (hb.mono hW.size),hb⟩
 have HDX:=hidT hDE
 clear hBX hSX hUS hDE
 clear hrow h1 h2 hT hI hVb hbase hts hX hk1 hk2 hl hC hz hBU hVQ hQV hTK
 go_enter Tryz.func43,Tryz.ntmps43
 go_upto_region 4 with fail
 rw[←hU]
 simp only[←hQ]
 clear hU hQ
 obtain⟨j0,j1,j2,j3,j4,j5,j6,j7,-⟩:=rowO hrU
 obtain⟨x0,x1,x2,x3,x4,x5,xf⟩:=rowV hrowU
 have HNQ:Hid (VB < U.heap.size):=(gzE.1 hrowU).1
 have HREL:Hid (∀W3 u1 u2 m1 m2 k1 k2 uq un uc X0 B,Below U.heap.size U W3→(DE=0→DL W3 B (.slice u1 m1 k1) BX∧DL W3 B (.slice u2 m2 k2) SX∧OwnT W3 B (.slice uq un uc) US)→U.heap.size≤X0→X0 < B→W3.heap[X0]?=some (.cells #[.slice none 0 0,.slice none 0 0] 24 (0,0))→
   ((W3.setCell ⟨X0,0,none⟩ (.slice u1 m1 k1)).setCell ⟨X0,1,none⟩ (.slice u2 m2 k2)).heap[X0]?=some (.cells #[.slice u1 m1 k1,.slice u2 m2 k2] 24 (0,0))∧Aside (U.heap.size≤X0∧Below U.heap.size U ((W3.setCell ⟨X0,0,none⟩ (.slice u1 m1 k1)).setCell ⟨X0,1,none⟩ (.slice u2 m2 k2))∧(DE=0→DL ((W3.setCell ⟨X0,0,none⟩ (.slice u1 m1 k1)).setCell ⟨X0,1,none⟩ (.slice u2 m2 k2)) U.heap.size (.slice u1 m1 k1) BX∧DL ((W3.setCell ⟨X0,0,none⟩ (.slice u1 m1 k1)).setCell ⟨X0,1,none⟩ (.slice u2 m2 k2)) U.heap.size (.slice u2 m2 k2) SX∧OwnT ((W3.setCell ⟨X0,0,none⟩ (.slice u1 m1 k1)).setCell ⟨X0,1,none⟩ (.slice u2 m2 k2)) U.heap.size (.slice uq un uc) US))):=fun W3 u1 u2 m1 m2 k1 k2 uq un uc X0 B hB hD hX0 hXB hr=>by
  have hg:=grTwo W3 X0 (.slice u1 m1 k1) (.slice u2 m2 k2)
  refine⟨setTwo hr _ _,hX0,hB.grown hg hB.size (fun k hk=>by cases hk;omega),fun h=>?_⟩
  obtain⟨d1,d2,d3⟩:=hD h
  exact⟨(d1.other hg hXB).mono (by omega),(d2.other hg hXB).mono (by omega),OwnM.mono (kept_of d3 hg (fun z hz e=>by cases e;have:=(OwnM.lt d3 X0 hz).1;omega)) (by omega)⟩
 have HRELA:Hid (∀W3 u1 u2 m1 m2 k1 k2 uq un uc B,Below U.heap.size U W3→U.heap.size≤B→(DE=0→DL W3 B (.slice u1 m1 k1) BX∧DL W3 B (.slice u2 m2 k2) SX∧OwnT W3 B (.slice uq un uc) US)→
   (W3.alloc (.cells #[.slice u1 m1 k1,.slice u2 m2 k2] 24)).heap[W3.heap.size]?=some (.cells #[.slice u1 m1 k1,.slice u2 m2 k2] 24 (0,0))∧Aside (U.heap.size≤W3.heap.size∧Below U.heap.size U (W3.alloc (.cells #[.slice u1 m1 k1,.slice u2 m2 k2] 24))∧(DE=0→DL (W3.alloc (.cells #[.slice u1 m1 k1,.slice u2 m2 k2] 24)) U.heap.size (.slice u1 m1 k1) BX∧DL (W3.alloc (.cells #[.slice u1 m1 k1,.slice u2 m2 k2] 24)) U.heap.size (.slice u2 m2 k2) SX∧OwnT (W3.alloc (.cells #[.slice u1 m1 k1,.slice u2 m2 k2] 24)) U.heap.size (.slice uq un uc) US))):=fun W3 u1 u2 m1 m2 k1 k2 uq un uc B hB hUB hD=>by
  have hBa:Below W3.heap.size W3 (W3.alloc (.cells #[.slice u1 m1 k1,.slice u2 m2 k2] 24)):=(bzR _ _).alloc (nzR _) _
  refine⟨heap_alloc_new W3 _,hB.size,hB.trans (hBa.mono hB.size),fun h=>?_⟩
  obtain⟨d1,d2,d3⟩:=hD h
  exact⟨(d1.below hBa).mono hUB,(d2.below hBa).mono hUB,OwnM.mono (OwnM.below d3 hBa) hUB⟩
 have SO:Hid (∀W,Below U.heap.size U W→(Below U.heap.size U W∧W.cell? ⟨VB,0,none⟩=some (.slice q1 n1 c1)∧W.cell? ⟨VB,1,none⟩=some (.slice q2 n2 c2)∧W.cell? ⟨Q,0,none⟩=some (.int .i64 a)∧W.cell? ⟨Q,1,none⟩=some (.int .i64 b)∧W.cell? ⟨Q,2,none⟩=some (.int .i64 c)∧W.cell? ⟨Q,3,none⟩=some (.int .i64 d)∧W.cell? ⟨Q,4,none⟩=some (.int .i64 p)∧W.cell? ⟨Q,5,none⟩=some (.int .i64 k)∧W.cell? ⟨Q,6,none⟩=some (.int .i64 0)∧W.cell? ⟨Q,7,none⟩=some (.int .i64 t))):=fun W hW=>⟨hW,keeps hW x0,keeps hW x1,keeps hW j0,keeps hW j1,keeps hW j2,keeps hW j3,keeps hW j4,keeps hW j5,keeps hW j6,keeps hW j7⟩
 clear x2 x3 x4 x5 xf
 go_cut [7,8,9,10] from 16 to 26 (fun s7 s8 s9 s10 wx=>∃u1 u2 m1 m2 k1 k2 uq un uc z X0,s7=.pointer (some ⟨X0,0,none⟩)∧s8=.slice uq un uc∧s9=.int .i64 z∧s10=errV DE∧wx.heap[X0]?=some (.cells #[.slice u1 m1 k1,.slice u2 m2 k2] 24 (0,0))∧Aside (U.heap.size≤X0∧Below U.heap.size U wx∧(DE=0→DL wx U.heap.size (.slice u1 m1 k1) BX∧DL wx U.heap.size (.slice u2 m2 k2) SX∧OwnT wx U.heap.size (.slice uq un uc) US)))
 case first=>
  generalize errV DE=EV at *
  go_region_held3 (fun W=>Below U.heap.size U W∧W.cell? ⟨VB,0,none⟩=some (.slice q1 n1 c1)∧W.cell? ⟨VB,1,none⟩=some (.slice q2 n2 c2)∧W.cell? ⟨Q,0,none⟩=some (.int .i64 a)∧W.cell? ⟨Q,1,none⟩=some (.int .i64 b)∧W.cell? ⟨Q,2,none⟩=some (.int .i64 c)∧W.cell? ⟨Q,3,none⟩=some (.int .i64 d)∧W.cell? ⟨Q,4,none⟩=some (.int .i64 p)∧W.cell? ⟨Q,5,none⟩=some (.int .i64 k)∧W.cell? ⟨Q,6,none⟩=some (.int .i64 0)∧W.cell? ⟨Q,7,none⟩=some (.int .i64 t))
   ((refine SO.out _ ?_;(repeat' (first|with_reducible assumption|with_reducible refine bal ?_ _|with_reducible refine Below.setCell ?_ ?_ _|with_reducible refine Below.drew ?_|with_reducible exact bzR _ _|with_reducible exact nzR _|with_reducible exact Below.size (by with_reducible assumption)|with_reducible refine Nat.le_succ_of_le ?_))))
   (first|(go_at_call 39;with_reducible refine(HDO.out _ ?_).mono ?_;(repeat' (first|with_reducible assumption|with_reducible refine bal ?_ _|with_reducible refine Below.drew ?_|with_reducible exact bzR _ _|with_reducible exact nzR _|with_reducible exact Below.size (by with_reducible assumption)));rintro x W3 ⟨u1,u2,m1,m2,k1,k2,uq,un,uc,z,rfl,hD3,hb3,hbW⟩;have yj:=True.intro;(try (have yj:=newBkS hbW));(try (have yj:=newBkS2 hbW));(try (have yh:=rowTwo yj;obtain⟨ya,yb,yc⟩:=yh;have yc0:=yc 0;have yc1:=yc 1));obtain⟨za,zb,zc⟩:=rowTwo (heap_alloc_new W3 (.cells #[.slice none 0 0,.slice none 0 0] 24));have zc0:=zc 0;have zc1:=zc 1))
  all_goals go_wp2_with fail
  all_goals go_meet
  all_goals first
   | exact⟨u1,u2,m1,m2,k1,k2,uq,un,uc,z,_,rfl,rfl,rfl,rfl,HRELA.out W3 u1 u2 m1 m2 k1 k2 uq un uc _ hb3 (by simp) hD3⟩
   | exact⟨u1,u2,m1,m2,k1,k2,uq,un,uc,z,_,rfl,rfl,rfl,rfl,HREL.out W3 u1 u2 m1 m2 k1 k2 uq un uc _ _ hb3 hD3 (by simp) (by simp) yj⟩
 case rest=>
 obtain⟨u1,u2,m1,m2,k1,k2,uq,un,uc,z,X0,rfl,rfl,rfl,rfl,hrx,HA⟩:=hcut
 have HX0:=hidT HA.out.1
 have HBC:=hidT HA.out.2.1
 have HDD:=hidT HA.out.2.2
 clear HA x0 x1 j0 j1 j2 j3 j4 j5 j6 j7 HREL HRELA SO HDO
 generalize wc=W4 at *
 have HWC:=hidT (HBU.out.trans (HBC.out.mono HBU.out.size))
 by_cases h0:DE=0
 rotate_left
 ·have hd4:DE=4∧¬(ts++US).length≤400:=by
   have h:=HDX.out
   by_cases h4:400 < US.length
   ·rw[if_pos h4] at h;rw[List.length_append];omega
   ·rw[if_neg h4] at h;omega
  obtain⟨rfl,h4⟩:=hd4
  have HPO:=hidT (show _∧_∧FarV w W4 base VB from⟨h4,trivial,FarV.below HWC.out HNUM.out.2.1⟩)
  rw[show errV 4=.iface 70 (.int .i64 4) from rfl]
  clear h4
  go_wp2_with fail
  go_ret
  exact⟨fun h=>absurd h HPO.out.1,fun _=>rfl,HPO.out.2.2⟩
 subst h0
 rw[errV_zero]
 obtain⟨hD1,hD2,hOU⟩:=HDD.out rfl
 have HD1:=hidT hD1
 have HD2:=hidT hD2
 have HOU:=hidT hOU
 have hrowC:=(HBC.out.block VB HNQ.out).trans hrowU
 have HTC:=hidT (OwnM.below HTU.out HBC.out)
 have HIC:=hidT (OwnM.below HIU.out HBC.out)
 obtain⟨b0,b1,-⟩:=rowTwo hrx
 obtain⟨x0,x1,x2,x3,x4,x5,xf⟩:=rowV hrowC
 have xf0:=xf 0
 have xf1:=xf 1
 have xf3:=xf 3
 have y1:=E1.out
 have y1b:IntKind.i64.wrap (left - k)=left - k:=(IntWalk.i64_left _).trans y1
 have HS7:Hid (∀W,Below W4.heap.size W4 W→(((W.setCell ⟨VB,0,none⟩ (.slice u1 m1 k1)).setCell ⟨VB,1,none⟩ (.slice u2 m2 k2)).setCell ⟨VB,3,none⟩ (.int .i64 (left - k))).heap[VB]?=some (.cells #[.slice u1 m1 k1,.slice u2 m2 k2,tv,.int .i64 (left - k),.int .i64 gone,iv] 64 (0,0))∧Aside (W4.grownBy (((W.setCell ⟨VB,0,none⟩ (.slice u1 m1 k1)).setCell ⟨VB,1,none⟩ (.slice u2 m2 k2)).setCell ⟨VB,3,none⟩ (.int .i64 (left - k))) (some VB))):=fun W hW=>by
  have hr:=(hW.block VB (gzE.1 hrowC).1).trans hrowC
  exact⟨v_at3 (v_at1 (v_at0 hr _) _) _,gr_trans (gr_below hW _) (gr_trans (gr_trans (gr_setCell _ _ _ _) (gr_setCell _ _ _ _)) (gr_setCell _ _ _ _))⟩
 clear hD1 hD2 hOU HDD xf hrowU hrU
 go_upto_region 7 with fail
 go_cut [30] from 30 to 42 (fun _ wx=>wx.heap[VB]?=some (.cells #[.slice u1 m1 k1,.slice u2 m2 k2,tv,.int .i64 (left - k),.int .i64 gone,iv] 64 (0,0))∧Aside (W4.grownBy wx (some VB)))
 case first=>
  go_region
  all_goals go_wp2_with fail
  all_goals go_meet
  all_goals first|exact HS7.out _ (bzR _ _)|exact HS7.out _ (bzR _ _).drew|exact⟨(HS7.out _ (bzR _ _)).1,gr_trans (HS7.out _ (bzR _ _)).2.out (gr_below (bzR _ _).drew _)⟩
 case rest=>
 obtain⟨hr7,hA7⟩:=hcut
 have HG7:=hidT hA7.out
 clear hA7 b0 b1 x0 x1 x2 x3 x4 x5 xf0 xf1 xf3 HS7 hrx hrowC y1 y1b
 generalize wc=W7 at *
 have hVU:=HNQ.out
 have hnum:=HNUM.out
 have hTl:∀z,tv.ownBlock=some z→base≤z∧z < U.heap.size:=fun z hz=>OwnM.lt HTU.out z hz
 have hT7:=kept_of HTC.out HG7.out (fun z hz e=>by cases e;have:=(hTl VB hz).1;omega)
 have hI7:=kept_of HIC.out HG7.out (fun z hz e=>by cases e;have:=(OwnM.lt HIC.out VB hz).1;omega)
 have hU7:=kept_of HOU.out HG7.out (fun z hz e=>by cases e;have:=(OwnM.lt HOU.out VB hz).1;omega)
 have hD17:=HD1.out.other HG7.out hVU
 have hD27:=HD2.out.other HG7.out hVU
 have hb7:base≤W7.heap.size:=by have h1:=HG7.out.size;have h2:=HWC.out.size;omega
 obtain⟨tq,tc,w8,A8,O8,G8⟩:=lay_trades hT7 hU7 hb7 HNE.out.1 (by have:=HNE.out.2;omega)
 have hr8:=(G8.block VB (by omega) (fun e=>by have:=(hTl VB e.symm).1;omega)).trans hr7
 have HA8:=hidT A8
 have HD18:=hidT (dl_row hD17 G8 (fun z hz=>(hTl z hz).2))
 have HD28:=hidT (dl_row hD27 G8 (fun z hz=>(hTl z hz).2))
 have HI8:=hidT (kept_of hI7 G8 (fun x hx=>own_ne hI7 hT7 (by decide) x hx))
 have HO8:=hidT O8
 have HF8:=hidT (FarV.trans (FarV.below HWC.out hnum.2.1) (FarV.trans (FarV.grown (base:=base) HG7.out (by have:=HWC.out.size;omega) (fun k hk=>.inl (by cases hk;rfl))) (FarV.grown (VB:=VB) G8 hb7 (fun k hk=>.inr (hTl k hk).1))))
 clear hT7 hI7 hU7 hD17 hD27 hTl A8 O8 G8
 obtain⟨x0,x1,x2,x3,x4,x5,xf⟩:=rowV hr7
 obtain⟨y0,y1,y2,y3,y4,y5,yf⟩:=rowV hr8
 have yf2:=yf 2
 clear xf yf hVU hnum hb7
 generalize hTL:(ts++US).length=TL at *
 have HTL:=hidT hTL
 clear hTL
 go_upto_region 9 with (at_builtin;refine Lib.wpList_append_run _ rfl _ _ _ _ rfl _ _ rfl rfl _ _ HA8.out ?_)
 have hr9:=v_at2 hr8 (.slice tq TL tc)
 have hg9:=gr_setCell w8 VB 2 (.slice tq TL tc)
 have hVU:=HNQ.out
 have hnum:=HNUM.out
 have HPO:Hid (FarV w (w8.setCell ⟨VB,2,none⟩ (.slice tq TL tc)) base VB∧SafeS w0 (w8.setCell ⟨VB,2,none⟩ (.slice tq TL tc)) base (.slice u1 m1 k1) BX∧SafeS w0 (w8.setCell ⟨VB,2,none⟩ (.slice tq TL tc)) base (.slice u2 m2 k2) SX∧OwnT (w8.setCell ⟨VB,2,none⟩ (.slice tq TL tc)) base (.slice tq TL tc) (ts++US)∧OwnI (w8.setCell ⟨VB,2,none⟩ (.slice tq TL tc)) base iv ids):=
  ⟨HF8.out.trans (FarV.grown hg9 (by have:=HF8.out.size;omega) (fun k hk=>.inl (by cases hk;rfl))),.inr ((HD18.out.other hg9 hVU).mono (by omega)),.inr ((HD28.out.other hg9 hVU).mono (by omega)),
   by
    have h:=HO8.out
    exact kept_of h hg9 (fun z hz e=>by cases e;have:=(OwnM.lt h VB hz).1;omega),
   kept_of HI8.out hg9 (fun z hz e=>by cases e;have:=(OwnM.lt HI8.out VB hz).1;omega)⟩
 clear x0 x1 x2 x3 x4 x5 y0 y1 y2 y3 y4 y5 yf2 hg9 hr8 hr7 hVU hnum HA8
 generalize w8.setCell ⟨VB,2,none⟩ (.slice tq TL tc)=W9 at *
 obtain⟨x0,x1,x2,x3,x4,x5,-⟩:=rowV hr9
 by_cases h4:TL≤400
 ·have h4z:¬(400:Int) < (TL:Int):=by omega
  have HR9:=hidT hr9
  go_wp2_with fail
  go_ret
  exact⟨fun _=>⟨rfl,u1,u2,m1,m2,k1,k2,.slice tq TL tc,HR9.out,HPO.out.2.1,HPO.out.2.2.1,HPO.out.2.2.2.1,HPO.out.2.2.2.2⟩,fun h=>(by have hh:=HTL.out;rw[List.length_append] at hh;exfalso;first|omega|(rw[List.length_append] at h;omega)),HPO.out.1⟩
 ·have h4z:(400:Int) < (TL:Int):=by omega
  go_wp2_with fail
  go_ret
  exact⟨fun h=>(by have hh:=HTL.out;rw[List.length_append] at hh;exfalso;first|omega|(rw[List.length_append] at h;omega)),fun _=>rfl,HPO.out.1⟩
theorem vtake_any (w0:World) (VB base:Nat) (q1 q2:Option Addr) (n1 n2 c1 c2:Nat) (tv iv:Value) (bs ss X:List L) (ts:List T) (ids:List Int) (left gone k:Int) (a b c d p q s t:Int) (w:World)
  (hrow:w.heap[VB]?=some (.cells #[.slice q1 n1 c1,.slice q2 n2 c2,tv,.int .i64 left,.int .i64 gone,iv] 64 (0,0)))
  (hw0:Below w0.heap.size w0 w) (h1:SafeS w0 w base (.slice q1 n1 c1) (repB ⟨a,b,c,d,p,q,s,t⟩ bs X)) (h2:SafeS w0 w base (.slice q2 n2 c2) (repS ⟨a,b,c,d,p,q,s,t⟩ ss X)) (hT:OwnT w base tv ts) (hI:OwnI w base iv ids) (hVb:VB < base) (hbase:base≤w.heap.size) (hts:ts.length≤400)
  (hX:∀l∈X,lchk l=0) (hk1:0≤k) (hk2:k≤left) (hl:left≤q) (hq:q≤10000) (hC:comeE bs ss ⟨a,b,c,d,p,q,s,t⟩=0) (hL:Less (otherL bs ss ⟨a,b,c,d,p,q,s,t⟩) X) (hz:(tkl ⟨a,b,c,d,p,q,s,t⟩ X k).2.2=0) :
  Calls Tryz.prog 43 #[.pointer (some ⟨VB,0,none⟩),.agg #[.int .i64 a,.int .i64 b,.int .i64 c,.int .i64 d,.int .i64 p,.int .i64 q,.int .i64 s,.int .i64 t],.int .i64 k] w fun e w'=>TakeV w0 ⟨a,b,c,d,p,q,s,t⟩ bs ss X ts ids left gone k iv base VB w e w':=by
 by_cases h0:k=0
 ·subst h0
  refine(take_nothing VB a b c d p q s t w).mono ?_
  rintro e w' ⟨rfl,hb⟩
  unfold TakeV
  rw[tkl_zero (Int.le_refl 0)]
  simp only[List.append_nil,Int.sub_zero]
  exact⟨fun _=>⟨trivial,q1,q2,n1,n2,c1,c2,tv,(hb.block VB (by omega)).trans hrow,h1.below hb,h2.below hb,OwnM.below hT hb,OwnM.below hI hb⟩,fun h=>absurd hts h,FarV.below hb hbase⟩
 ·exact take_some w0 VB base q1 q2 n1 n2 c1 c2 tv iv bs ss X ts ids left gone k a b c d p q s t w hrow (h1.ls hw0) (h2.ls hw0) hT hI hVb hbase hts hX (by omega) hk2 (by omega) (rep_come hC hL (by omega) (by simp only[];omega)) hz
end Go.Proofs.YtnjpjieedgmffaaGreatDoor.slf
