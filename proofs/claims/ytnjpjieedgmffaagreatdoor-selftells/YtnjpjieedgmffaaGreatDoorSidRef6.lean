import Derived.Test.YtnjpjieedgmffaaGreatDoorQueRefQ
import Derived.Test.YtnjpjieedgmffaaGreatDoorSidPut
namespace Go.Proofs.YtnjpjieedgmffaaGreatDoor.sid
open Go.RowKit spn que
open tickP (priceB sideB betOk betR)
theorem rprice_any (p:Int) (w:World):Calls Tryz.prog 30 #[.int .i64 p] w fun e w'=>e=.returned (.bool (priceB p))∧w'=w:=by
 have e:priceB p=(decide (1≤p) && decide (p≤10000)):=rfl
 rw[e]
 by_cases h1:1≤p
 ·by_cases h2:p≤10000
  ·rw[decide_eq_true h1,decide_eq_true h2]
   go_enter Tryz.func30,Tryz.ntmps30
   go_wp2
   go_ret
   exact⟨rfl,rfl⟩
  ·rw[decide_eq_true h1,decide_eq_false h2]
   go_enter Tryz.func30,Tryz.ntmps30
   go_wp2
   go_ret
   exact⟨rfl,rfl⟩
 ·rw[decide_eq_false h1]
  go_enter Tryz.func30,Tryz.ntmps30
  go_wp2
  go_ret
  exact⟨rfl,rfl⟩
theorem rside_any (s:Int) (w:World):Calls Tryz.prog 29 #[.int .i64 s] w fun e w'=>e=.returned (.bool (sideB s))∧w'=w:=by
 have e:sideB s=(decide (s=1) || decide (s=2)):=rfl
 rw[e]
 by_cases h1:s=1
 ·subst h1
  go_enter Tryz.func29,Tryz.ntmps29
  go_wp2
  go_ret
  exact⟨rfl,rfl⟩
 ·by_cases h2:s=2
  ·subst h2
   go_enter Tryz.func29,Tryz.ntmps29
   go_wp2
   go_ret
   exact⟨rfl,rfl⟩
  ·have b1:(s == 1)=false:=by simp[h1]
   have b2:(s == 2)=false:=by simp[h2]
   rw[decide_eq_false h1,decide_eq_false h2]
   go_enter Tryz.func29,Tryz.ntmps29
   go_wp2
   go_ret
   exact⟨rfl,rfl⟩
theorem retB {a b:Bool}(h:a=b):Ending.returned (.bool a)=.returned (.bool b):=by rw[h]
def aheadB (s a b:Int):Bool:=if s=1 then decide (a < b) else if s=2 then decide (b < a) else false
theorem ref_ahead (s a b:Int) (w:World) :
  Calls Tryz.prog 52 #[.int .i64 s,.int .i64 a,.int .i64 b] w fun e w'=>e=.returned (.bool (aheadB s a b))∧w'=w:=by
 by_cases h:s=1
 ·subst h
  by_cases hab:a < b
  all_goals
   go_enter Tryz.func52,Tryz.ntmps52
   go_wp2
   go_ret
   exact⟨retB (by simp[aheadB,hab]),rfl⟩
 ·have h1:(s == 1)=false:=by simp;omega
  by_cases h2:s=2
  ·subst h2
   go_enter Tryz.func52,Tryz.ntmps52
   go_wp2
   go_ret
   exact⟨retB (by simp[aheadB]),rfl⟩
  ·have h3:(s == 2)=false:=by simp;omega
   go_enter Tryz.func52,Tryz.ntmps52
   go_wp2
   go_ret
   exact⟨retB (by simp[aheadB,h,h2]),rfl⟩
theorem ahead_lead {s a b:Int}(hs:sideB s=true) (ha:priceB a=true) (hb:priceB b=true):aheadB (wrap64 (3 - s)) a b=leadB s a b:=by
 simp[sideB] at hs
 rcases hs with rfl|rfl
 ·have e:wrap64 (3 - 1)=2:=by unfold wrap64;omega
  unfold leadB betR betOk aheadB
  rw[e,ha,hb];simp[sideB]
 ·have e:wrap64 (3 - 2)=1:=by unfold wrap64;omega
  unfold leadB betR betOk aheadB
  rw[e,ha,hb];simp[sideB]
end Go.Proofs.YtnjpjieedgmffaaGreatDoor.sid
namespace Go.Proofs.YtnjpjieedgmffaaGreatDoor.sid
open Go.RowKit spn que
def idsR (zs:List R):List Int:=zs.map (·.id)
theorem nodup_more {zs:List R}{k:Nat}(hk:k < zs.length) {r:R}(hr:zs[k]! = r) (h:(idsR (zs.take k)).Nodup) (hx:¬0≤idx r.id (zs.take k)):(idsR (zs.take (k+1))).Nodup:=by
 have h1:has r.id (zs.take k)=false:=by rw[has_idx,decide_eq_false hx]
 rw[has_false] at h1
 unfold idsR at h ⊢
 rw[take_at hk,hr,List.map_append,List.nodup_append]
 refine⟨h,by simp,?_⟩
 intro a ha b hb e
 simp at hb
 rw[e,hb] at ha
 exact h1 ha
theorem nodup_not {zs:List R}{k:Nat}(hk:k < zs.length) {r:R}(hr:zs[k]! = r) (hx:0≤idx r.id (zs.take k)):¬(idsR zs).Nodup:=by
 intro h
 have h1:¬has r.id (zs.take k)=false:=by rw[has_idx,decide_eq_true hx];simp
 rw[has_false] at h1
 apply h1
 intro hm
 have e:idsR zs=(zs.take k).map (·.id)++(zs.drop k).map (·.id):=by unfold idsR;rw[←List.map_append,List.take_append_drop]
 rw[e,List.nodup_append] at h
 exact h.2.2 _ hm _ (by rw[drop_at hk,hr];simp) rfl
set_option maxRecDepth 100000 in
set_option maxHeartbeats 1000000 in
theorem rtwice_some (b o c:Nat) (zs:List R) (w:World) (hb:b < w.heap.size) (hc:zs.length≤c) (hm:c≤9223372036854775807) (hl:Lies w b o zs) :
  Calls Tryz.prog 54 #[.slice (some ⟨b,o,none⟩) zs.length c] w fun e w'=>e=.returned (.bool (decide (¬(idsR zs).Nodup)))∧Below w.heap.size w w':=by
 generalize hT:decide (¬(idsR zs).Nodup)=T
 have HT:Hid (decide (¬(idsR zs).Nodup)=T):=hT
 clear hT
 have HL:Hid (Lies w b o zs):=hl
 clear hl
 generalize hn:zs.length=n at *
 have HN:Hid (zs.length=n):=hn
 clear hn
 go_enter Tryz.func54,Tryz.ntmps54
 go_wp2_with fail
 go_loopg [3] n (fun gg s3 wr=>∃kk:Nat,kk≤n∧n - kk≤gg∧s3=.int .i64 kk∧Aside (Below w.heap.size w wr)∧Aside ((idsR (zs.take kk)).Nodup))
 case atStart=>exact⟨0,Nat.zero_le _,by omega,rfl,bzR _ _,by rw[List.take_zero];exact List.nodup_nil⟩
 case round=>
  obtain⟨kk,hkk,hg,rfl,BW,A⟩:=hrel
  by_cases hlt:kk < n
  ·have hltz:(kk:Int) < (n:Int):=by omega
   have hlz:kk < zs.length:=by rw[HN.out];exact hlt
   obtain⟨r,hr⟩:∃r,zs[kk]! = r:=⟨_,rfl⟩
   have hmore:=nodup_more hlz hr A.out
   have hnot:=nodup_not hlz hr
   obtain⟨r1,r2,r3,r4,r5⟩:=r
   obtain⟨c0,c1,c2,c3,c4⟩:=lies_at (HL.out.below hb BW.out) hlz hr
   simp only[] at hmore hnot
   have HMORE:Hid (¬0≤idx r1 (zs.take kk)→(idsR (zs.take (kk+1))).Nodup):=hmore
   have HNOT:Hid (0≤idx r1 (zs.take kk)→¬(idsR zs).Nodup):=hnot
   have hin1:¬((kk:Int) < 0):=by omega
   have hkc:¬((c:Int) < (kk:Int)):=by omega
   have hkc2:(kk:Int)≤(c:Int):=by omega
   have e1:=wrapSucc kk n hlt (by omega)
   have HIN:Hid (∀W,SL W (.slice (some ⟨b,o,none⟩) kk c) (zs.take kk)→Calls Tryz.prog 56 #[.slice (some ⟨b,o,none⟩) kk c,.int .i64 r1] W fun e w'=>e=.returned (.int .i64 (idx r1 (zs.take kk)))∧w'=W):=fun W h=>in_any _ _ r1 W h
   have HSL:Hid (∀q,SL (wr.drewN q) (.slice (some ⟨b,o,none⟩) kk c) (zs.take kk)):=fun q=>
    (sl_take (by rw[HN.out];exact hkk) (by rw[HN.out];exact hc) hm hb HL.out).below (belowN BW.out q)
   clear hr hmore hnot A
   generalize idx r1 (zs.take kk)=m at *
   by_cases hm0:0≤m
   ·have HX:Hid (T=true):=by rw[←HT.out];exact decide_eq_true (HNOT.out hm0)
    go_wp2_with fail
    go_quiet ((go_at_call 56;exact Calls.quiet_of_same (HIN.out _ (HSL.out _))))
    go_wp2_with fail
    go_ret
    exact⟨by rw[HX.out];rfl,belowN BW.out _⟩
   ·have HX:Hid ((idsR (zs.take (kk+1))).Nodup):=HMORE.out hm0
    go_wp2_with fail
    go_quiet ((go_at_call 56;exact Calls.quiet_of_same (HIN.out _ (HSL.out _))))
    go_wp2_with fail
    go_roundg (n - (kk+1))
    case measure=>clear e1;omega
    case rel=>exact⟨kk+1,hlt,nzR _,by go_num,belowN BW.out _,HX.out⟩
  ·have hltz:¬(kk:Int) < (n:Int):=by omega
   have hk:kk=n:=by omega
   have HX:Hid (T=false):=by
    have h:=A.out
    rw[List.take_of_length_le (by rw[HN.out];omega)] at h
    rw[←HT.out]
    exact decide_eq_false (fun hn=>hn h)
   clear A hk
   go_wp2_with fail
   go_ret
   exact⟨by rw[HX.out];rfl,BW.out⟩
end Go.Proofs.YtnjpjieedgmffaaGreatDoor.sid
namespace Go.Proofs.YtnjpjieedgmffaaGreatDoor.sid
open Go.RowKit spn que
theorem allR_take {ls:List L}{k:Nat}(hk:k < ls.length):allR (ls.take (k+1))=allR (ls.take k)++ls[k]!.rests:=by
 unfold allR;rw[ltake_at hk,List.flatMap_append];simp
theorem allR_len (ls:List L):((allR ls).length:Int)=cnt ls:=by
 induction ls with
 | nil=>rfl
 | cons x t ih=>
  have e:allR (x::t)=x.rests++allR t:=rfl
  rw[e,List.length_append];simp only[cnt];omega
theorem allR_le (ls:List L) (k:Nat):(allR (ls.take k)).length≤(allR ls).length:=by
 have e:allR ls=allR (ls.take k)++allR (ls.drop k):=by unfold allR;rw[←List.flatMap_append,List.take_append_drop]
 rw[e,List.length_append];omega
theorem allR_ids (ls:List L):idsR (allR ls)=ids ls:=by unfold ids;rw[flatP_ids];rfl
theorem run_append_zero {P:Program}(w:World) (base:Nat) (t ty e:TypeId) (i:TypeInfo) (size:Nat) (ht:P.underlying t=some (.slice e)) (hi:P.info? e=some i)
  (v:Value) (n:Nat) (xs:List Value) (hown:OwnM w base e size v n xs) (q:Option Addr) (c:Nat):(Builtin.append_ #[t,t] ty #[v,.slice q 0 c]).run P w=.ok v w:=by
 rcases hown.2 with ⟨rfl,rfl⟩|⟨g,off,cap,cur,rfl,hbg,hg,hnc,hcm,hcs,htake⟩
 ·cases q <;> simp[Builtin.append_,run_underlying ht,sizeOf,typeInfo,hi,Builtin.lenOf,Builtin.firstCells,loadCells,loadCellsFrom]
 ·cases q <;> simp[Builtin.append_,run_underlying ht,sizeOf,typeInfo,hi,Builtin.lenOf,Builtin.firstCells,hnc,storeCells,loadCells,loadCellsFrom]
set_option maxRecDepth 100000 in
set_option maxHeartbeats 1000000 in
theorem rflat_some (b o c:Nat) (ls:List L) (w:World) (hn8:ls.length≤9223372036854775807) (hl:LL w b o ls) (h60:cnt ls≤60) :
  Calls Tryz.prog 55 #[.slice (some ⟨b,o,none⟩) ls.length c] w fun e w'=>∃v,e=.returned v∧OwnQ w' w.heap.size v (allR ls)∧Below w.heap.size w w':=by
 have HLEN:Hid (∀k,(allR (ls.take k)).length≤60):=fun k=>by
  have h1:=allR_le ls k
  have h2:=allR_len ls
  omega
 have HL:Hid (LL w b o ls):=hl
 clear hl h60
 obtain⟨i0,hi,hz0,hz1,hz2⟩:=infoR'
 have HI:Hid (Tryz.prog.info? 55=some i0):=hi
 clear hi
 generalize hn:ls.length=n at *
 have HN:Hid (ls.length=n):=hn
 clear hn
 go_enter Tryz.func55,Tryz.ntmps55
 go_wp2_with fail
 go_loopg [3,4] n (fun gg s3 s4 wr=>∃kk:Nat,kk≤n∧n - kk≤gg∧s4=.int .i64 kk∧Aside (OwnQ wr w.heap.size s3 (allR (ls.take kk)))∧Aside (Below w.heap.size w wr))
 case atStart=>exact⟨0,Nat.zero_le _,by omega,rfl,⟨rfl,.inl ⟨rfl,rfl⟩⟩,bzR _ _⟩
 case round=>
  obtain⟨kk,hkk,hg,rfl,OW,BW⟩:=hrel
  by_cases hlt:kk < n
  ·have hltz:(kk:Int) < (n:Int):=by omega
   have hlz:kk < ls.length:=by rw[HN.out];exact hlt
   obtain⟨r,hr⟩:∃r,ls[kk]! = r:=⟨_,rfl⟩
   obtain⟨p,zs⟩:=r
   obtain⟨q,cc,a0,a1,hs⟩:=HL.out.at hlz hr
   have c1:=keeps BW.out a1
   have HTK:Hid (allR (ls.take (kk+1))=allR (ls.take kk)++zs):=by
    have:=allR_take hlz
    rw[hr] at this
    exact this
   have hle:(allR (ls.take kk)).length+zs.length≤60:=by
    have:=HLEN.out (kk+1)
    rw[HTK.out,List.length_append] at this
    exact this
   have hin1:¬((kk:Int) < 0):=by omega
   have hw1:wrap64 ((kk:Int)+1)=((kk+1:Nat):Int):=by unfold wrap64;omega
   have hsw:=hs.below BW.out
   clear hr hs a0 a1
   by_cases hz:zs=[]
   ·subst hz
    have hO2:Aside (OwnQ wr w.heap.size u3 (allR (ls.take (kk+1)))):=by
     show OwnQ _ _ _ _
     rw[HTK.out,List.append_nil]
     exact OW.out
    have HR:Hid ((Builtin.append_ #[49,49] 49 #[u3,.slice q 0 cc]).run Tryz.prog wr=.ok u3 wr):=run_append_zero wr _ _ _ _ i0 5 Tryz.underlying49 HI.out _ _ _ OW.out q cc
    rw[List.length_nil] at c1
    clear hle hsw
    go_wp2_with (at_builtin;refine Lib.wpList_append_run _ rfl _ _ _ _ rfl _ _ rfl rfl _ _ HR.out ?_)
    go_roundg (n - (kk+1))
    case measure=>omega
    case rel=>exact⟨kk+1,by omega,by omega,by go_num,hO2,BW⟩
   rcases hsw.sl hz with ⟨hv,hz'⟩|⟨b2,o2,cp,hv,h2,h3,h4,h5⟩
   ·exact absurd hz' hz
   ·injection hv with v1 v2 v3
    subst v1
    subst v3
    have HF:Hid (∀j u,(flat zs)[j]?=some u→wr.cell? ((⟨b2,o2,none⟩:Addr).add j)=some u):=lies_flat h5
    clear h5 hsw
    go_wp2_with (at_builtin;(refine wpList_append_mid _ rfl _ _ 49 rfl w.heap.size 55 i0 zeroR 5 40 Tryz.underlying49 HI.out hz0 hz1 hz2 rfl u3 _ _ rfl OW.out ⟨b2,o2,none⟩ zs.length cc (flat zs) rfl (flat_len _) HF.out (flat_one _) ?c3 ?c4 ?c5 ?_))
    case c3=>unfold maxLen;omega
    case c4=>omega
    case c5=>exact BW.out.size
    intro v' w' hO' hgr hat
    have hB' : Aside (Below w.heap.size w w'):=BW.out.grown hgr BW.out.size (fun k hk=>(OwnM.lt OW.out k hk).1)
    have hO2:Aside (OwnQ w' w.heap.size v' (allR (ls.take (kk+1)))):=by
     show OwnM _ _ _ _ _ _ _
     rw[HTK.out,List.length_append,flat_append]
     exact hO'
    clear hO' hgr hat HF c1
    go_wp2_with fail
    go_roundg (n - (kk+1))
    case measure=>omega
    case rel=>exact⟨kk+1,by omega,by omega,by go_num,hO2,hB'⟩
  ·have hltz:¬(kk:Int) < (n:Int):=by omega
   have hT2:ls.take kk=ls:=List.take_of_length_le (by rw[HN.out];omega)
   rw[hT2] at OW
   go_wp2_with fail
   go_ret
   exact⟨_,rfl,OW.out,BW.out⟩
end Go.Proofs.YtnjpjieedgmffaaGreatDoor.sid
namespace Go.Proofs.YtnjpjieedgmffaaGreatDoor.sid
open Go.RowKit spn que
open tickP (priceB sideB betOk betR)
theorem rqueue_e (v:Value) (zs:List R) (w:World) (h:SLe w v zs) :
  Calls Tryz.prog 51 #[v] w fun e w'=>e=.returned (.int .i64 (qchk zs))∧Below w.heap.size w w':=by
 rcases h with h|⟨rfl,q,c,rfl⟩
 ·exact rqueue_any v zs w h
 ·exact rqueue_none q c w
set_option maxRecDepth 100000 in
theorem rtwice_none (p:Option Addr) (c:Nat) (w:World) :
  Calls Tryz.prog 54 #[.slice p 0 c] w fun e w'=>e=.returned (.bool false)∧Below w.heap.size w w':=by
 go_enter Tryz.func54,Tryz.ntmps54
 go_wp2_with fail
 go_loopg [3] 0 (fun gg s3 wr=>s3=.int .i64 0∧wr=w)
 case atStart=>exact⟨rfl,rfl⟩
 case round=>
  obtain⟨rfl,rfl⟩:=hrel
  go_wp2_with fail
  go_ret
  exact⟨rfl,bzR _ _⟩
theorem rtwice_any (v:Value) (zs:List R) (w:World) (h:SL w v zs) :
  Calls Tryz.prog 54 #[v] w fun e w'=>e=.returned (.bool (decide (¬(idsR zs).Nodup)))∧Below w.heap.size w w':=by
 rcases h with ⟨rfl,rfl⟩|⟨b,o,c,rfl,h2,h3,h4,h5⟩
 ·exact rtwice_none none 0 w
 ·exact rtwice_some b o c zs w h4 h2 h3 h5
set_option maxRecDepth 100000 in
set_option maxHeartbeats 2000000 in
theorem rlevels_some (s:Int) (b o c:Nat) (ls:List L) (w:World) (hb:b < w.heap.size) (hc:ls.length≤c) (hm:c≤9223372036854775807) (hl:LL w b o ls) :
  Calls Tryz.prog 27 #[.int .i64 s,.slice (some ⟨b,o,none⟩) ls.length c] w fun e w'=>e=.returned (.int .i64 (schk s ls))∧Below w.heap.size w w':=by
 have HL:Hid (LL w b o ls):=hl
 clear hl
 have HB:Hid (b < w.heap.size):=hb
 have HC:Hid (ls.length≤c∧c≤9223372036854775807):=⟨hc,hm⟩
 have hn8:ls.length≤9223372036854775807:=by omega
 clear hb hc hm
 generalize hA:schk s ls=A
 have HA:Hid (schk s ls=A):=hA
 clear hA
 generalize hn:ls.length=n at *
 have HN:Hid (ls.length=n):=hn
 clear hn
 go_enter Tryz.func27,Tryz.ntmps27
 go_wp2_with fail
 refine(rside_any s w).mono ?_
 rintro e w ⟨rfl,rfl⟩
 by_cases hs2:sideB s=false
 ·have hA:=HA.out
  rw[schk_side hs2] at hA
  subst hA
  rw[hs2]
  go_wp2_with fail
  go_ret
  exact⟨rfl,bzR _ _⟩
 have hs:sideB s=true:=by simpa using hs2
 have HS:Hid (sideB s=true):=hs
 rw[hs]
 clear hs hs2
 go_wp2_with fail
 go_loopg [6,7,8,9] n (fun gg s4 _ _ _ wr=>∃kk:Nat,kk≤n∧n - kk≤gg∧s4=.int .i64 kk∧Aside (sgo s none ls=sgo s (prevAt ls kk) (ls.drop kk))∧Aside (∀j,j < kk→priceB ls[j]!.price=true)∧Aside (Below w.heap.size w wr))
 case atStart=>exact⟨0,Nat.zero_le _,by omega,rfl,rfl,fun j hj=>absurd hj (Nat.not_lt_zero _),bzR _ _⟩
 case round=>
  obtain⟨kk,hkk,hg,rfl,hQ,hP,BW⟩:=hrel
  by_cases hlt:kk < n
  ·have hltz:(kk:Int) < (n:Int):=by omega
   have hlz:kk < ls.length:=by rw[HN.out];exact hlt
   obtain⟨r,hr⟩:∃r,ls[kk]! = r:=⟨_,rfl⟩
   obtain⟨p,zs⟩:=r
   obtain⟨q,cc,a0,a1,hs⟩:=HL.out.at hlz hr
   have c0:=keeps BW.out a0
   have c1:=keeps BW.out a1
   have hQ2:=hQ.out
   rw[sgo_at hlz,hr] at hQ2
   have HQ2:Hid (sgo s none ls=(if lchk ⟨p,zs⟩=0 then (if behindB s (prevAt ls kk) p=true then sgo s (prevAt ls (kk+1)) (ls.drop (kk+1)) else 7) else lchk ⟨p,zs⟩)):=hQ2
   have HBAD:Hid (∀x,¬x=0→sgo s none ls=x→x=A):=fun x hx e=>by
    rw[←HA.out,schk_go HS.out (by rw[e];exact hx),e]
   have HSW:Hid (SLe wr (.slice q zs.length cc) zs):=hs.below BW.out
   have HPR:Hid (ls[kk]!.price=p):=by show _=_;rw[hr]
   have HPV:Hid (0 < kk→wr.cell? ⟨b,o+(kk - 1) * 2,none⟩=some (.int .i64 ls[kk - 1]!.price)):=fun h0=>keeps BW.out (HL.out (kk - 1) (by omega)).1
   clear hQ hQ2 hr hs a0 a1
   have hin1:¬((kk:Int) < 0):=by omega
   have hw1:wrap64 ((kk:Int)+1)=((kk+1:Nat):Int):=by unfold wrap64;omega
   go_wp2_with fail
   refine(rprice_any p wr).mono ?_
   rintro e wr ⟨rfl,rfl⟩
   by_cases hp2:priceB p=false
   ·have h1:(1:Int)=A:=HBAD.out 1 (by decide) (by
     have e:lchk ⟨p,zs⟩=1:=by unfold lchk;rw[if_neg (by simp[hp2])]
     rw[HQ2.out,e];rfl)
    subst h1
    rw[hp2]
    go_wp2_with fail
    go_ret
    exact⟨rfl,BW.out⟩
   have hp:priceB p=true:=by simpa using hp2
   have HP:Hid (priceB p=true):=hp
   rw[hp]
   clear hp hp2
   by_cases hz:zs=[]
   ·have h1:(3:Int)=A:=HBAD.out 3 (by decide) (by
     have e:lchk ⟨p,zs⟩=3:=by unfold lchk;rw[if_pos HP.out,if_pos hz]
     rw[HQ2.out,e];rfl)
    subst h1
    have hzl:zs.length=0:=by rw[hz];rfl
    rw[hzl] at c1
    go_wp2_with fail
    go_ret
    exact⟨rfl,BW.out⟩
   have HNZ:Hid (¬zs=[]):=hz
   have hzl:¬((zs.length:Int)=0):=by
    have:¬zs.length=0:=fun h=>hz (List.length_eq_zero_iff.1 h)
    omega
   have HLC:Hid (lchk ⟨p,zs⟩=qchk zs):=by
    show lchk _=_
    unfold lchk;rw[if_pos HP.out,if_neg HNZ.out]
   have HQU:Hid (Calls Tryz.prog 51 #[.slice q zs.length cc] wr fun e w'=>e=.returned (.int .i64 (qchk zs))∧Below wr.heap.size wr w'):=rqueue_e _ zs wr HSW.out
   clear hz
   generalize zs.length=m at *
   go_wp2_with fail
   refine HQU.out.mono ?_
   rintro e w2 ⟨rfl,b2⟩
   have B2:Aside (Below w.heap.size w w2):=BW.out.trans (b2.mono BW.out.size)
   by_cases hq:qchk zs=0
   ·rw[hq]
    have hQ3:=HQ2.out
    rw[HLC.out,if_pos hq] at hQ3
    have HQ3:Hid (sgo s none ls=if behindB s (prevAt ls kk) p=true then sgo s (prevAt ls (kk+1)) (ls.drop (kk+1)) else 7):=hQ3
    have HP2:Aside (∀j,j < kk+1→priceB ls[j]!.price=true):=fun j hj=>by
     by_cases e:j=kk
     ·rw[e,HPR.out];exact HP.out
     ·exact hP.out j (by omega)
    have d0:=keeps b2 c0
    by_cases h0:kk=0
    ·have HQ4:Aside (sgo s none ls=sgo s (prevAt ls (kk+1)) (ls.drop (kk+1))):=by
      have h:=HQ3.out
      rw[if_pos (by rw[h0];rfl)] at h
      exact h
     have hk0:(kk:Int)=0:=by omega
     clear c0 c1 b2 hQ3 hq HQ3 HQ2
     go_wp2_with fail
     go_quiet (fail)
     go_wp2_with fail
     go_roundg (n - (kk+1))
     case measure=>omega
     case rel=>exact⟨kk+1,by omega,by omega,by go_num,HQ4,HP2,belowN B2.out _⟩
    ·obtain⟨k1,hk1⟩:∃k1,kk=k1+1:=⟨kk - 1,by omega⟩
     have d1:w2.cell? ⟨b,o+k1 * 2,none⟩=some (.int .i64 ls[k1]!.price):=by
      have h:=keeps b2 (HPV.out (by omega))
      rw[hk1,Nat.add_sub_cancel] at h
      exact h
     have HBE:Hid (behindB s (prevAt ls kk) p=aheadB (wrap64 (3 - s)) ls[k1]!.price p):=by
      show behindB _ _ _=_
      rw[ahead_lead HS.out (hP.out k1 (by omega)) HP.out,hk1]
      rfl
     have hk0:((kk:Int) == 0)=false:=by
      rw[beq_eq_false_iff_ne];omega
     have hw0:wrap64 ((kk:Int) - 1)=(k1:Int):=by unfold wrap64;omega
     have hw0i:IntKind.i64.wrap ((kk:Int) - 1)=(k1:Int):=by rw[IntKind.wrap_i64];unfold wrap64 at hw0;omega
     have hin0:¬((k1:Int) < 0):=by omega
     have hlt0:(k1:Int) < (n:Int):=by omega
     have HK:Hid (kk=k1+1):=hk1
     clear c0 c1 b2 hQ3 hq HQ2 hk1 h0
     generalize ls[k1]!.price=pp at *
     have HAH:Hid (∀W,Calls Tryz.prog 52 #[.int .i64 (wrap64 (3 - s)),.int .i64 pp,.int .i64 p] W fun e w'=>e=.returned (.bool (aheadB (wrap64 (3 - s)) pp p))∧w'=W):=fun W=>ref_ahead _ _ _ W
     rw[HBE.out] at HQ3
     clear HBE
     generalize aheadB (wrap64 (3 - s)) pp p=t at *
     cases t
     ·have h1:(7:Int)=A:=HBAD.out 7 (by decide) HQ3.out
      subst h1
      go_wp2_with fail
      go_quiet ((go_at_call 52;exact Calls.quiet_of_same (HAH.out _)))
      go_wp2_with fail
      go_ret
      exact⟨rfl,belowN B2.out _⟩
     ·have HQ4:Aside (sgo s none ls=sgo s (prevAt ls (kk+1)) (ls.drop (kk+1))):=HQ3.out
      go_wp2_with fail
      go_quiet ((go_at_call 52;exact Calls.quiet_of_same (HAH.out _)))
      go_wp2_with fail
      go_roundg (n - (kk+1))
      case measure=>omega
      case rel=>exact⟨kk+1,by omega,by omega,by go_num,HQ4,HP2,belowN B2.out _⟩
   ·have h1:qchk zs=A:=HBAD.out _ hq (by
     have h:=HQ2.out
     rw[HLC.out,if_neg hq] at h
     exact h)
    clear c0 c1 b2
    generalize qchk zs=x at *
    subst h1
    go_wp2_with fail
    go_ret
    exact⟨rfl,B2.out⟩
  ·have hltz:¬(kk:Int) < (n:Int):=by omega
   have HG0:Hid (sgo s none ls=0):=by
    have h:=hQ.out
    rw[List.drop_eq_nil_of_le (by rw[HN.out];omega)] at h
    rw[h]
    cases prevAt ls kk <;> rfl
   have HG60:Hid (∀l∈ls,l.rests.length≤60):=fun l hl=>((qchk_zero _).1 (lchk_zero (sgo_each HG0.out l hl)).2.2).1
   have HCT:Hid (Calls Tryz.prog 53 #[.slice (some ⟨b,o,none⟩) n c] wr fun e w'=>e=.returned (.int .i64 (cnt ls))∧∃k,w'=wr.drewN k):=by
    have h:=rcount_some b o c ls wr (HL.out.below HB.out BW.out) HG60.out (sgo_len HS.out HG0.out)
    rw[HN.out] at h
    exact h
   clear hQ hP
   go_wp2_with fail
   refine HCT.out.mono ?_
   rintro e w2 ⟨rfl,dd,rfl⟩
   have B2:Hid (Below w.heap.size w (wr.drewN dd)):=belowN BW.out dd
   generalize wr.drewN dd=w2 at *
   by_cases h60:60 < cnt ls
   ·have h1:(4:Int)=A:=by rw[←HA.out,schk_full HS.out HG0.out h60]
    subst h1
    generalize cnt ls=x at *
    go_wp2_with fail
    go_ret
    exact⟨rfl,B2.out⟩
   ·have HFL:Hid (Calls Tryz.prog 55 #[.slice (some ⟨b,o,none⟩) n c] w2 fun e w'=>∃v,e=.returned v∧OwnQ w' w2.heap.size v (allR ls)∧Below w2.heap.size w2 w'):=by
     have h:=rflat_some b o c ls w2 (by rw[HN.out];exact hn8) (HL.out.below HB.out B2.out) (by omega)
     rw[HN.out] at h
     exact h
    have H60:Hid (¬60 < cnt ls):=h60
    generalize hcn:cnt ls=x at *
    go_wp2_with fail
    refine HFL.out.mono ?_
    rintro e w3 ⟨v,rfl,o3,b3⟩
    have B3:Hid (Below w.heap.size w w3):=B2.out.trans (b3.mono B2.out.size)
    have HTW:Hid (Calls Tryz.prog 54 #[v] w3 fun e w'=>e=.returned (.bool (decide (¬(ids ls).Nodup)))∧Below w3.heap.size w3 w'):=by
     have h:=rtwice_any v (allR ls) w3 (OwnQ.sl o3)
     rw[allR_ids] at h
     exact h
    clear o3 b3
    go_wp2_with fail
    refine HTW.out.mono ?_
    rintro e w4 ⟨rfl,b4⟩
    have B4:Hid (Below w.heap.size w w4):=B3.out.trans (b4.mono B3.out.size)
    clear b4
    by_cases hd:(ids ls).Nodup
    ·have h1:(0:Int)=A:=by rw[←HA.out,schk_ok HS.out HG0.out (by have:=H60.out;rw[hcn];omega) hd]
     subst h1
     rw[decide_eq_false (fun h=>h hd)]
     go_wp2_with fail
     go_ret
     exact⟨rfl,B4.out⟩
    ·have h1:(7:Int)=A:=by rw[←HA.out,schk_two HS.out HG0.out (by have:=H60.out;rw[hcn];omega) hd]
     subst h1
     rw[decide_eq_true hd]
     go_wp2_with fail
     go_ret
     exact⟨rfl,B4.out⟩
end Go.Proofs.YtnjpjieedgmffaaGreatDoor.sid
