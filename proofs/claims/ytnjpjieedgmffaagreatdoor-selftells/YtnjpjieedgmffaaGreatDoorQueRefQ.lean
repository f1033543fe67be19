import Derived.Test.YtnjpjieedgmffaaGreatDoorSidCat
import Derived.Test.YtnjpjieedgmffaaGreatDoorQueOwn
import Derived.Deep.AppendLies
import Derived.Deep.QuietTactic
import Derived.BigQuiet
import Derived.Test.YtnjpjieedgmffaaGreatDoorQueChk
import Derived.Test.YtnjpjieedgmffaaGreatDoorQueRest
namespace Go.Proofs.YtnjpjieedgmffaaGreatDoor.sid
open Go.RowKit spn que
set_option maxRecDepth 100000 in
set_option maxHeartbeats 1000000 in
theorem rcount_some (b o c:Nat) (ls:List L) (w:World) (hl:LL w b o ls) (h60:∀l∈ls,l.rests.length≤60) (h10:ls.length≤10000) :
  Calls Tryz.prog 53 #[.slice (some ⟨b,o,none⟩) ls.length c] w fun e w'=>e=.returned (.int .i64 (cnt ls))∧∃k,w'=w.drewN k:=by
 have HG:Hid (∀l∈ls,l.rests.length≤60):=h60
 have HL:Hid (LL w b o ls):=hl
 clear hl h60
 generalize hT:cnt ls=T
 have HT:Hid (cnt ls=T):=hT
 clear hT
 generalize hn:ls.length=n at *
 have HN:Hid (ls.length=n):=hn
 clear hn
 go_enter Tryz.func53,Tryz.ntmps53
 go_wp2_with fail
 go_loopg [3,4] n (fun gg s3 s4 wr=>∃kk d:Nat,kk≤n∧n - kk≤gg∧s4=.int .i64 kk∧s3=.int .i64 (cnt (ls.take kk))∧wr=w.drewN d)
 case atStart=>exact⟨0,0,Nat.zero_le _,by omega,rfl,rfl,rfl⟩
 case round=>
  obtain⟨kk,d,hkk,hg,rfl,rfl,rfl⟩:=hrel
  have hA:Hid (0≤cnt (ls.take kk)∧cnt (ls.take kk)≤60 * (kk:Int)):=by
   have:=cnt_le (ls.take kk) (fun r hr=>HG.out r (List.mem_of_mem_take hr))
   rw[List.length_take,HN.out,Nat.min_eq_left hkk] at this
   exact this
  by_cases hlt:kk < n
  ·have hltz:(kk:Int) < (n:Int):=by omega
   have hlz:kk < ls.length:=by rw[HN.out];exact hlt
   obtain⟨r,hr⟩:∃r,ls[kk]! = r:=⟨_,rfl⟩
   obtain⟨p,zs⟩:=r
   obtain⟨q,cc,c0,c1,hs⟩:=HL.out.at hlz hr
   have hq:=HG.out ls[kk]! (by rw[getE _ _ hlz];exact List.getElem_mem hlz)
   rw[hr] at hq
   simp only[] at hq
   have hTT:Hid (cnt (ls.take (kk+1))=cnt (ls.take kk)+(zs.length:Int)):=by
    have:=cnt_take ls kk hlz
    rw[hr] at this
    exact this
   clear hr hs
   obtain⟨t1,t2⟩:=hA.out
   clear hA
   generalize cnt (ls.take kk)=t at *
   generalize zs.length=m at *
   have hin1:¬((kk:Int) < 0):=by omega
   have e2:wrap64 (t+(m:Int))=t+(m:Int):=by unfold wrap64;omega
   have e3:IntKind.i64.wrap (t+(m:Int))=t+(m:Int):=(IntWalk.i64_left _).trans e2
   go_wp2_with fail
   try (go_quiet (fail);go_wp2_with fail)
   go_roundg (n - (kk+1))
   case measure=>omega
   case rel=>exact⟨kk+1,_,by omega,by omega,by go_num,by rw[hTT.out],(by first|rfl|(rw[←World.drewN_add]))⟩
  ·have hltz:¬(kk:Int) < (n:Int):=by omega
   have hk:kk=n:=by omega
   subst hk
   have hT2:cnt (ls.take kk)=T:=by rw[←HT.out,List.take_of_length_le (by rw[HN.out];exact nzR _)]
   rw[hT2]
   go_wp2_with fail
   go_ret
   exact⟨rfl,d,rfl⟩
end Go.Proofs.YtnjpjieedgmffaaGreatDoor.sid
namespace Go.Proofs.YtnjpjieedgmffaaGreatDoor.que
open Go.RowKit spn
theorem wrapSucc (k n:Nat) (h:k < n) (hn:n≤9223372036854775807):wrap64 ((k:Int)+1)=((k+1:Nat):Int):=by unfold wrap64;omega
theorem below_drewN {B:Nat}{a w:World}(h:Below B a w) (n:Nat):Below B a (w.drewN n):=⟨h.os,h.tape,h.output,h.size,h.block⟩
theorem rests_none (p q:Option Addr) (c d:Nat) (w:World) :
  Calls Tryz.prog 50 #[.slice p 0 c,.slice q 0 d] w fun e w'=>e=.returned (.bool true)∧Below w.heap.size w w':=by
 go_enter Tryz.func50,Tryz.ntmps50
 go_wp2_with fail
 go_loopg [5] 0 (fun _ s5 wr=>s5=.int .i64 0∧wr=w)
 case atStart=>exact⟨rfl,rfl⟩
 case round=>
  obtain⟨rfl,rfl⟩:=hrel
  go_wp2_with fail
  go_ret
  exact⟨rfl,bzR _ _⟩
set_option maxRecDepth 100000 in
set_option maxHeartbeats 1000000 in
theorem rests_some (b o c b' o' c' : Nat) (zs:List R) (w:World) (hb:b < w.heap.size) (hb' : b' < w.heap.size) (hn:zs.length≤9223372036854775807) (hl:Lies w b o zs) (hl' : Lies w b' o' zs) :
  Calls Tryz.prog 50 #[.slice (some ⟨b,o,none⟩) zs.length c,.slice (some ⟨b',o',none⟩) zs.length c'] w fun e w'=>e=.returned (.bool true)∧Below w.heap.size w w':=by
 have HL:Hid (Lies w b o zs∧Lies w b' o' zs):=⟨hl,hl'⟩
 clear hl hl'
 generalize hN:zs.length=n at *
 have HN:Hid (zs.length=n):=hN
 clear hN
 go_enter Tryz.func50,Tryz.ntmps50
 go_wp2_with fail
 go_loopg [5] n (fun gg s5 wr=>∃kk:Nat,kk≤n∧n - kk≤gg∧s5=.int .i64 kk∧Aside (Below w.heap.size w wr))
 case atStart=>exact⟨0,Nat.zero_le _,by omega,rfl,bzR _ w⟩
 case round=>
  obtain⟨kk,hkk,hg,rfl,BW⟩:=hrel
  by_cases hlt:kk < n
  ·have hltz:(kk:Int) < (n:Int):=by omega
   have hlz:kk < zs.length:=by rw[HN.out];exact hlt
   obtain⟨r,hr⟩:∃r,zs[kk]! = r:=⟨_,rfl⟩
   obtain⟨r1,r2,r3,r4,r5⟩:=r
   obtain⟨c0,c1,c2,c3,c4⟩:=lies_at (HL.out.1.below hb BW.out) hlz hr
   obtain⟨d0,d1,d2,d3,d4⟩:=lies_at (HL.out.2.below hb' BW.out) hlz hr
   have hin1:¬((kk:Int) < 0):=by omega
   have e1:=wrapSucc kk n hlt hn
   clear hr
   go_wp2_with fail
   go_quiet (fail)
   go_wp2_with fail
   go_roundg (n - (kk+1))
   case measure=>clear e1;omega
   case rel=>exact⟨kk+1,hlt,nzR _,by go_num,below_drewN BW.out _⟩
  ·have hltz:¬(kk:Int) < (n:Int):=by omega
   go_wp2_with fail
   go_ret
   exact⟨rfl,BW.out⟩
theorem rests_same (va vb:Value) (zs:List R) (w:World) (ha:SL w va zs) (hb:SL w vb zs) :
  Calls Tryz.prog 50 #[va,vb] w fun e w'=>e=.returned (.bool true)∧Below w.heap.size w w':=by
 rcases ha with ⟨rfl,rfl⟩|⟨b,o,c,rfl,h2,h3,h4,h5⟩
 ·rcases hb with ⟨rfl,-⟩|⟨b',o',c',rfl,-,-,-,-⟩
  ·exact rests_none none none 0 0 w
  ·exact rests_none none (some ⟨b',o',none⟩) 0 c' w
 ·rcases hb with ⟨rfl,rfl⟩|⟨b',o',c',rfl,-,-,i4,i5⟩
  ·exact rests_none (some ⟨b,o,none⟩) none c 0 w
  ·exact rests_some b o c b' o' c' zs w h4 i4 (by omega) h5 i5
end Go.Proofs.YtnjpjieedgmffaaGreatDoor.que
namespace Go.Proofs.YtnjpjieedgmffaaGreatDoor.que
open Go.RowKit spn
theorem rchk_out {r:R}(h:¬((1≤r.id∧r.id≤9999)∧(1≤r.who∧r.who≤9)∧(1≤r.qty∧r.qty≤10000)∧(0≤r.hid∧r.hid≤10000)∧(0≤r.shw∧r.shw≤10000))):rchk r=1:=by
 unfold rchk
 rw[if_neg]
 intro h1
 simp only[rangeB,Bool.and_eq_true,inB_iff] at h1
 exact h ⟨h1.1.1.1.1,h1.1.1.1.2,h1.1.1.2,h1.1.2,h1.2⟩
theorem rchk_in {r:R}(h:(1≤r.id∧r.id≤9999)∧(1≤r.who∧r.who≤9)∧(1≤r.qty∧r.qty≤10000)∧(0≤r.hid∧r.hid≤10000)∧(0≤r.shw∧r.shw≤10000)) (h2:(r.shw=0∧r.hid≠0)∨(r.shw≠0∧r.shw < r.qty)):rchk r=3:=by
 have h1:rangeB r=true:=by
  simp only[rangeB,Bool.and_eq_true,inB_iff]
  exact⟨⟨⟨⟨h.1,h.2.1⟩,h.2.2.1⟩,h.2.2.2.1⟩,h.2.2.2.2⟩
 unfold rchk
 rw[if_pos h1,if_neg]
 intro hs
 simp only[shapeB,Bool.and_eq_true,Bool.not_eq_true',Bool.and_eq_false_iff,decide_eq_false_iff_not,Bool.not_eq_false',decide_eq_true_eq] at hs
 omega
set_option maxHeartbeats 1000000 in
theorem rrest_any (a b c d e:Int) (w:World) :
  Calls Tryz.prog 58 #[.agg #[.int .i64 a,.int .i64 b,.int .i64 c,.int .i64 d,.int .i64 e]] w fun x w'=>x=.returned (.int .i64 (rchk ⟨a,b,c,d,e⟩))∧Below w.heap.size w w':=by
 by_cases g1:a < 1
 ·rw[rchk_out (r:=⟨a,b,c,d,e⟩) (by simp only[];omega)]
  go_enter Tryz.func58,Tryz.ntmps58
  go_wp2
  go_ret
  exact⟨rfl,(bzR _ _).alloc (nzR _) _⟩
 by_cases g2:9999 < a
 ·rw[rchk_out (r:=⟨a,b,c,d,e⟩) (by simp only[];omega)]
  go_enter Tryz.func58,Tryz.ntmps58
  go_wp2
  go_ret
  exact⟨rfl,(bzR _ _).alloc (nzR _) _⟩
 by_cases g3:b < 1
 ·rw[rchk_out (r:=⟨a,b,c,d,e⟩) (by simp only[];omega)]
  go_enter Tryz.func58,Tryz.ntmps58
  go_wp2
  go_ret
  exact⟨rfl,(bzR _ _).alloc (nzR _) _⟩
 by_cases g4:9 < b
 ·rw[rchk_out (r:=⟨a,b,c,d,e⟩) (by simp only[];omega)]
  go_enter Tryz.func58,Tryz.ntmps58
  go_wp2
  go_ret
  exact⟨rfl,(bzR _ _).alloc (nzR _) _⟩
 by_cases g5:c < 1
 ·rw[rchk_out (r:=⟨a,b,c,d,e⟩) (by simp only[];omega)]
  go_enter Tryz.func58,Tryz.ntmps58
  go_wp2
  go_ret
  exact⟨rfl,(bzR _ _).alloc (nzR _) _⟩
 by_cases g6:10000 < c
 ·rw[rchk_out (r:=⟨a,b,c,d,e⟩) (by simp only[];omega)]
  go_enter Tryz.func58,Tryz.ntmps58
  go_wp2
  go_ret
  exact⟨rfl,(bzR _ _).alloc (nzR _) _⟩
 by_cases g7:d < 0
 ·rw[rchk_out (r:=⟨a,b,c,d,e⟩) (by simp only[];omega)]
  go_enter Tryz.func58,Tryz.ntmps58
  go_wp2
  go_ret
  exact⟨rfl,(bzR _ _).alloc (nzR _) _⟩
 by_cases g8:10000 < d
 ·rw[rchk_out (r:=⟨a,b,c,d,e⟩) (by simp only[];omega)]
  go_enter Tryz.func58,Tryz.ntmps58
  go_wp2
  go_ret
  exact⟨rfl,(bzR _ _).alloc (nzR _) _⟩
 by_cases g9:e < 0
 ·rw[rchk_out (r:=⟨a,b,c,d,e⟩) (by simp only[];omega)]
  go_enter Tryz.func58,Tryz.ntmps58
  go_wp2
  go_ret
  exact⟨rfl,(bzR _ _).alloc (nzR _) _⟩
 by_cases g10:10000 < e
 ·rw[rchk_out (r:=⟨a,b,c,d,e⟩) (by simp only[];omega)]
  go_enter Tryz.func58,Tryz.ntmps58
  go_wp2
  go_ret
  exact⟨rfl,(bzR _ _).alloc (nzR _) _⟩
 by_cases g11:e=0
 ·subst g11
  by_cases g12:d=0
  ·subst g12
   rw[rchk_of (r:=⟨a,b,c,0,0⟩) ⟨by simp only[];omega,by simp only[];omega,by simp only[];omega,fun _=>rfl,fun h=>absurd rfl h,by simp only[];omega,by simp only[];omega⟩]
   go_enter Tryz.func58,Tryz.ntmps58
   go_wp2
   go_ret
   exact⟨rfl,(bzR _ _).alloc (nzR _) _⟩
  ·rw[rchk_in (r:=⟨a,b,c,d,0⟩) (by simp only[];omega) (.inl ⟨rfl,g12⟩)]
   have g13:(d != 0)=true:=by simp[g12]
   go_enter Tryz.func58,Tryz.ntmps58
   go_wp2
   go_ret
   exact⟨rfl,(bzR _ _).alloc (nzR _) _⟩
 ·have g14:(e == 0)=false:=by simp[g11]
  have g15:(e != 0)=true:=by simp[g11]
  by_cases g16:e < c
  ·rw[rchk_in (r:=⟨a,b,c,d,e⟩) (by simp only[];omega) (.inr ⟨g11,g16⟩)]
   go_enter Tryz.func58,Tryz.ntmps58
   go_wp2
   go_ret
   exact⟨rfl,(bzR _ _).alloc (nzR _) _⟩
  ·rw[rchk_of (r:=⟨a,b,c,d,e⟩) ⟨by simp only[];omega,by simp only[];omega,by simp only[];omega,fun h=>absurd h g11,fun _=>(by simp only[];omega),by simp only[];omega,by simp only[];omega⟩]
   go_enter Tryz.func58,Tryz.ntmps58
   go_wp2
   go_ret
   exact⟨rfl,(bzR _ _).alloc (nzR _) _⟩
end Go.Proofs.YtnjpjieedgmffaaGreatDoor.que
namespace Go.Proofs.YtnjpjieedgmffaaGreatDoor.que
open Go.RowKit spn
def sh (k:Nat) (m:Int):Int:=if m < 0 then -1 else (k:Int)+m
theorem sh_start (id:Int) (zs:List R):idx id zs=sh 0 (idx id (zs.drop 0)):=by
 have:=idx_ge id zs
 unfold sh
 rw[List.drop_zero]
 split <;> omega
theorem sh_step {id:Int}{zs:List R}{k:Nat}{Q:Int}(h:Q=sh k (idx id (zs.drop k))) (hk:k < zs.length) (hn:¬(zs[k]!).id=id):Q=sh (k+1) (idx id (zs.drop (k+1))):=by
 have:=idx_ge id (zs.drop (k+1))
 rw[drop_at hk,idx_cons,if_neg hn] at h
 rw[h]
 unfold sh
 by_cases h2:idx id (zs.drop (k+1)) < 0
 ·rw[if_pos h2,if_pos (by omega),if_pos h2]
 ·rw[if_neg h2,if_neg (by omega),if_neg h2];omega
theorem sh_found {id:Int}{zs:List R}{k:Nat}{Q:Int}(h:Q=sh k (idx id (zs.drop k))) (hk:k < zs.length) (hn:(zs[k]!).id=id):Q=k:=by
 rw[drop_at hk,idx_cons,if_pos hn] at h
 rw[h];unfold sh;rw[if_neg (by omega)];omega
theorem sh_end {id:Int}{zs:List R}{k:Nat}{Q:Int}(h:Q=sh k (idx id (zs.drop k))) (hk:zs.length≤k):Q = -1:=by
 rw[List.drop_eq_nil_of_le hk] at h
 rw[h];rfl
theorem in_none (p:Option Addr) (c:Nat) (id:Int) (w:World) :
  Calls Tryz.prog 56 #[.slice p 0 c,.int .i64 id] w fun e w'=>e=.returned (.int .i64 (-1))∧w'=w:=by
 go_enter Tryz.func56,Tryz.ntmps56
 go_wp2_with fail
 go_loopg [5] 0 (fun _ s5 wr=>s5=.int .i64 0∧wr=w)
 case atStart=>exact⟨rfl,rfl⟩
 case round=>
  obtain⟨rfl,rfl⟩:=hrel
  go_wp2_with fail
  go_ret
  exact⟨rfl,rfl⟩
set_option maxRecDepth 100000 in
set_option maxHeartbeats 1000000 in
theorem in_some (b o c:Nat) (zs:List R) (id:Int) (w:World) (hn:zs.length≤9223372036854775807) (hl:Lies w b o zs) :
  Calls Tryz.prog 56 #[.slice (some ⟨b,o,none⟩) zs.length c,.int .i64 id] w fun e w'=>e=.returned (.int .i64 (idx id zs))∧w'=w:=by
 have HL:Hid (Lies w b o zs):=hl
 clear hl
 have hst:=sh_start id zs
 generalize idx id zs=Q at hst ⊢
 have HS:Hid (Q=sh 0 (idx id (zs.drop 0))):=hst
 clear hst
 generalize hN:zs.length=n at *
 have HN:Hid (zs.length=n):=hN
 clear hN
 go_enter Tryz.func56,Tryz.ntmps56
 go_wp2_with fail
 go_loopg [5] n (fun gg s5 wr=>∃kk:Nat,kk≤n∧n - kk≤gg∧s5=.int .i64 kk∧Aside (Q=sh kk (idx id (zs.drop kk)))∧wr=w)
 case atStart=>exact⟨0,Nat.zero_le _,by omega,rfl,HS.out,rfl⟩
 case round=>
  obtain⟨kk,hkk,hg,rfl,hQ,rfl⟩:=hrel
  by_cases hlt:kk < n
  ·have hltz:(kk:Int) < (n:Int):=by omega
   have hlz:kk < zs.length:=by rw[HN.out];exact hlt
   obtain⟨r,hr⟩:∃r,zs[kk]! = r:=⟨_,rfl⟩
   obtain⟨r1,r2,r3,r4,r5⟩:=r
   obtain⟨c0,-,-,-,-⟩:=lies_at HL.out hlz hr
   have hin1:¬((kk:Int) < 0):=by omega
   have e1:=que.wrapSucc kk n hlt hn
   by_cases hid:r1=id
   ·subst hid
    have hQ2:Q=kk:=sh_found hQ.out hlz (by rw[hr])
    clear hr
    go_wp2_with fail
    go_ret
    exact⟨rfl,rfl⟩
   ·have hQ2:Hid (Q=sh (kk+1) (idx id (zs.drop (kk+1)))):=sh_step hQ.out hlz (by rw[hr];exact hid)
    have hid2:(r1 == id)=false:=by simp[hid]
    clear hr
    go_wp2_with fail
    go_roundg (n - (kk+1))
    case measure=>clear e1;omega
    case rel=>exact⟨kk+1,hlt,nzR _,by go_num,hQ2.out,rfl⟩
  ·have hltz:¬(kk:Int) < (n:Int):=by omega
   have hQ2:Q = -1:=sh_end hQ.out (by rw[HN.out];omega)
   go_wp2_with fail
   go_ret
   exact⟨rfl,rfl⟩
theorem in_any (v:Value) (zs:List R) (id:Int) (w:World) (h:SL w v zs) :
  Calls Tryz.prog 56 #[v,.int .i64 id] w fun e w'=>e=.returned (.int .i64 (idx id zs))∧w'=w:=by
 rcases h with ⟨rfl,rfl⟩|⟨b,o,c,rfl,h2,h3,h4,h5⟩
 ·exact in_none none 0 id w
 ·exact in_some b o c zs id w (by omega) h5
end Go.Proofs.YtnjpjieedgmffaaGreatDoor.que
namespace Go.Proofs.YtnjpjieedgmffaaGreatDoor.sid
open Go.RowKit spn que
def atGo (id:Int) (i:Int):List L→Int × Int
 | []=>(-1,-1)
 | l::t=>if 0≤idx id l.rests then (i,idx id l.rests) else atGo id (i+1) t
theorem atGo_at {id:Int}{ls:List L}{k:Nat}(hk:k < ls.length):atGo id k (ls.drop k)=if 0≤idx id ls[k]!.rests then ((k:Int),idx id ls[k]!.rests) else atGo id ((k+1:Nat):Int) (ls.drop (k+1)):=by
 rw[ldrop_at hk];rfl
theorem in_e (v:Value) (zs:List R) (id:Int) (w:World) (h:SLe w v zs) :
  Calls Tryz.prog 56 #[v,.int .i64 id] w fun e w'=>e=.returned (.int .i64 (idx id zs))∧w'=w:=by
 rcases h with h|⟨rfl,q,c,rfl⟩
 ·exact in_any v zs id w h
 ·exact in_none q c id w
set_option maxRecDepth 100000 in
set_option maxHeartbeats 1000000 in
theorem rat_some (b o c:Nat) (ls:List L) (id:Int) (w:World) (hn8:ls.length≤9223372036854775807) (hl:LL w b o ls) :
  Calls Tryz.prog 31 #[.slice (some ⟨b,o,none⟩) ls.length c,.int .i64 id] w fun e w'=>e=.returned (.tuple #[.int .i64 (atGo id 0 ls).1,.int .i64 (atGo id 0 ls).2])∧∃k,w'=w.drewN k:=by
 have HL:Hid (LL w b o ls):=hl
 clear hl
 generalize hA:atGo id 0 ls=A
 have HA:Hid (atGo id 0 ls=A):=hA
 clear hA
 obtain⟨A1,A2⟩:=A
 generalize hn:ls.length=n at *
 have HN:Hid (ls.length=n):=hn
 clear hn
 go_enter Tryz.func31,Tryz.ntmps31
 go_wp2_with fail
 go_loopg [6,7] n (fun gg s6 _ wr=>∃kk d:Nat,kk≤n∧n - kk≤gg∧s6=.int .i64 kk∧wr=w.drewN d∧Aside (atGo id kk (ls.drop kk)=(A1,A2)))
 case atStart=>exact⟨0,0,Nat.zero_le _,by omega,rfl,rfl,HA.out⟩
 case round=>
  obtain⟨kk,d,hkk,hg,rfl,rfl,hQ⟩:=hrel
  by_cases hlt:kk < n
  ·have hltz:(kk:Int) < (n:Int):=by omega
   have hlz:kk < ls.length:=by rw[HN.out];exact hlt
   obtain⟨r,hr⟩:∃r,ls[kk]! = r:=⟨_,rfl⟩
   obtain⟨p,zs⟩:=r
   obtain⟨q,cc,c0,c1,hs⟩:=HL.out.at hlz hr
   have hQ2:=hQ.out
   rw[atGo_at hlz,hr] at hQ2
   simp only[] at hQ2
   have HQ2:Hid ((if 0≤idx id zs then ((kk:Int),idx id zs) else atGo id ((kk+1:Nat):Int) (ls.drop (kk+1)))=(A1,A2)):=hQ2
   have hin:=fun W (hW:Below w.heap.size w W)=>in_e (.slice q zs.length cc) zs id W (hs.below hW)
   have HIN:Hid (∀d,Calls Tryz.prog 56 #[.slice q zs.length cc,.int .i64 id] (w.drewN d) fun e w'=>e=.returned (.int .i64 (idx id zs))∧w'=w.drewN d):=fun d=>hin _ (belowN (bzR _ _) d)
   clear hr hs hQ hQ2 hin
   generalize idx id zs=x at *
   generalize zs.length=m at *
   have hin1:¬((kk:Int) < 0):=by omega
   have hw1:wrap64 ((kk:Int)+1)=((kk+1:Nat):Int):=by unfold wrap64;omega
   go_wp2_with fail
   refine(HIN.out _).mono ?_
   rintro e w1 ⟨rfl,rfl⟩
   by_cases hx:0≤x
   ·rw[if_pos hx] at HQ2
    have h1:(kk:Int)=A1:=congrArg Prod.fst HQ2.out
    have h2:x=A2:=congrArg Prod.snd HQ2.out
    subst h1
    subst h2
    go_wp2_with fail
    go_ret2
    exact⟨rfl,d,rfl⟩
   ·rw[if_neg hx] at HQ2
    go_wp2_with fail
    go_roundg (n - (kk+1))
    case measure=>omega
    case rel=>exact⟨kk+1,d,by omega,by omega,by go_num,rfl,HQ2.out⟩
  ·have hltz:¬(kk:Int) < (n:Int):=by omega
   have hQ2:=hQ.out
   rw[List.drop_eq_nil_of_le (by rw[HN.out];omega)] at hQ2
   have h1:(-1:Int)=A1:=congrArg Prod.fst hQ2
   have h2:(-1:Int)=A2:=congrArg Prod.snd hQ2
   subst h1
   subst h2
   clear hQ hQ2 HA
   go_wp2_with fail
   go_ret2
   exact⟨rfl,d,rfl⟩
end Go.Proofs.YtnjpjieedgmffaaGreatDoor.sid
namespace Go.Proofs.YtnjpjieedgmffaaGreatDoor.que
open Go.RowKit spn
theorem rqueue_none (p:Option Addr) (c:Nat) (w:World) :
  Calls Tryz.prog 51 #[.slice p 0 c] w fun e w'=>e=.returned (.int .i64 0)∧Below w.heap.size w w':=by
 go_enter Tryz.func51,Tryz.ntmps51
 go_wp2_with fail
 go_loopg [3,4] 0 (fun _ s3 _ wr=>s3=.int .i64 0∧wr=w)
 case atStart=>exact⟨rfl,rfl⟩
 case round=>
  obtain⟨rfl,rfl⟩:=hrel
  go_wp2_with fail
  go_ret
  exact⟨rfl,bzR _ _⟩
theorem bchk_idx (ahead:List R) (r:R):bchk ahead r=if rchk r=0 then (if 0≤idx r.id ahead then 7 else 0) else rchk r:=by
 unfold bchk
 rw[has_idx]
 simp only[decide_eq_true_eq]
set_option maxRecDepth 100000 in
set_option maxHeartbeats 1000000 in
theorem rqueue_some (b o c:Nat) (zs:List R) (w:World) (hb:b < w.heap.size) (hc:zs.length≤c) (hm:c≤9223372036854775807) (hl:Lies w b o zs) :
  Calls Tryz.prog 51 #[.slice (some ⟨b,o,none⟩) zs.length c] w fun e w'=>e=.returned (.int .i64 (qchk zs))∧Below w.heap.size w w':=by
 by_cases h60:60 < zs.length
 ·have e:qchk zs=4:=by unfold qchk;rw[if_pos h60]
  rw[e]
  clear hl e
  generalize zs.length=n at *
  have h60' : (60:Int) < (n:Int):=by omega
  go_enter Tryz.func51,Tryz.ntmps51
  go_wp2
  go_ret
  exact⟨rfl,bzR _ _⟩
 ·have e:qchk zs=qgo [] zs:=by unfold qchk;rw[if_neg h60]
  rw[e]
  clear e
  generalize hQ:qgo [] zs=Q
  have HQ:Hid (qgo [] zs=Q):=hQ
  clear hQ
  have HL:Hid (Lies w b o zs):=hl
  clear hl
  generalize hn:zs.length=n at *
  have HN:Hid (zs.length=n):=hn
  clear hn
  have h60' : ¬(60:Int) < (n:Int):=by omega
  go_enter Tryz.func51,Tryz.ntmps51
  go_wp2_with fail
  go_loopg [3,4] n (fun gg s3 _ wr=>∃kk:Nat,kk≤n∧n - kk≤gg∧s3=.int .i64 kk∧Aside (Below w.heap.size w wr)∧Aside (qgo (zs.take kk) (zs.drop kk)=Q))
  case atStart=>exact⟨0,Nat.zero_le _,by omega,rfl,bzR _ w,HQ.out⟩
  case round=>
   obtain⟨kk,hkk,hg,rfl,BW,A⟩:=hrel
   by_cases hlt:kk < n
   ·have hltz:(kk:Int) < (n:Int):=by omega
    have hlz:kk < zs.length:=by rw[HN.out];exact hlt
    have LW:Hid (Lies wr b o zs):=HL.out.below hb BW.out
    obtain⟨r,hr⟩:∃r,zs[kk]! = r:=⟨_,rfl⟩
    obtain⟨r1,r2,r3,r4,r5⟩:=r
    obtain⟨c0,c1,c2,c3,c4⟩:=lies_at LW.out hlz hr
    have HR:Hid (zs[kk]! = ⟨r1,r2,r3,r4,r5⟩):=hr
    have hA:(if bchk (zs.take kk) ⟨r1,r2,r3,r4,r5⟩=0 then qgo (zs.take (kk+1)) (zs.drop (kk+1)) else bchk (zs.take kk) ⟨r1,r2,r3,r4,r5⟩)=Q:=by
     have h:=A.out
     rw[drop_at hlz,HR.out] at h
     rw[take_at hlz,HR.out]
     exact h
    rw[bchk_idx] at hA
    simp only[] at hA
    have hbw:b < wr.heap.size:=Nat.lt_of_lt_of_le hb BW.out.size
    have hin1:¬((kk:Int) < 0):=by omega
    have hkc:¬((c:Int) < (kk:Int)):=by omega
    have hkc2:(kk:Int)≤(c:Int):=by omega
    have e1:=wrapSucc kk n hlt (by omega)
    have HRR:Hid (∀W,Calls Tryz.prog 58 #[.agg #[.int .i64 r1,.int .i64 r2,.int .i64 r3,.int .i64 r4,.int .i64 r5]] W fun x w'=>x=.returned (.int .i64 (rchk ⟨r1,r2,r3,r4,r5⟩))∧Below W.heap.size W w'):=fun W=>rrest_any r1 r2 r3 r4 r5 W
    have HIN:Hid (∀W,SL W (.slice (some ⟨b,o,none⟩) kk c) (zs.take kk)→Calls Tryz.prog 56 #[.slice (some ⟨b,o,none⟩) kk c,.int .i64 r1] W fun e w'=>e=.returned (.int .i64 (idx r1 (zs.take kk)))∧w'=W):=fun W hW=>in_any _ _ r1 W hW
    generalize rchk ⟨r1,r2,r3,r4,r5⟩=k at hA HRR
    generalize idx r1 (zs.take kk)=m at hA HIN
    have HA:Hid ((if (if k=0 then (if 0≤m then 7 else 0) else k)=0 then qgo (zs.take (kk+1)) (zs.drop (kk+1)) else (if k=0 then (if 0≤m then 7 else 0) else k))=Q):=hA
    clear hA hr A
    go_wp2_with fail
    refine(HRR.out _).mono ?_
    rintro x w1 ⟨rfl,hb1⟩
    have BW1:Hid (Below w.heap.size w w1):=BW.out.trans (hb1.mono BW.out.size)
    have d0:=keeps hb1 c0
    clear hb1 c0 c1 c2 c3 c4
    have HSL:Hid (∀q,SL (w1.drewN q) (.slice (some ⟨b,o,none⟩) kk c) (zs.take kk)):=fun q=>
     (sl_take (by rw[HN.out];exact hkk) (by rw[HN.out];exact hc) hm hb HL.out).below (below_drewN BW1.out q)
    by_cases hk:k=0
    ·subst hk
     rw[if_pos rfl] at HA
     by_cases hm0:0≤m
     ·rw[if_pos hm0,if_neg (by decide)] at HA
      go_wp2_with fail
      go_quiet ((go_at_call 56;exact Calls.quiet_of_same (HIN.out _ (HSL.out _))))
      go_wp2_with fail
      go_ret
      exact⟨by rw[←HA.out];rfl,below_drewN BW1.out _⟩
     ·rw[if_neg hm0,if_pos rfl] at HA
      go_wp2_with fail
      go_quiet ((go_at_call 56;exact Calls.quiet_of_same (HIN.out _ (HSL.out _))))
      go_wp2_with fail
      go_roundg (n - (kk+1))
      case measure=>clear e1;omega
      case rel=>exact⟨kk+1,hlt,nzR _,by go_num,below_drewN BW1.out _,HA.out⟩
    ·rw[if_neg hk,if_neg hk] at HA
     have hk2:(k != 0)=true:=by simp[hk]
     go_wp2_with fail
     go_ret
     exact⟨by rw[←HA.out];rfl,BW1.out⟩
   ·have hltz:¬(kk:Int) < (n:Int):=by omega
    have hk:kk=n:=by omega
    subst hk
    have h:=A.out
    rw[List.drop_eq_nil_of_le (by rw[HN.out];exact nzR _)] at h
    have HA:Hid (0=Q):=h
    clear h
    go_wp2_with fail
    go_ret
    exact⟨by rw[←HA.out];rfl,BW.out⟩
theorem rqueue_any (v:Value) (zs:List R) (w:World) (h:SL w v zs) :
  Calls Tryz.prog 51 #[v] w fun e w'=>e=.returned (.int .i64 (qchk zs))∧Below w.heap.size w w':=by
 rcases h with ⟨rfl,rfl⟩|⟨b,o,c,rfl,h2,h3,h4,h5⟩
 ·exact rqueue_none none 0 w
 ·exact rqueue_some b o c zs w h4 h2 h3 h5
end Go.Proofs.YtnjpjieedgmffaaGreatDoor.que
