import Derived.Test.YtnjpjieedgmffaaGreatDoorSidCat
import Derived.Test.YtnjpjieedgmffaaGreatDoorQueChk
import Derived.Test.YtnjpjieedgmffaaGreatDoorSidRef6
import Derived.Test.YtnjpjieedgmffaaGreatDoorQueTake1
namespace Go.Proofs.YtnjpjieedgmffaaGreatDoor.que
open Go.RowKit spn
theorem Lies.drop {w:World}{b o:Nat}{zs:List R}(h:Lies w b o zs) (n:Nat):Lies w b (o+n * 5) (zs.drop n):=by
 intro j hj i v hv
 have hj2:n+j < zs.length:=by rw[List.length_drop] at hj;omega
 have e:(zs.drop n)[j]! = zs[n+j]!:=by
  rw[getE _ _ hj,getE _ _ hj2,List.getElem_drop]
 rw[e] at hv
 have:=h (n+j) hj2 i v hv
 rw[←this]
 congr 2
 rw[Nat.add_mul];omega
set_option maxRecDepth 100000 in
set_option maxHeartbeats 1000000 in
theorem without_some (b o c n:Nat) (zs:List R) (i:Nat) (w:World) (hN:zs.length=n) (hb:b < w.heap.size) (hc:n≤c) (hm:c≤9223372036854775807) (hn:n≤100) (hl:Lies w b o zs) (hi:i < n) :
  Calls Tryz.prog 57 #[.slice (some ⟨b,o,none⟩) n c,.int .i64 (i:Int)] w fun e w'=>∃v,e=.returned v∧OwnQ w' w.heap.size v (zs.take i++zs.drop (i+1))∧Below w.heap.size w w':=by
 obtain⟨i0,hi0,hz0,hz1,hz2⟩:=infoR'
 have HI:Hid (Tryz.prog.info? 55=some i0):=hi0
 clear hi0
 have HF1:Hid (∀j u,(flat (zs.take i))[j]?=some u→w.cell? ((⟨b,o,none⟩:Addr).add j)=some u):=lies_flat (hl.take i)
 have HO0:Hid (OwnM w w.heap.size 55 5 (.slice none 0 0) 0 []):=⟨rfl,.inl ⟨rfl,rfl⟩⟩
 have HN:Hid (zs.length=n):=hN
 have HL:Hid (Lies w b o zs):=hl
 have hft:(flat (zs.take i)).length=i * 5:=by rw[flat_len,List.length_take];congr 1;omega
 have HFT:Hid ((flat (zs.take i)).length=i * 5):=hft
 clear hl hN hft
 have g1:¬((i:Int) < 0):=by omega
 have g2:(i:Int)≤(c:Int):=by omega
 have g3:(i:Int)+1≤(n:Int):=by omega
 have g4:(n:Int)≤(c:Int):=by omega
 have e1:wrap64 ((i:Int)+1)=((i+1:Nat):Int):=by unfold wrap64;omega
 have g5:¬(((i+1:Nat):Int) < 0):=by omega
 have g6:((i+1:Nat):Int)≤(n:Int):=by omega
 go_enter Tryz.func57,Tryz.ntmps57
 go_wp2_with (at_builtin;(refine wpList_append_mid _ rfl _ _ 49 rfl w.heap.size 55 i0 zeroR 5 40 Tryz.underlying49 HI.out hz0 hz1 hz2 rfl (.slice none 0 0) 0 [] rfl HO0.out ⟨b,o,none⟩ i c (flat (zs.take i)) rfl HFT.out HF1.out (flat_one _) ?c3 ?c4 ?c5 ?_))
 case c3=>unfold maxLen;omega
 case c4=>omega
 intro v1 w1 hO1 hgr1 hat1
 have HB1:Hid (Below w.heap.size w w1):=(bzR _ _).grown hgr1 (nzR _) (fun k hk=>by simp[Value.ownBlock] at hk)
 have HO1:Hid (OwnM w1 w.heap.size 55 5 v1 i (flat (zs.take i))):=hO1
 clear hO1 hgr1 hat1 HF1 HO0
 have HE:Hid (∀w' v',OwnM w' w.heap.size 55 5 v' (i+(n - (i+1))) (flat (zs.take i)++flat (zs.drop (i+1)))→OwnQ w' w.heap.size v' (zs.take i++zs.drop (i+1))):=by
  intro w' v' h
  show OwnM _ _ _ _ _ _ _
  rw[flat_append,List.length_append,List.length_take,List.length_drop,HN.out,Nat.min_eq_left (by omega)]
  exact h
 have HFD:Hid ((flat (zs.drop (i+1))).length=(n - (i+1)) * 5):=by
  show _=_
  rw[flat_len,List.length_drop,HN.out]
 by_cases hcap:i+1=c
 ·have hni:n=i+1:=by omega
  have HD:Hid (flat (zs.drop (i+1))=[]):=by
   show _=_
   rw[List.drop_eq_nil_of_le (by rw[HN.out];omega)]
   rfl
  rw[HD.out] at HE
  subst hcap
  subst hni
  rw[Nat.sub_self,Nat.add_zero,List.append_nil] at HE
  go_wp2_with (at_builtin;(refine wpList_append_mid _ rfl _ _ 49 rfl w.heap.size 55 i0 zeroR 5 40 Tryz.underlying49 HI.out hz0 hz1 hz2 rfl v1 i (flat (zs.take i)) rfl HO1.out ⟨b,o,none⟩ 0 0 [] rfl rfl (fun j u hu=>by simp at hu) (fun u hu=>by simp at hu) ?d3 ?d4 ?d5 ?_))
  case d3=>unfold maxLen;omega
  case d4=>omega
  case d5=>exact HB1.out.size
  intro v2 w2 hO2 hgr2 hat2
  have HB2:Hid (Below w.heap.size w w2):=HB1.out.grown hgr2 HB1.out.size (fun k hk=>(HO1.out.lt k hk).1)
  have HO2:Hid (OwnQ w2 w.heap.size v2 (zs.take i++zs.drop (i+1))):=HE.out _ _ hO2
  clear hO2 hgr2 hat2
  go_wp2_with fail
  go_ret
  exact⟨_,rfl,HO2.out,HB2.out⟩
 ·have HF2:Hid (∀j u,(flat (zs.drop (i+1)))[j]?=some u→w1.cell? ((⟨b,o+(i+1) * 5,none⟩:Addr).add j)=some u):=lies_flat ((HL.out.below hb HB1.out).drop (i+1))
  go_wp2_with (at_builtin;(refine wpList_append_mid _ rfl _ _ 49 rfl w.heap.size 55 i0 zeroR 5 40 Tryz.underlying49 HI.out hz0 hz1 hz2 rfl v1 i (flat (zs.take i)) rfl HO1.out ⟨b,o+(i+1) * 5,none⟩ (n - (i+1)) (c - (i+1)) (flat (zs.drop (i+1))) rfl HFD.out HF2.out (flat_one _) ?d3 ?d4 ?d5 ?_))
  case d3=>unfold maxLen;omega
  case d4=>omega
  case d5=>exact HB1.out.size
  intro v2 w2 hO2 hgr2 hat2
  have HB2:Hid (Below w.heap.size w w2):=HB1.out.grown hgr2 HB1.out.size (fun k hk=>(HO1.out.lt k hk).1)
  have HO2:Hid (OwnQ w2 w.heap.size v2 (zs.take i++zs.drop (i+1))):=HE.out _ _ hO2
  clear hO2 hgr2 hat2
  go_wp2_with fail
  go_ret
  exact⟨_,rfl,HO2.out,HB2.out⟩
theorem OwnM.up' {w:World}{base base' : Nat}{e:TypeId}{sz:Nat}{v:Value}{n:Nat}{xs:List Value}(h:OwnM w base e sz v n xs) (hb:base'≤base):OwnM w base' e sz v n xs:=by
 refine⟨h.1,?_⟩
 rcases h.2 with hh|⟨g,off,cap,cur,e1,e2,e3⟩
 ·exact .inl hh
 ·exact .inr ⟨g,off,cap,cur,e1,Nat.le_trans hb e2,e3⟩
theorem one_own (w:World) (base:Nat) (a b c d e:Int) (hb:base≤w.heap.size):OwnQ (w.alloc (.cells #[.int .i64 a,.int .i64 b,.int .i64 c,.int .i64 d,.int .i64 e] 55)) base (.slice (some ⟨w.heap.size,0,none⟩) 1 1) [⟨a,b,c,d,e⟩]:=
 ⟨rfl,.inr ⟨w.heap.size,0,1,_,rfl,hb,heap_alloc_new w _,by simp,by simp[maxLen],by simp,rfl⟩⟩
theorem run_append_q (w:World) (base:Nat) (v x:Value) (zs ys:List R) (hown:OwnQ w base v zs) (hx:SL w x ys) (hlen:zs.length+ys.length≤1000) (hbase:base≤w.heap.size) :
  ∃v' w',(Builtin.append_ #[49,49] 49 #[v,x]).run Tryz.prog w=.ok v' w'∧OwnQ w' base v' (zs++ys)∧w.grownBy w' v.ownBlock∧(v'.ownBlock=v.ownBlock∨v'.ownBlock=some w.heap.size):=by
 obtain⟨i0,hi0,hz0,hz1,hz2⟩:=infoR'
 rcases hx with ⟨rfl,rfl⟩|⟨b,o,c,rfl,h2,h3,h4,h5⟩
 ·refine⟨v,w,run_append_none w _ _ _ _ i0 5 Tryz.underlying49 hi0 _ _ _ hown,by rw[List.append_nil];exact hown,⟨rfl,rfl,rfl,nzR _,fun _ _ _=>rfl⟩,.inl rfl⟩
 ·obtain⟨v',w',e1,e2,e3,e4⟩:=run_append_mid (P:=Tryz.prog) w base 49 49 55 i0 zeroR 5 40 Tryz.underlying49 hi0 hz0 hz1 hz2 rfl v zs.length (flat zs) hown ⟨b,o,none⟩ ys.length c (flat ys) (flat_len _) (lies_flat h5) (flat_one _) (by unfold maxLen;omega) (by omega) hbase
  refine⟨v',w',e1,?_,e3,e4⟩
  show OwnM _ _ _ _ _ _ _
  rw[flat_append,List.length_append]
  exact e2
end Go.Proofs.YtnjpjieedgmffaaGreatDoor.que
namespace Go.Proofs.YtnjpjieedgmffaaGreatDoor.rlv
open Go.RowKit spn
open que (getE OwnM OwnM.lt OwnM.kept OwnM.below wpList_append_mid run_append_none run_append_mid)
theorem run_append_r (w:World) (base:Nat) (v x:Value) (zs ys:List RL) (hown:OwnQ w base v zs) (hx:SL w x ys) (hlen:zs.length+ys.length≤1000) (hbase:base≤w.heap.size) :
  ∃v' w',(Builtin.append_ #[22,22] 22 #[v,x]).run Tryz.prog w=.ok v' w'∧OwnQ w' base v' (zs++ys)∧w.grownBy w' v.ownBlock∧(v'.ownBlock=v.ownBlock∨v'.ownBlock=some w.heap.size):=by
 obtain⟨i0,hi0,hz0,hz1,hz2⟩:=infoR'
 rcases hx with ⟨rfl,rfl⟩|⟨b,o,c,rfl,h2,h3,h4,h5⟩
 ·refine⟨v,w,run_append_none w _ _ _ _ i0 2 Tryz.underlying22 hi0 _ _ _ hown,by rw[List.append_nil];exact hown,⟨rfl,rfl,rfl,nzR _,fun _ _ _=>rfl⟩,.inl rfl⟩
 ·obtain⟨v',w',e1,e2,e3,e4⟩:=run_append_mid (P:=Tryz.prog) w base 22 22 51 i0 zeroR 2 32 Tryz.underlying22 hi0 hz0 hz1 hz2 rfl v zs.length (flat zs) hown ⟨b,o,none⟩ ys.length c (flat ys) (flat_len _) (lies_flat h5) (flat_one _) (by unfold maxLen;omega) (by omega) hbase
  refine⟨v',w',e1,?_,e3,e4⟩
  show OwnM _ _ _ _ _ _ _
  rw[flat_append,List.length_append]
  exact e2
theorem Lies.take {w:World}{b o:Nat}{zs:List RL}(h:Lies w b o zs) (n:Nat):Lies w b o (zs.take n):=by
 intro j hj i v hv
 have hj2:j < zs.length:=by rw[List.length_take] at hj;omega
 have e:(zs.take n)[j]! = zs[j]!:=by
  rw[getE _ _ hj,getE _ _ hj2,List.getElem_take]
 rw[e] at hv
 exact h j hj2 i v hv
theorem Lies.drop {w:World}{b o:Nat}{zs:List RL}(h:Lies w b o zs) (n:Nat):Lies w b (o+n * 2) (zs.drop n):=by
 intro j hj i v hv
 have hj2:n+j < zs.length:=by rw[List.length_drop] at hj;omega
 have e:(zs.drop n)[j]! = zs[n+j]!:=by
  rw[getE _ _ hj,getE _ _ hj2,List.getElem_drop]
 rw[e] at hv
 have:=h (n+j) hj2 i v hv
 rw[←this]
 congr 2
 rw[Nat.add_mul];omega
theorem sl_take {w:World}{b o c k:Nat}{zs:List RL}(hk:k≤zs.length) (hc:zs.length≤c) (hm:c≤9223372036854775807) (hb:b < w.heap.size) (h:Lies w b o zs):SL w (.slice (some ⟨b,o,none⟩) k c) (zs.take k):=
 .inr ⟨b,o,c,by rw[List.length_take,Nat.min_eq_left hk],by rw[List.length_take];omega,hm,hb,h.take k⟩
def offK (o k c:Nat):Nat:=if k=c then o else o+k * 2
theorem sl_drop {w:World}{b o c k:Nat}{zs:List RL}(hk:k≤zs.length) (hc:zs.length≤c) (hm:c≤9223372036854775807) (hb:b < w.heap.size) (h:Lies w b o zs):SL w (.slice (some ⟨b,offK o k c,none⟩) (zs.length - k) (c - k)) (zs.drop k):=by
 refine .inr ⟨b,offK o k c,c - k,by rw[List.length_drop],by rw[List.length_drop];omega,by omega,hb,?_⟩
 unfold offK
 by_cases h1:k=c
 ·rw[if_pos h1,List.drop_eq_nil_of_le (by omega)]
  exact fun j hj=>absurd hj (Nat.not_lt_zero _)
 ·rw[if_neg h1];exact h.drop k
theorem one_sl (w:World) (p:Int) (q:Option Addr) (n c:Nat):SL (w.alloc (.cells #[.int .i64 p,.slice q n c] 51)) (.slice (some ⟨w.heap.size,0,none⟩) 1 1) [⟨p,q,n,c⟩]:=by
 refine .inr ⟨w.heap.size,0,1,rfl,by simp,by decide,by simp,flat_lies ?_⟩
 intro j u hu
 rw[Nat.zero_add,World.cell?_alloc_at _ _ _ _ rfl]
 simpa [flat,rV] using hu
end Go.Proofs.YtnjpjieedgmffaaGreatDoor.rlv
namespace Go.Proofs.YtnjpjieedgmffaaGreatDoor.sid
open Go.RowKit spn que
open tickP (priceB sideB betOk betR)
set_option maxRecDepth 100000 in
theorem rcount_nil (w:World) :
  Calls Tryz.prog 53 #[.slice none 0 0] w fun e w'=>e=.returned (.int .i64 0)∧∃k,w'=w.drewN k:=by
 go_enter Tryz.func53,Tryz.ntmps53
 go_wp2_with fail
 go_loopg [3,4] 0 (fun gg s3 s4 wr=>s3=.int .i64 0∧s4=.int .i64 0∧wr=w)
 case atStart=>exact⟨rfl,rfl,rfl⟩
 case round=>
  obtain⟨rfl,rfl,rfl⟩:=hrel
  go_wp2_with fail
  go_ret
  exact⟨rfl,0,rfl⟩
theorem rcount_any (v:Value) (ls:List L) (w:World) (h:LS w v ls) (h60:∀l∈ls,l.rests.length≤60) (h10:ls.length≤10000) :
  Calls Tryz.prog 53 #[v] w fun e w'=>e=.returned (.int .i64 (cnt ls))∧∃k,w'=w.drewN k:=by
 rcases h with ⟨rfl,rfl⟩|⟨b,o,c,rfl,h2,h3,h4,h5⟩
 ·exact rcount_nil w
 ·exact rcount_some b o c ls w h5 h60 h10
set_option maxRecDepth 100000 in
theorem rat_nil (id:Int) (w:World) :
  Calls Tryz.prog 31 #[.slice none 0 0,.int .i64 id] w fun e w'=>e=.returned (.tuple #[.int .i64 (-1),.int .i64 (-1)])∧∃k,w'=w.drewN k:=by
 go_enter Tryz.func31,Tryz.ntmps31
 go_wp2_with fail
 go_loopg [6,7] 0 (fun gg s6 _ wr=>s6=.int .i64 0∧wr=w)
 case atStart=>exact⟨rfl,rfl⟩
 case round=>
  obtain⟨rfl,rfl⟩:=hrel
  go_wp2_with fail
  go_ret2
  exact⟨rfl,0,rfl⟩
theorem rat_any (v:Value) (ls:List L) (id:Int) (w:World) (h:LS w v ls) :
  Calls Tryz.prog 31 #[v,.int .i64 id] w fun e w'=>e=.returned (.tuple #[.int .i64 (atGo id 0 ls).1,.int .i64 (atGo id 0 ls).2])∧∃k,w'=w.drewN k:=by
 rcases h with ⟨rfl,rfl⟩|⟨b,o,c,rfl,h2,h3,h4,h5⟩
 ·exact rat_nil id w
 ·exact rat_some b o c ls id w (by omega) h5
set_option maxRecDepth 100000 in
theorem rflat_nil (w:World) :
  Calls Tryz.prog 55 #[.slice none 0 0] w fun e w'=>e=.returned (.slice none 0 0)∧w'=w:=by
 go_enter Tryz.func55,Tryz.ntmps55
 go_wp2_with fail
 go_loopg [3,4] 0 (fun gg s3 s4 wr=>s3=.slice none 0 0∧s4=.int .i64 0∧wr=w)
 case atStart=>exact⟨rfl,rfl,rfl⟩
 case round=>
  obtain⟨rfl,rfl,rfl⟩:=hrel
  go_wp2_with fail
  go_ret
  exact⟨rfl,rfl⟩
theorem rflat_any (v:Value) (ls:List L) (w:World) (h:LS w v ls) (h60:cnt ls≤60) :
  Calls Tryz.prog 55 #[v] w fun e w'=>∃u,e=.returned u∧OwnQ w' w.heap.size u (allR ls)∧Below w.heap.size w w':=by
 rcases h with ⟨rfl,rfl⟩|⟨b,o,c,rfl,h2,h3,h4,h5⟩
 ·refine(rflat_nil w).mono ?_
  rintro e w' ⟨rfl,rfl⟩
  exact⟨_,rfl,⟨rfl,.inl ⟨rfl,rfl⟩⟩,bzR _ _⟩
 ·exact rflat_some b o c ls w (by omega) h5 h60
theorem below_drewN' (w:World) (k:Nat):Below w.heap.size w (w.drewN k):=belowN (bzR _ _) k
set_option maxRecDepth 100000 in
set_option maxHeartbeats 1000000 in
theorem rlevels_nil (s:Int) (w:World) :
  Calls Tryz.prog 27 #[.int .i64 s,.slice none 0 0] w fun e w'=>e=.returned (.int .i64 (schk s []))∧Below w.heap.size w w':=by
 by_cases hs2:sideB s=false
 ·rw[schk_side hs2]
  have HS:Hid (sideB s=false):=hs2
  go_enter Tryz.func27,Tryz.ntmps27
  go_wp2_with fail
  refine(rside_any s w).mono ?_
  rintro e w ⟨rfl,rfl⟩
  rw[HS.out]
  go_wp2_with fail
  go_ret
  exact⟨rfl,bzR _ _⟩
 have hs:sideB s=true:=by simpa using hs2
 rw[schk_ok hs rfl (by simp[cnt]) (by simp[ids,flatP])]
 have HS:Hid (sideB s=true):=hs
 clear hs2 hs
 go_enter Tryz.func27,Tryz.ntmps27
 go_wp2_with fail
 refine(rside_any s w).mono ?_
 rintro e w ⟨rfl,rfl⟩
 rw[HS.out]
 go_wp2_with fail
 go_loopg [6,7,8,9] 0 (fun gg s4 _ _ _ wr=>s4=.int .i64 0∧wr=w)
 case atStart=>exact⟨rfl,rfl⟩
 case round=>
  obtain⟨rfl,rfl⟩:=hrel
  go_wp2_with fail
  refine(rcount_nil _).mono ?_
  rintro e w1 ⟨rfl,k1,rfl⟩
  go_wp2_with fail
  refine(rflat_nil _).mono ?_
  rintro e w1 ⟨rfl,rfl⟩
  go_wp2_with fail
  refine(rtwice_none _ _ _).mono ?_
  rintro e w2 ⟨rfl,b2⟩
  have HB:Hid (Below wr.heap.size wr w2):=(below_drewN' _ k1).trans b2
  clear b2
  go_wp2_with fail
  go_ret
  exact⟨rfl,HB.out⟩
theorem rlevels_any (s:Int) (v:Value) (ls:List L) (w:World) (h:LS w v ls) :
  Calls Tryz.prog 27 #[.int .i64 s,v] w fun e w'=>e=.returned (.int .i64 (schk s ls))∧Below w.heap.size w w':=by
 rcases h with ⟨rfl,rfl⟩|⟨b,o,c,rfl,h2,h3,h4,h5⟩
 ·exact rlevels_nil s w
 ·exact rlevels_some s b o c ls w h4 h2 h3 h5
end Go.Proofs.YtnjpjieedgmffaaGreatDoor.sid
namespace Go.Proofs.YtnjpjieedgmffaaGreatDoor.sid
open Go.RowKit spn que
open tickP (priceB sideB betOk betR)
theorem putL_skip {s p:Int}{r:R}:∀ (k:Nat) (ls:List L),k≤ls.length→(∀j,j < k→leadB s ls[j]!.price p=true)→putL s p r ls=ls.take k++putL s p r (ls.drop k):=by
 intro k
 induction k with
 | zero=>intro ls _ _;simp
 | succ k ih=>
  intro ls hk h
  cases ls with
  | nil=>simp at hk
  | cons l t=>
   have h0:=h 0 (by omega)
   simp only[List.getElem!_cons_zero] at h0
   have e:=ih t (by simpa using hk) (fun j hj=>by have:=h (j+1) (by omega);simpa using this)
   rw[putL,if_pos h0,e]
   simp
theorem putL_end {s p:Int}{r:R}{ls:List L}(h:∀j,j < ls.length→leadB s ls[j]!.price p=true):putL s p r ls=ls++[⟨p,[r]⟩]:=by
 rw[putL_skip ls.length ls (nzR _) h];simp[putL]
theorem putL_same {s p:Int}{r:R}{ls:List L}{k:Nat}(hk:k < ls.length) (h:∀j,j < k→leadB s ls[j]!.price p=true) (hn:leadB s ls[k]!.price p=false) (he:ls[k]!.price=p):putL s p r ls=ls.take k++⟨p,ls[k]!.rests++[r]⟩::ls.drop (k+1):=by
 rw[putL_skip k ls (by omega) h,ldrop_at hk,putL,if_neg (by rw[hn];decide),if_pos he]
theorem putL_new {s p:Int}{r:R}{ls:List L}{k:Nat}(hk:k < ls.length) (h:∀j,j < k→leadB s ls[j]!.price p=true) (hn:leadB s ls[k]!.price p=false) (he:¬ls[k]!.price=p):putL s p r ls=ls.take k++⟨p,[r]⟩::ls.drop k:=by
 rw[putL_skip k ls (by omega) h,ldrop_at hk,putL,if_neg (by rw[hn];decide),if_neg he]
theorem rown_nil (w:World) (base:Nat):rlv.OwnQ w base (.slice none 0 0) []:=⟨rfl,.inl ⟨rfl,rfl⟩⟩
theorem qown_nil (w:World) (base:Nat):OwnQ w base (.slice none 0 0) []:=⟨rfl,.inl ⟨rfl,rfl⟩⟩
theorem qone_sl (w:World) (a b c d e:Int):SL (w.alloc (.cells #[.int .i64 a,.int .i64 b,.int .i64 c,.int .i64 d,.int .i64 e] 55)) (.slice (some ⟨w.heap.size,0,none⟩) 1 1) [⟨a,b,c,d,e⟩]:=by
 refine .inr ⟨w.heap.size,0,1,rfl,by simp,by decide,by simp,flat_lies ?_⟩
 intro j u hu
 rw[Nat.zero_add,World.cell?_alloc_at _ _ _ _ rfl]
 simpa [flat,rV] using hu
abbrev appR:Value→Value→World→Value→World→Prop:=fun v x w v' w'=>(Builtin.append_ #[49,49] 49 #[v,x]).run Tryz.prog w=.ok v' w'
abbrev appL:Value→Value→World→Value→World→Prop:=fun v x w v' w'=>(Builtin.append_ #[22,22] 22 #[v,x]).run Tryz.prog w=.ok v' w'
theorem lay_first (W:World) (x:Value) (zs:List rlv.RL) (hx:rlv.SL W x zs) (hl:zs.length≤100):∃v1 w1,appL (.slice none 0 0) x W v1 w1∧rlv.OwnQ w1 W.heap.size v1 zs∧Below W.heap.size W w1:=by
 obtain⟨v1,w1,h1,h2,h3,-⟩:=rlv.run_append_r W W.heap.size (.slice none 0 0) x [] zs (rown_nil _ _) hx (by simp;omega) (nzR _)
 exact⟨v1,w1,h1,h2,(bzR _ _).grown h3 (nzR _) (fun k hk=>by simp[Value.ownBlock] at hk)⟩
theorem lay_rests (W:World) (x:Value) (zs:List R) (hx:SL W x zs) (hl:zs.length≤100):∃v1 w1,appR (.slice none 0 0) x W v1 w1∧OwnQ w1 W.heap.size v1 zs∧Below W.heap.size W w1:=by
 obtain⟨v1,w1,h1,h2,h3,-⟩:=run_append_q W W.heap.size (.slice none 0 0) x [] zs (qown_nil _ _) hx (by simp;omega) (nzR _)
 exact⟨v1,w1,h1,h2,(bzR _ _).grown h3 (nzR _) (fun k hk=>by simp[Value.ownBlock] at hk)⟩
theorem lay_rest (B:Nat) (W:World) (v:Value) (zs:List R) (a b c d e:Int) (hv:OwnQ W B v zs) (hB:B≤W.heap.size) (hl:zs.length≤100):∃q m cc w1,appR v (.slice (some ⟨W.heap.size,0,none⟩) 1 1) (W.alloc (.cells #[.int .i64 a,.int .i64 b,.int .i64 c,.int .i64 d,.int .i64 e] 55)) (.slice q m cc) w1∧OwnQ w1 B (.slice q m cc) (zs++[⟨a,b,c,d,e⟩])∧Below B W w1:=by
 have hBb:Below W.heap.size W (W.alloc (.cells #[.int .i64 a,.int .i64 b,.int .i64 c,.int .i64 d,.int .i64 e] 55)):=(bzR _ _).alloc (nzR _) _
 obtain⟨v1,w1,h1,h2,h3,-⟩:=run_append_q _ B v (.slice (some ⟨W.heap.size,0,none⟩) 1 1) zs [⟨a,b,c,d,e⟩] (OwnM.below hv hBb) (qone_sl W a b c d e) (by simp;omega) (by simp;omega)
 obtain⟨q,cc,hf⟩:=OwnM.form h2
 subst hf
 exact⟨q,_,cc,w1,h1,h2,(hBb.mono hB).grown h3 (by simp;omega) (fun k hk=>(OwnM.lt hv k hk).1)⟩
theorem laid_ls {W w5:World}{base:Nat}{v5:Value}{xa xb:List RP}{x:RP}(ha:∀p∈xa,SLe W (sv p.1) p.2) (hb:∀p∈xb,SLe W (sv p.1) p.2) (hx:SLe w5 (sv x.1) x.2) (hB:Below W.heap.size W w5)
  (ho:rlv.OwnQ w5 base v5 (xa.map (·.1)++x.1::xb.map (·.1))):LS w5 v5 (xa.map toL++toL x::xb.map toL):=by
 have h:Loose w5 v5 (xa++x::xb):=by
  refine⟨?_,fun p hp=>?_⟩
  ·rw[List.map_append,List.map_cons];exact rlv.OwnQ.sl ho
  ·rcases List.mem_append.1 hp with hp|hp
   ·exact(ha p hp).below hB
   ·rcases List.mem_cons.1 hp with rfl|hp
    ·exact hx
    ·exact(hb p hp).below hB
 have:=h.ls
 rwa [List.map_append,List.map_cons] at this
theorem laid_ls2 {W w5:World}{base:Nat}{v5:Value}{xa xb:List RP}(ha:∀p∈xa,SLe W (sv p.1) p.2) (hb:∀p∈xb,SLe W (sv p.1) p.2) (hB:Below W.heap.size W w5)
  (ho:rlv.OwnQ w5 base v5 (xa.map (·.1)++xb.map (·.1))):LS w5 v5 (xa.map toL++xb.map toL):=by
 have h:Loose w5 v5 (xa++xb):=by
  refine⟨?_,fun p hp=>?_⟩
  ·rw[List.map_append];exact rlv.OwnQ.sl ho
  ·rcases List.mem_append.1 hp with hp|hp
   ·exact(ha p hp).below hB
   ·exact(hb p hp).below hB
 have:=h.ls
 rwa [List.map_append] at this
theorem lay_last (W w1 w3:World) (v1 x5:Value) (xa xb:List RP) (p:Int) (q:Option Addr) (m cc:Nat) (zs:List R) (hB1:Below W.heap.size W w1) (O1:rlv.OwnQ w1 W.heap.size v1 (xa.map (·.1))) (hB3:Below w1.heap.size w1 w3) (O3:OwnQ w3 w1.heap.size (.slice q m cc) zs)
  (hx:rlv.SL W x5 (xb.map (·.1))) (ha:∀p∈xa,SLe W (sv p.1) p.2) (hb:∀p∈xb,SLe W (sv p.1) p.2) (hl:xa.length+xb.length≤100) :
  ∃v4 w4 v5 w5,appL v1 (.slice (some ⟨w3.heap.size,0,none⟩) 1 1) (w3.alloc (.cells #[.int .i64 p,.slice q m cc] 51)) v4 w4∧appL v4 x5 w4 v5 w5∧LS w5 v5 (xa.map toL++⟨p,zs⟩::xb.map toL)∧Below W.heap.size W w5:=by
 have hB3a:Below w3.heap.size w3 (w3.alloc (.cells #[.int .i64 p,.slice q m cc] 51)):=(bzR _ _).alloc (nzR _) _
 have hs1:=hB1.size
 have hs3:=hB3.size
 have hO1:rlv.OwnQ (w3.alloc (.cells #[.int .i64 p,.slice q m cc] 51)) W.heap.size v1 (xa.map (·.1)):=OwnM.below (OwnM.below O1 hB3) hB3a
 obtain⟨v4,w4,e1,o4,g4,b4⟩:=rlv.run_append_r _ W.heap.size v1 (.slice (some ⟨w3.heap.size,0,none⟩) 1 1) (xa.map (·.1)) [⟨p,q,m,cc⟩] hO1 (rlv.one_sl w3 p q m cc) (by simp;omega) (by simp;omega)
 have hW3:Below W.heap.size W w3:=hB1.trans (hB3.mono hs1)
 have hW3a:=hW3.trans (hB3a.mono hW3.size)
 have hW4:Below W.heap.size W w4:=hW3a.grown g4 hW3a.size (fun k hk=>(OwnM.lt O1 k hk).1)
 obtain⟨v5,w5,e2,o5,g5,b5⟩:=rlv.run_append_r w4 W.heap.size v4 x5 (xa.map (·.1)++[⟨p,q,m,cc⟩]) (xb.map (·.1)) o4 (hx.below hW4) (by simp;omega) hW4.size
 have hW5:Below W.heap.size W w5:=hW4.grown g5 hW4.size (fun k hk=>(OwnM.lt o4 k hk).1)
 have r3:OwnQ (w3.alloc (.cells #[.int .i64 p,.slice q m cc] 51)) w1.heap.size (.slice q m cc) zs:=OwnM.below O3 hB3a
 have r4:OwnQ w4 w1.heap.size (.slice q m cc) zs:=kept_of r3 g4 (fun z hz e=>by
  have h1:=(OwnM.lt O3 z hz).1
  have h2:=(OwnM.lt O1 z e).2
  omega)
 have r5:OwnQ w5 w1.heap.size (.slice q m cc) zs:=kept_of r4 g5 (fun z hz e=>by
  have h1:=(OwnM.lt O3 z hz).1
  have h3:=(OwnM.lt O3 z hz).2
  rcases b4 with b4|b4
  ·rw[b4] at e
   have h2:=(OwnM.lt O1 z e).2
   omega
  ·rw[b4] at e
   simp at e
   omega)
 refine⟨v4,w4,v5,w5,e1,e2,?_,hW5⟩
 exact laid_ls (x:=(⟨p,q,m,cc⟩,zs)) ha hb (.inl (OwnQ.sl r5)) hW5 (by rw[List.append_assoc] at o5;exact o5)
end Go.Proofs.YtnjpjieedgmffaaGreatDoor.sid
