import Derived.Test.YtnjpjieedgmffaaGreatDoorQueTake1
import Derived.OwnWalk
import Derived.Test.YtnjpjieedgmffaaGreatDoorSidPure
namespace Go.Proofs.YtnjpjieedgmffaaGreatDoor.que
open Go.RowKit spn
def fV (f:F):List Value:=[.int .i64 f.id,.int .i64 f.who,.int .i64 f.qty]
def flatF (fs:List F):List Value:=fs.flatMap fV
theorem flatF_append (a b:List F):flatF (a++b)=flatF a++flatF b:=by unfold flatF;rw[List.flatMap_append]
abbrev OwnF (w:World) (base:Nat) (v:Value) (fs:List F):Prop:=OwnM w base 179 3 v fs.length (flatF fs)
def zeroF:Value:=.agg #[.int .i64 0,.int .i64 0,.int .i64 0]
theorem infoF:(Tryz.prog.info? 179).map (fun i=>(i.zero,i.size,i.bytes))=some (some zeroF,3,24):=by kernel_rfl
theorem infoF' : ∃i,Tryz.prog.info? 179=some i∧i.zero=some zeroF∧i.size=3∧i.bytes=24:=by
 have h:=infoF
 cases hq:Tryz.prog.info? 179 with
 | none=>rw[hq] at h;simp at h
 | some i=>
  rw[hq] at h
  simp only[Option.map_some,Option.some.injEq,Prod.mk.injEq] at h
  exact⟨i,rfl,h.1,h.2.1,h.2.2⟩
structure Held (w0 wr:World) (n0:Int) (z0:List R) (m:Int) (s9 s10:Value) (fs:List F) (ys:List R):Prop where
 m0:0≤m
 f:OwnF wr w0.heap.size s9 fs
 q:OwnQ wr w0.heap.size s10 ys
 dis:∀k,s9.ownBlock=some k→s10.ownBlock≠some k
 good:Good ys
 len:ys.length≤60
 sum:(fs.length:Int)+m≤10000
 eq:take n0 z0=(fs++(take m ys).1,(take m ys).2)
 far:Below w0.heap.size w0 wr
theorem qtyB (n:Int) (h1:1≤n) (h2:n≤10000):[(n,1,10000)].any spanB=false:=by
 simp[spanB];omega
set_option maxRecDepth 100000 in
set_option maxHeartbeats 1000000 in
theorem take_good (v:Value) (zs:List R) (n:Int) (w:World) (h:SL w v zs) (h0:qchk zs=0) (h1:1≤n) (h2:n≤10000) :
  Calls Tryz.prog 102 #[v,.int .i64 n] w fun e w'=>∃fv lv,e=.returned (.tuple #[fv,lv,.nilIface])∧OwnF w' w.heap.size fv (take n zs).1∧OwnQ w' w.heap.size lv (take n zs).2∧Below w.heap.size w w':=by
 obtain⟨iF,hiF,hf0,hf1,hf2⟩:=infoF'
 have HI:Hid (Tryz.prog.info? 179=some iF):=hiF
 clear hiF
 have hcon:=qcheck_any v zs w h
 rw[h0,errV_zero] at hcon
 obtain⟨h60,hG⟩:=(qchk_zero zs).1 h0
 have HG:Hid (Good zs∧zs.length≤60):=⟨hG,h60⟩
 have HS:Hid (SL w v zs):=h
 obtain⟨p,c,rfl⟩:=h.form
 clear h h0 hG h60
 go_enter Tryz.func102,Tryz.ntmps102
 go_wp2_with fail
 refine hcon.mono ?_
 rintro e w1 ⟨rfl,hb1⟩
 clear hcon
 go_wp2_with fail
 refine(qty_any n w1).mono ?_
 rintro e w2 ⟨rfl,hb2⟩
 go_wp2_with fail
 refine(scheck1 false _ _ _ _ _ rfl (qtyB n h1 h2)).mono ?_
 rintro e w3 ⟨rfl,hb3⟩
 simp only[show errV (rangeE false)=.nilIface from rfl]
 have hB3:Below w.heap.size w w3:=(hb1.trans (hb2.mono hb1.size)).trans (hb3.mono (hb1.trans (hb2.mono hb1.size)).size)
 clear hb1 hb2 hb3
 go_wp2_with fail
 have hSL:SL (w3.alloc (.cells #[.slice p zs.length c] 49)) (.slice p zs.length c) zs:=HS.out.below (hB3.alloc hB3.size _)
 have hB4:Below w.heap.size w (w3.alloc (.cells #[.slice p zs.length c] 49)):=hB3.alloc hB3.size _
 refine(concat_any w3.heap.size 1 1 (fun _=>.slice p zs.length c) (fun _=>zs) _ (by omega) ?hc (fun _ _=>hSL) ?hl).mono ?_
 case hc=>
  intro j hj
  have:j=0:=by omega
  subst this
  simp[go_sem]
 case hl=>
  show ([]++zs).length≤1000
  have:=HG.out.2
  simp;omega
 rintro e w4 ⟨lv,rfl,hO,hb5⟩
 have hH:Held w w4 n zs n (.slice none 0 0) lv [] zs:=by
  have hO' : OwnQ w4 (w3.alloc (.cells #[.slice p zs.length c] 49)).heap.size lv zs:=hO
  refine⟨by omega,⟨rfl,.inl ⟨rfl,rfl⟩⟩,?_,?_,HG.out.1,HG.out.2,by simp;omega,by simp,hB4.trans (hb5.mono hB4.size)⟩
  ·refine⟨hO'.1,?_⟩
   rcases hO'.2 with hh|⟨g,off,cap,cur,e1,e2,e3⟩
   ·exact .inl hh
   ·exact .inr ⟨g,off,cap,cur,e1,Nat.le_trans hB4.size e2,e3⟩
  ·intro k hk;simp[Value.ownBlock] at hk
 have HH:Hid (Held w w4 n zs n (.slice none 0 0) lv [] zs):=hH
 clear hO hH hSL hB4 hb5 hB3
 go_wp2_with fail
 go_loopg [1,9,10,11,12] n.toNat (fun gg s1 s9 s10 _ _ wr=>∃ (m:Int) (fs:List F) (ys:List R),s1=.int .i64 m∧m.toNat≤gg∧Aside (Held w wr n zs m s9 s10 fs ys))
 case atStart=>exact⟨n,[],zs,rfl,nzR _,HH.out⟩
 case round=>
  obtain⟨m,fs,ys,rfl,hg,hH⟩:=hrel
  by_cases hm:0 < m
  ·cases ys with
   | nil=>
    obtain⟨p',c',hv⟩:=(OwnQ.sl hH.out.q).form
    subst hv
    have he:=hH.out.eq
    rw[take_nil] at he
    have HE:Hid ((take n zs).1=fs∧(take n zs).2=[]):=by rw[he];exact⟨by simp,rfl⟩
    clear he
    go_wp2_with fail
    go_ret3
    exact⟨_,_,rfl,by rw[HE.out.1];exact hH.out.f,by rw[HE.out.2];exact hH.out.q,hH.out.far⟩
   | cons r t=>
    obtain⟨a,b,q,d,e⟩:=r
    obtain⟨g,off,cap,hv,hbg,hgw,hnc,hcm,⟨c0,c1,c2,c3,c4⟩,-,-,-,-⟩:=(show OwnQ _ _ _ _ from hH.out.q).form
    subst hv
    simp only[] at c0 c1 c2 c3 c4
    obtain⟨⟨q1,q2⟩,⟨q3,q4⟩,⟨q5,q6⟩,-⟩:=rchk_zero (hH.out.good.1 (⟨a,b,q,d,e⟩:R) (by simp))
    simp only[] at q1 q2 q3 q4 q5 q6
    obtain⟨k,hk⟩:∃k,min m q=k:=⟨_,rfl⟩
    have hk1:1≤k:=by omega
    have hk2:k≤q:=by omega
    have hk3:k≤m:=by omega
    have e1:wrap64 (m - k)=m - k:=by have:=hH.out.sum;unfold wrap64;omega
    have hlen:t.length≤100:=by have h:=hH.out.len;rw[List.length_cons] at h;omega
    have hL0:(0:Int) < ((t.length+1:Nat):Int):=by omega
    have hsm:=hH.out.sum
    have HK:Hid (min m q=k):=hk
    have hH2:Hid (Held w wr n zs m u9 (.slice (some ⟨g,off,none⟩) (t.length+1) cap) fs (⟨a,b,q,d,e⟩::t)):=hH.out
    clear hH
    obtain⟨L,hL⟩:∃L,L=t.length+1:=⟨_,rfl⟩
    have HL:Hid (t.length+1=L):=hL.symm
    rw[←hL] at hL0 hH2 ⊢
    clear hL hnc
    have hF1:OwnF ((wr.alloc (.cells #[.int .i64 a,.int .i64 b,.int .i64 q,.int .i64 d,.int .i64 e] 55)).alloc (.cells #[.int .i64 a,.int .i64 b,.int .i64 k] 179)) w.heap.size u9 fs:=hH2.out.f.below (((bzR _ _).alloc (nzR _) _).alloc (by simp) _)
    have HF1:Hid (OwnF ((wr.alloc (.cells #[.int .i64 a,.int .i64 b,.int .i64 q,.int .i64 d,.int .i64 e] 55)).alloc (.cells #[.int .i64 a,.int .i64 b,.int .i64 k] 179)) w.heap.size u9 fs):=hF1
    have hQ1:OwnQ ((wr.alloc (.cells #[.int .i64 a,.int .i64 b,.int .i64 q,.int .i64 d,.int .i64 e] 55)).alloc (.cells #[.int .i64 a,.int .i64 b,.int .i64 k] 179)) w.heap.size (.slice (some ⟨g,off,none⟩) L cap) (⟨a,b,q,d,e⟩::t):=hH2.out.q.below (((bzR _ _).alloc (nzR _) _).alloc (by simp) _)
    have HQ1:Hid (OwnQ ((wr.alloc (.cells #[.int .i64 a,.int .i64 b,.int .i64 q,.int .i64 d,.int .i64 e] 55)).alloc (.cells #[.int .i64 a,.int .i64 b,.int .i64 k] 179)) w.heap.size (.slice (some ⟨g,off,none⟩) L cap) (⟨a,b,q,d,e⟩::t)):=hQ1
    have HB1:Hid (Below w.heap.size w ((wr.alloc (.cells #[.int .i64 a,.int .i64 b,.int .i64 q,.int .i64 d,.int .i64 e] 55)).alloc (.cells #[.int .i64 a,.int .i64 b,.int .i64 k] 179))):=(hH2.out.far.alloc hH2.out.far.size _).alloc (by have:=hH2.out.far.size;simp;omega) _
    clear hF1 hQ1
    go_wp2_with (at_builtin;(refine wpList_append_mid _ rfl _ _ 175 rfl w.heap.size 179 iF zeroF 3 24 Tryz.underlying175 HI.out hf0 hf1 hf2 rfl u9 fs.length (flatF fs) rfl HF1.out ⟨wr.heap.size+1,0,none⟩ 1 1 [.int .i64 a,.int .i64 b,.int .i64 k] rfl rfl ?c1 ?c2 ?c3 ?c4 ?c5 ?_))
    case c1=>
     have h:=World.news_of_block (cs:=#[.int .i64 a,.int .i64 b,.int .i64 k]) (heap_alloc_new (wr.alloc (.cells #[.int .i64 a,.int .i64 b,.int .i64 q,.int .i64 d,.int .i64 e] 55)) (.cells #[.int .i64 a,.int .i64 b,.int .i64 k] 179))
     simpa using h
    case c2=>intro u hu;simp at hu;rcases hu with rfl|rfl|rfl <;> rfl
    case c3=>unfold maxLen;omega
    case c4=>omega
    case c5=>exact HB1.out.size
    intro v9 w5 hO9 hgr9 hat9
    have hz5:=hgr9.size
    generalize hWa:(wr.alloc (.cells #[.int .i64 a,.int .i64 b,.int .i64 q,.int .i64 d,.int .i64 e] 55)).alloc (.cells #[.int .i64 a,.int .i64 b,.int .i64 k] 179)=Wa at *
    have hsz:wr.heap.size+2=Wa.heap.size:=by rw[←hWa];simp
    clear hWa
    have hdis:(Value.slice (some ⟨g,off,none⟩) L cap).ownBlock=none∨(Value.slice (some ⟨g,off,none⟩) L cap).ownBlock≠u9.ownBlock:=by
     right
     intro he
     exact hH2.out.dis g he.symm rfl
    have hQ5:OwnQ w5 w.heap.size (.slice (some ⟨g,off,none⟩) L cap) (⟨a,b,q,d,e⟩::t):=HQ1.out.kept hgr9 hdis
    have hB5:Below w.heap.size w w5:=HB1.out.grown hgr9 HB1.out.size (fun j hj=>(HF1.out.lt j hj).1)
    have h9g:∀j,v9.ownBlock=some j→j≠g:=by
     intro j hj hjg
     subst hjg
     rcases hat9 with h9|h9
     ·exact hH2.out.dis j (h9.symm.trans hj) rfl
     ·rw[hj] at h9
      simp only[Option.some.injEq] at h9
      omega
    have HO9:Hid (OwnF w5 w.heap.size v9 (fs++[⟨a,b,k⟩])):=by
     show OwnM _ _ _ _ _ _ _
     rw[flatF_append,List.length_append]
     exact hO9
    have HQ5:Hid (OwnQ w5 w.heap.size (.slice (some ⟨g,off,none⟩) L cap) (⟨a,b,q,d,e⟩::t)):=hQ5
    have HB5:Hid (Below w.heap.size w w5):=hB5
    have H9G:Hid (∀j,v9.ownBlock=some j→j≠g):=h9g
    clear hO9 hgr9 hat9 hz5 hsz hdis hQ5 hB5 h9g HF1 HQ1 HB1 c0 c1 c2 c3 c4
    go_wp2_with fail
    refine(takeFirst_any w.heap.size _ a b q d e k t w5 HQ5.out HB5.out.size hk1 hk2 q2 q3 q4 q5 q6 hlen).mono ?_
    rintro x w6 ⟨v10,rfl,hO6,hgr6,hat6⟩
    have hHn:Held w w6 n zs (m - k) v9 v10 (fs++[⟨a,b,k⟩]) (tk1 k ⟨a,b,q,d,e⟩ t):=by
     obtain⟨t1,t2,t3⟩:=tk1_good hH2.out.good hk1 hk2
     refine⟨by omega,HO9.out.kept hgr6 ?_,hO6,?_,t1,Nat.le_trans t3 hH2.out.len,?_,?_,HB5.out.grown hgr6 HB5.out.size (fun j hj=>(HQ5.out.lt j hj).1)⟩
     ·cases h9:v9.ownBlock with
      | none=>exact .inl rfl
      | some j=>
       right
       intro he
       have:j=g:=by simpa [Value.ownBlock] using he
       exact H9G.out j h9 this
     ·intro j hj hj2
      rcases hat6 with h6|⟨j',h6,hle⟩
      ·rw[hj2] at h6
       have:j=g:=by simpa [Value.ownBlock] using h6
       exact H9G.out j hj this
      ·rw[hj2] at h6
       simp only[Option.some.injEq] at h6
       have:=(HO9.out.lt j hj).2
       omega
     ·simp only[List.length_append,List.length_cons,List.length_nil];omega
     ·have he:=hH2.out.eq
      rw[take_cons m _ t hm hH2.out.good] at he
      simp only[HK.out] at he
      rw[he]
      simp
    have HHn:Hid (Held w w6 n zs (m - k) v9 v10 (fs++[⟨a,b,k⟩]) (tk1 k ⟨a,b,q,d,e⟩ t)):=hHn
    clear hHn hO6 hgr6 hat6 HO9 HQ5 HB5 H9G hH2
    go_wp2_with fail
    go_roundg (m - k).toNat
    case measure=>omega
    case rel=>exact⟨m - k,_,_,rfl,nzR _,HHn.out⟩
  ·have hm0:m≤0:=by omega
   have he:=hH.out.eq
   rw[take_done m ys hm0] at he
   have HE:Hid ((take n zs).1=fs∧(take n zs).2=ys):=by rw[he];exact⟨by simp,rfl⟩
   clear he
   go_wp2_with fail
   go_ret3
   exact⟨_,_,rfl,by rw[HE.out.1];exact hH.out.f,by rw[HE.out.2];exact hH.out.q,hH.out.far⟩
end Go.Proofs.YtnjpjieedgmffaaGreatDoor.que
namespace Go.Proofs.YtnjpjieedgmffaaGreatDoor.mee
open Go.RowKit spn que sid
open ord (O oV mB chk)
def offT (off cap:Nat):Nat:=if cap=1 then off else off+2
theorem first_none (g off n cap:Nat) (q:Option Addr) (c:Nat) (w:World) (hc:n+1≤cap) (hm:cap≤9223372036854775807) :
  Calls Tryz.prog 104 #[.slice (some ⟨g,off,none⟩) (n+1) cap,.slice q 0 c] w fun e w'=>e=.returned (.slice (some ⟨g,offT off cap,none⟩) n (cap - 1))∧w'=w:=by
 have g1:((n+1:Nat):Int)≤(cap:Int):=by omega
 have g2:(1:Int)≤((n+1:Nat):Int):=by omega
 unfold offT
 by_cases h1:cap=1
 ·have hn:n=0:=by omega
  subst h1 hn
  go_enter Tryz.func104,Tryz.ntmps104
  go_wp2_with fail
  go_ret
  exact⟨rfl,rfl⟩
 ·rw[if_neg h1]
  go_enter Tryz.func104,Tryz.ntmps104
  go_wp2_with fail
  go_ret
  exact⟨rfl,rfl⟩
theorem first_some (g off n cap:Nat) (q:Option Addr) (m c:Nat) (u:Value) (w:World) (hm:0 < m) (hu:w.cell? ⟨g,off+1,none⟩=some u) (hf:w.frozen? ⟨g,off+1,none⟩=false) :
  Calls Tryz.prog 104 #[.slice (some ⟨g,off,none⟩) (n+1) cap,.slice q m c] w fun e w'=>e=.returned (.slice (some ⟨g,off,none⟩) (n+1) cap)∧w'=w.setCell ⟨g,off+1,none⟩ (.slice q m c):=by
 have hm0:¬((m:Int)=0):=by omega
 go_enter Tryz.func104,Tryz.ntmps104
 go_wp2_with fail
 go_ret
 exact⟨rfl,rfl⟩
theorem deep_tail {w:World}{base g off n cap:Nat}{x:RP}{ps:List RP}(h:Deep w base (.slice (some ⟨g,off,none⟩) n cap) (x::ps)):n=ps.length+1∧n≤cap∧cap≤9223372036854775807∧Deep w base (.slice (some ⟨g,offT off cap,none⟩) ps.length (cap - 1)) ps:=by
 have ho:=h.own
 rw[List.append_nil,List.map_cons] at ho
 rcases ho.2 with ⟨e,_⟩|⟨g',off',cap',cur,e,hb,hg,hnc,hcm,hcs,htake⟩
 ·cases e
 ·cases e
  have hL:(x.1::ps.map (·.1)).length=ps.length+1:=by simp
  have hcm2:cap≤9223372036854775807:=by simpa [maxLen] using hcm
  refine⟨hL,hnc,hcm2,?_,fun p hp=>h.each p (by simp[hp]),(List.pairwise_cons.1 h.apart).2,fun p hp z hz=>h.far p (by simp[hp]) z hz⟩
  rw[List.append_nil]
  show OwnM _ _ _ _ _ _ _
  rw[List.length_map]
  unfold offT
  by_cases h1:cap=1
  ·rw[if_pos h1]
   have hp:ps=[]:=List.eq_nil_of_length_eq_zero (by omega)
   subst hp
   refine⟨rfl,.inr ⟨g,off,cap - 1,cur,rfl,hb,hg,by simp,by unfold maxLen;omega,by omega,by simp[rlv.flat]⟩⟩
  ·rw[if_neg h1]
   rw[hL] at htake
   refine⟨by rw[rlv.flat_len,List.length_map],.inr ⟨g,off+2,cap - 1,cur,rfl,hb,hg,by omega,by unfold maxLen;omega,by omega,?_⟩⟩
   have e2:=congrArg (List.drop 2) htake
   rw[List.drop_take,List.drop_drop,show (ps.length+1) * 2 - 2=ps.length * 2 by omega] at e2
   rw[e2]
   rfl
theorem deep_head {w:World}{base:Nat}{v:Value}{x:RP}{ps:List RP}(h:Deep w base v (x::ps)):∃g off cap,v=.slice (some ⟨g,off,none⟩) (ps.length+1) cap∧w.cell? ⟨g,off,none⟩=some (.int .i64 x.1.price)∧w.cell? ⟨g,off+1,none⟩=some (.slice x.1.q x.1.n x.1.c)∧(∀o,w.frozen? ⟨g,o,none⟩=false)∧base≤g∧g < w.heap.size:=by
 have ho:=h.own
 rw[List.append_nil,List.map_cons] at ho
 rcases ho.2 with ⟨e,hn⟩|⟨g,off,cap,cur,e,hb,hg,hnc,hcm,hcs,htake⟩
 ·simp at hn
 ·subst e
  obtain⟨-,c0,c1,hf,hb1,hb2⟩:=ownr_at (a:=[]) ho
  exact⟨g,off,cap,by simp,by simpa using c0,by simpa using c1,hf,hb1,hb2⟩
set_option maxRecDepth 100000 in
set_option maxHeartbeats 1000000 in
theorem trade_buy (a b d p q s t:Int) (f1 f2 f3 x:Int) (w:World) :
  Calls Tryz.prog 103 #[.agg #[.int .i64 a,.int .i64 b,.int .i64 1,.int .i64 d,.int .i64 p,.int .i64 q,.int .i64 s,.int .i64 t],.agg #[.int .i64 f1,.int .i64 f2,.int .i64 f3],.int .i64 x] w fun e w'=>e=.returned (.agg #[.int .i64 f1,.int .i64 a,.int .i64 f2,.int .i64 b,.int .i64 x,.int .i64 f3])∧Below w.heap.size w w':=by
 go_enter Tryz.func103,Tryz.ntmps103
 go_wp2_with fail
 go_region
 go_wp2_with fail
 go_returns
 exact⟨rfl,(bal (bal (bal (bal (bzR _ _) _) _) _) _).drew⟩
set_option maxRecDepth 100000 in
set_option maxHeartbeats 1000000 in
theorem trade_sell (a b c d p q s t:Int) (f1 f2 f3 x:Int) (w:World) (hc:¬c=1) :
  Calls Tryz.prog 103 #[.agg #[.int .i64 a,.int .i64 b,.int .i64 c,.int .i64 d,.int .i64 p,.int .i64 q,.int .i64 s,.int .i64 t],.agg #[.int .i64 f1,.int .i64 f2,.int .i64 f3],.int .i64 x] w fun e w'=>e=.returned (.agg #[.int .i64 f1,.int .i64 a,.int .i64 b,.int .i64 f2,.int .i64 x,.int .i64 f3])∧Below w.heap.size w w':=by
 have hc1:(c == 1)=false:=by simp[hc]
 go_enter Tryz.func103,Tryz.ntmps103
 go_wp2_with fail
 go_returns
 exact⟨rfl,bal (bal (bal (bal (bzR _ _) _) _) _) _⟩
end Go.Proofs.YtnjpjieedgmffaaGreatDoor.mee
namespace Go.Proofs.YtnjpjieedgmffaaGreatDoor.que
open Go.RowKit spn
def LiesF (w:World) (b o:Nat) (fs:List F):Prop:=∀j,j < fs.length→∀i v,(fV fs[j]!)[i]?=some v→w.cell? ⟨b,o+j * 3+i,none⟩=some v
def SF (w:World) (v:Value) (fs:List F):Prop:=
 (v=.slice none 0 0∧fs=[])∨∃b o c,v=.slice (some ⟨b,o,none⟩) fs.length c∧fs.length≤9223372036854775807∧b < w.heap.size∧LiesF w b o fs
theorem LiesF.below {w w' : World}{b o:Nat}{fs:List F}(h:LiesF w b o fs) (hb:b < w.heap.size) (hB:Below w.heap.size w w'):LiesF w' b o fs:=
 fun j hj i v hv=>(hB.cell (p:=⟨b,o+j * 3+i,none⟩) hb).trans (h j hj i v hv)
theorem SF.below {w w' : World}{v:Value}{fs:List F}(h:SF w v fs) (hB:Below w.heap.size w w'):SF w' v fs:=by
 rcases h with h|⟨b,o,c,h1,h2,h3,h4⟩
 ·exact .inl h
 ·exact .inr ⟨b,o,c,h1,h2,Nat.lt_of_lt_of_le h3 hB.size,h4.below h3 hB⟩
theorem flatF_get (fs:List F):∀j,j < fs.length→∀i,i < 3→(flatF fs)[j * 3+i]?=(fV fs[j]!)[i]?:=by
 induction fs with
 | nil=>intro j hj;simp at hj
 | cons r t ih=>
  intro j hj i hi
  have e:flatF (r::t)=fV r++flatF t:=rfl
  rw[e]
  cases j with
  | zero=>rw[Nat.zero_mul,Nat.zero_add,List.getElem?_append_left (by show i < 3;exact hi)];rfl
  | succ j=>
   rw[List.getElem?_append_right (by show 3≤_;omega)]
   have:(j+1) * 3+i - (fV r).length=j * 3+i:=by show (j+1) * 3+i - 3=_;omega
   rw[this,ih j (by simpa using hj) i hi]
   rfl
theorem OwnF.sf {w:World}{base:Nat}{v:Value}{fs:List F}(h:OwnF w base v fs):SF w v fs:=by
 rcases h.2 with ⟨rfl,hn⟩|⟨g,off,cap,cur,rfl,hb,hg,hnc,hcm,hcs,htake⟩
 ·exact .inl ⟨rfl,List.eq_nil_of_length_eq_zero hn⟩
 ·have hcm2:cap≤9223372036854775807:=by simpa [maxLen] using hcm
  refine .inr ⟨g,off,cap,rfl,by omega,(gzE.1 hg).1,?_⟩
  intro j hj i u hu
  have hi:i < 3:=(List.getElem?_eq_some_iff.1 hu).1
  rw[←flatF_get fs j hj i hi] at hu
  rw[Nat.add_assoc,cell_of_row w g (off+(j * 3+i)) cur _ (0,0) hg]
  rw[←htake,List.getElem?_take] at hu
  split at hu
  ·rw[List.getElem?_drop] at hu;simpa using hu
  ·cases hu
theorem liesF_at {w:World}{b o k:Nat}{fs:List F}(h:LiesF w b o fs) (hk:k < fs.length) {r1 r2 r3:Int}(he:fs[k]! = ⟨r1,r2,r3⟩) :
  w.cell? ⟨b,o+k * 3,none⟩=some (.int .i64 r1)∧w.cell? ⟨b,o+k * 3+1,none⟩=some (.int .i64 r2)∧w.cell? ⟨b,o+k * 3+2,none⟩=some (.int .i64 r3):=by
 have hh:=h k hk
 rw[he] at hh
 exact⟨hh 0 _ rfl,hh 1 _ rfl,hh 2 _ rfl⟩
end Go.Proofs.YtnjpjieedgmffaaGreatDoor.que
