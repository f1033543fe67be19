import Derived.Test.YtnjpjieedgmffaaGreatDoorQueRest
namespace Go.Proofs.YtnjpjieedgmffaaGreatDoor.que
open Go.RowKit spn
def Lies (w:World) (b o:Nat) (zs:List R):Prop:=∀j,j < zs.length→∀i v,(rV zs[j]!)[i]?=some v→w.cell? ⟨b,o+j * 5+i,none⟩=some v
def SL (w:World) (v:Value) (zs:List R):Prop:=
 (v=.slice none 0 0∧zs=[])∨∃b o c,v=.slice (some ⟨b,o,none⟩) zs.length c∧zs.length≤c∧c≤9223372036854775807∧b < w.heap.size∧Lies w b o zs
theorem Lies.below {w w' : World}{b o:Nat}{zs:List R}(h:Lies w b o zs) (hb:b < w.heap.size) (hB:Below w.heap.size w w'):Lies w' b o zs:=
 fun j hj i v hv=>(hB.cell (p:=⟨b,o+j * 5+i,none⟩) hb).trans (h j hj i v hv)
theorem SL.below {w w' : World}{v:Value}{zs:List R}(h:SL w v zs) (hB:Below w.heap.size w w'):SL w' v zs:=by
 rcases h with h|⟨b,o,c,h1,h2,h3,h4,h5⟩
 ·exact .inl h
 ·exact .inr ⟨b,o,c,h1,h2,h3,Nat.lt_of_lt_of_le h4 hB.size,h5.below h4 hB⟩
theorem getE {α:Type} [Inhabited α] (l:List α) (j:Nat) (h:j < l.length):l[j]! = l[j]:=by simp[h]
theorem Lies.take {w:World}{b o:Nat}{zs:List R}(h:Lies w b o zs) (n:Nat):Lies w b o (zs.take n):=by
 intro j hj i v hv
 have hj2:j < n∧j < zs.length:=by rw[List.length_take] at hj;omega
 have e:(zs.take n)[j]! = zs[j]!:=by
  rw[getE _ _ hj,getE _ _ hj2.2,List.getElem_take]
 rw[e] at hv
 exact h j hj2.2 i v hv
theorem idxFrom (id:Int) (x:R) (zs:List R):∀i,Lib.idxByFrom (fun _ y=>decide (y.id=id)) x zs i=if idx id zs < 0 then -1 else (i:Int)+idx id zs:=by
 induction zs with
 | nil=>intro i;rfl
 | cons r t ih=>
  intro i
  have:=idx_ge id t
  show (if decide (r.id=id)=true then (i:Int) else Lib.idxByFrom (fun _ y=>decide (y.id=id)) x t (i+1))=_
  rw[ih,idx_cons]
  by_cases h:r.id=id
  ·rw[if_pos (decide_eq_true h),if_pos h,if_neg (by omega),Int.add_zero]
  ·rw[if_neg (by simpa using h),if_neg h]
   by_cases h2:idx id t < 0
   ·rw[if_pos h2,if_pos h2,if_pos (by omega)]
   ·rw[if_neg h2,if_neg h2,if_neg (by omega)];omega
theorem idxBy_is (id:Int) (x:R) (zs:List R):Lib.idxBy (fun _ y=>decide (y.id=id)) zs x=idx id zs:=by
 have:=idx_ge id zs
 unfold Lib.idxBy
 rw[idxFrom]
 split <;> omega
theorem find_pred (id:Int) (B:Nat) (w:World) (hB:B < w.heap.size) (hc:w.cell? ⟨B,0,none⟩=some (.int .i64 id)) :
  PredBelow Tryz.prog 124 #[.pointer (some ⟨B,0,none⟩)] (fun x=>.agg (rV x).toArray) (fun x=>decide (x.id=id)) w:=by
 intro W x hb
 obtain⟨a,b,c,d,e⟩:=x
 show Calls Tryz.prog 124 #[.agg #[.int .i64 a,.int .i64 b,.int .i64 c,.int .i64 d,.int .i64 e],.pointer (some ⟨B,0,none⟩)] W _
 have hc2:=keeps hb hc
 have hz:B < W.heap.size:=Nat.lt_of_lt_of_le hB hb.size
 go_enter Tryz.func124,Tryz.ntmps124
 go_wp2
 go_ret
 exact⟨rfl,hb.alloc hb.size _⟩
theorem find_nil (id:Int) (w:World) :
  Calls Tryz.prog 120 #[.slice none 0 0,.int .i64 id] w fun e w'=>e=.returned (.int .i64 (-1))∧Below w.heap.size w w':=by
 have h0:∀ (B:Nat) (W:World),Calls Tryz.prog 67 #[.slice none 0 0,.func (.func 124) #[] #[.pointer (some ⟨B,0,none⟩)]] W fun e w'=>e=.returned (.int .i64 (-1))∧w'=W:=by
  intro B W
  go_enter Tryz.func67,Tryz.ntmps67
  go_wp2
  go_loopg [5,8] 0 (fun _ _ s8 wr=>s8=.int .i64 0∧wr=W)
  case atStart=>exact⟨rfl,rfl⟩
  case round=>
   obtain⟨rfl,rfl⟩:=hrel
   go_wp2
   go_ret
   exact⟨rfl,rfl⟩
 go_enter Tryz.func120,Tryz.ntmps120
 go_wp2_with (go_at_call 67;refine(h0 _ _).mono ?_;rintro e w' ⟨rfl,rfl⟩)
 go_ret
 exact⟨rfl,(bzR _ _).alloc (nzR _) _⟩
theorem find_some (id:Int) (b o c:Nat) (zs:List R) (w:World) (hb:b < w.heap.size) (hn:zs.length≤9223372036854775807) (hl:Lies w b o zs) :
  Calls Tryz.prog 120 #[.slice (some ⟨b,o,none⟩) zs.length c,.int .i64 id] w fun e w'=>e=.returned (.int .i64 (idx id zs))∧Below w.heap.size w w':=by
 have eg:∀args w,(callFunc 124 args).run Tryz.prog w=.ok (.enter 124 args) w:=enters_of Tryz.func124 (by kernel_rfl) rfl
 have hB:Below w.heap.size w (w.alloc (.cells #[.int .i64 id] 3)):=(bzR _ _).alloc (nzR _) _
 have hcon:=AnyQ.slices_IndexFunc Tryz.lq6 5 Tryz.isAgg55 Tryz.sizeOf55 rV (fun x=>rfl) (fun x=>decide (x.id=id)) 124 #[.pointer (some ⟨w.heap.size,0,none⟩)] eg b o zs.length c zs
  (w.alloc (.cells #[.int .i64 id] 3)) (find_pred id w.heap.size _ (by simp) (by simp[go_sem])) (nzR _) hn (by simp;omega) (hl.below hb hB)
 change Calls Tryz.prog 67 _ _ _ at hcon
 rw[List.take_length,idxBy_is] at hcon
 generalize idx id zs=k at *
 clear hl
 generalize zs.length=n at *
 go_enter Tryz.func120,Tryz.ntmps120
 go_wp2_with (go_at_call 67;refine hcon.mono ?_;rintro e w' ⟨rfl,hb'⟩)
 go_ret
 exact⟨rfl,hB.trans (hb'.mono (by simp))⟩
theorem find_any (id:Int) (v:Value) (zs:List R) (w:World) (h:SL w v zs) :
  Calls Tryz.prog 120 #[v,.int .i64 id] w fun e w'=>e=.returned (.int .i64 (idx id zs))∧Below w.heap.size w w':=by
 rcases h with ⟨rfl,rfl⟩|⟨b,o,c,rfl,h2,h3,h4,h5⟩
 ·exact find_nil id w
 ·exact find_some id b o c zs w h4 (by omega) h5
theorem behind_any (v:Value) (zs:List R) (a b c d e:Int) (w:World) (h:SL w v zs) :
  Calls Tryz.prog 107 #[v,.agg #[.int .i64 a,.int .i64 b,.int .i64 c,.int .i64 d,.int .i64 e]] w fun x w'=>x=.returned (errV (bchk zs ⟨a,b,c,d,e⟩))∧Below w.heap.size w w':=by
 have hr:=rest_any a b c d e
 have e1:bchk zs ⟨a,b,c,d,e⟩=if rchk ⟨a,b,c,d,e⟩=0 then (if 0≤idx a zs then 7 else 0) else rchk ⟨a,b,c,d,e⟩:=by
  unfold bchk
  rw[has_idx]
  simp only[decide_eq_true_eq]
 rw[e1]
 clear e1
 generalize rchk ⟨a,b,c,d,e⟩=k at *
 have HF:=fun W hW=>find_any a v zs W hW
 have H:Hid (∀W,SL W v zs→Calls Tryz.prog 120 #[v,.int .i64 a] W fun e w'=>e=.returned (.int .i64 (idx a zs))∧Below W.heap.size W w'):=HF
 clear HF
 have HS:Hid (SL w v zs):=h
 clear h
 generalize idx a zs=m at *
 by_cases hk:k=0
 ·subst hk
  rw[if_pos rfl]
  rw[errV_zero] at hr
  by_cases hm:0≤m
  ·rw[if_pos hm]
   go_enter Tryz.func107,Tryz.ntmps107
   go_wp2_with fail
   refine(hr _).mono ?_
   rintro x w1 ⟨rfl,hb1⟩
   have hB:Below w.heap.size w w1:=((bzR _ _).alloc (nzR _) _).trans (hb1.mono (by simp))
   obtain⟨hc1,hf1⟩:=bcell hb1
   clear hr
   go_wp2_with fail
   refine(H.out _ (HS.out.below hB)).mono ?_
   rintro x w2 ⟨rfl,hb2⟩
   clear hc1 hf1
   go_wp2_with fail
   go_ret
   exact⟨rfl,hB.trans (hb2.mono hB.size)⟩
  ·rw[if_neg hm]
   go_enter Tryz.func107,Tryz.ntmps107
   go_wp2_with fail
   refine(hr _).mono ?_
   rintro x w1 ⟨rfl,hb1⟩
   have hB:Below w.heap.size w w1:=((bzR _ _).alloc (nzR _) _).trans (hb1.mono (by simp))
   obtain⟨hc1,hf1⟩:=bcell hb1
   clear hr
   go_wp2_with fail
   refine(H.out _ (HS.out.below hB)).mono ?_
   rintro x w2 ⟨rfl,hb2⟩
   clear hc1 hf1
   go_wp2_with fail
   go_ret
   exact⟨rfl,hB.trans (hb2.mono hB.size)⟩
 ·rw[if_neg hk]
  rw[errV_of hk] at hr ⊢
  go_enter Tryz.func107,Tryz.ntmps107
  go_wp2_with fail
  refine(hr _).mono ?_
  rintro x w1 ⟨rfl,hb1⟩
  have hB:Below w.heap.size w w1:=((bzR _ _).alloc (nzR _) _).trans (hb1.mono (by simp))
  clear hr
  go_wp2_with fail
  go_ret
  exact⟨rfl,hB⟩
end Go.Proofs.YtnjpjieedgmffaaGreatDoor.que
namespace Go.Proofs.YtnjpjieedgmffaaGreatDoor.que
open Go.RowKit spn
theorem lies_at {w:World}{b o k:Nat}{zs:List R}(h:Lies w b o zs) (hk:k < zs.length) {r1 r2 r3 r4 r5:Int}(he:zs[k]! = ⟨r1,r2,r3,r4,r5⟩) :
  w.cell? ⟨b,o+k * 5,none⟩=some (.int .i64 r1)∧w.cell? ⟨b,o+k * 5+1,none⟩=some (.int .i64 r2)∧w.cell? ⟨b,o+k * 5+2,none⟩=some (.int .i64 r3)∧w.cell? ⟨b,o+k * 5+3,none⟩=some (.int .i64 r4)∧w.cell? ⟨b,o+k * 5+4,none⟩=some (.int .i64 r5):=by
 have hh:=h k hk
 rw[he] at hh
 exact⟨hh 0 _ rfl,hh 1 _ rfl,hh 2 _ rfl,hh 3 _ rfl,hh 4 _ rfl⟩
theorem drop_at {zs:List R}{k:Nat}(hk:k < zs.length):zs.drop k=zs[k]!::zs.drop (k+1):=by
 rw[List.drop_eq_getElem_cons hk,getE _ _ hk]
theorem take_at {zs:List R}{k:Nat}(hk:k < zs.length):zs.take (k+1)=zs.take k++[zs[k]!]:=by
 rw[List.take_succ_eq_append_getElem hk,getE _ _ hk]
theorem sl_take {w:World}{b o c k:Nat}{zs:List R}(hk:k≤zs.length) (hc:zs.length≤c) (hm:c≤9223372036854775807) (hb:b < w.heap.size) (h:Lies w b o zs):SL w (.slice (some ⟨b,o,none⟩) k c) (zs.take k):=by
 refine .inr ⟨b,o,c,?_,?_,hm,hb,h.take k⟩
 ·rw[List.length_take,Nat.min_eq_left hk]
 ·rw[List.length_take];omega
set_option maxRecDepth 100000 in
set_option maxHeartbeats 1000000 in
theorem qcheck_some (b o c:Nat) (zs:List R) (w:World) (hb:b < w.heap.size) (hc:zs.length≤c) (hm:c≤9223372036854775807) (hl:Lies w b o zs) :
  Calls Tryz.prog 92 #[.slice (some ⟨b,o,none⟩) zs.length c] w fun e w'=>e=.returned (errV (qchk zs))∧Below w.heap.size w w':=by
 by_cases h60:60 < zs.length
 ·have e:qchk zs=4:=by unfold qchk;rw[if_pos h60]
  rw[e]
  clear hl e
  generalize zs.length=n at *
  have h60' : (60:Int) < (n:Int):=by omega
  go_enter Tryz.func92,Tryz.ntmps92
  go_wp2
  go_ret
  exact⟨rfl,bzR _ _⟩
 ·have e:qchk zs=qgo [] zs:=by unfold qchk;rw[if_neg h60]
  rw[e]
  clear e
  generalize hQ:qgo [] zs=Q
  have HQ:Hid (qgo [] zs=Q):=hQ
  clear hQ
  have HL:Hid (Lies w b o zs):=hl
  clear hl
  generalize hn:zs.length=n at *
  have HN:Hid (zs.length=n):=hn
  clear hn
  have h60' : ¬(60:Int) < (n:Int):=by omega
  go_enter Tryz.func92,Tryz.ntmps92
  go_wp2_with fail
  go_loopg [3,4,5,12] n (fun gg _ _ _ s12 wr=>∃kk:Nat,kk≤n∧n - kk≤gg∧s12=.int .i64 kk∧Aside (Below w.heap.size w wr)∧Aside (qgo (zs.take kk) (zs.drop kk)=Q))
  case atStart=>exact⟨0,Nat.zero_le _,by omega,rfl,bzR _ w,HQ.out⟩
  case round=>
   obtain⟨kk,hkk,hg,rfl,BW,A⟩:=hrel
   by_cases hlt:kk < n
   ·have hltz:(kk:Int) < (n:Int):=by omega
    have hlz:kk < zs.length:=by rw[HN.out];exact hlt
    have LW:Hid (Lies wr b o zs):=HL.out.below hb BW.out
    obtain⟨r,hr⟩:∃r,zs[kk]! = r:=⟨_,rfl⟩
    obtain⟨r1,r2,r3,r4,r5⟩:=r
    obtain⟨c0,c1,c2,c3,c4⟩:=lies_at LW.out hlz hr
    have HR:Hid (zs[kk]! = ⟨r1,r2,r3,r4,r5⟩):=hr
    have hA:(if bchk (zs.take kk) ⟨r1,r2,r3,r4,r5⟩=0 then qgo (zs.take (kk+1)) (zs.drop (kk+1)) else bchk (zs.take kk) ⟨r1,r2,r3,r4,r5⟩)=Q:=by
     have h:=A.out
     rw[drop_at hlz,HR.out] at h
     rw[take_at hlz,HR.out]
     exact h
    have HA:Hid ((if bchk (zs.take kk) ⟨r1,r2,r3,r4,r5⟩=0 then qgo (zs.take (kk+1)) (zs.drop (kk+1)) else bchk (zs.take kk) ⟨r1,r2,r3,r4,r5⟩)=Q):=hA
    have hbw:b < wr.heap.size:=Nat.lt_of_lt_of_le hb BW.out.size
    have hin1:¬((kk:Int) < 0):=by omega
    have hkc:¬((c:Int) < (kk:Int)):=by omega
    have hkc2:(kk:Int)≤(c:Int):=by omega
    have hBH:=fun v W hW=>behind_any v (zs.take kk) r1 r2 r3 r4 r5 W hW
    have HB:Hid (∀v W,SL W v (zs.take kk)→Calls Tryz.prog 107 #[v,.agg #[.int .i64 r1,.int .i64 r2,.int .i64 r3,.int .i64 r4,.int .i64 r5]] W fun x w'=>x=.returned (errV (bchk (zs.take kk) ⟨r1,r2,r3,r4,r5⟩))∧Below W.heap.size W w'):=hBH
    clear hA hr hBH A
    generalize bchk (zs.take kk) ⟨r1,r2,r3,r4,r5⟩=k at HA HB
    go_upto_region 6 with fail
    have hV:Below w.heap.size w (wr.alloc (.cells #[.int .i64 r1,.int .i64 r2,.int .i64 r3,.int .i64 r4,.int .i64 r5] 55)):=BW.out.alloc BW.out.size _
    have hR:=heap_alloc_new wr (.cells #[.int .i64 r1,.int .i64 r2,.int .i64 r3,.int .i64 r4,.int .i64 r5] 55)
    have HSL:Hid (SL (wr.alloc (.cells #[.int .i64 r1,.int .i64 r2,.int .i64 r3,.int .i64 r4,.int .i64 r5] 55)) (.slice (some ⟨b,o,none⟩) kk c) (zs.take kk)):=(sl_take (by rw[HN.out];exact hkk) (by rw[HN.out];exact hc) hm hbw LW.out).below ((bzR _ _).alloc (nzR _) _)
    generalize wr.alloc (.cells #[.int .i64 r1,.int .i64 r2,.int .i64 r3,.int .i64 r4,.int .i64 r5] 55)=V at *
    generalize wr.heap.size=G at *
    have cel:∀i,V.cell? ⟨G,i,none⟩=(#[.int .i64 r1,.int .i64 r2,.int .i64 r3,.int .i64 r4,.int .i64 r5]:Array Value)[i]?:=fun i=>by simp[World.cell?,hR]
    have d0:=cel 0
    have d1:=cel 1
    have d2:=cel 2
    have d3:=cel 3
    have d4:=cel 4
    simp only[List.getElem?_toArray,List.getElem?_cons_zero,List.getElem?_cons_succ] at d0 d1 d2 d3 d4
    clear cel hR c0 c1 c2 c3 c4
    have SO:Hid (∀W,Below V.heap.size V W→(Below V.heap.size V W∧W.cell? ⟨G,0,none⟩=some (.int .i64 r1)∧W.cell? ⟨G,1,none⟩=some (.int .i64 r2)∧W.cell? ⟨G,2,none⟩=some (.int .i64 r3)∧W.cell? ⟨G,3,none⟩=some (.int .i64 r4)∧W.cell? ⟨G,4,none⟩=some (.int .i64 r5))):=fun W hW=>⟨hW,keeps hW d0,keeps hW d1,keeps hW d2,keeps hW d3,keeps hW d4⟩
    go_region_held3 (fun W=>Below V.heap.size V W∧W.cell? ⟨G,0,none⟩=some (.int .i64 r1)∧W.cell? ⟨G,1,none⟩=some (.int .i64 r2)∧W.cell? ⟨G,2,none⟩=some (.int .i64 r3)∧W.cell? ⟨G,3,none⟩=some (.int .i64 r4)∧W.cell? ⟨G,4,none⟩=some (.int .i64 r5))
     ((refine SO.out _ ?_;(repeat' (first|with_reducible assumption|with_reducible refine bal ?_ _|with_reducible refine Below.setCell ?_ ?_ _|with_reducible refine Below.drew ?_|with_reducible exact bzR _ _|with_reducible exact nzR _|with_reducible exact Below.size (by with_reducible assumption)|with_reducible refine Nat.le_succ_of_le ?_))))
     (first|(go_at_call 107;refine(HB.out _ _ ?_).mono ?_;exact HSL.out.below (bzR _ _).drew;rintro x W ⟨rfl,hbs⟩;have hbn:Below V.heap.size V W:=(bzR _ _).drew.trans hbs))
    have hW:Below w.heap.size w W:=hV.trans (hbn.mono hV.size)
    clear SO d0 d1 d2 d3 d4 hbs hbn hV HSL
    by_cases hk:k=0
    ·subst hk
     rw[if_pos rfl] at HA
     simp only[errV_zero]
     go_wp2_with fail
     go_roundg (n - (kk+1))
     case measure=>omega
     case rel=>exact⟨kk+1,by omega,by omega,by go_num,hW,HA.out⟩
    ·rw[if_neg hk] at HA
     simp only[errV_of hk]
     go_wp2_with fail
     go_ret
     exact⟨by rw[←HA.out,errV_of hk];rfl,hW⟩
   ·have hltz:¬(kk:Int) < (n:Int):=by omega
    have:kk=n:=by omega
    subst this
    go_wp2_with fail
    go_ret
    refine⟨?_,BW.out⟩
    have h:=A.out
    rw[List.drop_eq_nil_of_le (by rw[HN.out];exact nzR _)] at h
    rw[←h];rfl
theorem qcheck_nil (w:World) :
  Calls Tryz.prog 92 #[.slice none 0 0] w fun e w'=>e=.returned (errV (qchk []))∧Below w.heap.size w w':=by
 go_enter Tryz.func92,Tryz.ntmps92
 go_wp2_with fail
 go_loopg [3,4,5,12] 0 (fun _ _ _ _ s12 wr=>s12=.int .i64 0∧wr=w)
 case atStart=>exact⟨rfl,rfl⟩
 case round=>
  obtain⟨rfl,rfl⟩:=hrel
  go_wp2_with fail
  go_ret
  exact⟨rfl,bzR _ _⟩
theorem qcheck_any (v:Value) (zs:List R) (w:World) (h:SL w v zs) :
  Calls Tryz.prog 92 #[v] w fun e w'=>e=.returned (errV (qchk zs))∧Below w.heap.size w w':=by
 rcases h with ⟨rfl,rfl⟩|⟨b,o,c,rfl,h2,h3,h4,h5⟩
 ·exact qcheck_nil w
 ·exact qcheck_some b o c zs w h4 h2 h3 h5
theorem tot_take (zs:List R) (k:Nat) (hk:k < zs.length):tot (zs.take (k+1))=tot (zs.take k)+(zs[k]!.qty+zs[k]!.hid):=by
 rw[take_at hk,tot_append];simp only[tot];omega
set_option maxRecDepth 100000 in
set_option maxHeartbeats 1000000 in
theorem total_some (b o c:Nat) (zs:List R) (w:World) (hb:b < w.heap.size) (hc:zs.length≤c) (hm:c≤9223372036854775807) (hl:Lies w b o zs) (h0:qchk zs=0) :
  Calls Tryz.prog 70 #[.slice (some ⟨b,o,none⟩) zs.length c] w fun e w'=>e=.returned (.tuple #[.int .i64 (tot zs),.nilIface])∧Below w.heap.size w w':=by
 have hcon:=qcheck_some b o c zs w hb hc hm hl
 rw[h0,errV_zero] at hcon
 obtain⟨h60,hG⟩:=(qchk_zero zs).1 h0
 have HG:Hid (Good zs):=hG
 have HL:Hid (Lies w b o zs):=hl
 clear hl h0 hG
 generalize hT:tot zs=T
 have HT:Hid (tot zs=T):=hT
 clear hT
 generalize hn:zs.length=n at *
 have HN:Hid (zs.length=n):=hn
 clear hn
 go_enter Tryz.func70,Tryz.ntmps70
 go_wp2_with fail
 refine hcon.mono ?_
 rintro e w1 ⟨rfl,hb1⟩
 have HB1:Hid (Below w.heap.size w w1):=hb1
 clear hcon hb1
 go_wp2_with fail
 go_loopg [5,7,15] n (fun gg s5 _ s15 wr=>∃kk:Nat,kk≤n∧n - kk≤gg∧s15=.int .i64 kk∧s5=.int .i64 (tot (zs.take kk))∧Aside (Below w.heap.size w wr))
 case atStart=>exact⟨0,Nat.zero_le _,by omega,rfl,rfl,HB1.out⟩
 case round=>
  obtain⟨kk,hkk,hg,rfl,rfl,BW⟩:=hrel
  have hA:Hid (0≤tot (zs.take kk)∧tot (zs.take kk)≤20000 * (kk:Int)):=by
   have:=tot_le (zs.take kk) (fun r hr=>HG.out.1 r (List.mem_of_mem_take hr))
   rw[List.length_take,HN.out,Nat.min_eq_left hkk] at this
   exact this
  by_cases hlt:kk < n
  ·have hltz:(kk:Int) < (n:Int):=by omega
   have hlz:kk < zs.length:=by rw[HN.out];exact hlt
   have LW:Hid (Lies wr b o zs):=HL.out.below hb BW.out
   obtain⟨r,hr⟩:∃r,zs[kk]! = r:=⟨_,rfl⟩
   obtain⟨r1,r2,r3,r4,r5⟩:=r
   obtain⟨c0,c1,c2,c3,c4⟩:=lies_at LW.out hlz hr
   have hq:=rchk_zero (HG.out.1 zs[kk]! (by rw[getE _ _ hlz];exact List.getElem_mem hlz))
   rw[hr] at hq
   obtain⟨⟨q1,q2⟩,⟨q3,q4⟩,-⟩:=hq
   simp only[] at q1 q2 q3 q4
   have hTT:Hid (tot (zs.take (kk+1))=tot (zs.take kk)+(r3+r4)):=by
    have:=tot_take zs kk hlz
    rw[hr] at this
    exact this
   clear hr
   obtain⟨t1,t2⟩:=hA.out
   clear hA
   have hbw:b < wr.heap.size:=Nat.lt_of_lt_of_le hb BW.out.size
   have hin1:¬((kk:Int) < 0):=by omega
   have e1:wrap64 (r3+r4)=r3+r4:=by unfold wrap64;omega
   have e2:wrap64 (tot (zs.take kk)+(r3+r4))=tot (zs.take kk)+(r3+r4):=by unfold wrap64;omega
   go_wp2_with fail
   go_roundg (n - (kk+1))
   case measure=>omega
   case rel=>exact⟨kk+1,by omega,by omega,by go_num,by rw[hTT.out],BW.out.alloc BW.out.size _⟩
  ·have hltz:¬(kk:Int) < (n:Int):=by omega
   have hk:kk=n:=by omega
   subst hk
   have hT2:tot (zs.take kk)=T:=by rw[←HT.out,List.take_of_length_le (by rw[HN.out];exact nzR _)]
   rw[hT2]
   go_wp2_with fail
   go_ret2
   exact⟨rfl,BW.out⟩
end Go.Proofs.YtnjpjieedgmffaaGreatDoor.que
