import Derived.Test.YtifjhlgjgnnnpaaGreatFlrSwp
import Derived.Deep.MidRow
import Derived.Test.YtifjhlgjgnnnpaaGreatFlrSet
set_option maxHeartbeats 8000000
set_option maxRecDepth 100000
namespace Go.Proofs.YtifjhlgjgnnnpaaGreat
namespace flr
open Go.RowKit
open que (R rchk)
open sid (L DL LS)
open mee (T tV OwnT sumT)
open ord (O oV chk errV errV_zero errV_of prB)
open que (bal)
open bok (bookE inBook)
open wak (OwnM OwnQ St SL Lies oL idx Trn)
theorem row11{w:World}{B:Nat}{x0 x1 x2 x3 x4 x5 x6 x7 x8 x9 x10:Value}{t:TypeId}(h:w.heap[B]?=some (.cells #[x0,x1,x2,x3,x4,x5,x6,x7,x8,x9,x10] t (0,0))) :
  w.cell? ⟨B,0,none⟩=some x0∧w.cell? ⟨B,1,none⟩=some x1∧w.cell? ⟨B,2,none⟩=some x2∧w.cell? ⟨B,3,none⟩=some x3∧w.cell? ⟨B,4,none⟩=some x4∧w.cell? ⟨B,5,none⟩=some x5∧w.cell? ⟨B,6,none⟩=some x6∧w.cell? ⟨B,7,none⟩=some x7∧w.cell? ⟨B,8,none⟩=some x8∧w.cell? ⟨B,9,none⟩=some x9∧w.cell? ⟨B,10,none⟩=some x10:=
 ⟨by simp[World.cell?,h],by simp[World.cell?,h],by simp[World.cell?,h],by simp[World.cell?,h],by simp[World.cell?,h],by simp[World.cell?,h],by simp[World.cell?,h],by simp[World.cell?,h],by simp[World.cell?,h],by simp[World.cell?,h],by simp[World.cell?,h]⟩
theorem zNw{w0 w w' : World}{b t:Nat}{s:TS}{v:TV}{who n:Int}(h:TM w b t s v)(h0:Tn tA b w0 w)(hp:pur.Pu 110 9 w' v.pp (pur.payP s.ps who n))(hg:w.grownBy w' (some v.pp)):Res tA b t w0 (payS s who n) (.returned (errV (pur.payE s.ps who n))) w':=by
 unfold payS
 by_cases e:pur.payE s.ps who n=0
 ·rw[if_pos e,e];obtain⟨a1,a2⟩:=h.pay hp hg;exact⟨h0.trans a2,rfl,v,a1⟩
 ·rw[if_neg e,errV_of e];exact⟨h0.trans (h.pay hp hg).2,e,rfl⟩
theorem zKD{w0 w w' : World}{b t:Nat}{s:TS}{v:TV}{who n:Int}(h:TM w b t s v)(h0:Tn tA b w0 w)(hp:pur.Pu 110 9 w' v.pp (pur.giveP s.ps who n))(hg:w.grownBy w' (some v.pp)):Res tA b t w0 (giveS s who n) (.returned (errV (pur.giveE s.ps who n))) w':=by
 unfold giveS
 by_cases e:pur.giveE s.ps who n=0
 ·rw[if_pos e,e];obtain⟨a1,a2⟩:=h.pay hp hg;exact⟨h0.trans a2,rfl,v,a1⟩
 ·rw[if_neg e,errV_of e];exact⟨h0.trans (h.pay hp hg).2,e,rfl⟩
section
variable (b t:Nat)(s:TS)(v:TV)(a1 a2 a3 a4 a5 a6 a7 a8 who n:Int)(w:World)
theorem zNx(h:TM w b t s v)(hw:Wf s)(hl:s.evs.length≤900000)(hr:s.row.length≤800000)  :
  Calls Tryz.prog 28 #[.pointer (some ⟨t,0,none⟩),.agg #[.int .i64 1,.int .i64 a1,.int .i64 a2,.int .i64 a3,.int .i64 a4,.int .i64 a5,.int .i64 a6,.int .i64 a7,.int .i64 a8,.int .i64 who,.int .i64 n]] w (Res tB b t w (place s ⟨a1,a2,a3,a4,a5,a6,a7,a8⟩)):=by
 obtain⟨W,hW⟩:∃W,W=w.alloc (.cells #[.int .i64 1,.int .i64 a1,.int .i64 a2,.int .i64 a3,.int .i64 a4,.int .i64 a5,.int .i64 a6,.int .i64 a7,.int .i64 a8,.int .i64 who,.int .i64 n] 34):=⟨_,rfl⟩
 have hBW:Below w.heap.size w W:=by rw[hW];exact(bzR _ _).alloc (nzR _) _
 have hrow:W.heap[w.heap.size]?=some (.cells #[.int .i64 1,.int .i64 a1,.int .i64 a2,.int .i64 a3,.int .i64 a4,.int .i64 a5,.int .i64 a6,.int .i64 a7,.int .i64 a8,.int .i64 who,.int .i64 n] 34 (0,0)):=by rw[hW];exact heap_alloc_new w _
 obtain⟨G,hG⟩:∃G,G=w.heap.size:=⟨_,rfl⟩
 rw[←hG] at hrow
 have hMW:=h.below hBW
 have hTW:Tn tB b w W:=Tn.below hBW h.base
 obtain⟨c0,c1,c2,c3,c4,c5,c6,c7,c8,c9,c10⟩:=row11 hrow
 have HC:=hidF (zFd b t s v a1 a2 a3 a4 a5 a6 a7 a8 W hMW hw (by omega) (by omega))
 have HT:=hidF hTW
 clear h hw hl hr hBW hrow hMW hTW
 go_enter Tryz.func28,Tryz.ntmps28
 go_wp2_with fail
 rw[←hW]
 simp only[←hG]
 clear hW hG
 refine HC.out.mono ?_
 intro e w1 hR
 obtain⟨E,rfl,HRR⟩:=(hR.step HT.out (fun _ h=>h)).hidE
 clear hR c0 c1 c2 c3 c4 c5 c6 c7 c8 c9 c10
 go_wp2_with fail
 go_ret
 exact HRR.out
theorem zKE(h:TM w b t s v)(hw:Wf s)(hl:s.evs.length≤900000)(hid:(Lit.int .i64 a1).wf=true) :
  Calls Tryz.prog 28 #[.pointer (some ⟨t,0,none⟩),.agg #[.int .i64 2,.int .i64 a1,.int .i64 a2,.int .i64 a3,.int .i64 a4,.int .i64 a5,.int .i64 a6,.int .i64 a7,.int .i64 a8,.int .i64 who,.int .i64 n]] w (Res tB b t w (cancel s a1)):=by
 obtain⟨W,hW⟩:∃W,W=w.alloc (.cells #[.int .i64 2,.int .i64 a1,.int .i64 a2,.int .i64 a3,.int .i64 a4,.int .i64 a5,.int .i64 a6,.int .i64 a7,.int .i64 a8,.int .i64 who,.int .i64 n] 34):=⟨_,rfl⟩
 have hBW:Below w.heap.size w W:=by rw[hW];exact(bzR _ _).alloc (nzR _) _
 have hrow:W.heap[w.heap.size]?=some (.cells #[.int .i64 2,.int .i64 a1,.int .i64 a2,.int .i64 a3,.int .i64 a4,.int .i64 a5,.int .i64 a6,.int .i64 a7,.int .i64 a8,.int .i64 who,.int .i64 n] 34 (0,0)):=by rw[hW];exact heap_alloc_new w _
 obtain⟨G,hG⟩:∃G,G=w.heap.size:=⟨_,rfl⟩
 rw[←hG] at hrow
 have hMW:=h.below hBW
 have hTW:Tn tB b w W:=Tn.below hBW h.base
 obtain⟨c0,c1,c2,c3,c4,c5,c6,c7,c8,c9,c10⟩:=row11 hrow
 have HC:=hidF (zHY b t s v a1 W hMW hw (by omega) hid)
 have HT:=hidF hTW
 clear h hw hl  hBW hrow hMW hTW hid
 go_enter Tryz.func28,Tryz.ntmps28
 go_wp2_with fail
 rw[←hW]
 simp only[←hG]
 clear hW hG
 refine HC.out.mono ?_
 intro e w1 hR
 obtain⟨E,rfl,HRR⟩:=(hR.step HT.out (fun _ h=>h)).hidE
 clear hR c0 c1 c2 c3 c4 c5 c6 c7 c8 c9 c10
 go_wp2_with fail
 go_ret
 exact HRR.out
theorem do_swap(h:TM w b t s v)(hw:Wf s)(hl:s.evs.length≤900000)(hr:s.row.length≤800000)(hid:(Lit.int .i64 a1).wf=true) :
  Calls Tryz.prog 28 #[.pointer (some ⟨t,0,none⟩),.agg #[.int .i64 3,.int .i64 a1,.int .i64 a2,.int .i64 a3,.int .i64 a4,.int .i64 a5,.int .i64 a6,.int .i64 a7,.int .i64 a8,.int .i64 who,.int .i64 n]] w (Res tB b t w (swap s a1 a5 a6)):=by
 obtain⟨W,hW⟩:∃W,W=w.alloc (.cells #[.int .i64 3,.int .i64 a1,.int .i64 a2,.int .i64 a3,.int .i64 a4,.int .i64 a5,.int .i64 a6,.int .i64 a7,.int .i64 a8,.int .i64 who,.int .i64 n] 34):=⟨_,rfl⟩
 have hBW:Below w.heap.size w W:=by rw[hW];exact(bzR _ _).alloc (nzR _) _
 have hrow:W.heap[w.heap.size]?=some (.cells #[.int .i64 3,.int .i64 a1,.int .i64 a2,.int .i64 a3,.int .i64 a4,.int .i64 a5,.int .i64 a6,.int .i64 a7,.int .i64 a8,.int .i64 who,.int .i64 n] 34 (0,0)):=by rw[hW];exact heap_alloc_new w _
 obtain⟨G,hG⟩:∃G,G=w.heap.size:=⟨_,rfl⟩
 rw[←hG] at hrow
 have hMW:=h.below hBW
 have hTW:Tn tB b w W:=Tn.below hBW h.base
 obtain⟨c0,c1,c2,c3,c4,c5,c6,c7,c8,c9,c10⟩:=row11 hrow
 have HC:=hidF (zNv b t s v a1 a5 a6 W hMW hw (by omega) (by omega) hid)
 have HT:=hidF hTW
 clear h hw hl hr hBW hrow hMW hTW hid
 go_enter Tryz.func28,Tryz.ntmps28
 go_wp2_with fail
 rw[←hW]
 simp only[←hG]
 clear hW hG
 refine HC.out.mono ?_
 intro e w1 hR
 obtain⟨E,rfl,HRR⟩:=(hR.step HT.out (fun _ h=>h)).hidE
 clear hR c0 c1 c2 c3 c4 c5 c6 c7 c8 c9 c10
 go_wp2_with fail
 go_ret
 exact HRR.out
theorem do_pay(h:TM w b t s v)(hw:Wf s) :
  Calls Tryz.prog 28 #[.pointer (some ⟨t,0,none⟩),.agg #[.int .i64 4,.int .i64 a1,.int .i64 a2,.int .i64 a3,.int .i64 a4,.int .i64 a5,.int .i64 a6,.int .i64 a7,.int .i64 a8,.int .i64 who,.int .i64 n]] w (Res tB b t w (payS s who n)):=by
 obtain⟨W,hW⟩:∃W,W=w.alloc (.cells #[.int .i64 4,.int .i64 a1,.int .i64 a2,.int .i64 a3,.int .i64 a4,.int .i64 a5,.int .i64 a6,.int .i64 a7,.int .i64 a8,.int .i64 who,.int .i64 n] 34):=⟨_,rfl⟩
 have hBW:Below w.heap.size w W:=by rw[hW];exact(bzR _ _).alloc (nzR _) _
 have hrow:W.heap[w.heap.size]?=some (.cells #[.int .i64 4,.int .i64 a1,.int .i64 a2,.int .i64 a3,.int .i64 a4,.int .i64 a5,.int .i64 a6,.int .i64 a7,.int .i64 a8,.int .i64 who,.int .i64 n] 34 (0,0)):=by rw[hW];exact heap_alloc_new w _
 obtain⟨G,hG⟩:∃G,G=w.heap.size:=⟨_,rfl⟩
 rw[←hG] at hrow
 have hMW:=h.below hBW
 have hTW:Tn tB b w W:=Tn.below hBW h.base
 obtain⟨c0,c1,c2,c3,c4,c5,c6,c7,c8,c9,c10⟩:=row11 hrow
 have HC:Hid (∀U,Below W.heap.size W U→Calls Tryz.prog 52 #[.pointer (some ⟨v.pp,0,none⟩),.int .i64 who,.int .i64 n] U fun e w'=>∃E,e=.returned E∧Hid (Res tB b t w (payS s who n) (.returned E) w')):=fun U hU=>by
  have hwU:=hBW.trans (hU.mono hBW.size)
  have hMU:=h.below hwU
  refine(pur.pay_any v.pp s.ps who n U hMU.purs hw.ok).mono ?_
  rintro e w'⟨rfl,k3,k4⟩
  exact((zNw hMU (Tn.below (S:=tA) hwU h.base) k3 k4).step (Tn.refl tB b w) tA_tB).hidE
 obtain⟨-,-,-,-,y4,-⟩:=hMW.cells
 have HRF:=hidF (bzR W.heap.size W)
 obtain⟨r1,r2,r3,r4,r5,r6,r7,r8,upp,qe,ne,ce,qk,nk,ck⟩:=v
 simp only[] at y4
 generalize payS s who n=X at *
 clear h hw hBW hrow hMW hTW
 go_enter Tryz.func28,Tryz.ntmps28
 go_upto_region 9 with fail
 rw[←hW]
 simp only[←hG]
 clear hW hG
 go_region_with (go_at_call 52;with_reducible refine(HC.out _ ?_).mono ?_;(with_reducible repeat' (first|exact HRF.out|assumption|refine Below.drew ?_));rintro x w2 ⟨E,rfl,HRR⟩)
 all_goals
  clear y4 c0 c1 c2 c3 c4 c5 c6 c7 c8 c9 c10
  go_wp2_with fail
  go_ret
  exact HRR.out
theorem do_give(h:TM w b t s v)(hw:Wf s) :
  Calls Tryz.prog 28 #[.pointer (some ⟨t,0,none⟩),.agg #[.int .i64 5,.int .i64 a1,.int .i64 a2,.int .i64 a3,.int .i64 a4,.int .i64 a5,.int .i64 a6,.int .i64 a7,.int .i64 a8,.int .i64 who,.int .i64 n]] w (Res tB b t w (giveS s who n)):=by
 obtain⟨W,hW⟩:∃W,W=w.alloc (.cells #[.int .i64 5,.int .i64 a1,.int .i64 a2,.int .i64 a3,.int .i64 a4,.int .i64 a5,.int .i64 a6,.int .i64 a7,.int .i64 a8,.int .i64 who,.int .i64 n] 34):=⟨_,rfl⟩
 have hBW:Below w.heap.size w W:=by rw[hW];exact(bzR _ _).alloc (nzR _) _
 have hrow:W.heap[w.heap.size]?=some (.cells #[.int .i64 5,.int .i64 a1,.int .i64 a2,.int .i64 a3,.int .i64 a4,.int .i64 a5,.int .i64 a6,.int .i64 a7,.int .i64 a8,.int .i64 who,.int .i64 n] 34 (0,0)):=by rw[hW];exact heap_alloc_new w _
 obtain⟨G,hG⟩:∃G,G=w.heap.size:=⟨_,rfl⟩
 rw[←hG] at hrow
 have hMW:=h.below hBW
 have hTW:Tn tB b w W:=Tn.below hBW h.base
 obtain⟨c0,c1,c2,c3,c4,c5,c6,c7,c8,c9,c10⟩:=row11 hrow
 have HC:Hid (∀U,Below W.heap.size W U→Calls Tryz.prog 53 #[.pointer (some ⟨v.pp,0,none⟩),.int .i64 who,.int .i64 n] U fun e w'=>∃E,e=.returned E∧Hid (Res tB b t w (giveS s who n) (.returned E) w')):=fun U hU=>by
  have hwU:=hBW.trans (hU.mono hBW.size)
  have hMU:=h.below hwU
  refine(pur.zNb v.pp s.ps who n U hMU.purs hw.ok).mono ?_
  rintro e w'⟨rfl,k3,k4⟩
  exact((zKD hMU (Tn.below (S:=tA) hwU h.base) k3 k4).step (Tn.refl tB b w) tA_tB).hidE
 obtain⟨-,-,-,-,y4,-⟩:=hMW.cells
 have HRF:=hidF (bzR W.heap.size W)
 obtain⟨r1,r2,r3,r4,r5,r6,r7,r8,upp,qe,ne,ce,qk,nk,ck⟩:=v
 simp only[] at y4
 generalize giveS s who n=X at *
 clear h hw hBW hrow hMW hTW
 go_enter Tryz.func28,Tryz.ntmps28
 go_upto_region 11 with fail
 rw[←hW]
 simp only[←hG]
 clear hW hG
 go_region_with (go_at_call 53;with_reducible refine(HC.out _ ?_).mono ?_;(with_reducible repeat' (first|exact HRF.out|assumption|refine Below.drew ?_));rintro x w2 ⟨E,rfl,HRR⟩)
 all_goals
  clear y4 c0 c1 c2 c3 c4 c5 c6 c7 c8 c9 c10
  go_wp2_with fail
  go_ret
  exact HRR.out
theorem do_none(what:Int)(h:TM w b t s v)(h1:¬what=1)(h2:¬what=2)(h3:¬what=3)(h4:¬what=4)(h5:¬what=5) :
  Calls Tryz.prog 28 #[.pointer (some ⟨t,0,none⟩),.agg #[.int .i64 what,.int .i64 a1,.int .i64 a2,.int .i64 a3,.int .i64 a4,.int .i64 a5,.int .i64 a6,.int .i64 a7,.int .i64 a8,.int .i64 who,.int .i64 n]] w (Res tB b t w (.error 1)):=by
 obtain⟨W,hW⟩:∃W,W=w.alloc (.cells #[.int .i64 what,.int .i64 a1,.int .i64 a2,.int .i64 a3,.int .i64 a4,.int .i64 a5,.int .i64 a6,.int .i64 a7,.int .i64 a8,.int .i64 who,.int .i64 n] 34):=⟨_,rfl⟩
 have hBW:Below w.heap.size w W:=by rw[hW];exact(bzR _ _).alloc (nzR _) _
 have hrow:W.heap[w.heap.size]?=some (.cells #[.int .i64 what,.int .i64 a1,.int .i64 a2,.int .i64 a3,.int .i64 a4,.int .i64 a5,.int .i64 a6,.int .i64 a7,.int .i64 a8,.int .i64 who,.int .i64 n] 34 (0,0)):=by rw[hW];exact heap_alloc_new w _
 obtain⟨G,hG⟩:∃G,G=w.heap.size:=⟨_,rfl⟩
 rw[←hG] at hrow
 have hMW:=h.below hBW
 have hTW:Tn tB b w W:=Tn.below hBW h.base
 obtain⟨c0,c1,c2,c3,c4,c5,c6,c7,c8,c9,c10⟩:=row11 hrow
 have HRR:Hid (Res tB b t w (.error 1) (.returned (.iface 91 (.int .i64 1))) W):=zAn rfl (by decide) hTW
 have e1:(what == 1)=false:=by simp[h1]
 have e2:(what == 2)=false:=by simp[h2]
 have e3:(what == 3)=false:=by simp[h3]
 have e4:(what == 4)=false:=by simp[h4]
 have e5:(what == 5)=false:=by simp[h5]
 clear h hBW hrow hMW hTW
 go_enter Tryz.func28,Tryz.ntmps28
 go_wp2_with fail
 rw[←hW]
 go_ret
 exact HRR.out
theorem do_any(what:Int)(h:TM w b t s v)(hw:Wf s)(hl:s.evs.length≤900000)(hr:s.row.length≤800000)(hid:(Lit.int .i64 a1).wf=true) :
  Calls Tryz.prog 28 #[.pointer (some ⟨t,0,none⟩),.agg #[.int .i64 what,.int .i64 a1,.int .i64 a2,.int .i64 a3,.int .i64 a4,.int .i64 a5,.int .i64 a6,.int .i64 a7,.int .i64 a8,.int .i64 who,.int .i64 n]] w (Res tB b t w (doC s ⟨what,⟨a1,a2,a3,a4,a5,a6,a7,a8⟩,who,n⟩)):=by
 unfold doC
 simp only[]
 by_cases h1:what=1
 ·subst h1;rw[if_pos rfl];exact zNx b t s v a1 a2 a3 a4 a5 a6 a7 a8 who n w h hw hl hr
 rw[if_neg h1]
 by_cases h2:what=2
 ·subst h2;rw[if_pos rfl];exact zKE b t s v a1 a2 a3 a4 a5 a6 a7 a8 who n w h hw hl hid
 rw[if_neg h2]
 by_cases h3:what=3
 ·subst h3;rw[if_pos rfl];exact do_swap b t s v a1 a2 a3 a4 a5 a6 a7 a8 who n w h hw hl hr hid
 rw[if_neg h3]
 by_cases h4:what=4
 ·subst h4;rw[if_pos rfl];exact do_pay b t s v a1 a2 a3 a4 a5 a6 a7 a8 who n w h hw
 rw[if_neg h4]
 by_cases h5:what=5
 ·subst h5;rw[if_pos rfl];exact do_give b t s v a1 a2 a3 a4 a5 a6 a7 a8 who n w h hw
 rw[if_neg h5]
 exact do_none b t s v a1 a2 a3 a4 a5 a6 a7 a8 who n w what h h1 h2 h3 h4 h5
end
end flr
namespace flr
open Go.RowKit
open que (R rchk)
open sid (L DL LS)
open mee (T tV OwnT sumT)
open ord (O oV chk errV errV_zero errV_of prB)
open que (bal)
open bok (bookE inBook)
open wak (OwnM OwnQ St SL Lies oL idx Trn own_range own_of)
def offK(off cap:Nat):Nat:=if cap=1 then off else off+9
theorem zKF{w:World}{base g off m cap:Nat}{x:Sl}{tl:List Sl}(h:OwnM w base 115 9 (.slice (some ⟨g,off,none⟩) (m+1) cap) (m+1) (flatK (x::tl)))(hm:m=tl.length):OwnM w base 115 9 (.slice (some ⟨g,offK off cap,none⟩) m (cap - 1)) m (flatK tl):=by
 obtain⟨h1,h2,⟨cur,h3,h3'⟩,h4,h5,h6,h7⟩:=own_range h
 rw[zDr] at h1 h6
 have hx:(slL x).length=9:=rfl
 rw[List.length_append,hx] at h1
 refine own_of (by omega) h2 h3 (by unfold offK;split <;>omega) (by omega) (by omega) fun j u hu=>?_
 have hj:j<(flatK tl).length:=(List.getElem?_eq_some_iff.1 hu).1
 have e:offK off cap+j=off+(9+j):=by unfold offK;rw[if_neg (by omega)];omega
 rw[e]
 refine h6 (9+j) u ?_
 rw[List.getElem?_append_right (by rw[hx];omega),hx,show 9+j - 9=j by omega]
 exact hu
theorem zIf{w:World}{base:Nat}{q:Option Addr}{m cap:Nat}{x:Sl}{tl:List Sl}(h:OwnM w base 115 9 (.slice q (m+1) cap) (m+1) (flatK (x::tl))):∃g off,q=some ⟨g,off,none⟩∧g<w.heap.size∧m+1≤cap∧cap≤9223372036854775807∧(∀i u,(slL x)[i]?=some u→w.cell? ⟨g,off+i,none⟩=some u):=by
 rcases h.2 with ⟨e,hn⟩|⟨g,off,cap',cur,e,_⟩
 ·omega
 ·cases e
  obtain⟨h1,h2,⟨cur',h3,h3'⟩,h4,h5,h6,h7⟩:=own_range h
  refine⟨g,off,rfl,(gzE.1 h3).1,h4,by simpa [maxLen] using h5,fun i u hu=>h6 i u ?_⟩
  rw[zDr,List.getElem?_append_left (List.getElem?_eq_some_iff.1 hu).1]
  exact hu
theorem row9{w:World}{B:Nat}{x0 x1 x2 x3 x4 x5 x6 x7 x8:Value}{t:TypeId}(h:w.heap[B]?=some (.cells #[x0,x1,x2,x3,x4,x5,x6,x7,x8] t (0,0))) :
  w.cell? ⟨B,0,none⟩=some x0∧w.cell? ⟨B,1,none⟩=some x1∧w.cell? ⟨B,2,none⟩=some x2∧w.cell? ⟨B,3,none⟩=some x3∧w.cell? ⟨B,4,none⟩=some x4∧w.cell? ⟨B,5,none⟩=some x5∧w.cell? ⟨B,6,none⟩=some x6∧w.cell? ⟨B,7,none⟩=some x7∧w.cell? ⟨B,8,none⟩=some x8:=
 ⟨by simp[World.cell?,h],by simp[World.cell?,h],by simp[World.cell?,h],by simp[World.cell?,h],by simp[World.cell?,h],by simp[World.cell?,h],by simp[World.cell?,h],by simp[World.cell?,h],by simp[World.cell?,h]⟩
theorem there9{w:World}{b:Nat}{z0 z1 z2 z3 z4 z5 z6 z7 z8:Value}{t:TypeId}(h:w.heap[b]?=some (.cells #[z0,z1,z2,z3,z4,z5,z6,z7,z8] t (0,0))):w.there b 0 9:=by
 intro j hj
 have hc:w.cell? ⟨b,0+j,none⟩=(#[z0,z1,z2,z3,z4,z5,z6,z7,z8])[j]?:=by rw[Nat.zero_add];simp[World.cell?,h]
 have hf:w.frozen? ⟨b,0+j,none⟩=false:=by simp[World.frozen?,h]
 rw[hc,hf]
 have:j=0∨j=1∨j=2∨j=3∨j=4∨j=5∨j=6∨j=7∨j=8:=by omega
 rcases this with rfl|rfl|rfl|rfl|rfl|rfl|rfl|rfl|rfl <;>exact⟨rfl,rfl⟩
theorem stored9{w:World}{b:Nat}{z0 z1 z2 z3 z4 z5 z6 z7 z8:Value}{t:TypeId}(v0 v1 v2 v3 v4 v5 v6 v7 v8:Value)(h:w.heap[b]?=some (.cells #[z0,z1,z2,z3,z4,z5,z6,z7,z8] t (0,0))):(w.setCells b 0 [v0,v1,v2,v3,v4,v5,v6,v7,v8]).heap[b]?=some (.cells #[v0,v1,v2,v3,v4,v5,v6,v7,v8] t (0,0)):=by
 simp only[World.setCells]
 have h0:=heap_setCell_same w b 0 _ _ v0 h
 have h1:=heap_setCell_same _ b 1 _ _ v1 h0
 have h2:=heap_setCell_same _ b 2 _ _ v2 h1
 have h3:=heap_setCell_same _ b 3 _ _ v3 h2
 have h4:=heap_setCell_same _ b 4 _ _ v4 h3
 have h5:=heap_setCell_same _ b 5 _ _ v5 h4
 have h6:=heap_setCell_same _ b 6 _ _ v6 h5
 have h7:=heap_setCell_same _ b 7 _ _ v7 h6
 have h8:=heap_setCell_same _ b 8 _ _ v8 h7
 simpa using h8
structure UI (b t:Nat) (w:World) (X:Rs) (k:Nat) (wr:World):Prop where
 mem:∃s1 v1,TM wr b t s1 v1∧Wf s1∧s1.row.length+s1.ws.length≤k∧s1.evs.length+1000*k≤900000∧X=wakeUp k s1
 tn:Tn tB b w wr
theorem zIg(b t n:Nat)(s:TS)(v:TV)(w:World)(h:TM w b t s v)(hw:Wf s)(hn:s.row.length+s.ws.length≤n)(hl:s.evs.length+1000*n≤900000) :
  Calls Tryz.prog 29 #[.pointer (some ⟨t,0,none⟩)] w (Res tB b t w (wakeUp n s)):=by
 obtain⟨X,hX⟩:∃X,X=wakeUp n s:=⟨_,rfl⟩
 rw[←hX]
 have H0:Hid (UI b t w X n w):=⟨⟨s,v,h,hw,hn,hl,hX⟩,Tn.refl _ _ _⟩
 clear h hw hn hl hX
 go_enter Tryz.func29,Tryz.ntmps29
 go_wp2_with fail
 go_loopg [3,4] n (fun gg _ _ wr=>∃ (kk:Nat),kk≤gg∧Aside (UI b t w X kk wr))
 case atStart=>exact⟨n,nzR _,H0.out⟩
 case round=>
  obtain⟨kk,hgg,HA⟩:=hrel
  clear H0
  obtain⟨⟨s1,v1,hM,hwf,hrow,hev,hXX⟩,hTn⟩:=HA.out
  have hnk:=hM.nk
  have hown:=hM.row
  have HM:=hidF hM
  have HTN:=hidF hTn
  obtain⟨-,-,-,-,-,-,-,y7,yf⟩:=hM.cells
  cases hr:s1.row with
  | nil=>
   rw[hr] at hnk
   have HRR:Hid (Res tB b t w X (.returned .nilIface) wr):=⟨hTn,by rw[hXX,zAq _ _ hr];exact⟨rfl,v1,hM⟩⟩
   obtain⟨r1,r2,r3,r4,r5,r6,r7,r8,r9,qe,ne,ce,qk,nk,ck⟩:=v1
   simp only[List.length_nil] at y7 hnk
   subst hnk
   clear HA hM hwf hrow hev hXX hTn hown HM HTN yf hr
   go_wp2_with fail
   go_ret
   exact HRR.out
  | cons x tl=>
   rw[hr] at hnk hown hrow
   simp only[List.length_cons] at hnk hrow
   obtain⟨k2,rfl⟩:∃k2,kk=k2+1:=⟨kk - 1,by omega⟩
   rw[zBf _ _ hr] at hXX
   obtain⟨⟨a1,a2,a3,a4,a5,a6,a7,a8⟩,p⟩:=x
   simp only[] at hXX
   rw[List.length_cons] at hown
   obtain⟨r1,r2,r3,r4,r5,r6,r7,r8,r9,qe,ne,ce,qk,nk,ck⟩:=v1
   simp only[] at y7 hnk hown
   obtain⟨m,hm⟩:∃m,m=tl.length:=⟨_,rfl⟩
   rw[←hm] at hnk hown hrow
   subst hnk
   obtain⟨g,off,rfl,hgl,hmc,hcm,hcell⟩:=zIf hown
   have HRA:Hid (wr.rangeAt g off [.int .i64 a1,.int .i64 a2,.int .i64 a3,.int .i64 a4,.int .i64 a5,.int .i64 a6,.int .i64 a7,.int .i64 a8,.int .i64 p]):=fun i u hu=>hcell i u hu
   have yf7:=yf 7
   obtain⟨W0,hW0⟩:∃W0,W0=wr.alloc (.cells #[.int .i64 0,.int .i64 0,.int .i64 0,.int .i64 0,.int .i64 0,.int .i64 0,.int .i64 0,.int .i64 0,.int .i64 0] 115):=⟨_,rfl⟩
   have hb0:Below wr.heap.size wr W0:=by rw[hW0];exact(bzR _ _).alloc (nzR _) _
   have hr0:W0.heap[wr.heap.size]?=some (.cells #[.int .i64 0,.int .i64 0,.int .i64 0,.int .i64 0,.int .i64 0,.int .i64 0,.int .i64 0,.int .i64 0,.int .i64 0] 115 (0,0)):=by rw[hW0];exact heap_alloc_new wr _
   obtain⟨W1,hW1⟩:∃W1,W1=W0.setCells wr.heap.size 0 [.int .i64 a1,.int .i64 a2,.int .i64 a3,.int .i64 a4,.int .i64 a5,.int .i64 a6,.int .i64 a7,.int .i64 a8,.int .i64 p]:=⟨_,rfl⟩
   have hb1:Below wr.heap.size wr W1:=by rw[hW1];exact hb0.grown (wak.gr_setCells _ _ _ _) hb0.size (fun k hk=>by cases hk;exact nzR _)
   have hr1:W1.heap[wr.heap.size]?=some (.cells #[.int .i64 a1,.int .i64 a2,.int .i64 a3,.int .i64 a4,.int .i64 a5,.int .i64 a6,.int .i64 a7,.int .i64 a8,.int .i64 p] 115 (0,0)):=by rw[hW1];exact stored9 _ _ _ _ _ _ _ _ _ hr0
   have HTH:=hidF (there9 hr0)
   obtain⟨Z,hZ⟩:∃Z,Z=wr.heap.size:=⟨_,rfl⟩
   rw[←hZ] at hr1 HTH hW1
   have htz:t<Z:=by rw[hZ];exact hM.lt
   have hown1:=zKF (hown.below hb1) hm
   rw[hm] at hown1
   have hM1:=hM.below hb1
   obtain⟨hM2,hT2,-⟩:=hM1.rowed hown1 (wak.gr_below (bzR _ _) _)
   rw[←hm] at hM2 hT2
   have hr2:(W1.setCell ⟨t,7,none⟩ (.slice (some ⟨g,offK off ck,none⟩) m (ck - 1))).heap[Z]?=some (.cells #[.int .i64 a1,.int .i64 a2,.int .i64 a3,.int .i64 a4,.int .i64 a5,.int .i64 a6,.int .i64 a7,.int .i64 a8,.int .i64 p] 115 (0,0)):=((wak.gr_setCell W1 t 7 _).block Z (gzE.1 hr1).1 (fun e=>by cases e;omega)).trans hr1
   have HM2:=hidF hM2
   have HT2:=hidF ((hTn.trans (Tn.below hb1 hM.base)).trans hT2)
   have HR2:=hidF hr2
   have HWF:Hid (Wf { s1 with row:=tl }):=⟨hwf.m0,hwf.m3,hwf.book,hwf.ok,hwf.ws⟩
   have HXX:=hidF hXX
   have HEV:=hidF hev
   have HRL:Hid (tl.length+s1.ws.length≤k2):=by show _≤_;omega
   have HGG:=hidF hgg
   have HY71:=hidF (And.intro hM1.cells.2.2.2.2.2.2.2.1 (hM1.cells.2.2.2.2.2.2.2.2 7))
   simp only[] at HY71
   have g1:((m+1:Nat):Int)≤(ck:Int):=by omega
   have g2:(1:Int)≤((m+1:Nat):Int):=by omega
   have g3:(0:Int)<((m+1:Nat):Int):=by omega
   clear hm hM hwf hrow hev hXX hTn hown HM HTN yf hr hcell hM1 hown1 hM2 hT2 hr2 hr1 hr0 hb0 hb1 HA hgl htz hgg
   go_upto_region 2 with fail
   refine wp_region_lit ?_
   iterate 5 (refine wpList_step fun K hK=>?_;go_simp;refine hK _ _ ?_;clear hK K;try simp only[Act.put,List.setIfInBounds_toArray,List.set_cons_zero,List.set_cons_succ])
   refine wpList_load_mid rfl 115 (.tmp 15) rfl g off rfl [.int .i64 a1,.int .i64 a2,.int .i64 a3,.int .i64 a4,.int .i64 a5,.int .i64 a6,.int .i64 a7,.int .i64 a8,.int .i64 p] _ HRA.out Tryz.underlying115 rfl (by kernel_rfl) ?_
   iterate 1 (refine wpList_step fun K hK=>?_;go_simp;refine hK _ _ ?_;clear hK K;try simp only[Act.put,List.setIfInBounds_toArray,List.set_cons_zero,List.set_cons_succ])
   rw[←hW0]
   simp only[←hZ]
   refine wpList_store_mid rfl 115 (.tmp 3) (.tmp 16) rfl Z 0 #[.int .i64 a1,.int .i64 a2,.int .i64 a3,.int .i64 a4,.int .i64 a5,.int .i64 a6,.int .i64 a7,.int .i64 a8,.int .i64 p] rfl rfl HTH.out (by kernel_rfl) (by simp[Value.oneCell']) ?_
   show wpList _ _ _ _ _ (W0.setCells Z 0 [.int .i64 a1,.int .i64 a2,.int .i64 a3,.int .i64 a4,.int .i64 a5,.int .i64 a6,.int .i64 a7,.int .i64 a8,.int .i64 p])
   rw[←hW1]
   clear hW0 hW1 hZ HTH HRA
   go_upto_region 3 with fail
   clear y7 yf7
   obtain⟨y71,yf71⟩:=HY71.out
   unfold offK at HM2 HT2 HR2
   by_cases hc1:ck=1
   case' pos=>
    have hm0:m=0:=by omega
    subst hc1
    subst hm0
    simp only[if_true,Nat.sub_self] at HM2 HT2 HR2
    clear g1 g2 g3 hmc hcm HY71
    simp only[Nat.zero_add] at y71 ⊢
    have g1:=True.intro
    have g2:=True.intro
    have g3:=True.intro
    have hmc:=True.intro
    have hcm:=True.intro
    have HY71:=True.intro
   case' neg=>
    simp only[if_neg hc1] at HM2 HT2 HR2
   case' pos=>
    go_upto_region 4 with fail
    generalize W1.setCell ⟨t,7,none⟩ (.slice (some ⟨g,off,none⟩) 0 0)=W2 at *
   case' neg=>
    go_upto_region 4 with fail
    generalize W1.setCell ⟨t,7,none⟩ (.slice (some ⟨g,off+9,none⟩) m (ck - 1))=W2 at *
   all_goals
    clear y71 yf71 g1 g2 g3 hmc hcm HY71
    obtain⟨z0,z1,z2,z3,z4,z5,z6,z7,z8⟩:=row9 HR2.out
    have HTL:=hidF (zDW b t _ _ 4 a1 a6 p W2 HM2.out (by have:=HEV.out;show s1.evs.length≤_;omega))
    go_wp2_with fail
    refine HTL.out.mono ?_
    rintro e w3⟨rfl,⟨v3,hM3⟩,hT3⟩
    have HR3:=hidF (hT3.kp.typ _ _ _ HR2.out (by decide))
    have HT3:=hidF (HT2.out.trans (hT3.mono tA_tB))
    have HWF3:=hidF (zCi HWF.out 4 a1 a6 p)
    have HEV3:Hid ((tell { s1 with row:=tl } 4 a1 a6 p).evs.length≤s1.evs.length+1):=by show _≤_;simp[tell]
    have HRS:=hidF (zNu b t _ v3 a1 a2 a3 a4 a5 a6 a7 a8 w3 hM3 HWF3.out (by have:=HEV.out;have:=HEV3.out;omega) (by have:=HEV.out;have:=HRL.out;show tl.length≤_;omega))
    clear z0 z1 z2 z3 z4 z5 z6 z7 z8 hM3 hT3 HTL
    obtain⟨z0,z1,z2,z3,z4,z5,z6,z7,z8⟩:=row9 HR3.out
    go_wp2_with fail
    refine HRS.out.mono ?_
    intro e w4 hR
    clear z0 z1 z2 z3 z4 z5 z6 z7 z8
    have HT4:=hidF (HT3.out.trans hR.1)
    rcases zBC hR with ⟨s5,v5,hx5,rfl,HM5⟩|⟨k,rfl,HE⟩
    rotate_left
    ·have HRR:Hid (Res tB b t w X (.returned (.iface 91 (.int .i64 k))) w4):=zAn (by rw[HXX.out,HE.out.1];rfl) HE.out.2 HT4.out
     clear hR HE
     go_wp2_with fail
     go_ret
     exact HRR.out
    have HUI:Hid (UI b t w X k2 w4):=by
     have g:=zFU HWF3.out hx5
     refine⟨⟨s5,v5,HM5.out,g.wf,?_,?_,?_⟩,HT4.out⟩
     ·have h1:=g.row
      have h2:=HRL.out
      have h3:(tell { s1 with row:=tl } 4 a1 a6 p).row.length+(tell { s1 with row:=tl } 4 a1 a6 p).ws.length=tl.length+s1.ws.length:=rfl
      omega
     ·have h1:=g.evs
      have h2:=HEV.out
      have h3:=HEV3.out
      omega
     ·rw[HXX.out,hx5];rfl
    clear hR hx5 HM5
    go_wp2_with fail
    go_roundg k2
    case measure=>have:=HGG.out;omega
    case rel=>exact⟨k2,nzR _,HUI.out⟩
end flr
namespace flr
open Go.RowKit
open que (R rchk)
open sid (L DL LS)
open mee (T tV OwnT sumT)
open ord (O oV chk errV errV_zero errV_of prB)
open que (bal)
open bok (bookE inBook)
open pur (Pz Pu Ok flatP pL)
open wak (OwnM OwnQ St SL Lies oL idx Trn)
def WfF(f:FS):Prop:=Wf (turnOf f)
theorem fdo_wf{f:FS}{c:Cm}{s:TS}(h:WfF f)(e:fdo f c=.ok s):WfF (floorOf s):=by
 obtain⟨s1,e1,e2⟩:=zAl e
 have g:=zFh h e1
 obtain⟨hw,-⟩:=zBR _ g.wf e2
 exact⟨hw.m0,hw.m3,hw.book,hw.ok,hw.ws⟩
def DoPost(F:Nat)(f:FS)(c:Cm)(w:World)(e:Ending)(w' : World):Prop:=
 (∀s,fdo f c=.ok s→(∃q m k,e=.returned (.tuple #[.slice q m k,.nilIface])∧OwnM w' w.heap.size 42 10 (.slice q m k) s.evs.length (flatE s.evs))∧(∃v',FM w' F (floorOf s) v')∧w.grownBy w' (some F))∧
 (∀k,fdo f c=.error k→¬k=0∧e=.returned (.tuple #[.slice none 0 0,.iface 91 (.int .i64 k)])∧Below w.heap.size w w')
theorem zKG(F:Nat)(f:FS)(v:FV)(what a1 a2 a3 a4 a5 a6 a7 a8 who n:Int)(w:World)(h:FM w F f v)(hw:WfF f)(hid:(Lit.int .i64 a1).wf=true) :
  Calls Tryz.prog 8 #[.pointer (some ⟨F,0,none⟩),.agg #[.int .i64 what,.int .i64 a1,.int .i64 a2,.int .i64 a3,.int .i64 a4,.int .i64 a5,.int .i64 a6,.int .i64 a7,.int .i64 a8,.int .i64 who,.int .i64 n]] w fun e w'=>DoPost F f ⟨what,⟨a1,a2,a3,a4,a5,a6,a7,a8⟩,who,n⟩ w e w':=by
 obtain⟨W,hW⟩:∃W,W=w.alloc (.cells #[.int .i64 what,.int .i64 a1,.int .i64 a2,.int .i64 a3,.int .i64 a4,.int .i64 a5,.int .i64 a6,.int .i64 a7,.int .i64 a8,.int .i64 who,.int .i64 n] 34):=⟨_,rfl⟩
 have hBW:Below w.heap.size w W:=by rw[hW];exact(bzR _ _).alloc (nzR _) _
 have hrow:W.heap[w.heap.size]?=some (.cells #[.int .i64 what,.int .i64 a1,.int .i64 a2,.int .i64 a3,.int .i64 a4,.int .i64 a5,.int .i64 a6,.int .i64 a7,.int .i64 a8,.int .i64 who,.int .i64 n] 34 (0,0)):=by rw[hW];exact heap_alloc_new w _
 obtain⟨G,hG⟩:∃G,G=w.heap.size:=⟨_,rfl⟩
 rw[←hG] at hrow
 have HFR:=hidF (zIc F f v W (h.below hBW) hw.ws)
 have HGS:=hidF hG
 have HRG:=hidF hrow
 have HBW:=hidF hBW
 have HFM:=hidF h
 have HW:=hidF hw
 have HID:=hidF hid
 obtain⟨X,hX⟩:∃X,X=doC (turnOf f) ⟨what,⟨a1,a2,a3,a4,a5,a6,a7,a8⟩,who,n⟩:=⟨_,rfl⟩
 have HX:=hidF hX
 obtain⟨Y,hY⟩:∃Y,Y=fdo f ⟨what,⟨a1,a2,a3,a4,a5,a6,a7,a8⟩,who,n⟩:=⟨_,rfl⟩
 have HY:Hid (Y=X.bind fun s=>wakeUp (s.row.length+s.ws.length) s):=by show _=_;rw[hY,hX];rfl
 unfold DoPost
 rw[←hY]
 clear h hw hid hBW hrow hX hY
 go_enter Tryz.func8,Tryz.ntmps8
 go_wp2_with fail
 rw[←hW]
 simp only[←hG]
 clear hW hG
 refine HFR.out.mono ?_
 rintro e w1⟨sp,vw,pp,rfl,hst,hpu,hpl,hb1⟩
 obtain⟨W2,hW2⟩:∃W2,W2=w1.alloc (.cells #[.int .i64 f.mode,.slice v.q1 v.n1 v.c1,.slice v.q2 v.n2 v.c2,.pointer (some ⟨sp,0,none⟩),.pointer (some ⟨pp,0,none⟩),.int .i64 f.last,.slice none 0 0,.slice none 0 0] 85):=⟨_,rfl⟩
 have hb2:Below w1.heap.size w1 W2:=by rw[hW2];exact(bzR _ _).alloc (nzR _) _
 have hr2:W2.heap[w1.heap.size]?=some (.cells #[.int .i64 f.mode,.slice v.q1 v.n1 v.c1,.slice v.q2 v.n2 v.c2,.pointer (some ⟨sp,0,none⟩),.pointer (some ⟨pp,0,none⟩),.int .i64 f.last,.slice none 0 0,.slice none 0 0] 85 (0,0)):=by rw[hW2];exact heap_alloc_new w1 _
 have hw1:=HBW.out.trans (hb1.mono HBW.out.size)
 have hw2:=hw1.trans (hb2.mono hw1.size)
 have hk0:Kp [] w W2:=Kp.below hw2
 have HTM:Hid (TM W2 w.heap.size w1.heap.size (turnOf f) ⟨v.q1,v.n1,v.c1,v.q2,v.n2,v.c2,sp,vw,pp,none,0,0,none,0,0⟩):=by
  refine⟨hr2,hw1.size,hk0.dl HFM.out.buys (by simp) (by simp),hk0.dl HFM.out.sells (by simp) (by simp),?_,?_,Nat.le_trans HBW.out.size hpl,⟨rfl,.inl ⟨rfl,rfl⟩⟩,⟨rfl,.inl ⟨rfl,rfl⟩⟩⟩
  ·exact(zDY hst HBW.out.size).below hb2
  ·exact(Kp.below (S:=[]) hb2).pu hpu (by simp)
 have HW2:=hidF hw2
 have HR2:=hidF (keepF (keepF HRG.out hb1) hb2)
 have HDO:=hidF (do_any w.heap.size w1.heap.size (turnOf f) _ a1 a2 a3 a4 a5 a6 a7 a8 who n W2 what HTM.out HW.out (Nat.zero_le _) (Nat.zero_le _) HID.out)
 rw[←HX.out] at HDO
 clear hst hpu hpl hb1 hb2 hr2 hw1 hw2 hk0 HFR HRG HBW
 go_upto_region 2 with fail
 rw[←hW2]
 clear hW2
 obtain⟨t,ht⟩:∃t,t=w1.heap.size:=⟨_,rfl⟩
 rw[←ht] at HDO HTM
 simp only[←ht]
 clear ht
 obtain⟨c0,c1,c2,c3,c4,c5,c6,c7,c8,c9,c10⟩:=row11 HR2.out
 go_wp2_with fail
 refine HDO.out.mono ?_
 intro e w3 hR
 have HT3:=hidF hR.1
 clear c0 c1 c2 c3 c4 c5 c6 c7 c8 c9 c10 HDO
 rcases zBC hR with ⟨s1,v1,hx1,rfl,HM1⟩|⟨k,rfl,HE⟩
 rotate_left
 ·have HEND:Hid ((∀s,Y=.ok s→False)∧(∀k',Y=.error k'→¬k'=0∧k'=k)∧Below w.heap.size w w3):=by
   have hy:Y=.error k:=by rw[HY.out,HE.out.1];rfl
   refine⟨fun s e=>?_,fun k' e=>?_,?_⟩
   ·rw[hy] at e;cases e
   ·rw[hy] at e;cases e;exact⟨HE.out.2,rfl⟩
   ·exact HW2.out.trans HT3.out.bel
  clear hR HE
  go_wp2_with fail
  go_ret2
  refine⟨fun s e=>(HEND.out.1 s e).elim,fun k' e=>?_⟩
  obtain⟨h1,rfl⟩:=HEND.out.2.1 k' e
  exact⟨h1,rfl,HEND.out.2.2⟩
 have HG1:=hidF (zFh HW.out (HX.out.symm.trans hx1))
 have HY1:Hid (Y=wakeUp (s1.row.length+s1.ws.length) s1):=by show _=_;rw[HY.out,hx1];rfl
 have HWU:=hidF (zIg w.heap.size t (s1.row.length+s1.ws.length) s1 v1 w3 HM1.out HG1.out.wf (nzR _) (by have h1:=HG1.out.row;have h2:=HG1.out.evs;have h3:=HW.out.ws;have h4:(turnOf f).row.length=0:=rfl;have h5:(turnOf f).evs.length=0:=rfl;omega))
 rw[←HY1.out] at HWU
 clear hR hx1 HX HY HY1 HG1
 go_wp2_with fail
 refine HWU.out.mono ?_
 intro e w4 hR
 have HT4:=hidF (HT3.out.trans hR.1)
 clear HWU
 rcases zBC hR with ⟨s2,v2,hx2,rfl,HM2⟩|⟨k,rfl,HE⟩
 rotate_left
 ·have HEND:Hid ((∀s,Y=.ok s→False)∧(∀k',Y=.error k'→¬k'=0∧k'=k)∧Below w.heap.size w w4):=by
   have hy:Y=.error k:=HE.out.1
   refine⟨fun s e=>?_,fun k' e=>?_,?_⟩
   ·rw[hy] at e;cases e
   ·rw[hy] at e;cases e;exact⟨HE.out.2,rfl⟩
   ·exact HW2.out.trans HT4.out.bel
  clear hR HE
  go_wp2_with fail
  go_ret2
  refine⟨fun s e=>(HEND.out.1 s e).elim,fun k' e=>?_⟩
  obtain⟨h1,rfl⟩:=HEND.out.2.1 k' e
  exact⟨h1,rfl,HEND.out.2.2⟩
 have HYX:=hidF hx2
 have hB4:=HW2.out.trans HT4.out.bel
 have hFl:=HFM.out.lt
 have hFb:w4.heap[F]?=some (.cells (rowF f v) 81 (0,0)):=(hB4.block F hFl).trans HFM.out.blk
 obtain⟨x0,x1,x2,x3,x4,x5,x6,x7,-⟩:=HM2.out.cells
 obtain⟨f0,f1,f2,f3,f4,f5,ff⟩:=rowSix hFb
 have ff0:=ff 0
 have ff1:=ff 1
 have ff2:=ff 2
 have ff3:=ff 3
 have ff4:=ff 4
 have ff5:=ff 5
 have htF:¬t=F:=by have:=HM2.out.le;omega
 obtain⟨r1,r2,r3,r4,r5,r6,r7,vw2,r9,qe,ne,ce,qk,nk,ck⟩:=v2
 simp only[] at x0 x1 x2 x3 x4 x5 x6 x7
 have hg:=gr6 w4 F (.int .i64 s2.mode) (.slice r1 r2 r3) (.slice r4 r5 r6) (.pointer (some ⟨r7,0,none⟩)) (.pointer (some ⟨r9,0,none⟩)) (.int .i64 s2.last)
 have hk:Kp [81] w4 _:=Kp.grown hg hFb (by simp)
 have HFIN:Hid (FM ((((((w4.setCell ⟨F,0,none⟩ (.int .i64 s2.mode)).setCell ⟨F,1,none⟩ (.slice r1 r2 r3)).setCell ⟨F,2,none⟩ (.slice r4 r5 r6)).setCell ⟨F,3,none⟩ (.pointer (some ⟨r7,0,none⟩))).setCell ⟨F,4,none⟩ (.pointer (some ⟨r9,0,none⟩))).setCell ⟨F,5,none⟩ (.int .i64 s2.last)) F (floorOf s2) ⟨r1,r2,r3,r4,r5,r6,r7,vw2,r9⟩∧w.grownBy ((((((w4.setCell ⟨F,0,none⟩ (.int .i64 s2.mode)).setCell ⟨F,1,none⟩ (.slice r1 r2 r3)).setCell ⟨F,2,none⟩ (.slice r4 r5 r6)).setCell ⟨F,3,none⟩ (.pointer (some ⟨r7,0,none⟩))).setCell ⟨F,4,none⟩ (.pointer (some ⟨r9,0,none⟩))).setCell ⟨F,5,none⟩ (.int .i64 s2.last)) (some F)∧OwnM ((((((w4.setCell ⟨F,0,none⟩ (.int .i64 s2.mode)).setCell ⟨F,1,none⟩ (.slice r1 r2 r3)).setCell ⟨F,2,none⟩ (.slice r4 r5 r6)).setCell ⟨F,3,none⟩ (.pointer (some ⟨r7,0,none⟩))).setCell ⟨F,4,none⟩ (.pointer (some ⟨r9,0,none⟩))).setCell ⟨F,5,none⟩ (.int .i64 s2.last)) w.heap.size 42 10 (.slice qe ne ce) s2.evs.length (flatE s2.evs)):=by
  refine⟨⟨set6 hFb _ _ _ _ _ _,hk.dl HM2.out.buys (by decide) (by decide),hk.dl HM2.out.sells (by decide) (by decide),hk.st (zDY HM2.out.stops (Nat.zero_le _)) (by decide) (by decide),hk.pu HM2.out.purs (by decide)⟩,?_,hk.own HM2.out.evs (by decide)⟩
  exact wak.gr_trans (wak.gr_below hB4 _) hg
 have HTB:Hid (((((((w4.setCell ⟨F,0,none⟩ (.int .i64 s2.mode)).setCell ⟨F,1,none⟩ (.slice r1 r2 r3)).setCell ⟨F,2,none⟩ (.slice r4 r5 r6)).setCell ⟨F,3,none⟩ (.pointer (some ⟨r7,0,none⟩))).setCell ⟨F,4,none⟩ (.pointer (some ⟨r9,0,none⟩))).setCell ⟨F,5,none⟩ (.int .i64 s2.last)).heap[t]?=w4.heap[t]?):=hg.block t HM2.out.lt (fun e=>htF (by cases e;rfl))
 have HBL:=hidF HM2.out.blk
 clear hR hx2 hB4 hFb hg hk ff HM2 HT4 HT3 HW2 HFM HM1 HTM
 go_upto_region 9 with fail
 generalize (((((w4.setCell ⟨F,0,none⟩ (.int .i64 s2.mode)).setCell ⟨F,1,none⟩ (.slice r1 r2 r3)).setCell ⟨F,2,none⟩ (.slice r4 r5 r6)).setCell ⟨F,3,none⟩ (.pointer (some ⟨r7,0,none⟩))).setCell ⟨F,4,none⟩ (.pointer (some ⟨r9,0,none⟩))).setCell ⟨F,5,none⟩ (.int .i64 s2.last)=Z at *
 have hbZ:Z.heap[t]?=some _:=HTB.out.trans HBL.out
 clear x0 x1 x2 x3 x4 x5 x6 x7 f0 f1 f2 f3 f4 f5 ff0 ff1 ff2 ff3 ff4 ff5
 obtain⟨-,-,-,-,-,-,x6,-,-⟩:=wak.row8 hbZ
 clear hbZ HTB HBL
 go_wp2_with fail
 go_ret2
 refine⟨fun s e=>?_,fun k' e=>?_⟩
 ·have h1:=HYX.out
  rw[e] at h1
  cases h1
  exact⟨⟨_,_,_,rfl,HFIN.out.2.2⟩,⟨_,HFIN.out.1⟩,HFIN.out.2.1⟩
 ·have h1:=HYX.out
  rw[e] at h1
  cases h1
end flr
namespace flr
open Go.RowKit
open que (R rchk)
open sid (L DL LS)
open mee (T tV OwnT sumT)
open ord (O oV chk errV errV_zero errV_of prB)
open que (bal)
open bok (bookE inBook)
open pur (Pz Pu Ok flatP pL)
open wak (OwnM OwnQ St SL Lies oL idx Trn)
open pur (newL)
def emptyF(m:Int):FS:=⟨m,0,[],[],[],newL 9⟩
theorem last_any(F:Nat)(f:FS)(v:FV)(w:World)(h:FM w F f v) :
  Calls Tryz.prog 16 #[.pointer (some ⟨F,0,none⟩)] w fun e w'=>e=.returned (.int .i64 f.last)∧w'=w:=by
 obtain⟨x0,x1,x2,x3,x4,x5,-⟩:=h.cells
 clear h
 go_enter Tryz.func16,Tryz.ntmps16
 go_wp2
 go_ret
 exact⟨rfl,rfl⟩
theorem zFi(F:Nat)(f:FS)(v:FV)(w:World)(h:FM w F f v)(hl:f.ws.length≤20) :
  Calls Tryz.prog 14 #[.pointer (some ⟨F,0,none⟩)] w fun e w'=>∃q c,e=.returned (.slice q f.ws.length c)∧OwnQ w' w.heap.size (.slice q f.ws.length c) f.ws∧Below w.heap.size w w':=by
 obtain⟨x0,x1,x2,x3,x4,x5,-⟩:=h.cells
 have HA:=hidF (wak.all_any 0 v.sp v.vw f.ws w h.stops (by omega))
 obtain⟨q1,n1,c1,q2,n2,c2,sp,vw,pp⟩:=v
 simp only[] at x0 x1 x2 x3 x4 x5 HA
 clear h hl
 go_enter Tryz.func14,Tryz.ntmps14
 go_wp2_with fail
 refine HA.out.mono ?_
 rintro e w1⟨q,c,rfl,k1,k2⟩
 have HK:=hidF (And.intro k1 k2)
 clear k1 k2 x0 x1 x2 x3 x4 x5
 go_wp2_with fail
 go_ret
 exact⟨q,c,rfl,HK.out.1,HK.out.2⟩
theorem zBS(F:Nat)(f:FS)(v:FV)(who:Int)(w:World)(h:FM w F f v) :
  Calls Tryz.prog 9 #[.pointer (some ⟨F,0,none⟩),.int .i64 who] w fun e w'=>e=.returned (.tuple #[.agg (pL (pur.getZ f.ps who)).toArray,spn.errV (spn.rangeE (pur.badW who))])∧Below w.heap.size w w':=by
 obtain⟨W,hW⟩:∃W,W=w.alloc (.cells #[.int .i64 0,.int .i64 0,.int .i64 0,.int .i64 0,.int .i64 0] 36):=⟨_,rfl⟩
 have hBW:Below w.heap.size w W:=by rw[hW];exact(bzR _ _).alloc (nzR _) _
 have hrow:W.heap[w.heap.size]?=some (.cells #[.int .i64 0,.int .i64 0,.int .i64 0,.int .i64 0,.int .i64 0] 36 (0,0)):=by rw[hW];exact heap_alloc_new w _
 obtain⟨G,hG⟩:∃G,G=w.heap.size:=⟨_,rfl⟩
 rw[←hG] at hrow
 have hGl:w.heap.size≤G:=by omega
 obtain⟨x0,x1,x2,x3,x4,x5,-⟩:=(h.below hBW).cells
 have HG:=hidF (pur.get_any v.pp f.ps who W (h.below hBW).purs)
 have HRW:=hidF hrow
 have HBW:=hidF (And.intro hBW hGl)
 obtain⟨q1,n1,c1,q2,n2,c2,sp,vw,pp⟩:=v
 simp only[] at x0 x1 x2 x3 x4 x5 HG
 rcases hz:pur.getZ f.ps who with ⟨z1,z2,z3,z4,z5⟩
 rw[hz] at HG
 generalize spn.errV (spn.rangeE (pur.badW who))=E at *
 have e5:pL ⟨z1,z2,z3,z4,z5⟩=[.int .i64 z1,.int .i64 z2,.int .i64 z3,.int .i64 z4,.int .i64 z5]:=rfl
 rw[e5] at HG ⊢
 clear h hBW hrow hz hGl e5
 go_enter Tryz.func9,Tryz.ntmps9
 go_upto_region 1 with fail
 rw[←hW]
 simp only[←hG]
 clear hW hG
 go_wp2_with fail
 refine HG.out.mono ?_
 rintro e w1⟨rfl,b1⟩
 have hr1:=keepF HRW.out b1
 have hw1:=HBW.out.1.trans (b1.mono HBW.out.1.size)
 have hgg:=sid.grFive w1 G (.int .i64 z1) (.int .i64 z2) (.int .i64 z3) (.int .i64 z4) (.int .i64 z5)
 have HB2:=hidF (hw1.grown hgg hw1.size (fun k hk=>by cases hk;exact HBW.out.2))
 have HS:=hidF (sid.setFive hr1 (.int .i64 z1) (.int .i64 z2) (.int .i64 z3) (.int .i64 z4) (.int .i64 z5))
 obtain⟨p0,p1,p2,p3,p4,pf⟩:=sid.rowFive hr1
 have pf0:=pf 0
 have pf1:=pf 1
 have pf2:=pf 2
 have pf3:=pf 3
 have pf4:=pf 4
 clear x0 x1 x2 x3 x4 x5 HG HRW b1 hr1 hw1 hgg pf
 go_wp2_with fail
 generalize ((((w1.setCell ⟨G,0,none⟩ (.int .i64 z1)).setCell ⟨G,1,none⟩ (.int .i64 z2)).setCell ⟨G,2,none⟩ (.int .i64 z3)).setCell ⟨G,3,none⟩ (.int .i64 z4)).setCell ⟨G,4,none⟩ (.int .i64 z5)=Z at *
 obtain⟨y0,y1,y2,y3,y4,-⟩:=sid.rowFive HS.out
 exact bodyPost_ret (v:=.tuple #[.agg #[.int .i64 z1,.int .i64 z2,.int .i64 z3,.int .i64 z4,.int .i64 z5],E]) (by simp[results,Tryz.results9,go_sem,y0,y1,y2,y3,y4]) rfl ⟨rfl,HB2.out⟩
theorem zGQ(m:Int)(h0:0≤m)(h3:m≤3)(w:World) :
  Calls Tryz.prog 7 #[.int .i64 m] w fun e w'=>∃F v,e=.returned (.tuple #[.pointer (some ⟨F,0,none⟩),.nilIface])∧FM w' F (emptyF m) v∧w.heap.size≤F∧Below w.heap.size w w':=by
 have HSP:Hid ([(m,0,3)].any spn.spanB=false):=by show _=_;simp[spn.spanB];omega
 clear h0 h3
 go_enter Tryz.func7,Tryz.ntmps7
 go_wp2_with fail
 refine(spn.zCp m w).mono ?_
 rintro e w1⟨rfl,b1⟩
 have HW1:=hidF b1
 clear b1
 go_wp2_with fail
 refine(spn.scheck1 false _ _ _ _ _ rfl HSP.out).mono ?_
 rintro e w2⟨rfl,b2⟩
 rw[show spn.errV (spn.rangeE false)=.nilIface from rfl]
 have HW2:=hidF (HW1.out.trans (b2.mono HW1.out.size))
 clear b2 HW1
 go_wp2_with fail
 refine(wak.new_any w2).mono ?_
 rintro e w3⟨rfl,s3,b3⟩
 have HS3:=hidF s3
 have HW3:=hidF b3
 clear s3 b3
 go_wp2_with fail
 refine(pur.new_any w3).mono ?_
 rintro e w4⟨rfl,p4,b4⟩
 have HP4:=hidF p4
 have HW4:=hidF b4
 clear p4 b4
 go_wp2_with fail
 go_ret2
 have hb5:Below w4.heap.size w4 (w4.alloc (.cells #[.int .i64 m,.slice none 0 0,.slice none 0 0,.pointer (some ⟨w2.heap.size,0,none⟩),.pointer (some ⟨w3.heap.size,0,none⟩),.int .i64 0] 81)):=(bzR _ _).alloc (nzR _) _
 have hw4:=HW2.out.trans ((HW3.out.trans (HW4.out.mono HW3.out.size)).mono HW2.out.size)
 have hs5:=((HS3.out.below HW4.out).below hb5)
 have hp5:=(Kp.below (S:=[]) hb5).pu HP4.out (by simp)
 exact⟨w4.heap.size,⟨none,0,0,none,0,0,w2.heap.size,.slice none 0 0,w3.heap.size⟩,rfl,⟨heap_alloc_new w4 _,sid.zDh _ _,sid.zDh _ _,zDY hs5 (Nat.zero_le _),hp5⟩,hw4.size,hw4.trans (hb5.mono hw4.size)⟩
theorem zKH(m:Int)(h:¬(0≤m∧m≤3))(w:World) :
  Calls Tryz.prog 7 #[.int .i64 m] w fun e w'=>e=.returned (.tuple #[.pointer none,.iface 91 (.int .i64 1)])∧Below w.heap.size w w':=by
 have HSP:Hid ([(m,0,3)].any spn.spanB=true):=by show _=_;simp[spn.spanB];omega
 clear h
 go_enter Tryz.func7,Tryz.ntmps7
 go_wp2_with fail
 refine(spn.zCp m w).mono ?_
 rintro e w1⟨rfl,b1⟩
 have HW1:=hidF b1
 clear b1
 go_wp2_with fail
 refine(spn.scheck1 true _ _ _ _ _ rfl HSP.out).mono ?_
 rintro e w2⟨rfl,b2⟩
 rw[show spn.errV (spn.rangeE true)=.iface 91 (.int .i64 1) from rfl]
 have HW2:=hidF (HW1.out.trans (b2.mono HW1.out.size))
 clear b2 HW1
 go_wp2_with fail
 go_ret2
 exact⟨rfl,HW2.out⟩
theorem zFj(F:Nat)(f:FS)(v:FV)(w:World)(h:FM w F f v)(hw:bookE f.bs f.ss=0) :
  Calls Tryz.prog 10 #[.pointer (some ⟨F,0,none⟩)] w fun e w'=>∃q1 n1 c1 q2 n2 c2,e=.returned (.agg #[.slice q1 n1 c1,.slice q2 n2 c2])∧DL w' w.heap.size (.slice q1 n1 c1) f.bs∧DL w' w.heap.size (.slice q2 n2 c2) f.ss∧Below w.heap.size w w':=by
 obtain⟨W,hW⟩:∃W,W=w.alloc (.cells #[.slice none 0 0,.slice none 0 0] 46):=⟨_,rfl⟩
 have hBW:Below w.heap.size w W:=by rw[hW];exact(bzR _ _).alloc (nzR _) _
 have hrow:W.heap[w.heap.size]?=some (.cells #[.slice none 0 0,.slice none 0 0] 46 (0,0)):=by rw[hW];exact heap_alloc_new w _
 obtain⟨G,hG⟩:∃G,G=w.heap.size:=⟨_,rfl⟩
 rw[←hG] at hrow
 have hGl:w.heap.size≤G:=by omega
 obtain⟨e1,e2,-⟩:=bok.zAb hw
 obtain⟨x0,x1,x2,x3,x4,x5,-⟩:=(h.below hBW).cells
 have HF:=hidF (mee.zCa v.q1 v.q2 v.n1 v.n2 v.c1 v.c2 f.bs f.ss W (h.below hBW).buys.ls (h.below hBW).sells.ls e1 e2)
 have HRW:=hidF hrow
 have HBW:=hidF (And.intro hBW hGl)
 obtain⟨q1,n1,c1,q2,n2,c2,sp,vw,pp⟩:=v
 simp only[] at x0 x1 x2 x3 x4 x5 HF
 clear h hBW hrow hGl e1 e2 hw
 go_enter Tryz.func10,Tryz.ntmps10
 go_upto_region 1 with fail
 rw[←hW]
 simp only[←hG]
 clear hW hG
 go_wp2_with fail
 refine HF.out.mono ?_
 rintro e w1⟨u1,u2,m1,m2,d1,d2,rfl,b1,D1,D2,-,-⟩
 have hr1:=keepF HRW.out b1
 have hw1:=HBW.out.1.trans (b1.mono HBW.out.1.size)
 have hgg:=sid.grTwo w1 G (.slice u1 m1 d1) (.slice u2 m2 d2)
 have hk:Kp [46] w1 _:=Kp.grown hgg hr1 (by simp)
 have HB2:=hidF (And.intro (hw1.grown hgg hw1.size (fun k hk=>by cases hk;exact HBW.out.2)) (And.intro (hk.dl (D1.mono HBW.out.1.size) (by decide) (by decide)) (hk.dl (D2.mono HBW.out.1.size) (by decide) (by decide))))
 have HS:=hidF (sid.setTwo hr1 (.slice u1 m1 d1) (.slice u2 m2 d2))
 obtain⟨p0,p1,pf⟩:=sid.rowTwo hr1
 have pf0:=pf 0
 have pf1:=pf 1
 clear x0 x1 x2 x3 x4 x5 HF HRW b1 hr1 hw1 hgg pf hk D1 D2
 go_wp2_with fail
 generalize (w1.setCell ⟨G,0,none⟩ (.slice u1 m1 d1)).setCell ⟨G,1,none⟩ (.slice u2 m2 d2)=Z at *
 obtain⟨y0,y1,-⟩:=sid.rowTwo HS.out
 exact bodyPost_ret (v:=.agg #[.slice u1 m1 d1,.slice u2 m2 d2]) (by simp[results,Tryz.results10,go_sem,y0,y1]) rfl ⟨u1,m1,d1,u2,m2,d2,rfl,HB2.out.2.1,HB2.out.2.2,HB2.out.1⟩
end flr
end Go.Proofs.YtifjhlgjgnnnpaaGreat
