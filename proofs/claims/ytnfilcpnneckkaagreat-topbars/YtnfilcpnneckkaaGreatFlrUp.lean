import Derived.Test.YtnfilcpnneckkaaGreatFlrSwp
set_option maxHeartbeats 4000000
set_option maxRecDepth 100000
namespace Go.Proofs.YtnfilcpnneckkaaGreat
open Go.Proofs.Tryz
namespace flr
open Go.RowKit
open que (R rchk)
open sid (L DL LS)
open mee (T tV OwnT sumT)
open ord (O oV chk errV wAa wAb prB)
open que (bal)
open bok (zAc zAg)
open wak (OwnM OwnQ St SL Lies oL idx Trn)
theorem row11{w:World}{B:Nat}{x0 x1 x2 x3 x4 x5 x6 x7 x8 x9 x10:Value}{t:TypeId}(h:w.heap[B]?=some (.cells #[x0,x1,x2,x3,x4,x5,x6,x7,x8,x9,x10] t (0,0))) :
  w.cell? ⟨B,0,none⟩=some x0∧w.cell? ⟨B,1,none⟩=some x1∧w.cell? ⟨B,2,none⟩=some x2∧w.cell? ⟨B,3,none⟩=some x3∧w.cell? ⟨B,4,none⟩=some x4∧w.cell? ⟨B,5,none⟩=some x5∧w.cell? ⟨B,6,none⟩=some x6∧w.cell? ⟨B,7,none⟩=some x7∧w.cell? ⟨B,8,none⟩=some x8∧w.cell? ⟨B,9,none⟩=some x9∧w.cell? ⟨B,10,none⟩=some x10:=
 ⟨by simp[World.cell?,h],by simp[World.cell?,h],by simp[World.cell?,h],by simp[World.cell?,h],by simp[World.cell?,h],by simp[World.cell?,h],by simp[World.cell?,h],by simp[World.cell?,h],by simp[World.cell?,h],by simp[World.cell?,h],by simp[World.cell?,h]⟩
theorem zPB{w0 w w' : World}{b t:Nat}{s:TS}{v:TV}{who n:Int}(h:TM w b t s v)(h0:Tn tA b w0 w)(hp:pur.Pu 98 9 w' v.pp (pur.payP s.ps who n))(hg:w.grownBy w' (some v.pp)):Res tA b t w0 (payS s who n) (.returned (errV (pur.payE s.ps who n))) w':=by
 unfold payS;by_cases e:pur.payE s.ps who n=0
 ·rw[if_pos e,e];obtain⟨a1,a2⟩:=h.pay hp hg;exact⟨h0.trans a2,rfl,v,a1⟩
 ·rw[if_neg e,wAb e];exact⟨h0.trans (h.pay hp hg).2,e,rfl⟩
theorem zMY{w0 w w' : World}{b t:Nat}{s:TS}{v:TV}{who n:Int}(h:TM w b t s v)(h0:Tn tA b w0 w)(hp:pur.Pu 98 9 w' v.pp (pur.zDv s.ps who n))(hg:w.grownBy w' (some v.pp)):Res tA b t w0 (zES s who n) (.returned (errV (pur.zDf s.ps who n))) w':=by
 unfold zES;by_cases e:pur.zDf s.ps who n=0
 ·rw[if_pos e,e];obtain⟨a1,a2⟩:=h.pay hp hg;exact⟨h0.trans a2,rfl,v,a1⟩
 ·rw[if_neg e,wAb e];exact⟨h0.trans (h.pay hp hg).2,e,rfl⟩
section
variable (b t:Nat)(s:TS)(v:TV)(a1 a2 a3 a4 a5 a6 a7 a8 who n:Int)(w:World)
theorem zPC(h:TM w b t s v)(hw:Wf s)(hl:s.evs.length≤900000)(hr:s.row.length≤800000)  :
  Calls prog 16 #[.pointer (some ⟨t,0,none⟩),.agg #[.int .i64 1,.int .i64 a1,.int .i64 a2,.int .i64 a3,.int .i64 a4,.int .i64 a5,.int .i64 a6,.int .i64 a7,.int .i64 a8,.int .i64 who,.int .i64 n]] w (Res tB b t w (place s ⟨a1,a2,a3,a4,a5,a6,a7,a8⟩)):=by
 obtain⟨W,hW⟩:∃W,W=w.alloc (.cells #[.int .i64 1,.int .i64 a1,.int .i64 a2,.int .i64 a3,.int .i64 a4,.int .i64 a5,.int .i64 a6,.int .i64 a7,.int .i64 a8,.int .i64 who,.int .i64 n] 36):=⟨_,rfl⟩;have Hj:Below w.heap.size w W:=by rw[hW];exact(bzR _ _).alloc (nzR _) _
 have Hd:W.heap[w.heap.size]?=some (.cells #[.int .i64 1,.int .i64 a1,.int .i64 a2,.int .i64 a3,.int .i64 a4,.int .i64 a5,.int .i64 a6,.int .i64 a7,.int .i64 a8,.int .i64 who,.int .i64 n] 36 (0,0)):=by rw[hW];exact jA w _
 obtain⟨G,hG⟩:∃G,G=w.heap.size:=⟨_,rfl⟩;rw[←hG] at Hd;have mr:=h.below Hj;have mR:Tn tB b w W:=Tn.below Hj h.base;obtain⟨c0,c1,c2,c3,c4,c5,c6,c7,c8,c9,c10⟩:=row11 Hd;have HC:=hidF (zHw b t s v a1 a2 a3 a4 a5 a6 a7 a8 W mr hw (by omega) (by omega))
 have HT:=hidF mR;clear h hw hl hr Hj Hd mr mR;go_enter func16,ntmps16;go_wp2_with fail;rw[←hW];simp only[←hG];clear hW hG;refine HC.out.mono ?_;intro e w1 hR;obtain⟨E,rfl,gJ⟩:=(hR.step HT.out (fun _ h=>h)).hidE
 clear hR c0 c1 c2 c3 c4 c5 c6 c7 c8 c9 c10;go_wp2_with fail;go_ret;exact gJ.out
theorem zMZ(h:TM w b t s v)(hw:Wf s)(hl:s.evs.length≤900000)(hid:(Lit.int .i64 a1).wf=true) :
  Calls prog 16 #[.pointer (some ⟨t,0,none⟩),.agg #[.int .i64 2,.int .i64 a1,.int .i64 a2,.int .i64 a3,.int .i64 a4,.int .i64 a5,.int .i64 a6,.int .i64 a7,.int .i64 a8,.int .i64 who,.int .i64 n]] w (Res tB b t w (cancel s a1)):=by
 obtain⟨W,hW⟩:∃W,W=w.alloc (.cells #[.int .i64 2,.int .i64 a1,.int .i64 a2,.int .i64 a3,.int .i64 a4,.int .i64 a5,.int .i64 a6,.int .i64 a7,.int .i64 a8,.int .i64 who,.int .i64 n] 36):=⟨_,rfl⟩;have Hj:Below w.heap.size w W:=by rw[hW];exact(bzR _ _).alloc (nzR _) _
 have Hd:W.heap[w.heap.size]?=some (.cells #[.int .i64 2,.int .i64 a1,.int .i64 a2,.int .i64 a3,.int .i64 a4,.int .i64 a5,.int .i64 a6,.int .i64 a7,.int .i64 a8,.int .i64 who,.int .i64 n] 36 (0,0)):=by rw[hW];exact jA w _
 obtain⟨G,hG⟩:∃G,G=w.heap.size:=⟨_,rfl⟩;rw[←hG] at Hd;have mr:=h.below Hj;have mR:Tn tB b w W:=Tn.below Hj h.base;obtain⟨c0,c1,c2,c3,c4,c5,c6,c7,c8,c9,c10⟩:=row11 Hd;have HC:=hidF (zJY b t s v a1 W mr hw (by omega) hid)
 have HT:=hidF mR;clear h hw hl  Hj Hd mr mR hid;go_enter func16,ntmps16;go_wp2_with fail;rw[←hW];simp only[←hG];clear hW hG;refine HC.out.mono ?_;intro e w1 hR;obtain⟨E,rfl,gJ⟩:=(hR.step HT.out (fun _ h=>h)).hidE
 clear hR c0 c1 c2 c3 c4 c5 c6 c7 c8 c9 c10;go_wp2_with fail;go_ret;exact gJ.out
theorem zRA(h:TM w b t s v)(hw:Wf s)(hl:s.evs.length≤900000)(hr:s.row.length≤800000)(hid:(Lit.int .i64 a1).wf=true) :
  Calls prog 16 #[.pointer (some ⟨t,0,none⟩),.agg #[.int .i64 3,.int .i64 a1,.int .i64 a2,.int .i64 a3,.int .i64 a4,.int .i64 a5,.int .i64 a6,.int .i64 a7,.int .i64 a8,.int .i64 who,.int .i64 n]] w (Res tB b t w (swap s a1 a5 a6)):=by
 obtain⟨W,hW⟩:∃W,W=w.alloc (.cells #[.int .i64 3,.int .i64 a1,.int .i64 a2,.int .i64 a3,.int .i64 a4,.int .i64 a5,.int .i64 a6,.int .i64 a7,.int .i64 a8,.int .i64 who,.int .i64 n] 36):=⟨_,rfl⟩;have Hj:Below w.heap.size w W:=by rw[hW];exact(bzR _ _).alloc (nzR _) _
 have Hd:W.heap[w.heap.size]?=some (.cells #[.int .i64 3,.int .i64 a1,.int .i64 a2,.int .i64 a3,.int .i64 a4,.int .i64 a5,.int .i64 a6,.int .i64 a7,.int .i64 a8,.int .i64 who,.int .i64 n] 36 (0,0)):=by rw[hW];exact jA w _
 obtain⟨G,hG⟩:∃G,G=w.heap.size:=⟨_,rfl⟩;rw[←hG] at Hd;have mr:=h.below Hj;have mR:Tn tB b w W:=Tn.below Hj h.base;obtain⟨c0,c1,c2,c3,c4,c5,c6,c7,c8,c9,c10⟩:=row11 Hd;have HC:=hidF (zPA b t s v a1 a5 a6 W mr hw (by omega) (by omega) hid)
 have HT:=hidF mR;clear h hw hl hr Hj Hd mr mR hid;go_enter func16,ntmps16;go_wp2_with fail;rw[←hW];simp only[←hG];clear hW hG;refine HC.out.mono ?_;intro e w1 hR;obtain⟨E,rfl,gJ⟩:=(hR.step HT.out (fun _ h=>h)).hidE
 clear hR c0 c1 c2 c3 c4 c5 c6 c7 c8 c9 c10;go_wp2_with fail;go_ret;exact gJ.out
theorem do_pay(h:TM w b t s v)(hw:Wf s) :
  Calls prog 16 #[.pointer (some ⟨t,0,none⟩),.agg #[.int .i64 4,.int .i64 a1,.int .i64 a2,.int .i64 a3,.int .i64 a4,.int .i64 a5,.int .i64 a6,.int .i64 a7,.int .i64 a8,.int .i64 who,.int .i64 n]] w (Res tB b t w (payS s who n)):=by
 obtain⟨W,hW⟩:∃W,W=w.alloc (.cells #[.int .i64 4,.int .i64 a1,.int .i64 a2,.int .i64 a3,.int .i64 a4,.int .i64 a5,.int .i64 a6,.int .i64 a7,.int .i64 a8,.int .i64 who,.int .i64 n] 36):=⟨_,rfl⟩;have Hj:Below w.heap.size w W:=by rw[hW];exact(bzR _ _).alloc (nzR _) _
 have Hd:W.heap[w.heap.size]?=some (.cells #[.int .i64 4,.int .i64 a1,.int .i64 a2,.int .i64 a3,.int .i64 a4,.int .i64 a5,.int .i64 a6,.int .i64 a7,.int .i64 a8,.int .i64 who,.int .i64 n] 36 (0,0)):=by rw[hW];exact jA w _
 obtain⟨G,hG⟩:∃G,G=w.heap.size:=⟨_,rfl⟩;rw[←hG] at Hd;have mr:=h.below Hj;have mR:Tn tB b w W:=Tn.below Hj h.base;obtain⟨c0,c1,c2,c3,c4,c5,c6,c7,c8,c9,c10⟩:=row11 Hd;have HC:Hid (∀U,Below W.heap.size W U→Calls prog 34 #[.pointer (some ⟨v.pp,0,none⟩),.int .i64 who,.int .i64 n] U fun e w'=>∃E,e=.returned E∧Hid (Res tB b t w (payS s who n) (.returned E) w')):=fun U hU=>by
  have GU:=Hj.trans (hU.mono Hj.size);have Um:=h.below GU;refine(pur.zRb v.pp s.ps who n U Um.purs hw.ok).mono ?_;rintro e w'⟨rfl,k3,k4⟩;exact((zPB Um (Tn.below (S:=tA) GU h.base) k3 k4).step (Tn.refl tB b w) tA_tB).hidE
 obtain⟨-,-,-,-,y4,-⟩:=mr.cells;have Gc:=hidF (bzR W.heap.size W);obtain⟨r1,r2,r3,r4,r5,r6,r7,r8,upp,qe,ne,ce,qk,nk,ck⟩:=v;simp only[] at y4;generalize payS s who n=X at *;clear h hw Hj Hd mr mR;go_enter func16,ntmps16;go_upto_region 9 with fail
 rw[←hW];simp only[←hG];clear hW hG
 go_region_with (go_at_call 34;with_reducible refine(HC.out _ ?_).mono ?_;(with_reducible repeat' (first|exact Gc.out|assumption|refine Below.drew ?_));rintro x w2 ⟨E,rfl,gJ⟩)
 all_goals
  clear y4 c0 c1 c2 c3 c4 c5 c6 c7 c8 c9 c10;go_wp2_with fail;go_ret;exact gJ.out
theorem zRB(h:TM w b t s v)(hw:Wf s) :
  Calls prog 16 #[.pointer (some ⟨t,0,none⟩),.agg #[.int .i64 5,.int .i64 a1,.int .i64 a2,.int .i64 a3,.int .i64 a4,.int .i64 a5,.int .i64 a6,.int .i64 a7,.int .i64 a8,.int .i64 who,.int .i64 n]] w (Res tB b t w (zES s who n)):=by
 obtain⟨W,hW⟩:∃W,W=w.alloc (.cells #[.int .i64 5,.int .i64 a1,.int .i64 a2,.int .i64 a3,.int .i64 a4,.int .i64 a5,.int .i64 a6,.int .i64 a7,.int .i64 a8,.int .i64 who,.int .i64 n] 36):=⟨_,rfl⟩;have Hj:Below w.heap.size w W:=by rw[hW];exact(bzR _ _).alloc (nzR _) _
 have Hd:W.heap[w.heap.size]?=some (.cells #[.int .i64 5,.int .i64 a1,.int .i64 a2,.int .i64 a3,.int .i64 a4,.int .i64 a5,.int .i64 a6,.int .i64 a7,.int .i64 a8,.int .i64 who,.int .i64 n] 36 (0,0)):=by rw[hW];exact jA w _
 obtain⟨G,hG⟩:∃G,G=w.heap.size:=⟨_,rfl⟩;rw[←hG] at Hd;have mr:=h.below Hj;have mR:Tn tB b w W:=Tn.below Hj h.base;obtain⟨c0,c1,c2,c3,c4,c5,c6,c7,c8,c9,c10⟩:=row11 Hd;have HC:Hid (∀U,Below W.heap.size W U→Calls prog 35 #[.pointer (some ⟨v.pp,0,none⟩),.int .i64 who,.int .i64 n] U fun e w'=>∃E,e=.returned E∧Hid (Res tB b t w (zES s who n) (.returned E) w')):=fun U hU=>by
  have GU:=Hj.trans (hU.mono Hj.size);have Um:=h.below GU;refine(pur.zOY v.pp s.ps who n U Um.purs hw.ok).mono ?_;rintro e w'⟨rfl,k3,k4⟩;exact((zMY Um (Tn.below (S:=tA) GU h.base) k3 k4).step (Tn.refl tB b w) tA_tB).hidE
 obtain⟨-,-,-,-,y4,-⟩:=mr.cells;have Gc:=hidF (bzR W.heap.size W);obtain⟨r1,r2,r3,r4,r5,r6,r7,r8,upp,qe,ne,ce,qk,nk,ck⟩:=v;simp only[] at y4;generalize zES s who n=X at *;clear h hw Hj Hd mr mR;go_enter func16,ntmps16;go_upto_region 11 with fail
 rw[←hW];simp only[←hG];clear hW hG
 go_region_with (go_at_call 35;with_reducible refine(HC.out _ ?_).mono ?_;(with_reducible repeat' (first|exact Gc.out|assumption|refine Below.drew ?_));rintro x w2 ⟨E,rfl,gJ⟩)
 all_goals
  clear y4 c0 c1 c2 c3 c4 c5 c6 c7 c8 c9 c10;go_wp2_with fail;go_ret;exact gJ.out
theorem zRC(what:Int)(h:TM w b t s v)(h1:¬what=1)(h2:¬what=2)(h3:¬what=3)(h4:¬what=4)(h5:¬what=5) :
  Calls prog 16 #[.pointer (some ⟨t,0,none⟩),.agg #[.int .i64 what,.int .i64 a1,.int .i64 a2,.int .i64 a3,.int .i64 a4,.int .i64 a5,.int .i64 a6,.int .i64 a7,.int .i64 a8,.int .i64 who,.int .i64 n]] w (Res tB b t w (.error 1)):=by
 obtain⟨W,hW⟩:∃W,W=w.alloc (.cells #[.int .i64 what,.int .i64 a1,.int .i64 a2,.int .i64 a3,.int .i64 a4,.int .i64 a5,.int .i64 a6,.int .i64 a7,.int .i64 a8,.int .i64 who,.int .i64 n] 36):=⟨_,rfl⟩;have Hj:Below w.heap.size w W:=by rw[hW];exact(bzR _ _).alloc (nzR _) _
 have Hd:W.heap[w.heap.size]?=some (.cells #[.int .i64 what,.int .i64 a1,.int .i64 a2,.int .i64 a3,.int .i64 a4,.int .i64 a5,.int .i64 a6,.int .i64 a7,.int .i64 a8,.int .i64 who,.int .i64 n] 36 (0,0)):=by rw[hW];exact jA w _
 obtain⟨G,hG⟩:∃G,G=w.heap.size:=⟨_,rfl⟩;rw[←hG] at Hd;have mr:=h.below Hj;have mR:Tn tB b w W:=Tn.below Hj h.base;obtain⟨c0,c1,c2,c3,c4,c5,c6,c7,c8,c9,c10⟩:=row11 Hd;have gJ:Hid (Res tB b t w (.error 1) (.returned (.iface 90 (.int .i64 1))) W):=zAE rfl (by decide) mR
 have e1:(what == 1)=false:=by simp[h1]
 have e2:(what == 2)=false:=by simp[h2]
 have e3:(what == 3)=false:=by simp[h3]
 have e4:(what == 4)=false:=by simp[h4]
 have e5:(what == 5)=false:=by simp[h5]
 clear h Hj Hd mr mR;go_enter func16,ntmps16;go_wp2_with fail;rw[←hW];go_ret;exact gJ.out
theorem do_any(what:Int)(h:TM w b t s v)(hw:Wf s)(hl:s.evs.length≤900000)(hr:s.row.length≤800000)(hid:(Lit.int .i64 a1).wf=true) :
  Calls prog 16 #[.pointer (some ⟨t,0,none⟩),.agg #[.int .i64 what,.int .i64 a1,.int .i64 a2,.int .i64 a3,.int .i64 a4,.int .i64 a5,.int .i64 a6,.int .i64 a7,.int .i64 a8,.int .i64 who,.int .i64 n]] w (Res tB b t w (doC s ⟨what,⟨a1,a2,a3,a4,a5,a6,a7,a8⟩,who,n⟩)):=by
 unfold doC;simp only[];by_cases h1:what=1
 ·subst h1;rw[if_pos rfl];exact zPC b t s v a1 a2 a3 a4 a5 a6 a7 a8 who n w h hw hl hr
 rw[if_neg h1];by_cases h2:what=2
 ·subst h2;rw[if_pos rfl];exact zMZ b t s v a1 a2 a3 a4 a5 a6 a7 a8 who n w h hw hl hid
 rw[if_neg h2];by_cases h3:what=3
 ·subst h3;rw[if_pos rfl];exact zRA b t s v a1 a2 a3 a4 a5 a6 a7 a8 who n w h hw hl hr hid
 rw[if_neg h3];by_cases h4:what=4
 ·subst h4;rw[if_pos rfl];exact do_pay b t s v a1 a2 a3 a4 a5 a6 a7 a8 who n w h hw
 rw[if_neg h4];by_cases h5:what=5
 ·subst h5;rw[if_pos rfl];exact zRB b t s v a1 a2 a3 a4 a5 a6 a7 a8 who n w h hw
 rw[if_neg h5];exact zRC b t s v a1 a2 a3 a4 a5 a6 a7 a8 who n w what h h1 h2 h3 h4 h5
end
end flr
namespace flr
open Go.RowKit
open que (R rchk)
open sid (L DL LS)
open mee (T tV OwnT sumT)
open ord (O oV chk errV wAa wAb prB)
open que (bal)
open bok (zAc zAg)
open wak (OwnM OwnQ St SL Lies oL idx Trn wAk wAO)
def offK(off cap:Nat):Nat:=if cap=1 then off else off+9
theorem zNa{w:World}{base g off m cap:Nat}{x:Sl}{tl:List Sl}(h:OwnM w base 105 9 (.slice (some ⟨g,off,none⟩) (m+1) cap) (m+1) (zBH (x::tl)))(hm:m=tl.length):OwnM w base 105 9 (.slice (some ⟨g,offK off cap,none⟩) m (cap - 1)) m (zBH tl):=by
 obtain⟨h1,h2,⟨cur,h3,h3'⟩,h4,h5,h6,h7⟩:=wAk h;rw[zFm] at h1 h6;have hx:(slL x).length=9:=rfl;rw[jE,hx] at h1;refine wAO (by omega) h2 h3 (by unfold offK;split <;>omega) (by omega) (by omega) fun j u hu=>?_
 have hj:j<(zBH tl).length:=(List.getElem?_eq_some_iff.1 hu).1;have e:offK off cap+j=off+(9+j):=by unfold offK;rw[if_neg (by omega)];omega
 rw[e];refine h6 (9+j) u ?_;rw[jV (by rw[hx];omega),hx,show 9+j - 9=j by omega]
 exact hu
theorem zKf{w:World}{base:Nat}{q:Option Addr}{m cap:Nat}{x:Sl}{tl:List Sl}(h:OwnM w base 105 9 (.slice q (m+1) cap) (m+1) (zBH (x::tl))):∃g off,q=some ⟨g,off,none⟩∧g<w.heap.size∧m+1≤cap∧cap≤9223372036854775807∧(∀i u,(slL x)[i]?=some u→w.cell? ⟨g,off+i,none⟩=some u):=by
 rcases h.2 with ⟨e,hn⟩|⟨g,off,cap',cur,e,_⟩
 ·omega
 ·cases e;obtain⟨h1,h2,⟨cur',h3,h3'⟩,h4,h5,h6,h7⟩:=wAk h;refine⟨g,off,rfl,(gzE.1 h3).1,h4,by simpa [maxLen] using h5,fun i u hu=>h6 i u ?_⟩
  rw[zFm,List.getElem?_append_left (List.getElem?_eq_some_iff.1 hu).1];exact hu
theorem row9{w:World}{B:Nat}{x0 x1 x2 x3 x4 x5 x6 x7 x8:Value}{t:TypeId}(h:w.heap[B]?=some (.cells #[x0,x1,x2,x3,x4,x5,x6,x7,x8] t (0,0))) :
  w.cell? ⟨B,0,none⟩=some x0∧w.cell? ⟨B,1,none⟩=some x1∧w.cell? ⟨B,2,none⟩=some x2∧w.cell? ⟨B,3,none⟩=some x3∧w.cell? ⟨B,4,none⟩=some x4∧w.cell? ⟨B,5,none⟩=some x5∧w.cell? ⟨B,6,none⟩=some x6∧w.cell? ⟨B,7,none⟩=some x7∧w.cell? ⟨B,8,none⟩=some x8:=
 ⟨by simp[World.cell?,h],by simp[World.cell?,h],by simp[World.cell?,h],by simp[World.cell?,h],by simp[World.cell?,h],by simp[World.cell?,h],by simp[World.cell?,h],by simp[World.cell?,h],by simp[World.cell?,h]⟩
theorem there9{w:World}{b:Nat}{z0 z1 z2 z3 z4 z5 z6 z7 z8:Value}{t:TypeId}(h:w.heap[b]?=some (.cells #[z0,z1,z2,z3,z4,z5,z6,z7,z8] t (0,0))):w.there b 0 9:=by
 intro j hj;have hc:w.cell? ⟨b,0+j,none⟩=(#[z0,z1,z2,z3,z4,z5,z6,z7,z8])[j]?:=by rw[Nat.zero_add];simp[World.cell?,h]
 have hf:w.frozen? ⟨b,0+j,none⟩=false:=by simp[World.frozen?,h]
 rw[hc,hf];have:j=0∨j=1∨j=2∨j=3∨j=4∨j=5∨j=6∨j=7∨j=8:=by omega
 rcases this with rfl|rfl|rfl|rfl|rfl|rfl|rfl|rfl|rfl <;>exact⟨rfl,rfl⟩
theorem stored9{w:World}{b:Nat}{z0 z1 z2 z3 z4 z5 z6 z7 z8:Value}{t:TypeId}(v0 v1 v2 v3 v4 v5 v6 v7 v8:Value)(h:w.heap[b]?=some (.cells #[z0,z1,z2,z3,z4,z5,z6,z7,z8] t (0,0))):(w.setCells b 0 [v0,v1,v2,v3,v4,v5,v6,v7,v8]).heap[b]?=some (.cells #[v0,v1,v2,v3,v4,v5,v6,v7,v8] t (0,0)):=by
 simp only[World.setCells];have h0:=jB w b 0 _ _ v0 h;have h1:=jB _ b 1 _ _ v1 h0;have h2:=jB _ b 2 _ _ v2 h1;have h3:=jB _ b 3 _ _ v3 h2;have h4:=jB _ b 4 _ _ v4 h3;have h5:=jB _ b 5 _ _ v5 h4;have h6:=jB _ b 6 _ _ v6 h5;have h7:=jB _ b 7 _ _ v7 h6;have h8:=jB _ b 8 _ _ v8 h7;simpa using h8
structure UI (b t:Nat) (w:World) (X:Rs) (k:Nat) (wr:World):Prop where
 mem:∃s1 v1,TM wr b t s1 v1∧Wf s1∧s1.row.length+s1.ws.length≤k∧s1.evs.length+1000*k≤900000∧X=zBy k s1
 tn:Tn tB b w wr
theorem zKg(b t n:Nat)(s:TS)(v:TV)(w:World)(h:TM w b t s v)(hw:Wf s)(hn:s.row.length+s.ws.length≤n)(hl:s.evs.length+1000*n≤900000) :
  Calls prog 17 #[.pointer (some ⟨t,0,none⟩)] w (Res tB b t w (zBy n s)):=by
 obtain⟨X,hX⟩:∃X,X=zBy n s:=⟨_,rfl⟩;rw[←hX];have H0:Hid (UI b t w X n w):=⟨⟨s,v,h,hw,hn,hl,hX⟩,Tn.refl _ _ _⟩;clear h hw hn hl hX;go_enter func17,ntmps17;go_wp2_with fail;go_loopg [3,4] n (fun gg _ _ wr=>∃ (kk:Nat),kk≤gg∧Aside (UI b t w X kk wr))
 case atStart=>exact⟨n,nzR _,H0.out⟩
 case round=>
  obtain⟨kk,Hu,HA⟩:=hrel;clear H0;obtain⟨⟨s1,v1,hM,GT,Hd,mw,Uc⟩,UB⟩:=HA.out;have PZ:=hM.nk;have Hk:=hM.row;have HM:=hidF hM;have HTN:=hidF UB;obtain⟨-,-,-,-,-,-,-,y7,yf⟩:=hM.cells;cases hr:s1.row with
  | nil=>
   rw[hr] at PZ;have gJ:Hid (Res tB b t w X (.returned .nilIface) wr):=⟨UB,by rw[Uc,zBF _ _ hr];exact⟨rfl,v1,hM⟩⟩
   obtain⟨r1,r2,r3,r4,r5,r6,r7,r8,r9,qe,ne,ce,qk,nk,ck⟩:=v1;simp only[List.length_nil] at y7 PZ;subst PZ;clear HA hM GT Hd mw Uc UB Hk HM HTN yf hr;go_wp2_with fail;go_ret;exact gJ.out
  | cons x tl=>
   rw[hr] at PZ Hk Hd;simp only[jG] at PZ Hd;obtain⟨k2,rfl⟩:∃k2,kk=k2+1:=⟨kk - 1,by omega⟩
   rw[zBq _ _ hr] at Uc;obtain⟨⟨a1,a2,a3,a4,a5,a6,a7,a8⟩,p⟩:=x;simp only[] at Uc;rw[jG] at Hk;obtain⟨r1,r2,r3,r4,r5,r6,r7,r8,r9,qe,ne,ce,qk,nk,ck⟩:=v1;simp only[] at y7 PZ Hk;obtain⟨m,hm⟩:∃m,m=tl.length:=⟨_,rfl⟩;rw[←hm] at PZ Hk Hd;subst PZ;obtain⟨g,off,rfl,M6,dK,gi,gv⟩:=zKf Hk;have DW:Hid (wr.rangeAt g off [.int .i64 a1,.int .i64 a2,.int .i64 a3,.int .i64 a4,.int .i64 a5,.int .i64 a6,.int .i64 a7,.int .i64 a8,.int .i64 p]):=fun i u hu=>gv i u hu
   have yf7:=yf 7;obtain⟨W0,UL⟩:∃W0,W0=wr.alloc (.cells #[.int .i64 0,.int .i64 0,.int .i64 0,.int .i64 0,.int .i64 0,.int .i64 0,.int .i64 0,.int .i64 0,.int .i64 0] 105):=⟨_,rfl⟩;have Up:Below wr.heap.size wr W0:=by rw[UL];exact(bzR _ _).alloc (nzR _) _
   have hr0:W0.heap[wr.heap.size]?=some (.cells #[.int .i64 0,.int .i64 0,.int .i64 0,.int .i64 0,.int .i64 0,.int .i64 0,.int .i64 0,.int .i64 0,.int .i64 0] 105 (0,0)):=by rw[UL];exact jA wr _
   obtain⟨W1,H7⟩:∃W1,W1=W0.setCells wr.heap.size 0 [.int .i64 a1,.int .i64 a2,.int .i64 a3,.int .i64 a4,.int .i64 a5,.int .i64 a6,.int .i64 a7,.int .i64 a8,.int .i64 p]:=⟨_,rfl⟩;have Hc:Below wr.heap.size wr W1:=by rw[H7];exact Up.grown (wak.wAh _ _ _ _) Up.size (fun k hk=>by cases hk;exact nzR _)
   have gq:W1.heap[wr.heap.size]?=some (.cells #[.int .i64 a1,.int .i64 a2,.int .i64 a3,.int .i64 a4,.int .i64 a5,.int .i64 a6,.int .i64 a7,.int .i64 a8,.int .i64 p] 105 (0,0)):=by rw[H7];exact stored9 _ _ _ _ _ _ _ _ _ hr0
   have HTH:=hidF (there9 hr0);obtain⟨Z,hZ⟩:∃Z,Z=wr.heap.size:=⟨_,rfl⟩;rw[←hZ] at gq HTH H7;have htz:t<Z:=by rw[hZ];exact hM.lt
   have uj:=zNa (Hk.below Hc) hm;rw[hm] at uj;have Mf:=hM.below Hc;obtain⟨hM2,pW,-⟩:=Mf.rowed uj (wak.wAw (bzR _ _) _);rw[←hm] at hM2 pW;have H5:(W1.setCell ⟨t,7,none⟩ (.slice (some ⟨g,offK off ck,none⟩) m (ck - 1))).heap[Z]?=some (.cells #[.int .i64 a1,.int .i64 a2,.int .i64 a3,.int .i64 a4,.int .i64 a5,.int .i64 a6,.int .i64 a7,.int .i64 a8,.int .i64 p] 105 (0,0)):=((wak.wAc W1 t 7 _).block Z (gzE.1 gq).1 (fun e=>by cases e;omega)).trans gq
   have GN:=hidF hM2;have GV:=hidF ((UB.trans (Tn.below Hc hM.base)).trans pW);have Uk:=hidF H5;have Bq:Hid (Wf { s1 with row:=tl }):=⟨GT.m0,GT.m3,GT.book,GT.ok,GT.ws⟩
   have Gl:=hidF Uc;have mj:=hidF mw;have HRL:Hid (tl.length+s1.ws.length≤k2):=by show _≤_;omega
   have HGG:=hidF Hu;have pM:=hidF (And.intro Mf.cells.2.2.2.2.2.2.2.1 (Mf.cells.2.2.2.2.2.2.2.2 7));simp only[] at pM;have g1:((m+1:Nat):Int)≤(ck:Int):=by omega
   have g2:(1:Int)≤((m+1:Nat):Int):=by omega
   have g3:(0:Int)<((m+1:Nat):Int):=by omega
   clear hm hM GT Hd mw Uc UB Hk HM HTN yf hr gv Mf uj hM2 pW H5 gq hr0 Up Hc HA M6 htz Hu;go_upto_region 2 with fail
   refine wp_region_lit ?_
   iterate 5 (refine wpList_step fun K hK=>?_;go_simp;refine hK _ _ ?_;clear hK K;try simp only[Act.put,List.setIfInBounds_toArray,List.set_cons_zero,List.set_cons_succ])
   refine wpList_load_mid rfl 105 (.tmp 15) rfl g off rfl [.int .i64 a1,.int .i64 a2,.int .i64 a3,.int .i64 a4,.int .i64 a5,.int .i64 a6,.int .i64 a7,.int .i64 a8,.int .i64 p] _ DW.out underlying105 rfl (by kernel_rfl) ?_
   iterate 1 (refine wpList_step fun K hK=>?_;go_simp;refine hK _ _ ?_;clear hK K;try simp only[Act.put,List.setIfInBounds_toArray,List.set_cons_zero,List.set_cons_succ])
   rw[←UL];simp only[←hZ];refine wpList_store_mid rfl 105 (.tmp 3) (.tmp 16) rfl Z 0 #[.int .i64 a1,.int .i64 a2,.int .i64 a3,.int .i64 a4,.int .i64 a5,.int .i64 a6,.int .i64 a7,.int .i64 a8,.int .i64 p] rfl rfl HTH.out (by kernel_rfl) (by simp[Value.oneCell']) ?_
   show wpList _ _ _ _ _ (W0.setCells Z 0 [.int .i64 a1,.int .i64 a2,.int .i64 a3,.int .i64 a4,.int .i64 a5,.int .i64 a6,.int .i64 a7,.int .i64 a8,.int .i64 p])
   rw[←H7];clear UL H7 hZ HTH DW;go_upto_region 3 with fail
   clear y7 yf7;obtain⟨y71,yf71⟩:=pM.out;unfold offK at GN GV Uk;by_cases Gn:ck=1
   case' pos=>
    have CK:m=0:=(by omega);subst Gn;subst CK;simp only[if_true,Nat.sub_self] at GN GV Uk;clear g1 g2 g3 dK gi pM;simp only[Nat.zero_add] at y71 ⊢;have g1:=True.intro;have g2:=True.intro;have g3:=True.intro;have dK:=True.intro;have gi:=True.intro;have pM:=True.intro
   case' neg=>
    simp only[if_neg Gn] at GN GV Uk
   case' pos=>
    go_upto_region 4 with fail
    generalize W1.setCell ⟨t,7,none⟩ (.slice (some ⟨g,off,none⟩) 0 0)=W2 at *
   case' neg=>
    go_upto_region 4 with fail
    generalize W1.setCell ⟨t,7,none⟩ (.slice (some ⟨g,off+9,none⟩) m (ck - 1))=W2 at *
   all_goals
    clear y71 yf71 g1 g2 g3 dK gi pM;obtain⟨z0,z1,z2,z3,z4,z5,z6,z7,z8⟩:=row9 Uk.out;have G0:=hidF (zFX b t _ _ 4 a1 a6 p W2 GN.out (by have:=mj.out;show s1.evs.length≤_;omega))
    go_wp2_with fail;refine G0.out.mono ?_;rintro e w3⟨rfl,⟨v3,U5⟩,hT3⟩;have cV:=hidF (hT3.kp.typ _ _ _ Uk.out (by decide))
    have GZ:=hidF (GV.out.trans (hT3.mono tA_tB));have ej:=hidF (zEx Bq.out 4 a1 a6 p);have Dn:Hid ((tell { s1 with row:=tl } 4 a1 a6 p).evs.length≤s1.evs.length+1):=(by show _≤_;simp[tell]);have de:=hidF (zPz b t _ v3 a1 a2 a3 a4 a5 a6 a7 a8 w3 U5 ej.out (by have:=mj.out;have:=Dn.out;omega) (by have:=mj.out;have:=HRL.out;show tl.length≤_;omega))
    clear z0 z1 z2 z3 z4 z5 z6 z7 z8 U5 hT3 G0;obtain⟨z0,z1,z2,z3,z4,z5,z6,z7,z8⟩:=row9 cV.out;go_wp2_with fail;refine de.out.mono ?_;intro e w4 hR;clear z0 z1 z2 z3 z4 z5 z6 z7 z8;have uZ:=hidF (GZ.out.trans hR.1);rcases zCS hR with ⟨s5,v5,hx5,rfl,PM⟩|⟨k,rfl,HE⟩
    rotate_left
    ·have gJ:Hid (Res tB b t w X (.returned (.iface 90 (.int .i64 k))) w4):=zAE (by rw[Gl.out,HE.out.1];rfl) HE.out.2 uZ.out
     clear hR HE;go_wp2_with fail;go_ret;exact gJ.out
    have HUI:Hid (UI b t w X k2 w4):=by
     have g:=zGb ej.out hx5;refine⟨⟨s5,v5,PM.out,g.wf,?_,?_,?_⟩,uZ.out⟩
     ·have h1:=g.row;have h2:=HRL.out;have h3:(tell { s1 with row:=tl } 4 a1 a6 p).row.length+(tell { s1 with row:=tl } 4 a1 a6 p).ws.length=tl.length+s1.ws.length:=rfl
      omega
     ·have h1:=g.evs;have h2:=mj.out;have h3:=Dn.out;omega
     ·rw[Gl.out,hx5];rfl
    clear hR hx5 PM;go_wp2_with fail;go_roundg k2
    case measure=>have:=HGG.out;omega
    case rel=>exact⟨k2,nzR _,HUI.out⟩
end flr
end Go.Proofs.YtnfilcpnneckkaaGreat
