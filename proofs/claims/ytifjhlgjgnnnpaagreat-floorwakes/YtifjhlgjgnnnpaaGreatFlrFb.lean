import Derived.Test.YtifjhlgjgnnnpaaGreatFlrFil
import Derived.Deep.MidRow
import Derived.Great.BuildSlice
set_option maxHeartbeats 4000000
set_option maxRecDepth 100000
namespace Go.Proofs.YtifjhlgjgnnnpaaGreat
namespace flr
open Go.RowKit
open que (R rchk)
open sid (L DL)
open mee (T tV)
open ord (O oV chk errV errV_zero errV_of)
open bok (bookE inBook)
open wak (OwnM OwnQ St SL Lies oL idx Trn)
theorem Res.hid{S:List TypeId}{b t:Nat}{w w' : World}{x:Rs}{e:Ending}(h:Res S b t w x e w'):∃E,e=.returned E∧Hid (Res S b t w x (.returned E) w'):=by
 rcases h.two with ⟨_,_,_,rfl,_⟩|⟨_,_,_,rfl⟩
 ·exact⟨_,rfl,h⟩
 ·exact⟨_,rfl,h⟩
theorem zKp(b t:Nat)(s:TS)(v:TV)(id:Int)(w:World)(h:TM w b t s v)(hw:Wf s)(hid:(Lit.int .i64 id).wf=true)(hin:inBook s.bs s.ss id=false) :
  Calls Tryz.prog 77 #[.pointer (some ⟨t,0,none⟩),.int .i64 id] w (Res tA b t w (leave s id)):=by
 obtain⟨x0,x1,x2,x3,x4,x5,x6,x7,-⟩:=h.cells
 have HSO:Hid (∀U,Below w.heap.size w U→Tn tA b w U):=fun U hU=>Tn.below hU h.base
 obtain⟨X,hX⟩:∃X,X=leave s id:=⟨_,rfl⟩
 rw[←hX]
 unfold leave at hX
 rw[hin] at hX
 simp only[Bool.false_eq_true,if_false] at hX
 obtain⟨q1,n1,c1,q2,n2,c2,sp,vw,pp,qe,ne,ce,qk,nk,ck⟩:=v
 simp only[] at x0 x1 x2 x3 x4 x5 x6 x7
 have HF:=hidF (zDX h.buys h.sells hw.book hid hin)
 have HX:=hidF hX
 clear h hw hid hin hX
 go_enter Tryz.func77,Tryz.ntmps77
 go_wp2_with fail
 refine HF.out.mono ?_
 rintro e w1⟨rfl,b1⟩
 have HB:=hidF (HSO.out _ (b1.alloc b1.size (.cells #[.int .i64 0,.int .i64 0,.int .i64 0,.int .i64 0,.int .i64 0] 54)))
 clear b1 HF x0 x1 x2 x3 x4 x5 x6 x7 HSO
 go_wp2_with fail
 go_ret
 exact zAn HX.out (by decide) HB.out
theorem zEW(b t:Nat)(s:TS)(v:TV)(id:Int)(w:World)(h:TM w b t s v)(hw:Wf s)(hl:s.evs.length≤1000000)(hid:(Lit.int .i64 id).wf=true) :
  Calls Tryz.prog 77 #[.pointer (some ⟨t,0,none⟩),.int .i64 id] w (Res tA b t w (leave s id)):=by
 cases hin:inBook s.bs s.ss id with
 | false=>exact zKp b t s v id w h hw hid hin
 | true=>
  refine zNl b t s v id w h hw hl hin ?_
  rintro xs xi xk rfl rfl rfl
  exact zAP (spot_at hw.book hin)
theorem zNr{s s1:TS}{id:Int}(h:Wf s)(e:leave s id=.ok s1):Wf s1:=by
 unfold leave at e
 split at e
 ·rename_i hin
  have hb:=zAP (spot_at h.book hin)
  unfold part at e
  generalize hg:freeR _ _ _ _=y at e
  cases y with
  | error k=>cases e
  | ok s2=>
   cases e
   have hw0:Wf { s with bs:=swp.cB (spot s.bs s.ss id).s s.bs (spot s.bs s.ss id).i (spot s.bs s.ss id).k,ss:=swp.cS (spot s.bs s.ss id).s s.ss (spot s.bs s.ss id).i (spot s.bs s.ss id).k }:=⟨h.m0,h.m3,hb,h.ok,h.ws⟩
   have hw2:=(zDV hw0 hg).1
   exact⟨hw2.m0,hw2.m3,hw2.book,hw2.ok,hw2.ws⟩
 ·cases e
theorem zKq(b t:Nat)(s:TS)(v:TV)(id:Int)(w:World)(h:TM w b t s v)(hw:Wf s)(hl:s.evs.length≤1000000)(hid:(Lit.int .i64 id).wf=true)(hin:inBook s.bs s.ss id=true) :
  Calls Tryz.prog 50 #[.pointer (some ⟨t,0,none⟩),.int .i64 id] w (Res tB b t w (cancel s id)):=by
 obtain⟨x0,x1,x2,x3,x4,x5,x6,x7,-⟩:=h.cells
 obtain⟨X,hX⟩:∃X,X=cancel s id:=⟨_,rfl⟩
 rw[←hX]
 unfold cancel at hX
 rw[if_pos hin] at hX
 have HLV:Hid (∀U,Below w.heap.size w U→Calls Tryz.prog 77 #[.pointer (some ⟨t,0,none⟩),.int .i64 id] U fun e w'=>∃E,e=.returned E∧Hid (Res tB b t w X (.returned E) w')):=fun U hU=>by
  refine(zEW b t s v id U (h.below hU) hw hl hid).mono ?_
  intro e w' hR
  exact(zBy (hR.step (Tn.below (S:=tB) hU h.base) tA_tB) hX.symm).hid
 have hA:=spot_at hw.book hin
 generalize spot s.bs s.ss id=x at hA
 obtain⟨xs,xp,⟨r1,r2,r3,r4,r5⟩,xi,xk⟩:=x
 obtain⟨q1,n1,c1,q2,n2,c2,sp,vw,pp,qe,ne,ce,qk,nk,ck⟩:=v
 simp only[] at x0 x1 x2 x3 x4 x5 x6 x7
 have HF:=hidF (swp.zAS q1 q2 n1 n2 c1 c2 s.bs s.ss id xs xp r1 r2 r3 r4 r5 xi xk w h.buys.ls h.sells.ls hA)
 clear h hw hA hX hin hl hid
 go_enter Tryz.func50,Tryz.ntmps50
 go_wp2_with fail
 refine HF.out.mono ?_
 rintro e w1⟨rfl,b1⟩
 have HB:=hidF (b1.alloc b1.size (.cells #[.int .i64 r1,.int .i64 r2,.int .i64 r3,.int .i64 r4,.int .i64 r5] 54))
 clear b1 HF x0 x1 x2 x3 x4 x5 x6 x7
 go_wp2_with fail
 refine(HLV.out _ HB.out).mono ?_
 rintro e w2⟨E,rfl,HR⟩
 go_wp2_with fail
 go_ret
 exact HR.out
theorem zHX(b t:Nat)(s:TS)(v:TV)(id:Int)(w:World)(h:TM w b t s v)(hw:Wf s)(hl:s.evs.length≤1000000)(hid:(Lit.int .i64 id).wf=true)(hin:inBook s.bs s.ss id=false) :
  Calls Tryz.prog 50 #[.pointer (some ⟨t,0,none⟩),.int .i64 id] w (Res tB b t w (cancel s id)):=by
 obtain⟨x0,x1,x2,x3,x4,x5,x6,x7,-⟩:=h.cells
 have HX3:Hid (∀U,Below w.heap.size w U→U.cell? ⟨t,3,none⟩=some (.pointer (some ⟨v.sp,0,none⟩))):=fun U hU=>(h.below hU).cells.2.2.2.1
 obtain⟨X,hX⟩:∃X,X=cancel s id:=⟨_,rfl⟩
 rw[←hX]
 unfold cancel at hX
 rw[hin] at hX
 simp only[Bool.false_eq_true,if_false] at hX
 have HF:=hidF (zDX h.buys h.sells hw.book hid hin)
 by_cases hi:idx id s.ws<0
 ·rw[if_pos hi] at hX
  have HX:=hidF hX
  have HDR:Hid (∀U,Below w.heap.size w U→Calls Tryz.prog 78 #[.pointer (some ⟨v.sp,0,none⟩),.int .i64 id] U fun e w'=>e=.returned (.tuple #[.agg #[.int .i64 0,.int .i64 0,.int .i64 0,.int .i64 0,.int .i64 0,.int .i64 0,.int .i64 0,.int .i64 0],.iface 91 (.int .i64 5)])∧Hid (Tn tB b w (w'.alloc (.cells #[.int .i64 0,.int .i64 0,.int .i64 0,.int .i64 0,.int .i64 0,.int .i64 0,.int .i64 0,.int .i64 0] 32)))):=fun U hU=>by
   refine(wak.zKb id b v.sp v.vw s.ws U (h.below hU).stops hi).mono ?_
   rintro e w'⟨rfl,k1⟩
   have k2:=hU.trans (k1.mono hU.size)
   exact⟨rfl,Tn.below (k2.alloc k2.size _) h.base⟩
  obtain⟨q1,n1,c1,q2,n2,c2,sp,vw,pp,qe,ne,ce,qk,nk,ck⟩:=v
  simp only[] at x0 x1 x2 x3 x4 x5 x6 x7
  clear h hw hX hin hl hid hi
  go_enter Tryz.func50,Tryz.ntmps50
  go_wp2_with fail
  refine HF.out.mono ?_
  rintro e w1⟨rfl,b1⟩
  have HB:=hidF (b1.alloc b1.size (.cells #[.int .i64 0,.int .i64 0,.int .i64 0,.int .i64 0,.int .i64 0] 54))
  clear b1 HF x0 x1 x2 x3 x4 x5 x6 x7
  go_upto_if 24 with fail
  generalize w1.alloc (.cells #[.int .i64 0,.int .i64 0,.int .i64 0,.int .i64 0,.int .i64 0] 54)=W2 at *
  have x3:=HX3.out W2 HB.out
  go_wp2_with fail
  refine(HDR.out _ HB.out).mono ?_
  rintro e w3⟨rfl,HT⟩
  clear x3
  go_wp2_with fail
  go_ret
  exact zAn HX.out (by decide) HT.out
 ·rw[if_neg hi] at hX
  obtain⟨i,hI⟩:∃i:Nat,idx id s.ws=(i:Int):=⟨(idx id s.ws).toNat,by omega⟩
  have hlt:=wak.idx_lt id s.ws
  rw[hI] at hX hlt
  have hil:i<s.ws.length:=by omega
  simp only[Int.toNat_natCast] at hX
  have hd:drop1 s.ws id=s.ws.take i++s.ws.drop (i+1):=by unfold drop1;rw[hI];rfl
  rw[hd] at hX
  generalize ho:s.ws[i]! = o at *
  obtain⟨a1,a2,a3,a4,a5,a6,a7,a8⟩:=o
  have HX:=hidF hX
  have HW:=hidF hw
  have HL:=hidF hl
  have HDR:Hid (∀U,Below w.heap.size w U→Calls Tryz.prog 78 #[.pointer (some ⟨v.sp,0,none⟩),.int .i64 id] U fun e w'=>e=.returned (.tuple #[.agg #[.int .i64 a1,.int .i64 a2,.int .i64 a3,.int .i64 a4,.int .i64 a5,.int .i64 a6,.int .i64 a7,.int .i64 a8],.nilIface])∧Hid (∃v1,TM w' b t { s with ws:=s.ws.take i++s.ws.drop (i+1) } v1)∧Hid (Tn tB b w w')):=fun U hU=>by
   have hM:=h.below hU
   have hs:=hM.stops
   have hform:∃g off c,v.vw=.slice (some ⟨g,off,none⟩) s.ws.length c:=by
    rcases hs.own.2 with ⟨_,hn⟩|⟨g,off,cap,cur,h1,_⟩
    ·omega
    ·exact⟨g,off,cap,h1⟩
   obtain⟨g,off,c,hv⟩:=hform
   rw[hv] at hs
   refine(wak.zKc id i b v.sp g off _ c a1 a2 a3 a4 a5 a6 a7 a8 s.ws U rfl hs hil hI ho (by have:=HW.out.ws;omega)).mono ?_
   rintro e w'⟨rfl,v',k1,k2,-⟩
   rw[←hv] at k2
   obtain⟨k3,k4⟩:=hM.wait k1 k2
   exact⟨rfl,⟨_,k3⟩,(Tn.below hU h.base).trans k4⟩
  have HVN:Hid (∀U v1,TM U b t { s with ws:=s.ws.take i++s.ws.drop (i+1) } v1→Tn tB b w U→Calls Tryz.prog 79 #[.pointer (some ⟨t,0,none⟩),.agg #[.int .i64 a1,.int .i64 a2,.int .i64 a3,.int .i64 a4,.int .i64 a5,.int .i64 a6,.int .i64 a7,.int .i64 a8]] U fun e w'=>∃E,e=.returned E∧Hid (Res tB b t w X (.returned E) w')):=fun U v1 hU hT=>by
   refine(zDs b t _ v1 a1 a2 a3 a4 a5 a6 a7 a8 U hU ⟨HW.out.m0,HW.out.m3,HW.out.book,HW.out.ok,?_⟩ HL.out).mono ?_
   ·have:=HW.out.ws
    simp only[List.length_append,List.length_take,List.length_drop];omega
   ·intro e w' hR
    exact(zBy (hR.step hT tA_tB) HX.out.symm).hid
  obtain⟨q1,n1,c1,q2,n2,c2,sp,vw,pp,qe,ne,ce,qk,nk,ck⟩:=v
  simp only[] at x0 x1 x2 x3 x4 x5 x6 x7
  clear h hw hX hin hl hid hi hI hlt hil hd ho
  go_enter Tryz.func50,Tryz.ntmps50
  go_wp2_with fail
  refine HF.out.mono ?_
  rintro e w1⟨rfl,b1⟩
  have HB:=hidF (b1.alloc b1.size (.cells #[.int .i64 0,.int .i64 0,.int .i64 0,.int .i64 0,.int .i64 0] 54))
  clear b1 HF x0 x1 x2 x3 x4 x5 x6 x7
  go_upto_if 24 with fail
  generalize w1.alloc (.cells #[.int .i64 0,.int .i64 0,.int .i64 0,.int .i64 0,.int .i64 0] 54)=W2 at *
  have x3:=HX3.out W2 HB.out
  go_wp2_with fail
  refine(HDR.out _ HB.out).mono ?_
  rintro e w3⟨rfl,HM3,HT3⟩
  have hb4:Below w3.heap.size w3 (w3.alloc (.cells #[.int .i64 a1,.int .i64 a2,.int .i64 a3,.int .i64 a4,.int .i64 a5,.int .i64 a6,.int .i64 a7,.int .i64 a8] 32)):=(bzR _ _).alloc (nzR _) _
  obtain⟨v1,hM3⟩:=HM3.out
  have HM4:=hidF (hM3.below hb4)
  have HT4:=hidF (HT3.out.trans (Tn.below (S:=tB) hb4 hM3.base))
  clear x3 hM3 HM3 HT3 hb4
  go_wp2_with fail
  refine(HVN.out _ _ HM4.out HT4.out).mono ?_
  rintro e w5⟨E,rfl,HR⟩
  go_wp2_with fail
  go_ret
  exact HR.out
theorem zHY(b t:Nat)(s:TS)(v:TV)(id:Int)(w:World)(h:TM w b t s v)(hw:Wf s)(hl:s.evs.length≤1000000)(hid:(Lit.int .i64 id).wf=true) :
  Calls Tryz.prog 50 #[.pointer (some ⟨t,0,none⟩),.int .i64 id] w (Res tB b t w (cancel s id)):=by
 cases hin:inBook s.bs s.ss id with
 | false=>exact zHX b t s v id w h hw hl hid hin
 | true=>exact zKq b t s v id w h hw hl hid hin
theorem zKr(b t:Nat)(s:TS)(v:TV)(a1 a2 a3 a4 a5 a6 a7 a8:Int)(w:World)(h:TM w b t s v)(hw:Wf s)(hl:s.evs.length≤1000000) :
  Calls Tryz.prog 73 #[.pointer (some ⟨t,0,none⟩),.agg #[.int .i64 a1,.int .i64 a2,.int .i64 a3,.int .i64 a4,.int .i64 a5,.int .i64 a6,.int .i64 a7,.int .i64 a8]] w (Res tB b t w (sleep s ⟨a1,a2,a3,a4,a5,a6,a7,a8⟩)):=by
 obtain⟨W,hW⟩:∃W,W=w.alloc (.cells #[.int .i64 a1,.int .i64 a2,.int .i64 a3,.int .i64 a4,.int .i64 a5,.int .i64 a6,.int .i64 a7,.int .i64 a8] 32):=⟨_,rfl⟩
 have hBW:Below w.heap.size w W:=by rw[hW];exact(bzR _ _).alloc (nzR _) _
 have hrow:W.heap[w.heap.size]?=some (.cells #[.int .i64 a1,.int .i64 a2,.int .i64 a3,.int .i64 a4,.int .i64 a5,.int .i64 a6,.int .i64 a7,.int .i64 a8] 32 (0,0)):=by rw[hW];exact heap_alloc_new w _
 obtain⟨X,hX⟩:∃X,X=sleep s ⟨a1,a2,a3,a4,a5,a6,a7,a8⟩:=⟨_,rfl⟩
 rw[←hX]
 unfold sleep at hX
 have hGl:w.heap.size<W.heap.size:=(gzE.1 hrow).1
 obtain⟨G,hG⟩:∃G,G=w.heap.size:=⟨_,rfl⟩
 have hGW:G<W.heap.size:=by rw[hG];exact hGl
 rw[←hG] at hrow
 have HPU:Hid (∀U,Below W.heap.size W U→Calls Tryz.prog 97 #[.pointer (some ⟨v.sp,0,none⟩),.agg #[.int .i64 a1,.int .i64 a2,.int .i64 a3,.int .i64 a4,.int .i64 a5,.int .i64 a6,.int .i64 a7,.int .i64 a8]] U fun e w'=>∃E,e=.returned E∧Hid ((E=.nilIface∧Hid (∃s1 v1,TM w' b t s1 v1∧s1.evs=s.evs∧X=.ok (tell s1 5 a1 a6 a8))∧Hid (Tn tB b w w')∧w'.heap[G]?=some (.cells #[.int .i64 a1,.int .i64 a2,.int .i64 a3,.int .i64 a4,.int .i64 a5,.int .i64 a6,.int .i64 a7,.int .i64 a8] 32 (0,0)))∨∃k,E=.iface 91 (.int .i64 k)∧Hid (Res tB b t w X (.returned (.iface 91 (.int .i64 k))) w'))):=fun U hU=>by
  have hwU:=hBW.trans (hU.mono hBW.size)
  have hM:=h.below hwU
  refine(wak.put_any ⟨a1,a2,a3,a4,a5,a6,a7,a8⟩ b v.sp v.vw s.ws U hM.stops hw.ws).mono ?_
  rintro e w'⟨rfl,v',k1,k2,-⟩
  obtain⟨k3,k4⟩:=hM.wait k1 k2
  have k5:=(Tn.below (S:=tB) hwU h.base).trans k4
  refine⟨_,rfl,?_⟩
  show _∨_
  by_cases hE:wak.putE s.ws ⟨a1,a2,a3,a4,a5,a6,a7,a8⟩=0
  ·left
   rw[if_pos hE] at hX
   refine⟨by rw[hE];rfl,⟨_,_,k3,rfl,?_⟩,k5,?_⟩
   ·rw[hX]
    unfold wak.putL
    rw[if_pos hE]
   ·refine(k2.block G (by have:=hU.size;omega) (fun e=>?_) (fun e=>?_)).trans ((hU.block G hGW).trans hrow)
    ·have h1:=h.stops.lt;omega
    ·rcases h.stops.own.2 with ⟨h1,_⟩|⟨g,off,cap,cur',h1,h2,h3,_⟩
     ·rw[h1] at e;cases e
     ·rw[h1] at e
      simp only[Value.ownBlock,Option.some.injEq] at e
      have:=(gzE.1 h3).1
      omega
  ·right
   rw[if_neg hE] at hX
   refine⟨_,errV_of hE,?_⟩
   show Res _ _ _ _ _ _ _
   exact zAn hX hE k5
 have HX3:Hid (W.cell? ⟨t,3,none⟩=some (.pointer (some ⟨v.sp,0,none⟩))):=(h.below hBW).cells.2.2.2.1
 obtain⟨c0,c1,c2,c3,c4,c5,c6,c7,-⟩:=wak.row8 hrow
 have HL:=hidF hl
 have HRF:=hidF (bzR W.heap.size W)
 obtain⟨q1,n1,c1',q2,n2,c2',sp,vw,pp,qe,ne,ce,qk,nk,ck⟩:=v
 have x3:=HX3.out
 simp only[] at x3
 clear h hw hl hBW hrow hX hGl hGW HX3
 go_enter Tryz.func73,Tryz.ntmps73
 go_upto_region 1 with fail
 rw[←hW]
 simp only[←hG]
 clear hW hG
 go_region_with (go_at_call 97;with_reducible refine(HPU.out _ ?_).mono ?_;(with_reducible repeat' (first|exact HRF.out|assumption|refine Below.drew ?_));rintro x w2 ⟨E,rfl,HOR⟩)
 all_goals
  rcases HOR.out with ⟨rfl,HM,HT,h6⟩|⟨k,rfl,HR⟩
  rotate_left
  ·clear HOR
   go_wp2_with fail
   go_ret
   exact HR.out
  ·(clear HOR
    obtain⟨s1,v1,hM,hs1,hx1⟩:=HM.out
    have HTL:=hidF (zBP (w0:=w) (x:=X) (S:=tB) 5 a1 a6 a8 hM HT.out tA_tB (by rw[hs1];exact HL.out) hx1)
    clear c0 c1 c2 c3 c4 c5 c6 c7 x3 hM hs1 hx1
    obtain⟨c0,c1,c2,c3,c4,c5,c6,c7,-⟩:=wak.row8 h6
    clear h6
    go_wp2_with fail
    refine HTL.out.mono ?_
    rintro x w3⟨rfl,HR⟩
    clear c0 c1 c2 c3 c4 c5 c6 c7
    go_wp2_with fail
    go_ret
    exact HR.out)
end flr
namespace flr
open Go.RowKit
open que (R rchk)
open sid (L DL LS)
open mee (T tV OwnT otherL comeE metR)
open ord (O oV chk errV errV_zero errV_of)
open bok (bookE inBook)
open kin (kdoE)
open slf (OwnI sE Fine)
open que (bal)
open wak (St SL Lies oL idx Trn)
structure VI (m:Int) (bs ss:List L) (o:O) (w' : World) (q1:Option Addr) (n1 c1:Nat) (q2:Option Addr) (n2 c2:Nat) (qt:Option Addr) (nt ct:Nat) (g:Int) (qi:Option Addr) (ni ci:Nat) (E:Value):Prop where
 ok:vE m bs ss o=0→E=.nilIface∧g=(vR m bs ss o).gone∧DL w' 0 (.slice q1 n1 c1) (vR m bs ss o).bs∧DL w' 0 (.slice q2 n2 c2) (vR m bs ss o).ss∧OwnT w' 0 (.slice qt nt ct) (vR m bs ss o).ts∧OwnI w' 0 (.slice qi ni ci) (vR m bs ss o).ids
 bad:¬vE m bs ss o=0→E=.iface 91 (.int .i64 (vE m bs ss o))
theorem VI.kp{S:List TypeId}{m:Int}{bs ss:List L}{o:O}{w w' : World}{q1:Option Addr}{n1 c1:Nat}{q2:Option Addr}{n2 c2:Nat}{qt:Option Addr}{nt ct:Nat}{g:Int}{qi:Option Addr}{ni ci:Nat}{E:Value}(h:VI m bs ss o w q1 n1 c1 q2 n2 c2 qt nt ct g qi ni ci E)(hk:Kp S w w')(h1:52 ∉ S)(h2:54 ∉ S)(h3:40 ∉ S)(h4:3 ∉ S):VI m bs ss o w' q1 n1 c1 q2 n2 c2 qt nt ct g qi ni ci E:=
 ⟨fun e=>by
  obtain⟨a,b,c,d,e,f⟩:=h.ok e
  exact⟨a,b,hk.dl c h1 h2,hk.dl d h1 h2,hk.ownQ e h3,hk.ownQ f h4⟩,h.bad⟩
theorem zNs(m:Int)(h0:0≤m)(h3:m≤3)(q1 q2:Option Addr)(n1 n2 c1 c2:Nat)(bs ss:List L)(a b c d p q s t:Int)(w:World)(h1:LS w (.slice q1 n1 c1) bs)(h2:LS w (.slice q2 n2 c2) ss) :
  Calls Tryz.prog 98 #[.agg #[.slice q1 n1 c1,.slice q2 n2 c2],.agg #[.int .i64 a,.int .i64 b,.int .i64 c,.int .i64 d,.int .i64 p,.int .i64 q,.int .i64 s,.int .i64 t],.int .i64 m] w fun e w'=>∃u1 m1 d1 u2 m2 d2 qt nt ct g qi ni ci E,e=.returned (.tuple #[.agg #[.slice u1 m1 d1,.slice u2 m2 d2],.slice qt nt ct,.int .i64 g,.slice qi ni ci,E])∧VI m bs ss ⟨a,b,c,d,p,q,s,t⟩ w' u1 m1 d1 u2 m2 d2 qt nt ct g qi ni ci E∧Below w.heap.size w w':=by
 by_cases hm:m=0
 ·subst hm
  refine(slf.zMG q1 q2 n1 n2 c1 c2 bs ss a b c d p q s t w h1 h2).mono ?_
  rintro e w'⟨k1,k2,k3⟩
  have hE:vE 0 bs ss ⟨a,b,c,d,p,q,s,t⟩=kdoE bs ss ⟨a,b,c,d,p,q,s,t⟩:=by unfold vE;rw[if_pos rfl]
  by_cases hk:kdoE bs ss ⟨a,b,c,d,p,q,s,t⟩=0
  ·obtain⟨y1,y2,l1,l2,f1,f2,tv,rfl,D1,D2,OT⟩:=k1 hk
   obtain⟨tq,tc,rfl⟩:=wak.OwnM.form OT
   refine⟨y1,l1,f1,y2,l2,f2,tq,_,tc,_,none,0,0,_,rfl,⟨fun _=>⟨rfl,?_,?_,?_,?_,?_⟩,fun h=>absurd (hE.trans hk) h⟩,k3⟩
   ·unfold vR;rw[if_pos rfl]
   ·unfold vR;rw[if_pos rfl];exact D1.mono (Nat.zero_le _)
   ·unfold vR;rw[if_pos rfl];exact D2.mono (Nat.zero_le _)
   ·unfold vR;rw[if_pos rfl];exact wak.OwnM.mono OT (Nat.zero_le _)
   ·unfold vR;rw[if_pos rfl];exact⟨rfl,.inl ⟨rfl,rfl⟩⟩
  ·have:=k2 hk
   subst this
   exact⟨none,0,0,none,0,0,none,0,0,0,none,0,0,_,rfl,⟨fun h=>absurd (hE.symm.trans h) hk,fun _=>by rw[hE];exact spn.errV_of hk⟩,k3⟩
 ·refine(slf.zMF m (by omega) q1 q2 n1 n2 c1 c2 bs ss a b c d p q s t w h1 h2).mono ?_
  rintro e w'⟨k1,k2,k3⟩
  by_cases hc:comeE bs ss ⟨a,b,c,d,p,q,s,t⟩=0
  ·obtain⟨v,hv⟩:=slf.zCO (m:=m) (o:=⟨a,b,c,d,p,q,s,t⟩) (k:=q) (by omega) (other_good hc)
   have hvv:=zCh hv
   have hE:vE m bs ss ⟨a,b,c,d,p,q,s,t⟩=sE bs ss ⟨a,b,c,d,p,q,s,t⟩ v:=by unfold vE;rw[if_neg hm,if_pos hc];simp only[hvv]
   have hV:vR m bs ss ⟨a,b,c,d,p,q,s,t⟩=⟨kin.setB (slf.repB ⟨a,b,c,d,p,q,s,t⟩ bs v.ls) ⟨a,b,c,d,p,q,s,t⟩ (slf.lfV v),kin.setS (slf.repS ⟨a,b,c,d,p,q,s,t⟩ ss v.ls) ⟨a,b,c,d,p,q,s,t⟩ (slf.lfV v),v.ts,slf.gnV v+kin.setG ⟨a,b,c,d,p,q,s,t⟩ (slf.lfV v),v.ids⟩:=by unfold vR;rw[if_neg hm];simp only[hvv]
   obtain⟨k4,k5⟩:=k2 hc v hv
   by_cases hs:sE bs ss ⟨a,b,c,d,p,q,s,t⟩ v=0
   ·obtain⟨y1,y2,l1,l2,f1,f2,tv,iv,rfl,D1,D2,OT,OI⟩:=k4 hs
    obtain⟨tq,tc,rfl⟩:=wak.OwnM.form OT
    obtain⟨iq,ic,rfl⟩:=wak.OwnM.form OI
    refine⟨y1,l1,f1,y2,l2,f2,tq,_,tc,_,iq,_,ic,_,rfl,⟨fun _=>⟨rfl,?_,?_,?_,?_,?_⟩,fun h=>absurd (hE.trans hs) h⟩,k3⟩
    ·rw[hV]
    ·rw[hV];exact D1.mono (Nat.zero_le _)
    ·rw[hV];exact D2.mono (Nat.zero_le _)
    ·rw[hV];exact wak.OwnM.mono OT (Nat.zero_le _)
    ·rw[hV];exact wak.OwnM.mono OI (Nat.zero_le _)
   ·have:=k5 hs
    subst this
    exact⟨none,0,0,none,0,0,none,0,0,0,none,0,0,_,rfl,⟨fun h=>absurd (hE.symm.trans h) hs,fun _=>by rw[hE];exact spn.errV_of hs⟩,k3⟩
  ·have:=k1 hc
   subst this
   have hE:vE m bs ss ⟨a,b,c,d,p,q,s,t⟩=comeE bs ss ⟨a,b,c,d,p,q,s,t⟩:=by unfold vE;rw[if_neg hm,if_neg hc]
   exact⟨none,0,0,none,0,0,none,0,0,0,none,0,0,_,rfl,⟨fun h=>absurd (hE.symm.trans h) hc,fun _=>by rw[hE];exact spn.errV_of hc⟩,k3⟩
theorem zHZ{W w2:World}{cur:Array Value}{t:TypeId}(h:Below (W.alloc (.cells cur t)).drew.heap.size (W.alloc (.cells cur t)).drew w2):w2.heap[W.heap.size]?=some (.cells cur t (0,0)):=keepF (show (W.alloc (.cells cur t)).drew.heap[W.heap.size]?=some (.cells cur t (0,0)) from heap_alloc_new W _) h
theorem zEX(b t:Nat)(s:TS)(v:TV)(a1 a2 a3 a4 a5 a6 a7 a8:Int)(w:World)(h:TM w b t s v)(hw:Wf s) :
  Calls Tryz.prog 74 #[.pointer (some ⟨t,0,none⟩),.agg #[.int .i64 a1,.int .i64 a2,.int .i64 a3,.int .i64 a4,.int .i64 a5,.int .i64 a6,.int .i64 a7,.int .i64 a8]] w fun e w'=>∃q1 n1 c1 q2 n2 c2 qt nt ct g qi ni ci E,e=.returned (.tuple #[.agg #[.slice q1 n1 c1,.slice q2 n2 c2,.slice qt nt ct,.int .i64 g,.slice qi ni ci],E])∧VI s.mode s.bs s.ss ⟨a1,a2,a3,a4,a5,a6,a7,a8⟩ w' q1 n1 c1 q2 n2 c2 qt nt ct g qi ni ci E∧Below w.heap.size w w':=by
 obtain⟨W1,hW1⟩:∃W,W=w.alloc (.cells #[.int .i64 a1,.int .i64 a2,.int .i64 a3,.int .i64 a4,.int .i64 a5,.int .i64 a6,.int .i64 a7,.int .i64 a8] 32):=⟨_,rfl⟩
 have hb1:Below w.heap.size w W1:=by rw[hW1];exact(bzR _ _).alloc (nzR _) _
 have hs1:W1.heap.size=w.heap.size+1:=by rw[hW1];simp
 have hr1:W1.heap[w.heap.size]?=some (.cells #[.int .i64 a1,.int .i64 a2,.int .i64 a3,.int .i64 a4,.int .i64 a5,.int .i64 a6,.int .i64 a7,.int .i64 a8] 32 (0,0)):=by rw[hW1];exact heap_alloc_new w _
 obtain⟨W,hW⟩:∃W,W=W1.alloc (.cells #[.slice none 0 0,.slice none 0 0,.slice none 0 0,.int .i64 0,.slice none 0 0] 132):=⟨_,rfl⟩
 have hb2:Below W1.heap.size W1 W:=by rw[hW];exact(bzR _ _).alloc (nzR _) _
 have hs2:W.heap.size=w.heap.size+2:=by rw[hW];simp[hs1]
 have hr2:W.heap[w.heap.size+1]?=some (.cells #[.slice none 0 0,.slice none 0 0,.slice none 0 0,.int .i64 0,.slice none 0 0] 132 (0,0)):=by rw[←hs1,hW];exact heap_alloc_new W1 _
 have hBW:=hb1.trans (hb2.mono hb1.size)
 obtain⟨G,hG⟩:∃G,G=w.heap.size:=⟨_,rfl⟩
 have hrG:W.heap[G]?=some (.cells #[.int .i64 a1,.int .i64 a2,.int .i64 a3,.int .i64 a4,.int .i64 a5,.int .i64 a6,.int .i64 a7,.int .i64 a8] 32 (0,0)):=by rw[hG];exact keepF hr1 hb2
 rw[←hG] at hr2
 have HSD:Hid (∀U,Below W.heap.size W U→Calls Tryz.prog 98 #[.agg #[.slice v.q1 v.n1 v.c1,.slice v.q2 v.n2 v.c2],.agg #[.int .i64 a1,.int .i64 a2,.int .i64 a3,.int .i64 a4,.int .i64 a5,.int .i64 a6,.int .i64 a7,.int .i64 a8],.int .i64 s.mode] U fun e w'=>∃u1 m1 d1 u2 m2 d2 qt nt ct g qi ni ci E,e=.returned (.tuple #[.agg #[.slice u1 m1 d1,.slice u2 m2 d2],.slice qt nt ct,.int .i64 g,.slice qi ni ci,E])∧Hid (VI s.mode s.bs s.ss ⟨a1,a2,a3,a4,a5,a6,a7,a8⟩ w' u1 m1 d1 u2 m2 d2 qt nt ct g qi ni ci E)∧Hid (Below U.heap.size U w')∧Below W.heap.size W w'):=fun U hU=>by
  have hM:=h.below (hBW.trans (hU.mono hBW.size))
  refine(zNs s.mode hw.m0 hw.m3 v.q1 v.q2 v.n1 v.n2 v.c1 v.c2 s.bs s.ss a1 a2 a3 a4 a5 a6 a7 a8 U hM.buys.ls hM.sells.ls).mono ?_
  rintro e w'⟨u1,m1,d1,u2,m2,d2,qt,nt,ct,g,qi,ni,ci,E,rfl,k1,k2⟩
  exact⟨u1,m1,d1,u2,m2,d2,qt,nt,ct,g,qi,ni,ci,E,rfl,k1,k2,hU.trans (k2.mono hU.size)⟩
 obtain⟨x0,x1,x2,x3,x4,x5,x6,x7,-⟩:=(h.below hBW).cells
 obtain⟨c0,c1,c2,c3,c4,c5,c6,c7,-⟩:=wak.row8 hrG
 have HRF:=hidF (bzR W.heap.size W)
 have HRP:=hidF hr2
 have HBW:=hidF hBW
 have HSZ:=hidF (show W.heap.size=w.heap.size+2∧G=w.heap.size from⟨hs2,hG⟩)
 obtain⟨q1,n1,c1',q2,n2,c2',sp,vw,pp,qe,ne,ce,qk,nk,ck⟩:=v
 simp only[] at x0 x1 x2 x3 x4 x5 x6 x7
 generalize s.mode=M at *
 generalize s.bs=BS at *
 generalize s.ss=SS at *
 clear h hw hBW hrG hr1 hr2 hb1 hb2 hs1 hs2
 go_enter Tryz.func74,Tryz.ntmps74
 go_upto_region 1 with fail
 rw[←hW1,←hW]
 simp only[←hG]
 clear hW hW1 hG
 have SO:Hid (∀U,Below W.heap.size W U→(U.cell? ⟨t,0,none⟩=some (.int .i64 M)∧U.cell? ⟨t,1,none⟩=some (.slice q1 n1 c1')∧U.cell? ⟨t,2,none⟩=some (.slice q2 n2 c2')∧U.cell? ⟨G,0,none⟩=some (.int .i64 a1)∧U.cell? ⟨G,1,none⟩=some (.int .i64 a2)∧U.cell? ⟨G,2,none⟩=some (.int .i64 a3)∧U.cell? ⟨G,3,none⟩=some (.int .i64 a4)∧U.cell? ⟨G,4,none⟩=some (.int .i64 a5)∧U.cell? ⟨G,5,none⟩=some (.int .i64 a6)∧U.cell? ⟨G,6,none⟩=some (.int .i64 a7)∧U.cell? ⟨G,7,none⟩=some (.int .i64 a8))):=fun U hU=>⟨spn.keeps hU x0,spn.keeps hU x1,spn.keeps hU x2,spn.keeps hU c0,spn.keeps hU c1,spn.keeps hU c2,spn.keeps hU c3,spn.keeps hU c4,spn.keeps hU c5,spn.keeps hU c6,spn.keeps hU c7⟩
 clear x0 x1 x2 x3 x4 x5 x6 x7 c0 c1 c2 c3 c4 c5 c6 c7
 go_region_held3 (fun W=>W.cell? ⟨t,0,none⟩=some (.int .i64 M)∧W.cell? ⟨t,1,none⟩=some (.slice q1 n1 c1')∧W.cell? ⟨t,2,none⟩=some (.slice q2 n2 c2')∧W.cell? ⟨G,0,none⟩=some (.int .i64 a1)∧W.cell? ⟨G,1,none⟩=some (.int .i64 a2)∧W.cell? ⟨G,2,none⟩=some (.int .i64 a3)∧W.cell? ⟨G,3,none⟩=some (.int .i64 a4)∧W.cell? ⟨G,4,none⟩=some (.int .i64 a5)∧W.cell? ⟨G,5,none⟩=some (.int .i64 a6)∧W.cell? ⟨G,6,none⟩=some (.int .i64 a7)∧W.cell? ⟨G,7,none⟩=some (.int .i64 a8))
  (first|with_reducible assumption|(refine SO.out _ ?_;(with_reducible repeat' (first|exact HRF.out|assumption|refine bal ?_ _|refine Below.setCell ?_ ?_ _|refine Below.drew ?_|exact nzR _|exact Below.size (by assumption)));done))
  (first|(go_at_call 98;with_reducible refine(HSD.out _ ?_).mono ?_;(with_reducible repeat' (first|exact HRF.out|assumption|refine bal ?_ _|refine Below.setCell ?_ ?_ _|refine Below.drew ?_|exact nzR _|exact Below.size (by assumption)));rintro x w2 ⟨u1,m1,d1,u2,m2,d2,qt,nt,ct,g,qi,ni,ci,E,rfl,HV,HB2,hb2⟩;have hSW:=SO.out w2 hb2;(first|(have hq:=zHZ HB2.out;obtain⟨z0,z1,zf⟩:=sid.rowTwo hq;have zf0:=zf 0;have zf1:=zf 1)|skip)))
 ·obtain⟨Z,hZ⟩:∃Z,Z=w2.alloc (.cells #[.slice u1 m1 d1,.slice u2 m2 d2] 46):=⟨_,rfl⟩
  have hbZ:Below w2.heap.size w2 Z:=by rw[hZ];exact(bzR _ _).alloc (nzR _) _
  have hrB:Z.heap[w2.heap.size]?=some (.cells #[.slice u1 m1 d1,.slice u2 m2 d2] 46 (0,0)):=by rw[hZ];exact heap_alloc_new w2 _
  have hV:=HV.out.kp (S:=[]) (Kp.below hbZ) (by simp) (by simp) (by simp) (by simp)
  have hbW:=hb2.trans (hbZ.mono hb2.size)
  rw[←hZ]
  clear hZ hbZ hb2 HB2 HV hSW SO HSD
  generalize w2.heap.size=B at *
  obtain⟨b0,b1,-⟩:=sid.rowTwo hrB
  have hrP:=keepF HRP.out hbW
  obtain⟨p0,p1,p2,p3,p4,pf⟩:=sid.rowFive hrP
  have pf0:=pf 0
  have pf1:=pf 1
  have pf2:=pf 2
  have pf3:=pf 3
  have pf4:=pf 4
  have hgg:=sid.grFive Z (G+1) (.slice u1 m1 d1) (.slice u2 m2 d2) (.slice qt nt ct) (.int .i64 g) (.slice qi ni ci)
  have HX1:=hidF (sid.setFive hrP (.slice u1 m1 d1) (.slice u2 m2 d2) (.slice qt nt ct) (.int .i64 g) (.slice qi ni ci))
  have hwZ:=HBW.out.trans (hbW.mono HBW.out.size)
  have HBF:=hidF (hwZ.grown hgg hwZ.size (fun k hk=>by cases hk;have:=HSZ.out;omega))
  have HVF:=hidF (hV.kp (S:=[132]) (Kp.grown hgg hrP (by simp)) (by decide) (by decide) (by decide) (by decide))
  clear hrB hrP pf hgg hwZ hV hbW
  go_wp2_with fail
  generalize ((((Z.setCell ⟨G+1,0,none⟩ (.slice u1 m1 d1)).setCell ⟨G+1,1,none⟩ (.slice u2 m2 d2)).setCell ⟨G+1,2,none⟩ (.slice qt nt ct)).setCell ⟨G+1,3,none⟩ (.int .i64 g)).setCell ⟨G+1,4,none⟩ (.slice qi ni ci)=X at *
  obtain⟨y0,y1,y2,y3,y4,-⟩:=sid.rowFive HX1.out
  exact bodyPost_ret (v:=.tuple #[.agg #[.slice u1 m1 d1,.slice u2 m2 d2,.slice qt nt ct,.int .i64 g,.slice qi ni ci],E]) (by simp[results,Tryz.results74,go_sem,y0,y1,y2,y3,y4]) rfl ⟨u1,m1,d1,u2,m2,d2,qt,nt,ct,g,qi,ni,ci,E,rfl,HVF.out,HBF.out⟩
 ·obtain⟨Z,hZ⟩:∃Z,Z=(w2.setCell ⟨W.heap.size,0,none⟩ (.slice u1 m1 d1)).setCell ⟨W.heap.size,1,none⟩ (.slice u2 m2 d2):=⟨_,rfl⟩
  have hgZ:w2.grownBy Z (some W.heap.size):=by rw[hZ];exact sid.grTwo w2 W.heap.size _ _
  have hrB:Z.heap[W.heap.size]?=some (.cells #[.slice u1 m1 d1,.slice u2 m2 d2] 46 (0,0)):=by rw[hZ];exact sid.setTwo hq _ _
  have hV:=HV.out.kp (S:=[46]) (Kp.grown hgZ hq (by simp)) (by decide) (by decide) (by decide) (by decide)
  have hbW:=hb2.grown hgZ hb2.size (fun k hk=>by cases hk;exact nzR _)
  rw[←hZ]
  clear hZ hgZ hb2 HB2 HV hSW SO HSD z0 z1 zf zf0 zf1 hq
  generalize hBB:W.heap.size=B at hrB
  clear hBB
  obtain⟨b0,b1,-⟩:=sid.rowTwo hrB
  have hrP:=keepF HRP.out hbW
  obtain⟨p0,p1,p2,p3,p4,pf⟩:=sid.rowFive hrP
  have pf0:=pf 0
  have pf1:=pf 1
  have pf2:=pf 2
  have pf3:=pf 3
  have pf4:=pf 4
  have hgg:=sid.grFive Z (G+1) (.slice u1 m1 d1) (.slice u2 m2 d2) (.slice qt nt ct) (.int .i64 g) (.slice qi ni ci)
  have HX1:=hidF (sid.setFive hrP (.slice u1 m1 d1) (.slice u2 m2 d2) (.slice qt nt ct) (.int .i64 g) (.slice qi ni ci))
  have hwZ:=HBW.out.trans (hbW.mono HBW.out.size)
  have HBF:=hidF (hwZ.grown hgg hwZ.size (fun k hk=>by cases hk;have:=HSZ.out;omega))
  have HVF:=hidF (hV.kp (S:=[132]) (Kp.grown hgg hrP (by simp)) (by decide) (by decide) (by decide) (by decide))
  clear hrB hrP pf hgg hwZ hV hbW
  go_wp2_with fail
  generalize ((((Z.setCell ⟨G+1,0,none⟩ (.slice u1 m1 d1)).setCell ⟨G+1,1,none⟩ (.slice u2 m2 d2)).setCell ⟨G+1,2,none⟩ (.slice qt nt ct)).setCell ⟨G+1,3,none⟩ (.int .i64 g)).setCell ⟨G+1,4,none⟩ (.slice qi ni ci)=X at *
  obtain⟨y0,y1,y2,y3,y4,-⟩:=sid.rowFive HX1.out
  exact bodyPost_ret (v:=.tuple #[.agg #[.slice u1 m1 d1,.slice u2 m2 d2,.slice qt nt ct,.int .i64 g,.slice qi ni ci],E]) (by simp[results,Tryz.results74,go_sem,y0,y1,y2,y3,y4]) rfl ⟨u1,m1,d1,u2,m2,d2,qt,nt,ct,g,qi,ni,ci,E,rfl,HVF.out,HBF.out⟩
end flr
namespace flr
open Go.RowKit
open que (R rchk)
open sid (L DL LS)
open mee (T tV OwnT)
open ord (O oV chk errV errV_zero errV_of)
open que (bal)
open wak (OwnM St SL Lies oL idx Trn step_append_mid)
theorem rowSix{w:World}{B:Nat}{x0 x1 x2 x3 x4 x5:Value}{t:TypeId}(h:w.heap[B]?=some (.cells #[x0,x1,x2,x3,x4,x5] t (0,0))) :
  w.cell? ⟨B,0,none⟩=some x0∧w.cell? ⟨B,1,none⟩=some x1∧w.cell? ⟨B,2,none⟩=some x2∧w.cell? ⟨B,3,none⟩=some x3∧w.cell? ⟨B,4,none⟩=some x4∧w.cell? ⟨B,5,none⟩=some x5∧∀j,w.frozen? ⟨B,j,none⟩=false:=
 ⟨by simp[World.cell?,h],by simp[World.cell?,h],by simp[World.cell?,h],by simp[World.cell?,h],by simp[World.cell?,h],by simp[World.cell?,h],fun j=>frozen_of_row w _ j _ _ h⟩
theorem stepI(k:Nat)(h:k≤1000000):wrap64 ((k:Int)+1)=((k+1:Nat):Int):=by unfold wrap64;omega
theorem zGM{α:Type}[Inhabited α](l:List α)(k:Nat)(h:k<l.length):l.drop k=l[k]!::l.drop (k+1):=by
 rw[List.drop_eq_getElem_cons h];simp[h]
structure TI (b t:Nat) (s:TS) (q:Option Addr) (n c:Nat) (ts:List T) (w:World) (X:Rs) (k:Nat) (wr:World):Prop where
 mem:∃s1 v1,TM wr b t s1 v1∧Wf s1∧s1.evs.length=s.evs.length+k∧X=trades s1 (ts.drop k)
 tn:Tn tA b w wr
 own:OwnT wr 0 (.slice q n c) ts
theorem zDu{b t:Nat}{s1:TS}{v1:TV}{w w2:World}{x:T}{ps:List pur.Pz}(hM:TM w2 b t { s1 with ps:=ps } v1)(hT:Tn tA b w w2){w' U:World}(hU:Below w2.heap.size w2 U){q:Option Addr}{n c:Nat}
  (ho:OwnM w' b 42 10 (.slice q n c) (s1.evs.length+1) (flatE s1.evs++([.int .i64 2,.int .i64 0,.int .i64 0,.int .i64 0]++tV x))) (hg:U.grownBy w' (Value.slice v1.qe v1.ne v1.ce).ownBlock) :
  (w'.cell? ⟨t,6,none⟩=some (.slice v1.qe v1.ne v1.ce)∧w'.frozen? ⟨t,6,none⟩=false)∧(∃v',TM (w'.setCell ⟨t,6,none⟩ (.slice q n c)) b t { s1 with ps:=ps,evs:=s1.evs++[⟨2,0,0,0,x⟩] } v')∧Tn tA b w (w'.setCell ⟨t,6,none⟩ (.slice q n c)):=by
 have hMU:=hM.below hU
 have hr:=hMU.evrow hg
 obtain⟨-,-,-,-,-,-,y6,-,yf⟩:=wak.row8 hr
 have e1:s1.evs.length+1=(s1.evs++[(⟨2,0,0,0,x⟩:Ev)]).length:=by rw[List.length_append];rfl
 have e2:flatE s1.evs++([.int .i64 2,.int .i64 0,.int .i64 0,.int .i64 0]++tV x)=flatE (s1.evs++[(⟨2,0,0,0,x⟩:Ev)]):=by rw[zCn,zET];rfl
 rw[e1,e2] at ho
 obtain⟨a1,a2⟩:=hMU.told ho hg
 exact⟨⟨y6,yf 6⟩,⟨_,a1⟩,(hT.trans (Tn.below hU hM.base)).trans a2⟩
theorem trade_any(b t:Nat)(s:TS)(v:TV)(q:Option Addr)(n c:Nat)(ts:List T)(w:World)(h:TM w b t s v)(hw:Wf s)(hT:OwnT w 0 (.slice q n c) ts)(hl:s.evs.length+ts.length≤1000000) :
  Calls Tryz.prog 99 #[.pointer (some ⟨t,0,none⟩),.slice q n c] w (Res tA b t w (trades s ts)):=by
 have hn:n=ts.length:=by obtain⟨q',c',e⟩:=wak.OwnM.form hT;cases e;rfl
 obtain⟨X,hX⟩:∃X,X=trades s ts:=⟨_,rfl⟩
 rw[←hX]
 have H0:Hid (TI b t s q n c ts w X 0 w):=⟨⟨s,v,h,hw,rfl,hX⟩,Tn.refl _ _ _,hT⟩
 have HN:=hidF hn
 have HL:=hidF hl
 have HN1:Hid (n≤1000000):=by show n≤1000000;omega
 obtain⟨i0,hi0,hz0,hz1,hz2⟩:=infoE'
 have HI:=hidF hi0
 clear h hw hT hl hX hn hi0
 go_enter Tryz.func99,Tryz.ntmps99
 go_wp2_with fail
 go_loopg [6,7,10] n (fun gg _ _ s10 wr=>∃ (kk:Nat),kk≤n∧n - kk≤gg∧s10=.int .i64 kk∧Aside (TI b t s q n c ts w X kk wr))
 case atStart=>exact⟨0,Nat.zero_le _,by omega,rfl,H0.out⟩
 case round=>
  obtain⟨kk,hkk,hg,rfl,HA⟩:=hrel
  clear H0
  by_cases hlt:kk<n
  rotate_left
  ·have hltz:¬(kk:Int)<(n:Int):=by omega
   obtain⟨⟨s1,v1,hM,-,-,hXX⟩,hTn,-⟩:=HA.out
   have HR:Hid (Res tA b t w X (.returned .nilIface) wr):=by
    refine res_ok (s:=s1) ?_ hTn hM
    rw[hXX,List.drop_eq_nil_of_le (by rw[←HN.out];omega)];rfl
   clear HA hM hXX hTn
   go_wp2_with fail
   go_ret
   exact HR.out
  ·have hltz:(kk:Int)<(n:Int):=by omega
   have hlz:kk<ts.length:=by rw[←HN.out];exact hlt
   obtain⟨⟨s1,v1,hM,hwf,hev,hXX⟩,hTn,hO⟩:=HA.out
   obtain⟨g,off,rfl,hG,x0,x1,x2,x3,x4,x5⟩:=mee.OwnT.at hO hlz
   rw[zGM ts kk hlz] at hXX
   rcases hxx:ts[kk]! with ⟨t1,t2,t3,t4,t5,t6⟩
   rw[hxx] at x0 x1 x2 x3 x4 x5 hXX
   simp only[] at x0 x1 x2 x3 x4 x5
   obtain⟨W1,hW1⟩:∃W1,W1=wr.alloc (.cells #[.int .i64 t1,.int .i64 t2,.int .i64 t3,.int .i64 t4,.int .i64 t5,.int .i64 t6] 40):=⟨_,rfl⟩
   have hb1:Below wr.heap.size wr W1:=by rw[hW1];exact(bzR _ _).alloc (nzR _) _
   have hr1:W1.heap[wr.heap.size]?=some (.cells #[.int .i64 t1,.int .i64 t2,.int .i64 t3,.int .i64 t4,.int .i64 t5,.int .i64 t6] 40 (0,0)):=by rw[hW1];exact heap_alloc_new wr _
   have HM:Hid (kk<n∧n - kk≤gk):=⟨hlt,hg⟩
   have HEI:=hidF (stepI kk (by have:=HN1.out;omega))
   have HEV:Hid (s1.evs.length≤999999):=by show s1.evs.length≤999999;have:=HL.out;omega
   obtain⟨Z,hZ⟩:∃Z,Z=wr.heap.size:=⟨_,rfl⟩
   rw[←hZ] at hr1
   have HNX:Hid (∀ (wz:World) (ps:List pur.Pz),(∃v',TM wz b t { s1 with ps:=ps,evs:=s1.evs++[(⟨2,0,0,0,⟨t1,t2,t3,t4,t5,t6⟩⟩:Ev)] } v')→Tn tA b w wz→ps=pur.tradeP s1.ps t3 t4 t5 t6→pur.tradeE s1.ps t3 t4 t5 t6=0→OwnT wz 0 (.slice (some ⟨g,off,none⟩) n c) ts→TI b t s (some ⟨g,off,none⟩) n c ts w X (kk+1) wz):=fun wz ps hv' ht' hps hE ho'=>by
    obtain⟨v',hv'⟩:=hv'
    refine⟨⟨_,v',hv',⟨hwf.m0,hwf.m3,hwf.book,?_,hwf.ws⟩,?_,?_⟩,ht',ho'⟩
    ·rw[hps];exact pur.zGH hwf.ok _ _ _ _
    ·simp only[List.length_append,List.length_cons,List.length_nil,hev];omega
    ·rw[hXX]
     show (trade1 s1 ⟨t1,t2,t3,t4,t5,t6⟩).bind _=_
     unfold trade1
     simp only[]
     rw[if_pos hE,hps]
     rfl
   have HTR:Hid (∀U,Below W1.heap.size W1 U→Calls Tryz.prog 127 #[.pointer (some ⟨v1.pp,0,none⟩),.agg #[.int .i64 t1,.int .i64 t2,.int .i64 t3,.int .i64 t4,.int .i64 t5,.int .i64 t6]] U fun e w'=>∃E,e=.returned E∧Hid ((E=.nilIface∧Hid (TM w' b t { s1 with ps:=pur.tradeP s1.ps t3 t4 t5 t6 } v1)∧Hid (Tn tA b w w')∧Hid (OwnT w' 0 (.slice (some ⟨g,off,none⟩) n c) ts)∧Hid (pur.tradeE s1.ps t3 t4 t5 t6=0)∧w'.heap[Z]?=some (.cells #[.int .i64 t1,.int .i64 t2,.int .i64 t3,.int .i64 t4,.int .i64 t5,.int .i64 t6] 40 (0,0)))∨∃k,E=.iface 91 (.int .i64 k)∧Hid (Res tA b t w X (.returned (.iface 91 (.int .i64 k))) w'))):=fun U hU=>by
    have hwU:=hb1.trans (hU.mono hb1.size)
    have hMU:=hM.below hwU
    refine(pur.trade_any v1.pp s1.ps t1 t2 t3 t4 t5 t6 U hMU.purs hwf.ok).mono ?_
    rintro e w'⟨rfl,k1,k2⟩
    obtain⟨k3,k4⟩:=hMU.pay k1 k2
    have k5:=(hTn.trans (Tn.below hwU hM.base)).trans k4
    refine⟨_,rfl,?_⟩
    show _∨_
    by_cases hE:pur.tradeE s1.ps t3 t4 t5 t6=0
    ·left
     exact⟨by rw[hE];rfl,k3,k5,k4.kp.ownQ (Kp.ownQ (S:=[]) (Kp.below hwU) hO (by simp)) (by decide),hE,k4.kp.typ _ _ _ (keepF hr1 hU) (by decide)⟩
    ·right
     refine⟨_,errV_of hE,?_⟩
     show Res _ _ _ _ _ _ _
     refine zAn ?_ hE k5
     rw[hXX]
     show (trade1 s1 ⟨t1,t2,t3,t4,t5,t6⟩).bind _=_
     unfold trade1
     simp only[]
     rw[if_neg hE]
     rfl
   have HX4:Hid (W1.cell? ⟨t,4,none⟩=some (.pointer (some ⟨v1.pp,0,none⟩))):=(hM.below hb1).cells.2.2.2.2.1
   have HR1:=hidF hr1
   have HRF:=hidF (bzR W1.heap.size W1)
   clear hM hwf hev hXX hTn hO hb1 hr1 HA hlt hg hkk hlz hxx
   go_upto_region 4 with fail
   rw[←hW1]
   simp only[←hZ]
   clear x0 x1 x2 x3 x4 x5 hW1 hZ hG
   have x4:=HX4.out
   obtain⟨z0,z1,z2,z3,z4,z5,-⟩:=rowSix HR1.out
   go_region_with (go_at_call 127;with_reducible refine(HTR.out _ ?_).mono ?_;(with_reducible repeat' (first|exact HRF.out|assumption|refine Below.drew ?_));rintro x w2 ⟨E,rfl,HOR⟩)
   all_goals
    clear x4 z0 z1 z2 z3 z4 z5
    rcases HOR.out with ⟨rfl,HM2,HT2,HO2,HE2,h6⟩|⟨k,rfl,HR⟩
    rotate_left
    ·clear HOR
     go_wp2_with fail
     go_ret
     exact HR.out
    ·clear HOR
     have HSZ:Hid (Z<w2.heap.size∧t<w2.heap.size∧b≤w2.heap.size):=⟨(gzE.1 h6).1,HM2.out.lt,HM2.out.base⟩
     have HOE:Hid (OwnM w2 b 42 10 (.slice v1.qe v1.ne v1.ce) s1.evs.length (flatE s1.evs)):=HM2.out.evs
     have HPX:Hid (∀U w' v',Below w2.heap.size w2 U→OwnM w' b 42 10 v' (s1.evs.length+1) (flatE s1.evs++[.int .i64 2,.int .i64 0,.int .i64 0,.int .i64 0,.int .i64 t1,.int .i64 t2,.int .i64 t3,.int .i64 t4,.int .i64 t5,.int .i64 t6])→U.grownBy w' (Value.slice v1.qe v1.ne v1.ce).ownBlock→∃q' n' c',v'=.slice q' n' c'∧(w'.cell? ⟨t,6,none⟩=some (.slice v1.qe v1.ne v1.ce)∧w'.frozen? ⟨t,6,none⟩=false)∧Hid (TI b t s (some ⟨g,off,none⟩) n c ts w X (kk+1) (w'.setCell ⟨t,6,none⟩ (.slice q' n' c')))):=fun U w' v' hU ho hgr=>by
      obtain⟨q',c',rfl⟩:=wak.OwnM.form ho
      obtain⟨y,a1,a2⟩:=zDu (x:=⟨t1,t2,t3,t4,t5,t6⟩) HM2.out HT2.out hU ho hgr
      refine⟨q',_,c',rfl,y,?_⟩
      show TI _ _ _ _ _ _ _ _ _ _ _
      refine HNX.out _ _ a1 a2 rfl HE2.out ?_
      have hk:Kp tA w2 (w'.setCell ⟨t,6,none⟩ (.slice q' (s1.evs.length+1) c')):=by
       obtain⟨-,-,kk⟩:=zDu (w:=w2) (x:=⟨t1,t2,t3,t4,t5,t6⟩) HM2.out (Tn.refl _ _ _) hU ho hgr
       exact kk.kp
      exact hk.ownQ HO2.out (by decide)
     obtain⟨-,-,-,-,-,-,y6,-,-⟩:=HM2.out.cells
     obtain⟨z0,z1,z2,z3,z4,z5,-⟩:=rowSix h6
     obtain⟨r1,r2,r3,r4,r5,r6,r7,r8,r9,qe,ne,ce,qk,nk,ck⟩:=v1
     simp only[] at y6
     have hZ2:=HSZ.out.1
     have ht2:=HSZ.out.2.1
     have hbs:=HSZ.out.2.2
     have hev:=HEV.out
     have ei:=HEI.out
     clear h6 HM2 HT2 HO2 HE2 HNX HTR HX4 HR1 HRF HSZ
     generalize s1.evs.length=N1 at *
     generalize flatE s1.evs=FE at *
     go_upto_region 7 with fail
     go_region_law (refine step_append_mid _ rfl _ _ 28 rfl b 42 i0 zeroE 10 80 Tryz.underlying28 HI.out hz0 hz1 hz2 rfl (.slice qe ne ce) N1 FE rfl (wak.OwnM.below HOE.out (by(with_reducible repeat' (first|assumption|refine bal ?_ _|refine Below.drew ?_|exact bzR _ _)))) _ 1 1 [.int .i64 2,.int .i64 0,.int .i64 0,.int .i64 0,.int .i64 t1,.int .i64 t2,.int .i64 t3,.int .i64 t4,.int .i64 t5,.int .i64 t6] rfl rfl (World.news_of_block (cs:=#[.int .i64 2,.int .i64 0,.int .i64 0,.int .i64 0,.int .i64 t1,.int .i64 t2,.int .i64 t3,.int .i64 t4,.int .i64 t5,.int .i64 t6]) (heap_alloc_new _ _)) (by simp[Value.oneCell']) (by unfold maxLen;omega) (by omega) (Nat.le_trans hbs (Below.size (w:=w2) (B:=w2.heap.size) (by(with_reducible repeat' (first|assumption|refine bal ?_ _|refine Below.drew ?_|exact bzR _ _))))) ?_;intro v' w' hO' hgr hat;obtain⟨q',n',c',rfl,⟨hS2,hS3⟩,hPX⟩:=HPX.out _ _ _ (by(with_reducible repeat' (first|assumption|refine bal ?_ _|refine Below.drew ?_|exact bzR _ _))) hO' hgr)
     all_goals
      clear HPX HOE z0 z1 z2 z3 z4 z5 y6 hO' hgr
      go_wp2_with fail
      go_roundg (n - (kk+1))
      case measure=>have:=HM.out;omega
      case rel=>exact⟨kk+1,HM.out.1,nzR _,by go_num,hPX.out⟩
end flr
namespace flr
open Go.RowKit
open que (R rchk)
open sid (L DL LS)
open mee (T tV OwnT sumT)
open ord (O oV chk errV errV_zero errV_of prB)
open que (bal)
open pur (Pz Pu Ok flatP pL)
open wak (OwnM OwnQ St SL Lies oL idx Trn)
theorem set6{w:World}{B:Nat}{y0 y1 y2 y3 y4 y5:Value}{t:TypeId}(h:w.heap[B]?=some (.cells #[y0,y1,y2,y3,y4,y5] t (0,0)))(x0 x1 x2 x3 x4 x5:Value) :
  ((((((w.setCell ⟨B,0,none⟩ x0).setCell ⟨B,1,none⟩ x1).setCell ⟨B,2,none⟩ x2).setCell ⟨B,3,none⟩ x3).setCell ⟨B,4,none⟩ x4).setCell ⟨B,5,none⟩ x5).heap[B]?=some (.cells #[x0,x1,x2,x3,x4,x5] t (0,0)):=by
 have h0:=heap_setCell_same w B 0 _ _ x0 h
 have h1:=heap_setCell_same _ B 1 _ _ x1 h0
 have h2:=heap_setCell_same _ B 2 _ _ x2 h1
 have h3:=heap_setCell_same _ B 3 _ _ x3 h2
 have h4:=heap_setCell_same _ B 4 _ _ x4 h3
 exact heap_setCell_same _ B 5 _ _ x5 h4
theorem gr6(w:World)(B:Nat)(x0 x1 x2 x3 x4 x5:Value):w.grownBy ((((((w.setCell ⟨B,0,none⟩ x0).setCell ⟨B,1,none⟩ x1).setCell ⟨B,2,none⟩ x2).setCell ⟨B,3,none⟩ x3).setCell ⟨B,4,none⟩ x4).setCell ⟨B,5,none⟩ x5) (some B):=
 wak.gr_trans (wak.gr_trans (wak.gr_trans (wak.gr_trans (wak.gr_trans (wak.gr_setCell _ _ _ _) (wak.gr_setCell _ _ _ _)) (wak.gr_setCell _ _ _ _)) (wak.gr_setCell _ _ _ _)) (wak.gr_setCell _ _ _ _)) (wak.gr_setCell _ _ _ _)
structure FV where
 q1:Option Addr
 n1:Nat
 c1:Nat
 q2:Option Addr
 n2:Nat
 c2:Nat
 sp:Nat
 vw:Value
 pp:Nat
def rowF(f:FS)(v:FV):Array Value:=#[.int .i64 f.mode,.slice v.q1 v.n1 v.c1,.slice v.q2 v.n2 v.c2,.pointer (some ⟨v.sp,0,none⟩),.pointer (some ⟨v.pp,0,none⟩),.int .i64 f.last]
structure FM (w:World) (F:Nat) (f:FS) (v:FV):Prop where
 blk:w.heap[F]?=some (.cells (rowF f v) 81 (0,0))
 buys:DL w 0 (.slice v.q1 v.n1 v.c1) f.bs
 sells:DL w 0 (.slice v.q2 v.n2 v.c2) f.ss
 stops:St w 0 v.sp v.vw f.ws
 purs:Pu 110 9 w v.pp f.ps
theorem FM.lt{w:World}{F:Nat}{f:FS}{v:FV}(h:FM w F f v):F<w.heap.size:=(gzE.1 h.blk).1
theorem FM.below{w w' : World}{F:Nat}{f:FS}{v:FV}(h:FM w F f v)(hB:Below w.heap.size w w'):FM w' F f v:=
 have hk:Kp [] w w':=Kp.below hB
 ⟨hk.typ _ _ _ h.blk (by simp),hk.dl h.buys (by simp) (by simp),hk.dl h.sells (by simp) (by simp),hk.st h.stops (by simp) (by simp),hk.pu h.purs (by simp)⟩
theorem FM.cells{w:World}{F:Nat}{f:FS}{v:FV}(h:FM w F f v):w.cell? ⟨F,0,none⟩=some (.int .i64 f.mode)∧w.cell? ⟨F,1,none⟩=some (.slice v.q1 v.n1 v.c1)∧w.cell? ⟨F,2,none⟩=some (.slice v.q2 v.n2 v.c2)∧w.cell? ⟨F,3,none⟩=some (.pointer (some ⟨v.sp,0,none⟩))∧w.cell? ⟨F,4,none⟩=some (.pointer (some ⟨v.pp,0,none⟩))∧w.cell? ⟨F,5,none⟩=some (.int .i64 f.last)∧∀j,w.frozen? ⟨F,j,none⟩=false:=rowSix h.blk
theorem zDY{w:World}{b b' p:Nat}{v:Value}{os:List O}(h:St w b p v os)(hb:b'≤b):St w b' p v os:=⟨h.blk,Nat.le_trans hb h.le,wak.OwnM.mono h.own hb⟩
theorem zIa(b p:Nat)(v:Value)(os:List O)(w:World)(h:St w b p v os)(hl:os.length≤1000) :
  Calls Tryz.prog 47 #[.pointer (some ⟨p,0,none⟩)] w fun e w'=>∃p' v',e=.returned (.pointer (some ⟨p',0,none⟩))∧St w' w.heap.size p' v' os∧Below w.heap.size w w':=by
 have HA:=hidF (wak.all_any b p v os w h hl)
 clear h hl
 go_enter Tryz.func47,Tryz.ntmps47
 go_wp2_with fail
 refine HA.out.mono ?_
 rintro e w1⟨q,c,rfl,k1,k2⟩
 have HK1:=hidF k1
 have HK2:=hidF k2
 clear k1 k2
 go_wp2_with fail
 go_ret
 have hb:Below w1.heap.size w1 (w1.alloc (.cells #[.slice q os.length c] 107)):=(bzR _ _).alloc (nzR _) _
 exact⟨_,_,rfl,⟨heap_alloc_new w1 _,HK2.out.size,wak.OwnM.below HK1.out hb⟩,HK2.out.trans (hb.mono HK2.out.size)⟩
theorem zFR(P:Nat)(a1 b1 c1 d1 e1 a2 b2 c2 d2 e2 a3 b3 c3 d3 e3 a4 b4 c4 d4 e4 a5 b5 c5 d5 e5 a6 b6 c6 d6 e6 a7 b7 c7 d7 e7 a8 b8 c8 d8 e8 a9 b9 c9 d9 e9:Int)(w:World)(h:w.heap[P]?=some (.cells #[.int .i64 a1,.int .i64 b1,.int .i64 c1,.int .i64 d1,.int .i64 e1,.int .i64 a2,.int .i64 b2,.int .i64 c2,.int .i64 d2,.int .i64 e2,.int .i64 a3,.int .i64 b3,.int .i64 c3,.int .i64 d3,.int .i64 e3,.int .i64 a4,.int .i64 b4,.int .i64 c4,.int .i64 d4,.int .i64 e4,.int .i64 a5,.int .i64 b5,.int .i64 c5,.int .i64 d5,.int .i64 e5,.int .i64 a6,.int .i64 b6,.int .i64 c6,.int .i64 d6,.int .i64 e6,.int .i64 a7,.int .i64 b7,.int .i64 c7,.int .i64 d7,.int .i64 e7,.int .i64 a8,.int .i64 b8,.int .i64 c8,.int .i64 d8,.int .i64 e8,.int .i64 a9,.int .i64 b9,.int .i64 c9,.int .i64 d9,.int .i64 e9] 110 (0,0))) :
  Calls Tryz.prog 48 #[.pointer (some ⟨P,0,none⟩)] w fun e w'=>e=.returned (.pointer (some ⟨w.heap.size,0,none⟩))∧w'=w.alloc (.cells #[.int .i64 a1,.int .i64 b1,.int .i64 c1,.int .i64 d1,.int .i64 e1,.int .i64 a2,.int .i64 b2,.int .i64 c2,.int .i64 d2,.int .i64 e2,.int .i64 a3,.int .i64 b3,.int .i64 c3,.int .i64 d3,.int .i64 e3,.int .i64 a4,.int .i64 b4,.int .i64 c4,.int .i64 d4,.int .i64 e4,.int .i64 a5,.int .i64 b5,.int .i64 c5,.int .i64 d5,.int .i64 e5,.int .i64 a6,.int .i64 b6,.int .i64 c6,.int .i64 d6,.int .i64 e6,.int .i64 a7,.int .i64 b7,.int .i64 c7,.int .i64 d7,.int .i64 e7,.int .i64 a8,.int .i64 b8,.int .i64 c8,.int .i64 d8,.int .i64 e8,.int .i64 a9,.int .i64 b9,.int .i64 c9,.int .i64 d9,.int .i64 e9] 110):=by
 have HRG:Hid (w.rangeAt P 0 (#[.int .i64 a1,.int .i64 b1,.int .i64 c1,.int .i64 d1,.int .i64 e1,.int .i64 a2,.int .i64 b2,.int .i64 c2,.int .i64 d2,.int .i64 e2,.int .i64 a3,.int .i64 b3,.int .i64 c3,.int .i64 d3,.int .i64 e3,.int .i64 a4,.int .i64 b4,.int .i64 c4,.int .i64 d4,.int .i64 e4,.int .i64 a5,.int .i64 b5,.int .i64 c5,.int .i64 d5,.int .i64 e5,.int .i64 a6,.int .i64 b6,.int .i64 c6,.int .i64 d6,.int .i64 e6,.int .i64 a7,.int .i64 b7,.int .i64 c7,.int .i64 d7,.int .i64 e7,.int .i64 a8,.int .i64 b8,.int .i64 c8,.int .i64 d8,.int .i64 e8,.int .i64 a9,.int .i64 b9,.int .i64 c9,.int .i64 d9,.int .i64 e9]).toList):=fun j u hu=>by
  have:=cell_of_row w P (0+j) _ _ _ h
  rw[this,Nat.zero_add]
  simpa using hu
 clear h
 go_enter Tryz.func48,Tryz.ntmps48
 go_upto_region 1 with fail
 refine wp_region_lit ?_
 iterate 3 (refine wpList_step fun K hK=>?_;go_simp;refine hK _ _ ?_;clear hK K;try simp only[Act.put,List.setIfInBounds_toArray,List.set_cons_zero,List.set_cons_succ])
 refine wpList_load_mid rfl 108 (.tmp 5) rfl P 0 rfl (#[.int .i64 a1,.int .i64 b1,.int .i64 c1,.int .i64 d1,.int .i64 e1,.int .i64 a2,.int .i64 b2,.int .i64 c2,.int .i64 d2,.int .i64 e2,.int .i64 a3,.int .i64 b3,.int .i64 c3,.int .i64 d3,.int .i64 e3,.int .i64 a4,.int .i64 b4,.int .i64 c4,.int .i64 d4,.int .i64 e4,.int .i64 a5,.int .i64 b5,.int .i64 c5,.int .i64 d5,.int .i64 e5,.int .i64 a6,.int .i64 b6,.int .i64 c6,.int .i64 d6,.int .i64 e6,.int .i64 a7,.int .i64 b7,.int .i64 c7,.int .i64 d7,.int .i64 e7,.int .i64 a8,.int .i64 b8,.int .i64 c8,.int .i64 d8,.int .i64 e8,.int .i64 a9,.int .i64 b9,.int .i64 c9,.int .i64 d9,.int .i64 e9]).toList _ HRG.out Tryz.underlying108 rfl (by kernel_rfl) ?_
 refine wpList_buildTo rfl 110 _ rfl (some 7) rfl #[.int .i64 a1,.int .i64 b1,.int .i64 c1,.int .i64 d1,.int .i64 e1,.int .i64 a2,.int .i64 b2,.int .i64 c2,.int .i64 d2,.int .i64 e2,.int .i64 a3,.int .i64 b3,.int .i64 c3,.int .i64 d3,.int .i64 e3,.int .i64 a4,.int .i64 b4,.int .i64 c4,.int .i64 d4,.int .i64 e4,.int .i64 a5,.int .i64 b5,.int .i64 c5,.int .i64 d5,.int .i64 e5,.int .i64 a6,.int .i64 b6,.int .i64 c6,.int .i64 d6,.int .i64 e6,.int .i64 a7,.int .i64 b7,.int .i64 c7,.int .i64 d7,.int .i64 e7,.int .i64 a8,.int .i64 b8,.int .i64 c8,.int .i64 d8,.int .i64 e8,.int .i64 a9,.int .i64 b9,.int .i64 c9,.int .i64 d9,.int .i64 e9] (by as_aux_lemma=>kernel_rfl) ?_
 obtain⟨cs,hcs⟩:∃cs:Array Value,cs=#[.int .i64 a1,.int .i64 b1,.int .i64 c1,.int .i64 d1,.int .i64 e1,.int .i64 a2,.int .i64 b2,.int .i64 c2,.int .i64 d2,.int .i64 e2,.int .i64 a3,.int .i64 b3,.int .i64 c3,.int .i64 d3,.int .i64 e3,.int .i64 a4,.int .i64 b4,.int .i64 c4,.int .i64 d4,.int .i64 e4,.int .i64 a5,.int .i64 b5,.int .i64 c5,.int .i64 d5,.int .i64 e5,.int .i64 a6,.int .i64 b6,.int .i64 c6,.int .i64 d6,.int .i64 e6,.int .i64 a7,.int .i64 b7,.int .i64 c7,.int .i64 d7,.int .i64 e7,.int .i64 a8,.int .i64 b8,.int .i64 c8,.int .i64 d8,.int .i64 e8,.int .i64 a9,.int .i64 b9,.int .i64 c9,.int .i64 d9,.int .i64 e9]:=⟨_,rfl⟩
 rw[←hcs]
 have HCS:=hidF hcs
 clear hcs HRG
 go_wp2_with fail
 go_ret
 exact⟨rfl,by rw[HCS.out]⟩
theorem zIb(P:Nat)(ps:List Pz)(w:World)(h:Pu 110 9 w P ps) :
  Calls Tryz.prog 48 #[.pointer (some ⟨P,0,none⟩)] w fun e w'=>e=.returned (.pointer (some ⟨w.heap.size,0,none⟩))∧Pu 110 9 w' w.heap.size ps∧Below w.heap.size w w':=by
 obtain⟨hl,hb⟩:=h
 match ps,hl,hb with
 | [⟨a1,b1,c1,d1,e1⟩,⟨a2,b2,c2,d2,e2⟩,⟨a3,b3,c3,d3,e3⟩,⟨a4,b4,c4,d4,e4⟩,⟨a5,b5,c5,d5,e5⟩,⟨a6,b6,c6,d6,e6⟩,⟨a7,b7,c7,d7,e7⟩,⟨a8,b8,c8,d8,e8⟩,⟨a9,b9,c9,d9,e9⟩],_,hb=>
  refine(zFR P a1 b1 c1 d1 e1 a2 b2 c2 d2 e2 a3 b3 c3 d3 e3 a4 b4 c4 d4 e4 a5 b5 c5 d5 e5 a6 b6 c6 d6 e6 a7 b7 c7 d7 e7 a8 b8 c8 d8 e8 a9 b9 c9 d9 e9 w (by exact hb)).mono ?_
  rintro e w'⟨rfl,rfl⟩
  exact⟨rfl,⟨rfl,heap_alloc_new w _⟩,(bzR _ _).alloc (nzR _) _⟩
end flr
end Go.Proofs.YtifjhlgjgnnnpaaGreat
