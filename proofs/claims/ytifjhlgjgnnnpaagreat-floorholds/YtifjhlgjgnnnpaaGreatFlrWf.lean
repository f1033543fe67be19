import Derived.Test.YtifjhlgjgnnnpaaGreatFlrPart
set_option maxHeartbeats 2000000
set_option maxRecDepth 100000
namespace Go.Proofs.YtifjhlgjgnnnpaaGreat
namespace flr
open Go.RowKit
open que (R rchk)
open sid (L DL)
open mee (T tV)
open ord (O oV chk errV errV_zero errV_of)
open bok (zAd zAh)
open wak (OwnM OwnQ St SL Lies oL idx idxBy_is)
theorem zJl(id:Int)(B:Nat)(w:World)(hB:B<w.heap.size)(hc:w.cell? ⟨B,0,none⟩=some (.int .i64 id)) :
  PredBelow Tryz.prog 124 #[.pointer (some ⟨B,0,none⟩)] (fun x=>.agg (oL x).toArray) (fun x=>decide (x.id=id)) w:=by
 intro W x hb
 obtain⟨a,b,c,d,e,f,g,h⟩:=x
 show Calls Tryz.prog 124 #[.agg #[.int .i64 a,.int .i64 b,.int .i64 c,.int .i64 d,.int .i64 e,.int .i64 f,.int .i64 g,.int .i64 h],.pointer (some ⟨B,0,none⟩)] W _
 have hc2:=spn.zAa hb hc
 have hz:B<W.heap.size:=jC hB hb.size
 go_enter Tryz.func124,Tryz.ntmps124
 go_wp2
 go_ret
 exact⟨rfl,hb.alloc hb.size _⟩
theorem zOv(B:Nat)(W:World):Calls Tryz.prog 131 #[.slice none 0 0,.func (.func 124) #[] #[.pointer (some ⟨B,0,none⟩)]] W fun e w'=>e=.returned (.int .i64 (-1))∧Below W.heap.size W w':=by
 go_enter Tryz.func131,Tryz.ntmps131
 go_wp2
 go_loopg [5,8] 0 (fun _ _ s8 wr=>s8=.int .i64 0∧wr=W)
 case atStart=>exact⟨rfl,rfl⟩
 case round=>
  obtain⟨rfl,rfl⟩:=hrel
  go_wp2
  go_ret
  exact⟨rfl,bzR _ _⟩
theorem zOw(id:Int)(v:Value)(zs:List O)(w:World)(B:Nat)(hB:B<w.heap.size)(hc:w.cell? ⟨B,0,none⟩=some (.int .i64 id))(h:SL w v zs) :
  Calls Tryz.prog 131 #[v,.func (.func 124) #[] #[.pointer (some ⟨B,0,none⟩)]] w fun e w'=>e=.returned (.int .i64 (idx id zs))∧Below w.heap.size w w':=by
 rcases h with ⟨rfl,rfl⟩|⟨b,o,c,rfl,h2,h3,h4,h5⟩
 ·exact zOv B w
 ·have eg:∀args w,(callFunc 124 args).run Tryz.prog w=.ok (.enter 124 args) w:=enters_of Tryz.func124 (by kernel_rfl) rfl
  have hcon:=AnyQ.slices_IndexFunc Tryz.lq6o 8 Tryz.isAgg32 Tryz.sizeOf32 oL (fun x=>rfl) (fun x=>decide (x.id=id)) 124 #[.pointer (some ⟨B,0,none⟩)] eg b o zs.length c zs
   w (zJl id B w hB hc) (nzR _) (by omega) h4 h5
  change Calls Tryz.prog 131 _ _ _ at hcon
  rw[List.take_length,idxBy_is] at hcon
  exact hcon
theorem zOx(id:Int)(v:Value)(zs:List O)(w:World)(B:Nat)(hB:B<w.heap.size)(hc:w.cell? ⟨B,0,none⟩=some (.int .i64 id))(h:SL w v zs) :
  Calls Tryz.prog 123 #[v,.func (.func 124) #[] #[.pointer (some ⟨B,0,none⟩)]] w fun e w'=>e=.returned (.bool (decide (0≤idx id zs)))∧Below w.heap.size w w':=by
 have HC:=hidF (zOw id v zs w B hB hc h)
 obtain⟨q,c,rfl⟩:=SL.form h
 generalize idx id zs=k at *
 generalize zs.length=zn at *
 clear h hc hB
 go_enter Tryz.func123,Tryz.ntmps123
 go_wp2_with fail
 refine HC.out.mono ?_
 rintro e w1⟨rfl,b1⟩
 go_wp2_with fail
 go_ret
 exact⟨rfl,b1⟩
theorem zLA(id:Int)(v:Value)(zs:List O)(w:World)(h:SL w v zs) :
  Calls Tryz.prog 95 #[v,.int .i64 id] w fun e w'=>e=.returned (.bool (decide (0≤idx id zs)))∧Below w.heap.size w w':=by
 have hB:Below w.heap.size w (w.alloc (.cells #[.int .i64 id] 3)):=(bzR _ _).alloc (nzR _) _
 have HC:=hidF (zOx id v zs _ w.heap.size (by simp) (by simp[go_sem]) (h.below hB))
 obtain⟨q,c,rfl⟩:=SL.form h
 generalize decide (0≤idx id zs)=k at *
 generalize zs.length=zn at *
 clear h
 go_enter Tryz.func95,Tryz.ntmps95
 go_wp2_with fail
 refine HC.out.mono ?_
 rintro e w1⟨rfl,b1⟩
 go_wp2_with fail
 go_ret
 exact⟨rfl,hB.trans (b1.mono (by simp))⟩
theorem zFy{w:World}{s:TS}{q1 q2:Option Addr}{n1 n2 c1 c2:Nat}{id:Int}(h1:DL w 0 (.slice q1 n1 c1) s.bs)(h2:DL w 0 (.slice q2 n2 c2) s.ss)(h0:zAd s.bs s.ss=0)(hid:(Lit.int .i64 id).wf=true)(hin:zAh s.bs s.ss id=false) :
  Calls Tryz.prog 76 #[.agg #[.slice q1 n1 c1,.slice q2 n2 c2],.int .i64 id] w fun e w'=>e=.returned (.tuple #[.int .i64 0,.int .i64 0,.agg #[.int .i64 0,.int .i64 0,.int .i64 0,.int .i64 0,.int .i64 0],.iface 91 (.int .i64 5)])∧Below w.heap.size w w':=by
 obtain⟨e1,e2,-⟩:=bok.zAf h0
 have hn:¬id∈sid.ids s.bs∧¬id∈sid.ids s.ss:=by unfold zAh at hin;simpa using hin
 exact bok.zHh q1 q2 n1 n2 c1 c2 s.bs s.ss id hid w h1.ls h2.ls h0 (bok.zBf e1 hn.1) (bok.zBf e2 hn.2)
theorem zQw(b t:Nat)(s:TS)(v:TV)(id:Int)(w:World)(h:TM w b t s v)(hw:Wf s)(hid:(Lit.int .i64 id).wf=true) :
  Calls Tryz.prog 71 #[.pointer (some ⟨t,0,none⟩),.int .i64 id] w fun e w'=>e=.returned (.bool (has s id))∧Below w.heap.size w w':=by
 obtain⟨x0,x1,x2,x3,x4,x5,x6,x7,-⟩:=h.cells
 have HSO:Hid (∀U,Below w.heap.size w U→TM U b t s v):=fun U hU=>h.below hU
 have HWS:=hidF hw.ws
 obtain⟨q1,n1,c1,q2,n2,c2,sp,vw,pp,qe,ne,ce,qk,nk,ck⟩:=v
 simp only[] at x0 x1 x2 x3 x4 x5 x6 x7
 cases hin:zAh s.bs s.ss id with
 | true=>
  have hA:=spot_at hw.book hin
  generalize spot s.bs s.ss id=x at hA
  obtain⟨xs,xp,⟨r1,r2,r3,r4,r5⟩,xi,xk⟩:=x
  have HF:=hidF (swp.zBS q1 q2 n1 n2 c1 c2 s.bs s.ss id xs xp r1 r2 r3 r4 r5 xi xk w h.buys.ls h.sells.ls hA)
  have hx:has s id=true:=by unfold has;rw[hin];rfl
  rw[hx]
  clear h hw hid hA hx hin
  go_enter Tryz.func71,Tryz.ntmps71
  go_wp2_with fail
  refine HF.out.mono ?_
  rintro e w1⟨rfl,b1⟩
  have HB:=hidF (b1.alloc b1.size (.cells #[.int .i64 r1,.int .i64 r2,.int .i64 r3,.int .i64 r4,.int .i64 r5] 54))
  clear b1 HF x0 x1 x2 x3 x4 x5 x6 x7
  go_wp2_with fail
  go_ret
  exact⟨rfl,HB.out⟩
 | false=>
  have HF:=hidF (zFy h.buys h.sells hw.book hid hin)
  have hx:has s id=decide (0≤idx id s.ws):=by unfold has;rw[hin];rfl
  rw[hx]
  have HAL:Hid (∀U,Below w.heap.size w U→Calls Tryz.prog 40 #[.pointer (some ⟨sp,0,none⟩)] U fun e w'=>∃q m c,e=.returned (.slice q m c)∧Hid (SL w' (.slice q m c) s.ws)∧Below U.heap.size U w'):=fun U hU=>by
   refine(wak.all_any b sp vw s.ws U (HSO.out U hU).stops (by have:=HWS.out;omega)).mono ?_
   rintro e w'⟨q,c,rfl,k1,k2⟩
   exact⟨q,_,c,rfl,k1.sl,k2⟩
  have HWA:=hidF (fun v U(hv:SL U v s.ws)=>zLA id v s.ws U hv)
  generalize decide (0≤idx id s.ws)=K at *
  have HX3:Hid (∀U,Below w.heap.size w U→U.cell? ⟨t,3,none⟩=some (.pointer (some ⟨sp,0,none⟩))):=fun U hU=>spn.zAa hU x3
  clear h hw hid hx hin
  go_enter Tryz.func71,Tryz.ntmps71
  go_wp2_with fail
  refine HF.out.mono ?_
  rintro e w1⟨rfl,b1⟩
  have HB:=hidF (b1.alloc b1.size (.cells #[.int .i64 0,.int .i64 0,.int .i64 0,.int .i64 0,.int .i64 0] 54))
  clear b1 HF x0 x1 x2 x3 x4 x5 x6 x7
  go_upto_if 22 with fail
  generalize w1.alloc (.cells #[.int .i64 0,.int .i64 0,.int .i64 0,.int .i64 0,.int .i64 0] 54)=W2 at *
  have x3:=HX3.out W2 HB.out
  go_wp2_with fail
  refine(HAL.out _ HB.out).mono ?_
  rintro e w3⟨q,m,c,rfl,HS,b3⟩
  have HB3:=hidF (HB.out.trans (b3.mono HB.out.size))
  clear b3 x3
  go_wp2_with fail
  refine(HWA.out _ _ HS.out).mono ?_
  rintro e w4⟨rfl,b4⟩
  have HB4:=hidF (HB3.out.trans (b4.mono HB3.out.size))
  clear b4
  go_wp2_with fail
  go_ret
  exact⟨rfl,HB4.out⟩
end flr
namespace flr
open Go.RowKit
open que (R rchk)
open sid (L DL)
open mee (T tV)
open ord (O oV chk errV errV_zero errV_of)
open bok (zAd zAh)
open wak (OwnM OwnQ St SL Lies oL idx Trn)
theorem TM.wait{w w' : World}{b t:Nat}{s:TS}{v:TV}(h:TM w b t s v){v' : Value}{ws:List O}(hs:St w' b v.sp v' ws)(ht:Trn w w' v.sp v.vw):TM w' b t { s with ws:=ws } { v with vw:=v' }∧Tn tB b w w':=by
 have hk:Kp [107,32] w w':=⟨ht.os,ht.tape,ht.output,ht.size,fun k cur ty hc hn=>by
  refine(ht.block k (gzE.1 hc).1 (fun e=>?_) (fun e=>?_)).trans hc
  ·subst e
   have h1:=h.stops.blk
   rw[hc] at h1
   simp only[Option.some.injEq,Obj.cells.injEq] at h1
   exact hn (by rw[h1.2.1];simp)
  ·rcases h.stops.own.2 with ⟨h1,_⟩|⟨g,off,cap,cur',h1,h2,h3,_⟩
   ·rw[h1] at e;cases e
   ·rw[h1] at e
    simp only[Value.ownBlock,Option.some.injEq] at e
    subst e
    rw[hc] at h3
    simp only[Option.some.injEq,Obj.cells.injEq] at h3
    exact hn (by rw[h3.2.1];simp)⟩
 have hb:=ht.below h.stops
 exact⟨⟨hk.typ _ _ _ h.blk (by decide),h.le,hk.dl h.buys (by decide) (by decide),hk.dl h.sells (by decide) (by decide),hs,hk.pu h.purs (by decide),h.ple,hk.own h.evs (by decide),hk.own h.row (by decide)⟩,hk.mono (by decide),hb.block⟩
theorem zOy(b t:Nat)(s:TS)(v:TV)(id:Int)(w:World)(h:TM w b t s v)(hw:Wf s)(hl:s.evs.length≤1000000)(hin:zAh s.bs s.ss id=true)(hbk:∀xs xi xk,xs=(spot s.bs s.ss id).s→xi=(spot s.bs s.ss id).i→xk=(spot s.bs s.ss id).k→zAd (swp.cB xs s.bs xi xk) (swp.cS xs s.ss xi xk)=0) :
  Calls Tryz.prog 77 #[.pointer (some ⟨t,0,none⟩),.int .i64 id] w (Res tA b t w (leave s id)):=by
 obtain⟨x0,x1,x2,x3,x4,x5,x6,x7,-⟩:=h.cells
 have HSO:Hid (∀U,Below w.heap.size w U→TM U b t s v∧Tn tA b w U):=fun U hU=>⟨h.below hU,Tn.below hU h.base⟩
 have hA:=spot_at hw.book hin
 obtain⟨X,hX⟩:∃X,X=leave s id:=⟨_,rfl⟩
 rw[←hX]
 unfold leave at hX
 rw[if_pos hin] at hX
 generalize spot s.bs s.ss id=x at hA hX hbk
 obtain⟨xs,xp,⟨r1,r2,r3,r4,r5⟩,xi,xk⟩:=x
 simp only[] at hX hbk
 have HX:=hidF hX
 have hbk2:=hbk xs xi xk rfl rfl rfl
 obtain⟨q1,n1,c1,q2,n2,c2,sp,vw,pp,qe,ne,ce,qk,nk,ck⟩:=v
 simp only[] at x0 x1 x2 x3 x4 x5 x6 x7
 have HF:=hidF (swp.zBS q1 q2 n1 n2 c1 c2 s.bs s.ss id xs xp r1 r2 r3 r4 r5 xi xk w h.buys.ls h.sells.ls hA)
 have HCA:Hid (∀U,Below w.heap.size w U→Calls Tryz.prog 106 #[.agg #[.slice q1 n1 c1,.slice q2 n2 c2],.int .i64 id] U fun e w'=>∃u1 u2 m1 m2 d1 d2,e=.returned (.tuple #[.agg #[.slice u1 m1 d1,.slice u2 m2 d2],.agg #[.int .i64 r1,.int .i64 r2,.int .i64 r3,.int .i64 r4,.int .i64 r5],.nilIface])∧Hid (DL w' 0 (.slice u1 m1 d1) (swp.cB xs s.bs xi xk))∧Hid (DL w' 0 (.slice u2 m2 d2) (swp.cS xs s.ss xi xk))∧Below U.heap.size U w'):=fun U hU=>by
  obtain⟨k1,-⟩:=HSO.out U hU
  refine(swp.zJd q1 q2 n1 n2 c1 c2 s.bs s.ss id xs xp r1 r2 r3 r4 r5 xi xk U k1.buys.ls k1.sells.ls hA).mono ?_
  rintro e w'⟨u1,u2,m1,m2,d1,d2,rfl,k2,k3,k4⟩
  exact⟨u1,u2,m1,m2,d1,d2,rfl,k2.mono (jL _),k3.mono (jL _),k4⟩
 have HPT:Hid (∀U s' v',TM U b t s' v'→s' = { s with bs:=swp.cB xs s.bs xi xk,ss:=swp.cS xs s.ss xi xk }→Tn tA b w U→Calls Tryz.prog 102 #[.pointer (some ⟨t,0,none⟩),.agg #[.int .i64 r1,.int .i64 r2,.int .i64 r3,.int .i64 r4,.int .i64 r5],.int .i64 xs,.int .i64 xp] U fun e w'=>∃E,e=.returned E∧Hid (Res tA b t w X (.returned E) w')):=fun U s' v' hU hs' hT=>by
  subst hs'
  refine(zIh b t _ v' r1 r2 r3 r4 r5 xs xp U hU ⟨hw.m0,hw.m3,hbk2,hw.ok,hw.ws⟩ hA.rest hl).mono ?_
  intro e w' hR
  have hR' : Res tA b t w X e w':=zCO (hR.step hT (fun _ h=>h)) HX.out.symm
  rcases hR.two with ⟨_,_,_,rfl,_⟩|⟨_,_,_,rfl⟩
  ·exact⟨_,rfl,hR'⟩
  ·exact⟨_,rfl,hR'⟩
 clear h hw hA hX hin hl hbk hbk2
 go_enter Tryz.func77,Tryz.ntmps77
 go_wp2_with fail
 refine HF.out.mono ?_
 rintro e w1⟨rfl,b1⟩
 have hR2:(w1.alloc (.cells #[.int .i64 r1,.int .i64 r2,.int .i64 r3,.int .i64 r4,.int .i64 r5] 54)).heap[w1.heap.size]?=some (.cells #[.int .i64 r1,.int .i64 r2,.int .i64 r3,.int .i64 r4,.int .i64 r5] 54 (0,0)):=jA w1 _
 have HB2:=hidF (b1.alloc b1.size (.cells #[.int .i64 r1,.int .i64 r2,.int .i64 r3,.int .i64 r4,.int .i64 r5] 54))
 clear b1 HF x0 x1 x2 x3 x4 x5 x6 x7
 go_upto_if 24 with fail
 generalize w1.alloc (.cells #[.int .i64 r1,.int .i64 r2,.int .i64 r3,.int .i64 r4,.int .i64 r5] 54)=W2 at *
 generalize w1.heap.size=F at *
 obtain⟨k1,-⟩:=HSO.out W2 HB2.out
 obtain⟨-,x1,x2,-⟩:=k1.cells
 simp only[] at x1 x2
 clear k1
 have HR2:=hidF hR2
 clear hR2
 go_wp2_with fail
 refine(HCA.out _ HB2.out).mono ?_
 rintro e w3⟨u1,u2,m1,m2,d1,d2,rfl,HD1,HD2,b3⟩
 obtain⟨W4,hW4⟩:∃W4,W4=(w3.alloc (.cells #[.slice u1 m1 d1,.slice u2 m2 d2] 46)).alloc (.cells #[.int .i64 r1,.int .i64 r2,.int .i64 r3,.int .i64 r4,.int .i64 r5] 54):=⟨_,rfl⟩
 have hb4:Below w3.heap.size w3 W4:=by rw[hW4];exact((bzR _ _).alloc (nzR _) _).alloc (by simp) _
 have hRB:W4.heap[w3.heap.size]?=some (.cells #[.slice u1 m1 d1,.slice u2 m2 d2] 46 (0,0)):=by
  rw[hW4,((bzR _ _).alloc (nzR _) _).block _ (by simp)];exact jA w3 _
 have hb34:=b3.trans (hb4.mono b3.size)
 have HR4:=hidF (zBl HR2.out hb34)
 have HB4:=hidF (HB2.out.trans (hb34.mono HB2.out.size))
 have HDD:=hidF (And.intro (HD1.out.below hb4) (HD2.out.below hb4))
 clear HD1 HD2 b3 hb4 hb34 x1 x2 HR2 HB2 HCA
 go_upto_if 38 with fail
 rw[←hW4]
 clear hW4
 generalize w3.heap.size=LB at *
 obtain⟨l0,l1,-⟩:=sid.zAb hRB
 obtain⟨k1,k2⟩:=HSO.out W4 HB4.out
 obtain⟨-,y1,y2,-,-,-,-,-,yf⟩:=k1.cells
 simp only[] at y1 y2
 have yf1:=yf 1
 have yf2:=yf 2
 obtain⟨hM5,hT5⟩:=k1.book HDD.out.1 HDD.out.2
 have HM5:=hidF hM5
 have HT5:=hidF (k2.trans hT5)
 have hR5:=hT5.kp.typ _ _ _ HR4.out (by decide)
 clear k1 k2 hM5 hT5 yf hRB HSO HDD HB4 HR4
 have HR5:=hidF hR5
 clear hR5
 go_upto_region 8 with fail
 generalize (W4.setCell ⟨t,1,none⟩ (.slice u1 m1 d1)).setCell ⟨t,2,none⟩ (.slice u2 m2 d2)=W5 at *
 obtain⟨z0,z1,z2,z3,z4,-⟩:=sid.zAe HR5.out
 clear l0 l1 y1 y2 yf1 yf2
 go_wp2_with fail
 refine(HPT.out _ _ _ HM5.out rfl HT5.out).mono ?_
 rintro e w6⟨E,rfl,HR⟩
 clear z0 z1 z2 z3 z4
 go_wp2_with fail
 go_ret
 exact HR.out
theorem Res.hid{S:List TypeId}{b t:Nat}{w w' : World}{x:Rs}{e:Ending}(h:Res S b t w x e w'):∃E,e=.returned E∧Hid (Res S b t w x (.returned E) w'):=by
 rcases h.two with ⟨_,_,_,rfl,_⟩|⟨_,_,_,rfl⟩
 ·exact⟨_,rfl,h⟩
 ·exact⟨_,rfl,h⟩
theorem zLB(b t:Nat)(s:TS)(v:TV)(id:Int)(w:World)(h:TM w b t s v)(hw:Wf s)(hid:(Lit.int .i64 id).wf=true)(hin:zAh s.bs s.ss id=false) :
  Calls Tryz.prog 77 #[.pointer (some ⟨t,0,none⟩),.int .i64 id] w (Res tA b t w (leave s id)):=by
 obtain⟨x0,x1,x2,x3,x4,x5,x6,x7,-⟩:=h.cells
 have HSO:Hid (∀U,Below w.heap.size w U→Tn tA b w U):=fun U hU=>Tn.below hU h.base
 obtain⟨X,hX⟩:∃X,X=leave s id:=⟨_,rfl⟩
 rw[←hX]
 unfold leave at hX
 rw[hin] at hX
 simp only[Bool.false_eq_true,if_false] at hX
 obtain⟨q1,n1,c1,q2,n2,c2,sp,vw,pp,qe,ne,ce,qk,nk,ck⟩:=v
 simp only[] at x0 x1 x2 x3 x4 x5 x6 x7
 have HF:=hidF (zFy h.buys h.sells hw.book hid hin)
 have HX:=hidF hX
 clear h hw hid hin hX
 go_enter Tryz.func77,Tryz.ntmps77
 go_wp2_with fail
 refine HF.out.mono ?_
 rintro e w1⟨rfl,b1⟩
 have HB:=hidF (HSO.out _ (b1.alloc b1.size (.cells #[.int .i64 0,.int .i64 0,.int .i64 0,.int .i64 0,.int .i64 0] 54)))
 clear b1 HF x0 x1 x2 x3 x4 x5 x6 x7 HSO
 go_wp2_with fail
 go_ret
 exact zAD HX.out (by decide) HB.out
theorem zGA(b t:Nat)(s:TS)(v:TV)(id:Int)(w:World)(h:TM w b t s v)(hw:Wf s)(hl:s.evs.length≤1000000)(hid:(Lit.int .i64 id).wf=true) :
  Calls Tryz.prog 77 #[.pointer (some ⟨t,0,none⟩),.int .i64 id] w (Res tA b t w (leave s id)):=by
 cases hin:zAh s.bs s.ss id with
 | false=>exact zLB b t s v id w h hw hid hin
 | true=>
  refine zOy b t s v id w h hw hl hin ?_
  rintro xs xi xk rfl rfl rfl
  exact zBJ (spot_at hw.book hin)
theorem zOz{s s1:TS}{id:Int}(h:Wf s)(e:leave s id=.ok s1):Wf s1:=by
 unfold leave at e
 split at e
 ·rename_i hin
  have hb:=zBJ (spot_at h.book hin)
  unfold part at e
  generalize hg:zCU _ _ _ _=y at e
  cases y with
  | error k=>cases e
  | ok s2=>
   cases e
   have hw0:Wf { s with bs:=swp.cB (spot s.bs s.ss id).s s.bs (spot s.bs s.ss id).i (spot s.bs s.ss id).k,ss:=swp.cS (spot s.bs s.ss id).s s.ss (spot s.bs s.ss id).i (spot s.bs s.ss id).k }:=⟨h.m0,h.m3,hb,h.ok,h.ws⟩
   have hw2:=(zFv hw0 hg).1
   exact⟨hw2.m0,hw2.m3,hw2.book,hw2.ok,hw2.ws⟩
 ·cases e
theorem zLC(b t:Nat)(s:TS)(v:TV)(id:Int)(w:World)(h:TM w b t s v)(hw:Wf s)(hl:s.evs.length≤1000000)(hid:(Lit.int .i64 id).wf=true)(hin:zAh s.bs s.ss id=true) :
  Calls Tryz.prog 50 #[.pointer (some ⟨t,0,none⟩),.int .i64 id] w (Res tB b t w (cancel s id)):=by
 obtain⟨x0,x1,x2,x3,x4,x5,x6,x7,-⟩:=h.cells
 obtain⟨X,hX⟩:∃X,X=cancel s id:=⟨_,rfl⟩
 rw[←hX]
 unfold cancel at hX
 rw[if_pos hin] at hX
 have HLV:Hid (∀U,Below w.heap.size w U→Calls Tryz.prog 77 #[.pointer (some ⟨t,0,none⟩),.int .i64 id] U fun e w'=>∃E,e=.returned E∧Hid (Res tB b t w X (.returned E) w')):=fun U hU=>by
  refine(zGA b t s v id U (h.below hU) hw hl hid).mono ?_
  intro e w' hR
  exact(zCO (hR.step (Tn.below (S:=tB) hU h.base) tA_tB) hX.symm).hid
 have hA:=spot_at hw.book hin
 generalize spot s.bs s.ss id=x at hA
 obtain⟨xs,xp,⟨r1,r2,r3,r4,r5⟩,xi,xk⟩:=x
 obtain⟨q1,n1,c1,q2,n2,c2,sp,vw,pp,qe,ne,ce,qk,nk,ck⟩:=v
 simp only[] at x0 x1 x2 x3 x4 x5 x6 x7
 have HF:=hidF (swp.zBS q1 q2 n1 n2 c1 c2 s.bs s.ss id xs xp r1 r2 r3 r4 r5 xi xk w h.buys.ls h.sells.ls hA)
 clear h hw hA hX hin hl hid
 go_enter Tryz.func50,Tryz.ntmps50
 go_wp2_with fail
 refine HF.out.mono ?_
 rintro e w1⟨rfl,b1⟩
 have HB:=hidF (b1.alloc b1.size (.cells #[.int .i64 r1,.int .i64 r2,.int .i64 r3,.int .i64 r4,.int .i64 r5] 54))
 clear b1 HF x0 x1 x2 x3 x4 x5 x6 x7
 go_wp2_with fail
 refine(HLV.out _ HB.out).mono ?_
 rintro e w2⟨E,rfl,HR⟩
 go_wp2_with fail
 go_ret
 exact HR.out
theorem zJm(b t:Nat)(s:TS)(v:TV)(id:Int)(w:World)(h:TM w b t s v)(hw:Wf s)(hl:s.evs.length≤1000000)(hid:(Lit.int .i64 id).wf=true)(hin:zAh s.bs s.ss id=false) :
  Calls Tryz.prog 50 #[.pointer (some ⟨t,0,none⟩),.int .i64 id] w (Res tB b t w (cancel s id)):=by
 obtain⟨x0,x1,x2,x3,x4,x5,x6,x7,-⟩:=h.cells
 have HX3:Hid (∀U,Below w.heap.size w U→U.cell? ⟨t,3,none⟩=some (.pointer (some ⟨v.sp,0,none⟩))):=fun U hU=>(h.below hU).cells.2.2.2.1
 obtain⟨X,hX⟩:∃X,X=cancel s id:=⟨_,rfl⟩
 rw[←hX]
 unfold cancel at hX
 rw[hin] at hX
 simp only[Bool.false_eq_true,if_false] at hX
 have HF:=hidF (zFy h.buys h.sells hw.book hid hin)
 by_cases hi:idx id s.ws<0
 ·rw[if_pos hi] at hX
  have HX:=hidF hX
  have HDR:Hid (∀U,Below w.heap.size w U→Calls Tryz.prog 78 #[.pointer (some ⟨v.sp,0,none⟩),.int .i64 id] U fun e w'=>e=.returned (.tuple #[.agg #[.int .i64 0,.int .i64 0,.int .i64 0,.int .i64 0,.int .i64 0,.int .i64 0,.int .i64 0,.int .i64 0],.iface 91 (.int .i64 5)])∧Hid (Tn tB b w (w'.alloc (.cells #[.int .i64 0,.int .i64 0,.int .i64 0,.int .i64 0,.int .i64 0,.int .i64 0,.int .i64 0,.int .i64 0] 32)))):=fun U hU=>by
   refine(wak.zLn id b v.sp v.vw s.ws U (h.below hU).stops hi).mono ?_
   rintro e w'⟨rfl,k1⟩
   have k2:=hU.trans (k1.mono hU.size)
   exact⟨rfl,Tn.below (k2.alloc k2.size _) h.base⟩
  obtain⟨q1,n1,c1,q2,n2,c2,sp,vw,pp,qe,ne,ce,qk,nk,ck⟩:=v
  simp only[] at x0 x1 x2 x3 x4 x5 x6 x7
  clear h hw hX hin hl hid hi
  go_enter Tryz.func50,Tryz.ntmps50
  go_wp2_with fail
  refine HF.out.mono ?_
  rintro e w1⟨rfl,b1⟩
  have HB:=hidF (b1.alloc b1.size (.cells #[.int .i64 0,.int .i64 0,.int .i64 0,.int .i64 0,.int .i64 0] 54))
  clear b1 HF x0 x1 x2 x3 x4 x5 x6 x7
  go_upto_if 24 with fail
  generalize w1.alloc (.cells #[.int .i64 0,.int .i64 0,.int .i64 0,.int .i64 0,.int .i64 0] 54)=W2 at *
  have x3:=HX3.out W2 HB.out
  go_wp2_with fail
  refine(HDR.out _ HB.out).mono ?_
  rintro e w3⟨rfl,HT⟩
  clear x3
  go_wp2_with fail
  go_ret
  exact zAD HX.out (by decide) HT.out
 ·rw[if_neg hi] at hX
  obtain⟨i,hI⟩:∃i:Nat,idx id s.ws=(i:Int):=⟨(idx id s.ws).toNat,by omega⟩
  have hlt:=wak.idx_lt id s.ws
  rw[hI] at hX hlt
  have hil:i<s.ws.length:=by omega
  simp only[Int.toNat_natCast] at hX
  have hd:drop1 s.ws id=s.ws.take i++s.ws.drop (i+1):=by unfold drop1;rw[hI];rfl
  rw[hd] at hX
  generalize ho:s.ws[i]! = o at *
  obtain⟨a1,a2,a3,a4,a5,a6,a7,a8⟩:=o
  have HX:=hidF hX
  have HW:=hidF hw
  have HL:=hidF hl
  have HDR:Hid (∀U,Below w.heap.size w U→Calls Tryz.prog 78 #[.pointer (some ⟨v.sp,0,none⟩),.int .i64 id] U fun e w'=>e=.returned (.tuple #[.agg #[.int .i64 a1,.int .i64 a2,.int .i64 a3,.int .i64 a4,.int .i64 a5,.int .i64 a6,.int .i64 a7,.int .i64 a8],.nilIface])∧Hid (∃v1,TM w' b t { s with ws:=s.ws.take i++s.ws.drop (i+1) } v1)∧Hid (Tn tB b w w')):=fun U hU=>by
   have hM:=h.below hU
   have hs:=hM.stops
   have hform:∃g off c,v.vw=.slice (some ⟨g,off,none⟩) s.ws.length c:=by
    rcases hs.own.2 with ⟨_,hn⟩|⟨g,off,cap,cur,h1,_⟩
    ·omega
    ·exact⟨g,off,cap,h1⟩
   obtain⟨g,off,c,hv⟩:=hform
   rw[hv] at hs
   refine(wak.zLo id i b v.sp g off _ c a1 a2 a3 a4 a5 a6 a7 a8 s.ws U rfl hs hil hI ho (by have:=HW.out.ws;omega)).mono ?_
   rintro e w'⟨rfl,v',k1,k2,-⟩
   rw[←hv] at k2
   obtain⟨k3,k4⟩:=hM.wait k1 k2
   exact⟨rfl,⟨_,k3⟩,(Tn.below hU h.base).trans k4⟩
  have HVN:Hid (∀U v1,TM U b t { s with ws:=s.ws.take i++s.ws.drop (i+1) } v1→Tn tB b w U→Calls Tryz.prog 79 #[.pointer (some ⟨t,0,none⟩),.agg #[.int .i64 a1,.int .i64 a2,.int .i64 a3,.int .i64 a4,.int .i64 a5,.int .i64 a6,.int .i64 a7,.int .i64 a8]] U fun e w'=>∃E,e=.returned E∧Hid (Res tB b t w X (.returned E) w')):=fun U v1 hU hT=>by
   refine(zER b t _ v1 a1 a2 a3 a4 a5 a6 a7 a8 U hU ⟨HW.out.m0,HW.out.m3,HW.out.book,HW.out.ok,?_⟩ HL.out).mono ?_
   ·have:=HW.out.ws
    simp only[jE,jJ,jQ];omega
   ·intro e w' hR
    exact(zCO (hR.step hT tA_tB) HX.out.symm).hid
  obtain⟨q1,n1,c1,q2,n2,c2,sp,vw,pp,qe,ne,ce,qk,nk,ck⟩:=v
  simp only[] at x0 x1 x2 x3 x4 x5 x6 x7
  clear h hw hX hin hl hid hi hI hlt hil hd ho
  go_enter Tryz.func50,Tryz.ntmps50
  go_wp2_with fail
  refine HF.out.mono ?_
  rintro e w1⟨rfl,b1⟩
  have HB:=hidF (b1.alloc b1.size (.cells #[.int .i64 0,.int .i64 0,.int .i64 0,.int .i64 0,.int .i64 0] 54))
  clear b1 HF x0 x1 x2 x3 x4 x5 x6 x7
  go_upto_if 24 with fail
  generalize w1.alloc (.cells #[.int .i64 0,.int .i64 0,.int .i64 0,.int .i64 0,.int .i64 0] 54)=W2 at *
  have x3:=HX3.out W2 HB.out
  go_wp2_with fail
  refine(HDR.out _ HB.out).mono ?_
  rintro e w3⟨rfl,HM3,HT3⟩
  have hb4:Below w3.heap.size w3 (w3.alloc (.cells #[.int .i64 a1,.int .i64 a2,.int .i64 a3,.int .i64 a4,.int .i64 a5,.int .i64 a6,.int .i64 a7,.int .i64 a8] 32)):=(bzR _ _).alloc (nzR _) _
  obtain⟨v1,hM3⟩:=HM3.out
  have HM4:=hidF (hM3.below hb4)
  have HT4:=hidF (HT3.out.trans (Tn.below (S:=tB) hb4 hM3.base))
  clear x3 hM3 HM3 HT3 hb4
  go_wp2_with fail
  refine(HVN.out _ _ HM4.out HT4.out).mono ?_
  rintro e w5⟨E,rfl,HR⟩
  go_wp2_with fail
  go_ret
  exact HR.out
theorem zJn(b t:Nat)(s:TS)(v:TV)(id:Int)(w:World)(h:TM w b t s v)(hw:Wf s)(hl:s.evs.length≤1000000)(hid:(Lit.int .i64 id).wf=true) :
  Calls Tryz.prog 50 #[.pointer (some ⟨t,0,none⟩),.int .i64 id] w (Res tB b t w (cancel s id)):=by
 cases hin:zAh s.bs s.ss id with
 | false=>exact zJm b t s v id w h hw hl hid hin
 | true=>exact zLC b t s v id w h hw hl hid hin
theorem zLD(b t:Nat)(s:TS)(v:TV)(a1 a2 a3 a4 a5 a6 a7 a8:Int)(w:World)(h:TM w b t s v)(hw:Wf s)(hl:s.evs.length≤1000000) :
  Calls Tryz.prog 73 #[.pointer (some ⟨t,0,none⟩),.agg #[.int .i64 a1,.int .i64 a2,.int .i64 a3,.int .i64 a4,.int .i64 a5,.int .i64 a6,.int .i64 a7,.int .i64 a8]] w (Res tB b t w (sleep s ⟨a1,a2,a3,a4,a5,a6,a7,a8⟩)):=by
 obtain⟨W,hW⟩:∃W,W=w.alloc (.cells #[.int .i64 a1,.int .i64 a2,.int .i64 a3,.int .i64 a4,.int .i64 a5,.int .i64 a6,.int .i64 a7,.int .i64 a8] 32):=⟨_,rfl⟩
 have hBW:Below w.heap.size w W:=by rw[hW];exact(bzR _ _).alloc (nzR _) _
 have hrow:W.heap[w.heap.size]?=some (.cells #[.int .i64 a1,.int .i64 a2,.int .i64 a3,.int .i64 a4,.int .i64 a5,.int .i64 a6,.int .i64 a7,.int .i64 a8] 32 (0,0)):=by rw[hW];exact jA w _
 obtain⟨X,hX⟩:∃X,X=sleep s ⟨a1,a2,a3,a4,a5,a6,a7,a8⟩:=⟨_,rfl⟩
 rw[←hX]
 unfold sleep at hX
 have hGl:w.heap.size<W.heap.size:=(gzE.1 hrow).1
 obtain⟨G,hG⟩:∃G,G=w.heap.size:=⟨_,rfl⟩
 have hGW:G<W.heap.size:=by rw[hG];exact hGl
 rw[←hG] at hrow
 have HPU:Hid (∀U,Below W.heap.size W U→Calls Tryz.prog 97 #[.pointer (some ⟨v.sp,0,none⟩),.agg #[.int .i64 a1,.int .i64 a2,.int .i64 a3,.int .i64 a4,.int .i64 a5,.int .i64 a6,.int .i64 a7,.int .i64 a8]] U fun e w'=>∃E,e=.returned E∧Hid ((E=.nilIface∧Hid (∃s1 v1,TM w' b t s1 v1∧s1.evs=s.evs∧X=.ok (tell s1 5 a1 a6 a8))∧Hid (Tn tB b w w')∧w'.heap[G]?=some (.cells #[.int .i64 a1,.int .i64 a2,.int .i64 a3,.int .i64 a4,.int .i64 a5,.int .i64 a6,.int .i64 a7,.int .i64 a8] 32 (0,0)))∨∃k,E=.iface 91 (.int .i64 k)∧Hid (Res tB b t w X (.returned (.iface 91 (.int .i64 k))) w'))):=fun U hU=>by
  have hwU:=hBW.trans (hU.mono hBW.size)
  have hM:=h.below hwU
  refine(wak.zQb ⟨a1,a2,a3,a4,a5,a6,a7,a8⟩ b v.sp v.vw s.ws U hM.stops hw.ws).mono ?_
  rintro e w'⟨rfl,v',k1,k2,-⟩
  obtain⟨k3,k4⟩:=hM.wait k1 k2
  have k5:=(Tn.below (S:=tB) hwU h.base).trans k4
  refine⟨_,rfl,?_⟩
  show _∨_
  by_cases hE:wak.putE s.ws ⟨a1,a2,a3,a4,a5,a6,a7,a8⟩=0
  ·left
   rw[if_pos hE] at hX
   refine⟨by rw[hE];rfl,⟨_,_,k3,rfl,?_⟩,k5,?_⟩
   ·rw[hX]
    unfold wak.putL
    rw[if_pos hE]
   ·refine(k2.block G (by have:=hU.size;omega) (fun e=>?_) (fun e=>?_)).trans ((hU.block G hGW).trans hrow)
    ·have h1:=h.stops.lt;omega
    ·rcases h.stops.own.2 with ⟨h1,_⟩|⟨g,off,cap,cur',h1,h2,h3,_⟩
     ·rw[h1] at e;cases e
     ·rw[h1] at e
      simp only[Value.ownBlock,Option.some.injEq] at e
      have:=(gzE.1 h3).1
      omega
  ·right
   rw[if_neg hE] at hX
   refine⟨_,errV_of hE,?_⟩
   show Res _ _ _ _ _ _ _
   exact zAD hX hE k5
 have HX3:Hid (W.cell? ⟨t,3,none⟩=some (.pointer (some ⟨v.sp,0,none⟩))):=(h.below hBW).cells.2.2.2.1
 obtain⟨c0,c1,c2,c3,c4,c5,c6,c7,-⟩:=wak.row8 hrow
 have HL:=hidF hl
 have HRF:=hidF (bzR W.heap.size W)
 obtain⟨q1,n1,c1',q2,n2,c2',sp,vw,pp,qe,ne,ce,qk,nk,ck⟩:=v
 have x3:=HX3.out
 simp only[] at x3
 clear h hw hl hBW hrow hX hGl hGW HX3
 go_enter Tryz.func73,Tryz.ntmps73
 go_upto_region 1 with fail
 rw[←hW]
 simp only[←hG]
 clear hW hG
 go_region_with (go_at_call 97;with_reducible refine(HPU.out _ ?_).mono ?_;(with_reducible repeat' (first|exact HRF.out|assumption|refine Below.drew ?_));rintro x w2 ⟨E,rfl,HOR⟩)
 all_goals
  rcases HOR.out with ⟨rfl,HM,HT,h6⟩|⟨k,rfl,HR⟩
  rotate_left
  ·clear HOR
   go_wp2_with fail
   go_ret
   exact HR.out
  ·(clear HOR
    obtain⟨s1,v1,hM,hs1,hx1⟩:=HM.out
    have HTL:=hidF (zDi (w0:=w) (x:=X) (S:=tB) 5 a1 a6 a8 hM HT.out tA_tB (by rw[hs1];exact HL.out) hx1)
    clear c0 c1 c2 c3 c4 c5 c6 c7 x3 hM hs1 hx1
    obtain⟨c0,c1,c2,c3,c4,c5,c6,c7,-⟩:=wak.row8 h6
    clear h6
    go_wp2_with fail
    refine HTL.out.mono ?_
    rintro x w3⟨rfl,HR⟩
    clear c0 c1 c2 c3 c4 c5 c6 c7
    go_wp2_with fail
    go_ret
    exact HR.out)
end flr
namespace flr
open Go.RowKit
open que (R rchk)
open sid (L DL LS allR)
open mee (T tV OwnT sumT zAr zAC)
open ord (O oV chk errV errV_zero errV_of prB)
open bok (zAd zAh)
open slf (V Fine)
structure Sm (s s1:TS) (k:Nat):Prop where
 mode:s1.mode=s.mode
 last:s1.last=s.last
 bs:s1.bs=s.bs
 ss:s1.ss=s.ss
 ws:s1.ws=s.ws
 row:s1.row=s.row
 evs:s1.evs.length=s.evs.length+k
theorem Sm.refl(s:TS):Sm s s 0:=⟨rfl,rfl,rfl,rfl,rfl,rfl,rfl⟩
theorem Sm.trans{a b c:TS}{i j:Nat}(h:Sm a b i)(k:Sm b c j):Sm a c (i+j):=
 ⟨k.mode.trans h.mode,k.last.trans h.last,k.bs.trans h.bs,k.ss.trans h.ss,k.ws.trans h.ws,k.row.trans h.row,by rw[k.evs,h.evs];omega⟩
theorem zAy{x:Rs}{f:TS→Rs}{s:TS}(h:x.bind f=.ok s):∃s1,x=.ok s1∧f s1=.ok s:=by
 cases x with
 | error k=>cases h
 | ok s1=>exact⟨s1,rfl,h⟩
theorem zGB{s s1:TS}{x:T}(h:Wf s)(e:trade1 s x=.ok s1):Wf s1∧Sm s s1 1:=by
 unfold trade1 at e
 split at e
 ·cases e;exact⟨⟨h.m0,h.m3,h.book,pur.zId h.ok _ _ _ _,h.ws⟩,rfl,rfl,rfl,rfl,rfl,rfl,by simp⟩
 ·cases e
theorem zDj:∀ (ts:List T) {s s1:TS},Wf s→trades s ts=.ok s1→Wf s1∧Sm s s1 ts.length
 | [],s,s1,h,e=>by cases e;exact⟨h,Sm.refl _⟩
 | x::t,s,s1,h,e=>by
  obtain⟨s2,e1,e2⟩:=zAy e
  obtain⟨h1,k1⟩:=zGB h e1
  obtain⟨h2,k2⟩:=zDj t h1 e2
  refine⟨h2,?_⟩
  have:=k1.trans k2
  rw[Nat.add_comm] at this
  exact this
theorem zFz{s s1:TS}{who c d:Int}(h:Wf s)(e:zCq s who c d=.ok s1):Wf s1∧Sm s s1 0:=by
 obtain⟨h1,rfl⟩:=free_ok h e
 exact⟨h1,rfl,rfl,rfl,rfl,rfl,rfl,rfl⟩
theorem zLE{s s1:TS}{who c d:Int}(h:Wf s)(e:zDw s who c d=.ok s1):Wf s1∧Sm s s1 0:=by
 obtain⟨h1,rfl⟩:=hold_ok h e
 exact⟨h1,rfl,rfl,rfl,rfl,rfl,rfl,rfl⟩
theorem zDy{s:TS}(h:Wf s)(a b c d:Int):Wf (tell s a b c d):=⟨h.m0,h.m3,h.book,h.ok,h.ws⟩
theorem zLF(s:TS)(a b c d:Int):Sm s (tell s a b c d) 1:=⟨rfl,rfl,rfl,rfl,rfl,rfl,by simp[tell]⟩
theorem zDS{s s1:TS}{r:R}{a p:Int}(h:Wf s)(e:zCU s r a p=.ok s1):Wf s1∧Sm s s1 0:=by
 obtain⟨h1,-,rfl⟩:=zFv h e
 exact⟨h1,rfl,rfl,rfl,rfl,rfl,rfl,rfl⟩
theorem zFA{s s1:TS}{r:R}{a p:Int}(h:Wf s)(e:part s r a p=.ok s1):Wf s1∧Sm s s1 1:=by
 obtain⟨s2,e1,e2⟩:=zAy e
 obtain⟨h1,k1⟩:=zDS h e1
 cases e2
 exact⟨zDy h1 _ _ _ _,k1.trans (zLF _ _ _ _ _)⟩
theorem zGC{s s1:TS}{id:Int}(h:Wf s)(e:zEP s id=.ok s1):Wf s1∧Sm s s1 1:=by
 unfold zEP at e
 split at e
 ·exact zFA h e
 ·cases e
theorem zFB:∀ (l:List Int) {s s1:TS},Wf s→parts s l=.ok s1→Wf s1∧Sm s s1 l.length
 | [],s,s1,h,e=>by cases e;exact⟨h,Sm.refl _⟩
 | x::t,s,s1,h,e=>by
  obtain⟨s2,e1,e2⟩:=zAy e
  obtain⟨h1,k1⟩:=zGC h e1
  obtain⟨h2,k2⟩:=zFB t h1 e2
  refine⟨h2,?_⟩
  have:=k1.trans k2
  rw[Nat.add_comm] at this
  exact this
theorem zQx{m:Int}{o:O}{ls:List L}{k:Int}{v:V}(h:Fil m o ls k v):(∀l∈ls,sid.lchk l=0)→0≤k→∀i∈v.ids,i∈(allR ls).map (·.id):=by
 induction h with
 | done=>exact fun _ _ i hi=>by cases hi
 | stop=>exact fun _ _ i hi=>by cases hi
 | taker=>exact fun _ _ i hi=>by cases hi
 | @maker p r rs t k v _ _ _ _ ih=>
  intro hl h0 i hi
  rcases List.mem_cons.1 hi with rfl|hi
  ·rw[sid.zAp];simp
  ·exact(slf.zDe hl).ids i (ih (slf.zBy hl) h0 i hi)
 | @both p r rs t k _ _ _=>
  intro hl h0 i hi
  rcases List.mem_cons.1 hi with rfl|hi
  ·rw[sid.zAp];simp
  ·cases hi
 | @fill p r rs t k v h0 hb _ _ ih=>
  intro hl _ i hi
  obtain⟨-,-,hq⟩:=sid.zAg (hl _ (List.mem_cons_self ..))
  have hr:=mee.zBg hq
  exact(zEo (o:=o) h0 hb hl).ids i (ih (mee.zBs h0 hl) (by omega) i hi)
theorem zQy{m:Int}{bs ss:List L}{o:O}(h0:0≤m)(h3:m≤3)(h:vE m bs ss o=0):∀i∈(vR m bs ss o).ids,zAh bs ss i=true:=by
 obtain⟨v,hv⟩:=zIf h0 h3 h
 obtain⟨hbk,hck,-⟩:=mee.zAG hv.come
 have hq:=(mrg.zAX hck).2.2.1
 intro i hi
 rw[hv.is] at hi
 have h1:=zQx hv.fil (other_good hv.come) (by omega) i hi
 have h2:i∈sid.ids (zAr bs ss o):=by rw[sid.zCh];exact h1
 unfold bok.zAh
 unfold mee.zAr at h2
 split at h2
 ·simp[h2]
 ·simp[h2]
end flr
namespace flr
open Go.RowKit
open que (R rchk)
open sid (L DL LS allR)
open mee (T tV OwnT sumT zAr zAC)
open ord (O oV chk errV errV_zero errV_of prB)
open bok (zAd zAh)
structure Gr (s s1:TS) (k n:Nat):Prop where
 wf:Wf s1
 mode:s1.mode=s.mode
 row:s1.row.length+s1.ws.length≤s.row.length+s.ws.length+k
 evs:s1.evs.length≤s.evs.length+n
theorem Gr.trans{a b c:TS}{i j k l:Nat}(h:Gr a b i j)(g:Gr b c k l):Gr a c (i+k) (j+l):=⟨g.wf,g.mode.trans h.mode,by have:=h.row;have:=g.row;omega,by have:=h.evs;have:=g.evs;omega⟩
theorem Gr.mono{a b:TS}{i j k l:Nat}(h:Gr a b i j)(h1:i≤k)(h2:j≤l):Gr a b k l:=⟨h.wf,h.mode,by have:=h.row;omega,by have:=h.evs;omega⟩
theorem Sm.gr{a b:TS}{k:Nat}(h:Sm a b k)(hw:Wf b):Gr a b 0 k:=⟨hw,h.mode,by rw[h.row,h.ws];omega,by rw[h.evs];omega⟩
theorem zEq{s:TS}(h:Wf s)(a b c d:Int):Gr s (tell s a b c d) 0 1:=(zLF s a b c d).gr (zDy h _ _ _ _)
theorem zHs{s:TS}{o:O}{v:Vs}(h:Wf s):Gr s (tellLeft s o v) 0 2:=by
 have h1:Gr s (zAJ s o v) 0 1:=by
  unfold zAJ;split
  ·exact zEq h _ _ _ _
  ·exact⟨h,rfl,by omega,by omega⟩
 unfold tellLeft;split
 ·exact h1.trans (zEq h1.wf _ _ _ _)
 ·exact h1.mono (by omega) (by omega)
theorem zIi{s s1:TS}{ts:List T}(h:Wf s)(e:zGx s ts=.ok s1):Gr s s1 0 0:=by
 unfold zGx at e
 split at e
 ·cases e;exact⟨h,rfl,by omega,by omega⟩
 ·split at e
  ·cases e
   have h1:=wak.zIa (ts[ts.length - 1]!).price s.ws
   have h2:=h.ws
   exact⟨⟨h.m0,h.m3,h.book,h.ok,by show (wak.left _ _).length≤20;omega⟩,rfl,by show (s.row++_).length+(wak.left _ _).length≤_;rw[jE,jP];omega,by show s.evs.length≤s.evs.length+0;omega⟩
  ·cases e
theorem zGD{s s1:TS}{o:O}{v:Vs}(h:Wf s)(hv:VO o v)(e:settle s o v=.ok s1):Gr s s1 0 480:=by
 obtain⟨s2,e1,e⟩:=zAy e
 obtain⟨h2,k2⟩:=zDj v.ts h e1
 split at e
 ·obtain⟨s3,e3,e⟩:=zAy e
  obtain⟨h3,k3⟩:=zFz h2 e3
  obtain⟨s4,e4,e⟩:=zAy e
  obtain⟨h4,k4⟩:=zFB v.ids h3 e4
  have h5:Wf { s4 with bs:=v.bs,ss:=v.ss }:=⟨h4.m0,h4.m3,hv.book,h4.ok,h4.ws⟩
  have g1:=((k2.trans k3).trans k4).gr h4
  have g2:Gr s4 { s4 with bs:=v.bs,ss:=v.ss } 0 0:=⟨h5,rfl,by simp,by simp⟩
  have g3:=(g1.trans g2).trans (zHs (o:=o) (v:=v) h5)
  have g4:=g3.trans (zIi g3.wf e)
  have:=hv.len
  have:=hv.ids
  exact g4.mono (by omega) (by omega)
 ·cases e
theorem zGE{s s1:TS}{o:O}(h:Wf s)(e:vanish s o=.ok s1):Gr s s1 0 1:=by
 unfold vanish at e
 split at e
 ·obtain⟨s2,e1,e⟩:=zAy e
  obtain⟨h2,k2⟩:=zFz h e1
  cases e
  exact(k2.gr h2).trans (zEq h2 _ _ _ _)
 ·cases e
theorem zHt{s s1:TS}{o:O}(h:Wf s)(e:rise s o=.ok s1):Gr s s1 0 480:=by
 unfold rise at e
 split at e
 ·rename_i h0;exact zGD h (zIg h.m0 h.m3 h0) e
 ·exact(zGE h e).mono (nzR _) (by omega)
theorem zQz{s s1:TS}{o:O}(h:Wf s)(e:come s o=.ok s1):Gr s s1 0 480:=by
 unfold come at e
 split at e
 ·rename_i h0;exact zGD h (zIg h.m0 h.m3 h0) e
 ·cases e
theorem zLG{ws:List O}{o:O}(h:wak.putE ws o=0)(hl:ws.length≤20):ws.length<20:=by
 unfold wak.putE at h
 by_cases h1:ws.length=20
 ·exfalso
  rw[h1] at h
  split at h
  ·split at h
   ·omega
   ·split at h
    ·omega
    ·simp at h
  ·rename_i hh;exact hh h
 ·omega
theorem zIj{s s1:TS}{o:O}(h:Wf s)(e:sleep s o=.ok s1):Gr s s1 1 1:=by
 unfold sleep at e
 split at e
 ·rename_i h0
  cases e
  have:=zLG h0 h.ws
  have hw:Wf { s with ws:=s.ws++[o] }:=⟨h.m0,h.m3,h.book,h.ok,by simp;omega⟩
  exact Gr.trans (a:=s) (b:={ s with ws:=s.ws++[o] }) (i:=1) (j:=0) ⟨hw,rfl,by show s.row.length+(s.ws++[o]).length≤s.row.length+s.ws.length+1;simp;omega,by show s.evs.length≤s.evs.length+0;omega⟩ (zEq hw _ _ _ _)
 ·cases e
theorem zIk{s s1:TS}{o:O}(h:Wf s)(e:place s o=.ok s1):Gr s s1 1 481:=by
 unfold place at e
 split at e
 ·split at e
  ·cases e
  ·obtain⟨s2,e1,e⟩:=zAy e
   obtain⟨h2,k2⟩:=zLE h e1
   split at e
   ·exact((k2.gr h2).trans (zQz h2 e)).mono (by omega) (by omega)
   ·exact((k2.gr h2).trans (zIj h2 e)).mono (by omega) (by omega)
 ·cases e
theorem zFC{s s1:TS}{id:Int}(h:Wf s)(e:leave s id=.ok s1):Gr s s1 0 1:=by
 have hw:=zOz h e
 unfold leave at e
 split at e
 ·rename_i hin
  have hb:=zBJ (spot_at h.book hin)
  have hw0:Wf { s with bs:=swp.cB (spot s.bs s.ss id).s s.bs (spot s.bs s.ss id).i (spot s.bs s.ss id).k,ss:=swp.cS (spot s.bs s.ss id).s s.ss (spot s.bs s.ss id).i (spot s.bs s.ss id).k }:=⟨h.m0,h.m3,hb,h.ok,h.ws⟩
  obtain⟨-,k⟩:=zFA hw0 e
  exact⟨hw,k.mode,by rw[k.row,k.ws];exact nzR _,by rw[k.evs];exact nzR _⟩
 ·cases e
theorem zLH{s s1:TS}{id:Int}(h:Wf s)(e:cancel s id=.ok s1):Gr s s1 0 1:=by
 unfold cancel at e
 split at e
 ·exact zFC h e
 ·split at e
  ·cases e
  ·have hl:(drop1 s.ws id).length≤s.ws.length:=by unfold drop1;simp only[jE,jJ,jQ];omega
   have hw:Wf { s with ws:=drop1 s.ws id }:=⟨h.m0,h.m3,h.book,h.ok,by have:=h.ws;show (drop1 s.ws id).length≤20;omega⟩
   exact(Gr.trans (a:=s) (b:={ s with ws:=drop1 s.ws id }) (i:=0) (j:=0) ⟨hw,rfl,by show s.row.length+(drop1 s.ws id).length≤s.row.length+s.ws.length+0;omega,by show s.evs.length≤s.evs.length+0;omega⟩ (zGE hw e)).mono (by omega) (by omega)
theorem zGF{s s1:TS}{id price qty:Int}(h:Wf s)(hin:zAh s.bs s.ss id=true)(hk:swp.zDF (spot s.bs s.ss id).p (spot s.bs s.ss id).r price qty=true)(e:shrink s id price qty=.ok s1):Gr s s1 0 1:=by
 have hA:=spot_at h.book hin
 unfold shrink at e
 simp only[] at e
 generalize spot s.bs s.ss id=x at *
 split at e
 ·rename_i hq
  obtain⟨s2,e1,e⟩:=zAy e
  have g1:Wf s2∧Sm s s2 0:=by
   split at e1
   ·exact zDS h e1
   ·cases e1;exact⟨h,Sm.refl _⟩
  cases e
  have hle:qty≤x.r.qty+x.r.hid:=by
   unfold swp.zDF at hk
   simp only[Bool.and_eq_true,decide_eq_true_eq] at hk
   exact hk.2
  have hb:=(hA.keep (r':=swp.zAS x.r qty) (by exact hA.id) (swp.zLc hA.rest hq.1 hle)).book
  have hw:Wf { s2 with bs:=swp.kB x.s s.bs x.i x.k (swp.zAS x.r qty),ss:=swp.kS x.s s.ss x.i x.k (swp.zAS x.r qty) }:=⟨g1.1.m0,g1.1.m3,hb,g1.1.ok,g1.1.ws⟩
  exact((g1.2.gr g1.1).trans (Gr.trans (a:=s2) (b:={ s2 with bs:=swp.kB x.s s.bs x.i x.k (swp.zAS x.r qty),ss:=swp.kS x.s s.ss x.i x.k (swp.zAS x.r qty) }) (i:=0) (j:=0) ⟨hw,rfl,nzR _,nzR _⟩ (zEq hw _ _ _ _))).mono (by omega) (by omega)
 ·cases e
theorem zQA{s s1:TS}{id price qty:Int}(h:Wf s)(e:swap s id price qty=.ok s1):Gr s s1 1 482:=by
 unfold swap at e
 split at e
 ·rename_i hE
  obtain⟨-,hin,-⟩:=swp.zHn hE
  split at e
  ·rename_i hk;exact(zGF h hin hk e).mono (by omega) (by omega)
  ·obtain⟨s2,e1,e⟩:=zAy e
   have g:=zFC h e1
   exact(g.trans (zIk g.wf e)).mono (by omega) (by omega)
 ·cases e
theorem zGG{s s1:TS}{c:Cm}(h:Wf s)(e:doC s c=.ok s1):Gr s s1 1 482:=by
 unfold doC at e
 split at e
 ·exact(zIk h e).mono (by omega) (by omega)
 split at e
 ·exact(zLH h e).mono (by omega) (by omega)
 split at e
 ·exact zQA h e
 split at e
 ·unfold payS at e
  split at e
  ·cases e;exact⟨⟨h.m0,h.m3,h.book,pur.pay_ok h.ok _ _,h.ws⟩,rfl,by simp,by simp⟩
  ·cases e
 split at e
 ·unfold zGy at e
  split at e
  ·cases e;exact⟨⟨h.m0,h.m3,h.book,pur.zQf h.ok _ _,h.ws⟩,rfl,by simp,by simp⟩
  ·cases e
 ·cases e
theorem zBB(n:Nat)(s:TS)(h:s.row=[]):zBI n s=.ok s:=by
 cases n with
 | zero=>rfl
 | succ n=>unfold zBI;rw[h]
theorem zCn(n:Nat)(s:TS){x:Sl}{t:List Sl}(h:s.row=x::t):zBI (n+1) s=(rise (tell { s with row:=t } 4 x.o.id x.o.qty x.p) x.o).bind (zBI n):=by
 rw[zBI,h]
theorem zDk:∀ (n:Nat) {s s1:TS},Wf s→zBI n s=.ok s1→Wf s1∧s1.mode=s.mode
 | 0,s,s1,h,e=>by cases e;exact⟨h,rfl⟩
 | n+1,s,s1,h,e=>by
  cases hr:s.row with
  | nil=>rw[zBB _ _ hr] at e;cases e;exact⟨h,rfl⟩
  | cons x t=>
   rw[zCn _ _ hr] at e
   obtain⟨s2,e1,e⟩:=zAy e
   have hw:Wf (tell { s with row:=t } 4 x.o.id x.o.qty x.p):=⟨h.m0,h.m3,h.book,h.ok,h.ws⟩
   have g:=zHt hw e1
   obtain⟨a,b⟩:=zDk n g.wf e
   exact⟨a,b.trans g.mode⟩
end flr
end Go.Proofs.YtifjhlgjgnnnpaaGreat
