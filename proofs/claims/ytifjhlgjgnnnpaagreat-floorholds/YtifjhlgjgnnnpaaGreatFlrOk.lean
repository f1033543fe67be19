import Derived.Test.YtifjhlgjgnnnpaaGreatFlrWak
import Derived.Test.YtifjhlgjgnnnpaaGreatFlrUp
import Derived.Test.YtifjhlgjgnnnpaaGreatFlrWf
set_option maxHeartbeats 8000000
set_option maxRecDepth 100000
namespace Go.Proofs.YtifjhlgjgnnnpaaGreat
namespace flr
open Go.RowKit
open que (R rchk)
open sid (L DL LS)
open mee (T tV OwnT sumT)
open ord (O oV chk errV errV_zero errV_of prB)
open que (bal)
open bok (zAd zAh)
open pur (Pz Pu Ok flatP pL)
open wak (OwnM OwnQ St SL Lies oL idx Trn)
def WfF(f:FS):Prop:=Wf (zAq f)
theorem fdo_wf{f:FS}{c:Cm}{s:TS}(h:WfF f)(e:fdo f c=.ok s):WfF (zCm s):=by
 obtain⟨s1,e1,e2⟩:=zAy e
 have g:=zGG h e1
 obtain⟨hw,-⟩:=zDk _ g.wf e2
 exact⟨hw.m0,hw.m3,hw.book,hw.ok,hw.ws⟩
def DoPost(F:Nat)(f:FS)(c:Cm)(w:World)(e:Ending)(w' : World):Prop:=
 (∀s,fdo f c=.ok s→(∃q m k,e=.returned (.tuple #[.slice q m k,.nilIface])∧OwnM w' w.heap.size 42 10 (.slice q m k) s.evs.length (zAY s.evs))∧(∃v',FM w' F (zCm s) v')∧w.grownBy w' (some F))∧
 (∀k,fdo f c=.error k→¬k=0∧e=.returned (.tuple #[.slice none 0 0,.iface 91 (.int .i64 k)])∧Below w.heap.size w w')
theorem zMo(F:Nat)(f:FS)(v:FV)(what a1 a2 a3 a4 a5 a6 a7 a8 who n:Int)(w:World)(h:FM w F f v)(hw:WfF f)(hid:(Lit.int .i64 a1).wf=true) :
  Calls Tryz.prog 8 #[.pointer (some ⟨F,0,none⟩),.agg #[.int .i64 what,.int .i64 a1,.int .i64 a2,.int .i64 a3,.int .i64 a4,.int .i64 a5,.int .i64 a6,.int .i64 a7,.int .i64 a8,.int .i64 who,.int .i64 n]] w fun e w'=>DoPost F f ⟨what,⟨a1,a2,a3,a4,a5,a6,a7,a8⟩,who,n⟩ w e w':=by
 obtain⟨W,hW⟩:∃W,W=w.alloc (.cells #[.int .i64 what,.int .i64 a1,.int .i64 a2,.int .i64 a3,.int .i64 a4,.int .i64 a5,.int .i64 a6,.int .i64 a7,.int .i64 a8,.int .i64 who,.int .i64 n] 34):=⟨_,rfl⟩
 have hBW:Below w.heap.size w W:=by rw[hW];exact(bzR _ _).alloc (nzR _) _
 have hrow:W.heap[w.heap.size]?=some (.cells #[.int .i64 what,.int .i64 a1,.int .i64 a2,.int .i64 a3,.int .i64 a4,.int .i64 a5,.int .i64 a6,.int .i64 a7,.int .i64 a8,.int .i64 who,.int .i64 n] 34 (0,0)):=by rw[hW];exact jA w _
 obtain⟨G,hG⟩:∃G,G=w.heap.size:=⟨_,rfl⟩
 rw[←hG] at hrow
 have HFR:=hidF (zJs F f v W (h.below hBW) hw.ws)
 have HGS:=hidF hG
 have HRG:=hidF hrow
 have HBW:=hidF hBW
 have HFM:=hidF h
 have HW:=hidF hw
 have HID:=hidF hid
 obtain⟨X,hX⟩:∃X,X=doC (zAq f) ⟨what,⟨a1,a2,a3,a4,a5,a6,a7,a8⟩,who,n⟩:=⟨_,rfl⟩
 have HX:=hidF hX
 obtain⟨Y,hY⟩:∃Y,Y=fdo f ⟨what,⟨a1,a2,a3,a4,a5,a6,a7,a8⟩,who,n⟩:=⟨_,rfl⟩
 have HY:Hid (Y=X.bind fun s=>zBI (s.row.length+s.ws.length) s):=by show _=_;rw[hY,hX];rfl
 unfold DoPost
 rw[←hY]
 clear h hw hid hBW hrow hX hY
 go_enter Tryz.func8,Tryz.ntmps8
 go_wp2_with fail
 rw[←hW]
 simp only[←hG]
 clear hW hG
 refine HFR.out.mono ?_
 rintro e w1⟨sp,vw,pp,rfl,hst,hpu,hpl,hb1⟩
 obtain⟨W2,hW2⟩:∃W2,W2=w1.alloc (.cells #[.int .i64 f.mode,.slice v.q1 v.n1 v.c1,.slice v.q2 v.n2 v.c2,.pointer (some ⟨sp,0,none⟩),.pointer (some ⟨pp,0,none⟩),.int .i64 f.last,.slice none 0 0,.slice none 0 0] 85):=⟨_,rfl⟩
 have hb2:Below w1.heap.size w1 W2:=by rw[hW2];exact(bzR _ _).alloc (nzR _) _
 have hr2:W2.heap[w1.heap.size]?=some (.cells #[.int .i64 f.mode,.slice v.q1 v.n1 v.c1,.slice v.q2 v.n2 v.c2,.pointer (some ⟨sp,0,none⟩),.pointer (some ⟨pp,0,none⟩),.int .i64 f.last,.slice none 0 0,.slice none 0 0] 85 (0,0)):=by rw[hW2];exact jA w1 _
 have hw1:=HBW.out.trans (hb1.mono HBW.out.size)
 have hw2:=hw1.trans (hb2.mono hw1.size)
 have hk0:Kp [] w W2:=Kp.below hw2
 have HTM:Hid (TM W2 w.heap.size w1.heap.size (zAq f) ⟨v.q1,v.n1,v.c1,v.q2,v.n2,v.c2,sp,vw,pp,none,0,0,none,0,0⟩):=by
  refine⟨hr2,hw1.size,hk0.dl HFM.out.buys (by simp) (by simp),hk0.dl HFM.out.sells (by simp) (by simp),?_,?_,jM HBW.out.size hpl,⟨rfl,.inl ⟨rfl,rfl⟩⟩,⟨rfl,.inl ⟨rfl,rfl⟩⟩⟩
  ·exact(zFG hst HBW.out.size).below hb2
  ·exact(Kp.below (S:=[]) hb2).pu hpu (by simp)
 have HW2:=hidF hw2
 have HR2:=hidF (zBl (zBl HRG.out hb1) hb2)
 have HDO:=hidF (do_any w.heap.size w1.heap.size (zAq f) _ a1 a2 a3 a4 a5 a6 a7 a8 who n W2 what HTM.out HW.out (jL _) (jL _) HID.out)
 rw[←HX.out] at HDO
 clear hst hpu hpl hb1 hb2 hr2 hw1 hw2 hk0 HFR HRG HBW
 go_upto_region 2 with fail
 rw[←hW2]
 clear hW2
 obtain⟨t,ht⟩:∃t,t=w1.heap.size:=⟨_,rfl⟩
 rw[←ht] at HDO HTM
 simp only[←ht]
 clear ht
 obtain⟨c0,c1,c2,c3,c4,c5,c6,c7,c8,c9,c10⟩:=row11 HR2.out
 go_wp2_with fail
 refine HDO.out.mono ?_
 intro e w3 hR
 have HT3:=hidF hR.1
 clear c0 c1 c2 c3 c4 c5 c6 c7 c8 c9 c10 HDO
 rcases zCV hR with ⟨s1,v1,hx1,rfl,HM1⟩|⟨k,rfl,HE⟩
 rotate_left
 ·have HEND:Hid ((∀s,Y=.ok s→False)∧(∀k',Y=.error k'→¬k'=0∧k'=k)∧Below w.heap.size w w3):=by
   have hy:Y=.error k:=by rw[HY.out,HE.out.1];rfl
   refine⟨fun s e=>?_,fun k' e=>?_,?_⟩
   ·rw[hy] at e;cases e
   ·rw[hy] at e;cases e;exact⟨HE.out.2,rfl⟩
   ·exact HW2.out.trans HT3.out.bel
  clear hR HE
  go_wp2_with fail
  go_ret2
  refine⟨fun s e=>(HEND.out.1 s e).elim,fun k' e=>?_⟩
  obtain⟨h1,rfl⟩:=HEND.out.2.1 k' e
  exact⟨h1,rfl,HEND.out.2.2⟩
 have HG1:=hidF (zGG HW.out (HX.out.symm.trans hx1))
 have HY1:Hid (Y=zBI (s1.row.length+s1.ws.length) s1):=by show _=_;rw[HY.out,hx1];rfl
 have HWU:=hidF (zJw w.heap.size t (s1.row.length+s1.ws.length) s1 v1 w3 HM1.out HG1.out.wf (nzR _) (by have h1:=HG1.out.row;have h2:=HG1.out.evs;have h3:=HW.out.ws;have h4:(zAq f).row.length=0:=rfl;have h5:(zAq f).evs.length=0:=rfl;omega))
 rw[←HY1.out] at HWU
 clear hR hx1 HX HY HY1 HG1
 go_wp2_with fail
 refine HWU.out.mono ?_
 intro e w4 hR
 have HT4:=hidF (HT3.out.trans hR.1)
 clear HWU
 rcases zCV hR with ⟨s2,v2,hx2,rfl,HM2⟩|⟨k,rfl,HE⟩
 rotate_left
 ·have HEND:Hid ((∀s,Y=.ok s→False)∧(∀k',Y=.error k'→¬k'=0∧k'=k)∧Below w.heap.size w w4):=by
   have hy:Y=.error k:=HE.out.1
   refine⟨fun s e=>?_,fun k' e=>?_,?_⟩
   ·rw[hy] at e;cases e
   ·rw[hy] at e;cases e;exact⟨HE.out.2,rfl⟩
   ·exact HW2.out.trans HT4.out.bel
  clear hR HE
  go_wp2_with fail
  go_ret2
  refine⟨fun s e=>(HEND.out.1 s e).elim,fun k' e=>?_⟩
  obtain⟨h1,rfl⟩:=HEND.out.2.1 k' e
  exact⟨h1,rfl,HEND.out.2.2⟩
 have HYX:=hidF hx2
 have hB4:=HW2.out.trans HT4.out.bel
 have hFl:=HFM.out.lt
 have hFb:w4.heap[F]?=some (.cells (rowF f v) 81 (0,0)):=(hB4.block F hFl).trans HFM.out.blk
 obtain⟨x0,x1,x2,x3,x4,x5,x6,x7,-⟩:=HM2.out.cells
 obtain⟨f0,f1,f2,f3,f4,f5,ff⟩:=zEt hFb
 have ff0:=ff 0
 have ff1:=ff 1
 have ff2:=ff 2
 have ff3:=ff 3
 have ff4:=ff 4
 have ff5:=ff 5
 have htF:¬t=F:=by have:=HM2.out.le;omega
 obtain⟨r1,r2,r3,r4,r5,r6,r7,vw2,r9,qe,ne,ce,qk,nk,ck⟩:=v2
 simp only[] at x0 x1 x2 x3 x4 x5 x6 x7
 have hg:=gr6 w4 F (.int .i64 s2.mode) (.slice r1 r2 r3) (.slice r4 r5 r6) (.pointer (some ⟨r7,0,none⟩)) (.pointer (some ⟨r9,0,none⟩)) (.int .i64 s2.last)
 have hk:Kp [81] w4 _:=Kp.grown hg hFb (by simp)
 have HFIN:Hid (FM ((((((w4.setCell ⟨F,0,none⟩ (.int .i64 s2.mode)).setCell ⟨F,1,none⟩ (.slice r1 r2 r3)).setCell ⟨F,2,none⟩ (.slice r4 r5 r6)).setCell ⟨F,3,none⟩ (.pointer (some ⟨r7,0,none⟩))).setCell ⟨F,4,none⟩ (.pointer (some ⟨r9,0,none⟩))).setCell ⟨F,5,none⟩ (.int .i64 s2.last)) F (zCm s2) ⟨r1,r2,r3,r4,r5,r6,r7,vw2,r9⟩∧w.grownBy ((((((w4.setCell ⟨F,0,none⟩ (.int .i64 s2.mode)).setCell ⟨F,1,none⟩ (.slice r1 r2 r3)).setCell ⟨F,2,none⟩ (.slice r4 r5 r6)).setCell ⟨F,3,none⟩ (.pointer (some ⟨r7,0,none⟩))).setCell ⟨F,4,none⟩ (.pointer (some ⟨r9,0,none⟩))).setCell ⟨F,5,none⟩ (.int .i64 s2.last)) (some F)∧OwnM ((((((w4.setCell ⟨F,0,none⟩ (.int .i64 s2.mode)).setCell ⟨F,1,none⟩ (.slice r1 r2 r3)).setCell ⟨F,2,none⟩ (.slice r4 r5 r6)).setCell ⟨F,3,none⟩ (.pointer (some ⟨r7,0,none⟩))).setCell ⟨F,4,none⟩ (.pointer (some ⟨r9,0,none⟩))).setCell ⟨F,5,none⟩ (.int .i64 s2.last)) w.heap.size 42 10 (.slice qe ne ce) s2.evs.length (zAY s2.evs)):=by
  refine⟨⟨set6 hFb _ _ _ _ _ _,hk.dl HM2.out.buys (by decide) (by decide),hk.dl HM2.out.sells (by decide) (by decide),hk.st (zFG HM2.out.stops (jL _)) (by decide) (by decide),hk.pu HM2.out.purs (by decide)⟩,?_,hk.own HM2.out.evs (by decide)⟩
  exact wak.gr_trans (wak.gr_below hB4 _) hg
 have HTB:Hid (((((((w4.setCell ⟨F,0,none⟩ (.int .i64 s2.mode)).setCell ⟨F,1,none⟩ (.slice r1 r2 r3)).setCell ⟨F,2,none⟩ (.slice r4 r5 r6)).setCell ⟨F,3,none⟩ (.pointer (some ⟨r7,0,none⟩))).setCell ⟨F,4,none⟩ (.pointer (some ⟨r9,0,none⟩))).setCell ⟨F,5,none⟩ (.int .i64 s2.last)).heap[t]?=w4.heap[t]?):=hg.block t HM2.out.lt (fun e=>htF (by cases e;rfl))
 have HBL:=hidF HM2.out.blk
 clear hR hx2 hB4 hFb hg hk ff HM2 HT4 HT3 HW2 HFM HM1 HTM
 go_upto_region 9 with fail
 generalize (((((w4.setCell ⟨F,0,none⟩ (.int .i64 s2.mode)).setCell ⟨F,1,none⟩ (.slice r1 r2 r3)).setCell ⟨F,2,none⟩ (.slice r4 r5 r6)).setCell ⟨F,3,none⟩ (.pointer (some ⟨r7,0,none⟩))).setCell ⟨F,4,none⟩ (.pointer (some ⟨r9,0,none⟩))).setCell ⟨F,5,none⟩ (.int .i64 s2.last)=Z at *
 have hbZ:Z.heap[t]?=some _:=HTB.out.trans HBL.out
 clear x0 x1 x2 x3 x4 x5 x6 x7 f0 f1 f2 f3 f4 f5 ff0 ff1 ff2 ff3 ff4 ff5
 obtain⟨-,-,-,-,-,-,x6,-,-⟩:=wak.row8 hbZ
 clear hbZ HTB HBL
 go_wp2_with fail
 go_ret2
 refine⟨fun s e=>?_,fun k' e=>?_⟩
 ·have h1:=HYX.out
  rw[e] at h1
  cases h1
  exact⟨⟨_,_,_,rfl,HFIN.out.2.2⟩,⟨_,HFIN.out.1⟩,HFIN.out.2.1⟩
 ·have h1:=HYX.out
  rw[e] at h1
  cases h1
end flr
namespace flr
open Go.RowKit
open que (R rchk)
open sid (L DL LS)
open mee (T tV OwnT sumT)
open ord (O oV chk errV errV_zero errV_of prB)
open que (bal)
open bok (zAd zAh)
open pur (Pz Pu Ok flatP pL)
open wak (OwnM OwnQ St SL Lies oL idx Trn)
open pur (newL)
def emptyF(m:Int):FS:=⟨m,0,[],[],[],newL 9⟩
theorem zOR(F:Nat)(f:FS)(v:FV)(w:World)(h:FM w F f v) :
  Calls Tryz.prog 16 #[.pointer (some ⟨F,0,none⟩)] w fun e w'=>e=.returned (.int .i64 f.last)∧w'=w:=by
 obtain⟨x0,x1,x2,x3,x4,x5,-⟩:=h.cells
 clear h
 go_enter Tryz.func16,Tryz.ntmps16
 go_wp2
 go_ret
 exact⟨rfl,rfl⟩
theorem zMp(F:Nat)(f:FS)(v:FV)(w:World)(h:FM w F f v)(hl:f.ws.length≤20) :
  Calls Tryz.prog 14 #[.pointer (some ⟨F,0,none⟩)] w fun e w'=>∃q c,e=.returned (.slice q f.ws.length c)∧OwnQ w' w.heap.size (.slice q f.ws.length c) f.ws∧Below w.heap.size w w':=by
 obtain⟨x0,x1,x2,x3,x4,x5,-⟩:=h.cells
 have HA:=hidF (wak.all_any 0 v.sp v.vw f.ws w h.stops (by omega))
 obtain⟨q1,n1,c1,q2,n2,c2,sp,vw,pp⟩:=v
 simp only[] at x0 x1 x2 x3 x4 x5 HA
 clear h hl
 go_enter Tryz.func14,Tryz.ntmps14
 go_wp2_with fail
 refine HA.out.mono ?_
 rintro e w1⟨q,c,rfl,k1,k2⟩
 have HK:=hidF (And.intro k1 k2)
 clear k1 k2 x0 x1 x2 x3 x4 x5
 go_wp2_with fail
 go_ret
 exact⟨q,c,rfl,HK.out.1,HK.out.2⟩
theorem zGT(F:Nat)(f:FS)(v:FV)(who:Int)(w:World)(h:FM w F f v) :
  Calls Tryz.prog 9 #[.pointer (some ⟨F,0,none⟩),.int .i64 who] w fun e w'=>e=.returned (.tuple #[.agg (pL (pur.getZ f.ps who)).toArray,spn.errV (spn.zAk (pur.badW who))])∧Below w.heap.size w w':=by
 obtain⟨W,hW⟩:∃W,W=w.alloc (.cells #[.int .i64 0,.int .i64 0,.int .i64 0,.int .i64 0,.int .i64 0] 36):=⟨_,rfl⟩
 have hBW:Below w.heap.size w W:=by rw[hW];exact(bzR _ _).alloc (nzR _) _
 have hrow:W.heap[w.heap.size]?=some (.cells #[.int .i64 0,.int .i64 0,.int .i64 0,.int .i64 0,.int .i64 0] 36 (0,0)):=by rw[hW];exact jA w _
 obtain⟨G,hG⟩:∃G,G=w.heap.size:=⟨_,rfl⟩
 rw[←hG] at hrow
 have hGl:w.heap.size≤G:=by omega
 obtain⟨x0,x1,x2,x3,x4,x5,-⟩:=(h.below hBW).cells
 have HG:=hidF (pur.zQj v.pp f.ps who W (h.below hBW).purs)
 have HRW:=hidF hrow
 have HBW:=hidF (And.intro hBW hGl)
 obtain⟨q1,n1,c1,q2,n2,c2,sp,vw,pp⟩:=v
 simp only[] at x0 x1 x2 x3 x4 x5 HG
 rcases hz:pur.getZ f.ps who with ⟨z1,z2,z3,z4,z5⟩
 rw[hz] at HG
 generalize spn.errV (spn.zAk (pur.badW who))=E at *
 have e5:pL ⟨z1,z2,z3,z4,z5⟩=[.int .i64 z1,.int .i64 z2,.int .i64 z3,.int .i64 z4,.int .i64 z5]:=rfl
 rw[e5] at HG ⊢
 clear h hBW hrow hz hGl e5
 go_enter Tryz.func9,Tryz.ntmps9
 go_upto_region 1 with fail
 rw[←hW]
 simp only[←hG]
 clear hW hG
 go_wp2_with fail
 refine HG.out.mono ?_
 rintro e w1⟨rfl,b1⟩
 have hr1:=zBl HRW.out b1
 have hw1:=HBW.out.1.trans (b1.mono HBW.out.1.size)
 have hgg:=sid.zBP w1 G (.int .i64 z1) (.int .i64 z2) (.int .i64 z3) (.int .i64 z4) (.int .i64 z5)
 have HB2:=hidF (hw1.grown hgg hw1.size (fun k hk=>by cases hk;exact HBW.out.2))
 have HS:=hidF (sid.zAV hr1 (.int .i64 z1) (.int .i64 z2) (.int .i64 z3) (.int .i64 z4) (.int .i64 z5))
 obtain⟨p0,p1,p2,p3,p4,pf⟩:=sid.zAe hr1
 have pf0:=pf 0
 have pf1:=pf 1
 have pf2:=pf 2
 have pf3:=pf 3
 have pf4:=pf 4
 clear x0 x1 x2 x3 x4 x5 HG HRW b1 hr1 hw1 hgg pf
 go_wp2_with fail
 generalize ((((w1.setCell ⟨G,0,none⟩ (.int .i64 z1)).setCell ⟨G,1,none⟩ (.int .i64 z2)).setCell ⟨G,2,none⟩ (.int .i64 z3)).setCell ⟨G,3,none⟩ (.int .i64 z4)).setCell ⟨G,4,none⟩ (.int .i64 z5)=Z at *
 obtain⟨y0,y1,y2,y3,y4,-⟩:=sid.zAe HS.out
 exact jN (v:=.tuple #[.agg #[.int .i64 z1,.int .i64 z2,.int .i64 z3,.int .i64 z4,.int .i64 z5],E]) (by simp[results,Tryz.results9,go_sem,y0,y1,y2,y3,y4]) rfl ⟨rfl,HB2.out⟩
theorem zIs(m:Int)(h0:0≤m)(h3:m≤3)(w:World) :
  Calls Tryz.prog 7 #[.int .i64 m] w fun e w'=>∃F v,e=.returned (.tuple #[.pointer (some ⟨F,0,none⟩),.nilIface])∧FM w' F (emptyF m) v∧w.heap.size≤F∧Below w.heap.size w w':=by
 have HSP:Hid ([(m,0,3)].any spn.zAo=false):=by show _=_;simp[spn.zAo];omega
 clear h0 h3
 go_enter Tryz.func7,Tryz.ntmps7
 go_wp2_with fail
 refine(spn.zDH m w).mono ?_
 rintro e w1⟨rfl,b1⟩
 have HW1:=hidF b1
 clear b1
 go_wp2_with fail
 refine(spn.scheck1 false _ _ _ _ _ rfl HSP.out).mono ?_
 rintro e w2⟨rfl,b2⟩
 rw[show spn.errV (spn.zAk false)=.nilIface from rfl]
 have HW2:=hidF (HW1.out.trans (b2.mono HW1.out.size))
 clear b2 HW1
 go_wp2_with fail
 refine(wak.new_any w2).mono ?_
 rintro e w3⟨rfl,s3,b3⟩
 have HS3:=hidF s3
 have HW3:=hidF b3
 clear s3 b3
 go_wp2_with fail
 refine(pur.new_any w3).mono ?_
 rintro e w4⟨rfl,p4,b4⟩
 have HP4:=hidF p4
 have HW4:=hidF b4
 clear p4 b4
 go_wp2_with fail
 go_ret2
 have hb5:Below w4.heap.size w4 (w4.alloc (.cells #[.int .i64 m,.slice none 0 0,.slice none 0 0,.pointer (some ⟨w2.heap.size,0,none⟩),.pointer (some ⟨w3.heap.size,0,none⟩),.int .i64 0] 81)):=(bzR _ _).alloc (nzR _) _
 have hw4:=HW2.out.trans ((HW3.out.trans (HW4.out.mono HW3.out.size)).mono HW2.out.size)
 have hs5:=((HS3.out.below HW4.out).below hb5)
 have hp5:=(Kp.below (S:=[]) hb5).pu HP4.out (by simp)
 exact⟨w4.heap.size,⟨none,0,0,none,0,0,w2.heap.size,.slice none 0 0,w3.heap.size⟩,rfl,⟨jA w4 _,sid.zED _ _,sid.zED _ _,zFG hs5 (jL _),hp5⟩,hw4.size,hw4.trans (hb5.mono hw4.size)⟩
theorem zMq(m:Int)(h:¬(0≤m∧m≤3))(w:World) :
  Calls Tryz.prog 7 #[.int .i64 m] w fun e w'=>e=.returned (.tuple #[.pointer none,.iface 91 (.int .i64 1)])∧Below w.heap.size w w':=by
 have HSP:Hid ([(m,0,3)].any spn.zAo=true):=by show _=_;simp[spn.zAo];omega
 clear h
 go_enter Tryz.func7,Tryz.ntmps7
 go_wp2_with fail
 refine(spn.zDH m w).mono ?_
 rintro e w1⟨rfl,b1⟩
 have HW1:=hidF b1
 clear b1
 go_wp2_with fail
 refine(spn.scheck1 true _ _ _ _ _ rfl HSP.out).mono ?_
 rintro e w2⟨rfl,b2⟩
 rw[show spn.errV (spn.zAk true)=.iface 91 (.int .i64 1) from rfl]
 have HW2:=hidF (HW1.out.trans (b2.mono HW1.out.size))
 clear b2 HW1
 go_wp2_with fail
 go_ret2
 exact⟨rfl,HW2.out⟩
theorem zMr(F:Nat)(f:FS)(v:FV)(w:World)(h:FM w F f v)(hw:zAd f.bs f.ss=0) :
  Calls Tryz.prog 10 #[.pointer (some ⟨F,0,none⟩)] w fun e w'=>∃q1 n1 c1 q2 n2 c2,e=.returned (.agg #[.slice q1 n1 c1,.slice q2 n2 c2])∧DL w' w.heap.size (.slice q1 n1 c1) f.bs∧DL w' w.heap.size (.slice q2 n2 c2) f.ss∧Below w.heap.size w w':=by
 obtain⟨W,hW⟩:∃W,W=w.alloc (.cells #[.slice none 0 0,.slice none 0 0] 46):=⟨_,rfl⟩
 have hBW:Below w.heap.size w W:=by rw[hW];exact(bzR _ _).alloc (nzR _) _
 have hrow:W.heap[w.heap.size]?=some (.cells #[.slice none 0 0,.slice none 0 0] 46 (0,0)):=by rw[hW];exact jA w _
 obtain⟨G,hG⟩:∃G,G=w.heap.size:=⟨_,rfl⟩
 rw[←hG] at hrow
 have hGl:w.heap.size≤G:=by omega
 obtain⟨e1,e2,-⟩:=bok.zAf hw
 obtain⟨x0,x1,x2,x3,x4,x5,-⟩:=(h.below hBW).cells
 have HF:=hidF (mee.zDp v.q1 v.q2 v.n1 v.n2 v.c1 v.c2 f.bs f.ss W (h.below hBW).buys.ls (h.below hBW).sells.ls e1 e2)
 have HRW:=hidF hrow
 have HBW:=hidF (And.intro hBW hGl)
 obtain⟨q1,n1,c1,q2,n2,c2,sp,vw,pp⟩:=v
 simp only[] at x0 x1 x2 x3 x4 x5 HF
 clear h hBW hrow hGl e1 e2 hw
 go_enter Tryz.func10,Tryz.ntmps10
 go_upto_region 1 with fail
 rw[←hW]
 simp only[←hG]
 clear hW hG
 go_wp2_with fail
 refine HF.out.mono ?_
 rintro e w1⟨u1,u2,m1,m2,d1,d2,rfl,b1,D1,D2,-,-⟩
 have hr1:=zBl HRW.out b1
 have hw1:=HBW.out.1.trans (b1.mono HBW.out.1.size)
 have hgg:=sid.zAN w1 G (.slice u1 m1 d1) (.slice u2 m2 d2)
 have hk:Kp [46] w1 _:=Kp.grown hgg hr1 (by simp)
 have HB2:=hidF (And.intro (hw1.grown hgg hw1.size (fun k hk=>by cases hk;exact HBW.out.2)) (And.intro (hk.dl (D1.mono HBW.out.1.size) (by decide) (by decide)) (hk.dl (D2.mono HBW.out.1.size) (by decide) (by decide))))
 have HS:=hidF (sid.zAw hr1 (.slice u1 m1 d1) (.slice u2 m2 d2))
 obtain⟨p0,p1,pf⟩:=sid.zAb hr1
 have pf0:=pf 0
 have pf1:=pf 1
 clear x0 x1 x2 x3 x4 x5 HF HRW b1 hr1 hw1 hgg pf hk D1 D2
 go_wp2_with fail
 generalize (w1.setCell ⟨G,0,none⟩ (.slice u1 m1 d1)).setCell ⟨G,1,none⟩ (.slice u2 m2 d2)=Z at *
 obtain⟨y0,y1,-⟩:=sid.zAb HS.out
 exact jN (v:=.agg #[.slice u1 m1 d1,.slice u2 m2 d2]) (by simp[results,Tryz.results10,go_sem,y0,y1]) rfl ⟨u1,m1,d1,u2,m2,d2,rfl,HB2.out.2.1,HB2.out.2.2,HB2.out.1⟩
end flr
namespace flr
open Go.RowKit
open que (R rchk)
open sid (L DL LS)
open mee (T tV OwnT sumT)
open ord (O oV chk errV errV_zero errV_of prB)
open bok (zAd zAh)
open pur (Pz Pu Ok flatP pL payE payP zCC zCk)
open wak (OwnM OwnQ St SL Lies oL idx Trn)
theorem zQS{f:FS}{o:O}{who n:Int}(h:payE f.ps who n=0):fdo f ⟨4,o,who,n⟩=.ok { zAq f with ps:=payP f.ps who n }:=by
 have e:doC (zAq f) ⟨4,o,who,n⟩=.ok { zAq f with ps:=payP f.ps who n }:=by
  show payS (zAq f) who n=_
  unfold payS
  rw[if_pos (show payE (zAq f).ps who n=0 from h)]
  rfl
 unfold fdo
 rw[e]
 exact zBB _ _ rfl
theorem do_ok(F:Nat)(f:FS)(v:FV)(what a1 a2 a3 a4 a5 a6 a7 a8 who n:Int)(w:World)(s:TS)(h:FM w F f v)(hw:WfF f)(hid:(Lit.int .i64 a1).wf=true)(e:fdo f ⟨what,⟨a1,a2,a3,a4,a5,a6,a7,a8⟩,who,n⟩=.ok s) :
  Calls Tryz.prog 8 #[.pointer (some ⟨F,0,none⟩),.agg #[.int .i64 what,.int .i64 a1,.int .i64 a2,.int .i64 a3,.int .i64 a4,.int .i64 a5,.int .i64 a6,.int .i64 a7,.int .i64 a8,.int .i64 who,.int .i64 n]] w fun e w'=>∃q k v',e=.returned (.tuple #[.slice q s.evs.length k,.nilIface])∧OwnM w' w.heap.size 42 10 (.slice q s.evs.length k) s.evs.length (zAY s.evs)∧FM w' F (zCm s) v'∧w.grownBy w' (some F):=by
 refine(zMo F f v what a1 a2 a3 a4 a5 a6 a7 a8 who n w h hw hid).mono ?_
 rintro e' w'⟨h1,-⟩
 obtain⟨⟨q,m,k,rfl,ho⟩,⟨v',hv⟩,hg⟩:=h1 s e
 obtain⟨q',c',hx⟩:=OwnM.form ho
 cases hx
 exact⟨q,k,v',rfl,ho,hv,hg⟩
structure FloorAt (w w' : World) (F:Nat) (f:FS):Prop where
 fm:∃v,FM w' F f v
 lo:w.heap.size≤F
 bel:Below w.heap.size w w'
theorem FloorAt.step{w w1 w2:World}{F:Nat}{f g:FS}{v:FV}(h:FloorAt w w1 F f)(hg:w1.grownBy w2 (some F))(hm:FM w2 F g v):FloorAt w w2 F g:=
 ⟨⟨v,hm⟩,h.lo,h.bel.grown hg h.bel.size (fun k hk=>by cases hk;exact h.lo)⟩
theorem FloorAt.keep{w w1 w2:World}{F:Nat}{f:FS}(h:FloorAt w w1 F f)(hb:Below w1.heap.size w1 w2):FloorAt w w2 F f:=
 ⟨by obtain⟨v,hv⟩:=h.fm;exact⟨v,hv.below hb⟩,h.lo,h.bel.trans (hb.mono h.bel.size)⟩
theorem do_at{w w1:World}{F:Nat}{f:FS}(what a1 a2 a3 a4 a5 a6 a7 a8 who n:Int)(s:TS)(h:FloorAt w w1 F f)(hw:WfF f)(hid:(Lit.int .i64 a1).wf=true)(e:fdo f ⟨what,⟨a1,a2,a3,a4,a5,a6,a7,a8⟩,who,n⟩=.ok s) :
  Calls Tryz.prog 8 #[.pointer (some ⟨F,0,none⟩),.agg #[.int .i64 what,.int .i64 a1,.int .i64 a2,.int .i64 a3,.int .i64 a4,.int .i64 a5,.int .i64 a6,.int .i64 a7,.int .i64 a8,.int .i64 who,.int .i64 n]] w1 fun e w'=>∃q k,e=.returned (.tuple #[.slice q s.evs.length k,.nilIface])∧OwnM w' w1.heap.size 42 10 (.slice q s.evs.length k) s.evs.length (zAY s.evs)∧FloorAt w w' F (zCm s):=by
 obtain⟨v,hv⟩:=h.fm
 refine(do_ok F f v what a1 a2 a3 a4 a5 a6 a7 a8 who n w1 s hv hw hid e).mono ?_
 rintro e' w'⟨q,k,v',rfl,ho,hm,hg⟩
 exact⟨q,k,rfl,ho,h.step hg hm⟩
end flr
end Go.Proofs.YtifjhlgjgnnnpaaGreat
