import Derived.Test.YtifjhlgjgnnnpaaGreatFlrSmall
import Derived.BigQuiet
import Derived.Test.YtifjhlgjgnnnpaaGreatSidDrop
import Derived.Test.YtifjhlgjgnnnpaaGreatQueOwn
import Derived.Test.YtifjhlgjgnnnpaaGreatQueFil
import Derived.Test.YtifjhlgjgnnnpaaGreatBokPut2
import Derived.Test.YtifjhlgjgnnnpaaGreatBokFind
import Derived.Test.YtifjhlgjgnnnpaaGreatKinDo
import Derived.Test.YtifjhlgjgnnnpaaGreatMeeDo
import Derived.Test.YtifjhlgjgnnnpaaGreatSelMem
import Derived.Test.YtifjhlgjgnnnpaaGreatMrgBack
set_option maxHeartbeats 2000000
set_option maxRecDepth 100000
namespace Go.Proofs.YtifjhlgjgnnnpaaGreat
namespace flr
open Go.RowKit
open que (R rchk)
open sid (L DL)
open mee (T tV)
open ord (O oV chk errV errV_zero errV_of)
open pur (Pz Pu Ok)
open wak (OwnM St oL)
open mrg (leftE leftC leftS forC forS zDU)
theorem keepF{w W:World}{B:Nat}{o:Obj}(h:w.heap[B]?=some o)(hB:Below w.heap.size w W):W.heap[B]?=some o:=(hB.block B (gzE.1 h).1).trans h
theorem zBP{S:List TypeId}{b t:Nat}{s:TS}{v:TV}{w0 w:World}{x:Rs}(what id qty price:Int)(h:TM w b t s v)(h0:Tn S b w0 w)(hS:∀t∈tA,t∈S)(hl:s.evs.length≤1000000)(hx:x=.ok (tell s what id qty price)) :
  Calls Tryz.prog 54 #[.pointer (some ⟨t,0,none⟩),.int .i64 what,.int .i64 id,.int .i64 qty,.int .i64 price] w fun e w'=>e=.returned (.tuple #[])∧Hid (Res S b t w0 x (.returned .nilIface) w'):=by
 refine(zDW b t s v what id qty price w h hl).mono ?_
 rintro e w'⟨rfl,⟨v',h1⟩,h2⟩
 exact⟨rfl,res_ok hx (h0.trans (h2.mono hS)) h1⟩
theorem zBy{S:List TypeId}{b t:Nat}{w w' : World}{x y:Rs}{e:Ending}(h:Res S b t w x e w')(hxy:x=y):Res S b t w y e w':=hxy ▸ h
theorem zGJ(b t:Nat)(s:TS)(v:TV)(a1 a2 a3 a4 a5 side price:Int)(w:World)(h:TM w b t s v)(hw:Wf s)(hr:rchk ⟨a1,a2,a3,a4,a5⟩=0)(hl:s.evs.length≤1000000) :
  Calls Tryz.prog 102 #[.pointer (some ⟨t,0,none⟩),.agg #[.int .i64 a1,.int .i64 a2,.int .i64 a3,.int .i64 a4,.int .i64 a5],.int .i64 side,.int .i64 price] w (Res tA b t w (part s ⟨a1,a2,a3,a4,a5⟩ side price)):=by
 obtain⟨W,hW⟩:∃W,W=w.alloc (.cells #[.int .i64 a1,.int .i64 a2,.int .i64 a3,.int .i64 a4,.int .i64 a5] 54):=⟨_,rfl⟩
 have hBW:Below w.heap.size w W:=by rw[hW];exact(bzR _ _).alloc (nzR _) _
 have hrow:W.heap[w.heap.size]?=some (.cells #[.int .i64 a1,.int .i64 a2,.int .i64 a3,.int .i64 a4,.int .i64 a5] 54 (0,0)):=by rw[hW];exact heap_alloc_new w _
 have HFR:=hidF (free_any b t s v a1 a2 a3 a4 a5 side price W (h.below hBW) hw)
 have HT0:=hidF (Tn.below (S:=tA) hBW h.base)
 have HAL:=hidF (fun U=>all_any a1 a2 a3 a4 a5 U hr)
 obtain⟨G,hG⟩:∃G,G=w.heap.size:=⟨_,rfl⟩
 rw[←hG] at hrow
 have HW:=hidF hw
 have HL:=hidF hl
 have HRW:=hidF hrow
 obtain⟨X,hX⟩:∃X,X=part s ⟨a1,a2,a3,a4,a5⟩ side price:=⟨_,rfl⟩
 rw[←hX]
 have HX:=hidF hX
 obtain⟨c,hc⟩:∃c,c=a3+a4:=⟨_,rfl⟩
 rw[←hc] at HAL
 have HC:=hidF hc
 obtain⟨c0,c1,c2,c3,c4,-⟩:=sid.rowFive hrow
 clear h hw hr hl hBW hrow hX hc
 go_enter Tryz.func102,Tryz.ntmps102
 go_wp2_with fail
 rw[←hW]
 simp only[←hG]
 clear hW hG
 refine HFR.out.mono ?_
 intro e w1 hR
 have hT1:=hR.1
 rcases hR.two with ⟨s1,v1,hx1,rfl,hM⟩|⟨k,hx1,hk,rfl⟩
 rotate_left
 ·have HRR:Hid (Res tA b t w X (.returned (.iface 91 (.int .i64 k))) w1):=zAn (by rw[HX.out];unfold part;rw[hx1];rfl) hk (HT0.out.trans hT1)
  clear hR hT1 hx1 c0 c1 c2 c3 c4
  go_wp2_with fail
  go_ret
  exact HRR.out
 ·have hrow1:=hT1.kp.typ _ _ _ HRW.out (by decide)
  have hs1:=(zDV HW.out hx1).2.2
  have hl1:s1.evs.length≤1000000:=by rw[hs1];exact HL.out
  have hxx:X=.ok (tell s1 3 a1 c price):=by rw[HX.out];unfold part;rw[hx1,HC.out];rfl
  have HTL:Hid (∀U,Below w1.heap.size w1 U→Calls Tryz.prog 54 #[.pointer (some ⟨t,0,none⟩),.int .i64 3,.int .i64 a1,.int .i64 c,.int .i64 price] U fun e w'=>e=.returned (.tuple #[])∧Hid (Res tA b t w X (.returned .nilIface) w')):=fun U hU=>
   zBP 3 a1 c price (hM.below hU) ((HT0.out.trans hT1).trans (Tn.below hU hM.base)) (fun _ h=>h) hl1 hxx
  have HK:Hid (∀U,Below w1.heap.size w1 U→U.cell? ⟨G,0,none⟩=some (.int .i64 a1)):=fun U hU=>(sid.rowFive (keepF hrow1 hU)).1
  clear hR hT1 hx1 hM hs1 hl1 hxx c0 c1 c2 c3 c4
  obtain⟨c0,c1,c2,c3,c4,-⟩:=sid.rowFive hrow1
  clear hrow1
  go_upto_region 4 with fail
  go_region_with (first|(go_at_call 112;with_reducible refine(HAL.out _).mono ?_;rintro x w2 ⟨rfl,b2⟩;have HW2:=hidF ((bzR w1.heap.size w1).drew.trans (b2.mono (bzR w1.heap.size w1).drew.size));have k0:=HK.out w2 HW2.out)|(go_at_call 54;with_reducible refine(HTL.out _ ?_).mono ?_;(with_reducible repeat' (first|exact HW2.out|assumption|refine Below.drew ?_));rintro x w3 ⟨rfl,HR⟩))
  all_goals
   go_wp2_with fail
   go_ret
   exact HR.out
theorem zDs(b t:Nat)(s:TS)(v:TV)(a1 a2 a3 a4 a5 a6 a7 a8:Int)(w:World)(h:TM w b t s v)(hw:Wf s)(hl:s.evs.length≤1000000) :
  Calls Tryz.prog 79 #[.pointer (some ⟨t,0,none⟩),.agg #[.int .i64 a1,.int .i64 a2,.int .i64 a3,.int .i64 a4,.int .i64 a5,.int .i64 a6,.int .i64 a7,.int .i64 a8]] w (Res tA b t w (vanish s ⟨a1,a2,a3,a4,a5,a6,a7,a8⟩)):=by
 obtain⟨W,hW⟩:∃W,W=w.alloc (.cells #[.int .i64 a1,.int .i64 a2,.int .i64 a3,.int .i64 a4,.int .i64 a5,.int .i64 a6,.int .i64 a7,.int .i64 a8] 32):=⟨_,rfl⟩
 have hBW:Below w.heap.size w W:=by rw[hW];exact(bzR _ _).alloc (nzR _) _
 have hrow:W.heap[w.heap.size]?=some (.cells #[.int .i64 a1,.int .i64 a2,.int .i64 a3,.int .i64 a4,.int .i64 a5,.int .i64 a6,.int .i64 a7,.int .i64 a8] 32 (0,0)):=by rw[hW];exact heap_alloc_new w _
 have HFO:=hidF (zDU ⟨a1,a2,a3,a4,a5,a6,a7,a8⟩ W)
 rw[show oV ⟨a1,a2,a3,a4,a5,a6,a7,a8⟩=.agg #[.int .i64 a1,.int .i64 a2,.int .i64 a3,.int .i64 a4,.int .i64 a5,.int .i64 a6,.int .i64 a7,.int .i64 a8] from rfl] at HFO
 obtain⟨G,hG⟩:∃G,G=w.heap.size:=⟨_,rfl⟩
 rw[←hG] at hrow
 have HSO:Hid (∀U,Below W.heap.size W U→TM U b t s v∧Tn tA b w U∧U.heap[G]?=some (.cells #[.int .i64 a1,.int .i64 a2,.int .i64 a3,.int .i64 a4,.int .i64 a5,.int .i64 a6,.int .i64 a7,.int .i64 a8] 32 (0,0))):=fun U hU=>by
  have hwU:=hBW.trans (hU.mono hBW.size)
  exact⟨h.below hwU,Tn.below hwU h.base,keepF hrow hU⟩
 have HW:=hidF hw
 have HL:=hidF hl
 obtain⟨X,hX⟩:∃X,X=vanish s ⟨a1,a2,a3,a4,a5,a6,a7,a8⟩:=⟨_,rfl⟩
 rw[←hX]
 have HX:=hidF hX
 obtain⟨c0,c1,c2,c3,c4,c5,c6,c7,-⟩:=wak.row8 hrow
 obtain⟨C,hC⟩:∃C,C=forC ⟨a1,a2,a3,a4,a5,a6,a7,a8⟩:=⟨_,rfl⟩
 obtain⟨D,hD⟩:∃D,D=forS ⟨a1,a2,a3,a4,a5,a6,a7,a8⟩:=⟨_,rfl⟩
 rw[←hC,←hD] at HFO
 have HCD:=hidF (And.intro hC hD)
 clear hC hD
 by_cases hE:chk ⟨a1,a2,a3,a4,a5,a6,a7,a8⟩=0
 rotate_left
 ·rw[errV_of hE] at HFO
  have HXX:Hid (X=.error (chk ⟨a1,a2,a3,a4,a5,a6,a7,a8⟩)):=by show _=_;rw[HX.out];unfold vanish;rw[if_neg hE]
  generalize chk ⟨a1,a2,a3,a4,a5,a6,a7,a8⟩=K at *
  clear h hw hl hBW hrow hX c1 c2 c3 c4 c5 c6 c7 c0
  go_enter Tryz.func79,Tryz.ntmps79
  go_wp2_with fail
  rw[←hW]
  clear hW hG
  refine HFO.out.mono ?_
  rintro e w1⟨rfl,b1⟩
  have HB1:=hidF (HSO.out w1 b1).2.1
  clear b1 HFO
  go_wp2_with fail
  go_ret
  exact zAn HXX.out hE HB1.out
 ·rw[hE,errV_zero] at HFO
  have HXX:Hid (X=(freeS s a2 C D).bind fun s1=>.ok (tell s1 3 a1 a6 a5)):=by show _=_;rw[HX.out];unfold vanish;rw[if_pos hE,HCD.out.1,HCD.out.2]
  have HFR:Hid (∀U,Below W.heap.size W U→Calls Tryz.prog 101 #[.pointer (some ⟨v.pp,0,none⟩),.int .i64 a2,.int .i64 C,.int .i64 D] U fun e w'=>∃E,e=.returned E∧Hid ((∃s1,freeS s a2 C D=.ok s1∧E=.nilIface∧Hid (∃v1,TM w' b t s1 v1)∧Hid (Tn tA b w w')∧w'.heap[G]?=some (.cells #[.int .i64 a1,.int .i64 a2,.int .i64 a3,.int .i64 a4,.int .i64 a5,.int .i64 a6,.int .i64 a7,.int .i64 a8] 32 (0,0)))∨∃k,E=.iface 91 (.int .i64 k)∧Hid (Res tA b t w X (.returned (.iface 91 (.int .i64 k))) w'))):=fun U hU=>by
   obtain⟨k1,k2,k3⟩:=HSO.out U hU
   refine(pur.free_any v.pp s.ps a2 C D U k1.purs HW.out.ok).mono ?_
   rintro e w'⟨rfl,k4,k5⟩
   have hR:=zCU k1 k2 k4 k5
   have h6:w'.heap[G]?=some (.cells #[.int .i64 a1,.int .i64 a2,.int .i64 a3,.int .i64 a4,.int .i64 a5,.int .i64 a6,.int .i64 a7,.int .i64 a8] 32 (0,0)):=((Kp.grown (S:=tA) k5 k1.purs.2 (by decide)).typ _ _ _ k3 (by decide))
   refine⟨_,rfl,?_⟩
   rcases hR.two with ⟨s1,v1,hx1,he,hM⟩|⟨k,hx1,hk,he⟩
   ·exact .inl ⟨s1,hx1,by injection he,⟨v1,hM⟩,hR.1,h6⟩
   ·refine .inr ⟨k,by injection he,?_⟩
    show Res _ _ _ _ _ _ _
    exact zAn (by rw[HXX.out,hx1];rfl) hk hR.1
  obtain⟨q1,n1,c1',q2,n2,c2',sp,vw,pp,qe,ne,ce,qk,nk,ck⟩:=v
  clear h hw hl hBW hrow hX hE
  go_enter Tryz.func79,Tryz.ntmps79
  go_wp2_with fail
  rw[←hW]
  simp only[←hG]
  clear hW hG
  refine HFO.out.mono ?_
  rintro e w1⟨rfl,b1⟩
  have HB1:=hidF b1
  obtain⟨k1,-,k3⟩:=HSO.out w1 b1
  obtain⟨-,-,-,-,x4,-⟩:=k1.cells
  clear c0 c1 c2 c3 c4 c5 c6 c7
  obtain⟨-,c1,-⟩:=wak.row8 k3
  simp only[] at x4
  clear b1 k1 k3 HFO
  go_upto_region 4 with fail
  go_region_with (go_at_call 101;with_reducible refine(HFR.out _ ?_).mono ?_;(with_reducible repeat' (first|exact HB1.out|assumption|refine Below.drew ?_));rintro x w2 ⟨E,rfl,HOR⟩)
  all_goals
   rcases HOR.out with ⟨s1,hx1,rfl,HM,HT,h6⟩|⟨k,rfl,HR⟩
   rotate_left
   ·clear HOR
    go_wp2_with fail
    go_ret
    exact HR.out
   ·(clear HOR
     have hs1:=(free_ok HW.out hx1).2
     have hl1:s1.evs.length≤1000000:=by rw[hs1];exact HL.out
     obtain⟨v1,hM⟩:=HM.out
     have HTL:=hidF (zBP (w0:=w) (x:=X) (S:=tA) 3 a1 a6 a5 hM HT.out (fun _ h=>h) hl1 (by rw[HXX.out,hx1];rfl))
     clear c1 x4 hx1 hs1 hl1 hM
     obtain⟨c0,c1,c2,c3,c4,c5,c6,c7,-⟩:=wak.row8 h6
     clear h6
     go_wp2_with fail
     refine HTL.out.mono ?_
     rintro x w3⟨rfl,HR⟩
     clear c0 c1 c2 c3 c4 c5 c6 c7
     go_wp2_with fail
     go_ret
     exact HR.out)
end flr
namespace flr
open Go.RowKit
open que (R rchk)
open sid (L DL)
open mee (T tV)
open ord (O oV chk errV errV_zero errV_of)
open bok (bookE inBook)
open wak (OwnM OwnQ St SL Lies oL idx idxBy_is)
theorem zHW(id:Int)(B:Nat)(w:World)(hB:B<w.heap.size)(hc:w.cell? ⟨B,0,none⟩=some (.int .i64 id)) :
  PredBelow Tryz.prog 124 #[.pointer (some ⟨B,0,none⟩)] (fun x=>.agg (oL x).toArray) (fun x=>decide (x.id=id)) w:=by
 intro W x hb
 obtain⟨a,b,c,d,e,f,g,h⟩:=x
 show Calls Tryz.prog 124 #[.agg #[.int .i64 a,.int .i64 b,.int .i64 c,.int .i64 d,.int .i64 e,.int .i64 f,.int .i64 g,.int .i64 h],.pointer (some ⟨B,0,none⟩)] W _
 have hc2:=spn.keeps hb hc
 have hz:B<W.heap.size:=Nat.lt_of_lt_of_le hB hb.size
 go_enter Tryz.func124,Tryz.ntmps124
 go_wp2
 go_ret
 exact⟨rfl,hb.alloc hb.size _⟩
theorem zNi(B:Nat)(W:World):Calls Tryz.prog 131 #[.slice none 0 0,.func (.func 124) #[] #[.pointer (some ⟨B,0,none⟩)]] W fun e w'=>e=.returned (.int .i64 (-1))∧Below W.heap.size W w':=by
 go_enter Tryz.func131,Tryz.ntmps131
 go_wp2
 go_loopg [5,8] 0 (fun _ _ s8 wr=>s8=.int .i64 0∧wr=W)
 case atStart=>exact⟨rfl,rfl⟩
 case round=>
  obtain⟨rfl,rfl⟩:=hrel
  go_wp2
  go_ret
  exact⟨rfl,bzR _ _⟩
theorem zNj(id:Int)(v:Value)(zs:List O)(w:World)(B:Nat)(hB:B<w.heap.size)(hc:w.cell? ⟨B,0,none⟩=some (.int .i64 id))(h:SL w v zs) :
  Calls Tryz.prog 131 #[v,.func (.func 124) #[] #[.pointer (some ⟨B,0,none⟩)]] w fun e w'=>e=.returned (.int .i64 (idx id zs))∧Below w.heap.size w w':=by
 rcases h with ⟨rfl,rfl⟩|⟨b,o,c,rfl,h2,h3,h4,h5⟩
 ·exact zNi B w
 ·have eg:∀args w,(callFunc 124 args).run Tryz.prog w=.ok (.enter 124 args) w:=enters_of Tryz.func124 (by kernel_rfl) rfl
  have hcon:=AnyQ.slices_IndexFunc Tryz.lq6o 8 Tryz.isAgg32 Tryz.sizeOf32 oL (fun x=>rfl) (fun x=>decide (x.id=id)) 124 #[.pointer (some ⟨B,0,none⟩)] eg b o zs.length c zs
   w (zHW id B w hB hc) (nzR _) (by omega) h4 h5
  change Calls Tryz.prog 131 _ _ _ at hcon
  rw[List.take_length,idxBy_is] at hcon
  exact hcon
theorem zNk(id:Int)(v:Value)(zs:List O)(w:World)(B:Nat)(hB:B<w.heap.size)(hc:w.cell? ⟨B,0,none⟩=some (.int .i64 id))(h:SL w v zs) :
  Calls Tryz.prog 123 #[v,.func (.func 124) #[] #[.pointer (some ⟨B,0,none⟩)]] w fun e w'=>e=.returned (.bool (decide (0≤idx id zs)))∧Below w.heap.size w w':=by
 have HC:=hidF (zNj id v zs w B hB hc h)
 obtain⟨q,c,rfl⟩:=SL.form h
 generalize idx id zs=k at *
 generalize zs.length=zn at *
 clear h hc hB
 go_enter Tryz.func123,Tryz.ntmps123
 go_wp2_with fail
 refine HC.out.mono ?_
 rintro e w1⟨rfl,b1⟩
 go_wp2_with fail
 go_ret
 exact⟨rfl,b1⟩
theorem zKm(id:Int)(v:Value)(zs:List O)(w:World)(h:SL w v zs) :
  Calls Tryz.prog 95 #[v,.int .i64 id] w fun e w'=>e=.returned (.bool (decide (0≤idx id zs)))∧Below w.heap.size w w':=by
 have hB:Below w.heap.size w (w.alloc (.cells #[.int .i64 id] 3)):=(bzR _ _).alloc (nzR _) _
 have HC:=hidF (zNk id v zs _ w.heap.size (by simp) (by simp[go_sem]) (h.below hB))
 obtain⟨q,c,rfl⟩:=SL.form h
 generalize decide (0≤idx id zs)=k at *
 generalize zs.length=zn at *
 clear h
 go_enter Tryz.func95,Tryz.ntmps95
 go_wp2_with fail
 refine HC.out.mono ?_
 rintro e w1⟨rfl,b1⟩
 go_wp2_with fail
 go_ret
 exact⟨rfl,hB.trans (b1.mono (by simp))⟩
theorem zDX{w:World}{s:TS}{q1 q2:Option Addr}{n1 n2 c1 c2:Nat}{id:Int}(h1:DL w 0 (.slice q1 n1 c1) s.bs)(h2:DL w 0 (.slice q2 n2 c2) s.ss)(h0:bookE s.bs s.ss=0)(hid:(Lit.int .i64 id).wf=true)(hin:inBook s.bs s.ss id=false) :
  Calls Tryz.prog 76 #[.agg #[.slice q1 n1 c1,.slice q2 n2 c2],.int .i64 id] w fun e w'=>e=.returned (.tuple #[.int .i64 0,.int .i64 0,.agg #[.int .i64 0,.int .i64 0,.int .i64 0,.int .i64 0,.int .i64 0],.iface 91 (.int .i64 5)])∧Below w.heap.size w w':=by
 obtain⟨e1,e2,-⟩:=bok.zAb h0
 have hn:¬id∈sid.ids s.bs∧¬id∈sid.ids s.ss:=by unfold inBook at hin;simpa using hin
 exact bok.zFJ q1 q2 n1 n2 c1 c2 s.bs s.ss id hid w h1.ls h2.ls h0 (bok.zAF e1 hn.1) (bok.zAF e2 hn.2)
theorem has_any(b t:Nat)(s:TS)(v:TV)(id:Int)(w:World)(h:TM w b t s v)(hw:Wf s)(hid:(Lit.int .i64 id).wf=true) :
  Calls Tryz.prog 71 #[.pointer (some ⟨t,0,none⟩),.int .i64 id] w fun e w'=>e=.returned (.bool (has s id))∧Below w.heap.size w w':=by
 obtain⟨x0,x1,x2,x3,x4,x5,x6,x7,-⟩:=h.cells
 have HSO:Hid (∀U,Below w.heap.size w U→TM U b t s v):=fun U hU=>h.below hU
 have HWS:=hidF hw.ws
 obtain⟨q1,n1,c1,q2,n2,c2,sp,vw,pp,qe,ne,ce,qk,nk,ck⟩:=v
 simp only[] at x0 x1 x2 x3 x4 x5 x6 x7
 cases hin:inBook s.bs s.ss id with
 | true=>
  have hA:=spot_at hw.book hin
  generalize spot s.bs s.ss id=x at hA
  obtain⟨xs,xp,⟨r1,r2,r3,r4,r5⟩,xi,xk⟩:=x
  have HF:=hidF (swp.zAS q1 q2 n1 n2 c1 c2 s.bs s.ss id xs xp r1 r2 r3 r4 r5 xi xk w h.buys.ls h.sells.ls hA)
  have hx:has s id=true:=by unfold has;rw[hin];rfl
  rw[hx]
  clear h hw hid hA hx hin
  go_enter Tryz.func71,Tryz.ntmps71
  go_wp2_with fail
  refine HF.out.mono ?_
  rintro e w1⟨rfl,b1⟩
  have HB:=hidF (b1.alloc b1.size (.cells #[.int .i64 r1,.int .i64 r2,.int .i64 r3,.int .i64 r4,.int .i64 r5] 54))
  clear b1 HF x0 x1 x2 x3 x4 x5 x6 x7
  go_wp2_with fail
  go_ret
  exact⟨rfl,HB.out⟩
 | false=>
  have HF:=hidF (zDX h.buys h.sells hw.book hid hin)
  have hx:has s id=decide (0≤idx id s.ws):=by unfold has;rw[hin];rfl
  rw[hx]
  have HAL:Hid (∀U,Below w.heap.size w U→Calls Tryz.prog 40 #[.pointer (some ⟨sp,0,none⟩)] U fun e w'=>∃q m c,e=.returned (.slice q m c)∧Hid (SL w' (.slice q m c) s.ws)∧Below U.heap.size U w'):=fun U hU=>by
   refine(wak.all_any b sp vw s.ws U (HSO.out U hU).stops (by have:=HWS.out;omega)).mono ?_
   rintro e w'⟨q,c,rfl,k1,k2⟩
   exact⟨q,_,c,rfl,k1.sl,k2⟩
  have HWA:=hidF (fun v U(hv:SL U v s.ws)=>zKm id v s.ws U hv)
  generalize decide (0≤idx id s.ws)=K at *
  have HX3:Hid (∀U,Below w.heap.size w U→U.cell? ⟨t,3,none⟩=some (.pointer (some ⟨sp,0,none⟩))):=fun U hU=>spn.keeps hU x3
  clear h hw hid hx hin
  go_enter Tryz.func71,Tryz.ntmps71
  go_wp2_with fail
  refine HF.out.mono ?_
  rintro e w1⟨rfl,b1⟩
  have HB:=hidF (b1.alloc b1.size (.cells #[.int .i64 0,.int .i64 0,.int .i64 0,.int .i64 0,.int .i64 0] 54))
  clear b1 HF x0 x1 x2 x3 x4 x5 x6 x7
  go_upto_if 22 with fail
  generalize w1.alloc (.cells #[.int .i64 0,.int .i64 0,.int .i64 0,.int .i64 0,.int .i64 0] 54)=W2 at *
  have x3:=HX3.out W2 HB.out
  go_wp2_with fail
  refine(HAL.out _ HB.out).mono ?_
  rintro e w3⟨q,m,c,rfl,HS,b3⟩
  have HB3:=hidF (HB.out.trans (b3.mono HB.out.size))
  clear b3 x3
  go_wp2_with fail
  refine(HWA.out _ _ HS.out).mono ?_
  rintro e w4⟨rfl,b4⟩
  have HB4:=hidF (HB3.out.trans (b4.mono HB3.out.size))
  clear b4
  go_wp2_with fail
  go_ret
  exact⟨rfl,HB4.out⟩
end flr
namespace flr
open Go.RowKit
open que (R rchk)
open sid (L DL)
open mee (T tV)
open ord (O oV chk errV errV_zero errV_of)
open bok (bookE inBook)
open wak (OwnM OwnQ St SL Lies oL idx Trn)
theorem TM.wait{w w' : World}{b t:Nat}{s:TS}{v:TV}(h:TM w b t s v){v' : Value}{ws:List O}(hs:St w' b v.sp v' ws)(ht:Trn w w' v.sp v.vw):TM w' b t { s with ws:=ws } { v with vw:=v' }∧Tn tB b w w':=by
 have hk:Kp [107,32] w w':=⟨ht.os,ht.tape,ht.output,ht.size,fun k cur ty hc hn=>by
  refine(ht.block k (gzE.1 hc).1 (fun e=>?_) (fun e=>?_)).trans hc
  ·subst e
   have h1:=h.stops.blk
   rw[hc] at h1
   simp only[Option.some.injEq,Obj.cells.injEq] at h1
   exact hn (by rw[h1.2.1];simp)
  ·rcases h.stops.own.2 with ⟨h1,_⟩|⟨g,off,cap,cur',h1,h2,h3,_⟩
   ·rw[h1] at e;cases e
   ·rw[h1] at e
    simp only[Value.ownBlock,Option.some.injEq] at e
    subst e
    rw[hc] at h3
    simp only[Option.some.injEq,Obj.cells.injEq] at h3
    exact hn (by rw[h3.2.1];simp)⟩
 have hb:=ht.below h.stops
 exact⟨⟨hk.typ _ _ _ h.blk (by decide),h.le,hk.dl h.buys (by decide) (by decide),hk.dl h.sells (by decide) (by decide),hs,hk.pu h.purs (by decide),h.ple,hk.own h.evs (by decide),hk.own h.row (by decide)⟩,hk.mono (by decide),hb.block⟩
theorem zNl(b t:Nat)(s:TS)(v:TV)(id:Int)(w:World)(h:TM w b t s v)(hw:Wf s)(hl:s.evs.length≤1000000)(hin:inBook s.bs s.ss id=true)(hbk:∀xs xi xk,xs=(spot s.bs s.ss id).s→xi=(spot s.bs s.ss id).i→xk=(spot s.bs s.ss id).k→bookE (swp.cB xs s.bs xi xk) (swp.cS xs s.ss xi xk)=0) :
  Calls Tryz.prog 77 #[.pointer (some ⟨t,0,none⟩),.int .i64 id] w (Res tA b t w (leave s id)):=by
 obtain⟨x0,x1,x2,x3,x4,x5,x6,x7,-⟩:=h.cells
 have HSO:Hid (∀U,Below w.heap.size w U→TM U b t s v∧Tn tA b w U):=fun U hU=>⟨h.below hU,Tn.below hU h.base⟩
 have hA:=spot_at hw.book hin
 obtain⟨X,hX⟩:∃X,X=leave s id:=⟨_,rfl⟩
 rw[←hX]
 unfold leave at hX
 rw[if_pos hin] at hX
 generalize spot s.bs s.ss id=x at hA hX hbk
 obtain⟨xs,xp,⟨r1,r2,r3,r4,r5⟩,xi,xk⟩:=x
 simp only[] at hX hbk
 have HX:=hidF hX
 have hbk2:=hbk xs xi xk rfl rfl rfl
 obtain⟨q1,n1,c1,q2,n2,c2,sp,vw,pp,qe,ne,ce,qk,nk,ck⟩:=v
 simp only[] at x0 x1 x2 x3 x4 x5 x6 x7
 have HF:=hidF (swp.zAS q1 q2 n1 n2 c1 c2 s.bs s.ss id xs xp r1 r2 r3 r4 r5 xi xk w h.buys.ls h.sells.ls hA)
 have HCA:Hid (∀U,Below w.heap.size w U→Calls Tryz.prog 106 #[.agg #[.slice q1 n1 c1,.slice q2 n2 c2],.int .i64 id] U fun e w'=>∃u1 u2 m1 m2 d1 d2,e=.returned (.tuple #[.agg #[.slice u1 m1 d1,.slice u2 m2 d2],.agg #[.int .i64 r1,.int .i64 r2,.int .i64 r3,.int .i64 r4,.int .i64 r5],.nilIface])∧Hid (DL w' 0 (.slice u1 m1 d1) (swp.cB xs s.bs xi xk))∧Hid (DL w' 0 (.slice u2 m2 d2) (swp.cS xs s.ss xi xk))∧Below U.heap.size U w'):=fun U hU=>by
  obtain⟨k1,-⟩:=HSO.out U hU
  refine(swp.zHO q1 q2 n1 n2 c1 c2 s.bs s.ss id xs xp r1 r2 r3 r4 r5 xi xk U k1.buys.ls k1.sells.ls hA).mono ?_
  rintro e w'⟨u1,u2,m1,m2,d1,d2,rfl,k2,k3,k4⟩
  exact⟨u1,u2,m1,m2,d1,d2,rfl,k2.mono (Nat.zero_le _),k3.mono (Nat.zero_le _),k4⟩
 have HPT:Hid (∀U s' v',TM U b t s' v'→s' = { s with bs:=swp.cB xs s.bs xi xk,ss:=swp.cS xs s.ss xi xk }→Tn tA b w U→Calls Tryz.prog 102 #[.pointer (some ⟨t,0,none⟩),.agg #[.int .i64 r1,.int .i64 r2,.int .i64 r3,.int .i64 r4,.int .i64 r5],.int .i64 xs,.int .i64 xp] U fun e w'=>∃E,e=.returned E∧Hid (Res tA b t w X (.returned E) w')):=fun U s' v' hU hs' hT=>by
  subst hs'
  refine(zGJ b t _ v' r1 r2 r3 r4 r5 xs xp U hU ⟨hw.m0,hw.m3,hbk2,hw.ok,hw.ws⟩ hA.rest hl).mono ?_
  intro e w' hR
  have hR' : Res tA b t w X e w':=zBy (hR.step hT (fun _ h=>h)) HX.out.symm
  rcases hR.two with ⟨_,_,_,rfl,_⟩|⟨_,_,_,rfl⟩
  ·exact⟨_,rfl,hR'⟩
  ·exact⟨_,rfl,hR'⟩
 clear h hw hA hX hin hl hbk hbk2
 go_enter Tryz.func77,Tryz.ntmps77
 go_wp2_with fail
 refine HF.out.mono ?_
 rintro e w1⟨rfl,b1⟩
 have hR2:(w1.alloc (.cells #[.int .i64 r1,.int .i64 r2,.int .i64 r3,.int .i64 r4,.int .i64 r5] 54)).heap[w1.heap.size]?=some (.cells #[.int .i64 r1,.int .i64 r2,.int .i64 r3,.int .i64 r4,.int .i64 r5] 54 (0,0)):=heap_alloc_new w1 _
 have HB2:=hidF (b1.alloc b1.size (.cells #[.int .i64 r1,.int .i64 r2,.int .i64 r3,.int .i64 r4,.int .i64 r5] 54))
 clear b1 HF x0 x1 x2 x3 x4 x5 x6 x7
 go_upto_if 24 with fail
 generalize w1.alloc (.cells #[.int .i64 r1,.int .i64 r2,.int .i64 r3,.int .i64 r4,.int .i64 r5] 54)=W2 at *
 generalize w1.heap.size=F at *
 obtain⟨k1,-⟩:=HSO.out W2 HB2.out
 obtain⟨-,x1,x2,-⟩:=k1.cells
 simp only[] at x1 x2
 clear k1
 have HR2:=hidF hR2
 clear hR2
 go_wp2_with fail
 refine(HCA.out _ HB2.out).mono ?_
 rintro e w3⟨u1,u2,m1,m2,d1,d2,rfl,HD1,HD2,b3⟩
 obtain⟨W4,hW4⟩:∃W4,W4=(w3.alloc (.cells #[.slice u1 m1 d1,.slice u2 m2 d2] 46)).alloc (.cells #[.int .i64 r1,.int .i64 r2,.int .i64 r3,.int .i64 r4,.int .i64 r5] 54):=⟨_,rfl⟩
 have hb4:Below w3.heap.size w3 W4:=by rw[hW4];exact((bzR _ _).alloc (nzR _) _).alloc (by simp) _
 have hRB:W4.heap[w3.heap.size]?=some (.cells #[.slice u1 m1 d1,.slice u2 m2 d2] 46 (0,0)):=by
  rw[hW4,((bzR _ _).alloc (nzR _) _).block _ (by simp)];exact heap_alloc_new w3 _
 have hb34:=b3.trans (hb4.mono b3.size)
 have HR4:=hidF (keepF HR2.out hb34)
 have HB4:=hidF (HB2.out.trans (hb34.mono HB2.out.size))
 have HDD:=hidF (And.intro (HD1.out.below hb4) (HD2.out.below hb4))
 clear HD1 HD2 b3 hb4 hb34 x1 x2 HR2 HB2 HCA
 go_upto_if 38 with fail
 rw[←hW4]
 clear hW4
 generalize w3.heap.size=LB at *
 obtain⟨l0,l1,-⟩:=sid.rowTwo hRB
 obtain⟨k1,k2⟩:=HSO.out W4 HB4.out
 obtain⟨-,y1,y2,-,-,-,-,-,yf⟩:=k1.cells
 simp only[] at y1 y2
 have yf1:=yf 1
 have yf2:=yf 2
 obtain⟨hM5,hT5⟩:=k1.book HDD.out.1 HDD.out.2
 have HM5:=hidF hM5
 have HT5:=hidF (k2.trans hT5)
 have hR5:=hT5.kp.typ _ _ _ HR4.out (by decide)
 clear k1 k2 hM5 hT5 yf hRB HSO HDD HB4 HR4
 have HR5:=hidF hR5
 clear hR5
 go_upto_region 8 with fail
 generalize (W4.setCell ⟨t,1,none⟩ (.slice u1 m1 d1)).setCell ⟨t,2,none⟩ (.slice u2 m2 d2)=W5 at *
 obtain⟨z0,z1,z2,z3,z4,-⟩:=sid.rowFive HR5.out
 clear l0 l1 y1 y2 yf1 yf2
 go_wp2_with fail
 refine(HPT.out _ _ _ HM5.out rfl HT5.out).mono ?_
 rintro e w6⟨E,rfl,HR⟩
 clear z0 z1 z2 z3 z4
 go_wp2_with fail
 go_ret
 exact HR.out
end flr
namespace sid
open Go.RowKit spn que Go.Maps
open tickP (priceB sideB)
end sid
namespace bok
open Go.RowKit spn que sid
open tickP (priceB sideB)
theorem zNm{bs ss:List L}{s p:Int}{r:R}(h:putE bs ss s p r=0):bookE bs ss=0∧addE s (if s=1 then bs else ss) p r=0∧bookE (put1 bs s p r) (put2 ss s p r)=0:=by
 unfold putE at h
 by_cases h0:bookE bs ss=0
 ·rw[if_pos h0] at h
  by_cases h1:addE s (if s=1 then bs else ss) p r=0
  ·rw[if_pos h1] at h;exact⟨h0,h1,h⟩
  ·rw[if_neg h1] at h;exact absurd h h1
 ·rw[if_neg h0] at h;exact absurd h h0
structure Held (S:Int) (X bs:List L) (p:Int) (r:R) (i k:Nat):Prop where
 hi:i<X.length
 hk:k<X[i].rests.length
 price:X[i].price=p
 rest:X[i].rests[k]=r
 fe:findE S X r.id=0
 fp:findP S X r.id=((i:Int),(k:Int))
 drop:dropL X i k=bs
end bok
namespace kin
open Go.RowKit spn que sid bok mee
open ord (O oV mB mE chk zAk)
open tickP (priceB sideB betOk betR)
theorem set_put{bs ss:List L}{o:O}{k:Int}(h:setE bs ss o k=0)(hst:stayB o k=true):restE o k=0∧putE bs ss o.side o.price (keptR o k)=0:=by
 unfold setE at h
 rw[if_pos hst] at h
 by_cases hr:restE o k=0
 ·rw[if_pos hr] at h;exact⟨hr,h⟩
 ·rw[if_neg hr] at h;exact absurd h hr
structure KF (bs ss:List L) (o:O):Prop where
 come:comeE bs ss o=0
 ok:chk o=0
 book:bookE (kdoB bs ss o) (kdoS bs ss o)=0
 sum:sumT (metR bs ss o).2.1+(metR bs ss o).2.2=o.qty
 left0:0≤(metR bs ss o).2.2
 sum0:0≤sumT (metR bs ss o).2.1
 q1:1≤o.qty
 q2:o.qty≤10000
 len:(metR bs ss o).2.1.length≤400
 each:∀x∈(metR bs ss o).2.1,1≤x.qty∧x.qty≤o.qty
 whole:o.kind=4→(metR bs ss o).2.2=0
 post:o.kind=5→(metR bs ss o).2.2=o.qty
end kin
namespace mrg
open Go.RowKit mee que sid bok kin
open ord (O oV chk mB prB errV errV_zero)
theorem own_tl{w:World}{base:Nat}{v:Value}{ts:List T}(h:OwnT w base v ts):TL w v ts:=by
 rcases h.2 with ⟨e,hn⟩|⟨g,off,cap,cur,e,hb,hg,hnc,hcm,hcs,htake⟩
 ·exact .inl ⟨e,List.eq_nil_of_length_eq_zero hn⟩
 ·subst e
  refine .inr ⟨g,off,cap,rfl,hnc,hcm,(gzE.1 hg).1,fun j hj i u hu=>?_⟩
  obtain⟨g',off',e,-,z0,z1,z2,z3,z4,z5⟩:=OwnT.at h hj
  cases e
  have hi:i<6:=(List.getElem?_eq_some_iff.1 hu).1
  have:i=0∨i=1∨i=2∨i=3∨i=4∨i=5:=by omega
  rcases this with rfl|rfl|rfl|rfl|rfl|rfl <;>cases hu <;>assumption
def sumPQ:List T→Int
 | []=>0
 | x::t=>x.price*x.qty+sumPQ t
theorem zKn(ts:List T)(k:Nat)(hk:k<ts.length):sumT (ts.take (k+1))=sumT (ts.take k)+ts[k]!.qty:=by
 rw[List.take_succ_eq_append_getElem hk,zBA,getE _ _ hk];simp only[sumT];omega
theorem zNn{x y:Int}(h1:1≤x)(h2:x≤10000)(h3:1≤y):1≤x*y∧x*y≤10000*y:=by
 have a1:1*y≤x*y:=Int.mul_le_mul_of_nonneg_right h1 (by omega)
 have a2:x*y≤10000*y:=Int.mul_le_mul_of_nonneg_right h2 (by omega)
 omega
theorem zDt(ts:List T)(h:∀x∈ts,1≤x.price∧x.price≤10000∧1≤x.qty):0≤sumT ts∧0≤sumPQ ts∧sumPQ ts≤10000*sumT ts:=by
 induction ts with
 | nil=>simp[sumT,sumPQ]
 | cons x t ih=>
  have h1:=h x (by simp)
  have h2:=ih (fun y hy=>h y (by simp[hy]))
  have h3:=zNn h1.1 h1.2.1 h1.2.2
  simp only[sumT,sumPQ]
  omega
theorem zNo{o:O}{x:Int}(hs:o.side=1)(hm:mB o x=true)(hx:x≤10000):x≤resv o:=by
 unfold mB at hm
 unfold resv
 rw[if_pos hs] at hm
 by_cases hk:o.kind=2
 ·rw[if_pos hk];exact hx
 ·rw[if_neg hk]
  simp[hk] at hm
  exact hm
theorem bk_buy{o:O}(hs:o.side=1)(hr:0≤resv o∧resv o≤10000):∀ (ts:List T) (c:Int),(∀x∈ts,1≤x.price∧x.price≤resv o∧1≤x.qty)→0≤c→c+10000*sumT ts≤1000000000000→bkC o c ts=c+resv o*sumT ts - sumPQ ts:=by
 intro ts
 induction ts with
 | nil=>intro c _ _ _;simp[bkC,sumT,sumPQ]
 | cons x t ih=>
  intro c h h0 hb
  have hx:=h x (by simp)
  have ht:∀y∈t,1≤y.price∧y.price≤resv o∧1≤y.qty:=fun y hy=>h y (by simp[hy])
  have hb2:=zDt t (fun y hy=>⟨(ht y hy).1,by have:=(ht y hy).2.1;omega,(ht y hy).2.2⟩)
  simp only[sumT] at hb
  have a1:0*x.qty≤(resv o - x.price)*x.qty:=Int.mul_le_mul_of_nonneg_right (by omega) (by omega)
  have a2:(resv o - x.price)*x.qty≤10000*x.qty:=Int.mul_le_mul_of_nonneg_right (by omega) (by omega)
  have e1:wrap64 (c+(resv o - x.price)*x.qty)=c+(resv o - x.price)*x.qty:=by
   generalize (resv o - x.price)*x.qty=z at *
   unfold wrap64
   omega
  unfold bkC
  rw[if_pos hs,e1,ih _ ht (by omega) (by omega)]
  simp only[sumT,sumPQ]
  rw[Int.mul_add,Int.sub_mul]
  omega
theorem bk_sell{o:O}(hs:¬o.side=1):∀ (ts:List T) (c:Int),bkC o c ts=c:=by
 intro ts
 induction ts with
 | nil=>intro c;rfl
 | cons x t ih=>intro c;unfold bkC;rw[if_neg hs];exact ih c
def cA(o:O)(bc:Int)(ts:List T)(k:Nat):Int:=if o.side=1 then bc+sumPQ (ts.take k) else bc
def dA(o:O)(bs:Int)(ts:List T)(k:Nat):Int:=if o.side=1 then bs else bs+sumT (ts.take k)
structure MF (o:O) (ts:List T) (lf g fc fs bc bst:Int):Prop where
 ok:chk o=0
 fore:forC o=fc∧forS o=fs
 back:backE o ts g=0∧backC o ts g=bc∧backS o ts g=bst
 each:∀x∈ts,1≤x.price∧x.price≤10000∧1≤x.qty∧x.qty≤10000
 cB:∀k,0≤cA o bc ts k∧cA o bc ts k≤1000000000
 dB:∀k,0≤dA o bst ts k∧dA o bst ts k≤1000000000
 out:stayB o lf=false→cA o bc ts ts.length=fc∧dA o bst ts ts.length=fs
 stay:stayB o lf=true→cA o bc ts ts.length+putC o.side o.price lf=fc∧dA o bst ts ts.length+putS o.side lf=fs∧0≤fc∧fc≤100000000∧0≤fs∧fs≤100000000
end mrg
namespace flr
open Go.RowKit que sid mee
open ord (O oV chk prB mB)
open bok (bookE inBook)
open kin (kdoE kdoB kdoS kdoG setB setS setG setE stayB keptR restE zGw zDP)
open slf (V Fine sE srefE lfV gnV repB repS Less zCx zBM zBd zAM)
open tickP (priceB sideB)
inductive Fil (m:Int) (o:O):List L→Int→V→Prop
 | done {ls:List L}{k:Int}:k≤0→Fil m o ls k ⟨ls,[],k,false,[]⟩
 | stop {ls:List L}{k:Int}:(∀l t,ls=l::t→mB o l.price=false)→Fil m o ls k ⟨ls,[],k,false,[]⟩
 | taker {p:Int}{r:R}{rs:List R}{t:List L}{k:Int}:0<k→mB o p=true→r.who=o.who→Fil m o (⟨p,r::rs⟩::t) k ⟨⟨p,r::rs⟩::t,[],k,true,[]⟩
 | maker {p:Int}{r:R}{rs:List R}{t:List L}{k:Int}{v:V}:0<k→mB o p=true→r.who=o.who→Fil m o (stepL p rs t) k v→Fil m o (⟨p,r::rs⟩::t) k ⟨v.ls,v.ts,v.left,v.ends,r.id::v.ids⟩
 | both {p:Int}{r:R}{rs:List R}{t:List L}{k:Int}:0<k→mB o p=true→r.who=o.who→Fil m o (⟨p,r::rs⟩::t) k ⟨stepL p rs t,[],k,true,[r.id]⟩
 | fill {p:Int}{r:R}{rs:List R}{t:List L}{k:Int}{v:V}:0<k→mB o p=true→(¬m=0→¬r.who=o.who)→Fil m o (stepL p (tk1 (min k r.qty) r rs) t) (k - min k r.qty) v→Fil m o (⟨p,r::rs⟩::t) k ⟨v.ls,trd o p ⟨r.id,r.who,min k r.qty⟩::v.ts,v.left,v.ends,v.ids⟩
theorem zNp{m:Int}{o:O}{ls:List L}{k:Int}{v:V}(h:Fine m o ls k v):Fil m o ls k v:=by
 induction h with
 | done h=>exact .done h
 | stop h=>exact .stop h
 | taker a b c _=>exact .taker a b c
 | maker a b c _ _ ih=>exact .maker a b c ih
 | both a b c _=>exact .both a b c
 | fill a b c _ ih=>exact .fill a b (fun _=>c) ih
theorem tkl_fil{o:O}:∀ (n:Nat) (ls:List L) (k:Int),k.toNat≤n→(∀l∈ls,lchk l=0)→Fil 0 o ls k ⟨(tkl o ls k).1,(tkl o ls k).2.1,(tkl o ls k).2.2,false,[]⟩:=by
 intro n
 induction n with
 | zero=>
  intro ls k hn _
  rw[zAB (by omega)]
  exact .done (by omega)
 | succ n ih=>
  intro ls k hn hl
  by_cases h0:k≤0
  ·rw[zAB h0];exact .done h0
  cases ls with
  | nil=>exact .stop (fun l t e=>by cases e)
  | cons l t=>
   obtain⟨p,zs⟩:=l
   cases hb:mB o p with
   | false=>rw[zDA (l:=⟨p,zs⟩) hb];exact .stop (fun l' t' e=>by cases e;exact hb)
   | true=>
    obtain⟨-,hne,hq⟩:=zAc (hl ⟨p,zs⟩ (by simp))
    cases zs with
    | nil=>exact absurd rfl hne
    | cons r rs=>
     have hr:=zAG hq
     rw[zDK (by omega) hb hq]
     exact .fill (by omega) hb (fun h=>absurd rfl h) (ih _ _ (by omega) (zAL (by omega) hl))
theorem zCV{o:O}{p k:Int}{r:R}{rs:List R}{t:List L}(hk:0<k)(hb:mB o p=true)(hl:∀l∈(⟨p,r::rs⟩::t:List L),lchk l=0):Less (⟨p,r::rs⟩::t) (stepL p (tk1 (min k r.qty) r rs) t):=by
 obtain⟨-,-,hq⟩:=zAc (hl _ (List.mem_cons_self ..))
 have hr:=zAG hq
 have h1:=zCx (o:=o) (q:=min k r.qty) (by omega) hl
 rw[zDK (by omega) hb hq,show min (min k r.qty) r.qty=min k r.qty by omega,show min k r.qty - min k r.qty=0 by omega,zAB (Int.le_refl 0)] at h1
 exact h1
structure FF (o:O) (ls:List L) (k:Int) (v:V):Prop where
 less:Less ls v.ls
 sum:v.left+sumT v.ts=k
 left:0≤v.left
 ids:v.ids.length+(allR v.ls).length≤(allR ls).length
 each:∀x∈v.ts,1≤x.qty∧x.qty≤10000∧1≤x.price∧x.price≤10000∧x.taker=o.id∧mB o x.price=true
 good:∀l∈v.ls,lchk l=0
theorem zKo{m:Int}{o:O}{ls:List L}{k:Int}{v:V}(h:Fil m o ls k v):(∀l∈ls,lchk l=0)→0≤k→FF o ls k v:=by
 induction h with
 | done=>exact fun hl h0=>⟨Less.refl _,by simp[sumT],h0,by simp,(fun _ h=>by cases h),hl⟩
 | stop=>exact fun hl h0=>⟨Less.refl _,by simp[sumT],h0,by simp,(fun _ h=>by cases h),hl⟩
 | taker=>exact fun hl h0=>⟨Less.refl _,by simp[sumT],h0,by simp,(fun _ h=>by cases h),hl⟩
 | @maker p r rs t k v _ _ _ _ ih=>
  intro hl h0
  obtain⟨a,b,c,d,e,f⟩:=ih (zAM hl) h0
  have:=slf.zAZ (p:=p) (z:=rs) (t:=t)
  refine⟨(zBM hl).trans a,b,c,?_,e,f⟩
  rw[zAf]
  simp only[List.length_cons,List.length_append] at d ⊢
  omega
 | @both p r rs t k _ _ _=>
  intro hl h0
  have:=slf.zAZ (p:=p) (z:=rs) (t:=t)
  refine⟨zBM hl,by simp[sumT],h0,?_,(fun _ h=>by cases h),zAM hl⟩
  rw[zAf]
  simp only[List.length_cons,List.length_append,List.length_nil]
  omega
 | @fill p r rs t k v h0 hb _ _ ih=>
  intro hl _
  obtain⟨hp,-,hq⟩:=zAc (hl _ (List.mem_cons_self ..))
  have hr:=zAG hq
  obtain⟨a,b,c,d,e,f⟩:=ih (zAL h0 hl) (by omega)
  have hlen:=(zCV (o:=o) h0 hb hl).len
  refine⟨(zCV h0 hb hl).trans a,?_,c,by simp only[] at d ⊢;omega,fun x hx=>?_,f⟩
  ·have:(trd o p ⟨r.id,r.who,min k r.qty⟩).qty=min k r.qty:=by unfold trd;split <;>rfl
   simp only[sumT,this]
   omega
  ·rcases List.mem_cons.1 hx with rfl|hx
   ·simp only[] at hp
    have h1:(trd o p ⟨r.id,r.who,min k r.qty⟩).qty=min k r.qty:=by unfold trd;split <;>rfl
    have h2:(trd o p ⟨r.id,r.who,min k r.qty⟩).price=p:=by unfold trd;split <;>rfl
    have h3:(trd o p ⟨r.id,r.who,min k r.qty⟩).taker=o.id:=by unfold trd;split <;>rfl
    rw[h1,h2,h3]
    exact⟨by omega,by omega,hp.1,hp.2,rfl,hb⟩
   ·exact e x hx
structure VF (m:Int) (bs ss:List L) (o:O) (v:V):Prop where
 come:comeE bs ss o=0
 fil:Fil m o (otherL bs ss o) o.qty v
 set:setE (repB o bs v.ls) (repS o ss v.ls) o (lfV v)=0
 len:v.ts.length≤400
 is:vR m bs ss o=⟨setB (repB o bs v.ls) o (lfV v),setS (repS o ss v.ls) o (lfV v),v.ts,gnV v+setG o (lfV v),v.ids⟩
theorem other_good{bs ss:List L}{o:O}(h:comeE bs ss o=0):∀l∈otherL bs ss o,lchk l=0:=by
 obtain⟨h0,-⟩:=zAp h
 obtain⟨e1,e2,-⟩:=bok.zAb h0
 unfold otherL
 split
 ·exact zAh (zAa e2).2.1
 ·exact zAh (zAa e1).2.1
theorem zGK{m:Int}{bs ss:List L}{o:O}(h0:0≤m)(h3:m≤3)(h:vE m bs ss o=0):∃v,VF m bs ss o v:=by
 unfold vE at h
 by_cases hm:m=0
 ·subst hm
  rw[if_pos rfl] at h
  obtain⟨h1,h2,h4⟩:=zGw h
  obtain⟨h5,h6⟩:=zDP h1
  refine⟨⟨(metR bs ss o).1,(metR bs ss o).2.1,(metR bs ss o).2.2,false,[]⟩,h5,tkl_fil _ _ _ (nzR _) (other_good h5),?_,h6,?_⟩
  ·have e1:repB o bs (metR bs ss o).1=metB bs ss o:=by unfold slf.repB metB;rfl
   have e2:repS o ss (metR bs ss o).1=metS bs ss o:=by unfold slf.repS metS;rfl
   simp only[lfV]
   rw[e1,e2]
   exact h4
  ·unfold vR
   rw[if_pos rfl]
   have e1:repB o bs (metR bs ss o).1=metB bs ss o:=by unfold slf.repB metB;rfl
   have e2:repS o ss (metR bs ss o).1=metS bs ss o:=by unfold slf.repS metS;rfl
   simp only[lfV,gnV,e1,e2]
   simp[kdoB,kdoS,kdoG]
 ·rw[if_neg hm] at h
  by_cases hc:comeE bs ss o=0
  ·rw[if_pos hc] at h
   obtain⟨v,hv⟩:=slf.zCO (m:=m) (o:=o) (k:=o.qty) (by omega) (other_good hc)
   have hvv:=zCh hv
   rw[hvv] at h
   unfold slf.sE at h
   by_cases h4:400<v.ts.length
   ·rw[if_pos h4] at h;omega
   ·rw[if_neg h4] at h
    by_cases h5:srefE o (lfV v) (gnV v) v.ids.length=0
    ·rw[if_pos h5] at h
     refine⟨v,hc,zNp hv,h,by omega,?_⟩
     unfold vR
     rw[if_neg hm]
     simp only[hvv]
    ·rw[if_neg h5] at h;exact absurd h h5
  ·rw[if_neg hc] at h;exact absurd h hc
theorem VF.ff{m:Int}{bs ss:List L}{o:O}{v:V}(h:VF m bs ss o v):FF o (otherL bs ss o) o.qty v:=by
 obtain⟨-,hck,-⟩:=zAp h.come
 have:=(mrg.zAA hck).2.2.1
 exact zKo h.fil (other_good h.come) (by omega)
theorem VF.book{m:Int}{bs ss:List L}{o:O}{v:V}(h:VF m bs ss o v):bookE (repB o bs v.ls) (repS o ss v.ls)=0:=zBd (zAp h.come).1 h.ff.less
theorem zNq{m:Int}{bs ss:List L}{o:O}(h0:0≤m)(h3:m≤3)(h:vE m bs ss o=0):bookE (vR m bs ss o).bs (vR m bs ss o).ss=0:=by
 obtain⟨v,hv⟩:=zGK h0 h3 h
 rw[hv.is]
 simp only[]
 unfold kin.setB kin.setS
 cases hst:stayB o (lfV v) with
 | true=>
  obtain⟨h5,h6⟩:=kin.set_put hv.set hst
  simp only[if_true]
  exact(bok.zNm h6).2.2
 | false=>
  simp only[Bool.false_eq_true,if_false]
  exact hv.book
structure VO (o:O) (v:Vs):Prop where
 ck:chk o=0
 book:bookE v.bs v.ss=0
 g0:0≤v.gone
 g1:v.gone+sumT v.ts≤o.qty
 len:v.ts.length≤400
 ids:v.ids.length≤60
 each:∀x∈v.ts,1≤x.qty∧x.qty≤10000∧1≤x.price∧x.price≤10000∧x.taker=o.id∧mB o x.price=true
theorem zGL{m:Int}{bs ss:List L}{o:O}(h0:0≤m)(h3:m≤3)(h:vE m bs ss o=0):VO o (vR m bs ss o):=by
 have hb:=zNq h0 h3 h
 obtain⟨v,hv⟩:=zGK h0 h3 h
 obtain⟨hbk,hck,-⟩:=zAp hv.come
 have hf:=hv.ff
 have hlen:(allR (otherL bs ss o)).length≤60:=by
  obtain⟨e1,e2,-⟩:=bok.zAb hbk
  unfold otherL
  split
  ·exact bok.allR_len e2
  ·exact bok.allR_len e1
 have hsum:=hf.sum
 have hl:=hf.left
 refine⟨hck,hb,?_,?_,?_,?_,?_⟩
 ·rw[hv.is]
  simp only[gnV,lfV,setG]
  split <;>split <;>omega
 ·rw[hv.is]
  simp only[gnV,lfV,setG]
  split <;>split <;>omega
 ·rw[hv.is];exact hv.len
 ·rw[hv.is]
  have:=hf.ids
  simp only[]
  omega
 ·rw[hv.is];exact hf.each
theorem sgo_out{s:Int}(hs:sideB s=true)(x:L)(b:List L):∀ (a:List L) (prev:Option Int),sid.sgo s prev (a++x::b)=0→sid.sgo s prev (a++b)=0:=by
 intro a
 induction a with
 | nil=>
  intro prev h
  obtain⟨h1,h2,h3⟩:=zAy h
  exact zDI hs h3 h2
 | cons y t ih=>
  intro prev h
  obtain⟨h1,h2,h3⟩:=zAy h
  exact zBk h1 h2 (ih _ h3)
theorem zEV{ls:List L}{i k:Nat}(hi:i<ls.length)(hk:k<ls[i].rests.length)(hl:∀l∈ls,lchk l=0):Less ls (dropL ls i k):=by
 obtain⟨a,b,c,d,h1,h2,h3,h4⟩:=swp.zBa hi hk
 generalize hr:ls[i].rests[k]=r at *
 generalize hp:ls[i].price=p at *
 have hx:=hl _ (List.getElem_mem hi)
 have hz:lchk ⟨p,c++r::d⟩=0:=by rw[←h3,←hp];exact hx
 rw[h1,←h2,←h4,swp.zCT]
 have hall:allR (if c.length+d.length=0 then a++b else a++⟨p,c++d⟩::b)=allR a++(c++(d++allR b)):=by
  by_cases e:c.length+d.length=0
  ·rw[if_pos e]
   have e1:c=[]:=List.eq_nil_of_length_eq_zero (by omega)
   have e2:d=[]:=List.eq_nil_of_length_eq_zero (by omega)
   rw[e1,e2,zAv];rfl
  ·rw[if_neg e,swp.zBN];simp
 have hall2:allR (a++⟨p,c++r::d⟩::b)=allR a++(c++r::(d++allR b)):=by rw[swp.zBN];simp
 refine⟨fun j hj=>?_,fun hn=>?_,?_,fun x hx=>?_,fun s prev hs h=>?_⟩
 ·rw[hall] at hj
  rw[hall2]
  simp only[List.map_append,List.map_cons,List.mem_append,List.mem_cons] at hj ⊢
  rcases hj with h|h|h|h
  ·exact .inl h
  ·exact .inr (.inl h)
  ·exact .inr (.inr (.inr (.inl h)))
  ·exact .inr (.inr (.inr (.inr h)))
 ·rw[hall2] at hn
  rw[hall]
  refine List.Nodup.sublist ?_ hn
  exact List.Sublist.map _ (List.Sublist.append_left (List.Sublist.append_left (List.sublist_cons_self _ _) _) _)
 ·rw[hall,hall2];simp
 ·split at hx
  ·rcases List.mem_append.1 hx with hx|hx
   ·exact⟨x,by simp[hx],rfl⟩
   ·exact⟨x,by simp[hx],rfl⟩
  ·rcases List.mem_append.1 hx with hx|hx
   ·exact⟨x,by simp[hx],rfl⟩
   ·rcases List.mem_cons.1 hx with rfl|hx
    ·exact⟨⟨p,c++r::d⟩,by simp,rfl⟩
    ·exact⟨x,by simp[hx],rfl⟩
 ·split
  ·exact sgo_out hs _ b a prev h
  ·rename_i hne
   obtain⟨hpp,-,hq⟩:=zAc hz
   obtain⟨h60,hg⟩:=(zAd _).1 hq
   refine swp.zJO p (zAU (zBr hz) (fun e=>hne (by rw[←List.length_append,e];rfl)) ((zAd _).2 ⟨?_,?_,?_⟩)) a b prev h
   ·simp at h60 ⊢;omega
   ·intro x hx;exact hg.1 x (by simp at hx ⊢;rcases hx with h|h;exact .inl h;exact .inr (.inr h))
   ·refine List.Nodup.sublist (List.Sublist.map _ ?_) hg.2
    exact List.Sublist.append_left (List.sublist_cons_self _ _) _
theorem zAP{bs ss:List L}{id s p:Int}{r:R}{i k:Nat}(h:swp.At bs ss id s p r i k):bookE (swp.cB s bs i k) (swp.cS s ss i k)=0:=by
 obtain⟨ls,hS,-⟩:=h
 obtain⟨e1,e2,-⟩:=bok.zAb hS.h0
 have hi:=hS.hi
 have hk:=hS.hk
 have h0:=hS.h0
 rcases hS.side with ⟨rfl,rfl,-⟩|⟨rfl,rfl,-⟩
 ·have hL:=zEV hi hk (zAh (zAa e1).2.1)
  have:=zBd (o:=⟨0,0,2,0,0,0,0,0⟩) h0 hL
  exact this
 ·have hL:=zEV hi hk (zAh (zAa e2).2.1)
  have:=zBd (o:=⟨0,0,1,0,0,0,0,0⟩) h0 hL
  exact this
end flr
end Go.Proofs.YtifjhlgjgnnnpaaGreat
