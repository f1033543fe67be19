import Derived.Test.YtifjhlgjgnnnpaaGreatFlrFb
set_option maxHeartbeats 4000000
set_option maxRecDepth 100000
namespace Go.Proofs.YtifjhlgjgnnnpaaGreat
namespace flr
open Go.RowKit
open que (R rchk)
open sid (L DL LS)
open mee (T tV OwnT sumT)
open ord (O oV chk errV errV_zero errV_of prB)
open que (bal)
open pur (Pz Pu Ok flatP pL)
open wak (OwnM OwnQ St SL Lies oL idx Trn)
def FrPost(f:FS)(v:FV)(w:World)(e:Ending)(w' : World):Prop:=
 ∃sp vw pp,e=.returned (.agg #[.int .i64 f.mode,.slice v.q1 v.n1 v.c1,.slice v.q2 v.n2 v.c2,.pointer (some ⟨sp,0,none⟩),.pointer (some ⟨pp,0,none⟩),.int .i64 f.last])∧St w' w.heap.size sp vw f.ws∧Pu 110 9 w' pp f.ps∧w.heap.size≤pp∧Below w.heap.size w w'
theorem zJs(F:Nat)(f:FS)(v:FV)(w:World)(h:FM w F f v)(hl:f.ws.length≤20) :
  Calls Tryz.prog 27 #[.pointer (some ⟨F,0,none⟩)] w fun e w'=>FrPost f v w e w':=by
 obtain⟨W,hW⟩:∃W,W=w.alloc (.cells #[.int .i64 0,.slice none 0 0,.slice none 0 0,.pointer none,.pointer none,.int .i64 0] 81):=⟨_,rfl⟩
 have hBW:Below w.heap.size w W:=by rw[hW];exact(bzR _ _).alloc (nzR _) _
 have hrow:W.heap[w.heap.size]?=some (.cells #[.int .i64 0,.slice none 0 0,.slice none 0 0,.pointer none,.pointer none,.int .i64 0] 81 (0,0)):=by rw[hW];exact jA w _
 obtain⟨G,hG⟩:∃G,G=w.heap.size:=⟨_,rfl⟩
 rw[←hG] at hrow
 have HSF:Hid (∀U,Below W.heap.size W U→Calls Tryz.prog 47 #[.pointer (some ⟨v.sp,0,none⟩)] U fun e w'=>∃p' v',e=.returned (.pointer (some ⟨p',0,none⟩))∧Hid (St w' w.heap.size p' v' f.ws)∧Below W.heap.size W w'∧Hid (Below U.heap.size U w')):=fun U hU=>by
  have hwU:=hBW.trans (hU.mono hBW.size)
  refine(zJq 0 v.sp v.vw f.ws U (h.below hwU).stops (by omega)).mono ?_
  rintro e w'⟨p',v',rfl,k1,k2⟩
  exact⟨p',v',rfl,zFG k1 hwU.size,hU.trans (k2.mono hU.size),k2⟩
 have HPF:Hid (∀U,Below W.heap.size W U→Calls Tryz.prog 48 #[.pointer (some ⟨v.pp,0,none⟩)] U fun e w'=>∃pp',e=.returned (.pointer (some ⟨pp',0,none⟩))∧Hid (w.heap.size≤pp'∧Pu 110 9 w' pp' f.ps)∧Below W.heap.size W w'∧Hid (Below U.heap.size U w')):=fun U hU=>by
  have hwU:=hBW.trans (hU.mono hBW.size)
  refine(zJr v.pp f.ps U (h.below hwU).purs).mono ?_
  rintro e w'⟨rfl,k1,k2⟩
  exact⟨_,rfl,⟨hwU.size,k1⟩,hU.trans (k2.mono hU.size),k2⟩
 have SO:Hid (∀U,Below w.heap.size w U→U.cell? ⟨F,0,none⟩=some (.int .i64 f.mode)∧U.cell? ⟨F,1,none⟩=some (.slice v.q1 v.n1 v.c1)∧U.cell? ⟨F,2,none⟩=some (.slice v.q2 v.n2 v.c2)∧U.cell? ⟨F,3,none⟩=some (.pointer (some ⟨v.sp,0,none⟩))∧U.cell? ⟨F,4,none⟩=some (.pointer (some ⟨v.pp,0,none⟩))∧U.cell? ⟨F,5,none⟩=some (.int .i64 f.last)):=fun U hU=>by
  obtain⟨a,b,c,d,e,g,-⟩:=(h.below hU).cells
  exact⟨a,b,c,d,e,g⟩
 have HRG:=hidF hrow
 have HBW:=hidF hBW
 have HGS:=hidF hG
 have HRF:=hidF (bzR W.heap.size W)
 have HWW:Hid (∀U,Below W.heap.size W U→Below w.heap.size w U):=fun U hU=>hBW.trans (hU.mono hBW.size)
 have HGL:Hid (w.heap.size≤G):=by show _≤_;omega
 have HFIN:Hid (∀Z p' v' pp',St Z w.heap.size p' v' f.ws→(w.heap.size≤pp'∧Pu 110 9 Z pp' f.ps)→Below W.heap.size W Z→∀x0 x1 x2 x3 x4 x5,St ((((((Z.setCell ⟨G,0,none⟩ x0).setCell ⟨G,1,none⟩ x1).setCell ⟨G,2,none⟩ x2).setCell ⟨G,3,none⟩ x3).setCell ⟨G,4,none⟩ x4).setCell ⟨G,5,none⟩ x5) w.heap.size p' v' f.ws∧w.heap.size≤pp'∧Pu 110 9 ((((((Z.setCell ⟨G,0,none⟩ x0).setCell ⟨G,1,none⟩ x1).setCell ⟨G,2,none⟩ x2).setCell ⟨G,3,none⟩ x3).setCell ⟨G,4,none⟩ x4).setCell ⟨G,5,none⟩ x5) pp' f.ps∧Below w.heap.size w ((((((Z.setCell ⟨G,0,none⟩ x0).setCell ⟨G,1,none⟩ x1).setCell ⟨G,2,none⟩ x2).setCell ⟨G,3,none⟩ x3).setCell ⟨G,4,none⟩ x4).setCell ⟨G,5,none⟩ x5)∧((((((Z.setCell ⟨G,0,none⟩ x0).setCell ⟨G,1,none⟩ x1).setCell ⟨G,2,none⟩ x2).setCell ⟨G,3,none⟩ x3).setCell ⟨G,4,none⟩ x4).setCell ⟨G,5,none⟩ x5).heap[G]?=some (.cells #[x0,x1,x2,x3,x4,x5] 81 (0,0))):=fun Z p' v' pp' hs hp hb x0 x1 x2 x3 x4 x5=>by
  have hrZ:=zBl hrow hb
  have hg:=gr6 Z G x0 x1 x2 x3 x4 x5
  have hk:Kp [81] Z _:=Kp.grown hg hrZ (by simp)
  have hwZ:=hBW.trans (hb.mono hBW.size)
  exact⟨hk.st hs (by decide) (by decide),hp.1,hk.pu hp.2 (by decide),hwZ.grown hg hwZ.size (fun k hk=>by cases hk;omega),set6 hrZ _ _ _ _ _ _⟩
 obtain⟨q1,n1,c1,q2,n2,c2,sp,vw,pp⟩:=v
 simp only[] at SO HSF HPF
 unfold FrPost
 simp only[]
 generalize f.mode=M at *
 generalize f.last=LA at *
 clear h hl hBW hrow
 go_enter Tryz.func27,Tryz.ntmps27
 go_upto_region 1 with fail
 rw[←hW]
 simp only[←hG]
 clear hW hG
 have hS0:=SO.out W (HWW.out _ HRF.out)
 go_region_held3 (fun W=>W.cell? ⟨F,0,none⟩=some (.int .i64 M)∧W.cell? ⟨F,1,none⟩=some (.slice q1 n1 c1)∧W.cell? ⟨F,2,none⟩=some (.slice q2 n2 c2)∧W.cell? ⟨F,3,none⟩=some (.pointer (some ⟨sp,0,none⟩))∧W.cell? ⟨F,4,none⟩=some (.pointer (some ⟨pp,0,none⟩))∧W.cell? ⟨F,5,none⟩=some (.int .i64 LA))
  (first|with_reducible assumption|(refine SO.out _ ?_;(repeat' (first|with_reducible assumption|with_reducible refine Below.setCell ?_ ?_ _|with_reducible refine Below.drew ?_|with_reducible exact HGL.out|(refine HWW.out _ ?_;(first|with_reducible exact HRF.out|with_reducible assumption))));done))
  (first|(go_at_call 47;with_reducible refine(HSF.out _ ?_).mono ?_;(with_reducible repeat' (first|exact HRF.out|assumption|refine Below.drew ?_));rintro x wS ⟨spN,vwN,rfl,HST,hbS,HBS⟩;obtain⟨g0,g1,g2,g3,g4,g5,gf⟩:=zEt (zBl HRG.out hbS);have gf0:=gf 0;have gf1:=gf 1;have gf2:=gf 2;have gf3:=gf 3;have gf4:=gf 4;have gf5:=gf 5;clear gf;have hSW:=SO.out _ (HWW.out _ hbS))|(go_at_call 48;with_reducible refine(HPF.out _ ?_).mono ?_;(with_reducible repeat' (first|exact HRF.out|assumption|refine Below.drew ?_));rintro x wP ⟨ppN,rfl,HPU,hbP,HBP⟩;obtain⟨g0,g1,g2,g3,g4,g5,gf⟩:=zEt (zBl HRG.out hbP);have gf0:=gf 0;have gf1:=gf 1;have gf2:=gf 2;have gf3:=gf 3;have gf4:=gf 4;have gf5:=gf 5;clear gf;have hSP:=SO.out _ (HWW.out _ hbP)))
 have hbs:Below wS.heap.size wS wP:=HBP.out
 obtain⟨f1,f2,f3,f4,f5⟩:=HFIN.out wP spN vwN ppN (HST.out.below hbs) HPU.out hbP (.int .i64 M) (.slice q1 n1 c1) (.slice q2 n2 c2) (.pointer (some ⟨spN,0,none⟩)) (.pointer (some ⟨ppN,0,none⟩)) (.int .i64 LA)
 clear hbs hbP hbS HST HBS HPU HBP hSW hSP hS0 g0 g1 g2 g3 g4 g5 gf0 gf1 gf2 gf3 gf4 gf5 SO HSF HPF HFIN
 generalize (((((wP.setCell ⟨G,0,none⟩ (.int .i64 M)).setCell ⟨G,1,none⟩ (.slice q1 n1 c1)).setCell ⟨G,2,none⟩ (.slice q2 n2 c2)).setCell ⟨G,3,none⟩ (.pointer (some ⟨spN,0,none⟩))).setCell ⟨G,4,none⟩ (.pointer (some ⟨ppN,0,none⟩))).setCell ⟨G,5,none⟩ (.int .i64 LA)=Y at *
 obtain⟨y0,y1,y2,y3,y4,y5,-⟩:=zEt f5
 go_wp2_with fail
 exact jN (v:=.agg #[.int .i64 M,.slice q1 n1 c1,.slice q2 n2 c2,.pointer (some ⟨spN,0,none⟩),.pointer (some ⟨ppN,0,none⟩),.int .i64 LA]) (by simp[results,Tryz.results27,go_sem,y0,y1,y2,y3,y4,y5]) rfl ⟨spN,vwN,ppN,rfl,f1,f3,f2,f4⟩
end flr
namespace flr
open Go.RowKit
open que (R rchk)
open sid (L DL LS)
open mee (T tV OwnT sumT)
open ord (O oV chk errV errV_zero errV_of)
open que (bal)
open wak (OwnM St SL Lies oL idx Trn)
theorem zJt(ts:List T)(k:Nat)(hk:k<ts.length):sumT (ts.take (k+1))=sumT (ts.take k)+ts[k]!.qty:=mrg.zLy ts k hk
theorem zHw(ts:List T)(h:∀x∈ts,1≤x.qty):0≤sumT ts:=by
 induction ts with
 | nil=>exact jY _
 | cons x t ih=>
  have:=h x (by simp)
  have:=ih (fun y hy=>h y (by simp[hy]))
  simp only[sumT];omega
theorem zMe(ts:List T)(k:Nat)(h:∀x∈ts,1≤x.qty):0≤sumT (ts.take k)∧sumT (ts.take k)≤sumT ts:=by
 refine⟨zHw _ fun x hx=>h x (List.mem_of_mem_take hx),?_⟩
 have h1:sumT (ts.take k++ts.drop k)=sumT (ts.take k)+sumT (ts.drop k):=mee.zCS _ _
 rw[jR] at h1
 have:=zHw (ts.drop k) fun x hx=>h x (List.mem_of_mem_drop hx)
 omega
theorem zMf{o:O}{v:Vs}(h:VO o v):wrap64 (o.qty - v.gone)=o.qty - v.gone - sumT (v.ts.take 0)∧(∀k,k<v.ts.length→wrap64 (o.qty - v.gone - sumT (v.ts.take k) - v.ts[k]!.qty)=o.qty - v.gone - sumT (v.ts.take (k+1)))∧o.qty - v.gone - sumT (v.ts.take v.ts.length)=zIe o v:=by
 have hq:=(mrg.zAX h.ck).2.2
 have g0:=h.g0
 have g1:=h.g1
 have h1:∀x∈v.ts,1≤x.qty:=fun x hx=>(h.each x hx).1
 have h2:=zHw v.ts h1
 refine⟨?_,fun k hk=>?_,?_⟩
 ·rw[List.take_zero];show _=_ - _ - 0;unfold wrap64;omega
 ·have h3:=zMe v.ts (k+1) h1
  rw[zJt _ _ hk] at h3 ⊢
  unfold wrap64;omega
 ·rw[List.take_length];rfl
theorem zGP{b t:Nat}{s:TS}{v:TV}{w0 w:World}(what id qty price:Int)(h:TM w b t s v)(h0:Tn tA b w0 w)(hl:s.evs.length≤1000000) :
  Calls Tryz.prog 54 #[.pointer (some ⟨t,0,none⟩),.int .i64 what,.int .i64 id,.int .i64 qty,.int .i64 price] w fun e w'=>e=.returned (.tuple #[])∧Hid (∃v',TM w' b t (tell s what id qty price) v')∧Hid (Tn tA b w w')∧Hid (Tn tA b w0 w'):=by
 refine(zFx b t s v what id qty price w h hl).mono ?_
 rintro e w'⟨rfl,h1,h2⟩
 exact⟨rfl,h1,h2,h0.trans h2⟩
theorem zGQ(b t:Nat)(s:TS)(v:TV)(a1 a2 a3 a4 a5 a6 a7 a8:Int)(q1 q2 qt qi:Option Addr)(n1 c1 n2 c2 nt ct ni ci:Nat)(g:Int)(vs:Vs)(w:World)(h:TM w b t s v)(hO:OwnT w 0 (.slice qt nt ct) vs.ts)(hg:g=vs.gone)(hv:VO ⟨a1,a2,a3,a4,a5,a6,a7,a8⟩ vs)(hl:s.evs.length≤999000) :
  Calls Tryz.prog 103 #[.pointer (some ⟨t,0,none⟩),.agg #[.int .i64 a1,.int .i64 a2,.int .i64 a3,.int .i64 a4,.int .i64 a5,.int .i64 a6,.int .i64 a7,.int .i64 a8],.agg #[.slice q1 n1 c1,.slice q2 n2 c2,.slice qt nt ct,.int .i64 g,.slice qi ni ci]] w fun e w'=>e=.returned (.tuple #[])∧(∃v',TM w' b t (tellLeft s ⟨a1,a2,a3,a4,a5,a6,a7,a8⟩ vs) v')∧Tn tA b w w':=by
 have hn:nt=vs.ts.length:=by obtain⟨q',c',e⟩:=wak.OwnM.form hO;cases e;rfl
 obtain⟨W1,hW1⟩:∃W,W=w.alloc (.cells #[.int .i64 a1,.int .i64 a2,.int .i64 a3,.int .i64 a4,.int .i64 a5,.int .i64 a6,.int .i64 a7,.int .i64 a8] 32):=⟨_,rfl⟩
 have hb1:Below w.heap.size w W1:=by rw[hW1];exact(bzR _ _).alloc (nzR _) _
 have hs1:W1.heap.size=w.heap.size+1:=by rw[hW1];simp
 have hr1:W1.heap[w.heap.size]?=some (.cells #[.int .i64 a1,.int .i64 a2,.int .i64 a3,.int .i64 a4,.int .i64 a5,.int .i64 a6,.int .i64 a7,.int .i64 a8] 32 (0,0)):=by rw[hW1];exact jA w _
 obtain⟨W,hW⟩:∃W,W=W1.alloc (.cells #[.slice q1 n1 c1,.slice q2 n2 c2,.slice qt nt ct,.int .i64 g,.slice qi ni ci] 132):=⟨_,rfl⟩
 have hb2:Below W1.heap.size W1 W:=by rw[hW];exact(bzR _ _).alloc (nzR _) _
 have hr2:W.heap[w.heap.size+1]?=some (.cells #[.slice q1 n1 c1,.slice q2 n2 c2,.slice qt nt ct,.int .i64 g,.slice qi ni ci] 132 (0,0)):=by rw[←hs1,hW];exact jA W1 _
 have hBW:=hb1.trans (hb2.mono hb1.size)
 obtain⟨G,hG⟩:∃G,G=w.heap.size:=⟨_,rfl⟩
 have hrG:W.heap[G]?=some (.cells #[.int .i64 a1,.int .i64 a2,.int .i64 a3,.int .i64 a4,.int .i64 a5,.int .i64 a6,.int .i64 a7,.int .i64 a8] 32 (0,0)):=by rw[hG];exact zBl hr1 hb2
 rw[←hG] at hr2
 have HM0:=hidF (h.below hBW)
 have HT0:=hidF (Tn.below (S:=tA) hBW h.base)
 have HO0:Hid (OwnT W 0 (.slice qt nt ct) vs.ts):=Kp.ownQ (S:=[]) (Kp.below hBW) hO (by simp)
 obtain⟨hA,hB,hC⟩:=zMf hv
 obtain⟨F,hF⟩:∃F:Nat→Int,∀k,a6 - vs.gone - sumT (vs.ts.take k)=F k:=⟨_,fun _=>rfl⟩
 simp only[hF] at hA hB hC
 rw[←hg] at hA
 have HA:=hidF hA
 have HB:=hidF hB
 have HC:=hidF hC
 have HL:=hidF hl
 have HN:=hidF hn
 have HN4:Hid (nt≤1000000):=by show _≤_;rw[hn];have:=hv.len;omega
 have HRG:=hidF hrG
 have HRV:=hidF hr2
 have HGV:=hidF hg
 obtain⟨c0,c1',c2',c3,c4,c5,c6,c7,-⟩:=wak.row8 hrG
 obtain⟨v0,v1,v2,v3,v4,-⟩:=sid.zAe hr2
 have HFIN:Hid (∀S1 w',(S1=tellLeft s ⟨a1,a2,a3,a4,a5,a6,a7,a8⟩ vs)→(∃v',TM w' b t S1 v')→Tn tA b w w'→(∃v',TM w' b t (tellLeft s ⟨a1,a2,a3,a4,a5,a6,a7,a8⟩ vs) v')∧Tn tA b w w'):=fun S1 w' e h1 h2=>by subst e;exact⟨h1,h2⟩
 clear h hO hv hl hrG hr1 hr2 hb1 hb2 hs1 hBW hA hB hC hn hF hg
 by_cases hg0:0<g
 case' pos=>
  have HTL:=hidF (zGP (w0:=w) 3 a1 g a5 HM0.out HT0.out (by have:=HL.out;omega))
  have HS:Hid (tell s 3 a1 g a5=zAJ s ⟨a1,a2,a3,a4,a5,a6,a7,a8⟩ vs):=by show _=_;unfold zAJ;rw[←HGV.out,if_pos hg0]
  go_enter Tryz.func103,Tryz.ntmps103
  go_upto_region 1 with fail
  rw[←hW1,←hW]
  simp only[←hG]
  clear hW hW1 hG
  go_wp2_with fail
  refine HTL.out.mono ?_
  rintro e w1⟨rfl,HM1,HX1,HT1⟩
  have HRG1:=hidF (HX1.out.kp.typ _ _ _ HRG.out (by decide))
  have HRV1:=hidF (HX1.out.kp.typ _ _ _ HRV.out (by decide))
  have HO1:Hid (OwnT w1 0 (.slice qt nt ct) vs.ts):=HX1.out.kp.ownQ HO0.out (by decide)
  clear HX1 HTL c0 c1' c2' c3 c4 c5 c6 c7 v0 v1 v2 v3 v4 HRG HRV HO0 HM0 HT0
  have HLS:Hid ((tell s 3 a1 g a5).evs.length≤999999):=by show _≤_;have:=HL.out;simp only[tell,jE,jG,List.length_nil];omega
  generalize tell s 3 a1 g a5=S1 at *
 case' neg=>
  have HS:Hid (s=zAJ s ⟨a1,a2,a3,a4,a5,a6,a7,a8⟩ vs):=by show _=_;unfold zAJ;rw[←HGV.out,if_neg hg0]
  have HM1:Hid (∃v',TM W b t s v'):=⟨_,HM0.out⟩
  have HLS:Hid (s.evs.length≤999999):=by show _≤_;have:=HL.out;omega
  have HT1:=HT0
  have HRG1:=HRG
  have HRV1:=HRV
  have HO1:=HO0
  go_enter Tryz.func103,Tryz.ntmps103
  go_upto_region 1 with fail
  rw[←hW1,←hW]
  simp only[←hG]
  clear hW hW1 hG HRG HRV HO0 HM0 HT0
  go_upto_region 3 with fail
  clear c0 c1' c2' c3 c4 c5 c6 c7 v0 v1 v2 v3 v4
  obtain⟨S1,hS1⟩:∃S1,S1=s:=⟨_,rfl⟩
  rw[←hS1] at HM1 HLS
  have HS:Hid (S1=zAJ s ⟨a1,a2,a3,a4,a5,a6,a7,a8⟩ vs):=by show _=_;rw[hS1];exact HS.out
  clear hS1
  generalize W=w1 at *
 all_goals
  obtain⟨c0,c1',c2',c3,c4,c5,c6,c7,-⟩:=wak.row8 HRG1.out
  obtain⟨v0,v1,v2,v3,v4,-⟩:=sid.zAe HRV1.out
  go_wp2_with fail
  go_loopg [6,8,28] nt (fun gg s6 _ s28 wr=>∃ (kk:Nat),kk≤nt∧nt - kk≤gg∧s6=.int .i64 (F kk)∧s28=.int .i64 kk∧Aside (Below w1.heap.size w1 wr))
  case atStart=>exact⟨0,jL _,by omega,congrArg (Value.int IntKind.i64) HA.out,rfl,bzR _ _⟩
  case round=>
   obtain⟨kk,hkk,hgg,rfl,rfl,HB1⟩:=hrel
   clear c0 c1' c2' c3 c4 c5 c6 c7 v0 v1 v2 v3 v4
   by_cases hlt:kk<nt
   rotate_left
   ·have hltz:¬(kk:Int)<(nt:Int):=by omega
    have hkn:kk=nt:=by omega
    obtain⟨v1',hM1⟩:=HM1.out
    have HMr:=hidF (hM1.below HB1.out)
    have HTr:=hidF (HT1.out.trans (Tn.below HB1.out hM1.base))
    have HRGr:=hidF (zBl HRG1.out HB1.out)
    have HCC:Hid (F kk=zIe ⟨a1,a2,a3,a4,a5,a6,a7,a8⟩ vs):=by show _=_;rw[hkn,HN.out];exact HC.out
    clear hM1 hkn HRG1 HRV1 HO1 HM1 HT1 HA HB HC hkk hgg
    generalize F kk=fk at *
    obtain⟨c0,c1',c2',c3,c4,c5,c6,c7,-⟩:=wak.row8 HRGr.out
    by_cases hr0:0<fk
    ·have HTL2:=hidF (zGP (w0:=w) 1 a1 fk a5 HMr.out HTr.out (by have:=HLS.out;omega))
     go_wp2_with fail
     refine HTL2.out.mono ?_
     rintro e w2⟨rfl,HM2,-,HT2⟩
     clear c0 c1' c2' c3 c4 c5 c6 c7
     go_wp2_with fail
     go_end0
     exact⟨rfl,HFIN.out _ _ (by unfold tellLeft;rw[←HCC.out,if_pos (by omega),←HS.out]) HM2.out HT2.out⟩
    ·go_wp2_with fail
     go_end0
     exact⟨rfl,HFIN.out S1 _ (by unfold tellLeft;rw[←HCC.out,if_neg (by omega),←HS.out]) ⟨_,HMr.out⟩ HTr.out⟩
   ·have hltz:(kk:Int)<(nt:Int):=by omega
    have hlz:kk<vs.ts.length:=by rw[←HN.out];exact hlt
    have hOr:OwnT wr 0 (.slice qt nt ct) vs.ts:=Kp.ownQ (S:=[]) (Kp.below HB1.out) HO1.out (by simp)
    obtain⟨gz,off,rfl,hG',x0,x1,x2,x3,x4,x5⟩:=mee.OwnT.at hOr hlz
    have HSUB:=hidF (HB.out kk hlz)
    rcases hxx:vs.ts[kk]! with ⟨t1,t2,t3,t4,t5,t6⟩
    rw[hxx] at x0 x1 x2 x3 x4 x5 HSUB
    simp only[] at x0 x1 x2 x3 x4 x5 HSUB
    have HEI:=hidF (zOL kk (by have:=HN4.out;omega))
    have HBN:=hidF (HB1.out.alloc HB1.out.size (.cells #[.int .i64 t1,.int .i64 t2,.int .i64 t3,.int .i64 t4,.int .i64 t5,.int .i64 t6] 40))
    have HM:Hid (kk<nt∧nt - kk≤gk):=⟨hlt,hgg⟩
    clear hOr hlz hxx hlt hgg hkk HRG1 HRV1 HO1 HM1 HT1 HA HB HC HB1
    have ei:=HEI.out
    go_wp2_with fail
    go_roundg (nt - (kk+1))
    case measure=>have:=HM.out;omega
    case rel=>exact⟨kk+1,HM.out.1,nzR _,(congrArg (Value.int IntKind.i64) HSUB.out),by go_num,HBN.out⟩
end flr
namespace flr
open Go.RowKit
open que (R rchk)
open sid (L DL LS)
open mee (T tV OwnT sumT)
open ord (O oV chk errV errV_zero errV_of prB)
open que (bal)
open wak (OwnM OwnQ St SL Lies oL idx Trn step_append_mid)
theorem zPj{w:World}{base:Nat}{q:Option Addr}{n c:Nat}{zs:List O}(h:OwnQ w base (.slice q n c) zs){k:Nat}(hk:k<zs.length):∃g off,q=some ⟨g,off,none⟩∧g<w.heap.size∧w.cell? ⟨g,off+k*8,none⟩=some (.int .i64 zs[k]!.id)∧w.cell? ⟨g,off+k*8+1,none⟩=some (.int .i64 zs[k]!.who)∧w.cell? ⟨g,off+k*8+2,none⟩=some (.int .i64 zs[k]!.side)∧w.cell? ⟨g,off+k*8+3,none⟩=some (.int .i64 zs[k]!.kind)∧w.cell? ⟨g,off+k*8+4,none⟩=some (.int .i64 zs[k]!.price)∧w.cell? ⟨g,off+k*8+5,none⟩=some (.int .i64 zs[k]!.qty)∧w.cell? ⟨g,off+k*8+6,none⟩=some (.int .i64 zs[k]!.shw)∧w.cell? ⟨g,off+k*8+7,none⟩=some (.int .i64 zs[k]!.stop):=by
 rcases h.sl with ⟨_,rfl⟩|⟨g,off,c',e,-,-,hg,hl⟩
 ·exact absurd hk (Nat.not_lt_zero _)
 ·cases e
  exact⟨g,off,rfl,hg,hl k hk 0 _ rfl,hl k hk 1 _ rfl,hl k hk 2 _ rfl,hl k hk 3 _ rfl,hl k hk 4 _ rfl,hl k hk 5 _ rfl,hl k hk 6 _ rfl,hl k hk 7 _ rfl⟩
theorem TM.skrow{w w' : World}{b t:Nat}{s:TS}{v:TV}(h:TM w b t s v)(hg:w.grownBy w' (Value.slice v.qk v.nk v.ck).ownBlock):w'.heap[t]?=some (.cells (rowT s v) 85 (0,0)):=by
 rcases h.row.2 with ⟨h1,_⟩|⟨g,off,cap,cur,h1,h2,h3,_⟩
 ·rw[h1] at hg
  exact(hg.block t h.lt (by simp[Value.ownBlock])).trans h.blk
 ·rw[h1] at hg
  have hg' : w.grownBy w' (some g):=hg
  exact(Kp.grown (S:=[115]) hg' h3 (by simp)).typ _ _ _ h.blk (by decide)
theorem TM.rowed{w w' : World}{b t:Nat}{s:TS}{v:TV}(h:TM w b t s v){q:Option Addr}{n c:Nat}{row:List Sl}(ho:OwnM w' b 115 9 (.slice q n c) row.length (flatK row))(hg:w.grownBy w' (Value.slice v.qk v.nk v.ck).ownBlock) :
  TM (w'.setCell ⟨t,7,none⟩ (.slice q n c)) b t { s with row:=row } { v with qk:=q,nk:=n,ck:=c }∧Tn tB b w (w'.setCell ⟨t,7,none⟩ (.slice q n c))∧Kp [85,115] w (w'.setCell ⟨t,7,none⟩ (.slice q n c)):=by
 have hk:Kp [115] w w'∧∀k,k<b→w'.heap[k]?=w.heap[k]?:=by
  rcases h.row.2 with ⟨h1,_⟩|⟨g,off,cap,cur,h1,h2,h3,_⟩
  ·rw[h1] at hg
   have hB:Below w.heap.size w w':=⟨hg.os,hg.tape,hg.output,hg.size,fun k hk=>hg.block k hk (by simp[Value.ownBlock])⟩
   exact⟨Kp.below hB,fun k hk=>hB.block k (by have:=h.base;omega)⟩
  ·rw[h1] at hg
   have hg' : w.grownBy w' (some g):=hg
   exact⟨Kp.grown hg' h3 (by simp),fun k hk=>hg'.block k (by have:=h.base;omega) (fun e=>by cases e;omega)⟩
 have hb:=hk.1.typ _ _ _ h.blk (by decide)
 have hg2:=wak.gr_setCell w' t 7 (.slice q n c)
 have hk2:Kp [85] w' _:=Kp.grown hg2 hb (by simp)
 have hk3:Kp [85,115] w (w'.setCell ⟨t,7,none⟩ (.slice q n c)):=(hk.1.mono (by simp)).trans (hk2.mono (by simp))
 refine⟨⟨jB w' t 7 _ _ _ hb,h.le,hk3.dl h.buys (by decide) (by decide),hk3.dl h.sells (by decide) (by decide),hk3.st h.stops (by decide) (by decide),hk3.pu h.purs (by decide),h.ple,hk3.own h.evs (by decide),hk2.own ho (by decide)⟩,⟨hk3.mono (by decide),fun k hk'=>?_⟩,hk3⟩
 rw[hg2.block k (by have:=h.base;have:=hk.1.size;omega) (fun e=>by cases e;have:=h.le;omega)]
 exact hk.2 k hk'
theorem zMg{w w' : World}{p:Nat}{v:Value}(h:w.grownBy w' (some p)):Trn w w' p v:=⟨h.os,h.tape,h.output,h.size,fun k hk h1 _=>h.block k hk (fun e=>h1 (by cases e;rfl))⟩
structure WI (b t:Nat) (s:TS) (p:Int) (q:Option Addr) (n c:Nat) (os:List O) (w:World) (k:Nat) (wr:World):Prop where
 mem:∃v1,TM wr b t { s with row:=s.row++(os.take k).map (⟨·,p⟩) } v1
 tn:Tn tB b w wr
 own:OwnQ wr 0 (.slice q n c) os
theorem zOM{os:List O}{p:Int}{k:Nat}(h:k<os.length):(os.take (k+1)).map (Sl.mk · p)=(os.take k).map (Sl.mk · p)++[⟨os[k]!,p⟩]:=by
 rw[List.take_succ_eq_append_getElem h,jF,mrg.getE os k h];rfl
theorem zMh(b t:Nat)(s:TS)(v:TV)(c:Nat)(q:Option Addr)(w:World)(h:TM w b t s v) :
  Calls Tryz.prog 104 #[.pointer (some ⟨t,0,none⟩),.slice q 0 c] w (Res tB b t w (.ok s)):=by
 have HR:Hid (Res tB b t w (.ok s) (.returned .nilIface) w):=⟨Tn.refl _ _ _,rfl,v,h⟩
 clear h
 go_enter Tryz.func104,Tryz.ntmps104
 go_wp2_with fail
 go_ret
 exact HR.out
theorem zMi(b t:Nat)(s:TS)(v:TV)(q:Option Addr)(n c:Nat)(ts:List T)(w:World)(h:TM w b t s v)(hw:Wf s)(hT:OwnT w 0 (.slice q n c) ts)(hn:0<ts.length)(hl:ts.length≤1000000)(hp:prB (ts[ts.length - 1]!).price=true)(hr:s.row.length≤900000)(x0:TS)(hX:x0 = { s with last:=(ts[ts.length - 1]!).price,ws:=wak.left (ts[ts.length - 1]!).price s.ws,row:=s.row++(wak.woke (ts[ts.length - 1]!).price s.ws).map (⟨·,(ts[ts.length - 1]!).price⟩) }) :
  Calls Tryz.prog 104 #[.pointer (some ⟨t,0,none⟩),.slice q n c] w (Res tB b t w (.ok x0)):=by
 have hnn:n=ts.length:=by obtain⟨q',c',e⟩:=wak.OwnM.form hT;cases e;rfl
 obtain⟨m,hm⟩:∃m,ts.length=m+1:=⟨ts.length - 1,by omega⟩
 have hm1:ts.length - 1=m:=by omega
 rw[hm1] at hp hX
 obtain⟨g,off,rfl,hG,x0',x1,x2,x3,x4,x5⟩:=mee.OwnT.at hT (k:=m) (by omega)
 clear x0' x1 x2 x3 x5
 generalize (ts[m]!).price=p at *
 have hnm:n=m+1:=by omega
 subst hnm
 have hw1:wrap64 (m:Int)=(m:Int):=by unfold wrap64;omega
 have hmI2:(m:Int)<(m:Int)+1:=by omega
 have hm0:¬(m:Int)<0:=by omega
 have hmI:(m:Int)<((m+1:Nat):Int):=by omega
 have hn0:¬((m+1:Nat):Int)=0:=by omega
 obtain⟨hM1,hT1⟩:=h.lastP p
 obtain⟨-,-,-,-,-,y5,-,-,yf⟩:=h.cells
 have yf5:=yf 5
 have HL20:=hidF hw.ws
 have HWM:Hid (∀U,Below (w.setCell ⟨t,5,none⟩ (.int .i64 p)).heap.size (w.setCell ⟨t,5,none⟩ (.int .i64 p)) U→Calls Tryz.prog 129 #[.pointer (some ⟨v.sp,0,none⟩),.int .i64 p] U fun e w'=>∃q2 m2 c2,e=.returned (.tuple #[.slice q2 m2 c2,.nilIface])∧Hid (m2=(wak.woke p s.ws).length∧WI b t { s with last:=p,ws:=wak.left p s.ws } p q2 m2 c2 (wak.woke p s.ws) w 0 w')):=fun U hU=>by
  have hMU:=hM1.below hU
  refine(wak.wake_any p b v.sp v.vw s.ws U hp hMU.stops HL20.out).mono ?_
  rintro e w'⟨q2,m2,c2,v2,rfl,k1,k2,k3,k4,-,-⟩
  obtain⟨k5,k6⟩:=hMU.wait k3 (zMg k4)
  refine⟨q2,m2,c2,rfl,?_⟩
  show _∧_
  exact⟨k1,⟨{ v with vw:=v2 },by simpa using k5⟩,((hT1.mono tA_tB).trans (Tn.below hU hM1.base)).trans k6,k2.mono (jL _)⟩
 have HWO:Hid ((wak.woke p s.ws).length≤20):=by show _≤_;have:=wak.zIa p s.ws;have:=hw.ws;omega
 obtain⟨i0,hi0,hz0,hz1,hz2⟩:=infoK'
 have HI:=hidF hi0
 have HX:=hidF hX
 have HR9:=hidF hr
 have HC1:=hidF (And.intro hM1.cells.2.2.2.1 hM1.cells.2.2.2.2.2.1)
 obtain⟨q1,n1,c1',q2',n2,c2',sp,vw,pp,qe,ne,ce,qk,nk,ck⟩:=v
 generalize wak.woke p s.ws=WO at *
 clear h hw hT hn hl hp hr hX hnn hm hm1 hi0 hM1 hT1 yf
 go_enter Tryz.func104,Tryz.ntmps104
 go_upto_region 4 with fail
 generalize w.setCell ⟨t,5,none⟩ (.int .i64 p)=W1 at *
 obtain⟨z3,z5⟩:=HC1.out
 have HRF:=hidF (bzR W1.heap.size W1)
 clear x4 hw1 hmI hmI2 hm0 hn0 y5 yf5 HC1 hG
 go_region_with (go_at_call 129;with_reducible refine(HWM.out _ ?_).mono ?_;(with_reducible repeat' (first|exact HRF.out|assumption|refine Below.drew ?_));rintro x w2 ⟨q2,m2,c2,rfl,HW2⟩)
 all_goals
  clear z3 z5 HWM HRF
  go_wp2_with fail
  go_loopg [8,42] m2 (fun gg _ s42 wr=>∃ (kk:Nat),kk≤m2∧m2 - kk≤gg∧s42=.int .i64 kk∧Aside (WI b t { s with last:=p,ws:=wak.left p s.ws } p q2 m2 c2 WO w kk wr))
  case atStart=>exact⟨0,jL _,by omega,rfl,HW2.out.2⟩
  case round=>
   obtain⟨kk,hkk,hg,rfl,HA⟩:=hrel
   have HM2:=hidF HW2.out.1
   clear HW2
   by_cases hlt:kk<m2
   rotate_left
   ·have hltz:¬(kk:Int)<(m2:Int):=by omega
    obtain⟨⟨v1,hM⟩,hTn,-⟩:=HA.out
    have HR:Hid (Res tB b t w (.ok x0) (.returned .nilIface) wr):=by
     refine⟨hTn,rfl,v1,?_⟩
     rw[HX.out]
     have:=HM2.out
     rw[List.take_of_length_le (by omega)] at hM
     exact hM
    clear HA hM hTn
    go_wp2_with fail
    go_ret
    exact HR.out
   ·have hltz:(kk:Int)<(m2:Int):=by omega
    have hlz:kk<WO.length:=by rw[←HM2.out];exact hlt
    obtain⟨⟨v1,hM⟩,hTn,hO⟩:=HA.out
    obtain⟨gz,oz,rfl,hGz,e0,e1,e2,e3,e4,e5,e6,e7⟩:=zPj hO hlz
    have htk:=zOM (p:=p) hlz
    rcases hxx:WO[kk]! with ⟨a1,a2,a3,a4,a5,a6,a7,a8⟩
    rw[hxx] at e0 e1 e2 e3 e4 e5 e6 e7 htk
    simp only[] at e0 e1 e2 e3 e4 e5 e6 e7
    obtain⟨W3,hW3⟩:∃W3,W3=wr.alloc (.cells #[.int .i64 a1,.int .i64 a2,.int .i64 a3,.int .i64 a4,.int .i64 a5,.int .i64 a6,.int .i64 a7,.int .i64 a8] 32):=⟨_,rfl⟩
    have hb3:Below wr.heap.size wr W3:=by rw[hW3];exact(bzR _ _).alloc (nzR _) _
    have hr3:W3.heap[wr.heap.size]?=some (.cells #[.int .i64 a1,.int .i64 a2,.int .i64 a3,.int .i64 a4,.int .i64 a5,.int .i64 a6,.int .i64 a7,.int .i64 a8] 32 (0,0)):=by rw[hW3];exact jA wr _
    obtain⟨Z,hZ⟩:∃Z,Z=wr.heap.size:=⟨_,rfl⟩
    rw[←hZ] at hr3
    have hM3:=hM.below hb3
    have HNB:Hid (v1.nk=s.row.length+kk∧b≤W3.heap.size):=by
     refine⟨?_,hM3.base⟩
     have:=hM.nk
     simp only[jE,jP,jJ] at this
     omega
    have HEI:=hidF (zOL kk (by have:=HM2.out;have:=HWO.out;omega))
    have HOK:Hid (OwnM W3 b 115 9 (.slice v1.qk v1.nk v1.ck) v1.nk (flatK (s.row++(WO.take kk).map (⟨·,p⟩)))):=by
     show OwnM _ _ _ _ _ _ _
     have h1:=hM3.row
     have h2:=hM3.nk
     rw[←h2] at h1
     exact h1
    have HPX:Hid (∀U w' v',Below W3.heap.size W3 U→OwnM w' b 115 9 v' (v1.nk+1) (flatK (s.row++(WO.take kk).map (⟨·,p⟩))++[.int .i64 a1,.int .i64 a2,.int .i64 a3,.int .i64 a4,.int .i64 a5,.int .i64 a6,.int .i64 a7,.int .i64 a8,.int .i64 p])→U.grownBy w' (Value.slice v1.qk v1.nk v1.ck).ownBlock→∃q' n' c',v'=.slice q' n' c'∧(w'.cell? ⟨t,7,none⟩=some (.slice v1.qk v1.nk v1.ck)∧w'.frozen? ⟨t,7,none⟩=false)∧Hid (WI b t { s with last:=p,ws:=wak.left p s.ws } p (some ⟨gz,oz,none⟩) m2 c2 WO w (kk+1) (w'.setCell ⟨t,7,none⟩ (.slice q' n' c')))):=fun U w' v' hU ho hgr=>by
     obtain⟨q',c',rfl⟩:=wak.OwnM.form ho
     have hMU:=hM3.below hU
     obtain⟨-,-,-,-,-,-,-,y7,yf⟩:=wak.row8 (hMU.skrow hgr)
     have el:v1.nk+1=(s.row++(WO.take (kk+1)).map (Sl.mk · p)).length:=by
      rw[htk,HNB.out.1];simp only[jE,jP,jJ,jG,List.length_nil];omega
     have ef:flatK (s.row++(WO.take kk).map (⟨·,p⟩))++[.int .i64 a1,.int .i64 a2,.int .i64 a3,.int .i64 a4,.int .i64 a5,.int .i64 a6,.int .i64 a7,.int .i64 a8,.int .i64 p]=flatK (s.row++(WO.take (kk+1)).map (Sl.mk · p)):=by
      rw[htk,←jS,zGw (s.row++_),zLx];rfl
     rw[ef] at ho
     have ho2:OwnM w' b 115 9 (.slice q' (v1.nk+1) c') (s.row++(WO.take (kk+1)).map (Sl.mk · p)).length (flatK (s.row++(WO.take (kk+1)).map (Sl.mk · p))):=by rw[←el];exact ho
     obtain⟨k1,k2,k3⟩:=hMU.rowed ho2 hgr
     refine⟨q',_,c',rfl,⟨y7,yf 7⟩,?_⟩
     show WI _ _ _ _ _ _ _ _ _ _ _
     have hwU:=hb3.trans (hU.mono hb3.size)
     exact⟨⟨_,k1⟩,(hTn.trans (Tn.below hwU hM.base)).trans k2,k3.own (hO.below hwU) (by decide)⟩
    have HM:Hid (kk<m2∧m2 - kk≤gk):=⟨hlt,hg⟩
    have HNK:Hid (v1.nk≤999999):=by show _≤_;have:=HNB.out.1;have:=HM2.out;have:=HWO.out;have:=HR9.out;omega
    have HC3:=hidF hM3.cells
    have HR3:=hidF hr3
    clear hM hTn hO hM3 hb3 hr3 HA hlt hg hkk hlz hxx htk
    go_upto_region 10 with fail
    rw[←hW3]
    simp only[←hZ]
    clear e0 e1 e2 e3 e4 e5 e6 e7 hW3 hZ hGz
    obtain⟨-,-,-,-,-,y5,-,y7,-⟩:=HC3.out
    obtain⟨z0,z1,z2,z3,z4,z5,z6,z7,-⟩:=wak.row8 HR3.out
    have hZ2:Z<W3.heap.size:=(gzE.1 HR3.out).1
    have ht2:t<W3.heap.size:=by rcases Nat.lt_or_ge t W3.heap.size with h|h;exact h;exact absurd y5 (by simp[World.cell?,Array.getElem?_eq_none h])
    have hbs:=HNB.out.2
    have hnk:=HNK.out
    have ei:=HEI.out
    obtain⟨r1,r2,r3,r4,r5,r6,r7,r8,r9,qe,ne,ce,qk,nk,ck⟩:=v1
    simp only[] at y5 y7 hnk HOK HPX
    clear HC3 HR3 HNB HNK
    generalize flatK (s.row++(WO.take kk).map (⟨·,p⟩))=FE at *
    go_region_law (refine step_append_mid _ rfl _ _ 83 rfl b 115 i0 zQq 9 72 Tryz.underlying83 HI.out hz0 hz1 hz2 rfl (.slice qk nk ck) nk FE rfl (wak.OwnM.below HOK.out (by(with_reducible repeat' (first|assumption|refine bal ?_ _|refine Below.drew ?_|exact bzR _ _)))) _ 1 1 [.int .i64 a1,.int .i64 a2,.int .i64 a3,.int .i64 a4,.int .i64 a5,.int .i64 a6,.int .i64 a7,.int .i64 a8,.int .i64 p] rfl rfl (World.news_of_block (cs:=#[.int .i64 a1,.int .i64 a2,.int .i64 a3,.int .i64 a4,.int .i64 a5,.int .i64 a6,.int .i64 a7,.int .i64 a8,.int .i64 p]) (jA _ _)) (by simp[Value.oneCell']) (by unfold maxLen;omega) (by omega) (jM hbs (Below.size (w:=W3) (B:=W3.heap.size) (by(with_reducible repeat' (first|assumption|refine bal ?_ _|refine Below.drew ?_|exact bzR _ _))))) ?_;intro v' w' hO' hgr hat;obtain⟨q',n',c',rfl,⟨hS2,hS3⟩,hPX⟩:=HPX.out _ _ _ (by(with_reducible repeat' (first|assumption|refine bal ?_ _|refine Below.drew ?_|exact bzR _ _))) hO' hgr)
    all_goals
     clear HPX HOK z0 z1 z2 z3 z4 z5 z6 z7 y5 y7 hO' hgr
     go_wp2_with fail
     go_roundg (m2 - (kk+1))
     case measure=>have:=HM.out;omega
     case rel=>exact⟨kk+1,HM.out.1,nzR _,by go_num,hPX.out⟩
theorem wake_any(b t:Nat)(s:TS)(v:TV)(q:Option Addr)(n c:Nat)(ts:List T)(w:World)(h:TM w b t s v)(hw:Wf s)(hT:OwnT w 0 (.slice q n c) ts)(hl:ts.length≤1000000)(hp:∀x∈ts,prB x.price=true)(hr:s.row.length≤900000) :
  Calls Tryz.prog 104 #[.pointer (some ⟨t,0,none⟩),.slice q n c] w (Res tB b t w (zGx s ts)):=by
 have hnn:n=ts.length:=by obtain⟨q',c',e⟩:=wak.OwnM.form hT;cases e;rfl
 unfold zGx
 by_cases h0:ts=[]
 ·rw[if_pos h0]
  subst h0
  subst hnn
  exact zMh b t s v c q w h
 ·rw[if_neg h0]
  have hpos:0<ts.length:=List.length_pos_iff.2 h0
  have hpp:prB (ts[ts.length - 1]!).price=true:=by
   rw[mrg.getE ts (ts.length - 1) (by omega)]
   exact hp _ (jT _)
  rw[if_pos hpp]
  exact zMi b t s v q n c ts w h hw hT hpos hl hpp hr _ rfl
end flr
end Go.Proofs.YtifjhlgjgnnnpaaGreat
