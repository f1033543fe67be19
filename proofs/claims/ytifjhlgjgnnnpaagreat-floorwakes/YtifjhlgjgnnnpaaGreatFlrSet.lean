import Derived.Test.YtifjhlgjgnnnpaaGreatFlrFb
import Derived.Test.YtifjhlgjgnnnpaaGreatFlrFil
set_option maxHeartbeats 8000000
set_option maxRecDepth 100000
namespace Go.Proofs.YtifjhlgjgnnnpaaGreat
namespace flr
open Go.RowKit
open que (R rchk)
open sid (L DL LS)
open mee (T tV OwnT sumT)
open ord (O oV chk errV errV_zero errV_of prB)
open que (bal)
open pur (Pz Pu Ok flatP pL)
open wak (OwnM OwnQ St SL Lies oL idx Trn)
def FrPost(f:FS)(v:FV)(w:World)(e:Ending)(w' : World):Prop:=
 ∃sp vw pp,e=.returned (.agg #[.int .i64 f.mode,.slice v.q1 v.n1 v.c1,.slice v.q2 v.n2 v.c2,.pointer (some ⟨sp,0,none⟩),.pointer (some ⟨pp,0,none⟩),.int .i64 f.last])∧St w' w.heap.size sp vw f.ws∧Pu 110 9 w' pp f.ps∧w.heap.size≤pp∧Below w.heap.size w w'
theorem zIc(F:Nat)(f:FS)(v:FV)(w:World)(h:FM w F f v)(hl:f.ws.length≤20) :
  Calls Tryz.prog 27 #[.pointer (some ⟨F,0,none⟩)] w fun e w'=>FrPost f v w e w':=by
 obtain⟨W,hW⟩:∃W,W=w.alloc (.cells #[.int .i64 0,.slice none 0 0,.slice none 0 0,.pointer none,.pointer none,.int .i64 0] 81):=⟨_,rfl⟩
 have hBW:Below w.heap.size w W:=by rw[hW];exact(bzR _ _).alloc (nzR _) _
 have hrow:W.heap[w.heap.size]?=some (.cells #[.int .i64 0,.slice none 0 0,.slice none 0 0,.pointer none,.pointer none,.int .i64 0] 81 (0,0)):=by rw[hW];exact heap_alloc_new w _
 obtain⟨G,hG⟩:∃G,G=w.heap.size:=⟨_,rfl⟩
 rw[←hG] at hrow
 have HSF:Hid (∀U,Below W.heap.size W U→Calls Tryz.prog 47 #[.pointer (some ⟨v.sp,0,none⟩)] U fun e w'=>∃p' v',e=.returned (.pointer (some ⟨p',0,none⟩))∧Hid (St w' w.heap.size p' v' f.ws)∧Below W.heap.size W w'∧Hid (Below U.heap.size U w')):=fun U hU=>by
  have hwU:=hBW.trans (hU.mono hBW.size)
  refine(zIa 0 v.sp v.vw f.ws U (h.below hwU).stops (by omega)).mono ?_
  rintro e w'⟨p',v',rfl,k1,k2⟩
  exact⟨p',v',rfl,zDY k1 hwU.size,hU.trans (k2.mono hU.size),k2⟩
 have HPF:Hid (∀U,Below W.heap.size W U→Calls Tryz.prog 48 #[.pointer (some ⟨v.pp,0,none⟩)] U fun e w'=>∃pp',e=.returned (.pointer (some ⟨pp',0,none⟩))∧Hid (w.heap.size≤pp'∧Pu 110 9 w' pp' f.ps)∧Below W.heap.size W w'∧Hid (Below U.heap.size U w')):=fun U hU=>by
  have hwU:=hBW.trans (hU.mono hBW.size)
  refine(zIb v.pp f.ps U (h.below hwU).purs).mono ?_
  rintro e w'⟨rfl,k1,k2⟩
  exact⟨_,rfl,⟨hwU.size,k1⟩,hU.trans (k2.mono hU.size),k2⟩
 have SO:Hid (∀U,Below w.heap.size w U→U.cell? ⟨F,0,none⟩=some (.int .i64 f.mode)∧U.cell? ⟨F,1,none⟩=some (.slice v.q1 v.n1 v.c1)∧U.cell? ⟨F,2,none⟩=some (.slice v.q2 v.n2 v.c2)∧U.cell? ⟨F,3,none⟩=some (.pointer (some ⟨v.sp,0,none⟩))∧U.cell? ⟨F,4,none⟩=some (.pointer (some ⟨v.pp,0,none⟩))∧U.cell? ⟨F,5,none⟩=some (.int .i64 f.last)):=fun U hU=>by
  obtain⟨a,b,c,d,e,g,-⟩:=(h.below hU).cells
  exact⟨a,b,c,d,e,g⟩
 have HRG:=hidF hrow
 have HBW:=hidF hBW
 have HGS:=hidF hG
 have HRF:=hidF (bzR W.heap.size W)
 have HWW:Hid (∀U,Below W.heap.size W U→Below w.heap.size w U):=fun U hU=>hBW.trans (hU.mono hBW.size)
 have HGL:Hid (w.heap.size≤G):=by show _≤_;omega
 have HFIN:Hid (∀Z p' v' pp',St Z w.heap.size p' v' f.ws→(w.heap.size≤pp'∧Pu 110 9 Z pp' f.ps)→Below W.heap.size W Z→∀x0 x1 x2 x3 x4 x5,St ((((((Z.setCell ⟨G,0,none⟩ x0).setCell ⟨G,1,none⟩ x1).setCell ⟨G,2,none⟩ x2).setCell ⟨G,3,none⟩ x3).setCell ⟨G,4,none⟩ x4).setCell ⟨G,5,none⟩ x5) w.heap.size p' v' f.ws∧w.heap.size≤pp'∧Pu 110 9 ((((((Z.setCell ⟨G,0,none⟩ x0).setCell ⟨G,1,none⟩ x1).setCell ⟨G,2,none⟩ x2).setCell ⟨G,3,none⟩ x3).setCell ⟨G,4,none⟩ x4).setCell ⟨G,5,none⟩ x5) pp' f.ps∧Below w.heap.size w ((((((Z.setCell ⟨G,0,none⟩ x0).setCell ⟨G,1,none⟩ x1).setCell ⟨G,2,none⟩ x2).setCell ⟨G,3,none⟩ x3).setCell ⟨G,4,none⟩ x4).setCell ⟨G,5,none⟩ x5)∧((((((Z.setCell ⟨G,0,none⟩ x0).setCell ⟨G,1,none⟩ x1).setCell ⟨G,2,none⟩ x2).setCell ⟨G,3,none⟩ x3).setCell ⟨G,4,none⟩ x4).setCell ⟨G,5,none⟩ x5).heap[G]?=some (.cells #[x0,x1,x2,x3,x4,x5] 81 (0,0))):=fun Z p' v' pp' hs hp hb x0 x1 x2 x3 x4 x5=>by
  have hrZ:=keepF hrow hb
  have hg:=gr6 Z G x0 x1 x2 x3 x4 x5
  have hk:Kp [81] Z _:=Kp.grown hg hrZ (by simp)
  have hwZ:=hBW.trans (hb.mono hBW.size)
  exact⟨hk.st hs (by decide) (by decide),hp.1,hk.pu hp.2 (by decide),hwZ.grown hg hwZ.size (fun k hk=>by cases hk;omega),set6 hrZ _ _ _ _ _ _⟩
 obtain⟨q1,n1,c1,q2,n2,c2,sp,vw,pp⟩:=v
 simp only[] at SO HSF HPF
 unfold FrPost
 simp only[]
 generalize f.mode=M at *
 generalize f.last=LA at *
 clear h hl hBW hrow
 go_enter Tryz.func27,Tryz.ntmps27
 go_upto_region 1 with fail
 rw[←hW]
 simp only[←hG]
 clear hW hG
 have hS0:=SO.out W (HWW.out _ HRF.out)
 go_region_held3 (fun W=>W.cell? ⟨F,0,none⟩=some (.int .i64 M)∧W.cell? ⟨F,1,none⟩=some (.slice q1 n1 c1)∧W.cell? ⟨F,2,none⟩=some (.slice q2 n2 c2)∧W.cell? ⟨F,3,none⟩=some (.pointer (some ⟨sp,0,none⟩))∧W.cell? ⟨F,4,none⟩=some (.pointer (some ⟨pp,0,none⟩))∧W.cell? ⟨F,5,none⟩=some (.int .i64 LA))
  (first|with_reducible assumption|(refine SO.out _ ?_;(repeat' (first|with_reducible assumption|with_reducible refine Below.setCell ?_ ?_ _|with_reducible refine Below.drew ?_|with_reducible exact HGL.out|(refine HWW.out _ ?_;(first|with_reducible exact HRF.out|with_reducible assumption))));done))
  (first|(go_at_call 47;with_reducible refine(HSF.out _ ?_).mono ?_;(with_reducible repeat' (first|exact HRF.out|assumption|refine Below.drew ?_));rintro x wS ⟨spN,vwN,rfl,HST,hbS,HBS⟩;obtain⟨g0,g1,g2,g3,g4,g5,gf⟩:=rowSix (keepF HRG.out hbS);have gf0:=gf 0;have gf1:=gf 1;have gf2:=gf 2;have gf3:=gf 3;have gf4:=gf 4;have gf5:=gf 5;clear gf;have hSW:=SO.out _ (HWW.out _ hbS))|(go_at_call 48;with_reducible refine(HPF.out _ ?_).mono ?_;(with_reducible repeat' (first|exact HRF.out|assumption|refine Below.drew ?_));rintro x wP ⟨ppN,rfl,HPU,hbP,HBP⟩;obtain⟨g0,g1,g2,g3,g4,g5,gf⟩:=rowSix (keepF HRG.out hbP);have gf0:=gf 0;have gf1:=gf 1;have gf2:=gf 2;have gf3:=gf 3;have gf4:=gf 4;have gf5:=gf 5;clear gf;have hSP:=SO.out _ (HWW.out _ hbP)))
 have hbs:Below wS.heap.size wS wP:=HBP.out
 obtain⟨f1,f2,f3,f4,f5⟩:=HFIN.out wP spN vwN ppN (HST.out.below hbs) HPU.out hbP (.int .i64 M) (.slice q1 n1 c1) (.slice q2 n2 c2) (.pointer (some ⟨spN,0,none⟩)) (.pointer (some ⟨ppN,0,none⟩)) (.int .i64 LA)
 clear hbs hbP hbS HST HBS HPU HBP hSW hSP hS0 g0 g1 g2 g3 g4 g5 gf0 gf1 gf2 gf3 gf4 gf5 SO HSF HPF HFIN
 generalize (((((wP.setCell ⟨G,0,none⟩ (.int .i64 M)).setCell ⟨G,1,none⟩ (.slice q1 n1 c1)).setCell ⟨G,2,none⟩ (.slice q2 n2 c2)).setCell ⟨G,3,none⟩ (.pointer (some ⟨spN,0,none⟩))).setCell ⟨G,4,none⟩ (.pointer (some ⟨ppN,0,none⟩))).setCell ⟨G,5,none⟩ (.int .i64 LA)=Y at *
 obtain⟨y0,y1,y2,y3,y4,y5,-⟩:=rowSix f5
 go_wp2_with fail
 exact bodyPost_ret (v:=.agg #[.int .i64 M,.slice q1 n1 c1,.slice q2 n2 c2,.pointer (some ⟨spN,0,none⟩),.pointer (some ⟨ppN,0,none⟩),.int .i64 LA]) (by simp[results,Tryz.results27,go_sem,y0,y1,y2,y3,y4,y5]) rfl ⟨spN,vwN,ppN,rfl,f1,f3,f2,f4⟩
end flr
namespace flr
open Go.RowKit
open que (R rchk)
open sid (L DL LS)
open mee (T tV OwnT sumT)
open ord (O oV chk errV errV_zero errV_of)
open que (bal)
open wak (OwnM St SL Lies oL idx Trn)
theorem zId(ts:List T)(k:Nat)(hk:k<ts.length):sumT (ts.take (k+1))=sumT (ts.take k)+ts[k]!.qty:=mrg.zKn ts k hk
theorem zFS(ts:List T)(h:∀x∈ts,1≤x.qty):0≤sumT ts:=by
 induction ts with
 | nil=>exact Int.le_refl _
 | cons x t ih=>
  have:=h x (by simp)
  have:=ih (fun y hy=>h y (by simp[hy]))
  simp only[sumT];omega
theorem zKs(ts:List T)(k:Nat)(h:∀x∈ts,1≤x.qty):0≤sumT (ts.take k)∧sumT (ts.take k)≤sumT ts:=by
 refine⟨zFS _ fun x hx=>h x (List.mem_of_mem_take hx),?_⟩
 have h1:sumT (ts.take k++ts.drop k)=sumT (ts.take k)+sumT (ts.drop k):=mee.zBA _ _
 rw[List.take_append_drop] at h1
 have:=zFS (ts.drop k) fun x hx=>h x (List.mem_of_mem_drop hx)
 omega
theorem zKt{o:O}{v:Vs}(h:VO o v):wrap64 (o.qty - v.gone)=o.qty - v.gone - sumT (v.ts.take 0)∧(∀k,k<v.ts.length→wrap64 (o.qty - v.gone - sumT (v.ts.take k) - v.ts[k]!.qty)=o.qty - v.gone - sumT (v.ts.take (k+1)))∧o.qty - v.gone - sumT (v.ts.take v.ts.length)=restOf o v:=by
 have hq:=(mrg.zAA h.ck).2.2
 have g0:=h.g0
 have g1:=h.g1
 have h1:∀x∈v.ts,1≤x.qty:=fun x hx=>(h.each x hx).1
 have h2:=zFS v.ts h1
 refine⟨?_,fun k hk=>?_,?_⟩
 ·rw[List.take_zero];show _=_ - _ - 0;unfold wrap64;omega
 ·have h3:=zKs v.ts (k+1) h1
  rw[zId _ _ hk] at h3 ⊢
  unfold wrap64;omega
 ·rw[List.take_length];rfl
theorem zEY{b t:Nat}{s:TS}{v:TV}{w0 w:World}(what id qty price:Int)(h:TM w b t s v)(h0:Tn tA b w0 w)(hl:s.evs.length≤1000000) :
  Calls Tryz.prog 54 #[.pointer (some ⟨t,0,none⟩),.int .i64 what,.int .i64 id,.int .i64 qty,.int .i64 price] w fun e w'=>e=.returned (.tuple #[])∧Hid (∃v',TM w' b t (tell s what id qty price) v')∧Hid (Tn tA b w w')∧Hid (Tn tA b w0 w'):=by
 refine(zDW b t s v what id qty price w h hl).mono ?_
 rintro e w'⟨rfl,h1,h2⟩
 exact⟨rfl,h1,h2,h0.trans h2⟩
theorem zEZ(b t:Nat)(s:TS)(v:TV)(a1 a2 a3 a4 a5 a6 a7 a8:Int)(q1 q2 qt qi:Option Addr)(n1 c1 n2 c2 nt ct ni ci:Nat)(g:Int)(vs:Vs)(w:World)(h:TM w b t s v)(hO:OwnT w 0 (.slice qt nt ct) vs.ts)(hg:g=vs.gone)(hv:VO ⟨a1,a2,a3,a4,a5,a6,a7,a8⟩ vs)(hl:s.evs.length≤999000) :
  Calls Tryz.prog 103 #[.pointer (some ⟨t,0,none⟩),.agg #[.int .i64 a1,.int .i64 a2,.int .i64 a3,.int .i64 a4,.int .i64 a5,.int .i64 a6,.int .i64 a7,.int .i64 a8],.agg #[.slice q1 n1 c1,.slice q2 n2 c2,.slice qt nt ct,.int .i64 g,.slice qi ni ci]] w fun e w'=>e=.returned (.tuple #[])∧(∃v',TM w' b t (tellLeft s ⟨a1,a2,a3,a4,a5,a6,a7,a8⟩ vs) v')∧Tn tA b w w':=by
 have hn:nt=vs.ts.length:=by obtain⟨q',c',e⟩:=wak.OwnM.form hO;cases e;rfl
 obtain⟨W1,hW1⟩:∃W,W=w.alloc (.cells #[.int .i64 a1,.int .i64 a2,.int .i64 a3,.int .i64 a4,.int .i64 a5,.int .i64 a6,.int .i64 a7,.int .i64 a8] 32):=⟨_,rfl⟩
 have hb1:Below w.heap.size w W1:=by rw[hW1];exact(bzR _ _).alloc (nzR _) _
 have hs1:W1.heap.size=w.heap.size+1:=by rw[hW1];simp
 have hr1:W1.heap[w.heap.size]?=some (.cells #[.int .i64 a1,.int .i64 a2,.int .i64 a3,.int .i64 a4,.int .i64 a5,.int .i64 a6,.int .i64 a7,.int .i64 a8] 32 (0,0)):=by rw[hW1];exact heap_alloc_new w _
 obtain⟨W,hW⟩:∃W,W=W1.alloc (.cells #[.slice q1 n1 c1,.slice q2 n2 c2,.slice qt nt ct,.int .i64 g,.slice qi ni ci] 132):=⟨_,rfl⟩
 have hb2:Below W1.heap.size W1 W:=by rw[hW];exact(bzR _ _).alloc (nzR _) _
 have hr2:W.heap[w.heap.size+1]?=some (.cells #[.slice q1 n1 c1,.slice q2 n2 c2,.slice qt nt ct,.int .i64 g,.slice qi ni ci] 132 (0,0)):=by rw[←hs1,hW];exact heap_alloc_new W1 _
 have hBW:=hb1.trans (hb2.mono hb1.size)
 obtain⟨G,hG⟩:∃G,G=w.heap.size:=⟨_,rfl⟩
 have hrG:W.heap[G]?=some (.cells #[.int .i64 a1,.int .i64 a2,.int .i64 a3,.int .i64 a4,.int .i64 a5,.int .i64 a6,.int .i64 a7,.int .i64 a8] 32 (0,0)):=by rw[hG];exact keepF hr1 hb2
 rw[←hG] at hr2
 have HM0:=hidF (h.below hBW)
 have HT0:=hidF (Tn.below (S:=tA) hBW h.base)
 have HO0:Hid (OwnT W 0 (.slice qt nt ct) vs.ts):=Kp.ownQ (S:=[]) (Kp.below hBW) hO (by simp)
 obtain⟨hA,hB,hC⟩:=zKt hv
 obtain⟨F,hF⟩:∃F:Nat→Int,∀k,a6 - vs.gone - sumT (vs.ts.take k)=F k:=⟨_,fun _=>rfl⟩
 simp only[hF] at hA hB hC
 rw[←hg] at hA
 have HA:=hidF hA
 have HB:=hidF hB
 have HC:=hidF hC
 have HL:=hidF hl
 have HN:=hidF hn
 have HN4:Hid (nt≤1000000):=by show _≤_;rw[hn];have:=hv.len;omega
 have HRG:=hidF hrG
 have HRV:=hidF hr2
 have HGV:=hidF hg
 obtain⟨c0,c1',c2',c3,c4,c5,c6,c7,-⟩:=wak.row8 hrG
 obtain⟨v0,v1,v2,v3,v4,-⟩:=sid.rowFive hr2
 have HFIN:Hid (∀S1 w',(S1=tellLeft s ⟨a1,a2,a3,a4,a5,a6,a7,a8⟩ vs)→(∃v',TM w' b t S1 v')→Tn tA b w w'→(∃v',TM w' b t (tellLeft s ⟨a1,a2,a3,a4,a5,a6,a7,a8⟩ vs) v')∧Tn tA b w w'):=fun S1 w' e h1 h2=>by subst e;exact⟨h1,h2⟩
 clear h hO hv hl hrG hr1 hr2 hb1 hb2 hs1 hBW hA hB hC hn hF hg
 by_cases hg0:0<g
 case' pos=>
  have HTL:=hidF (zEY (w0:=w) 3 a1 g a5 HM0.out HT0.out (by have:=HL.out;omega))
  have HS:Hid (tell s 3 a1 g a5=tellGone s ⟨a1,a2,a3,a4,a5,a6,a7,a8⟩ vs):=by show _=_;unfold tellGone;rw[←HGV.out,if_pos hg0]
  go_enter Tryz.func103,Tryz.ntmps103
  go_upto_region 1 with fail
  rw[←hW1,←hW]
  simp only[←hG]
  clear hW hW1 hG
  go_wp2_with fail
  refine HTL.out.mono ?_
  rintro e w1⟨rfl,HM1,HX1,HT1⟩
  have HRG1:=hidF (HX1.out.kp.typ _ _ _ HRG.out (by decide))
  have HRV1:=hidF (HX1.out.kp.typ _ _ _ HRV.out (by decide))
  have HO1:Hid (OwnT w1 0 (.slice qt nt ct) vs.ts):=HX1.out.kp.ownQ HO0.out (by decide)
  clear HX1 HTL c0 c1' c2' c3 c4 c5 c6 c7 v0 v1 v2 v3 v4 HRG HRV HO0 HM0 HT0
  have HLS:Hid ((tell s 3 a1 g a5).evs.length≤999999):=by show _≤_;have:=HL.out;simp only[tell,List.length_append,List.length_cons,List.length_nil];omega
  generalize tell s 3 a1 g a5=S1 at *
 case' neg=>
  have HS:Hid (s=tellGone s ⟨a1,a2,a3,a4,a5,a6,a7,a8⟩ vs):=by show _=_;unfold tellGone;rw[←HGV.out,if_neg hg0]
  have HM1:Hid (∃v',TM W b t s v'):=⟨_,HM0.out⟩
  have HLS:Hid (s.evs.length≤999999):=by show _≤_;have:=HL.out;omega
  have HT1:=HT0
  have HRG1:=HRG
  have HRV1:=HRV
  have HO1:=HO0
  go_enter Tryz.func103,Tryz.ntmps103
  go_upto_region 1 with fail
  rw[←hW1,←hW]
  simp only[←hG]
  clear hW hW1 hG HRG HRV HO0 HM0 HT0
  go_upto_region 3 with fail
  clear c0 c1' c2' c3 c4 c5 c6 c7 v0 v1 v2 v3 v4
  obtain⟨S1,hS1⟩:∃S1,S1=s:=⟨_,rfl⟩
  rw[←hS1] at HM1 HLS
  have HS:Hid (S1=tellGone s ⟨a1,a2,a3,a4,a5,a6,a7,a8⟩ vs):=by show _=_;rw[hS1];exact HS.out
  clear hS1
  generalize W=w1 at *
 all_goals
  obtain⟨c0,c1',c2',c3,c4,c5,c6,c7,-⟩:=wak.row8 HRG1.out
  obtain⟨v0,v1,v2,v3,v4,-⟩:=sid.rowFive HRV1.out
  go_wp2_with fail
  go_loopg [6,8,28] nt (fun gg s6 _ s28 wr=>∃ (kk:Nat),kk≤nt∧nt - kk≤gg∧s6=.int .i64 (F kk)∧s28=.int .i64 kk∧Aside (Below w1.heap.size w1 wr))
  case atStart=>exact⟨0,Nat.zero_le _,by omega,congrArg (Value.int IntKind.i64) HA.out,rfl,bzR _ _⟩
  case round=>
   obtain⟨kk,hkk,hgg,rfl,rfl,HB1⟩:=hrel
   clear c0 c1' c2' c3 c4 c5 c6 c7 v0 v1 v2 v3 v4
   by_cases hlt:kk<nt
   rotate_left
   ·have hltz:¬(kk:Int)<(nt:Int):=by omega
    have hkn:kk=nt:=by omega
    obtain⟨v1',hM1⟩:=HM1.out
    have HMr:=hidF (hM1.below HB1.out)
    have HTr:=hidF (HT1.out.trans (Tn.below HB1.out hM1.base))
    have HRGr:=hidF (keepF HRG1.out HB1.out)
    have HCC:Hid (F kk=restOf ⟨a1,a2,a3,a4,a5,a6,a7,a8⟩ vs):=by show _=_;rw[hkn,HN.out];exact HC.out
    clear hM1 hkn HRG1 HRV1 HO1 HM1 HT1 HA HB HC hkk hgg
    generalize F kk=fk at *
    obtain⟨c0,c1',c2',c3,c4,c5,c6,c7,-⟩:=wak.row8 HRGr.out
    by_cases hr0:0<fk
    ·have HTL2:=hidF (zEY (w0:=w) 1 a1 fk a5 HMr.out HTr.out (by have:=HLS.out;omega))
     go_wp2_with fail
     refine HTL2.out.mono ?_
     rintro e w2⟨rfl,HM2,-,HT2⟩
     clear c0 c1' c2' c3 c4 c5 c6 c7
     go_wp2_with fail
     go_end0
     exact⟨rfl,HFIN.out _ _ (by unfold tellLeft;rw[←HCC.out,if_pos (by omega),←HS.out]) HM2.out HT2.out⟩
    ·go_wp2_with fail
     go_end0
     exact⟨rfl,HFIN.out S1 _ (by unfold tellLeft;rw[←HCC.out,if_neg (by omega),←HS.out]) ⟨_,HMr.out⟩ HTr.out⟩
   ·have hltz:(kk:Int)<(nt:Int):=by omega
    have hlz:kk<vs.ts.length:=by rw[←HN.out];exact hlt
    have hOr:OwnT wr 0 (.slice qt nt ct) vs.ts:=Kp.ownQ (S:=[]) (Kp.below HB1.out) HO1.out (by simp)
    obtain⟨gz,off,rfl,hG',x0,x1,x2,x3,x4,x5⟩:=mee.OwnT.at hOr hlz
    have HSUB:=hidF (HB.out kk hlz)
    rcases hxx:vs.ts[kk]! with ⟨t1,t2,t3,t4,t5,t6⟩
    rw[hxx] at x0 x1 x2 x3 x4 x5 HSUB
    simp only[] at x0 x1 x2 x3 x4 x5 HSUB
    have HEI:=hidF (stepI kk (by have:=HN4.out;omega))
    have HBN:=hidF (HB1.out.alloc HB1.out.size (.cells #[.int .i64 t1,.int .i64 t2,.int .i64 t3,.int .i64 t4,.int .i64 t5,.int .i64 t6] 40))
    have HM:Hid (kk<nt∧nt - kk≤gk):=⟨hlt,hgg⟩
    clear hOr hlz hxx hlt hgg hkk HRG1 HRV1 HO1 HM1 HT1 HA HB HC HB1
    have ei:=HEI.out
    go_wp2_with fail
    go_roundg (nt - (kk+1))
    case measure=>have:=HM.out;omega
    case rel=>exact⟨kk+1,HM.out.1,nzR _,(congrArg (Value.int IntKind.i64) HSUB.out),by go_num,HBN.out⟩
end flr
namespace flr
open Go.RowKit
open que (R rchk)
open sid (L DL LS)
open mee (T tV OwnT sumT)
open ord (O oV chk errV errV_zero errV_of prB)
open que (bal)
open wak (OwnM OwnQ St SL Lies oL idx Trn step_append_mid)
theorem ord_at{w:World}{base:Nat}{q:Option Addr}{n c:Nat}{zs:List O}(h:OwnQ w base (.slice q n c) zs){k:Nat}(hk:k<zs.length):∃g off,q=some ⟨g,off,none⟩∧g<w.heap.size∧w.cell? ⟨g,off+k*8,none⟩=some (.int .i64 zs[k]!.id)∧w.cell? ⟨g,off+k*8+1,none⟩=some (.int .i64 zs[k]!.who)∧w.cell? ⟨g,off+k*8+2,none⟩=some (.int .i64 zs[k]!.side)∧w.cell? ⟨g,off+k*8+3,none⟩=some (.int .i64 zs[k]!.kind)∧w.cell? ⟨g,off+k*8+4,none⟩=some (.int .i64 zs[k]!.price)∧w.cell? ⟨g,off+k*8+5,none⟩=some (.int .i64 zs[k]!.qty)∧w.cell? ⟨g,off+k*8+6,none⟩=some (.int .i64 zs[k]!.shw)∧w.cell? ⟨g,off+k*8+7,none⟩=some (.int .i64 zs[k]!.stop):=by
 rcases h.sl with ⟨_,rfl⟩|⟨g,off,c',e,-,-,hg,hl⟩
 ·exact absurd hk (Nat.not_lt_zero _)
 ·cases e
  exact⟨g,off,rfl,hg,hl k hk 0 _ rfl,hl k hk 1 _ rfl,hl k hk 2 _ rfl,hl k hk 3 _ rfl,hl k hk 4 _ rfl,hl k hk 5 _ rfl,hl k hk 6 _ rfl,hl k hk 7 _ rfl⟩
theorem TM.skrow{w w' : World}{b t:Nat}{s:TS}{v:TV}(h:TM w b t s v)(hg:w.grownBy w' (Value.slice v.qk v.nk v.ck).ownBlock):w'.heap[t]?=some (.cells (rowT s v) 85 (0,0)):=by
 rcases h.row.2 with ⟨h1,_⟩|⟨g,off,cap,cur,h1,h2,h3,_⟩
 ·rw[h1] at hg
  exact(hg.block t h.lt (by simp[Value.ownBlock])).trans h.blk
 ·rw[h1] at hg
  have hg' : w.grownBy w' (some g):=hg
  exact(Kp.grown (S:=[115]) hg' h3 (by simp)).typ _ _ _ h.blk (by decide)
theorem TM.rowed{w w' : World}{b t:Nat}{s:TS}{v:TV}(h:TM w b t s v){q:Option Addr}{n c:Nat}{row:List Sl}(ho:OwnM w' b 115 9 (.slice q n c) row.length (flatK row))(hg:w.grownBy w' (Value.slice v.qk v.nk v.ck).ownBlock) :
  TM (w'.setCell ⟨t,7,none⟩ (.slice q n c)) b t { s with row:=row } { v with qk:=q,nk:=n,ck:=c }∧Tn tB b w (w'.setCell ⟨t,7,none⟩ (.slice q n c))∧Kp [85,115] w (w'.setCell ⟨t,7,none⟩ (.slice q n c)):=by
 have hk:Kp [115] w w'∧∀k,k<b→w'.heap[k]?=w.heap[k]?:=by
  rcases h.row.2 with ⟨h1,_⟩|⟨g,off,cap,cur,h1,h2,h3,_⟩
  ·rw[h1] at hg
   have hB:Below w.heap.size w w':=⟨hg.os,hg.tape,hg.output,hg.size,fun k hk=>hg.block k hk (by simp[Value.ownBlock])⟩
   exact⟨Kp.below hB,fun k hk=>hB.block k (by have:=h.base;omega)⟩
  ·rw[h1] at hg
   have hg' : w.grownBy w' (some g):=hg
   exact⟨Kp.grown hg' h3 (by simp),fun k hk=>hg'.block k (by have:=h.base;omega) (fun e=>by cases e;omega)⟩
 have hb:=hk.1.typ _ _ _ h.blk (by decide)
 have hg2:=wak.gr_setCell w' t 7 (.slice q n c)
 have hk2:Kp [85] w' _:=Kp.grown hg2 hb (by simp)
 have hk3:Kp [85,115] w (w'.setCell ⟨t,7,none⟩ (.slice q n c)):=(hk.1.mono (by simp)).trans (hk2.mono (by simp))
 refine⟨⟨heap_setCell_same w' t 7 _ _ _ hb,h.le,hk3.dl h.buys (by decide) (by decide),hk3.dl h.sells (by decide) (by decide),hk3.st h.stops (by decide) (by decide),hk3.pu h.purs (by decide),h.ple,hk3.own h.evs (by decide),hk2.own ho (by decide)⟩,⟨hk3.mono (by decide),fun k hk'=>?_⟩,hk3⟩
 rw[hg2.block k (by have:=h.base;have:=hk.1.size;omega) (fun e=>by cases e;have:=h.le;omega)]
 exact hk.2 k hk'
theorem zKu{w w' : World}{p:Nat}{v:Value}(h:w.grownBy w' (some p)):Trn w w' p v:=⟨h.os,h.tape,h.output,h.size,fun k hk h1 _=>h.block k hk (fun e=>h1 (by cases e;rfl))⟩
structure WI (b t:Nat) (s:TS) (p:Int) (q:Option Addr) (n c:Nat) (os:List O) (w:World) (k:Nat) (wr:World):Prop where
 mem:∃v1,TM wr b t { s with row:=s.row++(os.take k).map (⟨·,p⟩) } v1
 tn:Tn tB b w wr
 own:OwnQ wr 0 (.slice q n c) os
theorem zNt{os:List O}{p:Int}{k:Nat}(h:k<os.length):(os.take (k+1)).map (Sl.mk · p)=(os.take k).map (Sl.mk · p)++[⟨os[k]!,p⟩]:=by
 rw[List.take_succ_eq_append_getElem h,List.map_append,mrg.getE os k h];rfl
theorem zKv(b t:Nat)(s:TS)(v:TV)(c:Nat)(q:Option Addr)(w:World)(h:TM w b t s v) :
  Calls Tryz.prog 104 #[.pointer (some ⟨t,0,none⟩),.slice q 0 c] w (Res tB b t w (.ok s)):=by
 have HR:Hid (Res tB b t w (.ok s) (.returned .nilIface) w):=⟨Tn.refl _ _ _,rfl,v,h⟩
 clear h
 go_enter Tryz.func104,Tryz.ntmps104
 go_wp2_with fail
 go_ret
 exact HR.out
theorem zKw(b t:Nat)(s:TS)(v:TV)(q:Option Addr)(n c:Nat)(ts:List T)(w:World)(h:TM w b t s v)(hw:Wf s)(hT:OwnT w 0 (.slice q n c) ts)(hn:0<ts.length)(hl:ts.length≤1000000)(hp:prB (ts[ts.length - 1]!).price=true)(hr:s.row.length≤900000)(x0:TS)(hX:x0 = { s with last:=(ts[ts.length - 1]!).price,ws:=wak.left (ts[ts.length - 1]!).price s.ws,row:=s.row++(wak.woke (ts[ts.length - 1]!).price s.ws).map (⟨·,(ts[ts.length - 1]!).price⟩) }) :
  Calls Tryz.prog 104 #[.pointer (some ⟨t,0,none⟩),.slice q n c] w (Res tB b t w (.ok x0)):=by
 have hnn:n=ts.length:=by obtain⟨q',c',e⟩:=wak.OwnM.form hT;cases e;rfl
 obtain⟨m,hm⟩:∃m,ts.length=m+1:=⟨ts.length - 1,by omega⟩
 have hm1:ts.length - 1=m:=by omega
 rw[hm1] at hp hX
 obtain⟨g,off,rfl,hG,x0',x1,x2,x3,x4,x5⟩:=mee.OwnT.at hT (k:=m) (by omega)
 clear x0' x1 x2 x3 x5
 generalize (ts[m]!).price=p at *
 have hnm:n=m+1:=by omega
 subst hnm
 have hw1:wrap64 (m:Int)=(m:Int):=by unfold wrap64;omega
 have hmI2:(m:Int)<(m:Int)+1:=by omega
 have hm0:¬(m:Int)<0:=by omega
 have hmI:(m:Int)<((m+1:Nat):Int):=by omega
 have hn0:¬((m+1:Nat):Int)=0:=by omega
 obtain⟨hM1,hT1⟩:=h.lastP p
 obtain⟨-,-,-,-,-,y5,-,-,yf⟩:=h.cells
 have yf5:=yf 5
 have HL20:=hidF hw.ws
 have HWM:Hid (∀U,Below (w.setCell ⟨t,5,none⟩ (.int .i64 p)).heap.size (w.setCell ⟨t,5,none⟩ (.int .i64 p)) U→Calls Tryz.prog 129 #[.pointer (some ⟨v.sp,0,none⟩),.int .i64 p] U fun e w'=>∃q2 m2 c2,e=.returned (.tuple #[.slice q2 m2 c2,.nilIface])∧Hid (m2=(wak.woke p s.ws).length∧WI b t { s with last:=p,ws:=wak.left p s.ws } p q2 m2 c2 (wak.woke p s.ws) w 0 w')):=fun U hU=>by
  have hMU:=hM1.below hU
  refine(wak.wake_any p b v.sp v.vw s.ws U hp hMU.stops HL20.out).mono ?_
  rintro e w'⟨q2,m2,c2,v2,rfl,k1,k2,k3,k4,-,-⟩
  obtain⟨k5,k6⟩:=hMU.wait k3 (zKu k4)
  refine⟨q2,m2,c2,rfl,?_⟩
  show _∧_
  exact⟨k1,⟨{ v with vw:=v2 },by simpa using k5⟩,((hT1.mono tA_tB).trans (Tn.below hU hM1.base)).trans k6,k2.mono (Nat.zero_le _)⟩
 have HWO:Hid ((wak.woke p s.ws).length≤20):=by show _≤_;have:=wak.zGE p s.ws;have:=hw.ws;omega
 obtain⟨i0,hi0,hz0,hz1,hz2⟩:=infoK'
 have HI:=hidF hi0
 have HX:=hidF hX
 have HR9:=hidF hr
 have HC1:=hidF (And.intro hM1.cells.2.2.2.1 hM1.cells.2.2.2.2.2.1)
 obtain⟨q1,n1,c1',q2',n2,c2',sp,vw,pp,qe,ne,ce,qk,nk,ck⟩:=v
 generalize wak.woke p s.ws=WO at *
 clear h hw hT hn hl hp hr hX hnn hm hm1 hi0 hM1 hT1 yf
 go_enter Tryz.func104,Tryz.ntmps104
 go_upto_region 4 with fail
 generalize w.setCell ⟨t,5,none⟩ (.int .i64 p)=W1 at *
 obtain⟨z3,z5⟩:=HC1.out
 have HRF:=hidF (bzR W1.heap.size W1)
 clear x4 hw1 hmI hmI2 hm0 hn0 y5 yf5 HC1 hG
 go_region_with (go_at_call 129;with_reducible refine(HWM.out _ ?_).mono ?_;(with_reducible repeat' (first|exact HRF.out|assumption|refine Below.drew ?_));rintro x w2 ⟨q2,m2,c2,rfl,HW2⟩)
 all_goals
  clear z3 z5 HWM HRF
  go_wp2_with fail
  go_loopg [8,42] m2 (fun gg _ s42 wr=>∃ (kk:Nat),kk≤m2∧m2 - kk≤gg∧s42=.int .i64 kk∧Aside (WI b t { s with last:=p,ws:=wak.left p s.ws } p q2 m2 c2 WO w kk wr))
  case atStart=>exact⟨0,Nat.zero_le _,by omega,rfl,HW2.out.2⟩
  case round=>
   obtain⟨kk,hkk,hg,rfl,HA⟩:=hrel
   have HM2:=hidF HW2.out.1
   clear HW2
   by_cases hlt:kk<m2
   rotate_left
   ·have hltz:¬(kk:Int)<(m2:Int):=by omega
    obtain⟨⟨v1,hM⟩,hTn,-⟩:=HA.out
    have HR:Hid (Res tB b t w (.ok x0) (.returned .nilIface) wr):=by
     refine⟨hTn,rfl,v1,?_⟩
     rw[HX.out]
     have:=HM2.out
     rw[List.take_of_length_le (by omega)] at hM
     exact hM
    clear HA hM hTn
    go_wp2_with fail
    go_ret
    exact HR.out
   ·have hltz:(kk:Int)<(m2:Int):=by omega
    have hlz:kk<WO.length:=by rw[←HM2.out];exact hlt
    obtain⟨⟨v1,hM⟩,hTn,hO⟩:=HA.out
    obtain⟨gz,oz,rfl,hGz,e0,e1,e2,e3,e4,e5,e6,e7⟩:=ord_at hO hlz
    have htk:=zNt (p:=p) hlz
    rcases hxx:WO[kk]! with ⟨a1,a2,a3,a4,a5,a6,a7,a8⟩
    rw[hxx] at e0 e1 e2 e3 e4 e5 e6 e7 htk
    simp only[] at e0 e1 e2 e3 e4 e5 e6 e7
    obtain⟨W3,hW3⟩:∃W3,W3=wr.alloc (.cells #[.int .i64 a1,.int .i64 a2,.int .i64 a3,.int .i64 a4,.int .i64 a5,.int .i64 a6,.int .i64 a7,.int .i64 a8] 32):=⟨_,rfl⟩
    have hb3:Below wr.heap.size wr W3:=by rw[hW3];exact(bzR _ _).alloc (nzR _) _
    have hr3:W3.heap[wr.heap.size]?=some (.cells #[.int .i64 a1,.int .i64 a2,.int .i64 a3,.int .i64 a4,.int .i64 a5,.int .i64 a6,.int .i64 a7,.int .i64 a8] 32 (0,0)):=by rw[hW3];exact heap_alloc_new wr _
    obtain⟨Z,hZ⟩:∃Z,Z=wr.heap.size:=⟨_,rfl⟩
    rw[←hZ] at hr3
    have hM3:=hM.below hb3
    have HNB:Hid (v1.nk=s.row.length+kk∧b≤W3.heap.size):=by
     refine⟨?_,hM3.base⟩
     have:=hM.nk
     simp only[List.length_append,List.length_map,List.length_take] at this
     omega
    have HEI:=hidF (stepI kk (by have:=HM2.out;have:=HWO.out;omega))
    have HOK:Hid (OwnM W3 b 115 9 (.slice v1.qk v1.nk v1.ck) v1.nk (flatK (s.row++(WO.take kk).map (⟨·,p⟩)))):=by
     show OwnM _ _ _ _ _ _ _
     have h1:=hM3.row
     have h2:=hM3.nk
     rw[←h2] at h1
     exact h1
    have HPX:Hid (∀U w' v',Below W3.heap.size W3 U→OwnM w' b 115 9 v' (v1.nk+1) (flatK (s.row++(WO.take kk).map (⟨·,p⟩))++[.int .i64 a1,.int .i64 a2,.int .i64 a3,.int .i64 a4,.int .i64 a5,.int .i64 a6,.int .i64 a7,.int .i64 a8,.int .i64 p])→U.grownBy w' (Value.slice v1.qk v1.nk v1.ck).ownBlock→∃q' n' c',v'=.slice q' n' c'∧(w'.cell? ⟨t,7,none⟩=some (.slice v1.qk v1.nk v1.ck)∧w'.frozen? ⟨t,7,none⟩=false)∧Hid (WI b t { s with last:=p,ws:=wak.left p s.ws } p (some ⟨gz,oz,none⟩) m2 c2 WO w (kk+1) (w'.setCell ⟨t,7,none⟩ (.slice q' n' c')))):=fun U w' v' hU ho hgr=>by
     obtain⟨q',c',rfl⟩:=wak.OwnM.form ho
     have hMU:=hM3.below hU
     obtain⟨-,-,-,-,-,-,-,y7,yf⟩:=wak.row8 (hMU.skrow hgr)
     have el:v1.nk+1=(s.row++(WO.take (kk+1)).map (Sl.mk · p)).length:=by
      rw[htk,HNB.out.1];simp only[List.length_append,List.length_map,List.length_take,List.length_cons,List.length_nil];omega
     have ef:flatK (s.row++(WO.take kk).map (⟨·,p⟩))++[.int .i64 a1,.int .i64 a2,.int .i64 a3,.int .i64 a4,.int .i64 a5,.int .i64 a6,.int .i64 a7,.int .i64 a8,.int .i64 p]=flatK (s.row++(WO.take (kk+1)).map (Sl.mk · p)):=by
      rw[htk,←List.append_assoc,zEU (s.row++_),zKl];rfl
     rw[ef] at ho
     have ho2:OwnM w' b 115 9 (.slice q' (v1.nk+1) c') (s.row++(WO.take (kk+1)).map (Sl.mk · p)).length (flatK (s.row++(WO.take (kk+1)).map (Sl.mk · p))):=by rw[←el];exact ho
     obtain⟨k1,k2,k3⟩:=hMU.rowed ho2 hgr
     refine⟨q',_,c',rfl,⟨y7,yf 7⟩,?_⟩
     show WI _ _ _ _ _ _ _ _ _ _ _
     have hwU:=hb3.trans (hU.mono hb3.size)
     exact⟨⟨_,k1⟩,(hTn.trans (Tn.below hwU hM.base)).trans k2,k3.own (hO.below hwU) (by decide)⟩
    have HM:Hid (kk<m2∧m2 - kk≤gk):=⟨hlt,hg⟩
    have HNK:Hid (v1.nk≤999999):=by show _≤_;have:=HNB.out.1;have:=HM2.out;have:=HWO.out;have:=HR9.out;omega
    have HC3:=hidF hM3.cells
    have HR3:=hidF hr3
    clear hM hTn hO hM3 hb3 hr3 HA hlt hg hkk hlz hxx htk
    go_upto_region 10 with fail
    rw[←hW3]
    simp only[←hZ]
    clear e0 e1 e2 e3 e4 e5 e6 e7 hW3 hZ hGz
    obtain⟨-,-,-,-,-,y5,-,y7,-⟩:=HC3.out
    obtain⟨z0,z1,z2,z3,z4,z5,z6,z7,-⟩:=wak.row8 HR3.out
    have hZ2:Z<W3.heap.size:=(gzE.1 HR3.out).1
    have ht2:t<W3.heap.size:=by rcases Nat.lt_or_ge t W3.heap.size with h|h;exact h;exact absurd y5 (by simp[World.cell?,Array.getElem?_eq_none h])
    have hbs:=HNB.out.2
    have hnk:=HNK.out
    have ei:=HEI.out
    obtain⟨r1,r2,r3,r4,r5,r6,r7,r8,r9,qe,ne,ce,qk,nk,ck⟩:=v1
    simp only[] at y5 y7 hnk HOK HPX
    clear HC3 HR3 HNB HNK
    generalize flatK (s.row++(WO.take kk).map (⟨·,p⟩))=FE at *
    go_region_law (refine step_append_mid _ rfl _ _ 83 rfl b 115 i0 zeroK 9 72 Tryz.underlying83 HI.out hz0 hz1 hz2 rfl (.slice qk nk ck) nk FE rfl (wak.OwnM.below HOK.out (by(with_reducible repeat' (first|assumption|refine bal ?_ _|refine Below.drew ?_|exact bzR _ _)))) _ 1 1 [.int .i64 a1,.int .i64 a2,.int .i64 a3,.int .i64 a4,.int .i64 a5,.int .i64 a6,.int .i64 a7,.int .i64 a8,.int .i64 p] rfl rfl (World.news_of_block (cs:=#[.int .i64 a1,.int .i64 a2,.int .i64 a3,.int .i64 a4,.int .i64 a5,.int .i64 a6,.int .i64 a7,.int .i64 a8,.int .i64 p]) (heap_alloc_new _ _)) (by simp[Value.oneCell']) (by unfold maxLen;omega) (by omega) (Nat.le_trans hbs (Below.size (w:=W3) (B:=W3.heap.size) (by(with_reducible repeat' (first|assumption|refine bal ?_ _|refine Below.drew ?_|exact bzR _ _))))) ?_;intro v' w' hO' hgr hat;obtain⟨q',n',c',rfl,⟨hS2,hS3⟩,hPX⟩:=HPX.out _ _ _ (by(with_reducible repeat' (first|assumption|refine bal ?_ _|refine Below.drew ?_|exact bzR _ _))) hO' hgr)
    all_goals
     clear HPX HOK z0 z1 z2 z3 z4 z5 z6 z7 y5 y7 hO' hgr
     go_wp2_with fail
     go_roundg (m2 - (kk+1))
     case measure=>have:=HM.out;omega
     case rel=>exact⟨kk+1,HM.out.1,nzR _,by go_num,hPX.out⟩
theorem wake_any(b t:Nat)(s:TS)(v:TV)(q:Option Addr)(n c:Nat)(ts:List T)(w:World)(h:TM w b t s v)(hw:Wf s)(hT:OwnT w 0 (.slice q n c) ts)(hl:ts.length≤1000000)(hp:∀x∈ts,prB x.price=true)(hr:s.row.length≤900000) :
  Calls Tryz.prog 104 #[.pointer (some ⟨t,0,none⟩),.slice q n c] w (Res tB b t w (wakeS s ts)):=by
 have hnn:n=ts.length:=by obtain⟨q',c',e⟩:=wak.OwnM.form hT;cases e;rfl
 unfold wakeS
 by_cases h0:ts=[]
 ·rw[if_pos h0]
  subst h0
  subst hnn
  exact zKv b t s v c q w h
 ·rw[if_neg h0]
  have hpos:0<ts.length:=List.length_pos_iff.2 h0
  have hpp:prB (ts[ts.length - 1]!).price=true:=by
   rw[mrg.getE ts (ts.length - 1) (by omega)]
   exact hp _ (List.getElem_mem _)
  rw[if_pos hpp]
  exact zKw b t s v q n c ts w h hw hT hpos hl hpp hr _ rfl
end flr
namespace flr
open Go.RowKit
open que (R rchk)
open sid (L DL LS allR)
open mee (T tV OwnT sumT otherL stepL)
open ord (O oV chk errV errV_zero errV_of prB)
open bok (bookE inBook)
open slf (V Fine)
structure Sm (s s1:TS) (k:Nat):Prop where
 mode:s1.mode=s.mode
 last:s1.last=s.last
 bs:s1.bs=s.bs
 ss:s1.ss=s.ss
 ws:s1.ws=s.ws
 row:s1.row=s.row
 evs:s1.evs.length=s.evs.length+k
theorem Sm.refl(s:TS):Sm s s 0:=⟨rfl,rfl,rfl,rfl,rfl,rfl,rfl⟩
theorem Sm.trans{a b c:TS}{i j:Nat}(h:Sm a b i)(k:Sm b c j):Sm a c (i+j):=
 ⟨k.mode.trans h.mode,k.last.trans h.last,k.bs.trans h.bs,k.ss.trans h.ss,k.ws.trans h.ws,k.row.trans h.row,by rw[k.evs,h.evs];omega⟩
theorem zAl{x:Rs}{f:TS→Rs}{s:TS}(h:x.bind f=.ok s):∃s1,x=.ok s1∧f s1=.ok s:=by
 cases x with
 | error k=>cases h
 | ok s1=>exact⟨s1,rfl,h⟩
theorem zFa{s s1:TS}{x:T}(h:Wf s)(e:trade1 s x=.ok s1):Wf s1∧Sm s s1 1:=by
 unfold trade1 at e
 split at e
 ·cases e;exact⟨⟨h.m0,h.m3,h.book,pur.zGH h.ok _ _ _ _,h.ws⟩,rfl,rfl,rfl,rfl,rfl,rfl,by simp⟩
 ·cases e
theorem zBQ:∀ (ts:List T) {s s1:TS},Wf s→trades s ts=.ok s1→Wf s1∧Sm s s1 ts.length
 | [],s,s1,h,e=>by cases e;exact⟨h,Sm.refl _⟩
 | x::t,s,s1,h,e=>by
  obtain⟨s2,e1,e2⟩:=zAl e
  obtain⟨h1,k1⟩:=zFa h e1
  obtain⟨h2,k2⟩:=zBQ t h1 e2
  refine⟨h2,?_⟩
  have:=k1.trans k2
  rw[Nat.add_comm] at this
  exact this
theorem zDZ{s s1:TS}{who c d:Int}(h:Wf s)(e:freeS s who c d=.ok s1):Wf s1∧Sm s s1 0:=by
 obtain⟨h1,rfl⟩:=free_ok h e
 exact⟨h1,rfl,rfl,rfl,rfl,rfl,rfl,rfl⟩
theorem zKx{s s1:TS}{who c d:Int}(h:Wf s)(e:holdS s who c d=.ok s1):Wf s1∧Sm s s1 0:=by
 obtain⟨h1,rfl⟩:=hold_ok h e
 exact⟨h1,rfl,rfl,rfl,rfl,rfl,rfl,rfl⟩
theorem zCi{s:TS}(h:Wf s)(a b c d:Int):Wf (tell s a b c d):=⟨h.m0,h.m3,h.book,h.ok,h.ws⟩
theorem zKy(s:TS)(a b c d:Int):Sm s (tell s a b c d) 1:=⟨rfl,rfl,rfl,rfl,rfl,rfl,by simp[tell]⟩
theorem zCA{s s1:TS}{r:R}{a p:Int}(h:Wf s)(e:freeR s r a p=.ok s1):Wf s1∧Sm s s1 0:=by
 obtain⟨h1,-,rfl⟩:=zDV h e
 exact⟨h1,rfl,rfl,rfl,rfl,rfl,rfl,rfl⟩
theorem zEa{s s1:TS}{r:R}{a p:Int}(h:Wf s)(e:part s r a p=.ok s1):Wf s1∧Sm s s1 1:=by
 obtain⟨s2,e1,e2⟩:=zAl e
 obtain⟨h1,k1⟩:=zCA h e1
 cases e2
 exact⟨zCi h1 _ _ _ _,k1.trans (zKy _ _ _ _ _)⟩
theorem zFb{s s1:TS}{id:Int}(h:Wf s)(e:partId s id=.ok s1):Wf s1∧Sm s s1 1:=by
 unfold partId at e
 split at e
 ·exact zEa h e
 ·cases e
theorem zEb:∀ (l:List Int) {s s1:TS},Wf s→parts s l=.ok s1→Wf s1∧Sm s s1 l.length
 | [],s,s1,h,e=>by cases e;exact⟨h,Sm.refl _⟩
 | x::t,s,s1,h,e=>by
  obtain⟨s2,e1,e2⟩:=zAl e
  obtain⟨h1,k1⟩:=zFb h e1
  obtain⟨h2,k2⟩:=zEb t h1 e2
  refine⟨h2,?_⟩
  have:=k1.trans k2
  rw[Nat.add_comm] at this
  exact this
theorem fil_ids{m:Int}{o:O}{ls:List L}{k:Int}{v:V}(h:Fil m o ls k v):(∀l∈ls,sid.lchk l=0)→0≤k→∀i∈v.ids,i∈(allR ls).map (·.id):=by
 induction h with
 | done=>exact fun _ _ i hi=>by cases hi
 | stop=>exact fun _ _ i hi=>by cases hi
 | taker=>exact fun _ _ i hi=>by cases hi
 | @maker p r rs t k v _ _ _ _ ih=>
  intro hl h0 i hi
  rcases List.mem_cons.1 hi with rfl|hi
  ·rw[sid.zAf];simp
  ·exact(slf.zBM hl).ids i (ih (slf.zAM hl) h0 i hi)
 | @both p r rs t k _ _ _=>
  intro hl h0 i hi
  rcases List.mem_cons.1 hi with rfl|hi
  ·rw[sid.zAf];simp
  ·cases hi
 | @fill p r rs t k v h0 hb _ _ ih=>
  intro hl _ i hi
  obtain⟨-,-,hq⟩:=sid.zAc (hl _ (List.mem_cons_self ..))
  have hr:=mee.zAG hq
  exact(zCV (o:=o) h0 hb hl).ids i (ih (mee.zAL h0 hl) (by omega) i hi)
theorem vis_ids{m:Int}{bs ss:List L}{o:O}(h0:0≤m)(h3:m≤3)(h:vE m bs ss o=0):∀i∈(vR m bs ss o).ids,inBook bs ss i=true:=by
 obtain⟨v,hv⟩:=zGK h0 h3 h
 obtain⟨hbk,hck,-⟩:=mee.zAp hv.come
 have hq:=(mrg.zAA hck).2.2.1
 intro i hi
 rw[hv.is] at hi
 have h1:=fil_ids hv.fil (other_good hv.come) (by omega) i hi
 have h2:i∈sid.ids (otherL bs ss o):=by rw[sid.zAE];exact h1
 unfold bok.inBook
 unfold mee.otherL at h2
 split at h2
 ·simp[h2]
 ·simp[h2]
end flr
namespace flr
open Go.RowKit
open que (R rchk)
open sid (L DL LS)
open mee (T tV OwnT sumT)
open ord (O oV chk errV errV_zero errV_of prB)
open que (bal)
open bok (bookE inBook)
open slf (OwnI flatI)
open mrg (backE backC backS)
open wak (OwnM OwnQ St SL Lies oL idx Trn)
structure MS (a1 a2 a3 a4 a5 a6 a7 a8:Int) (G:Nat) (q1:Option Addr) (n1 c1:Nat) (q2:Option Addr) (n2 c2:Nat) (qt:Option Addr) (nt ct:Nat) (g:Int) (qi:Option Addr) (ni ci:Nat) (vs:Vs) (w:World):Prop where
 ord:w.heap[G]?=some (.cells #[.int .i64 a1,.int .i64 a2,.int .i64 a3,.int .i64 a4,.int .i64 a5,.int .i64 a6,.int .i64 a7,.int .i64 a8] 32 (0,0))
 vis:w.heap[G+1]?=some (.cells #[.slice q1 n1 c1,.slice q2 n2 c2,.slice qt nt ct,.int .i64 g,.slice qi ni ci] 132 (0,0))
 d1:DL w 0 (.slice q1 n1 c1) vs.bs
 d2:DL w 0 (.slice q2 n2 c2) vs.ss
 tr:OwnT w 0 (.slice qt nt ct) vs.ts
 ids:OwnI w 0 (.slice qi ni ci) vs.ids
section
variable {a1 a2 a3 a4 a5 a6 a7 a8:Int}{G:Nat}{q1:Option Addr}{n1 c1:Nat}{q2:Option Addr}{n2 c2:Nat}{qt:Option Addr}{nt ct:Nat}{g:Int}{qi:Option Addr}{ni ci:Nat}{vs:Vs}{w w' : World}
theorem MS.kp(h:MS a1 a2 a3 a4 a5 a6 a7 a8 G q1 n1 c1 q2 n2 c2 qt nt ct g qi ni ci vs w)(hk:Kp tA w w'):MS a1 a2 a3 a4 a5 a6 a7 a8 G q1 n1 c1 q2 n2 c2 qt nt ct g qi ni ci vs w':=
 ⟨hk.typ _ _ _ h.ord (by decide),hk.typ _ _ _ h.vis (by decide),hk.dl h.d1 (by decide) (by decide),hk.dl h.d2 (by decide) (by decide),hk.ownQ h.tr (by decide),hk.ownQ h.ids (by decide)⟩
end
theorem id_at{w:World}{base:Nat}{q:Option Addr}{n c:Nat}{l:List Int}(h:OwnI w base (.slice q n c) l){k:Nat}(hk:k<l.length):∃g off,q=some ⟨g,off,none⟩∧g<w.heap.size∧w.cell? ⟨g,off+k,none⟩=some (.int .i64 l[k]!):=by
 have hn:n=l.length:=by obtain⟨q',c',e⟩:=wak.OwnM.form h;cases e;rfl
 subst hn
 rcases h.2 with ⟨e,hn⟩|⟨g,off,cap,cur,e,_⟩
 ·rw[hn] at hk;exact absurd hk (Nat.not_lt_zero _)
 ·cases e
  obtain⟨hc,-,-,hlt⟩:=wak.OwnM.cells h
  refine⟨g,off,rfl,hlt,hc k _ ?_⟩
  unfold slf.flatI
  simp[hk]
structure SI (b t:Nat) (s:TS) (ids:List Int) (K:TS→Rs) (w:World) (X:Rs) (ms:World→Prop) (k:Nat) (wr:World):Prop where
 mem:∃s1 v1,TM wr b t s1 v1∧Wf s1∧Sm s s1 k∧X=(parts s1 (ids.drop k)).bind K
 tn:Tn tA b w wr
 ms:ms wr
theorem zCW{s:TS}{o:O}{v:Vs}(h:Wf s):Wf (tellLeft s o v)∧(tellLeft s o v).row=s.row:=by
 have h1:Wf (tellGone s o v)∧(tellGone s o v).row=s.row:=by
  unfold tellGone;split
  ·exact⟨zCi h _ _ _ _,rfl⟩
  ·exact⟨h,rfl⟩
 unfold tellLeft;split
 ·exact⟨zCi h1.1 _ _ _ _,h1.2⟩
 ·exact h1
theorem zBC{S:List TypeId}{b t:Nat}{w w' : World}{x:Rs}{e:Ending}(h:Res S b t w x e w'):(∃s v,x=.ok s∧e=.returned .nilIface∧Hid (TM w' b t s v))∨∃k,e=.returned (.iface 91 (.int .i64 k))∧Hid (x=.error k∧¬k=0):=by
 rcases h.two with ⟨s,v,a,b,c⟩|⟨k,a,b,c⟩
 ·exact .inl ⟨s,v,a,b,c⟩
 ·exact .inr ⟨k,c,a,b⟩
theorem settle_any(b t:Nat)(s:TS)(v:TV)(a1 a2 a3 a4 a5 a6 a7 a8:Int)(q1 q2 qt qi:Option Addr)(n1 c1 n2 c2 nt ct ni ci:Nat)(g:Int)(vs:Vs)(w:World)(h:TM w b t s v)(hw:Wf s)(hD1:DL w 0 (.slice q1 n1 c1) vs.bs)(hD2:DL w 0 (.slice q2 n2 c2) vs.ss)(hO:OwnT w 0 (.slice qt nt ct) vs.ts)(hI:OwnI w 0 (.slice qi ni ci) vs.ids)(hg:g=vs.gone)(hv:VO ⟨a1,a2,a3,a4,a5,a6,a7,a8⟩ vs)(hin:∀i∈vs.ids,inBook s.bs s.ss i=true)(hl:s.evs.length≤990000)(hr:s.row.length≤900000) :
  Calls Tryz.prog 75 #[.pointer (some ⟨t,0,none⟩),.agg #[.int .i64 a1,.int .i64 a2,.int .i64 a3,.int .i64 a4,.int .i64 a5,.int .i64 a6,.int .i64 a7,.int .i64 a8],.agg #[.slice q1 n1 c1,.slice q2 n2 c2,.slice qt nt ct,.int .i64 g,.slice qi ni ci]] w (Res tB b t w (settle s ⟨a1,a2,a3,a4,a5,a6,a7,a8⟩ vs)):=by
 obtain⟨W1,hW1⟩:∃W,W=w.alloc (.cells #[.int .i64 a1,.int .i64 a2,.int .i64 a3,.int .i64 a4,.int .i64 a5,.int .i64 a6,.int .i64 a7,.int .i64 a8] 32):=⟨_,rfl⟩
 have hb1:Below w.heap.size w W1:=by rw[hW1];exact(bzR _ _).alloc (nzR _) _
 have hs1:W1.heap.size=w.heap.size+1:=by rw[hW1];simp
 have hr1:W1.heap[w.heap.size]?=some (.cells #[.int .i64 a1,.int .i64 a2,.int .i64 a3,.int .i64 a4,.int .i64 a5,.int .i64 a6,.int .i64 a7,.int .i64 a8] 32 (0,0)):=by rw[hW1];exact heap_alloc_new w _
 obtain⟨W,hW⟩:∃W,W=W1.alloc (.cells #[.slice q1 n1 c1,.slice q2 n2 c2,.slice qt nt ct,.int .i64 g,.slice qi ni ci] 132):=⟨_,rfl⟩
 have hb2:Below W1.heap.size W1 W:=by rw[hW];exact(bzR _ _).alloc (nzR _) _
 have hr2:W.heap[w.heap.size+1]?=some (.cells #[.slice q1 n1 c1,.slice q2 n2 c2,.slice qt nt ct,.int .i64 g,.slice qi ni ci] 132 (0,0)):=by rw[←hs1,hW];exact heap_alloc_new W1 _
 have hBW:=hb1.trans (hb2.mono hb1.size)
 obtain⟨G,hG⟩:∃G,G=w.heap.size:=⟨_,rfl⟩
 have hrG:W.heap[G]?=some (.cells #[.int .i64 a1,.int .i64 a2,.int .i64 a3,.int .i64 a4,.int .i64 a5,.int .i64 a6,.int .i64 a7,.int .i64 a8] 32 (0,0)):=by rw[hG];exact keepF hr1 hb2
 rw[←hG] at hr2
 have hk0:Kp [] w W:=Kp.below hBW
 obtain⟨ms,hms⟩:∃ms:World→Prop,ms=MS a1 a2 a3 a4 a5 a6 a7 a8 G q1 n1 c1 q2 n2 c2 qt nt ct g qi ni ci vs:=⟨_,rfl⟩
 have HMS0:Hid (ms W):=by
  rw[hms]
  exact⟨hrG,hr2,hk0.dl hD1 (by simp) (by simp),hk0.dl hD2 (by simp) (by simp),hk0.ownQ hO (by simp),hk0.ownQ hI (by simp)⟩
 have HKP:Hid (∀x y,ms x→Kp tA x y→ms y):=by rw[hms];exact fun x y hx hk=>MS.kp hx hk
 have HMI:Hid (∀x,ms x→MS a1 a2 a3 a4 a5 a6 a7 a8 G q1 n1 c1 q2 n2 c2 qt nt ct g qi ni ci vs x):=by rw[hms];exact fun x hx=>hx
 have HT0:=hidF (Tn.below (S:=tA) hBW h.base)
 obtain⟨K,hK⟩:∃K:TS→Rs,K=fun s3=>wakeS (tellLeft { s3 with bs:=vs.bs,ss:=vs.ss } ⟨a1,a2,a3,a4,a5,a6,a7,a8⟩ vs) vs.ts:=⟨_,rfl⟩
 obtain⟨X,hX⟩:∃X,X=settle s ⟨a1,a2,a3,a4,a5,a6,a7,a8⟩ vs:=⟨_,rfl⟩
 rw[←hX]
 unfold settle at hX
 rw[←hK,←hg] at hX
 have HK:=hidF hK
 have HX:=hidF hX
 have HV:=hidF hv
 have HWF:=hidF hw
 have HL:=hidF hl
 have HRW:=hidF hr
 have HIN:=hidF hin
 have HNI:Hid (ni=vs.ids.length∧ni≤60):=by
  have h1:ni=vs.ids.length:=by obtain⟨q',c',e⟩:=wak.OwnM.form hI;cases e;rfl
  have h2:=hv.ids
  exact⟨h1,by omega⟩
 have HTR:=hidF (trade_any b t s v qt nt ct vs.ts W (h.below hBW) hw (HMI.out W HMS0.out).tr (by have:=hv.len;omega))
 have HGV:=hidF hg
 obtain⟨v0,v1,v2,v3,v4,-⟩:=sid.rowFive hr2
 clear h hw hD1 hD2 hO hI hv hin hl hr hrG hr1 hr2 hb1 hb2 hs1 hBW hk0 hms hX hK hg
 go_enter Tryz.func75,Tryz.ntmps75
 go_upto_region 1 with fail
 rw[←hW1,←hW]
 simp only[←hG]
 clear hW hW1 hG
 go_wp2_with fail
 refine HTR.out.mono ?_
 intro e w1 hR
 have HT1:=hidF (HT0.out.trans hR.1)
 have HMS1:=hidF (HKP.out _ _ HMS0.out hR.1.kp)
 rcases zBC hR with ⟨s1,u1,hx1,rfl,HM1⟩|⟨k,rfl,HE⟩
 rotate_left
 ·have HRR:Hid (Res tB b t w X (.returned (.iface 91 (.int .i64 k))) w1):=zAn (by rw[HX.out,HE.out.1];rfl) HE.out.2 (HT1.out.mono tA_tB)
  clear hR v0 v1 v2 v3 v4 HTR HE
  go_wp2_with fail
  go_ret
  exact HRR.out
 have HX1:Hid (X=if backE ⟨a1,a2,a3,a4,a5,a6,a7,a8⟩ vs.ts g=0 then (freeS s1 a2 (backC ⟨a1,a2,a3,a4,a5,a6,a7,a8⟩ vs.ts g) (backS ⟨a1,a2,a3,a4,a5,a6,a7,a8⟩ vs.ts g)).bind fun s2=>(parts s2 vs.ids).bind K else .error (backE ⟨a1,a2,a3,a4,a5,a6,a7,a8⟩ vs.ts g)):=by show _=_;rw[HX.out,hx1];rfl
 have HS1:=hidF (zBQ vs.ts HWF.out hx1)
 have HBK:=hidF (mrg.zNh ⟨a1,a2,a3,a4,a5,a6,a7,a8⟩ (.slice qt nt ct) vs.ts g w1 (mrg.own_tl (HMI.out w1 HMS1.out).tr))
 rw[show oV ⟨a1,a2,a3,a4,a5,a6,a7,a8⟩=.agg #[.int .i64 a1,.int .i64 a2,.int .i64 a3,.int .i64 a4,.int .i64 a5,.int .i64 a6,.int .i64 a7,.int .i64 a8] from rfl] at HBK
 clear hR v0 v1 v2 v3 v4 HTR hx1 HX HMS0 HT0
 obtain⟨v0,v1,v2,v3,v4,-⟩:=sid.rowFive (HMI.out w1 HMS1.out).vis
 obtain⟨o0,o1,o2,o3,o4,o5,o6,o7,-⟩:=wak.row8 (HMI.out w1 HMS1.out).ord
 obtain⟨C,hC⟩:∃C,C=backC ⟨a1,a2,a3,a4,a5,a6,a7,a8⟩ vs.ts g:=⟨_,rfl⟩
 obtain⟨D,hD⟩:∃D,D=backS ⟨a1,a2,a3,a4,a5,a6,a7,a8⟩ vs.ts g:=⟨_,rfl⟩
 rw[←hC,←hD] at HBK HX1
 clear hC hD
 by_cases hE:backE ⟨a1,a2,a3,a4,a5,a6,a7,a8⟩ vs.ts g=0
 rotate_left
 ·rw[errV_of hE] at HBK
  have HXX:Hid (X=.error (backE ⟨a1,a2,a3,a4,a5,a6,a7,a8⟩ vs.ts g)):=by show _=_;rw[HX1.out,if_neg hE]
  generalize backE ⟨a1,a2,a3,a4,a5,a6,a7,a8⟩ vs.ts g=KE at *
  go_wp2_with fail
  refine HBK.out.mono ?_
  rintro e w2⟨rfl,b2⟩
  have HRR:Hid (Res tB b t w X (.returned (.iface 91 (.int .i64 KE))) w2):=zAn HXX.out hE ((HT1.out.trans (Tn.below b2 HM1.out.base)).mono tA_tB)
  clear b2 v0 v1 v2 v3 v4 o0 o1 o2 o3 o4 o5 o6 o7 HBK
  go_wp2_with fail
  go_ret
  exact HRR.out
 rw[hE,errV_zero] at HBK
 have HX2:Hid (X=(freeS s1 a2 C D).bind fun s2=>(parts s2 vs.ids).bind K):=by show _=_;rw[HX1.out,if_pos hE]
 clear hE HX1
 go_wp2_with fail
 refine HBK.out.mono ?_
 rintro e w2⟨rfl,b2⟩
 have HM2:=hidF (HM1.out.below b2)
 have HT2:=hidF (HT1.out.trans (Tn.below b2 HM1.out.base))
 have HMS2:=hidF (HKP.out _ _ HMS1.out (Kp.below b2))
 have HFR:Hid (∀U,Below w2.heap.size w2 U→Calls Tryz.prog 101 #[.pointer (some ⟨u1.pp,0,none⟩),.int .i64 a2,.int .i64 C,.int .i64 D] U fun e w'=>∃E,e=.returned E∧Hid ((∃s2,E=.nilIface∧Hid (SI b t s2 vs.ids K w X ms 0 w'∧Wf s2∧Sm s s2 vs.ts.length))∨∃k,E=.iface 91 (.int .i64 k)∧Hid (Res tB b t w X (.returned (.iface 91 (.int .i64 k))) w'))):=fun U hU=>by
  have hMU:=HM2.out.below hU
  have hTU:=HT2.out.trans (Tn.below (S:=tA) hU HM2.out.base)
  refine(pur.free_any u1.pp s1.ps a2 C D U hMU.purs HS1.out.1.ok).mono ?_
  rintro e w'⟨rfl,k4,k5⟩
  have hR:=zCU hMU hTU k4 k5
  have hms' : ms w':=HKP.out _ _ (HKP.out _ _ HMS2.out (Kp.below hU)) (hMU.pay k4 k5).2.kp
  refine⟨_,rfl,?_⟩
  show _∨_
  rcases hR.two with ⟨s2,v2,hx2,he,hM⟩|⟨k,hx2,hk,he⟩
  ·obtain⟨f1,f2⟩:=zDZ HS1.out.1 hx2
   refine .inl ⟨s2,by injection he,?_⟩
   show _∧_∧_
   refine⟨⟨⟨s2,v2,hM,f1,Sm.refl _,?_⟩,hR.1,hms'⟩,f1,HS1.out.2.trans f2⟩
   rw[HX2.out,hx2];rfl
  ·refine .inr ⟨k,by injection he,?_⟩
   show Res _ _ _ _ _ _ _
   exact zAn (by rw[HX2.out,hx2];rfl) hk (hR.1.mono tA_tB)
 clear b2 v0 v1 v2 v3 v4 o0 o1 o2 o3 o4 o5 o6 o7 HBK HM1 HMS1 HT1
 obtain⟨-,-,-,-,y4,-⟩:=HM2.out.cells
 obtain⟨o0,o1,o2,o3,o4,o5,o6,o7,-⟩:=wak.row8 (HMI.out w2 HMS2.out).ord
 have HRF:=hidF (bzR w2.heap.size w2)
 obtain⟨r1,r2,r3,r4,r5,r6,r7,r8,upp,qe,ne,ce,qk,nk,ck⟩:=u1
 simp only[] at y4
 go_upto_region 7 with fail
 go_region_with (go_at_call 101;with_reducible refine(HFR.out _ ?_).mono ?_;(with_reducible repeat' (first|exact HRF.out|assumption|refine Below.drew ?_));rintro x w3 ⟨E,rfl,HOR⟩)
 all_goals
  clear y4 o0 o1 o2 o3 o4 o5 o6 o7 HFR HRF
  rcases HOR.out with ⟨s2,rfl,HSI⟩|⟨k,rfl,HRR⟩
  rotate_left
  ·clear HOR
   go_wp2_with fail
   go_ret
   exact HRR.out
  clear HOR HM2 HMS2 HT2 HX2 HS1 HWF
  obtain⟨v0,v1,v2,v3,v4,-⟩:=sid.rowFive (HMI.out w3 HSI.out.1.ms).vis
  go_wp2_with fail
  clear v0 v1 v2 v3 v4
  go_loopg [13,14,15,16,17,18,55] ni (fun gg _ _ _ _ _ _ s55 wr=>∃ (kk:Nat),kk≤ni∧ni - kk≤gg∧s55=.int .i64 kk∧Aside (SI b t s2 vs.ids K w X ms kk wr))
  case atStart=>exact⟨0,Nat.zero_le _,by omega,rfl,HSI.out.1⟩
  case round=>
   obtain⟨kk,hkk,hgg,rfl,HA⟩:=hrel
   have HSS:=hidF HSI.out.2
   clear HSI
   by_cases hlt:kk<ni
   rotate_left
   ·have hltz:¬(kk:Int)<(ni:Int):=by omega
    have hkn:kk=ni:=by omega
    obtain⟨⟨s3,u3,hM3,hwf3,hsm3,hXX⟩,hTn3,hms3⟩:=HA.out
    have hXX2:X=K s3:=by rw[hXX,List.drop_eq_nil_of_le (by have:=HNI.out.1;omega)];rfl
    rw[HK.out] at hXX2
    have HXX:=hidF hXX2
    have hS3:=HSS.out.2.trans hsm3
    have HEV:Hid (s3.evs.length≤999000):=by show _≤_;rw[hS3.evs];have:=HL.out;have:=HV.out.len;have:=HNI.out.2;omega
    have HRO:Hid (s3.row.length≤900000):=by show _≤_;rw[hS3.row];exact HRW.out
    have HWX:Hid (Wf { s3 with bs:=vs.bs,ss:=vs.ss }):=⟨hwf3.m0,hwf3.m3,HV.out.book,hwf3.ok,hwf3.ws⟩
    obtain⟨v0,v1,v2,v3,v4,-⟩:=sid.rowFive (HMI.out wr hms3).vis
    obtain⟨-,y1,y2,-,-,-,-,-,yf⟩:=hM3.cells
    have yf1:=yf 1
    have yf2:=yf 2
    obtain⟨hM5,hT5⟩:=hM3.book (HMI.out wr hms3).d1 (HMI.out wr hms3).d2
    have HM5:=hidF hM5
    have HT5:=hidF (hTn3.trans hT5)
    have HMS5:=hidF (HKP.out _ _ hms3 hT5.kp)
    obtain⟨r1,r2,r3,r4,r5,r6,r7,r8,upp,qe,ne,ce,qk,nk,ck⟩:=u3
    simp only[] at y1 y2
    clear hM3 hwf3 hsm3 hXX hTn3 hms3 hXX2 hS3 yf hM5 hT5 HA hkn hkk hgg HSS HIN
    go_upto_region 21 with fail
    generalize (wr.setCell ⟨t,1,none⟩ (.slice q1 n1 c1)).setCell ⟨t,2,none⟩ (.slice q2 n2 c2)=W5 at *
    clear v0 v1 v2 v3 v4 y1 y2 yf1 yf2
    obtain⟨v0,v1,v2,v3,v4,-⟩:=sid.rowFive (HMI.out W5 HMS5.out).vis
    obtain⟨o0,o1,o2,o3,o4,o5,o6,o7,-⟩:=wak.row8 (HMI.out W5 HMS5.out).ord
    have HTL:=hidF (zEZ b t _ _ a1 a2 a3 a4 a5 a6 a7 a8 q1 q2 qt qi n1 c1 n2 c2 nt ct ni ci g vs W5 HM5.out (HMI.out W5 HMS5.out).tr HGV.out HV.out HEV.out)
    go_wp2_with fail
    refine HTL.out.mono ?_
    rintro e w6⟨rfl,⟨u6,hM6⟩,hT6⟩
    have HT6:=hidF (HT5.out.trans hT6)
    have HMS6:=hidF (HKP.out _ _ HMS5.out hT6.kp)
    have HWK:=hidF (wake_any b t _ u6 qt nt ct vs.ts w6 hM6 (zCW HWX.out).1 (HMI.out w6 HMS6.out).tr (by have:=HV.out.len;omega) (fun x hx=>by have:=HV.out.each x hx;unfold ord.prB;simp;omega) (by rw[(zCW HWX.out).2];exact HRO.out))
    clear v0 v1 v2 v3 v4 o0 o1 o2 o3 o4 o5 o6 o7 hM6 hT6 HTL HM5
    obtain⟨v0,v1,v2,v3,v4,-⟩:=sid.rowFive (HMI.out w6 HMS6.out).vis
    go_wp2_with fail
    refine HWK.out.mono ?_
    intro e w7 hR7
    have HRR:Hid (Res tB b t w X e w7):=zBy (hR7.step (HT6.out.mono tA_tB) (fun _ h=>h)) HXX.out.symm
    clear v0 v1 v2 v3 v4 HWK
    rcases zBC hR7 with ⟨s8,u8,-,rfl,-⟩|⟨k,rfl,-⟩
    all_goals
     clear hR7
     go_wp2_with fail
     go_ret
     exact HRR.out
   ·have hltz:(kk:Int)<(ni:Int):=by omega
    have hlz:kk<vs.ids.length:=by rw[←HNI.out.1];exact hlt
    obtain⟨⟨s1,u1,hM,hwf,hsm,hXX⟩,hTn,hms⟩:=HA.out
    obtain⟨gz,oz,rfl,hGz,e0⟩:=id_at (HMI.out wr hms).ids hlz
    rw[zGM vs.ids kk hlz] at hXX
    have hib:inBook s1.bs s1.ss vs.ids[kk]! = true:=by
     rw[hsm.bs,hsm.ss,HSS.out.2.bs,HSS.out.2.ss]
     refine HIN.out _ ?_
     rw[mrg.getE vs.ids kk hlz]
     exact List.getElem_mem _
    have hev:s1.evs.length≤1000000:=by rw[hsm.evs,HSS.out.2.evs];have:=HL.out;have:=HV.out.len;have:=HNI.out.2;omega
    generalize vs.ids[kk]! = id at *
    have hA:=spot_at hwf.book hib
    have hX2:X=((part s1 (spot s1.bs s1.ss id).r (spot s1.bs s1.ss id).s (spot s1.bs s1.ss id).p).bind fun s1=>parts s1 (vs.ids.drop (kk+1))).bind K:=by
     rw[hXX]
     show ((partId s1 id).bind _).bind K=_
     unfold partId
     rw[if_pos hib]
    generalize spot s1.bs s1.ss id=x at hA hX2
    obtain⟨xs,xp,⟨r1,r2,r3,r4,r5⟩,xi,xk⟩:=x
    simp only[] at hX2
    have HF:=hidF (swp.zAS u1.q1 u1.q2 u1.n1 u1.n2 u1.c1 u1.c2 s1.bs s1.ss id xs xp r1 r2 r3 r4 r5 xi xk wr hM.buys.ls hM.sells.ls hA)
    obtain⟨-,y1,y2,-⟩:=hM.cells
    have HPT:Hid (∀U,Below wr.heap.size wr U→Calls Tryz.prog 102 #[.pointer (some ⟨t,0,none⟩),.agg #[.int .i64 r1,.int .i64 r2,.int .i64 r3,.int .i64 r4,.int .i64 r5],.int .i64 xs,.int .i64 xp] U fun e w'=>∃E,e=.returned E∧Hid ((E=.nilIface∧Hid (SI b t s2 vs.ids K w X ms (kk+1) w'))∨∃k,E=.iface 91 (.int .i64 k)∧Hid (Res tB b t w X (.returned (.iface 91 (.int .i64 k))) w'))):=fun U hU=>by
     refine(zGJ b t s1 u1 r1 r2 r3 r4 r5 xs xp U (hM.below hU) hwf hA.rest hev).mono ?_
     intro e w' hR
     have hT':=(hTn.trans (Tn.below (S:=tA) hU hM.base)).trans hR.1
     rcases hR.two with ⟨s4,u4,hx4,rfl,hM4⟩|⟨k,hx4,hk,rfl⟩
     ·refine⟨_,rfl,?_⟩
      show _∨_
      obtain⟨f1,f2⟩:=zEa hwf hx4
      refine .inl ⟨rfl,?_⟩
      show SI _ _ _ _ _ _ _ _ _ _
      refine⟨⟨s4,u4,hM4,f1,hsm.trans f2,?_⟩,hT',HKP.out _ _ (HKP.out _ _ hms (Kp.below hU)) hR.1.kp⟩
      rw[hX2,hx4];rfl
     ·refine⟨_,rfl,?_⟩
      show _∨_
      refine .inr ⟨k,rfl,?_⟩
      show Res _ _ _ _ _ _ _
      exact zAn (by rw[hX2,hx4];rfl) hk (hT'.mono tA_tB)
    have HEI:=hidF (stepI kk (by have:=HNI.out.2;omega))
    have HM:Hid (kk<ni∧ni - kk≤gk):=⟨hlt,hgg⟩
    obtain⟨uq1,un1,uc1,uq2,un2,uc2,r9,r10,upp,qe,ne,ce,qk,nk,ck⟩:=u1
    simp only[] at y1 y2 HF
    clear hM hwf hsm hXX hTn hms hib hev hA hX2 HA hlt hgg hkk hlz HSS
    go_wp2_with fail
    refine HF.out.mono ?_
    rintro e w4⟨rfl,b4⟩
    obtain⟨W5,hW5⟩:∃W5,W5=w4.alloc (.cells #[.int .i64 r1,.int .i64 r2,.int .i64 r3,.int .i64 r4,.int .i64 r5] 54):=⟨_,rfl⟩
    have HB5:Hid (Below wr.heap.size wr W5):=by rw[hW5];exact b4.alloc b4.size _
    have hR5:W5.heap[w4.heap.size]?=some (.cells #[.int .i64 r1,.int .i64 r2,.int .i64 r3,.int .i64 r4,.int .i64 r5] 54 (0,0)):=by rw[hW5];exact heap_alloc_new w4 _
    clear b4 HF e0 y1 y2 hGz
    go_upto_if 72 with fail
    rw[←hW5]
    clear hW5
    generalize w4.heap.size=FF at *
    obtain⟨z0,z1,z2,z3,z4,-⟩:=sid.rowFive hR5
    clear hR5
    go_wp2_with fail
    refine(HPT.out _ HB5.out).mono ?_
    rintro e w6⟨E,rfl,HOR⟩
    clear z0 z1 z2 z3 z4 HPT HB5
    rcases HOR.out with ⟨rfl,HSN⟩|⟨k,rfl,HRR⟩
    rotate_left
    ·clear HOR
     go_wp2_with fail
     go_ret
     exact HRR.out
    clear HOR
    have ei:=HEI.out
    go_wp2_with fail
    go_roundg (ni - (kk+1))
    case measure=>have:=HM.out;omega
    case rel=>exact⟨kk+1,HM.out.1,nzR _,by go_num,HSN.out⟩
end flr
end Go.Proofs.YtifjhlgjgnnnpaaGreat
