import Derived.Test.YtmhcghgfpfainaaGreatDoorFlrFb
set_option maxHeartbeats 4000000
set_option maxRecDepth 100000
namespace Go.Proofs.YtmhcghgfpfainaaGreatDoor
open Tryz
namespace flr
open Go.RowKit
open que (R rchk)
open sid (L DL LS)
open mee (T tV OwnT sumT)
open ord (O oV chk errV wAa wAb prB)
open que (bal)
open pur (Pz Pu Ok flatP pL)
open wak (OwnM OwnQ St SL Lies oL idx Trn)
def FrPost(f:FS)(v:FV)(w:World)(e:Ending)(w' : World):Prop:=
 ∃sp vw pp,e=.returned (.agg #[.int .i64 f.mode,.slice v.q1 v.n1 v.c1,.slice v.q2 v.n2 v.c2,.pointer (some ⟨sp,0,none⟩),.pointer (some ⟨pp,0,none⟩),.int .i64 f.last])∧St w' w.heap.size sp vw f.ws∧Pu 112 9 w' pp f.ps∧w.heap.size≤pp∧Bw w w'
theorem zKA(F:Nat)(f:FS)(v:FV)(w:World)(h:FM w F f v)(hl:f.ws.length≤20) :
  Calls prog 21 #[.pointer (some ⟨F,0,none⟩)] w fun e w'=>FrPost f v w e w':=by
 obtain⟨W,hW⟩:∃W,W=w.alloc (.cells #[.int .i64 0,.slice none 0 0,.slice none 0 0,.pointer none,.pointer none,.int .i64 0] 73):=⟨_,rfl⟩;have Hk:Below w.heap.size w W:=by rw[hW];exact(bzR _ _).alloc (nzR _) _
 have Hd:W.heap[w.heap.size]?=some (.cells #[.int .i64 0,.slice none 0 0,.slice none 0 0,.pointer none,.pointer none,.int .i64 0] 73 (0,0)):=by rw[hW];exact jA w _
 obtain⟨G,hG⟩:∃G,G=w.heap.size:=⟨_,rfl⟩;rw[←hG] at Hd;have HSF:Hid (∀U,Below W.heap.size W U→Calls prog 41 #[.pointer (some ⟨v.sp,0,none⟩)] U fun e w'=>∃p' v',e=.returned (.pointer (some ⟨p',0,none⟩))∧Hid (St w' w.heap.size p' v' f.ws)∧Below W.heap.size W w'∧Hid (Below U.heap.size U w')):=fun U hU=>by
  have GV:=Hk.trans (hU.mono Hk.size);refine(zKy 0 v.sp v.vw f.ws U (h.below GV).stops (by omega)).mono ?_
  rintro e w'⟨p',v',rfl,k1,k2⟩;exact⟨p',v',rfl,zGq k1 GV.size,hU.trans (k2.mono hU.size),k2⟩
 have Uj:Hid (∀U,Below W.heap.size W U→Calls prog 42 #[.pointer (some ⟨v.pp,0,none⟩)] U fun e w'=>∃pp',e=.returned (.pointer (some ⟨pp',0,none⟩))∧Hid (w.heap.size≤pp'∧Pu 112 9 w' pp' f.ps)∧Below W.heap.size W w'∧Hid (Below U.heap.size U w')):=fun U hU=>by
  have GV:=Hk.trans (hU.mono Hk.size);refine(zKz v.pp f.ps U (h.below GV).purs).mono ?_;rintro e w'⟨rfl,k1,k2⟩;exact⟨_,rfl,⟨GV.size,k1⟩,hU.trans (k2.mono hU.size),k2⟩
 have SO:Hid (∀U,Below w.heap.size w U→U.cell? ⟨F,0,none⟩=some (.int .i64 f.mode)∧U.cell? ⟨F,1,none⟩=some (.slice v.q1 v.n1 v.c1)∧U.cell? ⟨F,2,none⟩=some (.slice v.q2 v.n2 v.c2)∧U.cell? ⟨F,3,none⟩=some (.pointer (some ⟨v.sp,0,none⟩))∧U.cell? ⟨F,4,none⟩=some (.pointer (some ⟨v.pp,0,none⟩))∧U.cell? ⟨F,5,none⟩=some (.int .i64 f.last)):=fun U hU=>by
  obtain⟨a,b,c,d,e,g,-⟩:=(h.below hU).cells;exact⟨a,b,c,d,e,g⟩
 have mw:=hidF Hd;have gI:=hidF Hk;have HGS:=hidF hG;have Gf:=hidF (bzR W.heap.size W);have MJ:Hid (∀U,Below W.heap.size W U→Below w.heap.size w U):=fun U hU=>Hk.trans (hU.mono Hk.size)
 have HGL:Hid (w.heap.size≤G):=by show _≤_;omega
 have UJ:Hid (∀Z p' v' pp',St Z w.heap.size p' v' f.ws→(w.heap.size≤pp'∧Pu 112 9 Z pp' f.ps)→Below W.heap.size W Z→∀x0 x1 x2 x3 x4 x5,St ((((((Z.setCell ⟨G,0,none⟩ x0).setCell ⟨G,1,none⟩ x1).setCell ⟨G,2,none⟩ x2).setCell ⟨G,3,none⟩ x3).setCell ⟨G,4,none⟩ x4).setCell ⟨G,5,none⟩ x5) w.heap.size p' v' f.ws∧w.heap.size≤pp'∧Pu 112 9 ((((((Z.setCell ⟨G,0,none⟩ x0).setCell ⟨G,1,none⟩ x1).setCell ⟨G,2,none⟩ x2).setCell ⟨G,3,none⟩ x3).setCell ⟨G,4,none⟩ x4).setCell ⟨G,5,none⟩ x5) pp' f.ps∧Below w.heap.size w ((((((Z.setCell ⟨G,0,none⟩ x0).setCell ⟨G,1,none⟩ x1).setCell ⟨G,2,none⟩ x2).setCell ⟨G,3,none⟩ x3).setCell ⟨G,4,none⟩ x4).setCell ⟨G,5,none⟩ x5)∧((((((Z.setCell ⟨G,0,none⟩ x0).setCell ⟨G,1,none⟩ x1).setCell ⟨G,2,none⟩ x2).setCell ⟨G,3,none⟩ x3).setCell ⟨G,4,none⟩ x4).setCell ⟨G,5,none⟩ x5).heap[G]?=some (.cells #[x0,x1,x2,x3,x4,x5] 73 (0,0))):=fun Z p' v' pp' hs hp hb x0 x1 x2 x3 x4 x5=>by
  have hrZ:=zBH Hd hb;have hg:=gr6 Z G x0 x1 x2 x3 x4 x5;have hk:Kp [73] Z _:=Kp.grown hg hrZ (by simp)
  have M1:=Hk.trans (hb.mono Hk.size);exact⟨hk.st hs (by decide) (by decide),hp.1,hk.pu hp.2 (by decide),M1.grown hg M1.size (fun k hk=>by cases hk;omega),set6 hrZ _ _ _ _ _ _⟩
 obtain⟨q1,n1,c1,q2,n2,c2,sp,vw,pp⟩:=v;simp only[] at SO HSF Uj;unfold FrPost;simp only[];generalize f.mode=M at *;generalize f.last=LA at *;clear h hl Hk Hd;go_enter func21,ntmps21;go_upto_region 1 with fail
 rw[←hW];simp only[←hG];clear hW hG;have hS0:=SO.out W (MJ.out _ Gf.out);go_region_held3 (fun W=>W.cell? ⟨F,0,none⟩=some (.int .i64 M)∧W.cell? ⟨F,1,none⟩=some (.slice q1 n1 c1)∧W.cell? ⟨F,2,none⟩=some (.slice q2 n2 c2)∧W.cell? ⟨F,3,none⟩=some (.pointer (some ⟨sp,0,none⟩))∧W.cell? ⟨F,4,none⟩=some (.pointer (some ⟨pp,0,none⟩))∧W.cell? ⟨F,5,none⟩=some (.int .i64 LA))
  (first|with_reducible assumption|(refine SO.out _ ?_;(repeat' (first|with_reducible assumption|with_reducible refine Below.setCell ?_ ?_ _|with_reducible refine Below.drew ?_|with_reducible exact HGL.out|(refine MJ.out _ ?_;(first|with_reducible exact Gf.out|with_reducible assumption))));done))
  (first|(go_at_call 41;with_reducible refine(HSF.out _ ?_).mono ?_;(with_reducible repeat' (first|exact Gf.out|assumption|refine Below.drew ?_));rintro x wS ⟨spN,vwN,rfl,uY,hbS,HBS⟩;obtain⟨g0,g1,g2,g3,g4,g5,gf⟩:=zEP (zBH mw.out hbS);have gf0:=gf 0;have gf1:=gf 1;have gf2:=gf 2;have gf3:=gf 3;have gf4:=gf 4;have gf5:=gf 5;clear gf;have pZ:=SO.out _ (MJ.out _ hbS))|(go_at_call 42;with_reducible refine(Uj.out _ ?_).mono ?_;(with_reducible repeat' (first|exact Gf.out|assumption|refine Below.drew ?_));rintro x wP ⟨ppN,rfl,Cb,hbP,HBP⟩;obtain⟨g0,g1,g2,g3,g4,g5,gf⟩:=zEP (zBH mw.out hbP);have gf0:=gf 0;have gf1:=gf 1;have gf2:=gf 2;have gf3:=gf 3;have gf4:=gf 4;have gf5:=gf 5;clear gf;have hSP:=SO.out _ (MJ.out _ hbP)))
 have GL:Below wS.heap.size wS wP:=HBP.out;obtain⟨f1,f2,f3,f4,f5⟩:=UJ.out wP spN vwN ppN (uY.out.below GL) Cb.out hbP (.int .i64 M) (.slice q1 n1 c1) (.slice q2 n2 c2) (.pointer (some ⟨spN,0,none⟩)) (.pointer (some ⟨ppN,0,none⟩)) (.int .i64 LA);clear GL hbP hbS uY HBS Cb HBP pZ hSP hS0 g0 g1 g2 g3 g4 g5 gf0 gf1 gf2 gf3 gf4 gf5 SO HSF Uj UJ;generalize (((((wP.setCell ⟨G,0,none⟩ (.int .i64 M)).setCell ⟨G,1,none⟩ (.slice q1 n1 c1)).setCell ⟨G,2,none⟩ (.slice q2 n2 c2)).setCell ⟨G,3,none⟩ (.pointer (some ⟨spN,0,none⟩))).setCell ⟨G,4,none⟩ (.pointer (some ⟨ppN,0,none⟩))).setCell ⟨G,5,none⟩ (.int .i64 LA)=Y at *;obtain⟨y0,y1,y2,y3,y4,y5,-⟩:=zEP f5;go_wp2_with fail
 exact jN (v:=.agg #[.int .i64 M,.slice q1 n1 c1,.slice q2 n2 c2,.pointer (some ⟨spN,0,none⟩),.pointer (some ⟨ppN,0,none⟩),.int .i64 LA]) (by simp[results,results21,go_sem,y0,y1,y2,y3,y4,y5]) rfl ⟨spN,vwN,ppN,rfl,f1,f3,f2,f4⟩
end flr
namespace flr
open Go.RowKit
open que (R rchk)
open sid (L DL LS)
open mee (T tV OwnT sumT)
open ord (O oV chk errV wAa wAb)
open que (bal)
open wak (OwnM St SL Lies oL idx Trn)
theorem zKB(ts:List T)(k:Nat)(hk:k<ts.length):sumT (ts.take (k+1))=sumT (ts.take k)+ts[k]!.qty:=mrg.zMK ts k hk
theorem zIp(ts:List T)(h:∀x∈ts,1≤x.qty):0≤sumT ts:=by
 induction ts with
 | nil=>exact jY _
 | cons x t ih=>
  have:=h x (by simp)
  have:=ih (fun y hy=>h y (by simp[hy]))
  simp only[sumT];omega
theorem zNt(ts:List T)(k:Nat)(h:∀x∈ts,1≤x.qty):0≤sumT (ts.take k)∧sumT (ts.take k)≤sumT ts:=by
 refine⟨zIp _ fun x hx=>h x (List.mem_of_mem_take hx),?_⟩
 have h1:sumT (ts.take k++ts.drop k)=sumT (ts.take k)+sumT (ts.drop k):=mee.zCN _ _;rw[jR] at h1;have:=zIp (ts.drop k) fun x hx=>h x (List.mem_of_mem_drop hx)
 omega
theorem zNu{o:O}{v:Vs}(h:VO o v):wrap64 (o.qty - v.gone)=o.qty - v.gone - sumT (v.ts.take 0)∧(∀k,k<v.ts.length→wrap64 (o.qty - v.gone - sumT (v.ts.take k) - v.ts[k]!.qty)=o.qty - v.gone - sumT (v.ts.take (k+1)))∧o.qty - v.gone - sumT (v.ts.take v.ts.length)=zHi o v:=by
 have hq:=(mrg.zCw h.ck).2.2;have g0:=h.g0;have g1:=h.g1;have h1:∀x∈v.ts,1≤x.qty:=fun x hx=>(h.each x hx).1
 have h2:=zIp v.ts h1;refine⟨?_,fun k hk=>?_,?_⟩
 ·rw[List.take_zero];show _=_ - _ - 0;unfold wrap64;omega
 ·have h3:=zNt v.ts (k+1) h1;rw[zKB _ _ hk] at h3 ⊢;unfold wrap64;omega
 ·rw[List.take_length];rfl
theorem zHE{b t:Nat}{s:TS}{v:TV}{w0 w:World}(what id qty price:Int)(h:TM w b t s v)(h0:Tn tA b w0 w)(hl:s.evs.length≤1000000) :
  Calls prog 48 #[.pointer (some ⟨t,0,none⟩),.int .i64 what,.int .i64 id,.int .i64 qty,.int .i64 price] w fun e w'=>e=.returned (.tuple #[])∧Hid (∃v',TM w' b t (tell s what id qty price) v')∧Hid (Tn tA b w w')∧Hid (Tn tA b w0 w'):=by
 refine(zGa b t s v what id qty price w h hl).mono ?_;rintro e w'⟨rfl,h1,h2⟩;exact⟨rfl,h1,h2,h0.trans h2⟩
theorem zHF(b t:Nat)(s:TS)(v:TV)(a1 a2 a3 a4 a5 a6 a7 a8:Int)(q1 q2 qt qi:Option Addr)(n1 c1 n2 c2 nt ct ni ci:Nat)(g:Int)(vs:Vs)(w:World)(h:TM w b t s v)(hO:OwnT w 0 (.slice qt nt ct) vs.ts)(hg:g=vs.gone)(hv:VO ⟨a1,a2,a3,a4,a5,a6,a7,a8⟩ vs)(hl:s.evs.length≤999000) :
  Calls prog 116 #[.pointer (some ⟨t,0,none⟩),.agg #[.int .i64 a1,.int .i64 a2,.int .i64 a3,.int .i64 a4,.int .i64 a5,.int .i64 a6,.int .i64 a7,.int .i64 a8],.agg #[.slice q1 n1 c1,.slice q2 n2 c2,.slice qt nt ct,.int .i64 g,.slice qi ni ci]] w fun e w'=>e=.returned (.tuple #[])∧(∃v',TM w' b t (zAu s ⟨a1,a2,a3,a4,a5,a6,a7,a8⟩ vs) v')∧Tn tA b w w':=by
 have hn:nt=vs.ts.length:=by obtain⟨q',c',e⟩:=wak.OwnM.form hO;cases e;rfl
 obtain⟨W1,gb⟩:∃W,W=w.alloc (.cells #[.int .i64 a1,.int .i64 a2,.int .i64 a3,.int .i64 a4,.int .i64 a5,.int .i64 a6,.int .i64 a7,.int .i64 a8] 40):=⟨_,rfl⟩;have Ha:Below w.heap.size w W1:=by rw[gb];exact(bzR _ _).alloc (nzR _) _
 have Hm:W1.heap.size=w.heap.size+1:=by rw[gb];simp
 have go:W1.heap[w.heap.size]?=some (.cells #[.int .i64 a1,.int .i64 a2,.int .i64 a3,.int .i64 a4,.int .i64 a5,.int .i64 a6,.int .i64 a7,.int .i64 a8] 40 (0,0)):=by rw[gb];exact jA w _
 obtain⟨W,hW⟩:∃W,W=W1.alloc (.cells #[.slice q1 n1 c1,.slice q2 n2 c2,.slice qt nt ct,.int .i64 g,.slice qi ni ci] 144):=⟨_,rfl⟩;have Hc:Below W1.heap.size W1 W:=by rw[hW];exact(bzR _ _).alloc (nzR _) _
 have H5:W.heap[w.heap.size+1]?=some (.cells #[.slice q1 n1 c1,.slice q2 n2 c2,.slice qt nt ct,.int .i64 g,.slice qi ni ci] 144 (0,0)):=by rw[←Hm,hW];exact jA W1 _
 have Hk:=Ha.trans (Hc.mono Ha.size);obtain⟨G,hG⟩:∃G,G=w.heap.size:=⟨_,rfl⟩;have Ba:W.heap[G]?=some (.cells #[.int .i64 a1,.int .i64 a2,.int .i64 a3,.int .i64 a4,.int .i64 a5,.int .i64 a6,.int .i64 a7,.int .i64 a8] 40 (0,0)):=by rw[hG];exact zBH go Hc
 rw[←hG] at H5;have HM0:=hidF (h.below Hk);have G6:=hidF (Tn.below (S:=tA) Hk h.base);have cY:Hid (OwnT W 0 (.slice qt nt ct) vs.ts):=Kp.ownQ (S:=[]) (Kp.below Hk) hO (by simp)
 obtain⟨hA,hB,hC⟩:=zNu hv;obtain⟨F,hF⟩:∃F:Nat→Int,∀k,a6 - vs.gone - sumT (vs.ts.take k)=F k:=⟨_,fun _=>rfl⟩
 simp only[hF] at hA hB hC;rw[←hg] at hA;have HA:=hidF hA;have HB:=hidF hB;have HC:=hidF hC;have HL:=hidF hl;have HN:=hidF hn;have pD:Hid (nt≤1000000):=by show _≤_;rw[hn];have:=hv.len;omega
 have mw:=hidF Ba;have HRV:=hidF H5;have HGV:=hidF hg;obtain⟨c0,c1',c2',c3,c4,c5,c6,c7,-⟩:=wak.row8 Ba;obtain⟨v0,v1,v2,v3,v4,-⟩:=sid.zAi H5;have UJ:Hid (∀S1 w',(S1=zAu s ⟨a1,a2,a3,a4,a5,a6,a7,a8⟩ vs)→(∃v',TM w' b t S1 v')→Tn tA b w w'→(∃v',TM w' b t (zAu s ⟨a1,a2,a3,a4,a5,a6,a7,a8⟩ vs) v')∧Tn tA b w w'):=fun S1 w' e h1 h2=>by subst e;exact⟨h1,h2⟩
 clear h hO hv hl Ba go H5 Ha Hc Hm Hk hA hB hC hn hF hg;by_cases BV:0<g
 case' pos=>
  have ua:=hidF (zHE (w0:=w) 3 a1 g a5 HM0.out G6.out (by have:=HL.out;omega))
  have HS:Hid (tell s 3 a1 g a5=zAA s ⟨a1,a2,a3,a4,a5,a6,a7,a8⟩ vs):=by show _=_;unfold zAA;rw[←HGV.out,if_pos BV]
  go_enter func116,ntmps116;go_upto_region 1 with fail
  rw[←gb,←hW];simp only[←hG];clear hW gb hG;go_wp2_with fail;refine ua.out.mono ?_;rintro e w1⟨rfl,uJ,ux,GT⟩;have pK:=hidF (ux.out.kp.typ _ _ _ mw.out (by decide))
  have bw:=hidF (ux.out.kp.typ _ _ _ HRV.out (by decide))
  have Gi:Hid (OwnT w1 0 (.slice qt nt ct) vs.ts):=ux.out.kp.ownQ cY.out (by decide)
  clear ux ua c0 c1' c2' c3 c4 c5 c6 c7 v0 v1 v2 v3 v4 mw HRV cY HM0 G6;have U3:Hid ((tell s 3 a1 g a5).evs.length≤999999):=by show _≤_;have:=HL.out;simp only[tell,jE,jG,List.length_nil];omega
  generalize tell s 3 a1 g a5=S1 at *
 case' neg=>
  have HS:Hid (s=zAA s ⟨a1,a2,a3,a4,a5,a6,a7,a8⟩ vs):=by show _=_;unfold zAA;rw[←HGV.out,if_neg BV]
  have uJ:Hid (∃v',TM W b t s v'):=⟨_,HM0.out⟩;have U3:Hid (s.evs.length≤999999):=by show _≤_;have:=HL.out;omega
  have GT:=G6;have pK:=mw;have bw:=HRV;have Gi:=cY;go_enter func116,ntmps116;go_upto_region 1 with fail
  rw[←gb,←hW];simp only[←hG];clear hW gb hG mw HRV cY HM0 G6;go_upto_region 3 with fail
  clear c0 c1' c2' c3 c4 c5 c6 c7 v0 v1 v2 v3 v4;obtain⟨S1,M9⟩:∃S1,S1=s:=⟨_,rfl⟩;rw[←M9] at uJ U3;have HS:Hid (S1=zAA s ⟨a1,a2,a3,a4,a5,a6,a7,a8⟩ vs):=by show _=_;rw[M9];exact HS.out
  clear M9;generalize W=w1 at *
 all_goals
  obtain⟨c0,c1',c2',c3,c4,c5,c6,c7,-⟩:=wak.row8 pK.out;obtain⟨v0,v1,v2,v3,v4,-⟩:=sid.zAi bw.out;go_wp2_with fail;go_loopg [6,8,28] nt (fun gg s6 _ s28 wr=>∃ (kk:Nat),kk≤nt∧nt - kk≤gg∧s6=.int .i64 (F kk)∧s28=.int .i64 kk∧Aside (Below w1.heap.size w1 wr))
  case atStart=>exact⟨0,jL _,by omega,congrArg (Value.int IntKind.i64) HA.out,rfl,bzR _ _⟩
  case round=>
   obtain⟨kk,gh,Hs,rfl,rfl,He⟩:=hrel;clear c0 c1' c2' c3 c4 c5 c6 c7 v0 v1 v2 v3 v4;by_cases Hj:kk<nt
   rotate_left
   ·have Hq:¬(kk:Int)<(nt:Int):=(by omega);have B8:kk=nt:=(by omega);obtain⟨v1',Mo⟩:=uJ.out;have HMr:=hidF (Mo.below He.out);have HTr:=hidF (GT.out.trans (Tn.below He.out Mo.base));have HRGr:=hidF (zBH pK.out He.out);have db:Hid (F kk=zHi ⟨a1,a2,a3,a4,a5,a6,a7,a8⟩ vs):=(by show _=_;rw[B8,HN.out];exact HC.out);clear Mo B8 pK bw Gi uJ GT HA HB HC gh Hs;generalize F kk=fk at *;obtain⟨c0,c1',c2',c3,c4,c5,c6,c7,-⟩:=wak.row8 HRGr.out;by_cases hr0:0<fk
    ·have HTL2:=hidF (zHE (w0:=w) 1 a1 fk a5 HMr.out HTr.out (by have:=U3.out;omega))
     go_wp2_with fail;refine HTL2.out.mono ?_;rintro e w2⟨rfl,Gx,-,GW⟩;clear c0 c1' c2' c3 c4 c5 c6 c7;go_wp2_with fail;go_end0
     exact⟨rfl,UJ.out _ _ (by unfold zAu;rw[←db.out,if_pos (by omega),←HS.out]) Gx.out GW.out⟩
    ·go_wp2_with fail;go_end0
     exact⟨rfl,UJ.out S1 _ (by unfold zAu;rw[←db.out,if_neg (by omega),←HS.out]) ⟨_,HMr.out⟩ HTr.out⟩
   ·have Hq:(kk:Int)<(nt:Int):=(by omega);have Hv:kk<vs.ts.length:=(by rw[←HN.out];exact Hj);have hOr:OwnT wr 0 (.slice qt nt ct) vs.ts:=Kp.ownQ (S:=[]) (Kp.below He.out) Gi.out (by simp)
    obtain⟨gz,off,rfl,hG',x0,x1,x2,x3,x4,x5⟩:=mee.OwnT.at hOr Hv;have Ck:=hidF (HB.out kk Hv);rcases mq:vs.ts[kk]! with ⟨t1,t2,t3,t4,t5,t6⟩
    rw[mq] at x0 x1 x2 x3 x4 x5 Ck;simp only[] at x0 x1 x2 x3 x4 x5 Ck;have PP:=hidF (zPW kk (by have:=pD.out;omega))
    have UG:=hidF (He.out.alloc He.out.size (.cells #[.int .i64 t1,.int .i64 t2,.int .i64 t3,.int .i64 t4,.int .i64 t5,.int .i64 t6] 29));have HM:Hid (kk<nt∧nt - kk≤gk):=⟨Hj,Hs⟩;clear hOr Hv mq Hj Hs gh pK bw Gi uJ GT HA HB HC He;have ei:=PP.out;go_wp2_with fail;go_roundg (nt - (kk+1))
    case measure=>have:=HM.out;omega
    case rel=>exact⟨kk+1,HM.out.1,nzR _,(congrArg (Value.int IntKind.i64) Ck.out),by go_num,UG.out⟩
end flr
namespace flr
open Go.RowKit
open que (R rchk)
open sid (L DL LS)
open mee (T tV OwnT sumT)
open ord (O oV chk errV wAa wAb prB)
open que (bal)
open wak (OwnM OwnQ St SL Lies oL idx Trn wAk)
theorem ord_at{w:World}{base:Nat}{q:Option Addr}{n c:Nat}{zs:List O}(h:OwnQ w base (.slice q n c) zs){k:Nat}(hk:k<zs.length):∃g off,q=some ⟨g,off,none⟩∧g<w.heap.size∧w.cell? ⟨g,off+k*8,none⟩=some (.int .i64 zs[k]!.id)∧w.cell? ⟨g,off+k*8+1,none⟩=some (.int .i64 zs[k]!.who)∧w.cell? ⟨g,off+k*8+2,none⟩=some (.int .i64 zs[k]!.side)∧w.cell? ⟨g,off+k*8+3,none⟩=some (.int .i64 zs[k]!.kind)∧w.cell? ⟨g,off+k*8+4,none⟩=some (.int .i64 zs[k]!.price)∧w.cell? ⟨g,off+k*8+5,none⟩=some (.int .i64 zs[k]!.qty)∧w.cell? ⟨g,off+k*8+6,none⟩=some (.int .i64 zs[k]!.shw)∧w.cell? ⟨g,off+k*8+7,none⟩=some (.int .i64 zs[k]!.stop):=by
 rcases h.sl with ⟨_,rfl⟩|⟨g,off,c',e,-,-,hg,hl⟩
 ·exact absurd hk (Nat.not_lt_zero _)
 ·cases e;exact⟨g,off,rfl,hg,hl k hk 0 _ rfl,hl k hk 1 _ rfl,hl k hk 2 _ rfl,hl k hk 3 _ rfl,hl k hk 4 _ rfl,hl k hk 5 _ rfl,hl k hk 6 _ rfl,hl k hk 7 _ rfl⟩
theorem TM.skrow{w w' : World}{b t:Nat}{s:TS}{v:TV}(h:TM w b t s v)(hg:w.grownBy w' (Value.slice v.qk v.nk v.ck).ownBlock):w'.heap[t]?=some (.cells (rowT s v) 77 (0,0)):=by
 rcases h.row.2 with ⟨h1,_⟩|⟨g,off,cap,cur,h1,h2,h3,_⟩
 ·rw[h1] at hg;exact(hg.block t h.lt (by simp[Value.ownBlock])).trans h.blk
 ·rw[h1] at hg;have bP : w.grownBy w' (some g):=hg;exact(Kp.grown (S:=[119]) bP h3 (by simp)).typ _ _ _ h.blk (by decide)
theorem TM.rowed{w w' : World}{b t:Nat}{s:TS}{v:TV}(h:TM w b t s v){q:Option Addr}{n c:Nat}{row:List Sl}(ho:OwnM w' b 119 9 (.slice q n c) row.length (flatK row))(hg:w.grownBy w' (Value.slice v.qk v.nk v.ck).ownBlock) :
  TM (w'.setCell ⟨t,7,none⟩ (.slice q n c)) b t { s with row:=row } { v with qk:=q,nk:=n,ck:=c }∧Tn tB b w (w'.setCell ⟨t,7,none⟩ (.slice q n c))∧Kp [77,119] w (w'.setCell ⟨t,7,none⟩ (.slice q n c)):=by
 have hk:Kp [119] w w'∧∀k,k<b→w'.heap[k]?=w.heap[k]?:=by
  rcases h.row.2 with ⟨h1,_⟩|⟨g,off,cap,cur,h1,h2,h3,_⟩
  ·rw[h1] at hg;have hB:Bw w w':=⟨hg.os,hg.tape,hg.output,hg.size,fun k hk=>hg.block k hk (by simp[Value.ownBlock])⟩
   exact⟨Kp.below hB,fun k hk=>hB.block k (by have:=h.base;omega)⟩
  ·rw[h1] at hg;have bP : w.grownBy w' (some g):=hg;exact⟨Kp.grown bP h3 (by simp),fun k hk=>bP.block k (by have:=h.base;omega) (fun e=>by cases e;omega)⟩
 have hb:=hk.1.typ _ _ _ h.blk (by decide)
 have Gb:=wak.wAc w' t 7 (.slice q n c);have GB:Kp [77] w' _:=Kp.grown Gb hb (by simp)
 have UC:Kp [77,119] w (w'.setCell ⟨t,7,none⟩ (.slice q n c)):=(hk.1.mono (by simp)).trans (GB.mono (by simp))
 refine⟨⟨jB w' t 7 _ _ _ hb,h.le,UC.dl h.buys (by decide) (by decide),UC.dl h.sells (by decide) (by decide),UC.st h.stops (by decide) (by decide),UC.pu h.purs (by decide),h.ple,UC.own h.evs (by decide),GB.own ho (by decide)⟩,⟨UC.mono (by decide),fun k dG=>?_⟩,UC⟩
 rw[Gb.block k (by have:=h.base;have:=hk.1.size;omega) (fun e=>by cases e;have:=h.le;omega)]
 exact hk.2 k dG
theorem zNv{w w' : World}{p:Nat}{v:Value}(h:w.grownBy w' (some p)):Trn w w' p v:=⟨h.os,h.tape,h.output,h.size,fun k hk h1 _=>h.block k hk (fun e=>h1 (by cases e;rfl))⟩
structure WI (b t:Nat) (s:TS) (p:Int) (q:Option Addr) (n c:Nat) (os:List O) (w:World) (k:Nat) (wr:World):Prop where
 mem:∃v1,TM wr b t { s with row:=s.row++(os.take k).map (⟨·,p⟩) } v1
 tn:Tn tB b w wr
 own:OwnQ wr 0 (.slice q n c) os
theorem zPX{os:List O}{p:Int}{k:Nat}(h:k<os.length):(os.take (k+1)).map (Sl.mk · p)=(os.take k).map (Sl.mk · p)++[⟨os[k]!,p⟩]:=by
 rw[List.take_succ_eq_append_getElem h,jF,mrg.getE os k h];rfl
theorem zNw(b t:Nat)(s:TS)(v:TV)(c:Nat)(q:Option Addr)(w:World)(h:TM w b t s v) :
  Calls prog 117 #[.pointer (some ⟨t,0,none⟩),.slice q 0 c] w (Res tB b t w (.ok s)):=by
 have HR:Hid (Res tB b t w (.ok s) (.returned .nilIface) w):=⟨Tn.refl _ _ _,rfl,v,h⟩;clear h;go_enter func117,ntmps117;go_wp2_with fail;go_ret;exact HR.out
theorem zNx(b t:Nat)(s:TS)(v:TV)(q:Option Addr)(n c:Nat)(ts:List T)(w:World)(h:TM w b t s v)(hw:Wf s)(hT:OwnT w 0 (.slice q n c) ts)(hn:0<ts.length)(hl:ts.length≤1000000)(hp:prB (ts[ts.length - 1]!).price=true)(hr:s.row.length≤900000)(x0:TS)(hX:x0 = { s with last:=(ts[ts.length - 1]!).price,ws:=wak.left (ts[ts.length - 1]!).price s.ws,row:=s.row++(wak.woke (ts[ts.length - 1]!).price s.ws).map (⟨·,(ts[ts.length - 1]!).price⟩) }) :
  Calls prog 117 #[.pointer (some ⟨t,0,none⟩),.slice q n c] w (Res tB b t w (.ok x0)):=by
 have Ma:n=ts.length:=by obtain⟨q',c',e⟩:=wak.OwnM.form hT;cases e;rfl
 obtain⟨m,hm⟩:∃m,ts.length=m+1:=⟨ts.length - 1,by omega⟩
 have Pq:ts.length - 1=m:=by omega
 rw[Pq] at hp hX;obtain⟨g,off,rfl,hG,x0',x1,x2,x3,x4,x5⟩:=mee.OwnT.at hT (k:=m) (by omega)
 clear x0' x1 x2 x3 x5;generalize (ts[m]!).price=p at *;have hnm:n=m+1:=by omega
 subst hnm;have mp:wrap64 (m:Int)=(m:Int):=by unfold wrap64;omega
 have hmI2:(m:Int)<(m:Int)+1:=by omega
 have CU:¬(m:Int)<0:=by omega
 have hmI:(m:Int)<((m+1:Nat):Int):=by omega
 have ba:¬((m+1:Nat):Int)=0:=by omega
 obtain⟨Mo,pd⟩:=h.lastP p;obtain⟨-,-,-,-,-,y5,-,-,yf⟩:=h.cells;have yf5:=yf 5;have HL20:=hidF hw.ws;have HWM:Hid (∀U,Below (w.setCell ⟨t,5,none⟩ (.int .i64 p)).heap.size (w.setCell ⟨t,5,none⟩ (.int .i64 p)) U→Calls prog 151 #[.pointer (some ⟨v.sp,0,none⟩),.int .i64 p] U fun e w'=>∃q2 m2 c2,e=.returned (.tuple #[.slice q2 m2 c2,.nilIface])∧Hid (m2=(wak.woke p s.ws).length∧WI b t { s with last:=p,ws:=wak.left p s.ws } p q2 m2 c2 (wak.woke p s.ws) w 0 w')):=fun U hU=>by
  have Um:=Mo.below hU;refine(wak.wBd p b v.sp v.vw s.ws U hp Um.stops HL20.out).mono ?_;rintro e w'⟨q2,m2,c2,v2,rfl,k1,k2,k3,k4,-,-⟩;obtain⟨k5,k6⟩:=Um.wait k3 (zNv k4);refine⟨q2,m2,c2,rfl,?_⟩;show _∧_
  exact⟨k1,⟨{ v with vw:=v2 },by simpa using k5⟩,((pd.mono tA_tB).trans (Tn.below hU Mo.base)).trans k6,k2.mono (jL _)⟩
 have HWO:Hid ((wak.woke p s.ws).length≤20):=by show _≤_;have:=wak.zIX p s.ws;have:=hw.ws;omega
 obtain⟨i0,Gg,gH,gw,gD⟩:=infoK';have HI:=hidF Gg;have HX:=hidF hX;have DT:=hidF hr;have UH:=hidF (And.intro Mo.cells.2.2.2.1 Mo.cells.2.2.2.2.2.1);obtain⟨q1,n1,c1',q2',n2,c2',sp,vw,pp,qe,ne,ce,qk,nk,ck⟩:=v;generalize wak.woke p s.ws=WO at *;clear h hw hT hn hl hp hr hX Ma hm Pq Gg Mo pd yf;go_enter func117,ntmps117;go_upto_region 4 with fail
 generalize w.setCell ⟨t,5,none⟩ (.int .i64 p)=W1 at *;obtain⟨z3,z5⟩:=UH.out;have Gf:=hidF (bzR W1.heap.size W1);clear x4 mp hmI hmI2 CU ba y5 yf5 UH hG
 go_region_with (go_at_call 151;with_reducible refine(HWM.out _ ?_).mono ?_;(with_reducible repeat' (first|exact Gf.out|assumption|refine Below.drew ?_));rintro x w2 ⟨q2,m2,c2,rfl,H6⟩)
 all_goals
  clear z3 z5 HWM Gf;go_wp2_with fail;go_loopg [8,42] m2 (fun gg _ s42 wr=>∃ (kk:Nat),kk≤m2∧m2 - kk≤gg∧s42=.int .i64 kk∧Aside (WI b t { s with last:=p,ws:=wak.left p s.ws } p q2 m2 c2 WO w kk wr))
  case atStart=>exact⟨0,jL _,by omega,rfl,H6.out.2⟩
  case round=>
   obtain⟨kk,gh,hg,rfl,HA⟩:=hrel;have Gx:=hidF H6.out.1;clear H6;by_cases Hj:kk<m2
   rotate_left
   ·have Hq:¬(kk:Int)<(m2:Int):=(by omega);obtain⟨⟨v1,hM⟩,Uz,-⟩:=HA.out;have HR:Hid (Res tB b t w (.ok x0) (.returned .nilIface) wr):=by
     refine⟨Uz,rfl,v1,?_⟩;rw[HX.out];have:=Gx.out;rw[List.take_of_length_le (by omega)] at hM
     exact hM
    clear HA hM Uz;go_wp2_with fail;go_ret;exact HR.out
   ·have Hq:(kk:Int)<(m2:Int):=(by omega);have Hv:kk<WO.length:=(by rw[←Gx.out];exact Hj);obtain⟨⟨v1,hM⟩,Uz,hO⟩:=HA.out;obtain⟨gz,oz,rfl,hGz,e0,e1,e2,e3,e4,e5,e6,e7⟩:=ord_at hO Hv;have htk:=zPX (p:=p) Hv;rcases mq:WO[kk]! with ⟨a1,a2,a3,a4,a5,a6,a7,a8⟩
    rw[mq] at e0 e1 e2 e3 e4 e5 e6 e7 htk;simp only[] at e0 e1 e2 e3 e4 e5 e6 e7;obtain⟨W3,gS⟩:∃W3,W3=wr.alloc (.cells #[.int .i64 a1,.int .i64 a2,.int .i64 a3,.int .i64 a4,.int .i64 a5,.int .i64 a6,.int .i64 a7,.int .i64 a8] 40):=⟨_,rfl⟩;have Hr:Below wr.heap.size wr W3:=(by rw[gS];exact(bzR _ _).alloc (nzR _) _);have Gm:W3.heap[wr.heap.size]?=some (.cells #[.int .i64 a1,.int .i64 a2,.int .i64 a3,.int .i64 a4,.int .i64 a5,.int .i64 a6,.int .i64 a7,.int .i64 a8] 40 (0,0)):=(by rw[gS];exact jA wr _);obtain⟨Z,hZ⟩:∃Z,Z=wr.heap.size:=⟨_,rfl⟩;rw[←hZ] at Gm;have mc:=hM.below Hr;have mP:Hid (v1.nk=s.row.length+kk∧b≤W3.heap.size):=by
     refine⟨?_,mc.base⟩;have:=hM.nk;simp only[jE,jP,jJ] at this;omega
    have PP:=hidF (zPW kk (by have:=Gx.out;have:=HWO.out;omega))
    have uF:Hid (OwnM W3 b 119 9 (.slice v1.qk v1.nk v1.ck) v1.nk (flatK (s.row++(WO.take kk).map (⟨·,p⟩)))):=by
     show OwnM _ _ _ _ _ _ _
     have h1:=mc.row;have h2:=mc.nk;rw[←h2] at h1;exact h1
    have Gs:Hid (∀U w' v',Below W3.heap.size W3 U→OwnM w' b 119 9 v' (v1.nk+1) (flatK (s.row++(WO.take kk).map (⟨·,p⟩))++[.int .i64 a1,.int .i64 a2,.int .i64 a3,.int .i64 a4,.int .i64 a5,.int .i64 a6,.int .i64 a7,.int .i64 a8,.int .i64 p])→U.grownBy w' (Value.slice v1.qk v1.nk v1.ck).ownBlock→∃q' n' c',v'=.slice q' n' c'∧(w'.cell? ⟨t,7,none⟩=some (.slice v1.qk v1.nk v1.ck)∧w'.frozen? ⟨t,7,none⟩=false)∧Hid (WI b t { s with last:=p,ws:=wak.left p s.ws } p (some ⟨gz,oz,none⟩) m2 c2 WO w (kk+1) (w'.setCell ⟨t,7,none⟩ (.slice q' n' c')))):=fun U w' v' hU ho Hw=>by
     obtain⟨q',c',rfl⟩:=wak.OwnM.form ho;have Um:=mc.below hU;obtain⟨-,-,-,-,-,-,-,y7,yf⟩:=wak.row8 (Um.skrow Hw);have el:v1.nk+1=(s.row++(WO.take (kk+1)).map (Sl.mk · p)).length:=by
      rw[htk,mP.out.1];simp only[jE,jP,jJ,jG,List.length_nil];omega
     have ef:flatK (s.row++(WO.take kk).map (⟨·,p⟩))++[.int .i64 a1,.int .i64 a2,.int .i64 a3,.int .i64 a4,.int .i64 a5,.int .i64 a6,.int .i64 a7,.int .i64 a8,.int .i64 p]=flatK (s.row++(WO.take (kk+1)).map (Sl.mk · p)):=by
      rw[htk,←jS,zHh (s.row++_),zMI];rfl
     rw[ef] at ho;have Mt:OwnM w' b 119 9 (.slice q' (v1.nk+1) c') (s.row++(WO.take (kk+1)).map (Sl.mk · p)).length (flatK (s.row++(WO.take (kk+1)).map (Sl.mk · p))):=(by rw[←el];exact ho);obtain⟨k1,k2,k3⟩:=Um.rowed Mt Hw;refine⟨q',_,c',rfl,⟨y7,yf 7⟩,?_⟩;show WI _ _ _ _ _ _ _ _ _ _ _
     have GV:=Hr.trans (hU.mono Hr.size);exact⟨⟨_,k1⟩,(Uz.trans (Tn.below GV hM.base)).trans k2,k3.own (hO.below GV) (by decide)⟩
    have HM:Hid (kk<m2∧m2 - kk≤gk):=⟨Hj,hg⟩;have HNK:Hid (v1.nk≤999999):=(by show _≤_;have:=mP.out.1;have:=Gx.out;have:=HWO.out;have:=DT.out;omega);have HC3:=hidF mc.cells;have Ce:=hidF Gm;clear hM Uz hO mc Hr Gm HA Hj hg gh Hv mq htk;go_upto_region 10 with fail
    rw[←gS];simp only[←hZ];clear e0 e1 e2 e3 e4 e5 e6 e7 gS hZ hGz;obtain⟨-,-,-,-,-,y5,-,y7,-⟩:=HC3.out;obtain⟨z0,z1,z2,z3,z4,z5,z6,z7,-⟩:=wak.row8 Ce.out;have hZ2:Z<W3.heap.size:=(gzE.1 Ce.out).1;have PD:t<W3.heap.size:=(by rcases Nat.lt_or_ge t W3.heap.size with h|h;exact h;exact absurd y5 (by simp[World.cell?,Array.getElem?_eq_none h]));have GL:=mP.out.2;have bf:=HNK.out;have ei:=PP.out;obtain⟨r1,r2,r3,r4,r5,r6,r7,r8,r9,qe,ne,ce,qk,nk,ck⟩:=v1;simp only[] at y5 y7 bf uF Gs;clear HC3 Ce mP HNK;generalize flatK (s.row++(WO.take kk).map (⟨·,p⟩))=FE at *
    go_region_law (refine wAk _ rfl _ _ 75 rfl b 119 i0 zRC 9 72 underlying75 HI.out gH gw gD rfl (.slice qk nk ck) nk FE rfl (wak.OwnM.below uF.out (by(with_reducible repeat' (first|assumption|refine bal ?_ _|refine Below.drew ?_|exact bzR _ _)))) _ 1 1 [.int .i64 a1,.int .i64 a2,.int .i64 a3,.int .i64 a4,.int .i64 a5,.int .i64 a6,.int .i64 a7,.int .i64 a8,.int .i64 p] rfl rfl (World.news_of_block (cs:=#[.int .i64 a1,.int .i64 a2,.int .i64 a3,.int .i64 a4,.int .i64 a5,.int .i64 a6,.int .i64 a7,.int .i64 a8,.int .i64 p]) (jA _ _)) (by simp[Value.oneCell']) (by unfold maxLen;omega) (by omega) (jM GL (Below.size (w:=W3) (B:=W3.heap.size) (by(with_reducible repeat' (first|assumption|refine bal ?_ _|refine Below.drew ?_|exact bzR _ _))))) ?_;intro v' w' gA Hw Gk;obtain⟨q',n',c',rfl,⟨CD,Uy⟩,md⟩:=Gs.out _ _ _ (by(with_reducible repeat' (first|assumption|refine bal ?_ _|refine Below.drew ?_|exact bzR _ _))) gA Hw)
    all_goals
     clear Gs uF z0 z1 z2 z3 z4 z5 z6 z7 y5 y7 gA Hw;go_wp2_with fail;go_roundg (m2 - (kk+1))
     case measure=>have:=HM.out;omega
     case rel=>exact⟨kk+1,HM.out.1,nzR _,by go_num,md.out⟩
theorem wBd(b t:Nat)(s:TS)(v:TV)(q:Option Addr)(n c:Nat)(ts:List T)(w:World)(h:TM w b t s v)(hw:Wf s)(hT:OwnT w 0 (.slice q n c) ts)(hl:ts.length≤1000000)(hp:∀x∈ts,prB x.price=true)(hr:s.row.length≤900000) :
  Calls prog 117 #[.pointer (some ⟨t,0,none⟩),.slice q n c] w (Res tB b t w (zCP s ts)):=by
 have Ma:n=ts.length:=by obtain⟨q',c',e⟩:=wak.OwnM.form hT;cases e;rfl
 unfold zCP;by_cases h0:ts=[]
 ·rw[if_pos h0];subst h0;subst Ma;exact zNw b t s v c q w h
 ·rw[if_neg h0];have uA:0<ts.length:=List.length_pos_iff.2 h0;have pi:prB (ts[ts.length - 1]!).price=true:=by
   rw[mrg.getE ts (ts.length - 1) (by omega)]
   exact hp _ (jT _)
  rw[if_pos pi];exact zNx b t s v q n c ts w h hw hT uA hl pi hr _ rfl
end flr
end Go.Proofs.YtmhcghgfpfainaaGreatDoor
