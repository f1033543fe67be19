import Derived.Test.YtnfilcpnneckkaaGreatFlrFb
set_option maxHeartbeats 4000000
set_option maxRecDepth 100000
namespace Go.Proofs.YtnfilcpnneckkaaGreat
open Go.Proofs.Tryz
namespace flr
open Go.RowKit
open que (R rchk)
open sid (L DL LS)
open mee (T tV OwnT sumT)
open ord (O oV chk errV wAa wAb prB)
open que (bal)
open pur (Pz Pu Ok flatP pL)
open wak (OwnM OwnQ St SL Lies oL idx Trn)
def FrPost(f:FS)(v:FV)(w:World)(e:Ending)(w' : World):Prop:=
 ∃sp vw pp,e=.returned (.agg #[.int .i64 f.mode,.slice v.q1 v.n1 v.c1,.slice v.q2 v.n2 v.c2,.pointer (some ⟨sp,0,none⟩),.pointer (some ⟨pp,0,none⟩),.int .i64 f.last])∧St w' w.heap.size sp vw f.ws∧Pu 98 9 w' pp f.ps∧w.heap.size≤pp∧Bw w w'
theorem zKc(F:Nat)(f:FS)(v:FV)(w:World)(h:FM w F f v)(hl:f.ws.length≤20) :
  Calls prog 15 #[.pointer (some ⟨F,0,none⟩)] w fun e w'=>FrPost f v w e w':=by
 obtain⟨W,hW⟩:∃W,W=w.alloc (.cells #[.int .i64 0,.slice none 0 0,.slice none 0 0,.pointer none,.pointer none,.int .i64 0] 69):=⟨_,rfl⟩;have Hj:Below w.heap.size w W:=by rw[hW];exact(bzR _ _).alloc (nzR _) _
 have Hd:W.heap[w.heap.size]?=some (.cells #[.int .i64 0,.slice none 0 0,.slice none 0 0,.pointer none,.pointer none,.int .i64 0] 69 (0,0)):=by rw[hW];exact jA w _
 obtain⟨G,hG⟩:∃G,G=w.heap.size:=⟨_,rfl⟩;rw[←hG] at Hd;have HSF:Hid (∀U,Below W.heap.size W U→Calls prog 29 #[.pointer (some ⟨v.sp,0,none⟩)] U fun e w'=>∃p' v',e=.returned (.pointer (some ⟨p',0,none⟩))∧Hid (St w' w.heap.size p' v' f.ws)∧Below W.heap.size W w'∧Hid (Below U.heap.size U w')):=fun U hU=>by
  have GU:=Hj.trans (hU.mono Hj.size);refine(zKa 0 v.sp v.vw f.ws U (h.below GU).stops (by omega)).mono ?_
  rintro e w'⟨p',v',rfl,k1,k2⟩;exact⟨p',v',rfl,zGl k1 GU.size,hU.trans (k2.mono hU.size),k2⟩
 have Uj:Hid (∀U,Below W.heap.size W U→Calls prog 30 #[.pointer (some ⟨v.pp,0,none⟩)] U fun e w'=>∃pp',e=.returned (.pointer (some ⟨pp',0,none⟩))∧Hid (w.heap.size≤pp'∧Pu 98 9 w' pp' f.ps)∧Below W.heap.size W w'∧Hid (Below U.heap.size U w')):=fun U hU=>by
  have GU:=Hj.trans (hU.mono Hj.size);refine(zKb v.pp f.ps U (h.below GU).purs).mono ?_;rintro e w'⟨rfl,k1,k2⟩;exact⟨_,rfl,⟨GU.size,k1⟩,hU.trans (k2.mono hU.size),k2⟩
 have SO:Hid (∀U,Below w.heap.size w U→U.cell? ⟨F,0,none⟩=some (.int .i64 f.mode)∧U.cell? ⟨F,1,none⟩=some (.slice v.q1 v.n1 v.c1)∧U.cell? ⟨F,2,none⟩=some (.slice v.q2 v.n2 v.c2)∧U.cell? ⟨F,3,none⟩=some (.pointer (some ⟨v.sp,0,none⟩))∧U.cell? ⟨F,4,none⟩=some (.pointer (some ⟨v.pp,0,none⟩))∧U.cell? ⟨F,5,none⟩=some (.int .i64 f.last)):=fun U hU=>by
  obtain⟨a,b,c,d,e,g,-⟩:=(h.below hU).cells;exact⟨a,b,c,d,e,g⟩
 have My:=hidF Hd;have gF:=hidF Hj;have HGS:=hidF hG;have Gc:=hidF (bzR W.heap.size W);have MB:Hid (∀U,Below W.heap.size W U→Below w.heap.size w U):=fun U hU=>Hj.trans (hU.mono Hj.size)
 have HGL:Hid (w.heap.size≤G):=by show _≤_;omega
 have uE:Hid (∀Z p' v' pp',St Z w.heap.size p' v' f.ws→(w.heap.size≤pp'∧Pu 98 9 Z pp' f.ps)→Below W.heap.size W Z→∀x0 x1 x2 x3 x4 x5,St ((((((Z.setCell ⟨G,0,none⟩ x0).setCell ⟨G,1,none⟩ x1).setCell ⟨G,2,none⟩ x2).setCell ⟨G,3,none⟩ x3).setCell ⟨G,4,none⟩ x4).setCell ⟨G,5,none⟩ x5) w.heap.size p' v' f.ws∧w.heap.size≤pp'∧Pu 98 9 ((((((Z.setCell ⟨G,0,none⟩ x0).setCell ⟨G,1,none⟩ x1).setCell ⟨G,2,none⟩ x2).setCell ⟨G,3,none⟩ x3).setCell ⟨G,4,none⟩ x4).setCell ⟨G,5,none⟩ x5) pp' f.ps∧Below w.heap.size w ((((((Z.setCell ⟨G,0,none⟩ x0).setCell ⟨G,1,none⟩ x1).setCell ⟨G,2,none⟩ x2).setCell ⟨G,3,none⟩ x3).setCell ⟨G,4,none⟩ x4).setCell ⟨G,5,none⟩ x5)∧((((((Z.setCell ⟨G,0,none⟩ x0).setCell ⟨G,1,none⟩ x1).setCell ⟨G,2,none⟩ x2).setCell ⟨G,3,none⟩ x3).setCell ⟨G,4,none⟩ x4).setCell ⟨G,5,none⟩ x5).heap[G]?=some (.cells #[x0,x1,x2,x3,x4,x5] 69 (0,0))):=fun Z p' v' pp' hs hp hb x0 x1 x2 x3 x4 x5=>by
  have hrZ:=zBL Hd hb;have hg:=gr6 Z G x0 x1 x2 x3 x4 x5;have hk:Kp [69] Z _:=Kp.grown hg hrZ (by simp)
  have MW:=Hj.trans (hb.mono Hj.size);exact⟨hk.st hs (by decide) (by decide),hp.1,hk.pu hp.2 (by decide),MW.grown hg MW.size (fun k hk=>by cases hk;omega),set6 hrZ _ _ _ _ _ _⟩
 obtain⟨q1,n1,c1,q2,n2,c2,sp,vw,pp⟩:=v;simp only[] at SO HSF Uj;unfold FrPost;simp only[];generalize f.mode=M at *;generalize f.last=LA at *;clear h hl Hj Hd;go_enter func15,ntmps15;go_upto_region 1 with fail
 rw[←hW];simp only[←hG];clear hW hG;have hS0:=SO.out W (MB.out _ Gc.out);go_region_held3 (fun W=>W.cell? ⟨F,0,none⟩=some (.int .i64 M)∧W.cell? ⟨F,1,none⟩=some (.slice q1 n1 c1)∧W.cell? ⟨F,2,none⟩=some (.slice q2 n2 c2)∧W.cell? ⟨F,3,none⟩=some (.pointer (some ⟨sp,0,none⟩))∧W.cell? ⟨F,4,none⟩=some (.pointer (some ⟨pp,0,none⟩))∧W.cell? ⟨F,5,none⟩=some (.int .i64 LA))
  (first|with_reducible assumption|(refine SO.out _ ?_;(repeat' (first|with_reducible assumption|with_reducible refine Below.setCell ?_ ?_ _|with_reducible refine Below.drew ?_|with_reducible exact HGL.out|(refine MB.out _ ?_;(first|with_reducible exact Gc.out|with_reducible assumption))));done))
  (first|(go_at_call 29;with_reducible refine(HSF.out _ ?_).mono ?_;(with_reducible repeat' (first|exact Gc.out|assumption|refine Below.drew ?_));rintro x wS ⟨spN,vwN,rfl,uY,hbS,HBS⟩;obtain⟨g0,g1,g2,g3,g4,g5,gf⟩:=zEH (zBL My.out hbS);have gf0:=gf 0;have gf1:=gf 1;have gf2:=gf 2;have gf3:=gf 3;have gf4:=gf 4;have gf5:=gf 5;clear gf;have pV:=SO.out _ (MB.out _ hbS))|(go_at_call 30;with_reducible refine(Uj.out _ ?_).mono ?_;(with_reducible repeat' (first|exact Gc.out|assumption|refine Below.drew ?_));rintro x wP ⟨ppN,rfl,cR,hbP,C2⟩;obtain⟨g0,g1,g2,g3,g4,g5,gf⟩:=zEH (zBL My.out hbP);have gf0:=gf 0;have gf1:=gf 1;have gf2:=gf 2;have gf3:=gf 3;have gf4:=gf 4;have gf5:=gf 5;clear gf;have hSP:=SO.out _ (MB.out _ hbP)))
 have GB:Below wS.heap.size wS wP:=C2.out;obtain⟨f1,f2,f3,f4,f5⟩:=uE.out wP spN vwN ppN (uY.out.below GB) cR.out hbP (.int .i64 M) (.slice q1 n1 c1) (.slice q2 n2 c2) (.pointer (some ⟨spN,0,none⟩)) (.pointer (some ⟨ppN,0,none⟩)) (.int .i64 LA);clear GB hbP hbS uY HBS cR C2 pV hSP hS0 g0 g1 g2 g3 g4 g5 gf0 gf1 gf2 gf3 gf4 gf5 SO HSF Uj uE;generalize (((((wP.setCell ⟨G,0,none⟩ (.int .i64 M)).setCell ⟨G,1,none⟩ (.slice q1 n1 c1)).setCell ⟨G,2,none⟩ (.slice q2 n2 c2)).setCell ⟨G,3,none⟩ (.pointer (some ⟨spN,0,none⟩))).setCell ⟨G,4,none⟩ (.pointer (some ⟨ppN,0,none⟩))).setCell ⟨G,5,none⟩ (.int .i64 LA)=Y at *;obtain⟨y0,y1,y2,y3,y4,y5,-⟩:=zEH f5;go_wp2_with fail
 exact jN (v:=.agg #[.int .i64 M,.slice q1 n1 c1,.slice q2 n2 c2,.pointer (some ⟨spN,0,none⟩),.pointer (some ⟨ppN,0,none⟩),.int .i64 LA]) (by simp[results,results15,go_sem,y0,y1,y2,y3,y4,y5]) rfl ⟨spN,vwN,ppN,rfl,f1,f3,f2,f4⟩
end flr
namespace flr
open Go.RowKit
open que (R rchk)
open sid (L DL LS)
open mee (T tV OwnT sumT)
open ord (O oV chk errV wAa wAb)
open que (bal)
open wak (OwnM St SL Lies oL idx Trn)
theorem zKd(ts:List T)(k:Nat)(hk:k<ts.length):sumT (ts.take (k+1))=sumT (ts.take k)+ts[k]!.qty:=mrg.zMu ts k hk
theorem zIe(ts:List T)(h:∀x∈ts,1≤x.qty):0≤sumT ts:=by
 induction ts with
 | nil=>exact jY _
 | cons x t ih=>
  have:=h x (by simp)
  have:=ih (fun y hy=>h y (by simp[hy]))
  simp only[sumT];omega
theorem zMR(ts:List T)(k:Nat)(h:∀x∈ts,1≤x.qty):0≤sumT (ts.take k)∧sumT (ts.take k)≤sumT ts:=by
 refine⟨zIe _ fun x hx=>h x (List.mem_of_mem_take hx),?_⟩
 have h1:sumT (ts.take k++ts.drop k)=sumT (ts.take k)+sumT (ts.drop k):=mee.zCO _ _;rw[jR] at h1;have:=zIe (ts.drop k) fun x hx=>h x (List.mem_of_mem_drop hx)
 omega
theorem zMS{o:O}{v:Vs}(h:VO o v):wrap64 (o.qty - v.gone)=o.qty - v.gone - sumT (v.ts.take 0)∧(∀k,k<v.ts.length→wrap64 (o.qty - v.gone - sumT (v.ts.take k) - v.ts[k]!.qty)=o.qty - v.gone - sumT (v.ts.take (k+1)))∧o.qty - v.gone - sumT (v.ts.take v.ts.length)=zHb o v:=by
 have hq:=(mrg.zCy h.ck).2.2;have g0:=h.g0;have g1:=h.g1;have h1:∀x∈v.ts,1≤x.qty:=fun x hx=>(h.each x hx).1
 have h2:=zIe v.ts h1;refine⟨?_,fun k hk=>?_,?_⟩
 ·rw[List.take_zero];show _=_ - _ - 0;unfold wrap64;omega
 ·have h3:=zMR v.ts (k+1) h1;rw[zKd _ _ hk] at h3 ⊢;unfold wrap64;omega
 ·rw[List.take_length];rfl
theorem zHt{b t:Nat}{s:TS}{v:TV}{w0 w:World}(what id qty price:Int)(h:TM w b t s v)(h0:Tn tA b w0 w)(hl:s.evs.length≤1000000) :
  Calls prog 36 #[.pointer (some ⟨t,0,none⟩),.int .i64 what,.int .i64 id,.int .i64 qty,.int .i64 price] w fun e w'=>e=.returned (.tuple #[])∧Hid (∃v',TM w' b t (tell s what id qty price) v')∧Hid (Tn tA b w w')∧Hid (Tn tA b w0 w'):=by
 refine(zFX b t s v what id qty price w h hl).mono ?_;rintro e w'⟨rfl,h1,h2⟩;exact⟨rfl,h1,h2,h0.trans h2⟩
theorem zHu(b t:Nat)(s:TS)(v:TV)(a1 a2 a3 a4 a5 a6 a7 a8:Int)(q1 q2 qt qi:Option Addr)(n1 c1 n2 c2 nt ct ni ci:Nat)(g:Int)(vs:Vs)(w:World)(h:TM w b t s v)(hO:OwnT w 0 (.slice qt nt ct) vs.ts)(hg:g=vs.gone)(hv:VO ⟨a1,a2,a3,a4,a5,a6,a7,a8⟩ vs)(hl:s.evs.length≤999000) :
  Calls prog 95 #[.pointer (some ⟨t,0,none⟩),.agg #[.int .i64 a1,.int .i64 a2,.int .i64 a3,.int .i64 a4,.int .i64 a5,.int .i64 a6,.int .i64 a7,.int .i64 a8],.agg #[.slice q1 n1 c1,.slice q2 n2 c2,.slice qt nt ct,.int .i64 g,.slice qi ni ci]] w fun e w'=>e=.returned (.tuple #[])∧(∃v',TM w' b t (zAv s ⟨a1,a2,a3,a4,a5,a6,a7,a8⟩ vs) v')∧Tn tA b w w':=by
 have hn:nt=vs.ts.length:=by obtain⟨q',c',e⟩:=wak.OwnM.form hO;cases e;rfl
 obtain⟨W1,H7⟩:∃W,W=w.alloc (.cells #[.int .i64 a1,.int .i64 a2,.int .i64 a3,.int .i64 a4,.int .i64 a5,.int .i64 a6,.int .i64 a7,.int .i64 a8] 34):=⟨_,rfl⟩;have Hc:Below w.heap.size w W1:=by rw[H7];exact(bzR _ _).alloc (nzR _) _
 have Hl:W1.heap.size=w.heap.size+1:=by rw[H7];simp
 have gq:W1.heap[w.heap.size]?=some (.cells #[.int .i64 a1,.int .i64 a2,.int .i64 a3,.int .i64 a4,.int .i64 a5,.int .i64 a6,.int .i64 a7,.int .i64 a8] 34 (0,0)):=by rw[H7];exact jA w _
 obtain⟨W,hW⟩:∃W,W=W1.alloc (.cells #[.slice q1 n1 c1,.slice q2 n2 c2,.slice qt nt ct,.int .i64 g,.slice qi ni ci] 127):=⟨_,rfl⟩;have Ha:Below W1.heap.size W1 W:=by rw[hW];exact(bzR _ _).alloc (nzR _) _
 have H5:W.heap[w.heap.size+1]?=some (.cells #[.slice q1 n1 c1,.slice q2 n2 c2,.slice qt nt ct,.int .i64 g,.slice qi ni ci] 127 (0,0)):=by rw[←Hl,hW];exact jA W1 _
 have Hj:=Hc.trans (Ha.mono Hc.size);obtain⟨G,hG⟩:∃G,G=w.heap.size:=⟨_,rfl⟩;have bR:W.heap[G]?=some (.cells #[.int .i64 a1,.int .i64 a2,.int .i64 a3,.int .i64 a4,.int .i64 a5,.int .i64 a6,.int .i64 a7,.int .i64 a8] 34 (0,0)):=by rw[hG];exact zBL gq Ha
 rw[←hG] at H5;have HM0:=hidF (h.below Hj);have ua:=hidF (Tn.below (S:=tA) Hj h.base);have cN:Hid (OwnT W 0 (.slice qt nt ct) vs.ts):=Kp.ownQ (S:=[]) (Kp.below Hj) hO (by simp)
 obtain⟨hA,hB,hC⟩:=zMS hv;obtain⟨F,hF⟩:∃F:Nat→Int,∀k,a6 - vs.gone - sumT (vs.ts.take k)=F k:=⟨_,fun _=>rfl⟩
 simp only[hF] at hA hB hC;rw[←hg] at hA;have HA:=hidF hA;have HB:=hidF hB;have HC:=hidF hC;have HL:=hidF hl;have HN:=hidF hn;have DC:Hid (nt≤1000000):=by show _≤_;rw[hn];have:=hv.len;omega
 have My:=hidF bR;have HRV:=hidF H5;have HGV:=hidF hg;obtain⟨c0,c1',c2',c3,c4,c5,c6,c7,-⟩:=wak.row8 bR;obtain⟨v0,v1,v2,v3,v4,-⟩:=sid.zAi H5;have uE:Hid (∀S1 w',(S1=zAv s ⟨a1,a2,a3,a4,a5,a6,a7,a8⟩ vs)→(∃v',TM w' b t S1 v')→Tn tA b w w'→(∃v',TM w' b t (zAv s ⟨a1,a2,a3,a4,a5,a6,a7,a8⟩ vs) v')∧Tn tA b w w'):=fun S1 w' e h1 h2=>by subst e;exact⟨h1,h2⟩
 clear h hO hv hl bR gq H5 Hc Ha Hl Hj hA hB hC hn hF hg;by_cases Ex:0<g
 case' pos=>
  have G0:=hidF (zHt (w0:=w) 3 a1 g a5 HM0.out ua.out (by have:=HL.out;omega))
  have HS:Hid (tell s 3 a1 g a5=zAA s ⟨a1,a2,a3,a4,a5,a6,a7,a8⟩ vs):=by show _=_;unfold zAA;rw[←HGV.out,if_pos Ex]
  go_enter func95,ntmps95;go_upto_region 1 with fail
  rw[←H7,←hW];simp only[←hG];clear hW H7 hG;go_wp2_with fail;refine G0.out.mono ?_;rintro e w1⟨rfl,U0,GW,ub⟩;have pF:=hidF (GW.out.kp.typ _ _ _ My.out (by decide))
  have bl:=hidF (GW.out.kp.typ _ _ _ HRV.out (by decide))
  have Gu:Hid (OwnT w1 0 (.slice qt nt ct) vs.ts):=GW.out.kp.ownQ cN.out (by decide)
  clear GW G0 c0 c1' c2' c3 c4 c5 c6 c7 v0 v1 v2 v3 v4 My HRV cN HM0 ua;have Uf:Hid ((tell s 3 a1 g a5).evs.length≤999999):=by show _≤_;have:=HL.out;simp only[tell,jE,jG,List.length_nil];omega
  generalize tell s 3 a1 g a5=S1 at *
 case' neg=>
  have HS:Hid (s=zAA s ⟨a1,a2,a3,a4,a5,a6,a7,a8⟩ vs):=by show _=_;unfold zAA;rw[←HGV.out,if_neg Ex]
  have U0:Hid (∃v',TM W b t s v'):=⟨_,HM0.out⟩;have Uf:Hid (s.evs.length≤999999):=by show _≤_;have:=HL.out;omega
  have ub:=ua;have pF:=My;have bl:=HRV;have Gu:=cN;go_enter func95,ntmps95;go_upto_region 1 with fail
  rw[←H7,←hW];simp only[←hG];clear hW H7 hG My HRV cN HM0 ua;go_upto_region 3 with fail
  clear c0 c1' c2' c3 c4 c5 c6 c7 v0 v1 v2 v3 v4;obtain⟨S1,du⟩:∃S1,S1=s:=⟨_,rfl⟩;rw[←du] at U0 Uf;have HS:Hid (S1=zAA s ⟨a1,a2,a3,a4,a5,a6,a7,a8⟩ vs):=by show _=_;rw[du];exact HS.out
  clear du;generalize W=w1 at *
 all_goals
  obtain⟨c0,c1',c2',c3,c4,c5,c6,c7,-⟩:=wak.row8 pF.out;obtain⟨v0,v1,v2,v3,v4,-⟩:=sid.zAi bl.out;go_wp2_with fail;go_loopg [6,8,28] nt (fun gg s6 _ s28 wr=>∃ (kk:Nat),kk≤nt∧nt - kk≤gg∧s6=.int .i64 (F kk)∧s28=.int .i64 kk∧Aside (Below w1.heap.size w1 wr))
  case atStart=>exact⟨0,jL _,by omega,congrArg (Value.int IntKind.i64) HA.out,rfl,bzR _ _⟩
  case round=>
   obtain⟨kk,gd,Hu,rfl,rfl,He⟩:=hrel;clear c0 c1' c2' c3 c4 c5 c6 c7 v0 v1 v2 v3 v4;by_cases Hi:kk<nt
   rotate_left
   ·have Hp:¬(kk:Int)<(nt:Int):=(by omega);have BO:kk=nt:=(by omega);obtain⟨v1',Mf⟩:=U0.out;have HMr:=hidF (Mf.below He.out);have HTr:=hidF (ub.out.trans (Tn.below He.out Mf.base));have HRGr:=hidF (zBL pF.out He.out);have C4:Hid (F kk=zHb ⟨a1,a2,a3,a4,a5,a6,a7,a8⟩ vs):=(by show _=_;rw[BO,HN.out];exact HC.out);clear Mf BO pF bl Gu U0 ub HA HB HC gd Hu;generalize F kk=fk at *;obtain⟨c0,c1',c2',c3,c4,c5,c6,c7,-⟩:=wak.row8 HRGr.out;by_cases hr0:0<fk
    ·have HTL2:=hidF (zHt (w0:=w) 1 a1 fk a5 HMr.out HTr.out (by have:=Uf.out;omega))
     go_wp2_with fail;refine HTL2.out.mono ?_;rintro e w2⟨rfl,GN,-,GV⟩;clear c0 c1' c2' c3 c4 c5 c6 c7;go_wp2_with fail;go_end0
     exact⟨rfl,uE.out _ _ (by unfold zAv;rw[←C4.out,if_pos (by omega),←HS.out]) GN.out GV.out⟩
    ·go_wp2_with fail;go_end0
     exact⟨rfl,uE.out S1 _ (by unfold zAv;rw[←C4.out,if_neg (by omega),←HS.out]) ⟨_,HMr.out⟩ HTr.out⟩
   ·have Hp:(kk:Int)<(nt:Int):=(by omega);have Hs:kk<vs.ts.length:=(by rw[←HN.out];exact Hi);have hOr:OwnT wr 0 (.slice qt nt ct) vs.ts:=Kp.ownQ (S:=[]) (Kp.below He.out) Gu.out (by simp)
    obtain⟨gz,off,rfl,hG',x0,x1,x2,x3,x4,x5⟩:=mee.OwnT.at hOr Hs;have Cd:=hidF (HB.out kk Hs);rcases mg:vs.ts[kk]! with ⟨t1,t2,t3,t4,t5,t6⟩
    rw[mg] at x0 x1 x2 x3 x4 x5 Cd;simp only[] at x0 x1 x2 x3 x4 x5 Cd;have MZ:=hidF (zPx kk (by have:=DC.out;omega))
    have Uu:=hidF (He.out.alloc He.out.size (.cells #[.int .i64 t1,.int .i64 t2,.int .i64 t3,.int .i64 t4,.int .i64 t5,.int .i64 t6] 38));have HM:Hid (kk<nt∧nt - kk≤gk):=⟨Hi,Hu⟩;clear hOr Hs mg Hi Hu gd pF bl Gu U0 ub HA HB HC He;have ei:=MZ.out;go_wp2_with fail;go_roundg (nt - (kk+1))
    case measure=>have:=HM.out;omega
    case rel=>exact⟨kk+1,HM.out.1,nzR _,(congrArg (Value.int IntKind.i64) Cd.out),by go_num,Uu.out⟩
end flr
namespace flr
open Go.RowKit
open que (R rchk)
open sid (L DL LS)
open mee (T tV OwnT sumT)
open ord (O oV chk errV wAa wAb prB)
open que (bal)
open wak (OwnM OwnQ St SL Lies oL idx Trn wAj)
theorem ord_at{w:World}{base:Nat}{q:Option Addr}{n c:Nat}{zs:List O}(h:OwnQ w base (.slice q n c) zs){k:Nat}(hk:k<zs.length):∃g off,q=some ⟨g,off,none⟩∧g<w.heap.size∧w.cell? ⟨g,off+k*8,none⟩=some (.int .i64 zs[k]!.id)∧w.cell? ⟨g,off+k*8+1,none⟩=some (.int .i64 zs[k]!.who)∧w.cell? ⟨g,off+k*8+2,none⟩=some (.int .i64 zs[k]!.side)∧w.cell? ⟨g,off+k*8+3,none⟩=some (.int .i64 zs[k]!.kind)∧w.cell? ⟨g,off+k*8+4,none⟩=some (.int .i64 zs[k]!.price)∧w.cell? ⟨g,off+k*8+5,none⟩=some (.int .i64 zs[k]!.qty)∧w.cell? ⟨g,off+k*8+6,none⟩=some (.int .i64 zs[k]!.shw)∧w.cell? ⟨g,off+k*8+7,none⟩=some (.int .i64 zs[k]!.stop):=by
 rcases h.sl with ⟨_,rfl⟩|⟨g,off,c',e,-,-,hg,hl⟩
 ·exact absurd hk (Nat.not_lt_zero _)
 ·cases e;exact⟨g,off,rfl,hg,hl k hk 0 _ rfl,hl k hk 1 _ rfl,hl k hk 2 _ rfl,hl k hk 3 _ rfl,hl k hk 4 _ rfl,hl k hk 5 _ rfl,hl k hk 6 _ rfl,hl k hk 7 _ rfl⟩
theorem TM.skrow{w w' : World}{b t:Nat}{s:TS}{v:TV}(h:TM w b t s v)(hg:w.grownBy w' (Value.slice v.qk v.nk v.ck).ownBlock):w'.heap[t]?=some (.cells (rowT s v) 73 (0,0)):=by
 rcases h.row.2 with ⟨h1,_⟩|⟨g,off,cap,cur,h1,h2,h3,_⟩
 ·rw[h1] at hg;exact(hg.block t h.lt (by simp[Value.ownBlock])).trans h.blk
 ·rw[h1] at hg;have bE : w.grownBy w' (some g):=hg;exact(Kp.grown (S:=[105]) bE h3 (by simp)).typ _ _ _ h.blk (by decide)
theorem TM.rowed{w w' : World}{b t:Nat}{s:TS}{v:TV}(h:TM w b t s v){q:Option Addr}{n c:Nat}{row:List Sl}(ho:OwnM w' b 105 9 (.slice q n c) row.length (zBH row))(hg:w.grownBy w' (Value.slice v.qk v.nk v.ck).ownBlock) :
  TM (w'.setCell ⟨t,7,none⟩ (.slice q n c)) b t { s with row:=row } { v with qk:=q,nk:=n,ck:=c }∧Tn tB b w (w'.setCell ⟨t,7,none⟩ (.slice q n c))∧Kp [73,105] w (w'.setCell ⟨t,7,none⟩ (.slice q n c)):=by
 have hk:Kp [105] w w'∧∀k,k<b→w'.heap[k]?=w.heap[k]?:=by
  rcases h.row.2 with ⟨h1,_⟩|⟨g,off,cap,cur,h1,h2,h3,_⟩
  ·rw[h1] at hg;have hB:Bw w w':=⟨hg.os,hg.tape,hg.output,hg.size,fun k hk=>hg.block k hk (by simp[Value.ownBlock])⟩
   exact⟨Kp.below hB,fun k hk=>hB.block k (by have:=h.base;omega)⟩
  ·rw[h1] at hg;have bE : w.grownBy w' (some g):=hg;exact⟨Kp.grown bE h3 (by simp),fun k hk=>bE.block k (by have:=h.base;omega) (fun e=>by cases e;omega)⟩
 have hb:=hk.1.typ _ _ _ h.blk (by decide)
 have Ge:=wak.wAc w' t 7 (.slice q n c);have Gg:Kp [73] w' _:=Kp.grown Ge hb (by simp)
 have uS:Kp [73,105] w (w'.setCell ⟨t,7,none⟩ (.slice q n c)):=(hk.1.mono (by simp)).trans (Gg.mono (by simp))
 refine⟨⟨jB w' t 7 _ _ _ hb,h.le,uS.dl h.buys (by decide) (by decide),uS.dl h.sells (by decide) (by decide),uS.st h.stops (by decide) (by decide),uS.pu h.purs (by decide),h.ple,uS.own h.evs (by decide),Gg.own ho (by decide)⟩,⟨uS.mono (by decide),fun k dG=>?_⟩,uS⟩
 rw[Ge.block k (by have:=h.base;have:=hk.1.size;omega) (fun e=>by cases e;have:=h.le;omega)]
 exact hk.2 k dG
theorem zMT{w w' : World}{p:Nat}{v:Value}(h:w.grownBy w' (some p)):Trn w w' p v:=⟨h.os,h.tape,h.output,h.size,fun k hk h1 _=>h.block k hk (fun e=>h1 (by cases e;rfl))⟩
structure WI (b t:Nat) (s:TS) (p:Int) (q:Option Addr) (n c:Nat) (os:List O) (w:World) (k:Nat) (wr:World):Prop where
 mem:∃v1,TM wr b t { s with row:=s.row++(os.take k).map (⟨·,p⟩) } v1
 tn:Tn tB b w wr
 own:OwnQ wr 0 (.slice q n c) os
theorem zPy{os:List O}{p:Int}{k:Nat}(h:k<os.length):(os.take (k+1)).map (Sl.mk · p)=(os.take k).map (Sl.mk · p)++[⟨os[k]!,p⟩]:=by
 rw[List.take_succ_eq_append_getElem h,jF,mrg.getE os k h];rfl
theorem zMU(b t:Nat)(s:TS)(v:TV)(c:Nat)(q:Option Addr)(w:World)(h:TM w b t s v) :
  Calls prog 96 #[.pointer (some ⟨t,0,none⟩),.slice q 0 c] w (Res tB b t w (.ok s)):=by
 have HR:Hid (Res tB b t w (.ok s) (.returned .nilIface) w):=⟨Tn.refl _ _ _,rfl,v,h⟩;clear h;go_enter func96,ntmps96;go_wp2_with fail;go_ret;exact HR.out
theorem zMV(b t:Nat)(s:TS)(v:TV)(q:Option Addr)(n c:Nat)(ts:List T)(w:World)(h:TM w b t s v)(hw:Wf s)(hT:OwnT w 0 (.slice q n c) ts)(hn:0<ts.length)(hl:ts.length≤1000000)(hp:prB (ts[ts.length - 1]!).price=true)(hr:s.row.length≤900000)(x0:TS)(hX:x0 = { s with last:=(ts[ts.length - 1]!).price,ws:=wak.left (ts[ts.length - 1]!).price s.ws,row:=s.row++(wak.woke (ts[ts.length - 1]!).price s.ws).map (⟨·,(ts[ts.length - 1]!).price⟩) }) :
  Calls prog 96 #[.pointer (some ⟨t,0,none⟩),.slice q n c] w (Res tB b t w (.ok x0)):=by
 have MQ:n=ts.length:=by obtain⟨q',c',e⟩:=wak.OwnM.form hT;cases e;rfl
 obtain⟨m,hm⟩:∃m,ts.length=m+1:=⟨ts.length - 1,by omega⟩
 have Pn:ts.length - 1=m:=by omega
 rw[Pn] at hp hX;obtain⟨g,off,rfl,hG,x0',x1,x2,x3,x4,x5⟩:=mee.OwnT.at hT (k:=m) (by omega)
 clear x0' x1 x2 x3 x5;generalize (ts[m]!).price=p at *;have hnm:n=m+1:=by omega
 subst hnm;have MV:wrap64 (m:Int)=(m:Int):=by unfold wrap64;omega
 have hmI2:(m:Int)<(m:Int)+1:=by omega
 have CK:¬(m:Int)<0:=by omega
 have hmI:(m:Int)<((m+1:Nat):Int):=by omega
 have Pq:¬((m+1:Nat):Int)=0:=by omega
 obtain⟨Mf,BA⟩:=h.lastP p;obtain⟨-,-,-,-,-,y5,-,-,yf⟩:=h.cells;have yf5:=yf 5;have HL20:=hidF hw.ws;have HWM:Hid (∀U,Below (w.setCell ⟨t,5,none⟩ (.int .i64 p)).heap.size (w.setCell ⟨t,5,none⟩ (.int .i64 p)) U→Calls prog 131 #[.pointer (some ⟨v.sp,0,none⟩),.int .i64 p] U fun e w'=>∃q2 m2 c2,e=.returned (.tuple #[.slice q2 m2 c2,.nilIface])∧Hid (m2=(wak.woke p s.ws).length∧WI b t { s with last:=p,ws:=wak.left p s.ws } p q2 m2 c2 (wak.woke p s.ws) w 0 w')):=fun U hU=>by
  have Um:=Mf.below hU;refine(wak.wBi p b v.sp v.vw s.ws U hp Um.stops HL20.out).mono ?_;rintro e w'⟨q2,m2,c2,v2,rfl,k1,k2,k3,k4,-,-⟩;obtain⟨k5,k6⟩:=Um.wait k3 (zMT k4);refine⟨q2,m2,c2,rfl,?_⟩;show _∧_
  exact⟨k1,⟨{ v with vw:=v2 },by simpa using k5⟩,((BA.mono tA_tB).trans (Tn.below hU Mf.base)).trans k6,k2.mono (jL _)⟩
 have HWO:Hid ((wak.woke p s.ws).length≤20):=by show _≤_;have:=wak.zIJ p s.ws;have:=hw.ws;omega
 obtain⟨i0,gY,gE,gu,gA⟩:=infoK';have HI:=hidF gY;have HX:=hidF hX;have DV:=hidF hr;have UH:=hidF (And.intro Mf.cells.2.2.2.1 Mf.cells.2.2.2.2.2.1);obtain⟨q1,n1,c1',q2',n2,c2',sp,vw,pp,qe,ne,ce,qk,nk,ck⟩:=v;generalize wak.woke p s.ws=WO at *;clear h hw hT hn hl hp hr hX MQ hm Pn gY Mf BA yf;go_enter func96,ntmps96;go_upto_region 4 with fail
 generalize w.setCell ⟨t,5,none⟩ (.int .i64 p)=W1 at *;obtain⟨z3,z5⟩:=UH.out;have Gc:=hidF (bzR W1.heap.size W1);clear x4 MV hmI hmI2 CK Pq y5 yf5 UH hG
 go_region_with (go_at_call 131;with_reducible refine(HWM.out _ ?_).mono ?_;(with_reducible repeat' (first|exact Gc.out|assumption|refine Below.drew ?_));rintro x w2 ⟨q2,m2,c2,rfl,H6⟩)
 all_goals
  clear z3 z5 HWM Gc;go_wp2_with fail;go_loopg [8,42] m2 (fun gg _ s42 wr=>∃ (kk:Nat),kk≤m2∧m2 - kk≤gg∧s42=.int .i64 kk∧Aside (WI b t { s with last:=p,ws:=wak.left p s.ws } p q2 m2 c2 WO w kk wr))
  case atStart=>exact⟨0,jL _,by omega,rfl,H6.out.2⟩
  case round=>
   obtain⟨kk,gd,hg,rfl,HA⟩:=hrel;have GN:=hidF H6.out.1;clear H6;by_cases Hi:kk<m2
   rotate_left
   ·have Hp:¬(kk:Int)<(m2:Int):=(by omega);obtain⟨⟨v1,hM⟩,UB,-⟩:=HA.out;have HR:Hid (Res tB b t w (.ok x0) (.returned .nilIface) wr):=by
     refine⟨UB,rfl,v1,?_⟩;rw[HX.out];have:=GN.out;rw[List.take_of_length_le (by omega)] at hM
     exact hM
    clear HA hM UB;go_wp2_with fail;go_ret;exact HR.out
   ·have Hp:(kk:Int)<(m2:Int):=(by omega);have Hs:kk<WO.length:=(by rw[←GN.out];exact Hi);obtain⟨⟨v1,hM⟩,UB,hO⟩:=HA.out;obtain⟨gz,oz,rfl,hGz,e0,e1,e2,e3,e4,e5,e6,e7⟩:=ord_at hO Hs;have htk:=zPy (p:=p) Hs;rcases mg:WO[kk]! with ⟨a1,a2,a3,a4,a5,a6,a7,a8⟩
    rw[mg] at e0 e1 e2 e3 e4 e5 e6 e7 htk;simp only[] at e0 e1 e2 e3 e4 e5 e6 e7;obtain⟨W3,gQ⟩:∃W3,W3=wr.alloc (.cells #[.int .i64 a1,.int .i64 a2,.int .i64 a3,.int .i64 a4,.int .i64 a5,.int .i64 a6,.int .i64 a7,.int .i64 a8] 34):=⟨_,rfl⟩;have Hr:Below wr.heap.size wr W3:=(by rw[gQ];exact(bzR _ _).alloc (nzR _) _);have GD:W3.heap[wr.heap.size]?=some (.cells #[.int .i64 a1,.int .i64 a2,.int .i64 a3,.int .i64 a4,.int .i64 a5,.int .i64 a6,.int .i64 a7,.int .i64 a8] 34 (0,0)):=(by rw[gQ];exact jA wr _);obtain⟨Z,hZ⟩:∃Z,Z=wr.heap.size:=⟨_,rfl⟩;rw[←hZ] at GD;have U5:=hM.below Hr;have mI:Hid (v1.nk=s.row.length+kk∧b≤W3.heap.size):=by
     refine⟨?_,U5.base⟩;have:=hM.nk;simp only[jE,jP,jJ] at this;omega
    have MZ:=hidF (zPx kk (by have:=GN.out;have:=HWO.out;omega))
    have uF:Hid (OwnM W3 b 105 9 (.slice v1.qk v1.nk v1.ck) v1.nk (zBH (s.row++(WO.take kk).map (⟨·,p⟩)))):=by
     show OwnM _ _ _ _ _ _ _
     have h1:=U5.row;have h2:=U5.nk;rw[←h2] at h1;exact h1
    have Gw:Hid (∀U w' v',Below W3.heap.size W3 U→OwnM w' b 105 9 v' (v1.nk+1) (zBH (s.row++(WO.take kk).map (⟨·,p⟩))++[.int .i64 a1,.int .i64 a2,.int .i64 a3,.int .i64 a4,.int .i64 a5,.int .i64 a6,.int .i64 a7,.int .i64 a8,.int .i64 p])→U.grownBy w' (Value.slice v1.qk v1.nk v1.ck).ownBlock→∃q' n' c',v'=.slice q' n' c'∧(w'.cell? ⟨t,7,none⟩=some (.slice v1.qk v1.nk v1.ck)∧w'.frozen? ⟨t,7,none⟩=false)∧Hid (WI b t { s with last:=p,ws:=wak.left p s.ws } p (some ⟨gz,oz,none⟩) m2 c2 WO w (kk+1) (w'.setCell ⟨t,7,none⟩ (.slice q' n' c')))):=fun U w' v' hU ho Hy=>by
     obtain⟨q',c',rfl⟩:=wak.OwnM.form ho;have Um:=U5.below hU;obtain⟨-,-,-,-,-,-,-,y7,yf⟩:=wak.row8 (Um.skrow Hy);have el:v1.nk+1=(s.row++(WO.take (kk+1)).map (Sl.mk · p)).length:=by
      rw[htk,mI.out.1];simp only[jE,jP,jJ,jG,List.length_nil];omega
     have ef:zBH (s.row++(WO.take kk).map (⟨·,p⟩))++[.int .i64 a1,.int .i64 a2,.int .i64 a3,.int .i64 a4,.int .i64 a5,.int .i64 a6,.int .i64 a7,.int .i64 a8,.int .i64 p]=zBH (s.row++(WO.take (kk+1)).map (Sl.mk · p)):=by
      rw[htk,←jS,zHa (s.row++_),zMr];rfl
     rw[ef] at ho;have Mi:OwnM w' b 105 9 (.slice q' (v1.nk+1) c') (s.row++(WO.take (kk+1)).map (Sl.mk · p)).length (zBH (s.row++(WO.take (kk+1)).map (Sl.mk · p))):=(by rw[←el];exact ho);obtain⟨k1,k2,k3⟩:=Um.rowed Mi Hy;refine⟨q',_,c',rfl,⟨y7,yf 7⟩,?_⟩;show WI _ _ _ _ _ _ _ _ _ _ _
     have GU:=Hr.trans (hU.mono Hr.size);exact⟨⟨_,k1⟩,(UB.trans (Tn.below GU hM.base)).trans k2,k3.own (hO.below GU) (by decide)⟩
    have HM:Hid (kk<m2∧m2 - kk≤gk):=⟨Hi,hg⟩;have HNK:Hid (v1.nk≤999999):=(by show _≤_;have:=mI.out.1;have:=GN.out;have:=HWO.out;have:=DV.out;omega);have HC3:=hidF U5.cells;have cV:=hidF GD;clear hM UB hO U5 Hr GD HA Hi hg gd Hs mg htk;go_upto_region 10 with fail
    rw[←gQ];simp only[←hZ];clear e0 e1 e2 e3 e4 e5 e6 e7 gQ hZ hGz;obtain⟨-,-,-,-,-,y5,-,y7,-⟩:=HC3.out;obtain⟨z0,z1,z2,z3,z4,z5,z6,z7,-⟩:=wak.row8 cV.out;have hZ2:Z<W3.heap.size:=(gzE.1 cV.out).1;have PB:t<W3.heap.size:=(by rcases Nat.lt_or_ge t W3.heap.size with h|h;exact h;exact absurd y5 (by simp[World.cell?,Array.getElem?_eq_none h]));have GB:=mI.out.2;have PZ:=HNK.out;have ei:=MZ.out;obtain⟨r1,r2,r3,r4,r5,r6,r7,r8,r9,qe,ne,ce,qk,nk,ck⟩:=v1;simp only[] at y5 y7 PZ uF Gw;clear HC3 cV mI HNK;generalize zBH (s.row++(WO.take kk).map (⟨·,p⟩))=FE at *
    go_region_law (refine wAj _ rfl _ _ 71 rfl b 105 i0 zRg 9 72 underlying71 HI.out gE gu gA rfl (.slice qk nk ck) nk FE rfl (wak.OwnM.below uF.out (by(with_reducible repeat' (first|assumption|refine bal ?_ _|refine Below.drew ?_|exact bzR _ _)))) _ 1 1 [.int .i64 a1,.int .i64 a2,.int .i64 a3,.int .i64 a4,.int .i64 a5,.int .i64 a6,.int .i64 a7,.int .i64 a8,.int .i64 p] rfl rfl (World.news_of_block (cs:=#[.int .i64 a1,.int .i64 a2,.int .i64 a3,.int .i64 a4,.int .i64 a5,.int .i64 a6,.int .i64 a7,.int .i64 a8,.int .i64 p]) (jA _ _)) (by simp[Value.oneCell']) (by unfold maxLen;omega) (by omega) (jM GB (Below.size (w:=W3) (B:=W3.heap.size) (by(with_reducible repeat' (first|assumption|refine bal ?_ _|refine Below.drew ?_|exact bzR _ _))))) ?_;intro v' w' gy Hy Gm;obtain⟨q',n',c',rfl,⟨hS2,mu⟩,U6⟩:=Gw.out _ _ _ (by(with_reducible repeat' (first|assumption|refine bal ?_ _|refine Below.drew ?_|exact bzR _ _))) gy Hy)
    all_goals
     clear Gw uF z0 z1 z2 z3 z4 z5 z6 z7 y5 y7 gy Hy;go_wp2_with fail;go_roundg (m2 - (kk+1))
     case measure=>have:=HM.out;omega
     case rel=>exact⟨kk+1,HM.out.1,nzR _,by go_num,U6.out⟩
theorem wBi(b t:Nat)(s:TS)(v:TV)(q:Option Addr)(n c:Nat)(ts:List T)(w:World)(h:TM w b t s v)(hw:Wf s)(hT:OwnT w 0 (.slice q n c) ts)(hl:ts.length≤1000000)(hp:∀x∈ts,prB x.price=true)(hr:s.row.length≤900000) :
  Calls prog 96 #[.pointer (some ⟨t,0,none⟩),.slice q n c] w (Res tB b t w (zCQ s ts)):=by
 have MQ:n=ts.length:=by obtain⟨q',c',e⟩:=wak.OwnM.form hT;cases e;rfl
 unfold zCQ;by_cases h0:ts=[]
 ·rw[if_pos h0];subst h0;subst MQ;exact zMU b t s v c q w h
 ·rw[if_neg h0];have uz:0<ts.length:=List.length_pos_iff.2 h0;have B5:prB (ts[ts.length - 1]!).price=true:=by
   rw[mrg.getE ts (ts.length - 1) (by omega)]
   exact hp _ (jT _)
  rw[if_pos B5];exact zMV b t s v q n c ts w h hw hT uz hl B5 hr _ rfl
end flr
end Go.Proofs.YtnfilcpnneckkaaGreat
