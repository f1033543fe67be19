import Derived.Test.YtmhcghgfpfainaaGreatDoorFlrFil
set_option maxHeartbeats 2000000
set_option maxRecDepth 100000
namespace Go.Proofs.YtmhcghgfpfainaaGreatDoor
open Tryz
namespace flr
open Go.RowKit
open que (R rchk)
open sid (L DL)
open mee (T tV)
open ord (O oV chk errV wAa wAb)
open pur (Pz Pu Ok)
open wak (OwnM St oL wAd)
open mrg (zBm zBJ zBK zJb)
theorem TM.evrow{w w' : World}{b t:Nat}{s:TS}{v:TV}(h:TM w b t s v)(hg:w.grownBy w' (Value.slice v.qe v.ne v.ce).ownBlock):w'.heap[t]?=some (.cells (rowT s v) 77 (0,0)):=by
 rcases h.evs.2 with ⟨h1,_⟩|⟨g,off,cap,cur,h1,h2,h3,_⟩
 ·rw[h1] at hg;exact(hg.block t h.lt (by simp[Value.ownBlock])).trans h.blk
 ·rw[h1] at hg;have bP : w.grownBy w' (some g):=hg;exact(Kp.grown (S:=[31]) bP h3 (by simp)).typ _ _ _ h.blk (by decide)
theorem wAY(a b c d e:Int)(w:World)(h:rchk ⟨a,b,c,d,e⟩=0) :
  Calls prog 124 #[.agg #[.int .i64 a,.int .i64 b,.int .i64 c,.int .i64 d,.int .i64 e]] w fun x w'=>x=.returned (.int .i64 (c+d))∧Bw w w':=by
 have hs:wrap64 (c+d)=c+d:=by
  obtain⟨a,b,-⟩:=que.zAp h;simp only[] at a b;unfold wrap64;omega
 have hB:Bw w (w.alloc (.cells #[.int .i64 a,.int .i64 b,.int .i64 c,.int .i64 d,.int .i64 e] 54)):=(bzR _ _).alloc (nzR _) _;clear h;go_enter func124,ntmps124
 go_wp2
 go_ret;exact⟨congrArg Ending.returned (congrArg (Value.int IntKind.i64) hs),hB⟩
theorem zGa(b t:Nat)(s:TS)(v:TV)(what id qty price:Int)(w:World)(h:TM w b t s v)(hl:s.evs.length≤1000000) :
  Calls prog 48 #[.pointer (some ⟨t,0,none⟩),.int .i64 what,.int .i64 id,.int .i64 qty,.int .i64 price] w fun e w'=>e=.returned (.tuple #[])∧(∃v',TM w' b t (tell s what id qty price) v')∧Tn tA b w w':=by
 obtain⟨i0,Gg,gH,gw,gD⟩:=infoE';have HI:=hidF Gg;have HN:=hidF h.ne;obtain⟨W,hW⟩:∃W,W=w.alloc (.cells #[.int .i64 what,.int .i64 id,.int .i64 qty,.int .i64 price,.int .i64 0,.int .i64 0,.int .i64 0,.int .i64 0,.int .i64 0,.int .i64 0] 31):=⟨_,rfl⟩;have Hk:Bw w W:=by rw[hW];exact(bzR _ _).alloc (nzR _) _
 have HT:=hidF (h.below Hk);have HTN:=hidF (Tn.below (S:=tA) Hk h.base);have Hd:W.heap[w.heap.size]?=some (.cells #[.int .i64 what,.int .i64 id,.int .i64 qty,.int .i64 price,.int .i64 0,.int .i64 0,.int .i64 0,.int .i64 0,.int .i64 0,.int .i64 0] 31 (0,0)):=by rw[hW];exact jA w _
 have HR:=hidF Hd;have HL:=hidF hl;obtain⟨x0,x1,x2,x3,x4,x5,x6,x7,-⟩:=h.cells;obtain⟨q1,n1,c1,q2,n2,c2,sp,vw,pp,qe,ne,ce,qk,nk,ck⟩:=v;simp only[] at x0 x1 x2 x3 x4 x5 x6 x7 HN;have Gs:Hid (∀w' v',OwnM w' b 31 10 v' (ne+1) (zAH s.evs++[.int .i64 what,.int .i64 id,.int .i64 qty,.int .i64 price,.int .i64 0,.int .i64 0,.int .i64 0,.int .i64 0,.int .i64 0,.int .i64 0])→W.grownBy w' (Value.slice qe ne ce).ownBlock→∃q n c,v'=.slice q n c∧(w'.cell? ⟨t,6,none⟩=some (.slice qe ne ce)∧w'.frozen? ⟨t,6,none⟩=false)∧(∃v',TM (w'.setCell ⟨t,6,none⟩ (.slice q n c)) b t (tell s what id qty price) v')∧Tn tA b w (w'.setCell ⟨t,6,none⟩ (.slice q n c))):=fun w' v' ho hg=>by
  have hr:=HT.out.evrow hg;obtain⟨-,-,-,-,-,-,y6,-,yf⟩:=wak.row8 hr;obtain⟨q,c,rfl⟩:=OwnM.form ho;have e1:ne+1=(s.evs++[(⟨what,id,qty,price,zeroT⟩:Ev)]).length:=by rw[jE,HN.out];rfl
  have e2:zAH s.evs++[.int .i64 what,.int .i64 id,.int .i64 qty,.int .i64 price,.int .i64 0,.int .i64 0,.int .i64 0,.int .i64 0,.int .i64 0,.int .i64 0]=zAH (s.evs++[(⟨what,id,qty,price,zeroT⟩:Ev)]):=by rw[zCk,zGu];rfl
  rw[e2] at ho;have Mt:OwnM w' b 31 10 (.slice q (ne+1) c) (s.evs++[(⟨what,id,qty,price,zeroT⟩:Ev)]).length (zAH (s.evs++[(⟨what,id,qty,price,zeroT⟩:Ev)])):=by rw[←e1];exact ho
  obtain⟨a1,a2⟩:=HT.out.told Mt hg;exact⟨q,ne+1,c,rfl,⟨y6,yf 6⟩,⟨_,a1⟩,HTN.out.trans a2⟩
 have HO:Hid (OwnM W b 31 10 (.slice qe ne ce) ne (zAH s.evs)):=by
  have:=HT.out.evs
  rwa [←HN.out] at this
 have HBS:Hid (b≤W.heap.size):=HT.out.base;clear h Gg hl Hk Hd;go_enter func48,ntmps48;go_wp2_with (at_builtin;(rw[←hW];refine wAd _ rfl _ _ 32 rfl b 31 i0 zeroE 10 80 underlying32 HI.out gH gw gD rfl (.slice qe ne ce) ne (zAH s.evs) rfl ?p0 ⟨w.heap.size,0,none⟩ 1 1 [.int .i64 what,.int .i64 id,.int .i64 qty,.int .i64 price,.int .i64 0,.int .i64 0,.int .i64 0,.int .i64 0,.int .i64 0,.int .i64 0] rfl rfl (World.news_of_block (cs:=#[.int .i64 what,.int .i64 id,.int .i64 qty,.int .i64 price,.int .i64 0,.int .i64 0,.int .i64 0,.int .i64 0,.int .i64 0,.int .i64 0]) HR.out) (by simp[Value.oneCell']) ?p1 ?p2 ?p3 ?_))
 case p0=>exact HO.out
 case p1=>have:=HN.out;have:=HL.out;unfold maxLen;omega
 case p2=>have:=HN.out;have:=HL.out;omega
 case p3=>exact HBS.out
 intro v' w' gA Hw _;rw[←hW] at Hw;obtain⟨q,n,c,rfl,⟨y1,y2⟩,md⟩:=Gs.out w' v' gA Hw;have HPY:=hidF md;clear md Gs gA Hw;go_wp2_with fail;go_end0
 exact⟨rfl,HPY.out⟩
theorem zEy{w0 w w' : World}{b t:Nat}{s:TS}{v:TV}{who c d:Int}(h:TM w b t s v)(h0:Tn tA b w0 w)(hp:Pu 112 9 w' v.pp (pur.zCJ s.ps who c d))(hg:w.grownBy w' (some v.pp)):Res tA b t w0 (zBY s who c d) (.returned (errV (pur.zCt s.ps who c d))) w':=by
 unfold zBY;by_cases e:pur.zCt s.ps who c d=0
 ·rw[if_pos e,e];obtain⟨a1,a2⟩:=h.pay hp hg;exact⟨h0.trans a2,rfl,v,a1⟩
 ·rw[if_neg e,wAb e];exact⟨h0.trans (h.pay hp hg).2,e,rfl⟩
theorem wAU(b t:Nat)(s:TS)(v:TV)(a1 a2 a3 a4 a5 side price:Int)(w:World)(h:TM w b t s v)(hw:Wf s) :
  Calls prog 125 #[.pointer (some ⟨t,0,none⟩),.agg #[.int .i64 a1,.int .i64 a2,.int .i64 a3,.int .i64 a4,.int .i64 a5],.int .i64 side,.int .i64 price] w (Res tA b t w (zCi s ⟨a1,a2,a3,a4,a5⟩ side price)):=by
 obtain⟨W,hW⟩:∃W,W=w.alloc (.cells #[.int .i64 a1,.int .i64 a2,.int .i64 a3,.int .i64 a4,.int .i64 a5] 54):=⟨_,rfl⟩;have Hk:Below w.heap.size w W:=by rw[hW];exact(bzR _ _).alloc (nzR _) _
 have Hd:W.heap[w.heap.size]?=some (.cells #[.int .i64 a1,.int .i64 a2,.int .i64 a3,.int .i64 a4,.int .i64 a5] 54 (0,0)):=by rw[hW];exact jA w _
 have M3:=hidF (zJb a1 a2 a3 a4 a5 side price W);have Hn:Hid (∀U,Below W.heap.size W U→TM U b t s v∧Tn tA b w U∧U.heap[w.heap.size]?=some (.cells #[.int .i64 a1,.int .i64 a2,.int .i64 a3,.int .i64 a4,.int .i64 a5] 54 (0,0))):=fun U hU=>by
  have GV:=Hk.trans (hU.mono Hk.size);exact⟨h.below GV,Tn.below GV h.base,(hU.block _ (gzE.1 Hd).1).trans Hd⟩
 have uF:=hidF hw.ok;obtain⟨G,hG⟩:∃G,G=w.heap.size:=⟨_,rfl⟩;rw[←hG] at Hn;obtain⟨q1,n1,c1,q2,n2,c2,sp,vw,pp,qe,ne,ce,qk,nk,ck⟩:=v;generalize hC:zBJ ⟨a1,a2,a3,a4,a5⟩ side price=C at *;generalize hD:zBK ⟨a1,a2,a3,a4,a5⟩ side price=D at *;by_cases hE:zBm ⟨a1,a2,a3,a4,a5⟩ side price=0
 ·have HX:Hid (zCi s ⟨a1,a2,a3,a4,a5⟩ side price=zBY s a2 C D):=by show _=_;unfold zCi;rw[if_pos hE,hC,hD]
  rw[HX.out];rw[hE,wAa] at M3;have uC:Hid (∀U,Below W.heap.size W U→Calls prog 114 #[.pointer (some ⟨pp,0,none⟩),.int .i64 a2,.int .i64 C,.int .i64 D] U fun e w'=>∃x,e=.returned x∧Hid (Res tA b t w (zBY s a2 C D) (.returned x) w')):=fun U hU=>by
   obtain⟨k1,k2,-⟩:=Hn.out U hU;refine(pur.wAU pp s.ps a2 C D U k1.purs uF.out).mono ?_;rintro e w'⟨rfl,k3,k4⟩;exact⟨_,rfl,zEy k1 k2 k3 k4⟩
  clear h hw Hk Hd hC hD hE uF;go_enter func125,ntmps125;go_wp2_with fail;rw[←hW];simp only[←hG];clear hW hG;refine M3.out.mono ?_;rintro e w1⟨rfl,b1⟩;have He:=hidF b1;obtain⟨k1,-,k3⟩:=Hn.out w1 b1;obtain⟨-,-,-,-,x4,-⟩:=k1.cells;obtain⟨-,y1,-⟩:=sid.zAi k3;simp only[] at x4;clear b1 k1 k3 M3;go_upto_region 4 with fail
  go_region_with (go_at_call 114;with_reducible refine(uC.out _ ?_).mono ?_;(with_reducible repeat' (first|exact He.out|assumption|refine Below.drew ?_));rintro x w2 ⟨X,rfl,HR⟩)
  all_goals
   go_wp2_with fail;go_ret;exact HR.out
 ·have HX:Hid (zCi s ⟨a1,a2,a3,a4,a5⟩ side price=.error (zBm ⟨a1,a2,a3,a4,a5⟩ side price)):=by show _=_;unfold zCi;rw[if_neg hE]
  rw[HX.out];rw[wAb hE] at M3;generalize zBm ⟨a1,a2,a3,a4,a5⟩ side price=K at *;clear h hw Hk Hd hC hD uF HX;go_enter func125,ntmps125;go_wp2_with fail;rw[←hW];clear hW hG;refine M3.out.mono ?_;rintro e w1⟨rfl,b1⟩;have He:=hidF (Hn.out w1 b1).2.1;clear b1 M3;go_wp2_with fail;go_ret;exact zAD rfl hE He.out
end flr
namespace flr
open Go.RowKit
open que (R rchk)
open sid (L DL)
open mee (T tV)
open ord (O oV chk errV wAa wAb)
open pur (Pz Pu Ok)
open wak (OwnM St oL)
open mrg (zBm zBJ zBK forC forS zFY)
theorem zBH{w W:World}{B:Nat}{o:Obj}(h:w.heap[B]?=some o)(hB:Bw w W):W.heap[B]?=some o:=(hB.block B (gzE.1 h).1).trans h
theorem zDe{S:List TypeId}{b t:Nat}{s:TS}{v:TV}{w0 w:World}{x:Rs}(what id qty price:Int)(h:TM w b t s v)(h0:Tn S b w0 w)(hS:∀t∈tA,t∈S)(hl:s.evs.length≤1000000)(hx:x=.ok (tell s what id qty price)) :
  Calls prog 48 #[.pointer (some ⟨t,0,none⟩),.int .i64 what,.int .i64 id,.int .i64 qty,.int .i64 price] w fun e w'=>e=.returned (.tuple #[])∧Hid (Res S b t w0 x (.returned .nilIface) w'):=by
 refine(zGa b t s v what id qty price w h hl).mono ?_;rintro e w'⟨rfl,⟨v',h1⟩,h2⟩;exact⟨rfl,zQu hx (h0.trans (h2.mono hS)) h1⟩
theorem zCK{S:List TypeId}{b t:Nat}{w w' : World}{x y:Rs}{e:Ending}(h:Res S b t w x e w')(hxy:x=y):Res S b t w y e w':=hxy ▸ h
theorem zJd(b t:Nat)(s:TS)(v:TV)(a1 a2 a3 a4 a5 side price:Int)(w:World)(h:TM w b t s v)(hw:Wf s)(hr:rchk ⟨a1,a2,a3,a4,a5⟩=0)(hl:s.evs.length≤1000000) :
  Calls prog 115 #[.pointer (some ⟨t,0,none⟩),.agg #[.int .i64 a1,.int .i64 a2,.int .i64 a3,.int .i64 a4,.int .i64 a5],.int .i64 side,.int .i64 price] w (Res tA b t w (part s ⟨a1,a2,a3,a4,a5⟩ side price)):=by
 obtain⟨W,hW⟩:∃W,W=w.alloc (.cells #[.int .i64 a1,.int .i64 a2,.int .i64 a3,.int .i64 a4,.int .i64 a5] 54):=⟨_,rfl⟩;have Hk:Below w.heap.size w W:=by rw[hW];exact(bzR _ _).alloc (nzR _) _
 have Hd:W.heap[w.heap.size]?=some (.cells #[.int .i64 a1,.int .i64 a2,.int .i64 a3,.int .i64 a4,.int .i64 a5] 54 (0,0)):=by rw[hW];exact jA w _
 have uC:=hidF (wAU b t s v a1 a2 a3 a4 a5 side price W (h.below Hk) hw);have G6:=hidF (Tn.below (S:=tA) Hk h.base);have cF:=hidF (fun U=>wAY a1 a2 a3 a4 a5 U hr)
 obtain⟨G,hG⟩:∃G,G=w.heap.size:=⟨_,rfl⟩;rw[←hG] at Hd;have HW:=hidF hw;have HL:=hidF hl;have BD:=hidF Hd;obtain⟨X,hX⟩:∃X,X=part s ⟨a1,a2,a3,a4,a5⟩ side price:=⟨_,rfl⟩;rw[←hX];have HX:=hidF hX;obtain⟨c,hc⟩:∃c,c=a3+a4:=⟨_,rfl⟩;rw[←hc] at cF;have HC:=hidF hc;obtain⟨c0,c1,c2,c3,c4,-⟩:=sid.zAi Hd;clear h hw hr hl Hk Hd hX hc;go_enter func115,ntmps115;go_wp2_with fail;rw[←hW];simp only[←hG];clear hW hG;refine uC.out.mono ?_;intro e w1 hR;have pd:=hR.1;rcases hR.two with ⟨s1,v1,gM,rfl,hM⟩|⟨k,gM,hk,rfl⟩
 rotate_left
 ·have gK:Hid (Res tA b t w X (.returned (.iface 80 (.int .i64 k))) w1):=zAD (by rw[HX.out];unfold part;rw[gM];rfl) hk (G6.out.trans pd)
  clear hR pd gM c0 c1 c2 c3 c4;go_wp2_with fail;go_ret;exact gK.out
 ·have Py:=pd.kp.typ _ _ _ BD.out (by decide)
  have Hm:=(zFZ HW.out gM).2.2;have Mr:s1.evs.length≤1000000:=by rw[Hm];exact HL.out
  have mq:X=.ok (tell s1 3 a1 c price):=by rw[HX.out];unfold part;rw[gM,HC.out];rfl
  have ua:Hid (∀U,Below w1.heap.size w1 U→Calls prog 48 #[.pointer (some ⟨t,0,none⟩),.int .i64 3,.int .i64 a1,.int .i64 c,.int .i64 price] U fun e w'=>e=.returned (.tuple #[])∧Hid (Res tA b t w X (.returned .nilIface) w')):=fun U hU=>
   zDe 3 a1 c price (hM.below hU) ((G6.out.trans pd).trans (Tn.below hU hM.base)) (fun _ h=>h) Mr mq
  have HK:Hid (∀U,Below w1.heap.size w1 U→U.cell? ⟨G,0,none⟩=some (.int .i64 a1)):=fun U hU=>(sid.zAi (zBH Py hU)).1
  clear hR pd gM hM Hm Mr mq c0 c1 c2 c3 c4;obtain⟨c0,c1,c2,c3,c4,-⟩:=sid.zAi Py;clear Py;go_upto_region 4 with fail
  go_region_with (first|(go_at_call 124;with_reducible refine(cF.out _).mono ?_;rintro x w2 ⟨rfl,b2⟩;have H6:=hidF ((bzR w1.heap.size w1).drew.trans (b2.mono (bzR w1.heap.size w1).drew.size));have k0:=HK.out w2 H6.out)|(go_at_call 48;with_reducible refine(ua.out _ ?_).mono ?_;(with_reducible repeat' (first|exact H6.out|assumption|refine Below.drew ?_));rintro x w3 ⟨rfl,HR⟩))
  all_goals
   go_wp2_with fail;go_ret;exact HR.out
theorem zFp(b t:Nat)(s:TS)(v:TV)(a1 a2 a3 a4 a5 a6 a7 a8:Int)(w:World)(h:TM w b t s v)(hw:Wf s)(hl:s.evs.length≤1000000) :
  Calls prog 72 #[.pointer (some ⟨t,0,none⟩),.agg #[.int .i64 a1,.int .i64 a2,.int .i64 a3,.int .i64 a4,.int .i64 a5,.int .i64 a6,.int .i64 a7,.int .i64 a8]] w (Res tA b t w (vanish s ⟨a1,a2,a3,a4,a5,a6,a7,a8⟩)):=by
 obtain⟨W,hW⟩:∃W,W=w.alloc (.cells #[.int .i64 a1,.int .i64 a2,.int .i64 a3,.int .i64 a4,.int .i64 a5,.int .i64 a6,.int .i64 a7,.int .i64 a8] 40):=⟨_,rfl⟩;have Hk:Below w.heap.size w W:=by rw[hW];exact(bzR _ _).alloc (nzR _) _
 have Hd:W.heap[w.heap.size]?=some (.cells #[.int .i64 a1,.int .i64 a2,.int .i64 a3,.int .i64 a4,.int .i64 a5,.int .i64 a6,.int .i64 a7,.int .i64 a8] 40 (0,0)):=by rw[hW];exact jA w _
 have Uu:=hidF (zFY ⟨a1,a2,a3,a4,a5,a6,a7,a8⟩ W);rw[show oV ⟨a1,a2,a3,a4,a5,a6,a7,a8⟩=.agg #[.int .i64 a1,.int .i64 a2,.int .i64 a3,.int .i64 a4,.int .i64 a5,.int .i64 a6,.int .i64 a7,.int .i64 a8] from rfl] at Uu
 obtain⟨G,hG⟩:∃G,G=w.heap.size:=⟨_,rfl⟩;rw[←hG] at Hd;have Hn:Hid (∀U,Below W.heap.size W U→TM U b t s v∧Tn tA b w U∧U.heap[G]?=some (.cells #[.int .i64 a1,.int .i64 a2,.int .i64 a3,.int .i64 a4,.int .i64 a5,.int .i64 a6,.int .i64 a7,.int .i64 a8] 40 (0,0))):=fun U hU=>by
  have GV:=Hk.trans (hU.mono Hk.size);exact⟨h.below GV,Tn.below GV h.base,zBH Hd hU⟩
 have HW:=hidF hw;have HL:=hidF hl;obtain⟨X,hX⟩:∃X,X=vanish s ⟨a1,a2,a3,a4,a5,a6,a7,a8⟩:=⟨_,rfl⟩;rw[←hX];have HX:=hidF hX;obtain⟨c0,c1,c2,c3,c4,c5,c6,c7,-⟩:=wak.row8 Hd;obtain⟨C,hC⟩:∃C,C=forC ⟨a1,a2,a3,a4,a5,a6,a7,a8⟩:=⟨_,rfl⟩;obtain⟨D,hD⟩:∃D,D=forS ⟨a1,a2,a3,a4,a5,a6,a7,a8⟩:=⟨_,rfl⟩;rw[←hC,←hD] at Uu;have HCD:=hidF (And.intro hC hD);clear hC hD;by_cases hE:chk ⟨a1,a2,a3,a4,a5,a6,a7,a8⟩=0
 rotate_left
 ·rw[wAb hE] at Uu;have GE:Hid (X=.error (chk ⟨a1,a2,a3,a4,a5,a6,a7,a8⟩)):=by show _=_;rw[HX.out];unfold vanish;rw[if_neg hE]
  generalize chk ⟨a1,a2,a3,a4,a5,a6,a7,a8⟩=K at *;clear h hw hl Hk Hd hX c1 c2 c3 c4 c5 c6 c7 c0;go_enter func72,ntmps72;go_wp2_with fail;rw[←hW];clear hW hG;refine Uu.out.mono ?_;rintro e w1⟨rfl,b1⟩;have He:=hidF (Hn.out w1 b1).2.1;clear b1 Uu;go_wp2_with fail;go_ret;exact zAD GE.out hE He.out
 ·rw[hE,wAa] at Uu;have GE:Hid (X=(zBY s a2 C D).bind fun s1=>.ok (tell s1 3 a1 a6 a5)):=by show _=_;rw[HX.out];unfold vanish;rw[if_pos hE,HCD.out.1,HCD.out.2]
  have uC:Hid (∀U,Below W.heap.size W U→Calls prog 114 #[.pointer (some ⟨v.pp,0,none⟩),.int .i64 a2,.int .i64 C,.int .i64 D] U fun e w'=>∃E,e=.returned E∧Hid ((∃s1,zBY s a2 C D=.ok s1∧E=.nilIface∧Hid (∃v1,TM w' b t s1 v1)∧Hid (Tn tA b w w')∧w'.heap[G]?=some (.cells #[.int .i64 a1,.int .i64 a2,.int .i64 a3,.int .i64 a4,.int .i64 a5,.int .i64 a6,.int .i64 a7,.int .i64 a8] 40 (0,0)))∨∃k,E=.iface 80 (.int .i64 k)∧Hid (Res tA b t w X (.returned (.iface 80 (.int .i64 k))) w'))):=fun U hU=>by
   obtain⟨k1,k2,k3⟩:=Hn.out U hU;refine(pur.wAU v.pp s.ps a2 C D U k1.purs HW.out.ok).mono ?_;rintro e w'⟨rfl,k4,k5⟩;have hR:=zEy k1 k2 k4 k5;have h6:w'.heap[G]?=some (.cells #[.int .i64 a1,.int .i64 a2,.int .i64 a3,.int .i64 a4,.int .i64 a5,.int .i64 a6,.int .i64 a7,.int .i64 a8] 40 (0,0)):=((Kp.grown (S:=tA) k5 k1.purs.2 (by decide)).typ _ _ _ k3 (by decide))
   refine⟨_,rfl,?_⟩;rcases hR.two with ⟨s1,v1,gM,he,hM⟩|⟨k,gM,hk,he⟩
   ·exact .inl ⟨s1,gM,by injection he,⟨v1,hM⟩,hR.1,h6⟩
   ·refine .inr ⟨k,by injection he,?_⟩
    show Res _ _ _ _ _ _ _
    exact zAD (by rw[GE.out,gM];rfl) hk hR.1
  obtain⟨q1,n1,c1',q2,n2,c2',sp,vw,pp,qe,ne,ce,qk,nk,ck⟩:=v;clear h hw hl Hk Hd hX hE;go_enter func72,ntmps72;go_wp2_with fail;rw[←hW];simp only[←hG];clear hW hG;refine Uu.out.mono ?_;rintro e w1⟨rfl,b1⟩;have He:=hidF b1;obtain⟨k1,-,k3⟩:=Hn.out w1 b1;obtain⟨-,-,-,-,x4,-⟩:=k1.cells;clear c0 c1 c2 c3 c4 c5 c6 c7;obtain⟨-,c1,-⟩:=wak.row8 k3;simp only[] at x4;clear b1 k1 k3 Uu;go_upto_region 4 with fail
  go_region_with (go_at_call 114;with_reducible refine(uC.out _ ?_).mono ?_;(with_reducible repeat' (first|exact He.out|assumption|refine Below.drew ?_));rintro x w2 ⟨E,rfl,uQ⟩)
  all_goals
   rcases uQ.out with ⟨s1,gM,rfl,HM,HT,h6⟩|⟨k,rfl,HR⟩
   rotate_left
   ·clear uQ;go_wp2_with fail;go_ret;exact HR.out
   ·(clear uQ
     have Hm:=(wAV HW.out gM).2;have Mr:s1.evs.length≤1000000:=(by rw[Hm];exact HL.out);obtain⟨v1,hM⟩:=HM.out;have ua:=hidF (zDe (w0:=w) (x:=X) (S:=tA) 3 a1 a6 a5 hM HT.out (fun _ h=>h) Mr (by rw[GE.out,gM];rfl))
     clear c1 x4 gM Hm Mr hM;obtain⟨c0,c1,c2,c3,c4,c5,c6,c7,-⟩:=wak.row8 h6;clear h6;go_wp2_with fail;refine ua.out.mono ?_;rintro x w3⟨rfl,HR⟩;clear c0 c1 c2 c3 c4 c5 c6 c7;go_wp2_with fail;go_ret;exact HR.out)
end flr
namespace flr
open Go.RowKit
open que (R rchk)
open sid (L DL)
open mee (T tV)
open ord (O oV chk errV wAa wAb)
open bok (zAc zAf)
open wak (OwnM OwnQ St SL Lies oL idx wAK)
theorem zKo(id:Int)(B:Nat)(w:World)(hB:B<w.heap.size)(hc:w.cell? ⟨B,0,none⟩=some (.int .i64 id)) :
  PredBelow prog 144 #[.pointer (some ⟨B,0,none⟩)] (fun x=>.agg (oL x).toArray) (fun x=>decide (x.id=id)) w:=by
 intro W x hb;obtain⟨a,b,c,d,e,f,g,h⟩:=x;show Calls prog 144 #[.agg #[.int .i64 a,.int .i64 b,.int .i64 c,.int .i64 d,.int .i64 e,.int .i64 f,.int .i64 g,.int .i64 h],.pointer (some ⟨B,0,none⟩)] W _
 have BR:=spn.zAa hb hc;have hz:B<W.heap.size:=jC hB hb.size;go_enter func144,ntmps144
 go_wp2
 go_ret;exact⟨rfl,hb.alloc hb.size _⟩
theorem zPE(B:Nat)(W:World):Calls prog 154 #[.slice none 0 0,.func (.func 144) #[] #[.pointer (some ⟨B,0,none⟩)]] W fun e w'=>e=.returned (.int .i64 (-1))∧Bw W w':=by
 go_enter func154,ntmps154
 go_wp2
 go_loopg [5,8] 0 (fun _ _ s8 wr=>s8=.int .i64 0∧wr=W)
 case atStart=>exact⟨rfl,rfl⟩
 case round=>
  obtain⟨rfl,rfl⟩:=hrel
  go_wp2
  go_ret;exact⟨rfl,bzR _ _⟩
theorem zPF(id:Int)(v:Value)(zs:List O)(w:World)(B:Nat)(hB:B<w.heap.size)(hc:w.cell? ⟨B,0,none⟩=some (.int .i64 id))(h:SL w v zs) :
  Calls prog 154 #[v,.func (.func 144) #[] #[.pointer (some ⟨B,0,none⟩)]] w fun e w'=>e=.returned (.int .i64 (idx id zs))∧Bw w w':=by
 rcases h with ⟨rfl,rfl⟩|⟨b,o,c,rfl,h2,h3,h4,h5⟩
 ·exact zPE B w
 ·have eg:∀args w,(callFunc 144 args).run prog w=.ok (.enter 144 args) w:=enters_of func144 (by kernel_rfl) rfl
  have Hf:=AnyQ.slices_IndexFunc Tryz.lq6o 8 isAgg40 sizeOf40 oL (fun x=>rfl) (fun x=>decide (x.id=id)) 144 #[.pointer (some ⟨B,0,none⟩)] eg b o zs.length c zs
   w (zKo id B w hB hc) (nzR _) (by omega) h4 h5
  change Calls prog 154 _ _ _ at Hf
  rw[List.take_length,wAK] at Hf;exact Hf
theorem zPG(id:Int)(v:Value)(zs:List O)(w:World)(B:Nat)(hB:B<w.heap.size)(hc:w.cell? ⟨B,0,none⟩=some (.int .i64 id))(h:SL w v zs) :
  Calls prog 143 #[v,.func (.func 144) #[] #[.pointer (some ⟨B,0,none⟩)]] w fun e w'=>e=.returned (.bool (decide (0≤idx id zs)))∧Bw w w':=by
 have HC:=hidF (zPF id v zs w B hB hc h);obtain⟨q,c,rfl⟩:=SL.form h;generalize idx id zs=k at *;generalize zs.length=zn at *;clear h hc hB;go_enter func143,ntmps143;go_wp2_with fail;refine HC.out.mono ?_;rintro e w1⟨rfl,b1⟩;go_wp2_with fail;go_ret;exact⟨rfl,b1⟩
theorem zMM(id:Int)(v:Value)(zs:List O)(w:World)(h:SL w v zs) :
  Calls prog 108 #[v,.int .i64 id] w fun e w'=>e=.returned (.bool (decide (0≤idx id zs)))∧Bw w w':=by
 have hB:Bw w (w.alloc (.cells #[.int .i64 id] 3)):=(bzR _ _).alloc (nzR _) _;have HC:=hidF (zPG id v zs _ w.heap.size (by simp) (by simp[go_sem]) (h.below hB))
 obtain⟨q,c,rfl⟩:=SL.form h;generalize decide (0≤idx id zs)=k at *;generalize zs.length=zn at *;clear h;go_enter func108,ntmps108;go_wp2_with fail;refine HC.out.mono ?_;rintro e w1⟨rfl,b1⟩;go_wp2_with fail;go_ret;exact⟨rfl,hB.trans (b1.mono (by simp))⟩
theorem zGb{w:World}{s:TS}{q1 q2:Option Addr}{n1 n2 c1 c2:Nat}{id:Int}(h1:DL w 0 (.slice q1 n1 c1) s.bs)(h2:DL w 0 (.slice q2 n2 c2) s.ss)(h0:zAc s.bs s.ss=0)(hid:(Lit.int .i64 id).wf=true)(Ht:zAf s.bs s.ss id=false) :
  Calls prog 13 #[.agg #[.slice q1 n1 c1,.slice q2 n2 c2],.int .i64 id] w fun e w'=>e=.returned (.tuple #[.int .i64 0,.int .i64 0,.agg #[.int .i64 0,.int .i64 0,.int .i64 0,.int .i64 0,.int .i64 0],.iface 80 (.int .i64 5)])∧Bw w w':=by
 obtain⟨e1,e2,-⟩:=bok.zAe h0;have hn:¬id∈sid.ids s.bs∧¬id∈sid.ids s.ss:=by unfold zAf at Ht;simpa using Ht
 exact bok.zHT q1 q2 n1 n2 c1 c2 s.bs s.ss id hid w h1.ls h2.ls h0 (bok.zBf e1 hn.1) (bok.zBf e2 hn.2)
theorem zRG(b t:Nat)(s:TS)(v:TV)(id:Int)(w:World)(h:TM w b t s v)(hw:Wf s)(hid:(Lit.int .i64 id).wf=true) :
  Calls prog 65 #[.pointer (some ⟨t,0,none⟩),.int .i64 id] w fun e w'=>e=.returned (.bool (has s id))∧Bw w w':=by
 obtain⟨x0,x1,x2,x3,x4,x5,x6,x7,-⟩:=h.cells;have Hn:Hid (∀U,Bw w U→TM U b t s v):=fun U hU=>h.below hU
 have HWS:=hidF hw.ws;obtain⟨q1,n1,c1,q2,n2,c2,sp,vw,pp,qe,ne,ce,qk,nk,ck⟩:=v;simp only[] at x0 x1 x2 x3 x4 x5 x6 x7;cases Ht:zAf s.bs s.ss id with
 | true=>
  have hA:=wAq hw.book Ht;generalize spot s.bs s.ss id=x at hA;obtain⟨xs,xp,⟨r1,r2,r3,r4,r5⟩,xi,xk⟩:=x;have HF:=hidF (swp.zBD q1 q2 n1 n2 c1 c2 s.bs s.ss id xs xp r1 r2 r3 r4 r5 xi xk w h.buys.ls h.sells.ls hA);have hx:has s id=true:=by unfold has;rw[Ht];rfl
  rw[hx];clear h hw hid hA hx Ht;go_enter func65,ntmps65;go_wp2_with fail;refine HF.out.mono ?_;rintro e w1⟨rfl,b1⟩;have HB:=hidF (b1.alloc b1.size (.cells #[.int .i64 r1,.int .i64 r2,.int .i64 r3,.int .i64 r4,.int .i64 r5] 54));clear b1 HF x0 x1 x2 x3 x4 x5 x6 x7;go_wp2_with fail;go_ret;exact⟨rfl,HB.out⟩
 | false=>
  have HF:=hidF (zGb h.buys h.sells hw.book hid Ht);have hx:has s id=decide (0≤idx id s.ws):=by unfold has;rw[Ht];rfl
  rw[hx];have cF:Hid (∀U,Bw w U→Calls prog 63 #[.pointer (some ⟨sp,0,none⟩)] U fun e w'=>∃q m c,e=.returned (.slice q m c)∧Hid (SL w' (.slice q m c) s.ws)∧Bw U w'):=fun U hU=>by
   refine(wak.wAY b sp vw s.ws U (Hn.out U hU).stops (by have:=HWS.out;omega)).mono ?_
   rintro e w'⟨q,c,rfl,k1,k2⟩;exact⟨q,_,c,rfl,k1.sl,k2⟩
  have BF:=hidF (fun v U(hv:SL U v s.ws)=>zMM id v s.ws U hv)
  generalize decide (0≤idx id s.ws)=K at *;have Mk:Hid (∀U,Bw w U→U.cell? ⟨t,3,none⟩=some (.pointer (some ⟨sp,0,none⟩))):=fun U hU=>spn.zAa hU x3
  clear h hw hid hx Ht;go_enter func65,ntmps65;go_wp2_with fail;refine HF.out.mono ?_;rintro e w1⟨rfl,b1⟩;have HB:=hidF (b1.alloc b1.size (.cells #[.int .i64 0,.int .i64 0,.int .i64 0,.int .i64 0,.int .i64 0] 54));clear b1 HF x0 x1 x2 x3 x4 x5 x6 x7;go_upto_if 22 with fail
  generalize w1.alloc (.cells #[.int .i64 0,.int .i64 0,.int .i64 0,.int .i64 0,.int .i64 0] 54)=W2 at *;have x3:=Mk.out W2 HB.out;go_wp2_with fail;refine(cF.out _ HB.out).mono ?_;rintro e w3⟨q,m,c,rfl,HS,b3⟩;have HU:=hidF (HB.out.trans (b3.mono HB.out.size));clear b3 x3;go_wp2_with fail;refine(BF.out _ _ HS.out).mono ?_;rintro e w4⟨rfl,b4⟩;have Gd:=hidF (HU.out.trans (b4.mono HU.out.size));clear b4;go_wp2_with fail;go_ret;exact⟨rfl,Gd.out⟩
end flr
namespace flr
open Go.RowKit
open que (R rchk)
open sid (L DL)
open mee (T tV)
open ord (O oV chk errV wAa wAb)
open bok (zAc zAf)
open wak (OwnM OwnQ St SL Lies oL idx Trn)
theorem TM.wait{w w' : World}{b t:Nat}{s:TS}{v:TV}(h:TM w b t s v){v' : Value}{ws:List O}(hs:St w' b v.sp v' ws)(ht:Trn w w' v.sp v.vw):TM w' b t { s with ws:=ws } { v with vw:=v' }∧Tn tB b w w':=by
 have hk:Kp [107,40] w w':=⟨ht.os,ht.tape,ht.output,ht.size,fun k cur ty hc hn=>by
  refine(ht.block k (gzE.1 hc).1 (fun e=>?_) (fun e=>?_)).trans hc
  ·subst e;have h1:=h.stops.blk;rw[hc] at h1;simp only[Option.some.injEq,Obj.cells.injEq] at h1;exact hn (by rw[h1.2.1];simp)
  ·rcases h.stops.own.2 with ⟨h1,_⟩|⟨g,off,cap,cur',h1,h2,h3,_⟩
   ·rw[h1] at e;cases e
   ·rw[h1] at e;simp only[Value.ownBlock,Option.some.injEq] at e;subst e;rw[hc] at h3;simp only[Option.some.injEq,Obj.cells.injEq] at h3;exact hn (by rw[h3.2.1];simp)⟩
 have hb:=ht.below h.stops;exact⟨⟨hk.typ _ _ _ h.blk (by decide),h.le,hk.dl h.buys (by decide) (by decide),hk.dl h.sells (by decide) (by decide),hs,hk.pu h.purs (by decide),h.ple,hk.own h.evs (by decide),hk.own h.row (by decide)⟩,hk.mono (by decide),hb.block⟩
theorem zPH(b t:Nat)(s:TS)(v:TV)(id:Int)(w:World)(h:TM w b t s v)(hw:Wf s)(hl:s.evs.length≤1000000)(Ht:zAf s.bs s.ss id=true)(uo:∀xs xi xk,xs=(spot s.bs s.ss id).s→xi=(spot s.bs s.ss id).i→xk=(spot s.bs s.ss id).k→zAc (swp.cB xs s.bs xi xk) (swp.cS xs s.ss xi xk)=0) :
  Calls prog 70 #[.pointer (some ⟨t,0,none⟩),.int .i64 id] w (Res tA b t w (leave s id)):=by
 obtain⟨x0,x1,x2,x3,x4,x5,x6,x7,-⟩:=h.cells;have Hn:Hid (∀U,Below w.heap.size w U→TM U b t s v∧Tn tA b w U):=fun U hU=>⟨h.below hU,Tn.below hU h.base⟩
 have hA:=wAq hw.book Ht;obtain⟨X,hX⟩:∃X,X=leave s id:=⟨_,rfl⟩;rw[←hX];unfold leave at hX;rw[if_pos Ht] at hX;generalize spot s.bs s.ss id=x at hA hX uo;obtain⟨xs,xp,⟨r1,r2,r3,r4,r5⟩,xi,xk⟩:=x;simp only[] at hX uo;have HX:=hidF hX;have El:=uo xs xi xk rfl rfl rfl;obtain⟨q1,n1,c1,q2,n2,c2,sp,vw,pp,qe,ne,ce,qk,nk,ck⟩:=v;simp only[] at x0 x1 x2 x3 x4 x5 x6 x7;have HF:=hidF (swp.zBD q1 q2 n1 n2 c1 c2 s.bs s.ss id xs xp r1 r2 r3 r4 r5 xi xk w h.buys.ls h.sells.ls hA)
 have PM:Hid (∀U,Below w.heap.size w U→Calls prog 118 #[.agg #[.slice q1 n1 c1,.slice q2 n2 c2],.int .i64 id] U fun e w'=>∃u1 u2 m1 m2 d1 d2,e=.returned (.tuple #[.agg #[.slice u1 m1 d1,.slice u2 m2 d2],.agg #[.int .i64 r1,.int .i64 r2,.int .i64 r3,.int .i64 r4,.int .i64 r5],.nilIface])∧Hid (DL w' 0 (.slice u1 m1 d1) (swp.cB xs s.bs xi xk))∧Hid (DL w' 0 (.slice u2 m2 d2) (swp.cS xs s.ss xi xk))∧Below U.heap.size U w'):=fun U hU=>by
  obtain⟨k1,-⟩:=Hn.out U hU;refine(swp.zKg q1 q2 n1 n2 c1 c2 s.bs s.ss id xs xp r1 r2 r3 r4 r5 xi xk U k1.buys.ls k1.sells.ls hA).mono ?_;rintro e w'⟨u1,u2,m1,m2,d1,d2,rfl,k2,k3,k4⟩;exact⟨u1,u2,m1,m2,d1,d2,rfl,k2.mono (jL _),k3.mono (jL _),k4⟩
 have Uw:Hid (∀U s' v',TM U b t s' v'→s' = { s with bs:=swp.cB xs s.bs xi xk,ss:=swp.cS xs s.ss xi xk }→Tn tA b w U→Calls prog 115 #[.pointer (some ⟨t,0,none⟩),.agg #[.int .i64 r1,.int .i64 r2,.int .i64 r3,.int .i64 r4,.int .i64 r5],.int .i64 xs,.int .i64 xp] U fun e w'=>∃E,e=.returned E∧Hid (Res tA b t w X (.returned E) w')):=fun U s' v' hU hs' hT=>by
  subst hs';refine(zJd b t _ v' r1 r2 r3 r4 r5 xs xp U hU ⟨hw.m0,hw.m3,El,hw.ok,hw.ws⟩ hA.rest hl).mono ?_;intro e w' hR;have hR' : Res tA b t w X e w':=zCK (hR.step hT (fun _ h=>h)) HX.out.symm
  rcases hR.two with ⟨_,_,_,rfl,_⟩|⟨_,_,_,rfl⟩
  ·exact⟨_,rfl,hR'⟩
  ·exact⟨_,rfl,hR'⟩
 clear h hw hA hX Ht hl uo El;go_enter func70,ntmps70;go_wp2_with fail;refine HF.out.mono ?_;rintro e w1⟨rfl,b1⟩;have gv:(w1.alloc (.cells #[.int .i64 r1,.int .i64 r2,.int .i64 r3,.int .i64 r4,.int .i64 r5] 54)).heap[w1.heap.size]?=some (.cells #[.int .i64 r1,.int .i64 r2,.int .i64 r3,.int .i64 r4,.int .i64 r5] 54 (0,0)):=jA w1 _;have Hg:=hidF (b1.alloc b1.size (.cells #[.int .i64 r1,.int .i64 r2,.int .i64 r3,.int .i64 r4,.int .i64 r5] 54));clear b1 HF x0 x1 x2 x3 x4 x5 x6 x7;go_upto_if 24 with fail
 generalize w1.alloc (.cells #[.int .i64 r1,.int .i64 r2,.int .i64 r3,.int .i64 r4,.int .i64 r5] 54)=W2 at *;generalize w1.heap.size=F at *;obtain⟨k1,-⟩:=Hn.out W2 Hg.out;obtain⟨-,x1,x2,-⟩:=k1.cells;simp only[] at x1 x2;clear k1;have Uk:=hidF gv;clear gv;go_wp2_with fail;refine(PM.out _ Hg.out).mono ?_;rintro e w3⟨u1,u2,m1,m2,d1,d2,rfl,uU,uu,b3⟩;obtain⟨W4,GZ⟩:∃W4,W4=(w3.alloc (.cells #[.slice u1 m1 d1,.slice u2 m2 d2] 50)).alloc (.cells #[.int .i64 r1,.int .i64 r2,.int .i64 r3,.int .i64 r4,.int .i64 r5] 54):=⟨_,rfl⟩;have Gj:Below w3.heap.size w3 W4:=by rw[GZ];exact((bzR _ _).alloc (nzR _) _).alloc (by simp) _
 have CA:W4.heap[w3.heap.size]?=some (.cells #[.slice u1 m1 d1,.slice u2 m2 d2] 50 (0,0)):=by
  rw[GZ,((bzR _ _).alloc (nzR _) _).block _ (by simp)];exact jA w3 _
 have CK:=b3.trans (Gj.mono b3.size);have M4:=hidF (zBH Uk.out CK);have Gd:=hidF (Hg.out.trans (CK.mono Hg.out.size));have UO:=hidF (And.intro (uU.out.below Gj) (uu.out.below Gj));clear uU uu b3 Gj CK x1 x2 Uk Hg PM;go_upto_if 38 with fail
 rw[←GZ];clear GZ;generalize w3.heap.size=LB at *;obtain⟨l0,l1,-⟩:=sid.zAb CA;obtain⟨k1,k2⟩:=Hn.out W4 Gd.out;obtain⟨-,y1,y2,-,-,-,-,-,yf⟩:=k1.cells;simp only[] at y1 y2;have yf1:=yf 1;have yf2:=yf 2;obtain⟨eQ,CF⟩:=k1.book UO.out.1 UO.out.2;have PU:=hidF eQ;have Ux:=hidF (k2.trans CF);have bD:=CF.kp.typ _ _ _ M4.out (by decide)
 clear k1 k2 eQ CF yf CA Hn UO Gd M4;have di:=hidF bD;clear bD;go_upto_region 8 with fail
 generalize (W4.setCell ⟨t,1,none⟩ (.slice u1 m1 d1)).setCell ⟨t,2,none⟩ (.slice u2 m2 d2)=W5 at *;obtain⟨z0,z1,z2,z3,z4,-⟩:=sid.zAi di.out;clear l0 l1 y1 y2 yf1 yf2;go_wp2_with fail;refine(Uw.out _ _ _ PU.out rfl Ux.out).mono ?_;rintro e w6⟨E,rfl,HR⟩;clear z0 z1 z2 z3 z4;go_wp2_with fail;go_ret;exact HR.out
theorem Res.hid{S:List TypeId}{b t:Nat}{w w' : World}{x:Rs}{e:Ending}(h:Res S b t w x e w'):∃E,e=.returned E∧Hid (Res S b t w x (.returned E) w'):=by
 rcases h.two with ⟨_,_,_,rfl,_⟩|⟨_,_,_,rfl⟩
 ·exact⟨_,rfl,h⟩
 ·exact⟨_,rfl,h⟩
theorem zMN(b t:Nat)(s:TS)(v:TV)(id:Int)(w:World)(h:TM w b t s v)(hw:Wf s)(hid:(Lit.int .i64 id).wf=true)(Ht:zAf s.bs s.ss id=false) :
  Calls prog 70 #[.pointer (some ⟨t,0,none⟩),.int .i64 id] w (Res tA b t w (leave s id)):=by
 obtain⟨x0,x1,x2,x3,x4,x5,x6,x7,-⟩:=h.cells;have Hn:Hid (∀U,Bw w U→Tn tA b w U):=fun U hU=>Tn.below hU h.base
 obtain⟨X,hX⟩:∃X,X=leave s id:=⟨_,rfl⟩;rw[←hX];unfold leave at hX;rw[Ht] at hX;simp only[Bool.false_eq_true,if_false] at hX;obtain⟨q1,n1,c1,q2,n2,c2,sp,vw,pp,qe,ne,ce,qk,nk,ck⟩:=v;simp only[] at x0 x1 x2 x3 x4 x5 x6 x7;have HF:=hidF (zGb h.buys h.sells hw.book hid Ht);have HX:=hidF hX;clear h hw hid Ht hX;go_enter func70,ntmps70;go_wp2_with fail;refine HF.out.mono ?_;rintro e w1⟨rfl,b1⟩;have HB:=hidF (Hn.out _ (b1.alloc b1.size (.cells #[.int .i64 0,.int .i64 0,.int .i64 0,.int .i64 0,.int .i64 0] 54)));clear b1 HF x0 x1 x2 x3 x4 x5 x6 x7 Hn;go_wp2_with fail;go_ret;exact zAD HX.out (by decide) HB.out
theorem zHl(b t:Nat)(s:TS)(v:TV)(id:Int)(w:World)(h:TM w b t s v)(hw:Wf s)(hl:s.evs.length≤1000000)(hid:(Lit.int .i64 id).wf=true) :
  Calls prog 70 #[.pointer (some ⟨t,0,none⟩),.int .i64 id] w (Res tA b t w (leave s id)):=by
 cases Ht:zAf s.bs s.ss id with
 | false=>exact zMN b t s v id w h hw hid Ht
 | true=>
  refine zPH b t s v id w h hw hl Ht ?_;rintro xs xi xk rfl rfl rfl;exact zCg (wAq hw.book Ht)
theorem zPI{s s1:TS}{id:Int}(h:Wf s)(e:leave s id=.ok s1):Wf s1:=by
 unfold leave at e;split at e
 ·rename_i Ht
  have hb:=zCg (wAq h.book Ht);unfold part at e;generalize hg:zCi _ _ _ _=y at e;cases y with
  | error k=>cases e
  | ok s2=>
   cases e;have mo:Wf { s with bs:=swp.cB (spot s.bs s.ss id).s s.bs (spot s.bs s.ss id).i (spot s.bs s.ss id).k,ss:=swp.cS (spot s.bs s.ss id).s s.ss (spot s.bs s.ss id).i (spot s.bs s.ss id).k }:=⟨h.m0,h.m3,hb,h.ok,h.ws⟩
   have uE:=(zFZ mo hg).1;exact⟨uE.m0,uE.m3,uE.book,uE.ok,uE.ws⟩
 ·cases e
theorem zMO(b t:Nat)(s:TS)(v:TV)(id:Int)(w:World)(h:TM w b t s v)(hw:Wf s)(hl:s.evs.length≤1000000)(hid:(Lit.int .i64 id).wf=true)(Ht:zAf s.bs s.ss id=true) :
  Calls prog 44 #[.pointer (some ⟨t,0,none⟩),.int .i64 id] w (Res tB b t w (cancel s id)):=by
 obtain⟨x0,x1,x2,x3,x4,x5,x6,x7,-⟩:=h.cells;obtain⟨X,hX⟩:∃X,X=cancel s id:=⟨_,rfl⟩;rw[←hX];unfold cancel at hX;rw[if_pos Ht] at hX;have GD:Hid (∀U,Bw w U→Calls prog 70 #[.pointer (some ⟨t,0,none⟩),.int .i64 id] U fun e w'=>∃E,e=.returned E∧Hid (Res tB b t w X (.returned E) w')):=fun U hU=>by
  refine(zHl b t s v id U (h.below hU) hw hl hid).mono ?_;intro e w' hR;exact(zCK (hR.step (Tn.below (S:=tB) hU h.base) tA_tB) hX.symm).hid
 have hA:=wAq hw.book Ht;generalize spot s.bs s.ss id=x at hA;obtain⟨xs,xp,⟨r1,r2,r3,r4,r5⟩,xi,xk⟩:=x;obtain⟨q1,n1,c1,q2,n2,c2,sp,vw,pp,qe,ne,ce,qk,nk,ck⟩:=v;simp only[] at x0 x1 x2 x3 x4 x5 x6 x7;have HF:=hidF (swp.zBD q1 q2 n1 n2 c1 c2 s.bs s.ss id xs xp r1 r2 r3 r4 r5 xi xk w h.buys.ls h.sells.ls hA);clear h hw hA hX Ht hl hid;go_enter func44,ntmps44;go_wp2_with fail;refine HF.out.mono ?_;rintro e w1⟨rfl,b1⟩;have HB:=hidF (b1.alloc b1.size (.cells #[.int .i64 r1,.int .i64 r2,.int .i64 r3,.int .i64 r4,.int .i64 r5] 54));clear b1 HF x0 x1 x2 x3 x4 x5 x6 x7;go_wp2_with fail;refine(GD.out _ HB.out).mono ?_;rintro e w2⟨E,rfl,HR⟩;go_wp2_with fail;go_ret;exact HR.out
theorem zKp(b t:Nat)(s:TS)(v:TV)(id:Int)(w:World)(h:TM w b t s v)(hw:Wf s)(hl:s.evs.length≤1000000)(hid:(Lit.int .i64 id).wf=true)(Ht:zAf s.bs s.ss id=false) :
  Calls prog 44 #[.pointer (some ⟨t,0,none⟩),.int .i64 id] w (Res tB b t w (cancel s id)):=by
 obtain⟨x0,x1,x2,x3,x4,x5,x6,x7,-⟩:=h.cells;have Mk:Hid (∀U,Bw w U→U.cell? ⟨t,3,none⟩=some (.pointer (some ⟨v.sp,0,none⟩))):=fun U hU=>(h.below hU).cells.2.2.2.1
 obtain⟨X,hX⟩:∃X,X=cancel s id:=⟨_,rfl⟩;rw[←hX];unfold cancel at hX;rw[Ht] at hX;simp only[Bool.false_eq_true,if_false] at hX;have HF:=hidF (zGb h.buys h.sells hw.book hid Ht);by_cases hi:idx id s.ws<0
 ·rw[if_pos hi] at hX;have HX:=hidF hX;have mr:Hid (∀U,Bw w U→Calls prog 71 #[.pointer (some ⟨v.sp,0,none⟩),.int .i64 id] U fun e w'=>e=.returned (.tuple #[.agg #[.int .i64 0,.int .i64 0,.int .i64 0,.int .i64 0,.int .i64 0,.int .i64 0,.int .i64 0,.int .i64 0],.iface 80 (.int .i64 5)])∧Hid (Tn tB b w (w'.alloc (.cells #[.int .i64 0,.int .i64 0,.int .i64 0,.int .i64 0,.int .i64 0,.int .i64 0,.int .i64 0,.int .i64 0] 40)))):=fun U hU=>by
   refine(wak.zMx id b v.sp v.vw s.ws U (h.below hU).stops hi).mono ?_;rintro e w'⟨rfl,k1⟩;have k2:=hU.trans (k1.mono hU.size);exact⟨rfl,Tn.below (k2.alloc k2.size _) h.base⟩
  obtain⟨q1,n1,c1,q2,n2,c2,sp,vw,pp,qe,ne,ce,qk,nk,ck⟩:=v;simp only[] at x0 x1 x2 x3 x4 x5 x6 x7;clear h hw hX Ht hl hid hi;go_enter func44,ntmps44;go_wp2_with fail;refine HF.out.mono ?_;rintro e w1⟨rfl,b1⟩;have HB:=hidF (b1.alloc b1.size (.cells #[.int .i64 0,.int .i64 0,.int .i64 0,.int .i64 0,.int .i64 0] 54));clear b1 HF x0 x1 x2 x3 x4 x5 x6 x7;go_upto_if 24 with fail
  generalize w1.alloc (.cells #[.int .i64 0,.int .i64 0,.int .i64 0,.int .i64 0,.int .i64 0] 54)=W2 at *;have x3:=Mk.out W2 HB.out;go_wp2_with fail;refine(mr.out _ HB.out).mono ?_;rintro e w3⟨rfl,HT⟩;clear x3;go_wp2_with fail;go_ret;exact zAD HX.out (by decide) HT.out
 ·rw[if_neg hi] at hX;obtain⟨i,hI⟩:∃i:Nat,idx id s.ws=(i:Int):=⟨(idx id s.ws).toNat,by omega⟩
  have Hj:=wak.wBe id s.ws;rw[hI] at hX Hj;have MU:i<s.ws.length:=by omega
  simp only[Int.toNat_natCast] at hX;have hd:drop1 s.ws id=s.ws.take i++s.ws.drop (i+1):=by unfold drop1;rw[hI];rfl
  rw[hd] at hX;generalize ho:s.ws[i]! = o at *;obtain⟨a1,a2,a3,a4,a5,a6,a7,a8⟩:=o;have HX:=hidF hX;have HW:=hidF hw;have HL:=hidF hl;have mr:Hid (∀U,Bw w U→Calls prog 71 #[.pointer (some ⟨v.sp,0,none⟩),.int .i64 id] U fun e w'=>e=.returned (.tuple #[.agg #[.int .i64 a1,.int .i64 a2,.int .i64 a3,.int .i64 a4,.int .i64 a5,.int .i64 a6,.int .i64 a7,.int .i64 a8],.nilIface])∧Hid (∃v1,TM w' b t { s with ws:=s.ws.take i++s.ws.drop (i+1) } v1)∧Hid (Tn tB b w w')):=fun U hU=>by
   have hM:=h.below hU;have hs:=hM.stops;have Mq:∃g off c,v.vw=.slice (some ⟨g,off,none⟩) s.ws.length c:=by
    rcases hs.own.2 with ⟨_,hn⟩|⟨g,off,cap,cur,h1,_⟩
    ·omega
    ·exact⟨g,off,cap,h1⟩
   obtain⟨g,off,c,hv⟩:=Mq;rw[hv] at hs;refine(wak.zMy id i b v.sp g off _ c a1 a2 a3 a4 a5 a6 a7 a8 s.ws U rfl hs MU hI ho (by have:=HW.out.ws;omega)).mono ?_
   rintro e w'⟨rfl,v',k1,k2,-⟩;rw[←hv] at k2;obtain⟨k3,k4⟩:=hM.wait k1 k2;exact⟨rfl,⟨_,k3⟩,(Tn.below hU h.base).trans k4⟩
  have D8:Hid (∀U v1,TM U b t { s with ws:=s.ws.take i++s.ws.drop (i+1) } v1→Tn tB b w U→Calls prog 72 #[.pointer (some ⟨t,0,none⟩),.agg #[.int .i64 a1,.int .i64 a2,.int .i64 a3,.int .i64 a4,.int .i64 a5,.int .i64 a6,.int .i64 a7,.int .i64 a8]] U fun e w'=>∃E,e=.returned E∧Hid (Res tB b t w X (.returned E) w')):=fun U v1 hU hT=>by
   refine(zFp b t _ v1 a1 a2 a3 a4 a5 a6 a7 a8 U hU ⟨HW.out.m0,HW.out.m3,HW.out.book,HW.out.ok,?_⟩ HL.out).mono ?_
   ·have:=HW.out.ws;simp only[jE,jJ,jQ];omega
   ·intro e w' hR;exact(zCK (hR.step hT tA_tB) HX.out.symm).hid
  obtain⟨q1,n1,c1,q2,n2,c2,sp,vw,pp,qe,ne,ce,qk,nk,ck⟩:=v;simp only[] at x0 x1 x2 x3 x4 x5 x6 x7;clear h hw hX Ht hl hid hi hI Hj MU hd ho;go_enter func44,ntmps44;go_wp2_with fail;refine HF.out.mono ?_;rintro e w1⟨rfl,b1⟩;have HB:=hidF (b1.alloc b1.size (.cells #[.int .i64 0,.int .i64 0,.int .i64 0,.int .i64 0,.int .i64 0] 54));clear b1 HF x0 x1 x2 x3 x4 x5 x6 x7;go_upto_if 24 with fail
  generalize w1.alloc (.cells #[.int .i64 0,.int .i64 0,.int .i64 0,.int .i64 0,.int .i64 0] 54)=W2 at *;have x3:=Mk.out W2 HB.out;go_wp2_with fail;refine(mr.out _ HB.out).mono ?_;rintro e w3⟨rfl,mN,GY⟩;have Gj:Bw w3 (w3.alloc (.cells #[.int .i64 a1,.int .i64 a2,.int .i64 a3,.int .i64 a4,.int .i64 a5,.int .i64 a6,.int .i64 a7,.int .i64 a8] 40)):=(bzR _ _).alloc (nzR _) _;obtain⟨v1,mc⟩:=mN.out;have HM4:=hidF (mc.below Gj);have uZ:=hidF (GY.out.trans (Tn.below (S:=tB) Gj mc.base));clear x3 mc mN GY Gj;go_wp2_with fail;refine(D8.out _ _ HM4.out uZ.out).mono ?_;rintro e w5⟨E,rfl,HR⟩;go_wp2_with fail;go_ret;exact HR.out
theorem zKq(b t:Nat)(s:TS)(v:TV)(id:Int)(w:World)(h:TM w b t s v)(hw:Wf s)(hl:s.evs.length≤1000000)(hid:(Lit.int .i64 id).wf=true) :
  Calls prog 44 #[.pointer (some ⟨t,0,none⟩),.int .i64 id] w (Res tB b t w (cancel s id)):=by
 cases Ht:zAf s.bs s.ss id with
 | false=>exact zKp b t s v id w h hw hl hid Ht
 | true=>exact zMO b t s v id w h hw hl hid Ht
theorem zMP(b t:Nat)(s:TS)(v:TV)(a1 a2 a3 a4 a5 a6 a7 a8:Int)(w:World)(h:TM w b t s v)(hw:Wf s)(hl:s.evs.length≤1000000) :
  Calls prog 67 #[.pointer (some ⟨t,0,none⟩),.agg #[.int .i64 a1,.int .i64 a2,.int .i64 a3,.int .i64 a4,.int .i64 a5,.int .i64 a6,.int .i64 a7,.int .i64 a8]] w (Res tB b t w (sleep s ⟨a1,a2,a3,a4,a5,a6,a7,a8⟩)):=by
 obtain⟨W,hW⟩:∃W,W=w.alloc (.cells #[.int .i64 a1,.int .i64 a2,.int .i64 a3,.int .i64 a4,.int .i64 a5,.int .i64 a6,.int .i64 a7,.int .i64 a8] 40):=⟨_,rfl⟩;have Hk:Below w.heap.size w W:=by rw[hW];exact(bzR _ _).alloc (nzR _) _
 have Hd:W.heap[w.heap.size]?=some (.cells #[.int .i64 a1,.int .i64 a2,.int .i64 a3,.int .i64 a4,.int .i64 a5,.int .i64 a6,.int .i64 a7,.int .i64 a8] 40 (0,0)):=by rw[hW];exact jA w _
 obtain⟨X,hX⟩:∃X,X=sleep s ⟨a1,a2,a3,a4,a5,a6,a7,a8⟩:=⟨_,rfl⟩;rw[←hX];unfold sleep at hX;have eK:w.heap.size<W.heap.size:=(gzE.1 Hd).1;obtain⟨G,hG⟩:∃G,G=w.heap.size:=⟨_,rfl⟩;have hGW:G<W.heap.size:=by rw[hG];exact eK
 rw[←hG] at Hd;have Cb:Hid (∀U,Below W.heap.size W U→Calls prog 110 #[.pointer (some ⟨v.sp,0,none⟩),.agg #[.int .i64 a1,.int .i64 a2,.int .i64 a3,.int .i64 a4,.int .i64 a5,.int .i64 a6,.int .i64 a7,.int .i64 a8]] U fun e w'=>∃E,e=.returned E∧Hid ((E=.nilIface∧Hid (∃s1 v1,TM w' b t s1 v1∧s1.evs=s.evs∧X=.ok (tell s1 5 a1 a6 a8))∧Hid (Tn tB b w w')∧w'.heap[G]?=some (.cells #[.int .i64 a1,.int .i64 a2,.int .i64 a3,.int .i64 a4,.int .i64 a5,.int .i64 a6,.int .i64 a7,.int .i64 a8] 40 (0,0)))∨∃k,E=.iface 80 (.int .i64 k)∧Hid (Res tB b t w X (.returned (.iface 80 (.int .i64 k))) w'))):=fun U hU=>by
  have GV:=Hk.trans (hU.mono Hk.size);have hM:=h.below GV;refine(wak.zRr ⟨a1,a2,a3,a4,a5,a6,a7,a8⟩ b v.sp v.vw s.ws U hM.stops hw.ws).mono ?_;rintro e w'⟨rfl,v',k1,k2,-⟩;obtain⟨k3,k4⟩:=hM.wait k1 k2;have k5:=(Tn.below (S:=tB) GV h.base).trans k4;refine⟨_,rfl,?_⟩;show _∨_
  by_cases hE:wak.putE s.ws ⟨a1,a2,a3,a4,a5,a6,a7,a8⟩=0
  ·left;rw[if_pos hE] at hX;refine⟨by rw[hE];rfl,⟨_,_,k3,rfl,?_⟩,k5,?_⟩
   ·rw[hX];unfold wak.putL;rw[if_pos hE]
   ·refine(k2.block G (by have:=hU.size;omega) (fun e=>?_) (fun e=>?_)).trans ((hU.block G hGW).trans Hd)
    ·have h1:=h.stops.lt;omega
    ·rcases h.stops.own.2 with ⟨h1,_⟩|⟨g,off,cap,cur',h1,h2,h3,_⟩
     ·rw[h1] at e;cases e
     ·rw[h1] at e;simp only[Value.ownBlock,Option.some.injEq] at e;have:=(gzE.1 h3).1;omega
  ·right;rw[if_neg hE] at hX;refine⟨_,wAb hE,?_⟩;show Res _ _ _ _ _ _ _
   exact zAD hX hE k5
 have Mk:Hid (W.cell? ⟨t,3,none⟩=some (.pointer (some ⟨v.sp,0,none⟩))):=(h.below Hk).cells.2.2.2.1;obtain⟨c0,c1,c2,c3,c4,c5,c6,c7,-⟩:=wak.row8 Hd;have HL:=hidF hl;have Gf:=hidF (bzR W.heap.size W);obtain⟨q1,n1,c1',q2,n2,c2',sp,vw,pp,qe,ne,ce,qk,nk,ck⟩:=v;have x3:=Mk.out;simp only[] at x3;clear h hw hl Hk Hd hX eK hGW Mk;go_enter func67,ntmps67;go_upto_region 1 with fail
 rw[←hW];simp only[←hG];clear hW hG
 go_region_with (go_at_call 110;with_reducible refine(Cb.out _ ?_).mono ?_;(with_reducible repeat' (first|exact Gf.out|assumption|refine Below.drew ?_));rintro x w2 ⟨E,rfl,uQ⟩)
 all_goals
  rcases uQ.out with ⟨rfl,HM,HT,h6⟩|⟨k,rfl,HR⟩
  rotate_left
  ·clear uQ;go_wp2_with fail;go_ret;exact HR.out
  ·(clear uQ
    obtain⟨s1,v1,hM,Hm,gM⟩:=HM.out;have ua:=hidF (zDe (w0:=w) (x:=X) (S:=tB) 5 a1 a6 a8 hM HT.out tA_tB (by rw[Hm];exact HL.out) gM)
    clear c0 c1 c2 c3 c4 c5 c6 c7 x3 hM Hm gM;obtain⟨c0,c1,c2,c3,c4,c5,c6,c7,-⟩:=wak.row8 h6;clear h6;go_wp2_with fail;refine ua.out.mono ?_;rintro x w3⟨rfl,HR⟩;clear c0 c1 c2 c3 c4 c5 c6 c7;go_wp2_with fail;go_ret;exact HR.out)
end flr
end Go.Proofs.YtmhcghgfpfainaaGreatDoor
