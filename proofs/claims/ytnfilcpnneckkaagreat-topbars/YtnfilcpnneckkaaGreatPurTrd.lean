import Derived.Test.YtnfilcpnneckkaaGreatPurHold
import Derived.BigRegion
namespace Go.Proofs.YtnfilcpnneckkaaGreat
open Tryz
namespace pur
open Go.RowKit spn
theorem mixed:prog.follows Departure.mixedOrders=true:=by kernel_rfl
theorem bal{V W:World}(h:Bw V W)(o:Obj):Bw V (W.alloc o):=h.alloc h.size o
theorem who_V(V:World)(n:Int)(w:World)(h:Bw V w) :
  Calls prog 106 #[.int .i64 n] w fun e w'=>e=.returned (.agg #[.int .i64 n,.int .i64 1,.int .i64 9])∧Bw V w':=
 (zCl n w).mono fun _ _ h'=>⟨h'.1,h.trans (h'.2.mono h.size)⟩
theorem wAV(V:World)(n:Int)(w:World)(h:Bw V w) :
  Calls prog 74 #[.int .i64 n] w fun e w'=>e=.returned (.agg #[.int .i64 n,.int .i64 1,.int .i64 10000])∧Bw V w':=
 (zAt n w).mono fun _ _ h'=>⟨h'.1,h.trans (h'.2.mono h.size)⟩
theorem qty_V(V:World)(n:Int)(w:World)(h:Bw V w) :
  Calls prog 75 #[.int .i64 n] w fun e w'=>e=.returned (.agg #[.int .i64 n,.int .i64 1,.int .i64 10000])∧Bw V w':=
 (zAK n w).mono fun _ _ h'=>⟨h'.1,h.trans (h'.2.mono h.size)⟩
structure Bz (B:Int) (z:Pz):Prop where
 cash : -B≤z.cash∧z.cash≤B
 held : -B≤z.held∧z.held≤B
 stock : -B≤z.stock∧z.stock≤B
 hs : -B≤z.hs∧z.hs≤B
def Bd(B:Int)(ps:List Pz):Prop:=ps.length=9∧∀i,i<9→Bz B ps[i]!
section
variable {B D d:Int}{ps:List Pz}
theorem Bd.onto(h:Bd B ps){g:Pz→Pz}(hD:0≤D)(hg:∀z,Bz B z→Bz (B+D) (g z))(k:Nat):Bd (B+D) (on g k ps):=by
 refine⟨zDw h.1,fun i hi=>?_⟩
 rw[on_at g k ps i (by rw[h.1];exact hi)]
 have z:=h.2 i hi;split
 ·exact hg _ z
 ·obtain⟨⟨a,b⟩,⟨c,d⟩,⟨e,f⟩,⟨x,y⟩⟩:=z;exact⟨⟨by omega,by omega⟩,⟨by omega,by omega⟩,⟨by omega,by omega⟩,⟨by omega,by omega⟩⟩
theorem Bd.oC(h:Bd B ps)(h1 : -D≤d)(h2:d≤D)(k:Nat):Bd (B+D) (on (adC d) k ps):=h.onto (by omega) (fun z hz=>by
 obtain⟨⟨a,b⟩,⟨c,d⟩,⟨e,f⟩,⟨x,y⟩⟩:=hz;exact⟨⟨by simp only[adC];omega,by simp only[adC];omega⟩,⟨by simp only[adC];omega,by simp only[adC];omega⟩,⟨by simp only[adC];omega,by simp only[adC];omega⟩,⟨by simp only[adC];omega,by simp only[adC];omega⟩⟩) k
theorem Bd.oH(h:Bd B ps)(h1 : -D≤d)(h2:d≤D)(k:Nat):Bd (B+D) (on (adH d) k ps):=h.onto (by omega) (fun z hz=>by
 obtain⟨⟨a,b⟩,⟨c,d⟩,⟨e,f⟩,⟨x,y⟩⟩:=hz;exact⟨⟨by simp only[adH];omega,by simp only[adH];omega⟩,⟨by simp only[adH];omega,by simp only[adH];omega⟩,⟨by simp only[adH];omega,by simp only[adH];omega⟩,⟨by simp only[adH];omega,by simp only[adH];omega⟩⟩) k
theorem Bd.oS(h:Bd B ps)(h1 : -D≤d)(h2:d≤D)(k:Nat):Bd (B+D) (on (adS d) k ps):=h.onto (by omega) (fun z hz=>by
 obtain⟨⟨a,b⟩,⟨c,d⟩,⟨e,f⟩,⟨x,y⟩⟩:=hz;exact⟨⟨by simp only[adS];omega,by simp only[adS];omega⟩,⟨by simp only[adS];omega,by simp only[adS];omega⟩,⟨by simp only[adS];omega,by simp only[adS];omega⟩,⟨by simp only[adS];omega,by simp only[adS];omega⟩⟩) k
theorem Bd.oT(h:Bd B ps)(h1 : -D≤d)(h2:d≤D)(k:Nat):Bd (B+D) (on (adT d) k ps):=h.onto (by omega) (fun z hz=>by
 obtain⟨⟨a,b⟩,⟨c,d⟩,⟨e,f⟩,⟨x,y⟩⟩:=hz;exact⟨⟨by simp only[adT];omega,by simp only[adT];omega⟩,⟨by simp only[adT];omega,by simp only[adT];omega⟩,⟨by simp only[adT];omega,by simp only[adT];omega⟩,⟨by simp only[adT];omega,by simp only[adT];omega⟩⟩) k
end
theorem Ok.bd{ps:List Pz}(h:Ok ps):Bd 1000000000 ps:=⟨h.len,fun i hi=>by
 obtain⟨-,a,b,c,d,e,f⟩:=h.all i hi;exact⟨⟨by omega,by omega⟩,⟨by omega,by omega⟩,⟨by omega,by omega⟩,⟨by omega,by omega⟩⟩⟩
structure TS (w:World) (X P:Nat) (mk tk f t p q:Int) (wr:World) (ps:List Pz):Prop where
 pu:Pu 98 9 wr P ps
 tr:wr.heap[X]?=some (.cells #[.int .i64 mk,.int .i64 tk,.int .i64 f,.int .i64 t,.int .i64 p,.int .i64 q] 38 (0,0))
 ne:X≠P
 gr:w.grownBy wr (some P)
section
variable {w wr w' : World}{X P:Nat}{mk tk f t p q:Int}{ps:List Pz}
theorem TS.put(h:TS w X P mk tk f t p q wr ps)(k j:Nat)(v:Value)(z:Pz)(hk:k<9)(hj:j<5)(hz:(pL ps[k]!).set j v=pL z):TS w X P mk tk f t p q (wr.setCell ⟨P,k*5+j,none⟩ v) (ps.set k z):=
 ⟨h.pu.put k j v z hk hj hz,(heap_setCell_other wr ⟨P,k*5+j,none⟩ X v h.ne).trans h.tr,h.ne,grT h.gr (grC wr P _ v)⟩
theorem TS.drawn(h:TS w X P mk tk f t p q wr ps)(n:Nat):TS w X P mk tk f t p q (wr.drewN n) ps:=⟨h.pu,h.tr,h.ne,grT h.gr (grDN _ _ _)⟩
theorem TS.drawn1(h:TS w X P mk tk f t p q wr ps):TS w X P mk tk f t p q wr.drew ps:=⟨h.pu,h.tr,h.ne,grT h.gr (grD _ _)⟩
theorem TS.cells(h:TS w X P mk tk f t p q wr ps):wr.cell? ⟨X,2,none⟩=some (.int .i64 f)∧wr.cell? ⟨X,3,none⟩=some (.int .i64 t)∧wr.cell? ⟨X,4,none⟩=some (.int .i64 p)∧wr.cell? ⟨X,5,none⟩=some (.int .i64 q):=
 ⟨by simp[World.cell?,h.tr],by simp[World.cell?,h.tr],by simp[World.cell?,h.tr],by simp[World.cell?,h.tr]⟩
theorem TS.five(h:TS w X P mk tk f t p q wr ps):wr.cell? ⟨X,5,none⟩=some (.int .i64 q):=h.cells.2.2.2
end
set_option maxRecDepth 100000 in
set_option maxHeartbeats 4000000 in
theorem wBd(P:Nat)(ps:List Pz)(mk tk f t p q:Int)(w:World)(h:Pu 98 9 w P ps)(ho:Ok ps) :
  Calls prog 129 #[.pointer (some ⟨P,0,none⟩),.agg #[.int .i64 mk,.int .i64 tk,.int .i64 f,.int .i64 t,.int .i64 p,.int .i64 q]] w fun e w'=>e=.returned (errV (zAS ps f t p q))∧Pu 98 9 w' P (zBm ps f t p q)∧w.grownBy w' (some P):=by
 have HP:=hidU h;have uF:=hidU ho;have HR:Hid ([(f,1,9),(t,1,9),(p,1,10000),(q,1,10000)].any zAl=badT f t p q):=rfl;obtain⟨r,hr⟩:∃r,badT f t p q=r:=⟨_,rfl⟩;rw[hr] at HR;have C3:=hidU hr;clear hr h ho;obtain⟨EV,hEV⟩:∃EV,EV=errV (zAS ps f t p q):=⟨_,rfl⟩;obtain⟨PF,hPF⟩:∃PF,PF=zBm ps f t p q:=⟨_,rfl⟩;rw[←hEV,←hPF];have mj:=hidU hEV;have Uj:=hidU hPF;clear hEV hPF;obtain⟨X,hX⟩:∃X,X=w.heap.size:=⟨_,rfl⟩;have GL:=jA w (.cells #[.int .i64 mk,.int .i64 tk,.int .i64 f,.int .i64 t,.int .i64 p,.int .i64 q] 38);have gP:=(bzR w.heap.size w).alloc (nzR _) (.cells #[.int .i64 mk,.int .i64 tk,.int .i64 f,.int .i64 t,.int .i64 p,.int .i64 q] 38);rw[←hX] at GL;have hT0:TS w X P mk tk f t p q (w.alloc (.cells #[.int .i64 mk,.int .i64 tk,.int .i64 f,.int .i64 t,.int .i64 p,.int .i64 q] 38)) ps:=⟨HP.out.below gP,GL,(by have:=HP.out.lt;omega),grB gP _⟩
 go_enter func129,ntmps129;go_upto_region 1 with fail
 simp only[←hX];generalize w.alloc (.cells #[.int .i64 mk,.int .i64 tk,.int .i64 f,.int .i64 t,.int .i64 p,.int .i64 q] 38)=V at *;have ua:=hidU hT0;clear GL gP hX hT0;obtain⟨c2,c3,c4,c5⟩:=ua.out.cells;have SO:Hid (∀W,Below V.heap.size V W→(Below V.heap.size V W∧W.cell? ⟨X,2,none⟩=some (.int .i64 f)∧W.cell? ⟨X,3,none⟩=some (.int .i64 t)∧W.cell? ⟨X,4,none⟩=some (.int .i64 p)∧W.cell? ⟨X,5,none⟩=some (.int .i64 q))):=fun W hW=>⟨hW,zAa hW c2,zAa hW c3,zAa hW c4,zAa hW c5⟩
 go_region_held3 (fun W=>Below V.heap.size V W∧W.cell? ⟨X,2,none⟩=some (.int .i64 f)∧W.cell? ⟨X,3,none⟩=some (.int .i64 t)∧W.cell? ⟨X,4,none⟩=some (.int .i64 p)∧W.cell? ⟨X,5,none⟩=some (.int .i64 q))
  ((refine SO.out _ ?_;(with_reducible repeat' (first|assumption|refine bal ?_ _|refine Below.setCell ?_ ?_ _|refine Below.drew ?_|exact bzR _ _|exact nzR _|exact Below.size (by assumption)|refine jD ?_))))
  (first|(go_at_call 106;refine(who_V V _ _ ?_).mono ?_;(with_reducible repeat' (first|assumption|refine bal ?_ _|refine Below.setCell ?_ ?_ _|refine Below.drew ?_|exact bzR _ _|exact nzR _|exact Below.size (by assumption)|refine jD ?_));rintro x W ⟨rfl,Hm⟩)|(go_at_call 74;refine(wAV V _ _ ?_).mono ?_;(with_reducible repeat' (first|assumption|refine bal ?_ _|refine Below.setCell ?_ ?_ _|refine Below.drew ?_|exact bzR _ _|exact nzR _|exact Below.size (by assumption)|refine jD ?_));rintro x W ⟨rfl,Hm⟩)|(go_at_call 75;refine(qty_V V _ _ ?_).mono ?_;(with_reducible repeat' (first|assumption|refine bal ?_ _|refine Below.setCell ?_ ?_ _|refine Below.drew ?_|exact bzR _ _|exact nzR _|exact Below.size (by assumption)|refine jD ?_));rintro x W ⟨rfl,Hm⟩)|(go_at_call 11;refine(scheck4 r _ _ _ _ _ _ _ _ _ _ _ _ _ _ rfl HR.out).mono ?_;rintro x W2 ⟨rfl,GB⟩;have Hm:=Below.trans (by with_reducible assumption) (GB.mono (Below.size (by with_reducible assumption)))))
 have HT:Hid (TS w X P mk tk f t p q W2 ps):=⟨ua.out.pu.below Hm,(Hm.block X (gzE.1 ua.out.tr).1).trans ua.out.tr,ua.out.ne,grT ua.out.gr (grB Hm _)⟩;clear SO GB Hm c2 c3 c4 c5 ua HR;cases r with
 | true=>
  have HE:Hid (zAS ps f t p q=1):=by show _=_;unfold zAS;rw[C3.out];rfl
  have HF:Hid (zBm ps f t p q=ps):=by show _=_;unfold zBm;rw[HE.out];rfl
  simp only[show errV (zAd true)=.iface 90 (.int .i64 1) from rfl]
  go_wp2_with fail;go_ret;have he:=mj.out;rw[HE.out] at he;have hf:=Uj.out;rw[HF.out] at hf;subst he;subst hf;exact⟨rfl,HT.out.pu,HT.out.gr⟩
 | false=>
  simp only[show errV (zAd false)=.nilIface from rfl]
  obtain⟨b1,b2,b3,b4,b5,b6,b7,b8⟩:=zHU C3.out;have hm:=zGX b5 b6 b7 b8;obtain⟨a,ha,Cy,hia⟩:=ix_of b1 b2;obtain⟨b,hb,CB,BK⟩:=ix_of b3 b4;have Gp:Hid (a<9∧b<9):=⟨Cy,CB⟩;have cr:=hidU uF.out.bd;have cG:Hid (∀W,Calls prog 69 #[.pointer (some ⟨P,0,none⟩),.int .i64 f] W fun e w'=>e=.returned (.pointer (some ⟨P,a*5,none⟩))∧w'=W):=fun W=>of_at P a f W ha Cy
  have HFB:Hid (∀W,Calls prog 69 #[.pointer (some ⟨P,0,none⟩),.int .i64 t] W fun e w'=>e=.returned (.pointer (some ⟨P,b*5,none⟩))∧w'=W):=fun W=>of_at P b t W hb CB
  have HE:Hid (zAS ps f t p q=if (ps[a]!).hs<q∨(ps[b]!).held<p*q then 9 else if ¬f=t∧(1000000000<(ps[a]!).cash+p*q∨1000000000<(ps[b]!).stock+q) then 4 else 0):=by show _=_;unfold zAS;rw[C3.out,hia,BK];rfl
  have pj:Hid (zAS ps f t p q=0→zBm ps f t p q=zGW a b (p*q) q ps):=fun e=>by unfold zBm;rw[if_pos e,hia,BK]
  have pm:Hid (¬zAS ps f t p q=0→zBm ps f t p q=ps):=fun e=>by unfold zBm;rw[if_neg e]
  have bO:IntKind.i64.wrap (p*q)=p*q:=(IntWalk.i64_left _).trans (zAN _ (by omega) (by omega))
  have EK:wrap64 (p*q)=p*q:=zAN _ (by clear bO;omega) (by clear bO;omega)
  have HX:Hid (∀W,Pu 98 9 W P ps→W.cell? ⟨P,a*5+4,none⟩=some (.int .i64 (ps[a]!).hs)∧W.cell? ⟨P,b*5+2,none⟩=some (.int .i64 (ps[b]!).held)∧W.cell? ⟨P,a*5+1,none⟩=some (.int .i64 (ps[a]!).cash)∧W.cell? ⟨P,b*5+3,none⟩=some (.int .i64 (ps[b]!).stock)):=fun W hW=>⟨hW.cell a Cy 4 _ rfl,hW.cell b CB 2 _ rfl,hW.cell a Cy 1 _ rfl,hW.cell b CB 3 _ rfl⟩
  obtain⟨c,hc⟩:∃c,c=p*q:=⟨_,rfl⟩;have dL:IntKind.i64.wrap (p*q)=c:=bO.trans hc.symm;have dM:wrap64 (p*q)=c:=EK.trans hc.symm;clear bO EK;rw[←hc] at HE pj hm;have HQ:Hid (1≤q∧q≤10000∧1≤c∧c≤100000000):=⟨b7,b8,hm.1,hm.2⟩;have Gu:Hid (∀W,Calls prog 107 #[.int .i64 (ps[a]!).cash,.int .i64 c] W fun e w'=>e=.returned (.bool (decide (1000000000<(ps[a]!).cash+c)))∧w'=W):=fun W=>zDS _ _ W (zAN _ (by have:=(cr.out.2 a Cy).cash;clear dL dM;omega) (by have:=(cr.out.2 a Cy).cash;clear dL dM;omega))
  have Gv:Hid (∀W,Calls prog 107 #[.int .i64 (ps[b]!).stock,.int .i64 q] W fun e w'=>e=.returned (.bool (decide (1000000000<(ps[b]!).stock+q)))∧w'=W):=fun W=>zDS _ _ W (zAN _ (by have:=(cr.out.2 b CB).stock;clear dL dM;omega) (by have:=(cr.out.2 b CB).stock;clear dL dM;omega))
  clear hm ha Cy hia hb CB BK b1 b2 b3 b4 b5 b6 b7 b8 hc HP uF C3;obtain⟨c2,c3,c4,c5⟩:=HT.out.cells;go_wp2_with fail;go_quiet ((go_at_call 69;first|with_reducible exact Calls.quiet_of_same (cG.out _)|with_reducible exact Calls.quiet_of_same (HFB.out _)))
  have HT:=hidU (HT.out.drawn nq);generalize W2.drewN nq=W3 at *;try simp only[dL]
  try simp only[dM]
  clear c2 c3 c4 c5 nq cG HFB dL dM;obtain⟨c2,c3,c4,c5⟩:=HT.out.cells;obtain⟨x1,x2,x3,x4⟩:=HX.out _ HT.out.pu;have dX:Hid (∀i,i<9→Bz 1000000000 ps[i]!):=cr.out.2;have gP:=cr.out;have Gd:=gP.oT (D:=100000000) (d:=-q) (by have:=HQ.out;omega) (by have:=HQ.out;omega) a
  have dY:=hidU Gd.2;have gG:=Gd.oS (D:=100000000) (d:=-q) (by have:=HQ.out;omega) (by have:=HQ.out;omega) a
  have dZ:=hidU gG.2;have UK:=gG.oS (D:=100000000) (d:=q) (by have:=HQ.out;omega) (by have:=HQ.out;omega) b
  have Dc:=hidU UK.2;have Ub:=UK.oH (D:=100000000) (d:=-c) (by have:=HQ.out;omega) (by have:=HQ.out;omega) b
  have Dd:=hidU Ub.2;have U4:=Ub.oC (D:=100000000) (d:=-c) (by have:=HQ.out;omega) (by have:=HQ.out;omega) b
  have De:=hidU U4.2;have hB6:=U4.oC (D:=100000000) (d:=c) (by have:=HQ.out;omega) (by have:=HQ.out;omega) a
  have HBN6:=hidU hB6.2;clear gP Gd gG UK Ub U4 hB6 cr;by_cases h1:(ps[a]!).hs<q
  ·have HE:Hid (zAS ps f t p q=9):=by show _=_;rw[HE.out,if_pos (.inl h1)]
   have HF:Hid (zBm ps f t p q=ps):=pm.out (by rw[HE.out];decide)
   have d1:decide ((ps[a]!).hs<q)=true:=decide_eq_true h1;generalize (ps[a]!).hs=A4 at x1 h1 d1;clear x2 x3 x4 HX Gu Gv;go_wp2_with fail;go_quiet (fail)
   have HT:=hidU (HT.out.drawn nq);generalize W3.drewN nq=W4 at *;go_wp2_with fail;go_ret;have he:=mj.out;rw[HE.out] at he;have hf:=Uj.out;rw[HF.out] at hf;subst he;subst hf;exact⟨rfl,HT.out.pu,HT.out.gr⟩
  have d1:decide ((ps[a]!).hs<q)=false:=decide_eq_false h1;by_cases h2:(ps[b]!).held<c
  ·have HE:Hid (zAS ps f t p q=9):=by show _=_;rw[HE.out,if_pos (.inr h2)]
   have HF:Hid (zBm ps f t p q=ps):=pm.out (by rw[HE.out];decide)
   have d2:decide ((ps[b]!).held<c)=true:=decide_eq_true h2;generalize (ps[a]!).hs=A4 at x1 h1 d1;generalize (ps[b]!).held=B2 at x2 h2 d2;clear x3 x4 HX Gu Gv;go_wp2_with fail;go_quiet (fail)
   have HT:=hidU (HT.out.drawn nq);generalize W3.drewN nq=W4 at *;go_wp2_with fail;go_ret;have he:=mj.out;rw[HE.out] at he;have hf:=Uj.out;rw[HF.out] at hf;subst he;subst hf;exact⟨rfl,HT.out.pu,HT.out.gr⟩
  have d2:decide ((ps[b]!).held<c)=false:=decide_eq_false h2;have bk:Hid (¬((ps[a]!).hs<q∨(ps[b]!).held<c)):=fun x=>x.elim h1 h2
  generalize (ps[a]!).hs=A4 at x1 h1 d1;generalize (ps[b]!).held=B2 at x2 h2 d2;go_wp2_with fail;go_quiet (fail)
  have HT:=hidU (HT.out.drawn nq);generalize W3.drewN nq=W4 at *;clear c2 c3 c4 c5 nq x1 x2 x3 x4 h1 h2 d1 d2;obtain⟨c2,c3,c4,c5⟩:=HT.out.cells;obtain⟨x1,x2,x3,x4⟩:=HX.out _ HT.out.pu;clear x1 x2 HX;by_cases PW:f=t
  ·have Gs:Hid (zAS ps f t p q=0):=by show _=_;rw[HE.out,if_neg bk.out,if_neg (fun x=>x.1 PW)]
   have d3:(f != t)=false:=by simp[PW]
   clear PW Gu Gv HE pm;go_wp2_with fail;go_quiet (fail)
   have HT:=hidU (HT.out.drawn nq);generalize W4.drewN nq=wq0 at *;clear c2 c3 c4 c5 nq x3 x4 d3;have ua:=HT;clear HT;have mixed:=mixed;have hv:=(dX.out a Gp.out.1).hs;have e0:IntKind.i64.wrap (((ps)[a]!).hs - q)=((ps)[a]!).hs - q:=(IntWalk.i64_left _).trans (zAN _ (by have:=HQ.out;omega) (by have:=HQ.out;omega))
   have e1:wrap64 (((ps)[a]!).hs - q)=((ps)[a]!).hs - q:=zAN _ (by clear e0;have:=HQ.out;omega) (by clear e0;have:=HQ.out;omega)
   have xc:=ua.out.pu.cell a Gp.out.1 4 _ rfl;have xz:=ua.out.pu.froz (a*5+4);have xq:=ua.out.five;have ub:=hidU (ua.out.put a 4 (.int .i64 (((ps)[a]!).hs - q)) (adT (-q) (ps)[a]!) Gp.out.1 (by omega) rfl)
   clear ua hv;generalize ((ps)[a]!).hs=xx at *;go_wp2_with fail
   go_big_region_o
   have ub:=hidU ub.out.drawn1;generalize (wq0.setCell ⟨P,a*5+4,none⟩ (.int .i64 (xx - q))).drew=wq1 at *;clear xc xz xq e0 e1;change Hid (TS w X P mk tk f t p q wq1 (on (adT (-q)) a ps)) at ub
   have hv:=(dY.out a Gp.out.1).stock;have e0:IntKind.i64.wrap ((((on (adT (-q)) a ps))[a]!).stock - q)=(((on (adT (-q)) a ps))[a]!).stock - q:=(IntWalk.i64_left _).trans (zAN _ (by have:=HQ.out;omega) (by have:=HQ.out;omega))
   have e1:wrap64 ((((on (adT (-q)) a ps))[a]!).stock - q)=(((on (adT (-q)) a ps))[a]!).stock - q:=zAN _ (by clear e0;have:=HQ.out;omega) (by clear e0;have:=HQ.out;omega)
   have xc:=ub.out.pu.cell a Gp.out.1 3 _ rfl;have xz:=ub.out.pu.froz (a*5+3);have xq:=ub.out.five;have GV:=hidU (ub.out.put a 3 (.int .i64 ((((on (adT (-q)) a ps))[a]!).stock - q)) (adS (-q) ((on (adT (-q)) a ps))[a]!) Gp.out.1 (by omega) rfl)
   clear ub hv;generalize (((on (adT (-q)) a ps))[a]!).stock=xx at *;go_wp2_with fail
   go_big_region_o
   have GV:=hidU GV.out.drawn1;generalize (wq1.setCell ⟨P,a*5+3,none⟩ (.int .i64 (xx - q))).drew=wq2 at *;clear xc xz xq e0 e1;change Hid (TS w X P mk tk f t p q wq2 (on (adS (-q)) a (on (adT (-q)) a ps))) at GV
   have hv:=(dZ.out b Gp.out.2).stock;have e0:IntKind.i64.wrap ((((on (adS (-q)) a (on (adT (-q)) a ps)))[b]!).stock+q)=(((on (adS (-q)) a (on (adT (-q)) a ps)))[b]!).stock+q:=(IntWalk.i64_left _).trans (zAN _ (by have:=HQ.out;omega) (by have:=HQ.out;omega))
   have e1:wrap64 ((((on (adS (-q)) a (on (adT (-q)) a ps)))[b]!).stock+q)=(((on (adS (-q)) a (on (adT (-q)) a ps)))[b]!).stock+q:=zAN _ (by clear e0;have:=HQ.out;omega) (by clear e0;have:=HQ.out;omega)
   have xc:=GV.out.pu.cell b Gp.out.2 3 _ rfl;have xz:=GV.out.pu.froz (b*5+3);have xq:=GV.out.five;have GZ:=hidU (GV.out.put b 3 (.int .i64 ((((on (adS (-q)) a (on (adT (-q)) a ps)))[b]!).stock+q)) (adS q ((on (adS (-q)) a (on (adT (-q)) a ps)))[b]!) Gp.out.2 (by omega) rfl)
   clear GV hv;generalize (((on (adS (-q)) a (on (adT (-q)) a ps)))[b]!).stock=xx at *;go_wp2_with fail
   go_big_region_o
   have GZ:=hidU GZ.out.drawn1;generalize (wq2.setCell ⟨P,b*5+3,none⟩ (.int .i64 (xx+q))).drew=wq3 at *;clear xc xz xq e0 e1;change Hid (TS w X P mk tk f t p q wq3 (on (adS q) b (on (adS (-q)) a (on (adT (-q)) a ps)))) at GZ
   have hv:=(Dc.out b Gp.out.2).held;have e0:IntKind.i64.wrap ((((on (adS q) b (on (adS (-q)) a (on (adT (-q)) a ps))))[b]!).held - c)=(((on (adS q) b (on (adS (-q)) a (on (adT (-q)) a ps))))[b]!).held - c:=(IntWalk.i64_left _).trans (zAN _ (by have:=HQ.out;omega) (by have:=HQ.out;omega))
   have e1:wrap64 ((((on (adS q) b (on (adS (-q)) a (on (adT (-q)) a ps))))[b]!).held - c)=(((on (adS q) b (on (adS (-q)) a (on (adT (-q)) a ps))))[b]!).held - c:=zAN _ (by clear e0;have:=HQ.out;omega) (by clear e0;have:=HQ.out;omega)
   have xc:=GZ.out.pu.cell b Gp.out.2 2 _ rfl;have xz:=GZ.out.pu.froz (b*5+2);have xq:=GZ.out.five;have uZ:=hidU (GZ.out.put b 2 (.int .i64 ((((on (adS q) b (on (adS (-q)) a (on (adT (-q)) a ps))))[b]!).held - c)) (adH (-c) ((on (adS q) b (on (adS (-q)) a (on (adT (-q)) a ps))))[b]!) Gp.out.2 (by omega) rfl)
   clear GZ hv;generalize (((on (adS q) b (on (adS (-q)) a (on (adT (-q)) a ps))))[b]!).held=xx at *;go_upto_region 13 with fail
   generalize wq3.setCell ⟨P,b*5+2,none⟩ (.int .i64 (xx - c))=wq4 at *;clear xc xz xq e0 e1;change Hid (TS w X P mk tk f t p q wq4 (on (adH (-c)) b (on (adS q) b (on (adS (-q)) a (on (adT (-q)) a ps))))) at uZ
   have hv:=(Dd.out b Gp.out.2).cash;have e0:IntKind.i64.wrap ((((on (adH (-c)) b (on (adS q) b (on (adS (-q)) a (on (adT (-q)) a ps)))))[b]!).cash - c)=(((on (adH (-c)) b (on (adS q) b (on (adS (-q)) a (on (adT (-q)) a ps)))))[b]!).cash - c:=(IntWalk.i64_left _).trans (zAN _ (by have:=HQ.out;omega) (by have:=HQ.out;omega))
   have e1:wrap64 ((((on (adH (-c)) b (on (adS q) b (on (adS (-q)) a (on (adT (-q)) a ps)))))[b]!).cash - c)=(((on (adH (-c)) b (on (adS q) b (on (adS (-q)) a (on (adT (-q)) a ps)))))[b]!).cash - c:=zAN _ (by clear e0;have:=HQ.out;omega) (by clear e0;have:=HQ.out;omega)
   have xc:=uZ.out.pu.cell b Gp.out.2 1 _ rfl;have xz:=uZ.out.pu.froz (b*5+1);have xq:=uZ.out.five;have Uz:=hidU (uZ.out.put b 1 (.int .i64 ((((on (adH (-c)) b (on (adS q) b (on (adS (-q)) a (on (adT (-q)) a ps)))))[b]!).cash - c)) (adC (-c) ((on (adH (-c)) b (on (adS q) b (on (adS (-q)) a (on (adT (-q)) a ps)))))[b]!) Gp.out.2 (by omega) rfl)
   clear uZ hv;generalize (((on (adH (-c)) b (on (adS q) b (on (adS (-q)) a (on (adT (-q)) a ps)))))[b]!).cash=xx at *;go_upto_region 14 with fail
   generalize wq4.setCell ⟨P,b*5+1,none⟩ (.int .i64 (xx - c))=wq5 at *;clear xc xz xq e0 e1;change Hid (TS w X P mk tk f t p q wq5 (on (adC (-c)) b (on (adH (-c)) b (on (adS q) b (on (adS (-q)) a (on (adT (-q)) a ps)))))) at Uz
   have hv:=(De.out a Gp.out.1).cash;have e0:IntKind.i64.wrap ((((on (adC (-c)) b (on (adH (-c)) b (on (adS q) b (on (adS (-q)) a (on (adT (-q)) a ps))))))[a]!).cash+c)=(((on (adC (-c)) b (on (adH (-c)) b (on (adS q) b (on (adS (-q)) a (on (adT (-q)) a ps))))))[a]!).cash+c:=(IntWalk.i64_left _).trans (zAN _ (by have:=HQ.out;omega) (by have:=HQ.out;omega))
   have e1:wrap64 ((((on (adC (-c)) b (on (adH (-c)) b (on (adS q) b (on (adS (-q)) a (on (adT (-q)) a ps))))))[a]!).cash+c)=(((on (adC (-c)) b (on (adH (-c)) b (on (adS q) b (on (adS (-q)) a (on (adT (-q)) a ps))))))[a]!).cash+c:=zAN _ (by clear e0;have:=HQ.out;omega) (by clear e0;have:=HQ.out;omega)
   have xc:=Uz.out.pu.cell a Gp.out.1 1 _ rfl;have xz:=Uz.out.pu.froz (a*5+1);have xq:=Uz.out.five;have UA:=hidU (Uz.out.put a 1 (.int .i64 ((((on (adC (-c)) b (on (adH (-c)) b (on (adS q) b (on (adS (-q)) a (on (adT (-q)) a ps))))))[a]!).cash+c)) (adC c ((on (adC (-c)) b (on (adH (-c)) b (on (adS q) b (on (adS (-q)) a (on (adT (-q)) a ps))))))[a]!) Gp.out.1 (by omega) rfl)
   clear Uz hv;generalize (((on (adC (-c)) b (on (adH (-c)) b (on (adS q) b (on (adS (-q)) a (on (adT (-q)) a ps))))))[a]!).cash=xx at *;go_upto_region 15 with fail
   generalize wq5.setCell ⟨P,a*5+1,none⟩ (.int .i64 (xx+c))=wq6 at *;clear xc xz xq e0 e1;change Hid (TS w X P mk tk f t p q wq6 (on (adC c) a (on (adC (-c)) b (on (adH (-c)) b (on (adS q) b (on (adS (-q)) a (on (adT (-q)) a ps))))))) at UA
   go_wp2_with fail;go_ret;have he:=mj.out;rw[Gs.out] at he;have hf:=Uj.out;rw[pj.out Gs.out] at hf;subst he;subst hf;exact⟨rfl,UA.out.pu,UA.out.gr⟩
  have d3:(f != t)=true:=by simp[PW]
  by_cases h3:1000000000<(ps[a]!).cash+c
  ·have HE:Hid (zAS ps f t p q=4):=by show _=_;rw[HE.out,if_neg bk.out,if_pos ⟨PW,.inl h3⟩]
   have HF:Hid (zBm ps f t p q=ps):=pm.out (by rw[HE.out];decide)
   rw[decide_eq_true h3] at Gu;generalize (ps[a]!).cash=A1 at x3 Gu;generalize (ps[b]!).stock=B3 at x4 Gv;clear PW h3;go_wp2_with fail;go_quiet ((go_at_call 107;first|with_reducible exact Calls.quiet_of_same (Gu.out _)|with_reducible exact Calls.quiet_of_same (Gv.out _)))
   have HT:=hidU (HT.out.drawn nq);generalize W4.drewN nq=W5 at *;go_wp2_with fail;go_ret;have he:=mj.out;rw[HE.out] at he;have hf:=Uj.out;rw[HF.out] at hf;subst he;subst hf;exact⟨rfl,HT.out.pu,HT.out.gr⟩
  rw[decide_eq_false h3] at Gu;by_cases h4:1000000000<(ps[b]!).stock+q
  ·have HE:Hid (zAS ps f t p q=4):=by show _=_;rw[HE.out,if_neg bk.out,if_pos ⟨PW,.inr h4⟩]
   have HF:Hid (zBm ps f t p q=ps):=pm.out (by rw[HE.out];decide)
   rw[decide_eq_true h4] at Gv;generalize (ps[a]!).cash=A1 at x3 Gu;generalize (ps[b]!).stock=B3 at x4 Gv;clear PW h3 h4;go_wp2_with fail;go_quiet ((go_at_call 107;first|with_reducible exact Calls.quiet_of_same (Gu.out _)|with_reducible exact Calls.quiet_of_same (Gv.out _)))
   have HT:=hidU (HT.out.drawn nq);generalize W4.drewN nq=W5 at *;go_wp2_with fail;go_ret;have he:=mj.out;rw[HE.out] at he;have hf:=Uj.out;rw[HF.out] at hf;subst he;subst hf;exact⟨rfl,HT.out.pu,HT.out.gr⟩
  ·have Gs:Hid (zAS ps f t p q=0):=by show _=_;rw[HE.out,if_neg bk.out,if_neg (fun x=>x.2.elim h3 h4)]
   rw[decide_eq_false h4] at Gv;generalize (ps[a]!).cash=A1 at x3 Gu;generalize (ps[b]!).stock=B3 at x4 Gv;clear PW h3 h4;go_wp2_with fail;go_quiet ((go_at_call 107;first|with_reducible exact Calls.quiet_of_same (Gu.out _)|with_reducible exact Calls.quiet_of_same (Gv.out _)))
   have HT:=hidU (HT.out.drawn nq);generalize W4.drewN nq=wq0 at *;clear c2 c3 c4 c5 nq x3 x4 d3 Gu Gv;have ua:=HT;clear HT;have mixed:=mixed;have hv:=(dX.out a Gp.out.1).hs;have e0:IntKind.i64.wrap (((ps)[a]!).hs - q)=((ps)[a]!).hs - q:=(IntWalk.i64_left _).trans (zAN _ (by have:=HQ.out;omega) (by have:=HQ.out;omega))
   have e1:wrap64 (((ps)[a]!).hs - q)=((ps)[a]!).hs - q:=zAN _ (by clear e0;have:=HQ.out;omega) (by clear e0;have:=HQ.out;omega)
   have xc:=ua.out.pu.cell a Gp.out.1 4 _ rfl;have xz:=ua.out.pu.froz (a*5+4);have xq:=ua.out.five;have ub:=hidU (ua.out.put a 4 (.int .i64 (((ps)[a]!).hs - q)) (adT (-q) (ps)[a]!) Gp.out.1 (by omega) rfl)
   clear ua hv;generalize ((ps)[a]!).hs=xx at *;go_wp2_with fail
   go_big_region_o
   have ub:=hidU ub.out.drawn1;generalize (wq0.setCell ⟨P,a*5+4,none⟩ (.int .i64 (xx - q))).drew=wq1 at *;clear xc xz xq e0 e1;change Hid (TS w X P mk tk f t p q wq1 (on (adT (-q)) a ps)) at ub
   have hv:=(dY.out a Gp.out.1).stock;have e0:IntKind.i64.wrap ((((on (adT (-q)) a ps))[a]!).stock - q)=(((on (adT (-q)) a ps))[a]!).stock - q:=(IntWalk.i64_left _).trans (zAN _ (by have:=HQ.out;omega) (by have:=HQ.out;omega))
   have e1:wrap64 ((((on (adT (-q)) a ps))[a]!).stock - q)=(((on (adT (-q)) a ps))[a]!).stock - q:=zAN _ (by clear e0;have:=HQ.out;omega) (by clear e0;have:=HQ.out;omega)
   have xc:=ub.out.pu.cell a Gp.out.1 3 _ rfl;have xz:=ub.out.pu.froz (a*5+3);have xq:=ub.out.five;have GV:=hidU (ub.out.put a 3 (.int .i64 ((((on (adT (-q)) a ps))[a]!).stock - q)) (adS (-q) ((on (adT (-q)) a ps))[a]!) Gp.out.1 (by omega) rfl)
   clear ub hv;generalize (((on (adT (-q)) a ps))[a]!).stock=xx at *;go_wp2_with fail
   go_big_region_o
   have GV:=hidU GV.out.drawn1;generalize (wq1.setCell ⟨P,a*5+3,none⟩ (.int .i64 (xx - q))).drew=wq2 at *;clear xc xz xq e0 e1;change Hid (TS w X P mk tk f t p q wq2 (on (adS (-q)) a (on (adT (-q)) a ps))) at GV
   have hv:=(dZ.out b Gp.out.2).stock;have e0:IntKind.i64.wrap ((((on (adS (-q)) a (on (adT (-q)) a ps)))[b]!).stock+q)=(((on (adS (-q)) a (on (adT (-q)) a ps)))[b]!).stock+q:=(IntWalk.i64_left _).trans (zAN _ (by have:=HQ.out;omega) (by have:=HQ.out;omega))
   have e1:wrap64 ((((on (adS (-q)) a (on (adT (-q)) a ps)))[b]!).stock+q)=(((on (adS (-q)) a (on (adT (-q)) a ps)))[b]!).stock+q:=zAN _ (by clear e0;have:=HQ.out;omega) (by clear e0;have:=HQ.out;omega)
   have xc:=GV.out.pu.cell b Gp.out.2 3 _ rfl;have xz:=GV.out.pu.froz (b*5+3);have xq:=GV.out.five;have GZ:=hidU (GV.out.put b 3 (.int .i64 ((((on (adS (-q)) a (on (adT (-q)) a ps)))[b]!).stock+q)) (adS q ((on (adS (-q)) a (on (adT (-q)) a ps)))[b]!) Gp.out.2 (by omega) rfl)
   clear GV hv;generalize (((on (adS (-q)) a (on (adT (-q)) a ps)))[b]!).stock=xx at *;go_wp2_with fail
   go_big_region_o
   have GZ:=hidU GZ.out.drawn1;generalize (wq2.setCell ⟨P,b*5+3,none⟩ (.int .i64 (xx+q))).drew=wq3 at *;clear xc xz xq e0 e1;change Hid (TS w X P mk tk f t p q wq3 (on (adS q) b (on (adS (-q)) a (on (adT (-q)) a ps)))) at GZ
   have hv:=(Dc.out b Gp.out.2).held;have e0:IntKind.i64.wrap ((((on (adS q) b (on (adS (-q)) a (on (adT (-q)) a ps))))[b]!).held - c)=(((on (adS q) b (on (adS (-q)) a (on (adT (-q)) a ps))))[b]!).held - c:=(IntWalk.i64_left _).trans (zAN _ (by have:=HQ.out;omega) (by have:=HQ.out;omega))
   have e1:wrap64 ((((on (adS q) b (on (adS (-q)) a (on (adT (-q)) a ps))))[b]!).held - c)=(((on (adS q) b (on (adS (-q)) a (on (adT (-q)) a ps))))[b]!).held - c:=zAN _ (by clear e0;have:=HQ.out;omega) (by clear e0;have:=HQ.out;omega)
   have xc:=GZ.out.pu.cell b Gp.out.2 2 _ rfl;have xz:=GZ.out.pu.froz (b*5+2);have xq:=GZ.out.five;have uZ:=hidU (GZ.out.put b 2 (.int .i64 ((((on (adS q) b (on (adS (-q)) a (on (adT (-q)) a ps))))[b]!).held - c)) (adH (-c) ((on (adS q) b (on (adS (-q)) a (on (adT (-q)) a ps))))[b]!) Gp.out.2 (by omega) rfl)
   clear GZ hv;generalize (((on (adS q) b (on (adS (-q)) a (on (adT (-q)) a ps))))[b]!).held=xx at *;go_upto_region 13 with fail
   generalize wq3.setCell ⟨P,b*5+2,none⟩ (.int .i64 (xx - c))=wq4 at *;clear xc xz xq e0 e1;change Hid (TS w X P mk tk f t p q wq4 (on (adH (-c)) b (on (adS q) b (on (adS (-q)) a (on (adT (-q)) a ps))))) at uZ
   have hv:=(Dd.out b Gp.out.2).cash;have e0:IntKind.i64.wrap ((((on (adH (-c)) b (on (adS q) b (on (adS (-q)) a (on (adT (-q)) a ps)))))[b]!).cash - c)=(((on (adH (-c)) b (on (adS q) b (on (adS (-q)) a (on (adT (-q)) a ps)))))[b]!).cash - c:=(IntWalk.i64_left _).trans (zAN _ (by have:=HQ.out;omega) (by have:=HQ.out;omega))
   have e1:wrap64 ((((on (adH (-c)) b (on (adS q) b (on (adS (-q)) a (on (adT (-q)) a ps)))))[b]!).cash - c)=(((on (adH (-c)) b (on (adS q) b (on (adS (-q)) a (on (adT (-q)) a ps)))))[b]!).cash - c:=zAN _ (by clear e0;have:=HQ.out;omega) (by clear e0;have:=HQ.out;omega)
   have xc:=uZ.out.pu.cell b Gp.out.2 1 _ rfl;have xz:=uZ.out.pu.froz (b*5+1);have xq:=uZ.out.five;have Uz:=hidU (uZ.out.put b 1 (.int .i64 ((((on (adH (-c)) b (on (adS q) b (on (adS (-q)) a (on (adT (-q)) a ps)))))[b]!).cash - c)) (adC (-c) ((on (adH (-c)) b (on (adS q) b (on (adS (-q)) a (on (adT (-q)) a ps)))))[b]!) Gp.out.2 (by omega) rfl)
   clear uZ hv;generalize (((on (adH (-c)) b (on (adS q) b (on (adS (-q)) a (on (adT (-q)) a ps)))))[b]!).cash=xx at *;go_upto_region 14 with fail
   generalize wq4.setCell ⟨P,b*5+1,none⟩ (.int .i64 (xx - c))=wq5 at *;clear xc xz xq e0 e1;change Hid (TS w X P mk tk f t p q wq5 (on (adC (-c)) b (on (adH (-c)) b (on (adS q) b (on (adS (-q)) a (on (adT (-q)) a ps)))))) at Uz
   have hv:=(De.out a Gp.out.1).cash;have e0:IntKind.i64.wrap ((((on (adC (-c)) b (on (adH (-c)) b (on (adS q) b (on (adS (-q)) a (on (adT (-q)) a ps))))))[a]!).cash+c)=(((on (adC (-c)) b (on (adH (-c)) b (on (adS q) b (on (adS (-q)) a (on (adT (-q)) a ps))))))[a]!).cash+c:=(IntWalk.i64_left _).trans (zAN _ (by have:=HQ.out;omega) (by have:=HQ.out;omega))
   have e1:wrap64 ((((on (adC (-c)) b (on (adH (-c)) b (on (adS q) b (on (adS (-q)) a (on (adT (-q)) a ps))))))[a]!).cash+c)=(((on (adC (-c)) b (on (adH (-c)) b (on (adS q) b (on (adS (-q)) a (on (adT (-q)) a ps))))))[a]!).cash+c:=zAN _ (by clear e0;have:=HQ.out;omega) (by clear e0;have:=HQ.out;omega)
   have xc:=Uz.out.pu.cell a Gp.out.1 1 _ rfl;have xz:=Uz.out.pu.froz (a*5+1);have xq:=Uz.out.five;have UA:=hidU (Uz.out.put a 1 (.int .i64 ((((on (adC (-c)) b (on (adH (-c)) b (on (adS q) b (on (adS (-q)) a (on (adT (-q)) a ps))))))[a]!).cash+c)) (adC c ((on (adC (-c)) b (on (adH (-c)) b (on (adS q) b (on (adS (-q)) a (on (adT (-q)) a ps))))))[a]!) Gp.out.1 (by omega) rfl)
   clear Uz hv;generalize (((on (adC (-c)) b (on (adH (-c)) b (on (adS q) b (on (adS (-q)) a (on (adT (-q)) a ps))))))[a]!).cash=xx at *;go_upto_region 15 with fail
   generalize wq5.setCell ⟨P,a*5+1,none⟩ (.int .i64 (xx+c))=wq6 at *;clear xc xz xq e0 e1;change Hid (TS w X P mk tk f t p q wq6 (on (adC c) a (on (adC (-c)) b (on (adH (-c)) b (on (adS q) b (on (adS (-q)) a (on (adT (-q)) a ps))))))) at UA
   go_wp2_with fail;go_ret;have he:=mj.out;rw[Gs.out] at he;have hf:=Uj.out;rw[pj.out Gs.out] at hf;subst he;subst hf;exact⟨rfl,UA.out.pu,UA.out.gr⟩
end pur
end Go.Proofs.YtnfilcpnneckkaaGreat
