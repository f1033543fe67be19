import Derived.Test.YtifjhlgjgnnnpaaGreatPurHold
import Derived.BigRegion
namespace Go.Proofs.YtifjhlgjgnnnpaaGreat
namespace pur
open Go.RowKit spn
theorem mixed:Tryz.prog.follows Departure.mixedOrders=true:=by kernel_rfl
theorem bal{V W:World}(h:Below V.heap.size V W)(o:Obj):Below V.heap.size V (W.alloc o):=h.alloc h.size o
theorem who_V(V:World)(n:Int)(w:World)(h:Below V.heap.size V w) :
  Calls Tryz.prog 56 #[.int .i64 n] w fun e w'=>e=.returned (.agg #[.int .i64 n,.int .i64 1,.int .i64 9])∧Below V.heap.size V w':=
 (zCr n w).mono fun _ _ h'=>⟨h'.1,h.trans (h'.2.mono h.size)⟩
theorem zQg(V:World)(n:Int)(w:World)(h:Below V.heap.size V w) :
  Calls Tryz.prog 38 #[.int .i64 n] w fun e w'=>e=.returned (.agg #[.int .i64 n,.int .i64 1,.int .i64 10000])∧Below V.heap.size V w':=
 (zAA n w).mono fun _ _ h'=>⟨h'.1,h.trans (h'.2.mono h.size)⟩
theorem qty_V(V:World)(n:Int)(w:World)(h:Below V.heap.size V w) :
  Calls Tryz.prog 63 #[.int .i64 n] w fun e w'=>e=.returned (.agg #[.int .i64 n,.int .i64 1,.int .i64 10000])∧Below V.heap.size V w':=
 (zBb n w).mono fun _ _ h'=>⟨h'.1,h.trans (h'.2.mono h.size)⟩
structure Bz (B:Int) (z:Pz):Prop where
 cash : -B≤z.cash∧z.cash≤B
 held : -B≤z.held∧z.held≤B
 stock : -B≤z.stock∧z.stock≤B
 hs : -B≤z.hs∧z.hs≤B
def Bd(B:Int)(ps:List Pz):Prop:=ps.length=9∧∀i,i<9→Bz B ps[i]!
section
variable {B D d:Int}{ps:List Pz}
theorem Bd.onto(h:Bd B ps){g:Pz→Pz}(hD:0≤D)(hg:∀z,Bz B z→Bz (B+D) (g z))(k:Nat):Bd (B+D) (on g k ps):=by
 refine⟨zDt h.1,fun i hi=>?_⟩
 rw[on_at g k ps i (by rw[h.1];exact hi)]
 have z:=h.2 i hi
 split
 ·exact hg _ z
 ·obtain⟨⟨a,b⟩,⟨c,d⟩,⟨e,f⟩,⟨x,y⟩⟩:=z
  exact⟨⟨by omega,by omega⟩,⟨by omega,by omega⟩,⟨by omega,by omega⟩,⟨by omega,by omega⟩⟩
theorem Bd.oC(h:Bd B ps)(h1 : -D≤d)(h2:d≤D)(k:Nat):Bd (B+D) (on (adC d) k ps):=h.onto (by omega) (fun z hz=>by
 obtain⟨⟨a,b⟩,⟨c,d⟩,⟨e,f⟩,⟨x,y⟩⟩:=hz
 exact⟨⟨by simp only[adC];omega,by simp only[adC];omega⟩,⟨by simp only[adC];omega,by simp only[adC];omega⟩,⟨by simp only[adC];omega,by simp only[adC];omega⟩,⟨by simp only[adC];omega,by simp only[adC];omega⟩⟩) k
theorem Bd.oH(h:Bd B ps)(h1 : -D≤d)(h2:d≤D)(k:Nat):Bd (B+D) (on (adH d) k ps):=h.onto (by omega) (fun z hz=>by
 obtain⟨⟨a,b⟩,⟨c,d⟩,⟨e,f⟩,⟨x,y⟩⟩:=hz
 exact⟨⟨by simp only[adH];omega,by simp only[adH];omega⟩,⟨by simp only[adH];omega,by simp only[adH];omega⟩,⟨by simp only[adH];omega,by simp only[adH];omega⟩,⟨by simp only[adH];omega,by simp only[adH];omega⟩⟩) k
theorem Bd.oS(h:Bd B ps)(h1 : -D≤d)(h2:d≤D)(k:Nat):Bd (B+D) (on (adS d) k ps):=h.onto (by omega) (fun z hz=>by
 obtain⟨⟨a,b⟩,⟨c,d⟩,⟨e,f⟩,⟨x,y⟩⟩:=hz
 exact⟨⟨by simp only[adS];omega,by simp only[adS];omega⟩,⟨by simp only[adS];omega,by simp only[adS];omega⟩,⟨by simp only[adS];omega,by simp only[adS];omega⟩,⟨by simp only[adS];omega,by simp only[adS];omega⟩⟩) k
theorem Bd.oT(h:Bd B ps)(h1 : -D≤d)(h2:d≤D)(k:Nat):Bd (B+D) (on (adT d) k ps):=h.onto (by omega) (fun z hz=>by
 obtain⟨⟨a,b⟩,⟨c,d⟩,⟨e,f⟩,⟨x,y⟩⟩:=hz
 exact⟨⟨by simp only[adT];omega,by simp only[adT];omega⟩,⟨by simp only[adT];omega,by simp only[adT];omega⟩,⟨by simp only[adT];omega,by simp only[adT];omega⟩,⟨by simp only[adT];omega,by simp only[adT];omega⟩⟩) k
end
theorem Ok.bd{ps:List Pz}(h:Ok ps):Bd 1000000000 ps:=⟨h.len,fun i hi=>by
 obtain⟨-,a,b,c,d,e,f⟩:=h.all i hi
 exact⟨⟨by omega,by omega⟩,⟨by omega,by omega⟩,⟨by omega,by omega⟩,⟨by omega,by omega⟩⟩⟩
structure TS (w:World) (X P:Nat) (mk tk f t p q:Int) (wr:World) (ps:List Pz):Prop where
 pu:Pu 110 9 wr P ps
 tr:wr.heap[X]?=some (.cells #[.int .i64 mk,.int .i64 tk,.int .i64 f,.int .i64 t,.int .i64 p,.int .i64 q] 40 (0,0))
 ne:X≠P
 gr:w.grownBy wr (some P)
section
variable {w wr w' : World}{X P:Nat}{mk tk f t p q:Int}{ps:List Pz}
theorem TS.put(h:TS w X P mk tk f t p q wr ps)(k j:Nat)(v:Value)(z:Pz)(hk:k<9)(hj:j<5)(hz:(pL ps[k]!).set j v=pL z):TS w X P mk tk f t p q (wr.setCell ⟨P,k*5+j,none⟩ v) (ps.set k z):=
 ⟨h.pu.put k j v z hk hj hz,(heap_setCell_other wr ⟨P,k*5+j,none⟩ X v h.ne).trans h.tr,h.ne,grT h.gr (grC wr P _ v)⟩
theorem TS.drawn(h:TS w X P mk tk f t p q wr ps)(n:Nat):TS w X P mk tk f t p q (wr.drewN n) ps:=⟨h.pu,h.tr,h.ne,grT h.gr (grDN _ _ _)⟩
theorem TS.drawn1(h:TS w X P mk tk f t p q wr ps):TS w X P mk tk f t p q wr.drew ps:=⟨h.pu,h.tr,h.ne,grT h.gr (grD _ _)⟩
theorem TS.cells(h:TS w X P mk tk f t p q wr ps):wr.cell? ⟨X,2,none⟩=some (.int .i64 f)∧wr.cell? ⟨X,3,none⟩=some (.int .i64 t)∧wr.cell? ⟨X,4,none⟩=some (.int .i64 p)∧wr.cell? ⟨X,5,none⟩=some (.int .i64 q):=
 ⟨by simp[World.cell?,h.tr],by simp[World.cell?,h.tr],by simp[World.cell?,h.tr],by simp[World.cell?,h.tr]⟩
theorem TS.five(h:TS w X P mk tk f t p q wr ps):wr.cell? ⟨X,5,none⟩=some (.int .i64 q):=h.cells.2.2.2
end
set_option maxRecDepth 100000 in
set_option maxHeartbeats 4000000 in
theorem trade_any(P:Nat)(ps:List Pz)(mk tk f t p q:Int)(w:World)(h:Pu 110 9 w P ps)(ho:Ok ps) :
  Calls Tryz.prog 127 #[.pointer (some ⟨P,0,none⟩),.agg #[.int .i64 mk,.int .i64 tk,.int .i64 f,.int .i64 t,.int .i64 p,.int .i64 q]] w fun e w'=>e=.returned (errV (zAI ps f t p q))∧Pu 110 9 w' P (zAH ps f t p q)∧w.grownBy w' (some P):=by
 have HP:=hidU h
 have HOK:=hidU ho
 have HR:Hid ([(f,1,9),(t,1,9),(p,1,10000),(q,1,10000)].any zAo=badT f t p q):=rfl
 obtain⟨r,hr⟩:∃r,badT f t p q=r:=⟨_,rfl⟩
 rw[hr] at HR
 have HBT:=hidU hr
 clear hr h ho
 obtain⟨EV,hEV⟩:∃EV,EV=errV (zAI ps f t p q):=⟨_,rfl⟩
 obtain⟨PF,hPF⟩:∃PF,PF=zAH ps f t p q:=⟨_,rfl⟩
 rw[←hEV,←hPF]
 have HEV:=hidU hEV
 have HPF:=hidU hPF
 clear hEV hPF
 obtain⟨X,hX⟩:∃X,X=w.heap.size:=⟨_,rfl⟩
 have hR0:=jA w (.cells #[.int .i64 mk,.int .i64 tk,.int .i64 f,.int .i64 t,.int .i64 p,.int .i64 q] 40)
 have hB0:=(bzR w.heap.size w).alloc (nzR _) (.cells #[.int .i64 mk,.int .i64 tk,.int .i64 f,.int .i64 t,.int .i64 p,.int .i64 q] 40)
 rw[←hX] at hR0
 have hT0:TS w X P mk tk f t p q (w.alloc (.cells #[.int .i64 mk,.int .i64 tk,.int .i64 f,.int .i64 t,.int .i64 p,.int .i64 q] 40)) ps:=⟨HP.out.below hB0,hR0,(by have:=HP.out.lt;omega),grB hB0 _⟩
 go_enter Tryz.func127,Tryz.ntmps127
 go_upto_region 1 with fail
 simp only[←hX]
 generalize w.alloc (.cells #[.int .i64 mk,.int .i64 tk,.int .i64 f,.int .i64 t,.int .i64 p,.int .i64 q] 40)=V at *
 have HT0:=hidU hT0
 clear hR0 hB0 hX hT0
 obtain⟨c2,c3,c4,c5⟩:=HT0.out.cells
 have SO:Hid (∀W,Below V.heap.size V W→(Below V.heap.size V W∧W.cell? ⟨X,2,none⟩=some (.int .i64 f)∧W.cell? ⟨X,3,none⟩=some (.int .i64 t)∧W.cell? ⟨X,4,none⟩=some (.int .i64 p)∧W.cell? ⟨X,5,none⟩=some (.int .i64 q))):=fun W hW=>⟨hW,zAa hW c2,zAa hW c3,zAa hW c4,zAa hW c5⟩
 go_region_held3 (fun W=>Below V.heap.size V W∧W.cell? ⟨X,2,none⟩=some (.int .i64 f)∧W.cell? ⟨X,3,none⟩=some (.int .i64 t)∧W.cell? ⟨X,4,none⟩=some (.int .i64 p)∧W.cell? ⟨X,5,none⟩=some (.int .i64 q))
  ((refine SO.out _ ?_;(with_reducible repeat' (first|assumption|refine bal ?_ _|refine Below.setCell ?_ ?_ _|refine Below.drew ?_|exact bzR _ _|exact nzR _|exact Below.size (by assumption)|refine jD ?_))))
  (first|(go_at_call 56;refine(who_V V _ _ ?_).mono ?_;(with_reducible repeat' (first|assumption|refine bal ?_ _|refine Below.setCell ?_ ?_ _|refine Below.drew ?_|exact bzR _ _|exact nzR _|exact Below.size (by assumption)|refine jD ?_));rintro x W ⟨rfl,hbn⟩)|(go_at_call 38;refine(zQg V _ _ ?_).mono ?_;(with_reducible repeat' (first|assumption|refine bal ?_ _|refine Below.setCell ?_ ?_ _|refine Below.drew ?_|exact bzR _ _|exact nzR _|exact Below.size (by assumption)|refine jD ?_));rintro x W ⟨rfl,hbn⟩)|(go_at_call 63;refine(qty_V V _ _ ?_).mono ?_;(with_reducible repeat' (first|assumption|refine bal ?_ _|refine Below.setCell ?_ ?_ _|refine Below.drew ?_|exact bzR _ _|exact nzR _|exact Below.size (by assumption)|refine jD ?_));rintro x W ⟨rfl,hbn⟩)|(go_at_call 23;refine(scheck4 r _ _ _ _ _ _ _ _ _ _ _ _ _ _ rfl HR.out).mono ?_;rintro x W2 ⟨rfl,hbs⟩;have hbn:=Below.trans (by with_reducible assumption) (hbs.mono (Below.size (by with_reducible assumption)))))
 have HT:Hid (TS w X P mk tk f t p q W2 ps):=⟨HT0.out.pu.below hbn,(hbn.block X (gzE.1 HT0.out.tr).1).trans HT0.out.tr,HT0.out.ne,grT HT0.out.gr (grB hbn _)⟩
 clear SO hbs hbn c2 c3 c4 c5 HT0 HR
 cases r with
 | true=>
  have HE:Hid (zAI ps f t p q=1):=by show _=_;unfold zAI;rw[HBT.out];rfl
  have HF:Hid (zAH ps f t p q=ps):=by show _=_;unfold zAH;rw[HE.out];rfl
  simp only[show errV (zAk true)=.iface 91 (.int .i64 1) from rfl]
  go_wp2_with fail
  go_ret
  have he:=HEV.out
  rw[HE.out] at he
  have hf:=HPF.out
  rw[HF.out] at hf
  subst he
  subst hf
  exact⟨rfl,HT.out.pu,HT.out.gr⟩
 | false=>
  simp only[show errV (zAk false)=.nilIface from rfl]
  obtain⟨b1,b2,b3,b4,b5,b6,b7,b8⟩:=zFt HBT.out
  have hm:=zGs b5 b6 b7 b8
  obtain⟨a,ha,ha9,hia⟩:=ix_of b1 b2
  obtain⟨b,hb,hb9,hib⟩:=ix_of b3 b4
  have HAB:Hid (a<9∧b<9):=⟨ha9,hb9⟩
  have HBD:=hidU HOK.out.bd
  have HFA:Hid (∀W,Calls Tryz.prog 57 #[.pointer (some ⟨P,0,none⟩),.int .i64 f] W fun e w'=>e=.returned (.pointer (some ⟨P,a*5,none⟩))∧w'=W):=fun W=>of_at P a f W ha ha9
  have HFB:Hid (∀W,Calls Tryz.prog 57 #[.pointer (some ⟨P,0,none⟩),.int .i64 t] W fun e w'=>e=.returned (.pointer (some ⟨P,b*5,none⟩))∧w'=W):=fun W=>of_at P b t W hb hb9
  have HE:Hid (zAI ps f t p q=if (ps[a]!).hs<q∨(ps[b]!).held<p*q then 9 else if ¬f=t∧(1000000000<(ps[a]!).cash+p*q∨1000000000<(ps[b]!).stock+q) then 4 else 0):=by show _=_;unfold zAI;rw[HBT.out,hia,hib];rfl
  have HFIN0:Hid (zAI ps f t p q=0→zAH ps f t p q=zEM a b (p*q) q ps):=fun e=>by unfold zAH;rw[if_pos e,hia,hib]
  have HFN0:Hid (¬zAI ps f t p q=0→zAH ps f t p q=ps):=fun e=>by unfold zAH;rw[if_neg e]
  have hmi0:IntKind.i64.wrap (p*q)=p*q:=(IntWalk.i64_left _).trans (zAM _ (by omega) (by omega))
  have hmw0:wrap64 (p*q)=p*q:=zAM _ (by clear hmi0;omega) (by clear hmi0;omega)
  have HX:Hid (∀W,Pu 110 9 W P ps→W.cell? ⟨P,a*5+4,none⟩=some (.int .i64 (ps[a]!).hs)∧W.cell? ⟨P,b*5+2,none⟩=some (.int .i64 (ps[b]!).held)∧W.cell? ⟨P,a*5+1,none⟩=some (.int .i64 (ps[a]!).cash)∧W.cell? ⟨P,b*5+3,none⟩=some (.int .i64 (ps[b]!).stock)):=fun W hW=>⟨hW.cell a ha9 4 _ rfl,hW.cell b hb9 2 _ rfl,hW.cell a ha9 1 _ rfl,hW.cell b hb9 3 _ rfl⟩
  obtain⟨c,hc⟩:∃c,c=p*q:=⟨_,rfl⟩
  have hmi:IntKind.i64.wrap (p*q)=c:=hmi0.trans hc.symm
  have hmw:wrap64 (p*q)=c:=hmw0.trans hc.symm
  clear hmi0 hmw0
  rw[←hc] at HE HFIN0 hm
  have HQ:Hid (1≤q∧q≤10000∧1≤c∧c≤100000000):=⟨b7,b8,hm.1,hm.2⟩
  have HO1:Hid (∀W,Calls Tryz.prog 114 #[.int .i64 (ps[a]!).cash,.int .i64 c] W fun e w'=>e=.returned (.bool (decide (1000000000<(ps[a]!).cash+c)))∧w'=W):=fun W=>zDQ _ _ W (zAM _ (by have:=(HBD.out.2 a ha9).cash;clear hmi hmw;omega) (by have:=(HBD.out.2 a ha9).cash;clear hmi hmw;omega))
  have HO2:Hid (∀W,Calls Tryz.prog 114 #[.int .i64 (ps[b]!).stock,.int .i64 q] W fun e w'=>e=.returned (.bool (decide (1000000000<(ps[b]!).stock+q)))∧w'=W):=fun W=>zDQ _ _ W (zAM _ (by have:=(HBD.out.2 b hb9).stock;clear hmi hmw;omega) (by have:=(HBD.out.2 b hb9).stock;clear hmi hmw;omega))
  clear hm ha ha9 hia hb hb9 hib b1 b2 b3 b4 b5 b6 b7 b8 hc HP HOK HBT
  obtain⟨c2,c3,c4,c5⟩:=HT.out.cells
  go_wp2_with fail
  go_quiet ((go_at_call 57;first|with_reducible exact Calls.quiet_of_same (HFA.out _)|with_reducible exact Calls.quiet_of_same (HFB.out _)))
  have HT:=hidU (HT.out.drawn nq)
  generalize W2.drewN nq=W3 at *
  try simp only[hmi]
  try simp only[hmw]
  clear c2 c3 c4 c5 nq HFA HFB hmi hmw
  obtain⟨c2,c3,c4,c5⟩:=HT.out.cells
  obtain⟨x1,x2,x3,x4⟩:=HX.out _ HT.out.pu
  have HBN0:Hid (∀i,i<9→Bz 1000000000 ps[i]!):=HBD.out.2
  have hB0:=HBD.out
  have hB1:=hB0.oT (D:=100000000) (d:=-q) (by have:=HQ.out;omega) (by have:=HQ.out;omega) a
  have HBN1:=hidU hB1.2
  have hB2:=hB1.oS (D:=100000000) (d:=-q) (by have:=HQ.out;omega) (by have:=HQ.out;omega) a
  have HBN2:=hidU hB2.2
  have hB3:=hB2.oS (D:=100000000) (d:=q) (by have:=HQ.out;omega) (by have:=HQ.out;omega) b
  have HBN3:=hidU hB3.2
  have hB4:=hB3.oH (D:=100000000) (d:=-c) (by have:=HQ.out;omega) (by have:=HQ.out;omega) b
  have HBN4:=hidU hB4.2
  have hB5:=hB4.oC (D:=100000000) (d:=-c) (by have:=HQ.out;omega) (by have:=HQ.out;omega) b
  have HBN5:=hidU hB5.2
  have hB6:=hB5.oC (D:=100000000) (d:=c) (by have:=HQ.out;omega) (by have:=HQ.out;omega) a
  have HBN6:=hidU hB6.2
  clear hB0 hB1 hB2 hB3 hB4 hB5 hB6 HBD
  by_cases h1:(ps[a]!).hs<q
  ·have HE:Hid (zAI ps f t p q=9):=by show _=_;rw[HE.out,if_pos (.inl h1)]
   have HF:Hid (zAH ps f t p q=ps):=HFN0.out (by rw[HE.out];decide)
   have d1:decide ((ps[a]!).hs<q)=true:=decide_eq_true h1
   generalize (ps[a]!).hs=A4 at x1 h1 d1
   clear x2 x3 x4 HX HO1 HO2
   go_wp2_with fail
   go_quiet (fail)
   have HT:=hidU (HT.out.drawn nq)
   generalize W3.drewN nq=W4 at *
   go_wp2_with fail
   go_ret
   have he:=HEV.out
   rw[HE.out] at he
   have hf:=HPF.out
   rw[HF.out] at hf
   subst he
   subst hf
   exact⟨rfl,HT.out.pu,HT.out.gr⟩
  have d1:decide ((ps[a]!).hs<q)=false:=decide_eq_false h1
  by_cases h2:(ps[b]!).held<c
  ·have HE:Hid (zAI ps f t p q=9):=by show _=_;rw[HE.out,if_pos (.inr h2)]
   have HF:Hid (zAH ps f t p q=ps):=HFN0.out (by rw[HE.out];decide)
   have d2:decide ((ps[b]!).held<c)=true:=decide_eq_true h2
   generalize (ps[a]!).hs=A4 at x1 h1 d1
   generalize (ps[b]!).held=B2 at x2 h2 d2
   clear x3 x4 HX HO1 HO2
   go_wp2_with fail
   go_quiet (fail)
   have HT:=hidU (HT.out.drawn nq)
   generalize W3.drewN nq=W4 at *
   go_wp2_with fail
   go_ret
   have he:=HEV.out
   rw[HE.out] at he
   have hf:=HPF.out
   rw[HF.out] at hf
   subst he
   subst hf
   exact⟨rfl,HT.out.pu,HT.out.gr⟩
  have d2:decide ((ps[b]!).held<c)=false:=decide_eq_false h2
  have HN12:Hid (¬((ps[a]!).hs<q∨(ps[b]!).held<c)):=fun x=>x.elim h1 h2
  generalize (ps[a]!).hs=A4 at x1 h1 d1
  generalize (ps[b]!).held=B2 at x2 h2 d2
  go_wp2_with fail
  go_quiet (fail)
  have HT:=hidU (HT.out.drawn nq)
  generalize W3.drewN nq=W4 at *
  clear c2 c3 c4 c5 nq x1 x2 x3 x4 h1 h2 d1 d2
  obtain⟨c2,c3,c4,c5⟩:=HT.out.cells
  obtain⟨x1,x2,x3,x4⟩:=HX.out _ HT.out.pu
  clear x1 x2 HX
  by_cases hft:f=t
  ·have HE2:Hid (zAI ps f t p q=0):=by show _=_;rw[HE.out,if_neg HN12.out,if_neg (fun x=>x.1 hft)]
   have d3:(f != t)=false:=by simp[hft]
   clear hft HO1 HO2 HE HFN0
   go_wp2_with fail
   go_quiet (fail)
   have HT:=hidU (HT.out.drawn nq)
   generalize W4.drewN nq=wq0 at *
   clear c2 c3 c4 c5 nq x3 x4 d3
   have HT0:=HT
   clear HT
   have mixed:=mixed
   have hv:=(HBN0.out a HAB.out.1).hs
   have e0:IntKind.i64.wrap (((ps)[a]!).hs - q)=((ps)[a]!).hs - q:=(IntWalk.i64_left _).trans (zAM _ (by have:=HQ.out;omega) (by have:=HQ.out;omega))
   have e1:wrap64 (((ps)[a]!).hs - q)=((ps)[a]!).hs - q:=zAM _ (by clear e0;have:=HQ.out;omega) (by clear e0;have:=HQ.out;omega)
   have xc:=HT0.out.pu.cell a HAB.out.1 4 _ rfl
   have xz:=HT0.out.pu.froz (a*5+4)
   have xq:=HT0.out.five
   have HT1:=hidU (HT0.out.put a 4 (.int .i64 (((ps)[a]!).hs - q)) (adT (-q) (ps)[a]!) HAB.out.1 (by omega) rfl)
   clear HT0 hv
   generalize ((ps)[a]!).hs=xx at *
   go_wp2_with fail
   go_big_region_o
   have HT1:=hidU HT1.out.drawn1
   generalize (wq0.setCell ⟨P,a*5+4,none⟩ (.int .i64 (xx - q))).drew=wq1 at *
   clear xc xz xq e0 e1
   change Hid (TS w X P mk tk f t p q wq1 (on (adT (-q)) a ps)) at HT1
   have hv:=(HBN1.out a HAB.out.1).stock
   have e0:IntKind.i64.wrap ((((on (adT (-q)) a ps))[a]!).stock - q)=(((on (adT (-q)) a ps))[a]!).stock - q:=(IntWalk.i64_left _).trans (zAM _ (by have:=HQ.out;omega) (by have:=HQ.out;omega))
   have e1:wrap64 ((((on (adT (-q)) a ps))[a]!).stock - q)=(((on (adT (-q)) a ps))[a]!).stock - q:=zAM _ (by clear e0;have:=HQ.out;omega) (by clear e0;have:=HQ.out;omega)
   have xc:=HT1.out.pu.cell a HAB.out.1 3 _ rfl
   have xz:=HT1.out.pu.froz (a*5+3)
   have xq:=HT1.out.five
   have HT2:=hidU (HT1.out.put a 3 (.int .i64 ((((on (adT (-q)) a ps))[a]!).stock - q)) (adS (-q) ((on (adT (-q)) a ps))[a]!) HAB.out.1 (by omega) rfl)
   clear HT1 hv
   generalize (((on (adT (-q)) a ps))[a]!).stock=xx at *
   go_wp2_with fail
   go_big_region_o
   have HT2:=hidU HT2.out.drawn1
   generalize (wq1.setCell ⟨P,a*5+3,none⟩ (.int .i64 (xx - q))).drew=wq2 at *
   clear xc xz xq e0 e1
   change Hid (TS w X P mk tk f t p q wq2 (on (adS (-q)) a (on (adT (-q)) a ps))) at HT2
   have hv:=(HBN2.out b HAB.out.2).stock
   have e0:IntKind.i64.wrap ((((on (adS (-q)) a (on (adT (-q)) a ps)))[b]!).stock+q)=(((on (adS (-q)) a (on (adT (-q)) a ps)))[b]!).stock+q:=(IntWalk.i64_left _).trans (zAM _ (by have:=HQ.out;omega) (by have:=HQ.out;omega))
   have e1:wrap64 ((((on (adS (-q)) a (on (adT (-q)) a ps)))[b]!).stock+q)=(((on (adS (-q)) a (on (adT (-q)) a ps)))[b]!).stock+q:=zAM _ (by clear e0;have:=HQ.out;omega) (by clear e0;have:=HQ.out;omega)
   have xc:=HT2.out.pu.cell b HAB.out.2 3 _ rfl
   have xz:=HT2.out.pu.froz (b*5+3)
   have xq:=HT2.out.five
   have HT3:=hidU (HT2.out.put b 3 (.int .i64 ((((on (adS (-q)) a (on (adT (-q)) a ps)))[b]!).stock+q)) (adS q ((on (adS (-q)) a (on (adT (-q)) a ps)))[b]!) HAB.out.2 (by omega) rfl)
   clear HT2 hv
   generalize (((on (adS (-q)) a (on (adT (-q)) a ps)))[b]!).stock=xx at *
   go_wp2_with fail
   go_big_region_o
   have HT3:=hidU HT3.out.drawn1
   generalize (wq2.setCell ⟨P,b*5+3,none⟩ (.int .i64 (xx+q))).drew=wq3 at *
   clear xc xz xq e0 e1
   change Hid (TS w X P mk tk f t p q wq3 (on (adS q) b (on (adS (-q)) a (on (adT (-q)) a ps)))) at HT3
   have hv:=(HBN3.out b HAB.out.2).held
   have e0:IntKind.i64.wrap ((((on (adS q) b (on (adS (-q)) a (on (adT (-q)) a ps))))[b]!).held - c)=(((on (adS q) b (on (adS (-q)) a (on (adT (-q)) a ps))))[b]!).held - c:=(IntWalk.i64_left _).trans (zAM _ (by have:=HQ.out;omega) (by have:=HQ.out;omega))
   have e1:wrap64 ((((on (adS q) b (on (adS (-q)) a (on (adT (-q)) a ps))))[b]!).held - c)=(((on (adS q) b (on (adS (-q)) a (on (adT (-q)) a ps))))[b]!).held - c:=zAM _ (by clear e0;have:=HQ.out;omega) (by clear e0;have:=HQ.out;omega)
   have xc:=HT3.out.pu.cell b HAB.out.2 2 _ rfl
   have xz:=HT3.out.pu.froz (b*5+2)
   have xq:=HT3.out.five
   have HT4:=hidU (HT3.out.put b 2 (.int .i64 ((((on (adS q) b (on (adS (-q)) a (on (adT (-q)) a ps))))[b]!).held - c)) (adH (-c) ((on (adS q) b (on (adS (-q)) a (on (adT (-q)) a ps))))[b]!) HAB.out.2 (by omega) rfl)
   clear HT3 hv
   generalize (((on (adS q) b (on (adS (-q)) a (on (adT (-q)) a ps))))[b]!).held=xx at *
   go_upto_region 13 with fail
   generalize wq3.setCell ⟨P,b*5+2,none⟩ (.int .i64 (xx - c))=wq4 at *
   clear xc xz xq e0 e1
   change Hid (TS w X P mk tk f t p q wq4 (on (adH (-c)) b (on (adS q) b (on (adS (-q)) a (on (adT (-q)) a ps))))) at HT4
   have hv:=(HBN4.out b HAB.out.2).cash
   have e0:IntKind.i64.wrap ((((on (adH (-c)) b (on (adS q) b (on (adS (-q)) a (on (adT (-q)) a ps)))))[b]!).cash - c)=(((on (adH (-c)) b (on (adS q) b (on (adS (-q)) a (on (adT (-q)) a ps)))))[b]!).cash - c:=(IntWalk.i64_left _).trans (zAM _ (by have:=HQ.out;omega) (by have:=HQ.out;omega))
   have e1:wrap64 ((((on (adH (-c)) b (on (adS q) b (on (adS (-q)) a (on (adT (-q)) a ps)))))[b]!).cash - c)=(((on (adH (-c)) b (on (adS q) b (on (adS (-q)) a (on (adT (-q)) a ps)))))[b]!).cash - c:=zAM _ (by clear e0;have:=HQ.out;omega) (by clear e0;have:=HQ.out;omega)
   have xc:=HT4.out.pu.cell b HAB.out.2 1 _ rfl
   have xz:=HT4.out.pu.froz (b*5+1)
   have xq:=HT4.out.five
   have HT5:=hidU (HT4.out.put b 1 (.int .i64 ((((on (adH (-c)) b (on (adS q) b (on (adS (-q)) a (on (adT (-q)) a ps)))))[b]!).cash - c)) (adC (-c) ((on (adH (-c)) b (on (adS q) b (on (adS (-q)) a (on (adT (-q)) a ps)))))[b]!) HAB.out.2 (by omega) rfl)
   clear HT4 hv
   generalize (((on (adH (-c)) b (on (adS q) b (on (adS (-q)) a (on (adT (-q)) a ps)))))[b]!).cash=xx at *
   go_upto_region 14 with fail
   generalize wq4.setCell ⟨P,b*5+1,none⟩ (.int .i64 (xx - c))=wq5 at *
   clear xc xz xq e0 e1
   change Hid (TS w X P mk tk f t p q wq5 (on (adC (-c)) b (on (adH (-c)) b (on (adS q) b (on (adS (-q)) a (on (adT (-q)) a ps)))))) at HT5
   have hv:=(HBN5.out a HAB.out.1).cash
   have e0:IntKind.i64.wrap ((((on (adC (-c)) b (on (adH (-c)) b (on (adS q) b (on (adS (-q)) a (on (adT (-q)) a ps))))))[a]!).cash+c)=(((on (adC (-c)) b (on (adH (-c)) b (on (adS q) b (on (adS (-q)) a (on (adT (-q)) a ps))))))[a]!).cash+c:=(IntWalk.i64_left _).trans (zAM _ (by have:=HQ.out;omega) (by have:=HQ.out;omega))
   have e1:wrap64 ((((on (adC (-c)) b (on (adH (-c)) b (on (adS q) b (on (adS (-q)) a (on (adT (-q)) a ps))))))[a]!).cash+c)=(((on (adC (-c)) b (on (adH (-c)) b (on (adS q) b (on (adS (-q)) a (on (adT (-q)) a ps))))))[a]!).cash+c:=zAM _ (by clear e0;have:=HQ.out;omega) (by clear e0;have:=HQ.out;omega)
   have xc:=HT5.out.pu.cell a HAB.out.1 1 _ rfl
   have xz:=HT5.out.pu.froz (a*5+1)
   have xq:=HT5.out.five
   have HT6:=hidU (HT5.out.put a 1 (.int .i64 ((((on (adC (-c)) b (on (adH (-c)) b (on (adS q) b (on (adS (-q)) a (on (adT (-q)) a ps))))))[a]!).cash+c)) (adC c ((on (adC (-c)) b (on (adH (-c)) b (on (adS q) b (on (adS (-q)) a (on (adT (-q)) a ps))))))[a]!) HAB.out.1 (by omega) rfl)
   clear HT5 hv
   generalize (((on (adC (-c)) b (on (adH (-c)) b (on (adS q) b (on (adS (-q)) a (on (adT (-q)) a ps))))))[a]!).cash=xx at *
   go_upto_region 15 with fail
   generalize wq5.setCell ⟨P,a*5+1,none⟩ (.int .i64 (xx+c))=wq6 at *
   clear xc xz xq e0 e1
   change Hid (TS w X P mk tk f t p q wq6 (on (adC c) a (on (adC (-c)) b (on (adH (-c)) b (on (adS q) b (on (adS (-q)) a (on (adT (-q)) a ps))))))) at HT6
   go_wp2_with fail
   go_ret
   have he:=HEV.out
   rw[HE2.out] at he
   have hf:=HPF.out
   rw[HFIN0.out HE2.out] at hf
   subst he
   subst hf
   exact⟨rfl,HT6.out.pu,HT6.out.gr⟩
  have d3:(f != t)=true:=by simp[hft]
  by_cases h3:1000000000<(ps[a]!).cash+c
  ·have HE:Hid (zAI ps f t p q=4):=by show _=_;rw[HE.out,if_neg HN12.out,if_pos ⟨hft,.inl h3⟩]
   have HF:Hid (zAH ps f t p q=ps):=HFN0.out (by rw[HE.out];decide)
   rw[decide_eq_true h3] at HO1
   generalize (ps[a]!).cash=A1 at x3 HO1
   generalize (ps[b]!).stock=B3 at x4 HO2
   clear hft h3
   go_wp2_with fail
   go_quiet ((go_at_call 114;first|with_reducible exact Calls.quiet_of_same (HO1.out _)|with_reducible exact Calls.quiet_of_same (HO2.out _)))
   have HT:=hidU (HT.out.drawn nq)
   generalize W4.drewN nq=W5 at *
   go_wp2_with fail
   go_ret
   have he:=HEV.out
   rw[HE.out] at he
   have hf:=HPF.out
   rw[HF.out] at hf
   subst he
   subst hf
   exact⟨rfl,HT.out.pu,HT.out.gr⟩
  rw[decide_eq_false h3] at HO1
  by_cases h4:1000000000<(ps[b]!).stock+q
  ·have HE:Hid (zAI ps f t p q=4):=by show _=_;rw[HE.out,if_neg HN12.out,if_pos ⟨hft,.inr h4⟩]
   have HF:Hid (zAH ps f t p q=ps):=HFN0.out (by rw[HE.out];decide)
   rw[decide_eq_true h4] at HO2
   generalize (ps[a]!).cash=A1 at x3 HO1
   generalize (ps[b]!).stock=B3 at x4 HO2
   clear hft h3 h4
   go_wp2_with fail
   go_quiet ((go_at_call 114;first|with_reducible exact Calls.quiet_of_same (HO1.out _)|with_reducible exact Calls.quiet_of_same (HO2.out _)))
   have HT:=hidU (HT.out.drawn nq)
   generalize W4.drewN nq=W5 at *
   go_wp2_with fail
   go_ret
   have he:=HEV.out
   rw[HE.out] at he
   have hf:=HPF.out
   rw[HF.out] at hf
   subst he
   subst hf
   exact⟨rfl,HT.out.pu,HT.out.gr⟩
  ·have HE2:Hid (zAI ps f t p q=0):=by show _=_;rw[HE.out,if_neg HN12.out,if_neg (fun x=>x.2.elim h3 h4)]
   rw[decide_eq_false h4] at HO2
   generalize (ps[a]!).cash=A1 at x3 HO1
   generalize (ps[b]!).stock=B3 at x4 HO2
   clear hft h3 h4
   go_wp2_with fail
   go_quiet ((go_at_call 114;first|with_reducible exact Calls.quiet_of_same (HO1.out _)|with_reducible exact Calls.quiet_of_same (HO2.out _)))
   have HT:=hidU (HT.out.drawn nq)
   generalize W4.drewN nq=wq0 at *
   clear c2 c3 c4 c5 nq x3 x4 d3 HO1 HO2
   have HT0:=HT
   clear HT
   have mixed:=mixed
   have hv:=(HBN0.out a HAB.out.1).hs
   have e0:IntKind.i64.wrap (((ps)[a]!).hs - q)=((ps)[a]!).hs - q:=(IntWalk.i64_left _).trans (zAM _ (by have:=HQ.out;omega) (by have:=HQ.out;omega))
   have e1:wrap64 (((ps)[a]!).hs - q)=((ps)[a]!).hs - q:=zAM _ (by clear e0;have:=HQ.out;omega) (by clear e0;have:=HQ.out;omega)
   have xc:=HT0.out.pu.cell a HAB.out.1 4 _ rfl
   have xz:=HT0.out.pu.froz (a*5+4)
   have xq:=HT0.out.five
   have HT1:=hidU (HT0.out.put a 4 (.int .i64 (((ps)[a]!).hs - q)) (adT (-q) (ps)[a]!) HAB.out.1 (by omega) rfl)
   clear HT0 hv
   generalize ((ps)[a]!).hs=xx at *
   go_wp2_with fail
   go_big_region_o
   have HT1:=hidU HT1.out.drawn1
   generalize (wq0.setCell ⟨P,a*5+4,none⟩ (.int .i64 (xx - q))).drew=wq1 at *
   clear xc xz xq e0 e1
   change Hid (TS w X P mk tk f t p q wq1 (on (adT (-q)) a ps)) at HT1
   have hv:=(HBN1.out a HAB.out.1).stock
   have e0:IntKind.i64.wrap ((((on (adT (-q)) a ps))[a]!).stock - q)=(((on (adT (-q)) a ps))[a]!).stock - q:=(IntWalk.i64_left _).trans (zAM _ (by have:=HQ.out;omega) (by have:=HQ.out;omega))
   have e1:wrap64 ((((on (adT (-q)) a ps))[a]!).stock - q)=(((on (adT (-q)) a ps))[a]!).stock - q:=zAM _ (by clear e0;have:=HQ.out;omega) (by clear e0;have:=HQ.out;omega)
   have xc:=HT1.out.pu.cell a HAB.out.1 3 _ rfl
   have xz:=HT1.out.pu.froz (a*5+3)
   have xq:=HT1.out.five
   have HT2:=hidU (HT1.out.put a 3 (.int .i64 ((((on (adT (-q)) a ps))[a]!).stock - q)) (adS (-q) ((on (adT (-q)) a ps))[a]!) HAB.out.1 (by omega) rfl)
   clear HT1 hv
   generalize (((on (adT (-q)) a ps))[a]!).stock=xx at *
   go_wp2_with fail
   go_big_region_o
   have HT2:=hidU HT2.out.drawn1
   generalize (wq1.setCell ⟨P,a*5+3,none⟩ (.int .i64 (xx - q))).drew=wq2 at *
   clear xc xz xq e0 e1
   change Hid (TS w X P mk tk f t p q wq2 (on (adS (-q)) a (on (adT (-q)) a ps))) at HT2
   have hv:=(HBN2.out b HAB.out.2).stock
   have e0:IntKind.i64.wrap ((((on (adS (-q)) a (on (adT (-q)) a ps)))[b]!).stock+q)=(((on (adS (-q)) a (on (adT (-q)) a ps)))[b]!).stock+q:=(IntWalk.i64_left _).trans (zAM _ (by have:=HQ.out;omega) (by have:=HQ.out;omega))
   have e1:wrap64 ((((on (adS (-q)) a (on (adT (-q)) a ps)))[b]!).stock+q)=(((on (adS (-q)) a (on (adT (-q)) a ps)))[b]!).stock+q:=zAM _ (by clear e0;have:=HQ.out;omega) (by clear e0;have:=HQ.out;omega)
   have xc:=HT2.out.pu.cell b HAB.out.2 3 _ rfl
   have xz:=HT2.out.pu.froz (b*5+3)
   have xq:=HT2.out.five
   have HT3:=hidU (HT2.out.put b 3 (.int .i64 ((((on (adS (-q)) a (on (adT (-q)) a ps)))[b]!).stock+q)) (adS q ((on (adS (-q)) a (on (adT (-q)) a ps)))[b]!) HAB.out.2 (by omega) rfl)
   clear HT2 hv
   generalize (((on (adS (-q)) a (on (adT (-q)) a ps)))[b]!).stock=xx at *
   go_wp2_with fail
   go_big_region_o
   have HT3:=hidU HT3.out.drawn1
   generalize (wq2.setCell ⟨P,b*5+3,none⟩ (.int .i64 (xx+q))).drew=wq3 at *
   clear xc xz xq e0 e1
   change Hid (TS w X P mk tk f t p q wq3 (on (adS q) b (on (adS (-q)) a (on (adT (-q)) a ps)))) at HT3
   have hv:=(HBN3.out b HAB.out.2).held
   have e0:IntKind.i64.wrap ((((on (adS q) b (on (adS (-q)) a (on (adT (-q)) a ps))))[b]!).held - c)=(((on (adS q) b (on (adS (-q)) a (on (adT (-q)) a ps))))[b]!).held - c:=(IntWalk.i64_left _).trans (zAM _ (by have:=HQ.out;omega) (by have:=HQ.out;omega))
   have e1:wrap64 ((((on (adS q) b (on (adS (-q)) a (on (adT (-q)) a ps))))[b]!).held - c)=(((on (adS q) b (on (adS (-q)) a (on (adT (-q)) a ps))))[b]!).held - c:=zAM _ (by clear e0;have:=HQ.out;omega) (by clear e0;have:=HQ.out;omega)
   have xc:=HT3.out.pu.cell b HAB.out.2 2 _ rfl
   have xz:=HT3.out.pu.froz (b*5+2)
   have xq:=HT3.out.five
   have HT4:=hidU (HT3.out.put b 2 (.int .i64 ((((on (adS q) b (on (adS (-q)) a (on (adT (-q)) a ps))))[b]!).held - c)) (adH (-c) ((on (adS q) b (on (adS (-q)) a (on (adT (-q)) a ps))))[b]!) HAB.out.2 (by omega) rfl)
   clear HT3 hv
   generalize (((on (adS q) b (on (adS (-q)) a (on (adT (-q)) a ps))))[b]!).held=xx at *
   go_upto_region 13 with fail
   generalize wq3.setCell ⟨P,b*5+2,none⟩ (.int .i64 (xx - c))=wq4 at *
   clear xc xz xq e0 e1
   change Hid (TS w X P mk tk f t p q wq4 (on (adH (-c)) b (on (adS q) b (on (adS (-q)) a (on (adT (-q)) a ps))))) at HT4
   have hv:=(HBN4.out b HAB.out.2).cash
   have e0:IntKind.i64.wrap ((((on (adH (-c)) b (on (adS q) b (on (adS (-q)) a (on (adT (-q)) a ps)))))[b]!).cash - c)=(((on (adH (-c)) b (on (adS q) b (on (adS (-q)) a (on (adT (-q)) a ps)))))[b]!).cash - c:=(IntWalk.i64_left _).trans (zAM _ (by have:=HQ.out;omega) (by have:=HQ.out;omega))
   have e1:wrap64 ((((on (adH (-c)) b (on (adS q) b (on (adS (-q)) a (on (adT (-q)) a ps)))))[b]!).cash - c)=(((on (adH (-c)) b (on (adS q) b (on (adS (-q)) a (on (adT (-q)) a ps)))))[b]!).cash - c:=zAM _ (by clear e0;have:=HQ.out;omega) (by clear e0;have:=HQ.out;omega)
   have xc:=HT4.out.pu.cell b HAB.out.2 1 _ rfl
   have xz:=HT4.out.pu.froz (b*5+1)
   have xq:=HT4.out.five
   have HT5:=hidU (HT4.out.put b 1 (.int .i64 ((((on (adH (-c)) b (on (adS q) b (on (adS (-q)) a (on (adT (-q)) a ps)))))[b]!).cash - c)) (adC (-c) ((on (adH (-c)) b (on (adS q) b (on (adS (-q)) a (on (adT (-q)) a ps)))))[b]!) HAB.out.2 (by omega) rfl)
   clear HT4 hv
   generalize (((on (adH (-c)) b (on (adS q) b (on (adS (-q)) a (on (adT (-q)) a ps)))))[b]!).cash=xx at *
   go_upto_region 14 with fail
   generalize wq4.setCell ⟨P,b*5+1,none⟩ (.int .i64 (xx - c))=wq5 at *
   clear xc xz xq e0 e1
   change Hid (TS w X P mk tk f t p q wq5 (on (adC (-c)) b (on (adH (-c)) b (on (adS q) b (on (adS (-q)) a (on (adT (-q)) a ps)))))) at HT5
   have hv:=(HBN5.out a HAB.out.1).cash
   have e0:IntKind.i64.wrap ((((on (adC (-c)) b (on (adH (-c)) b (on (adS q) b (on (adS (-q)) a (on (adT (-q)) a ps))))))[a]!).cash+c)=(((on (adC (-c)) b (on (adH (-c)) b (on (adS q) b (on (adS (-q)) a (on (adT (-q)) a ps))))))[a]!).cash+c:=(IntWalk.i64_left _).trans (zAM _ (by have:=HQ.out;omega) (by have:=HQ.out;omega))
   have e1:wrap64 ((((on (adC (-c)) b (on (adH (-c)) b (on (adS q) b (on (adS (-q)) a (on (adT (-q)) a ps))))))[a]!).cash+c)=(((on (adC (-c)) b (on (adH (-c)) b (on (adS q) b (on (adS (-q)) a (on (adT (-q)) a ps))))))[a]!).cash+c:=zAM _ (by clear e0;have:=HQ.out;omega) (by clear e0;have:=HQ.out;omega)
   have xc:=HT5.out.pu.cell a HAB.out.1 1 _ rfl
   have xz:=HT5.out.pu.froz (a*5+1)
   have xq:=HT5.out.five
   have HT6:=hidU (HT5.out.put a 1 (.int .i64 ((((on (adC (-c)) b (on (adH (-c)) b (on (adS q) b (on (adS (-q)) a (on (adT (-q)) a ps))))))[a]!).cash+c)) (adC c ((on (adC (-c)) b (on (adH (-c)) b (on (adS q) b (on (adS (-q)) a (on (adT (-q)) a ps))))))[a]!) HAB.out.1 (by omega) rfl)
   clear HT5 hv
   generalize (((on (adC (-c)) b (on (adH (-c)) b (on (adS q) b (on (adS (-q)) a (on (adT (-q)) a ps))))))[a]!).cash=xx at *
   go_upto_region 15 with fail
   generalize wq5.setCell ⟨P,a*5+1,none⟩ (.int .i64 (xx+c))=wq6 at *
   clear xc xz xq e0 e1
   change Hid (TS w X P mk tk f t p q wq6 (on (adC c) a (on (adC (-c)) b (on (adH (-c)) b (on (adS q) b (on (adS (-q)) a (on (adT (-q)) a ps))))))) at HT6
   go_wp2_with fail
   go_ret
   have he:=HEV.out
   rw[HE2.out] at he
   have hf:=HPF.out
   rw[HFIN0.out HE2.out] at hf
   subst he
   subst hf
   exact⟨rfl,HT6.out.pu,HT6.out.gr⟩
end pur
end Go.Proofs.YtifjhlgjgnnnpaaGreat
