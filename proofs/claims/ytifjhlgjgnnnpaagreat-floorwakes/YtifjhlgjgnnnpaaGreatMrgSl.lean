import Derived.Test.YtifjhlgjgnnnpaaGreatPurHold
import Derived.BigRegion
import Derived.Deep.QuietTactic
import Derived.Test.YtifjhlgjgnnnpaaGreatQueChk
set_option maxHeartbeats 4000000
set_option maxRecDepth 100000
namespace Go.Proofs.YtifjhlgjgnnnpaaGreat
namespace pur
open Go.RowKit spn
theorem mixed:Tryz.prog.follows Departure.mixedOrders=true:=by kernel_rfl
theorem bal{V W:World}(h:Below V.heap.size V W)(o:Obj):Below V.heap.size V (W.alloc o):=h.alloc h.size o
theorem who_V(V:World)(n:Int)(w:World)(h:Below V.heap.size V w) :
  Calls Tryz.prog 56 #[.int .i64 n] w fun e w'=>e=.returned (.agg #[.int .i64 n,.int .i64 1,.int .i64 9])∧Below V.heap.size V w':=
 (zBh n w).mono fun _ _ h'=>⟨h'.1,h.trans (h'.2.mono h.size)⟩
theorem price_V(V:World)(n:Int)(w:World)(h:Below V.heap.size V w) :
  Calls Tryz.prog 38 #[.int .i64 n] w fun e w'=>e=.returned (.agg #[.int .i64 n,.int .i64 1,.int .i64 10000])∧Below V.heap.size V w':=
 (zAm n w).mono fun _ _ h'=>⟨h'.1,h.trans (h'.2.mono h.size)⟩
theorem qty_V(V:World)(n:Int)(w:World)(h:Below V.heap.size V w) :
  Calls Tryz.prog 63 #[.int .i64 n] w fun e w'=>e=.returned (.agg #[.int .i64 n,.int .i64 1,.int .i64 10000])∧Below V.heap.size V w':=
 (zAC n w).mono fun _ _ h'=>⟨h'.1,h.trans (h'.2.mono h.size)⟩
structure Bz (B:Int) (z:Pz):Prop where
 cash : -B≤z.cash∧z.cash≤B
 held : -B≤z.held∧z.held≤B
 stock : -B≤z.stock∧z.stock≤B
 hs : -B≤z.hs∧z.hs≤B
def Bd(B:Int)(ps:List Pz):Prop:=ps.length=9∧∀i,i<9→Bz B ps[i]!
section
variable {B D d:Int}{ps:List Pz}
theorem Bd.onto(h:Bd B ps){g:Pz→Pz}(hD:0≤D)(hg:∀z,Bz B z→Bz (B+D) (g z))(k:Nat):Bd (B+D) (on g k ps):=by
 refine⟨zCe h.1,fun i hi=>?_⟩
 rw[on_at g k ps i (by rw[h.1];exact hi)]
 have z:=h.2 i hi
 split
 ·exact hg _ z
 ·obtain⟨⟨a,b⟩,⟨c,d⟩,⟨e,f⟩,⟨x,y⟩⟩:=z
  exact⟨⟨by omega,by omega⟩,⟨by omega,by omega⟩,⟨by omega,by omega⟩,⟨by omega,by omega⟩⟩
theorem Bd.oC(h:Bd B ps)(h1 : -D≤d)(h2:d≤D)(k:Nat):Bd (B+D) (on (adC d) k ps):=h.onto (by omega) (fun z hz=>by
 obtain⟨⟨a,b⟩,⟨c,d⟩,⟨e,f⟩,⟨x,y⟩⟩:=hz
 exact⟨⟨by simp only[adC];omega,by simp only[adC];omega⟩,⟨by simp only[adC];omega,by simp only[adC];omega⟩,⟨by simp only[adC];omega,by simp only[adC];omega⟩,⟨by simp only[adC];omega,by simp only[adC];omega⟩⟩) k
theorem Bd.oH(h:Bd B ps)(h1 : -D≤d)(h2:d≤D)(k:Nat):Bd (B+D) (on (adH d) k ps):=h.onto (by omega) (fun z hz=>by
 obtain⟨⟨a,b⟩,⟨c,d⟩,⟨e,f⟩,⟨x,y⟩⟩:=hz
 exact⟨⟨by simp only[adH];omega,by simp only[adH];omega⟩,⟨by simp only[adH];omega,by simp only[adH];omega⟩,⟨by simp only[adH];omega,by simp only[adH];omega⟩,⟨by simp only[adH];omega,by simp only[adH];omega⟩⟩) k
theorem Bd.oS(h:Bd B ps)(h1 : -D≤d)(h2:d≤D)(k:Nat):Bd (B+D) (on (adS d) k ps):=h.onto (by omega) (fun z hz=>by
 obtain⟨⟨a,b⟩,⟨c,d⟩,⟨e,f⟩,⟨x,y⟩⟩:=hz
 exact⟨⟨by simp only[adS];omega,by simp only[adS];omega⟩,⟨by simp only[adS];omega,by simp only[adS];omega⟩,⟨by simp only[adS];omega,by simp only[adS];omega⟩,⟨by simp only[adS];omega,by simp only[adS];omega⟩⟩) k
theorem Bd.oT(h:Bd B ps)(h1 : -D≤d)(h2:d≤D)(k:Nat):Bd (B+D) (on (adT d) k ps):=h.onto (by omega) (fun z hz=>by
 obtain⟨⟨a,b⟩,⟨c,d⟩,⟨e,f⟩,⟨x,y⟩⟩:=hz
 exact⟨⟨by simp only[adT];omega,by simp only[adT];omega⟩,⟨by simp only[adT];omega,by simp only[adT];omega⟩,⟨by simp only[adT];omega,by simp only[adT];omega⟩,⟨by simp only[adT];omega,by simp only[adT];omega⟩⟩) k
end
theorem Ok.bd{ps:List Pz}(h:Ok ps):Bd 1000000000 ps:=⟨h.len,fun i hi=>by
 obtain⟨-,a,b,c,d,e,f⟩:=h.all i hi
 exact⟨⟨by omega,by omega⟩,⟨by omega,by omega⟩,⟨by omega,by omega⟩,⟨by omega,by omega⟩⟩⟩
structure TS (w:World) (X P:Nat) (mk tk f t p q:Int) (wr:World) (ps:List Pz):Prop where
 pu:Pu 110 9 wr P ps
 tr:wr.heap[X]?=some (.cells #[.int .i64 mk,.int .i64 tk,.int .i64 f,.int .i64 t,.int .i64 p,.int .i64 q] 40 (0,0))
 ne:X≠P
 gr:w.grownBy wr (some P)
section
variable {w wr w' : World}{X P:Nat}{mk tk f t p q:Int}{ps:List Pz}
theorem TS.put(h:TS w X P mk tk f t p q wr ps)(k j:Nat)(v:Value)(z:Pz)(hk:k<9)(hj:j<5)(hz:(pL ps[k]!).set j v=pL z):TS w X P mk tk f t p q (wr.setCell ⟨P,k*5+j,none⟩ v) (ps.set k z):=
 ⟨h.pu.put k j v z hk hj hz,(heap_setCell_other wr ⟨P,k*5+j,none⟩ X v h.ne).trans h.tr,h.ne,grT h.gr (grC wr P _ v)⟩
theorem TS.drawn(h:TS w X P mk tk f t p q wr ps)(n:Nat):TS w X P mk tk f t p q (wr.drewN n) ps:=⟨h.pu,h.tr,h.ne,grT h.gr (grDN _ _ _)⟩
theorem TS.drawn1(h:TS w X P mk tk f t p q wr ps):TS w X P mk tk f t p q wr.drew ps:=⟨h.pu,h.tr,h.ne,grT h.gr (grD _ _)⟩
theorem TS.cells(h:TS w X P mk tk f t p q wr ps):wr.cell? ⟨X,2,none⟩=some (.int .i64 f)∧wr.cell? ⟨X,3,none⟩=some (.int .i64 t)∧wr.cell? ⟨X,4,none⟩=some (.int .i64 p)∧wr.cell? ⟨X,5,none⟩=some (.int .i64 q):=
 ⟨by simp[World.cell?,h.tr],by simp[World.cell?,h.tr],by simp[World.cell?,h.tr],by simp[World.cell?,h.tr]⟩
theorem TS.five(h:TS w X P mk tk f t p q wr ps):wr.cell? ⟨X,5,none⟩=some (.int .i64 q):=h.cells.2.2.2
end
theorem trade_any(P:Nat)(ps:List Pz)(mk tk f t p q:Int)(w:World)(h:Pu 110 9 w P ps)(ho:Ok ps) :
  Calls Tryz.prog 127 #[.pointer (some ⟨P,0,none⟩),.agg #[.int .i64 mk,.int .i64 tk,.int .i64 f,.int .i64 t,.int .i64 p,.int .i64 q]] w fun e w'=>e=.returned (errV (tradeE ps f t p q))∧Pu 110 9 w' P (tradeP ps f t p q)∧w.grownBy w' (some P):=by
 have HP:=hidU h
 have HOK:=hidU ho
 have HR:Hid ([(f,1,9),(t,1,9),(p,1,10000),(q,1,10000)].any spanB=badT f t p q):=rfl
 obtain⟨r,hr⟩:∃r,badT f t p q=r:=⟨_,rfl⟩
 rw[hr] at HR
 have HBT:=hidU hr
 clear hr h ho
 obtain⟨EV,hEV⟩:∃EV,EV=errV (tradeE ps f t p q):=⟨_,rfl⟩
 obtain⟨PF,hPF⟩:∃PF,PF=tradeP ps f t p q:=⟨_,rfl⟩
 rw[←hEV,←hPF]
 have HEV:=hidU hEV
 have HPF:=hidU hPF
 clear hEV hPF
 obtain⟨X,hX⟩:∃X,X=w.heap.size:=⟨_,rfl⟩
 have hR0:=heap_alloc_new w (.cells #[.int .i64 mk,.int .i64 tk,.int .i64 f,.int .i64 t,.int .i64 p,.int .i64 q] 40)
 have hB0:=(bzR w.heap.size w).alloc (nzR _) (.cells #[.int .i64 mk,.int .i64 tk,.int .i64 f,.int .i64 t,.int .i64 p,.int .i64 q] 40)
 rw[←hX] at hR0
 have hT0:TS w X P mk tk f t p q (w.alloc (.cells #[.int .i64 mk,.int .i64 tk,.int .i64 f,.int .i64 t,.int .i64 p,.int .i64 q] 40)) ps:=⟨HP.out.below hB0,hR0,(by have:=HP.out.lt;omega),grB hB0 _⟩
 go_enter Tryz.func127,Tryz.ntmps127
 go_upto_region 1 with fail
 simp only[←hX]
 generalize w.alloc (.cells #[.int .i64 mk,.int .i64 tk,.int .i64 f,.int .i64 t,.int .i64 p,.int .i64 q] 40)=V at *
 have HT0:=hidU hT0
 clear hR0 hB0 hX hT0
 obtain⟨c2,c3,c4,c5⟩:=HT0.out.cells
 have SO:Hid (∀W,Below V.heap.size V W→(Below V.heap.size V W∧W.cell? ⟨X,2,none⟩=some (.int .i64 f)∧W.cell? ⟨X,3,none⟩=some (.int .i64 t)∧W.cell? ⟨X,4,none⟩=some (.int .i64 p)∧W.cell? ⟨X,5,none⟩=some (.int .i64 q))):=fun W hW=>⟨hW,keeps hW c2,keeps hW c3,keeps hW c4,keeps hW c5⟩
 go_region_held3 (fun W=>Below V.heap.size V W∧W.cell? ⟨X,2,none⟩=some (.int .i64 f)∧W.cell? ⟨X,3,none⟩=some (.int .i64 t)∧W.cell? ⟨X,4,none⟩=some (.int .i64 p)∧W.cell? ⟨X,5,none⟩=some (.int .i64 q))
  ((refine SO.out _ ?_;(with_reducible repeat' (first|assumption|refine bal ?_ _|refine Below.setCell ?_ ?_ _|refine Below.drew ?_|exact bzR _ _|exact nzR _|exact Below.size (by assumption)|refine Nat.le_succ_of_le ?_))))
  (first|(go_at_call 56;refine(who_V V _ _ ?_).mono ?_;(with_reducible repeat' (first|assumption|refine bal ?_ _|refine Below.setCell ?_ ?_ _|refine Below.drew ?_|exact bzR _ _|exact nzR _|exact Below.size (by assumption)|refine Nat.le_succ_of_le ?_));rintro x W ⟨rfl,hbn⟩)|(go_at_call 38;refine(price_V V _ _ ?_).mono ?_;(with_reducible repeat' (first|assumption|refine bal ?_ _|refine Below.setCell ?_ ?_ _|refine Below.drew ?_|exact bzR _ _|exact nzR _|exact Below.size (by assumption)|refine Nat.le_succ_of_le ?_));rintro x W ⟨rfl,hbn⟩)|(go_at_call 63;refine(qty_V V _ _ ?_).mono ?_;(with_reducible repeat' (first|assumption|refine bal ?_ _|refine Below.setCell ?_ ?_ _|refine Below.drew ?_|exact bzR _ _|exact nzR _|exact Below.size (by assumption)|refine Nat.le_succ_of_le ?_));rintro x W ⟨rfl,hbn⟩)|(go_at_call 23;refine(scheck4 r _ _ _ _ _ _ _ _ _ _ _ _ _ _ rfl HR.out).mono ?_;rintro x W2 ⟨rfl,hbs⟩;have hbn:=Below.trans (by with_reducible assumption) (hbs.mono (Below.size (by with_reducible assumption)))))
 have HT:Hid (TS w X P mk tk f t p q W2 ps):=⟨HT0.out.pu.below hbn,(hbn.block X (gzE.1 HT0.out.tr).1).trans HT0.out.tr,HT0.out.ne,grT HT0.out.gr (grB hbn _)⟩
 clear SO hbs hbn c2 c3 c4 c5 HT0 HR
 cases r with
 | true=>
  have HE:Hid (tradeE ps f t p q=1):=by show _=_;unfold tradeE;rw[HBT.out];rfl
  have HF:Hid (tradeP ps f t p q=ps):=by show _=_;unfold tradeP;rw[HE.out];rfl
  simp only[show errV (rangeE true)=.iface 91 (.int .i64 1) from rfl]
  go_wp2_with fail
  go_ret
  have he:=HEV.out
  rw[HE.out] at he
  have hf:=HPF.out
  rw[HF.out] at hf
  subst he
  subst hf
  exact⟨rfl,HT.out.pu,HT.out.gr⟩
 | false=>
  simp only[show errV (rangeE false)=.nilIface from rfl]
  obtain⟨b1,b2,b3,b4,b5,b6,b7,b8⟩:=zDT HBT.out
  have hm:=zBO b5 b6 b7 b8
  obtain⟨a,ha,ha9,hia⟩:=ix_of b1 b2
  obtain⟨b,hb,hb9,hib⟩:=ix_of b3 b4
  have HAB:Hid (a<9∧b<9):=⟨ha9,hb9⟩
  have HBD:=hidU HOK.out.bd
  have HFA:Hid (∀W,Calls Tryz.prog 57 #[.pointer (some ⟨P,0,none⟩),.int .i64 f] W fun e w'=>e=.returned (.pointer (some ⟨P,a*5,none⟩))∧w'=W):=fun W=>of_at P a f W ha ha9
  have HFB:Hid (∀W,Calls Tryz.prog 57 #[.pointer (some ⟨P,0,none⟩),.int .i64 t] W fun e w'=>e=.returned (.pointer (some ⟨P,b*5,none⟩))∧w'=W):=fun W=>of_at P b t W hb hb9
  have HE:Hid (tradeE ps f t p q=if (ps[a]!).hs<q∨(ps[b]!).held<p*q then 9 else if ¬f=t∧(1000000000<(ps[a]!).cash+p*q∨1000000000<(ps[b]!).stock+q) then 4 else 0):=by show _=_;unfold tradeE;rw[HBT.out,hia,hib];rfl
  have HFIN0:Hid (tradeE ps f t p q=0→tradeP ps f t p q=tradeL a b (p*q) q ps):=fun e=>by unfold tradeP;rw[if_pos e,hia,hib]
  have HFN0:Hid (¬tradeE ps f t p q=0→tradeP ps f t p q=ps):=fun e=>by unfold tradeP;rw[if_neg e]
  have hmi0:IntKind.i64.wrap (p*q)=p*q:=(IntWalk.i64_left _).trans (wrapP _ (by omega) (by omega))
  have hmw0:wrap64 (p*q)=p*q:=wrapP _ (by clear hmi0;omega) (by clear hmi0;omega)
  have HX:Hid (∀W,Pu 110 9 W P ps→W.cell? ⟨P,a*5+4,none⟩=some (.int .i64 (ps[a]!).hs)∧W.cell? ⟨P,b*5+2,none⟩=some (.int .i64 (ps[b]!).held)∧W.cell? ⟨P,a*5+1,none⟩=some (.int .i64 (ps[a]!).cash)∧W.cell? ⟨P,b*5+3,none⟩=some (.int .i64 (ps[b]!).stock)):=fun W hW=>⟨hW.cell a ha9 4 _ rfl,hW.cell b hb9 2 _ rfl,hW.cell a ha9 1 _ rfl,hW.cell b hb9 3 _ rfl⟩
  obtain⟨c,hc⟩:∃c,c=p*q:=⟨_,rfl⟩
  have hmi:IntKind.i64.wrap (p*q)=c:=hmi0.trans hc.symm
  have hmw:wrap64 (p*q)=c:=hmw0.trans hc.symm
  clear hmi0 hmw0
  rw[←hc] at HE HFIN0 hm
  have HQ:Hid (1≤q∧q≤10000∧1≤c∧c≤100000000):=⟨b7,b8,hm.1,hm.2⟩
  have HO1:Hid (∀W,Calls Tryz.prog 114 #[.int .i64 (ps[a]!).cash,.int .i64 c] W fun e w'=>e=.returned (.bool (decide (1000000000<(ps[a]!).cash+c)))∧w'=W):=fun W=>zCy _ _ W (wrapP _ (by have:=(HBD.out.2 a ha9).cash;clear hmi hmw;omega) (by have:=(HBD.out.2 a ha9).cash;clear hmi hmw;omega))
  have HO2:Hid (∀W,Calls Tryz.prog 114 #[.int .i64 (ps[b]!).stock,.int .i64 q] W fun e w'=>e=.returned (.bool (decide (1000000000<(ps[b]!).stock+q)))∧w'=W):=fun W=>zCy _ _ W (wrapP _ (by have:=(HBD.out.2 b hb9).stock;clear hmi hmw;omega) (by have:=(HBD.out.2 b hb9).stock;clear hmi hmw;omega))
  clear hm ha ha9 hia hb hb9 hib b1 b2 b3 b4 b5 b6 b7 b8 hc HP HOK HBT
  obtain⟨c2,c3,c4,c5⟩:=HT.out.cells
  go_wp2_with fail
  go_quiet ((go_at_call 57;first|with_reducible exact Calls.quiet_of_same (HFA.out _)|with_reducible exact Calls.quiet_of_same (HFB.out _)))
  have HT:=hidU (HT.out.drawn nq)
  generalize W2.drewN nq=W3 at *
  try simp only[hmi]
  try simp only[hmw]
  clear c2 c3 c4 c5 nq HFA HFB hmi hmw
  obtain⟨c2,c3,c4,c5⟩:=HT.out.cells
  obtain⟨x1,x2,x3,x4⟩:=HX.out _ HT.out.pu
  have HBN0:Hid (∀i,i<9→Bz 1000000000 ps[i]!):=HBD.out.2
  have hB0:=HBD.out
  have hB1:=hB0.oT (D:=100000000) (d:=-q) (by have:=HQ.out;omega) (by have:=HQ.out;omega) a
  have HBN1:=hidU hB1.2
  have hB2:=hB1.oS (D:=100000000) (d:=-q) (by have:=HQ.out;omega) (by have:=HQ.out;omega) a
  have HBN2:=hidU hB2.2
  have hB3:=hB2.oS (D:=100000000) (d:=q) (by have:=HQ.out;omega) (by have:=HQ.out;omega) b
  have HBN3:=hidU hB3.2
  have hB4:=hB3.oH (D:=100000000) (d:=-c) (by have:=HQ.out;omega) (by have:=HQ.out;omega) b
  have HBN4:=hidU hB4.2
  have hB5:=hB4.oC (D:=100000000) (d:=-c) (by have:=HQ.out;omega) (by have:=HQ.out;omega) b
  have HBN5:=hidU hB5.2
  have hB6:=hB5.oC (D:=100000000) (d:=c) (by have:=HQ.out;omega) (by have:=HQ.out;omega) a
  have HBN6:=hidU hB6.2
  clear hB0 hB1 hB2 hB3 hB4 hB5 hB6 HBD
  by_cases h1:(ps[a]!).hs<q
  ·have HE:Hid (tradeE ps f t p q=9):=by show _=_;rw[HE.out,if_pos (.inl h1)]
   have HF:Hid (tradeP ps f t p q=ps):=HFN0.out (by rw[HE.out];decide)
   have d1:decide ((ps[a]!).hs<q)=true:=decide_eq_true h1
   generalize (ps[a]!).hs=A4 at x1 h1 d1
   clear x2 x3 x4 HX HO1 HO2
   go_wp2_with fail
   go_quiet (fail)
   have HT:=hidU (HT.out.drawn nq)
   generalize W3.drewN nq=W4 at *
   go_wp2_with fail
   go_ret
   have he:=HEV.out
   rw[HE.out] at he
   have hf:=HPF.out
   rw[HF.out] at hf
   subst he
   subst hf
   exact⟨rfl,HT.out.pu,HT.out.gr⟩
  have d1:decide ((ps[a]!).hs<q)=false:=decide_eq_false h1
  by_cases h2:(ps[b]!).held<c
  ·have HE:Hid (tradeE ps f t p q=9):=by show _=_;rw[HE.out,if_pos (.inr h2)]
   have HF:Hid (tradeP ps f t p q=ps):=HFN0.out (by rw[HE.out];decide)
   have d2:decide ((ps[b]!).held<c)=true:=decide_eq_true h2
   generalize (ps[a]!).hs=A4 at x1 h1 d1
   generalize (ps[b]!).held=B2 at x2 h2 d2
   clear x3 x4 HX HO1 HO2
   go_wp2_with fail
   go_quiet (fail)
   have HT:=hidU (HT.out.drawn nq)
   generalize W3.drewN nq=W4 at *
   go_wp2_with fail
   go_ret
   have he:=HEV.out
   rw[HE.out] at he
   have hf:=HPF.out
   rw[HF.out] at hf
   subst he
   subst hf
   exact⟨rfl,HT.out.pu,HT.out.gr⟩
  have d2:decide ((ps[b]!).held<c)=false:=decide_eq_false h2
  have HN12:Hid (¬((ps[a]!).hs<q∨(ps[b]!).held<c)):=fun x=>x.elim h1 h2
  generalize (ps[a]!).hs=A4 at x1 h1 d1
  generalize (ps[b]!).held=B2 at x2 h2 d2
  go_wp2_with fail
  go_quiet (fail)
  have HT:=hidU (HT.out.drawn nq)
  generalize W3.drewN nq=W4 at *
  clear c2 c3 c4 c5 nq x1 x2 x3 x4 h1 h2 d1 d2
  obtain⟨c2,c3,c4,c5⟩:=HT.out.cells
  obtain⟨x1,x2,x3,x4⟩:=HX.out _ HT.out.pu
  clear x1 x2 HX
  by_cases hft:f=t
  ·have HE2:Hid (tradeE ps f t p q=0):=by show _=_;rw[HE.out,if_neg HN12.out,if_neg (fun x=>x.1 hft)]
   have d3:(f != t)=false:=by simp[hft]
   clear hft HO1 HO2 HE HFN0
   go_wp2_with fail
   go_quiet (fail)
   have HT:=hidU (HT.out.drawn nq)
   generalize W4.drewN nq=wq0 at *
   clear c2 c3 c4 c5 nq x3 x4 d3
   have HT0:=HT
   clear HT
   have mixed:=mixed
   have hv:=(HBN0.out a HAB.out.1).hs
   have e0:IntKind.i64.wrap (((ps)[a]!).hs - q)=((ps)[a]!).hs - q:=(IntWalk.i64_left _).trans (wrapP _ (by have:=HQ.out;omega) (by have:=HQ.out;omega))
   have e1:wrap64 (((ps)[a]!).hs - q)=((ps)[a]!).hs - q:=wrapP _ (by clear e0;have:=HQ.out;omega) (by clear e0;have:=HQ.out;omega)
   have xc:=HT0.out.pu.cell a HAB.out.1 4 _ rfl
   have xz:=HT0.out.pu.froz (a*5+4)
   have xq:=HT0.out.five
   have HT1:=hidU (HT0.out.put a 4 (.int .i64 (((ps)[a]!).hs - q)) (adT (-q) (ps)[a]!) HAB.out.1 (by omega) rfl)
   clear HT0 hv
   generalize ((ps)[a]!).hs=xx at *
   go_wp2_with fail
   go_big_region_o
   have HT1:=hidU HT1.out.drawn1
   generalize (wq0.setCell ⟨P,a*5+4,none⟩ (.int .i64 (xx - q))).drew=wq1 at *
   clear xc xz xq e0 e1
   change Hid (TS w X P mk tk f t p q wq1 (on (adT (-q)) a ps)) at HT1
   have hv:=(HBN1.out a HAB.out.1).stock
   have e0:IntKind.i64.wrap ((((on (adT (-q)) a ps))[a]!).stock - q)=(((on (adT (-q)) a ps))[a]!).stock - q:=(IntWalk.i64_left _).trans (wrapP _ (by have:=HQ.out;omega) (by have:=HQ.out;omega))
   have e1:wrap64 ((((on (adT (-q)) a ps))[a]!).stock - q)=(((on (adT (-q)) a ps))[a]!).stock - q:=wrapP _ (by clear e0;have:=HQ.out;omega) (by clear e0;have:=HQ.out;omega)
   have xc:=HT1.out.pu.cell a HAB.out.1 3 _ rfl
   have xz:=HT1.out.pu.froz (a*5+3)
   have xq:=HT1.out.five
   have HT2:=hidU (HT1.out.put a 3 (.int .i64 ((((on (adT (-q)) a ps))[a]!).stock - q)) (adS (-q) ((on (adT (-q)) a ps))[a]!) HAB.out.1 (by omega) rfl)
   clear HT1 hv
   generalize (((on (adT (-q)) a ps))[a]!).stock=xx at *
   go_wp2_with fail
   go_big_region_o
   have HT2:=hidU HT2.out.drawn1
   generalize (wq1.setCell ⟨P,a*5+3,none⟩ (.int .i64 (xx - q))).drew=wq2 at *
   clear xc xz xq e0 e1
   change Hid (TS w X P mk tk f t p q wq2 (on (adS (-q)) a (on (adT (-q)) a ps))) at HT2
   have hv:=(HBN2.out b HAB.out.2).stock
   have e0:IntKind.i64.wrap ((((on (adS (-q)) a (on (adT (-q)) a ps)))[b]!).stock+q)=(((on (adS (-q)) a (on (adT (-q)) a ps)))[b]!).stock+q:=(IntWalk.i64_left _).trans (wrapP _ (by have:=HQ.out;omega) (by have:=HQ.out;omega))
   have e1:wrap64 ((((on (adS (-q)) a (on (adT (-q)) a ps)))[b]!).stock+q)=(((on (adS (-q)) a (on (adT (-q)) a ps)))[b]!).stock+q:=wrapP _ (by clear e0;have:=HQ.out;omega) (by clear e0;have:=HQ.out;omega)
   have xc:=HT2.out.pu.cell b HAB.out.2 3 _ rfl
   have xz:=HT2.out.pu.froz (b*5+3)
   have xq:=HT2.out.five
   have HT3:=hidU (HT2.out.put b 3 (.int .i64 ((((on (adS (-q)) a (on (adT (-q)) a ps)))[b]!).stock+q)) (adS q ((on (adS (-q)) a (on (adT (-q)) a ps)))[b]!) HAB.out.2 (by omega) rfl)
   clear HT2 hv
   generalize (((on (adS (-q)) a (on (adT (-q)) a ps)))[b]!).stock=xx at *
   go_wp2_with fail
   go_big_region_o
   have HT3:=hidU HT3.out.drawn1
   generalize (wq2.setCell ⟨P,b*5+3,none⟩ (.int .i64 (xx+q))).drew=wq3 at *
   clear xc xz xq e0 e1
   change Hid (TS w X P mk tk f t p q wq3 (on (adS q) b (on (adS (-q)) a (on (adT (-q)) a ps)))) at HT3
   have hv:=(HBN3.out b HAB.out.2).held
   have e0:IntKind.i64.wrap ((((on (adS q) b (on (adS (-q)) a (on (adT (-q)) a ps))))[b]!).held - c)=(((on (adS q) b (on (adS (-q)) a (on (adT (-q)) a ps))))[b]!).held - c:=(IntWalk.i64_left _).trans (wrapP _ (by have:=HQ.out;omega) (by have:=HQ.out;omega))
   have e1:wrap64 ((((on (adS q) b (on (adS (-q)) a (on (adT (-q)) a ps))))[b]!).held - c)=(((on (adS q) b (on (adS (-q)) a (on (adT (-q)) a ps))))[b]!).held - c:=wrapP _ (by clear e0;have:=HQ.out;omega) (by clear e0;have:=HQ.out;omega)
   have xc:=HT3.out.pu.cell b HAB.out.2 2 _ rfl
   have xz:=HT3.out.pu.froz (b*5+2)
   have xq:=HT3.out.five
   have HT4:=hidU (HT3.out.put b 2 (.int .i64 ((((on (adS q) b (on (adS (-q)) a (on (adT (-q)) a ps))))[b]!).held - c)) (adH (-c) ((on (adS q) b (on (adS (-q)) a (on (adT (-q)) a ps))))[b]!) HAB.out.2 (by omega) rfl)
   clear HT3 hv
   generalize (((on (adS q) b (on (adS (-q)) a (on (adT (-q)) a ps))))[b]!).held=xx at *
   go_upto_region 13 with fail
   generalize wq3.setCell ⟨P,b*5+2,none⟩ (.int .i64 (xx - c))=wq4 at *
   clear xc xz xq e0 e1
   change Hid (TS w X P mk tk f t p q wq4 (on (adH (-c)) b (on (adS q) b (on (adS (-q)) a (on (adT (-q)) a ps))))) at HT4
   have hv:=(HBN4.out b HAB.out.2).cash
   have e0:IntKind.i64.wrap ((((on (adH (-c)) b (on (adS q) b (on (adS (-q)) a (on (adT (-q)) a ps)))))[b]!).cash - c)=(((on (adH (-c)) b (on (adS q) b (on (adS (-q)) a (on (adT (-q)) a ps)))))[b]!).cash - c:=(IntWalk.i64_left _).trans (wrapP _ (by have:=HQ.out;omega) (by have:=HQ.out;omega))
   have e1:wrap64 ((((on (adH (-c)) b (on (adS q) b (on (adS (-q)) a (on (adT (-q)) a ps)))))[b]!).cash - c)=(((on (adH (-c)) b (on (adS q) b (on (adS (-q)) a (on (adT (-q)) a ps)))))[b]!).cash - c:=wrapP _ (by clear e0;have:=HQ.out;omega) (by clear e0;have:=HQ.out;omega)
   have xc:=HT4.out.pu.cell b HAB.out.2 1 _ rfl
   have xz:=HT4.out.pu.froz (b*5+1)
   have xq:=HT4.out.five
   have HT5:=hidU (HT4.out.put b 1 (.int .i64 ((((on (adH (-c)) b (on (adS q) b (on (adS (-q)) a (on (adT (-q)) a ps)))))[b]!).cash - c)) (adC (-c) ((on (adH (-c)) b (on (adS q) b (on (adS (-q)) a (on (adT (-q)) a ps)))))[b]!) HAB.out.2 (by omega) rfl)
   clear HT4 hv
   generalize (((on (adH (-c)) b (on (adS q) b (on (adS (-q)) a (on (adT (-q)) a ps)))))[b]!).cash=xx at *
   go_upto_region 14 with fail
   generalize wq4.setCell ⟨P,b*5+1,none⟩ (.int .i64 (xx - c))=wq5 at *
   clear xc xz xq e0 e1
   change Hid (TS w X P mk tk f t p q wq5 (on (adC (-c)) b (on (adH (-c)) b (on (adS q) b (on (adS (-q)) a (on (adT (-q)) a ps)))))) at HT5
   have hv:=(HBN5.out a HAB.out.1).cash
   have e0:IntKind.i64.wrap ((((on (adC (-c)) b (on (adH (-c)) b (on (adS q) b (on (adS (-q)) a (on (adT (-q)) a ps))))))[a]!).cash+c)=(((on (adC (-c)) b (on (adH (-c)) b (on (adS q) b (on (adS (-q)) a (on (adT (-q)) a ps))))))[a]!).cash+c:=(IntWalk.i64_left _).trans (wrapP _ (by have:=HQ.out;omega) (by have:=HQ.out;omega))
   have e1:wrap64 ((((on (adC (-c)) b (on (adH (-c)) b (on (adS q) b (on (adS (-q)) a (on (adT (-q)) a ps))))))[a]!).cash+c)=(((on (adC (-c)) b (on (adH (-c)) b (on (adS q) b (on (adS (-q)) a (on (adT (-q)) a ps))))))[a]!).cash+c:=wrapP _ (by clear e0;have:=HQ.out;omega) (by clear e0;have:=HQ.out;omega)
   have xc:=HT5.out.pu.cell a HAB.out.1 1 _ rfl
   have xz:=HT5.out.pu.froz (a*5+1)
   have xq:=HT5.out.five
   have HT6:=hidU (HT5.out.put a 1 (.int .i64 ((((on (adC (-c)) b (on (adH (-c)) b (on (adS q) b (on (adS (-q)) a (on (adT (-q)) a ps))))))[a]!).cash+c)) (adC c ((on (adC (-c)) b (on (adH (-c)) b (on (adS q) b (on (adS (-q)) a (on (adT (-q)) a ps))))))[a]!) HAB.out.1 (by omega) rfl)
   clear HT5 hv
   generalize (((on (adC (-c)) b (on (adH (-c)) b (on (adS q) b (on (adS (-q)) a (on (adT (-q)) a ps))))))[a]!).cash=xx at *
   go_upto_region 15 with fail
   generalize wq5.setCell ⟨P,a*5+1,none⟩ (.int .i64 (xx+c))=wq6 at *
   clear xc xz xq e0 e1
   change Hid (TS w X P mk tk f t p q wq6 (on (adC c) a (on (adC (-c)) b (on (adH (-c)) b (on (adS q) b (on (adS (-q)) a (on (adT (-q)) a ps))))))) at HT6
   go_wp2_with fail
   go_ret
   have he:=HEV.out
   rw[HE2.out] at he
   have hf:=HPF.out
   rw[HFIN0.out HE2.out] at hf
   subst he
   subst hf
   exact⟨rfl,HT6.out.pu,HT6.out.gr⟩
  have d3:(f != t)=true:=by simp[hft]
  by_cases h3:1000000000<(ps[a]!).cash+c
  ·have HE:Hid (tradeE ps f t p q=4):=by show _=_;rw[HE.out,if_neg HN12.out,if_pos ⟨hft,.inl h3⟩]
   have HF:Hid (tradeP ps f t p q=ps):=HFN0.out (by rw[HE.out];decide)
   rw[decide_eq_true h3] at HO1
   generalize (ps[a]!).cash=A1 at x3 HO1
   generalize (ps[b]!).stock=B3 at x4 HO2
   clear hft h3
   go_wp2_with fail
   go_quiet ((go_at_call 114;first|with_reducible exact Calls.quiet_of_same (HO1.out _)|with_reducible exact Calls.quiet_of_same (HO2.out _)))
   have HT:=hidU (HT.out.drawn nq)
   generalize W4.drewN nq=W5 at *
   go_wp2_with fail
   go_ret
   have he:=HEV.out
   rw[HE.out] at he
   have hf:=HPF.out
   rw[HF.out] at hf
   subst he
   subst hf
   exact⟨rfl,HT.out.pu,HT.out.gr⟩
  rw[decide_eq_false h3] at HO1
  by_cases h4:1000000000<(ps[b]!).stock+q
  ·have HE:Hid (tradeE ps f t p q=4):=by show _=_;rw[HE.out,if_neg HN12.out,if_pos ⟨hft,.inr h4⟩]
   have HF:Hid (tradeP ps f t p q=ps):=HFN0.out (by rw[HE.out];decide)
   rw[decide_eq_true h4] at HO2
   generalize (ps[a]!).cash=A1 at x3 HO1
   generalize (ps[b]!).stock=B3 at x4 HO2
   clear hft h3 h4
   go_wp2_with fail
   go_quiet ((go_at_call 114;first|with_reducible exact Calls.quiet_of_same (HO1.out _)|with_reducible exact Calls.quiet_of_same (HO2.out _)))
   have HT:=hidU (HT.out.drawn nq)
   generalize W4.drewN nq=W5 at *
   go_wp2_with fail
   go_ret
   have he:=HEV.out
   rw[HE.out] at he
   have hf:=HPF.out
   rw[HF.out] at hf
   subst he
   subst hf
   exact⟨rfl,HT.out.pu,HT.out.gr⟩
  ·have HE2:Hid (tradeE ps f t p q=0):=by show _=_;rw[HE.out,if_neg HN12.out,if_neg (fun x=>x.2.elim h3 h4)]
   rw[decide_eq_false h4] at HO2
   generalize (ps[a]!).cash=A1 at x3 HO1
   generalize (ps[b]!).stock=B3 at x4 HO2
   clear hft h3 h4
   go_wp2_with fail
   go_quiet ((go_at_call 114;first|with_reducible exact Calls.quiet_of_same (HO1.out _)|with_reducible exact Calls.quiet_of_same (HO2.out _)))
   have HT:=hidU (HT.out.drawn nq)
   generalize W4.drewN nq=wq0 at *
   clear c2 c3 c4 c5 nq x3 x4 d3 HO1 HO2
   have HT0:=HT
   clear HT
   have mixed:=mixed
   have hv:=(HBN0.out a HAB.out.1).hs
   have e0:IntKind.i64.wrap (((ps)[a]!).hs - q)=((ps)[a]!).hs - q:=(IntWalk.i64_left _).trans (wrapP _ (by have:=HQ.out;omega) (by have:=HQ.out;omega))
   have e1:wrap64 (((ps)[a]!).hs - q)=((ps)[a]!).hs - q:=wrapP _ (by clear e0;have:=HQ.out;omega) (by clear e0;have:=HQ.out;omega)
   have xc:=HT0.out.pu.cell a HAB.out.1 4 _ rfl
   have xz:=HT0.out.pu.froz (a*5+4)
   have xq:=HT0.out.five
   have HT1:=hidU (HT0.out.put a 4 (.int .i64 (((ps)[a]!).hs - q)) (adT (-q) (ps)[a]!) HAB.out.1 (by omega) rfl)
   clear HT0 hv
   generalize ((ps)[a]!).hs=xx at *
   go_wp2_with fail
   go_big_region_o
   have HT1:=hidU HT1.out.drawn1
   generalize (wq0.setCell ⟨P,a*5+4,none⟩ (.int .i64 (xx - q))).drew=wq1 at *
   clear xc xz xq e0 e1
   change Hid (TS w X P mk tk f t p q wq1 (on (adT (-q)) a ps)) at HT1
   have hv:=(HBN1.out a HAB.out.1).stock
   have e0:IntKind.i64.wrap ((((on (adT (-q)) a ps))[a]!).stock - q)=(((on (adT (-q)) a ps))[a]!).stock - q:=(IntWalk.i64_left _).trans (wrapP _ (by have:=HQ.out;omega) (by have:=HQ.out;omega))
   have e1:wrap64 ((((on (adT (-q)) a ps))[a]!).stock - q)=(((on (adT (-q)) a ps))[a]!).stock - q:=wrapP _ (by clear e0;have:=HQ.out;omega) (by clear e0;have:=HQ.out;omega)
   have xc:=HT1.out.pu.cell a HAB.out.1 3 _ rfl
   have xz:=HT1.out.pu.froz (a*5+3)
   have xq:=HT1.out.five
   have HT2:=hidU (HT1.out.put a 3 (.int .i64 ((((on (adT (-q)) a ps))[a]!).stock - q)) (adS (-q) ((on (adT (-q)) a ps))[a]!) HAB.out.1 (by omega) rfl)
   clear HT1 hv
   generalize (((on (adT (-q)) a ps))[a]!).stock=xx at *
   go_wp2_with fail
   go_big_region_o
   have HT2:=hidU HT2.out.drawn1
   generalize (wq1.setCell ⟨P,a*5+3,none⟩ (.int .i64 (xx - q))).drew=wq2 at *
   clear xc xz xq e0 e1
   change Hid (TS w X P mk tk f t p q wq2 (on (adS (-q)) a (on (adT (-q)) a ps))) at HT2
   have hv:=(HBN2.out b HAB.out.2).stock
   have e0:IntKind.i64.wrap ((((on (adS (-q)) a (on (adT (-q)) a ps)))[b]!).stock+q)=(((on (adS (-q)) a (on (adT (-q)) a ps)))[b]!).stock+q:=(IntWalk.i64_left _).trans (wrapP _ (by have:=HQ.out;omega) (by have:=HQ.out;omega))
   have e1:wrap64 ((((on (adS (-q)) a (on (adT (-q)) a ps)))[b]!).stock+q)=(((on (adS (-q)) a (on (adT (-q)) a ps)))[b]!).stock+q:=wrapP _ (by clear e0;have:=HQ.out;omega) (by clear e0;have:=HQ.out;omega)
   have xc:=HT2.out.pu.cell b HAB.out.2 3 _ rfl
   have xz:=HT2.out.pu.froz (b*5+3)
   have xq:=HT2.out.five
   have HT3:=hidU (HT2.out.put b 3 (.int .i64 ((((on (adS (-q)) a (on (adT (-q)) a ps)))[b]!).stock+q)) (adS q ((on (adS (-q)) a (on (adT (-q)) a ps)))[b]!) HAB.out.2 (by omega) rfl)
   clear HT2 hv
   generalize (((on (adS (-q)) a (on (adT (-q)) a ps)))[b]!).stock=xx at *
   go_wp2_with fail
   go_big_region_o
   have HT3:=hidU HT3.out.drawn1
   generalize (wq2.setCell ⟨P,b*5+3,none⟩ (.int .i64 (xx+q))).drew=wq3 at *
   clear xc xz xq e0 e1
   change Hid (TS w X P mk tk f t p q wq3 (on (adS q) b (on (adS (-q)) a (on (adT (-q)) a ps)))) at HT3
   have hv:=(HBN3.out b HAB.out.2).held
   have e0:IntKind.i64.wrap ((((on (adS q) b (on (adS (-q)) a (on (adT (-q)) a ps))))[b]!).held - c)=(((on (adS q) b (on (adS (-q)) a (on (adT (-q)) a ps))))[b]!).held - c:=(IntWalk.i64_left _).trans (wrapP _ (by have:=HQ.out;omega) (by have:=HQ.out;omega))
   have e1:wrap64 ((((on (adS q) b (on (adS (-q)) a (on (adT (-q)) a ps))))[b]!).held - c)=(((on (adS q) b (on (adS (-q)) a (on (adT (-q)) a ps))))[b]!).held - c:=wrapP _ (by clear e0;have:=HQ.out;omega) (by clear e0;have:=HQ.out;omega)
   have xc:=HT3.out.pu.cell b HAB.out.2 2 _ rfl
   have xz:=HT3.out.pu.froz (b*5+2)
   have xq:=HT3.out.five
   have HT4:=hidU (HT3.out.put b 2 (.int .i64 ((((on (adS q) b (on (adS (-q)) a (on (adT (-q)) a ps))))[b]!).held - c)) (adH (-c) ((on (adS q) b (on (adS (-q)) a (on (adT (-q)) a ps))))[b]!) HAB.out.2 (by omega) rfl)
   clear HT3 hv
   generalize (((on (adS q) b (on (adS (-q)) a (on (adT (-q)) a ps))))[b]!).held=xx at *
   go_upto_region 13 with fail
   generalize wq3.setCell ⟨P,b*5+2,none⟩ (.int .i64 (xx - c))=wq4 at *
   clear xc xz xq e0 e1
   change Hid (TS w X P mk tk f t p q wq4 (on (adH (-c)) b (on (adS q) b (on (adS (-q)) a (on (adT (-q)) a ps))))) at HT4
   have hv:=(HBN4.out b HAB.out.2).cash
   have e0:IntKind.i64.wrap ((((on (adH (-c)) b (on (adS q) b (on (adS (-q)) a (on (adT (-q)) a ps)))))[b]!).cash - c)=(((on (adH (-c)) b (on (adS q) b (on (adS (-q)) a (on (adT (-q)) a ps)))))[b]!).cash - c:=(IntWalk.i64_left _).trans (wrapP _ (by have:=HQ.out;omega) (by have:=HQ.out;omega))
   have e1:wrap64 ((((on (adH (-c)) b (on (adS q) b (on (adS (-q)) a (on (adT (-q)) a ps)))))[b]!).cash - c)=(((on (adH (-c)) b (on (adS q) b (on (adS (-q)) a (on (adT (-q)) a ps)))))[b]!).cash - c:=wrapP _ (by clear e0;have:=HQ.out;omega) (by clear e0;have:=HQ.out;omega)
   have xc:=HT4.out.pu.cell b HAB.out.2 1 _ rfl
   have xz:=HT4.out.pu.froz (b*5+1)
   have xq:=HT4.out.five
   have HT5:=hidU (HT4.out.put b 1 (.int .i64 ((((on (adH (-c)) b (on (adS q) b (on (adS (-q)) a (on (adT (-q)) a ps)))))[b]!).cash - c)) (adC (-c) ((on (adH (-c)) b (on (adS q) b (on (adS (-q)) a (on (adT (-q)) a ps)))))[b]!) HAB.out.2 (by omega) rfl)
   clear HT4 hv
   generalize (((on (adH (-c)) b (on (adS q) b (on (adS (-q)) a (on (adT (-q)) a ps)))))[b]!).cash=xx at *
   go_upto_region 14 with fail
   generalize wq4.setCell ⟨P,b*5+1,none⟩ (.int .i64 (xx - c))=wq5 at *
   clear xc xz xq e0 e1
   change Hid (TS w X P mk tk f t p q wq5 (on (adC (-c)) b (on (adH (-c)) b (on (adS q) b (on (adS (-q)) a (on (adT (-q)) a ps)))))) at HT5
   have hv:=(HBN5.out a HAB.out.1).cash
   have e0:IntKind.i64.wrap ((((on (adC (-c)) b (on (adH (-c)) b (on (adS q) b (on (adS (-q)) a (on (adT (-q)) a ps))))))[a]!).cash+c)=(((on (adC (-c)) b (on (adH (-c)) b (on (adS q) b (on (adS (-q)) a (on (adT (-q)) a ps))))))[a]!).cash+c:=(IntWalk.i64_left _).trans (wrapP _ (by have:=HQ.out;omega) (by have:=HQ.out;omega))
   have e1:wrap64 ((((on (adC (-c)) b (on (adH (-c)) b (on (adS q) b (on (adS (-q)) a (on (adT (-q)) a ps))))))[a]!).cash+c)=(((on (adC (-c)) b (on (adH (-c)) b (on (adS q) b (on (adS (-q)) a (on (adT (-q)) a ps))))))[a]!).cash+c:=wrapP _ (by clear e0;have:=HQ.out;omega) (by clear e0;have:=HQ.out;omega)
   have xc:=HT5.out.pu.cell a HAB.out.1 1 _ rfl
   have xz:=HT5.out.pu.froz (a*5+1)
   have xq:=HT5.out.five
   have HT6:=hidU (HT5.out.put a 1 (.int .i64 ((((on (adC (-c)) b (on (adH (-c)) b (on (adS q) b (on (adS (-q)) a (on (adT (-q)) a ps))))))[a]!).cash+c)) (adC c ((on (adC (-c)) b (on (adH (-c)) b (on (adS q) b (on (adS (-q)) a (on (adT (-q)) a ps))))))[a]!) HAB.out.1 (by omega) rfl)
   clear HT5 hv
   generalize (((on (adC (-c)) b (on (adH (-c)) b (on (adS q) b (on (adS (-q)) a (on (adT (-q)) a ps))))))[a]!).cash=xx at *
   go_upto_region 15 with fail
   generalize wq5.setCell ⟨P,a*5+1,none⟩ (.int .i64 (xx+c))=wq6 at *
   clear xc xz xq e0 e1
   change Hid (TS w X P mk tk f t p q wq6 (on (adC c) a (on (adC (-c)) b (on (adH (-c)) b (on (adS q) b (on (adS (-q)) a (on (adT (-q)) a ps))))))) at HT6
   go_wp2_with fail
   go_ret
   have he:=HEV.out
   rw[HE2.out] at he
   have hf:=HPF.out
   rw[HFIN0.out HE2.out] at hf
   subst he
   subst hf
   exact⟨rfl,HT6.out.pu,HT6.out.gr⟩
theorem pay_any(P:Nat)(ps:List Pz)(who n:Int)(w:World)(h:Pu 110 9 w P ps)(ho:Ok ps) :
  Calls Tryz.prog 52 #[.pointer (some ⟨P,0,none⟩),.int .i64 who,.int .i64 n] w fun e w'=>e=.returned (errV (payE ps who n))∧Pu 110 9 w' P (payP ps who n)∧w.grownBy w' (some P):=by
 have HG:=hidU (zEP who n w)
 have HP:=hidU h
 cases hb:badG who n with
 | true=>
  rw[hb] at HG
  have HE:Hid (payE ps who n=1):=by show _=_;unfold payE;rw[hb];rfl
  have HF:Hid (payP ps who n=ps):=by show _=_;unfold payP;rw[HE.out];rfl
  rw[HE.out,HF.out]
  clear h ho hb HE HF
  simp only[show errV (rangeE true)=.iface 91 (.int .i64 1) from rfl] at HG
  go_enter Tryz.func52,Tryz.ntmps52
  go_wp2_with fail
  refine HG.out.mono ?_
  rintro e w1⟨rfl,hb1⟩
  have HB1:=hidU hb1
  clear hb1
  go_wp2_with fail
  go_ret
  exact⟨rfl,HP.out.below HB1.out,grB HB1.out _⟩
 | false=>
  rw[hb] at HG
  simp only[show errV (rangeE false)=.nilIface from rfl] at HG
  obtain⟨b1,b2,b3,b4⟩:=zBp hb
  obtain⟨k,hw,hk,hix⟩:=ix_of b1 b2
  have z:=ho.all k hk
  have HOF:Hid (∀W,Calls Tryz.prog 57 #[.pointer (some ⟨P,0,none⟩),.int .i64 who] W fun e w'=>e=.returned (.pointer (some ⟨P,k*5,none⟩))∧w'=W):=fun W=>of_at P k who W hw hk
  have HX:Hid (∀W,Pu 110 9 W P ps→W.cell? ⟨P,k*5+1,none⟩=some (.int .i64 (ps[k]!).cash)∧W.frozen? ⟨P,k*5+1,none⟩=false):=fun W hW=>⟨hW.cell k hk 1 _ rfl,hW.froz _⟩
  have HE:Hid (payE ps who n=if 1000000000<(ps[k]!).cash+n then 4 else 0):=by show _=_;unfold payE;rw[hb,hix];rfl
  have HN:Hid (∀W,Pu 110 9 W P ps→¬1000000000<(ps[k]!).cash+n→Pu 110 9 (W.setCell ⟨P,k*5+1,none⟩ (.int .i64 ((ps[k]!).cash+n))) P (payP ps who n)):=fun W hW hf=>by
   unfold payP
   rw[HE.out,if_neg hf,if_pos rfl,hix]
   exact hW.put k 1 _ _ hk (by omega) rfl
  have HF:Hid (1000000000<(ps[k]!).cash+n→payP ps who n=ps):=fun hf=>by unfold payP;rw[HE.out,if_pos hf,if_neg (by decide)]
  have hwr:wrap64 ((ps[k]!).cash+n)=(ps[k]!).cash+n:=wrapP _ (by have:=z.h0;have:=z.hc;have:=z.t0;have:=z.ts;omega) (by have:=z.cm;have:=z.sm;omega)
  generalize (ps[k]!).cash=x at *
  clear h ho hb z hw hk hix b1 b2 b3 b4
  by_cases hf:1000000000<x+n
  ·have HPF:Hid (∀W,Pu 110 9 W P ps→Calls Tryz.prog 84 #[.pointer (some ⟨P,k*5+1,none⟩),.int .i64 n] W fun e w'=>e=.returned (errV 4)∧w'=W):=fun W hW=>zGF P _ x n W (HX.out W hW).1 hwr hf
   rw[HE.out,if_pos hf,HF.out hf]
   clear hf hwr HE HF HN HX
   go_enter Tryz.func52,Tryz.ntmps52
   go_wp2_with fail
   refine HG.out.mono ?_
   rintro e w1⟨rfl,hb1⟩
   have HB1:=hidU hb1
   clear hb1
   go_wp2_with fail
   refine(HOF.out _).mono ?_
   rintro e w2⟨rfl,rfl⟩
   go_wp2_with fail
   refine(HPF.out _ (HP.out.below HB1.out)).mono ?_
   rintro e w3⟨rfl,rfl⟩
   go_wp2_with fail
   go_ret
   exact⟨rfl,HP.out.below HB1.out,grB HB1.out _⟩
  ·have HPF:Hid (∀W,Pu 110 9 W P ps→Calls Tryz.prog 84 #[.pointer (some ⟨P,k*5+1,none⟩),.int .i64 n] W fun e w'=>e=.returned (errV 0)∧w'=W.setCell ⟨P,k*5+1,none⟩ (.int .i64 (x+n))):=fun W hW=>put_ok P _ x n W (HX.out W hW).1 (HX.out W hW).2 hwr hf
   have HN2:=hidU (fun W hW=>HN.out W hW hf)
   rw[HE.out,if_neg hf]
   clear hf hwr HE HF HN HX
   go_enter Tryz.func52,Tryz.ntmps52
   go_wp2_with fail
   refine HG.out.mono ?_
   rintro e w1⟨rfl,hb1⟩
   have HB1:=hidU hb1
   clear hb1
   go_wp2_with fail
   refine(HOF.out _).mono ?_
   rintro e w2⟨rfl,rfl⟩
   go_wp2_with fail
   refine(HPF.out _ (HP.out.below HB1.out)).mono ?_
   rintro e w3⟨rfl,rfl⟩
   have HL:=hidU (HN2.out _ (HP.out.below HB1.out))
   have HGR:=hidU (grT (grB HB1.out (some P)) (grC w2 P (k*5+1) (.int .i64 (x+n))))
   clear HN2 HPF
   generalize w2.setCell ⟨P,k*5+1,none⟩ (.int .i64 (x+n))=w4 at *
   go_wp2_with fail
   go_ret
   exact⟨rfl,HL.out,HGR.out⟩
theorem zNb(P:Nat)(ps:List Pz)(who n:Int)(w:World)(h:Pu 110 9 w P ps)(ho:Ok ps) :
  Calls Tryz.prog 53 #[.pointer (some ⟨P,0,none⟩),.int .i64 who,.int .i64 n] w fun e w'=>e=.returned (errV (giveE ps who n))∧Pu 110 9 w' P (giveP ps who n)∧w.grownBy w' (some P):=by
 have HG:=hidU (zEP who n w)
 have HP:=hidU h
 cases hb:badG who n with
 | true=>
  rw[hb] at HG
  have HE:Hid (giveE ps who n=1):=by show _=_;unfold giveE;rw[hb];rfl
  have HF:Hid (giveP ps who n=ps):=by show _=_;unfold giveP;rw[HE.out];rfl
  rw[HE.out,HF.out]
  clear h ho hb HE HF
  simp only[show errV (rangeE true)=.iface 91 (.int .i64 1) from rfl] at HG
  go_enter Tryz.func53,Tryz.ntmps53
  go_wp2_with fail
  refine HG.out.mono ?_
  rintro e w1⟨rfl,hb1⟩
  have HB1:=hidU hb1
  clear hb1
  go_wp2_with fail
  go_ret
  exact⟨rfl,HP.out.below HB1.out,grB HB1.out _⟩
 | false=>
  rw[hb] at HG
  simp only[show errV (rangeE false)=.nilIface from rfl] at HG
  obtain⟨b1,b2,b3,b4⟩:=zBp hb
  obtain⟨k,hw,hk,hix⟩:=ix_of b1 b2
  have z:=ho.all k hk
  have HOF:Hid (∀W,Calls Tryz.prog 57 #[.pointer (some ⟨P,0,none⟩),.int .i64 who] W fun e w'=>e=.returned (.pointer (some ⟨P,k*5,none⟩))∧w'=W):=fun W=>of_at P k who W hw hk
  have HX:Hid (∀W,Pu 110 9 W P ps→W.cell? ⟨P,k*5+3,none⟩=some (.int .i64 (ps[k]!).stock)∧W.frozen? ⟨P,k*5+3,none⟩=false):=fun W hW=>⟨hW.cell k hk 3 _ rfl,hW.froz _⟩
  have HE:Hid (giveE ps who n=if 1000000000<(ps[k]!).stock+n then 4 else 0):=by show _=_;unfold giveE;rw[hb,hix];rfl
  have HN:Hid (∀W,Pu 110 9 W P ps→¬1000000000<(ps[k]!).stock+n→Pu 110 9 (W.setCell ⟨P,k*5+3,none⟩ (.int .i64 ((ps[k]!).stock+n))) P (giveP ps who n)):=fun W hW hf=>by
   unfold giveP
   rw[HE.out,if_neg hf,if_pos rfl,hix]
   exact hW.put k 3 _ _ hk (by omega) rfl
  have HF:Hid (1000000000<(ps[k]!).stock+n→giveP ps who n=ps):=fun hf=>by unfold giveP;rw[HE.out,if_pos hf,if_neg (by decide)]
  have hwr:wrap64 ((ps[k]!).stock+n)=(ps[k]!).stock+n:=wrapP _ (by have:=z.h0;have:=z.hc;have:=z.t0;have:=z.ts;omega) (by have:=z.cm;have:=z.sm;omega)
  generalize (ps[k]!).stock=x at *
  clear h ho hb z hw hk hix b1 b2 b3 b4
  by_cases hf:1000000000<x+n
  ·have HPF:Hid (∀W,Pu 110 9 W P ps→Calls Tryz.prog 84 #[.pointer (some ⟨P,k*5+3,none⟩),.int .i64 n] W fun e w'=>e=.returned (errV 4)∧w'=W):=fun W hW=>zGF P _ x n W (HX.out W hW).1 hwr hf
   rw[HE.out,if_pos hf,HF.out hf]
   clear hf hwr HE HF HN HX
   go_enter Tryz.func53,Tryz.ntmps53
   go_wp2_with fail
   refine HG.out.mono ?_
   rintro e w1⟨rfl,hb1⟩
   have HB1:=hidU hb1
   clear hb1
   go_wp2_with fail
   refine(HOF.out _).mono ?_
   rintro e w2⟨rfl,rfl⟩
   go_wp2_with fail
   refine(HPF.out _ (HP.out.below HB1.out)).mono ?_
   rintro e w3⟨rfl,rfl⟩
   go_wp2_with fail
   go_ret
   exact⟨rfl,HP.out.below HB1.out,grB HB1.out _⟩
  ·have HPF:Hid (∀W,Pu 110 9 W P ps→Calls Tryz.prog 84 #[.pointer (some ⟨P,k*5+3,none⟩),.int .i64 n] W fun e w'=>e=.returned (errV 0)∧w'=W.setCell ⟨P,k*5+3,none⟩ (.int .i64 (x+n))):=fun W hW=>put_ok P _ x n W (HX.out W hW).1 (HX.out W hW).2 hwr hf
   have HN2:=hidU (fun W hW=>HN.out W hW hf)
   rw[HE.out,if_neg hf]
   clear hf hwr HE HF HN HX
   go_enter Tryz.func53,Tryz.ntmps53
   go_wp2_with fail
   refine HG.out.mono ?_
   rintro e w1⟨rfl,hb1⟩
   have HB1:=hidU hb1
   clear hb1
   go_wp2_with fail
   refine(HOF.out _).mono ?_
   rintro e w2⟨rfl,rfl⟩
   go_wp2_with fail
   refine(HPF.out _ (HP.out.below HB1.out)).mono ?_
   rintro e w3⟨rfl,rfl⟩
   have HL:=hidU (HN2.out _ (HP.out.below HB1.out))
   have HGR:=hidU (grT (grB HB1.out (some P)) (grC w2 P (k*5+3) (.int .i64 (x+n))))
   clear HN2 HPF
   generalize w2.setCell ⟨P,k*5+3,none⟩ (.int .i64 (x+n))=w4 at *
   go_wp2_with fail
   go_ret
   exact⟨rfl,HL.out,HGR.out⟩
theorem set5{w:World}{B:Nat}{y0 y1 y2 y3 y4:Value}{t:TypeId}(h:w.heap[B]?=some (.cells #[y0,y1,y2,y3,y4] t (0,0)))(x0 x1 x2 x3 x4:Value) :
  (((((w.setCell ⟨B,0,none⟩ x0).setCell ⟨B,1,none⟩ x1).setCell ⟨B,2,none⟩ x2).setCell ⟨B,3,none⟩ x3).setCell ⟨B,4,none⟩ x4).heap[B]?=some (.cells #[x0,x1,x2,x3,x4] t (0,0)):=by
 have h0:=heap_setCell_same w B 0 _ _ x0 h
 have h1:=heap_setCell_same _ B 1 _ _ x1 h0
 have h2:=heap_setCell_same _ B 2 _ _ x2 h1
 have h3:=heap_setCell_same _ B 3 _ _ x3 h2
 have h4:=heap_setCell_same _ B 4 _ _ x4 h3
 exact h4
theorem row5{w:World}{B:Nat}{x0 x1 x2 x3 x4:Value}{t:TypeId}(h:w.heap[B]?=some (.cells #[x0,x1,x2,x3,x4] t (0,0))) :
  w.cell? ⟨B,0,none⟩=some x0∧w.cell? ⟨B,1,none⟩=some x1∧w.cell? ⟨B,2,none⟩=some x2∧w.cell? ⟨B,3,none⟩=some x3∧w.cell? ⟨B,4,none⟩=some x4∧∀j,w.frozen? ⟨B,j,none⟩=false:=
 ⟨by simp[World.cell?,h],by simp[World.cell?,h],by simp[World.cell?,h],by simp[World.cell?,h],by simp[World.cell?,h],fun j=>frozen_of_row w _ j _ _ h⟩
theorem gr5(w:World)(B:Nat)(x0 x1 x2 x3 x4:Value):w.grownBy (((((w.setCell ⟨B,0,none⟩ x0).setCell ⟨B,1,none⟩ x1).setCell ⟨B,2,none⟩ x2).setCell ⟨B,3,none⟩ x3).setCell ⟨B,4,none⟩ x4) (some B):=
 grT (grT (grT (grT (grC _ _ _ _) (grC _ _ _ _)) (grC _ _ _ _)) (grC _ _ _ _)) (grC _ _ _ _)
def badW(who:Int):Bool:=[(who,1,9)].any spanB
theorem badW_no{who:Int}(h:badW who=false):1≤who∧who≤9:=by
 simp[badW,spanB] at h
 omega
def getZ(ps:List Pz)(who:Int):Pz:=if badW who=true then zeroP else ps[ix who]!
theorem get_any(P:Nat)(ps:List Pz)(who:Int)(w:World)(h:Pu 110 9 w P ps) :
  Calls Tryz.prog 30 #[.pointer (some ⟨P,0,none⟩),.int .i64 who] w fun e w'=>e=.returned (.tuple #[.agg (pL (getZ ps who)).toArray,errV (rangeE (badW who))])∧Below w.heap.size w w':=by
 have HP:=hidU h
 have HR:Hid ([(who,1,9)].any spanB=badW who):=rfl
 obtain⟨X,hX⟩:∃x,x=w.heap.size:=⟨_,rfl⟩
 have HB0:=hidU ((bzR _ w).alloc (nzR _) (.cells #[.int .i64 0,.int .i64 0,.int .i64 0,.int .i64 0,.int .i64 0] 36))
 have HR0:=hidU (heap_alloc_new w (.cells #[.int .i64 0,.int .i64 0,.int .i64 0,.int .i64 0,.int .i64 0] 36))
 rw[←hX] at HR0
 have HX:Hid (w.heap.size≤X):=Nat.le_of_eq hX.symm
 cases hb:badW who with
 | true=>
  rw[hb] at HR
  have eg:getZ ps who=zeroP:=by unfold getZ;rw[hb];rfl
  rw[eg]
  clear h hb eg
  go_enter Tryz.func30,Tryz.ntmps30
  go_wp2_with fail
  simp only[←hX]
  generalize w.alloc (.cells #[.int .i64 0,.int .i64 0,.int .i64 0,.int .i64 0,.int .i64 0] 36)=w0 at *
  clear hX
  refine(zBh who _).mono ?_
  rintro e w1⟨rfl,hb1⟩
  have HB1:=hidU (HB0.out.trans (hb1.mono HB0.out.size))
  have HR1:=hidU ((hb1.block X (gzE.1 HR0.out).1).trans HR0.out)
  clear hb1
  go_wp2_with fail
  refine(scheck1 true _ _ _ _ _ rfl HR.out).mono ?_
  rintro e w2⟨rfl,hb2⟩
  have HB2:=hidU (HB1.out.trans (hb2.mono HB1.out.size))
  have HR2:=hidU ((hb2.block X (gzE.1 HR1.out).1).trans HR1.out)
  have HS:=hidU (set5 HR2.out (.int .i64 0) (.int .i64 0) (.int .i64 0) (.int .i64 0) (.int .i64 0))
  have HG:=hidU (HB2.out.grown (gr5 w2 X (.int .i64 0) (.int .i64 0) (.int .i64 0) (.int .i64 0) (.int .i64 0)) HB2.out.size (fun k hk=>by cases hk;exact HX.out))
  obtain⟨d0,d1,d2,d3,d4,df⟩:=row5 HR2.out
  clear hb2
  simp only[show errV (rangeE true)=.iface 91 (.int .i64 1) from rfl]
  go_wp2_with fail
  clear d0 d1 d2 d3 d4 df
  generalize (((((w2.setCell ⟨X,0,none⟩ (.int .i64 0)).setCell ⟨X,1,none⟩ (.int .i64 0)).setCell ⟨X,2,none⟩ (.int .i64 0)).setCell ⟨X,3,none⟩ (.int .i64 0)).setCell ⟨X,4,none⟩ (.int .i64 0))=w9 at *
  obtain⟨y0,y1,y2,y3,y4,-⟩:=row5 HS.out
  exact bodyPost_ret (v:=.tuple #[.agg #[.int .i64 0,.int .i64 0,.int .i64 0,.int .i64 0,.int .i64 0],.iface 91 (.int .i64 1)]) (by simp[results,Tryz.results30,go_sem,y0,y1,y2,y3,y4]) rfl ⟨rfl,HG.out⟩
 | false=>
  rw[hb] at HR
  obtain⟨b1,b2⟩:=badW_no hb
  obtain⟨k,hw,hk,hix⟩:=ix_of b1 b2
  have eg:getZ ps who=ps[k]!:=by unfold getZ;rw[hb,hix];rfl
  rw[eg]
  have HOF:Hid (∀W,Calls Tryz.prog 57 #[.pointer (some ⟨P,0,none⟩),.int .i64 who] W fun e w'=>e=.returned (.pointer (some ⟨P,k*5,none⟩))∧w'=W):=fun W=>of_at P k who W hw hk
  have HC:Hid (∀W,Pu 110 9 W P ps→∀f v,(pL ps[k]!)[f]?=some v→W.cell? ⟨P,k*5+f,none⟩=some v):=fun W hW=>hW.cell k hk
  generalize ps[k]! = z at *
  obtain⟨z0,z1,z2,z3,z4⟩:=z
  clear h hb eg hw hk hix b1 b2
  go_enter Tryz.func30,Tryz.ntmps30
  go_wp2_with fail
  simp only[←hX]
  generalize w.alloc (.cells #[.int .i64 0,.int .i64 0,.int .i64 0,.int .i64 0,.int .i64 0] 36)=w0 at *
  clear hX
  refine(zBh who _).mono ?_
  rintro e w1⟨rfl,hb1⟩
  have HB1:=hidU (HB0.out.trans (hb1.mono HB0.out.size))
  have HR1:=hidU ((hb1.block X (gzE.1 HR0.out).1).trans HR0.out)
  clear hb1
  go_wp2_with fail
  refine(scheck1 false _ _ _ _ _ rfl HR.out).mono ?_
  rintro e w2⟨rfl,hb2⟩
  have HB2:=hidU (HB1.out.trans (hb2.mono HB1.out.size))
  have HR2:=hidU ((hb2.block X (gzE.1 HR1.out).1).trans HR1.out)
  clear hb2
  simp only[show errV (rangeE false)=.nilIface from rfl]
  go_wp2_with fail
  refine(HOF.out _).mono ?_
  rintro e w3⟨rfl,rfl⟩
  have HS:=hidU (set5 HR2.out (.int .i64 z0) (.int .i64 z1) (.int .i64 z2) (.int .i64 z3) (.int .i64 z4))
  have HG:=hidU (HB2.out.grown (gr5 w3 X (.int .i64 z0) (.int .i64 z1) (.int .i64 z2) (.int .i64 z3) (.int .i64 z4)) HB2.out.size (fun k hk=>by cases hk;exact HX.out))
  obtain⟨d0,d1,d2,d3,d4,df⟩:=row5 HR2.out
  have hc:=HC.out w3 (HP.out.below HB2.out)
  have c0:=hc 0 _ rfl
  have c1:=hc 1 _ rfl
  have c2:=hc 2 _ rfl
  have c3:=hc 3 _ rfl
  have c4:=hc 4 _ rfl
  simp only[Nat.add_zero] at c0
  clear hc
  go_wp2_with fail
  clear d0 d1 d2 d3 d4 df c0 c1 c2 c3 c4
  generalize (((((w3.setCell ⟨X,0,none⟩ (.int .i64 z0)).setCell ⟨X,1,none⟩ (.int .i64 z1)).setCell ⟨X,2,none⟩ (.int .i64 z2)).setCell ⟨X,3,none⟩ (.int .i64 z3)).setCell ⟨X,4,none⟩ (.int .i64 z4))=w9 at *
  obtain⟨y0,y1,y2,y3,y4,-⟩:=row5 HS.out
  exact bodyPost_ret (v:=.tuple #[.agg #[.int .i64 z0,.int .i64 z1,.int .i64 z2,.int .i64 z3,.int .i64 z4],.nilIface]) (by simp[results,Tryz.results30,go_sem,y0,y1,y2,y3,y4]) rfl ⟨rfl,HG.out⟩
def newL(k:Nat):List Pz:=(List.range 9).map fun i=>⟨if i<k then (i:Int)+1 else 0,0,0,0,0⟩
theorem zBe(k:Nat):(newL k).length=9:=by unfold newL;simp
theorem zCf(k i:Nat)(h:i<9):(newL k)[i]! = ⟨if i<k then (i:Int)+1 else 0,0,0,0,0⟩:=by
 rw[getP _ i (by rw[zBe];exact h)]
 unfold newL
 rw[List.getElem_map,List.getElem_range]
theorem zKf(k:Nat)(h:k<9):(newL k).set k ⟨(k:Int)+1,0,0,0,0⟩=newL (k+1):=by
 refine ext9 (n:=9) (by rw[List.length_set,zBe]) (zBe _) (fun i hi=>?_)
 rw[zCf _ i hi,getP _ i (by rw[List.length_set,zBe];exact hi)]
 by_cases e:i=k
 ·subst e
  rw[List.getElem_set_self,if_pos (by omega)]
 ·rw[List.getElem_set_ne (fun x=>e x.symm),←getP _ i (by rw[zBe];exact hi),zCf k i hi]
  by_cases h1:i<k
  ·rw[if_pos h1,if_pos (by omega)]
  ·rw[if_neg h1,if_neg (by omega)]
theorem newL_ok:Ok (newL 9):=by
 refine⟨zBe 9,fun i hi=>?_⟩
 rw[zCf 9 i hi,if_pos hi]
 exact⟨rfl,Int.le_refl 0,Int.le_refl 0,(by show (0:Int)≤1000000000;decide),Int.le_refl 0,Int.le_refl 0,(by show (0:Int)≤1000000000;decide)⟩
theorem succP(i:Nat)(h:i≤5000):wrap64 ((i:Int)+1)=((i+1:Nat):Int):=by unfold wrap64;omega
theorem zero45:(flatP (newL 0)).toArray=#[.int .i64 0,.int .i64 0,.int .i64 0,.int .i64 0,.int .i64 0,.int .i64 0,.int .i64 0,.int .i64 0,.int .i64 0,.int .i64 0,.int .i64 0,.int .i64 0,.int .i64 0,.int .i64 0,.int .i64 0,.int .i64 0,.int .i64 0,.int .i64 0,.int .i64 0,.int .i64 0,.int .i64 0,.int .i64 0,.int .i64 0,.int .i64 0,.int .i64 0,.int .i64 0,.int .i64 0,.int .i64 0,.int .i64 0,.int .i64 0,.int .i64 0,.int .i64 0,.int .i64 0,.int .i64 0,.int .i64 0,.int .i64 0,.int .i64 0,.int .i64 0,.int .i64 0,.int .i64 0,.int .i64 0,.int .i64 0,.int .i64 0,.int .i64 0,.int .i64 0]:=rfl
theorem new_any(w:World) :
  Calls Tryz.prog 26 #[] w fun e w'=>e=.returned (.pointer (some ⟨w.heap.size,0,none⟩))∧Pu 110 9 w' w.heap.size (newL 9)∧Below w.heap.size w w':=by
 have HB0:=hidU ((bzR _ w).alloc (nzR _) (.cells #[.int .i64 0,.int .i64 0,.int .i64 0,.int .i64 0,.int .i64 0,.int .i64 0,.int .i64 0,.int .i64 0,.int .i64 0,.int .i64 0,.int .i64 0,.int .i64 0,.int .i64 0,.int .i64 0,.int .i64 0,.int .i64 0,.int .i64 0,.int .i64 0,.int .i64 0,.int .i64 0,.int .i64 0,.int .i64 0,.int .i64 0,.int .i64 0,.int .i64 0,.int .i64 0,.int .i64 0,.int .i64 0,.int .i64 0,.int .i64 0,.int .i64 0,.int .i64 0,.int .i64 0,.int .i64 0,.int .i64 0,.int .i64 0,.int .i64 0,.int .i64 0,.int .i64 0,.int .i64 0,.int .i64 0,.int .i64 0,.int .i64 0,.int .i64 0,.int .i64 0] 110))
 have HP0:Hid (Pu 110 9 (w.alloc (.cells #[.int .i64 0,.int .i64 0,.int .i64 0,.int .i64 0,.int .i64 0,.int .i64 0,.int .i64 0,.int .i64 0,.int .i64 0,.int .i64 0,.int .i64 0,.int .i64 0,.int .i64 0,.int .i64 0,.int .i64 0,.int .i64 0,.int .i64 0,.int .i64 0,.int .i64 0,.int .i64 0,.int .i64 0,.int .i64 0,.int .i64 0,.int .i64 0,.int .i64 0,.int .i64 0,.int .i64 0,.int .i64 0,.int .i64 0,.int .i64 0,.int .i64 0,.int .i64 0,.int .i64 0,.int .i64 0,.int .i64 0,.int .i64 0,.int .i64 0,.int .i64 0,.int .i64 0,.int .i64 0,.int .i64 0,.int .i64 0,.int .i64 0,.int .i64 0,.int .i64 0] 110)) w.heap.size (newL 0)):=⟨zBe 0,by rw[zero45];exact heap_alloc_new w _⟩
 obtain⟨P,hP⟩:∃P,P=w.heap.size:=⟨_,rfl⟩
 have HP:Hid (w.heap.size≤P):=Nat.le_of_eq hP.symm
 rw[←hP] at HP0
 go_enter Tryz.func26,Tryz.ntmps26
 go_wp2_with fail
 simp only[←hP]
 generalize w.alloc (.cells #[.int .i64 0,.int .i64 0,.int .i64 0,.int .i64 0,.int .i64 0,.int .i64 0,.int .i64 0,.int .i64 0,.int .i64 0,.int .i64 0,.int .i64 0,.int .i64 0,.int .i64 0,.int .i64 0,.int .i64 0,.int .i64 0,.int .i64 0,.int .i64 0,.int .i64 0,.int .i64 0,.int .i64 0,.int .i64 0,.int .i64 0,.int .i64 0,.int .i64 0,.int .i64 0,.int .i64 0,.int .i64 0,.int .i64 0,.int .i64 0,.int .i64 0,.int .i64 0,.int .i64 0,.int .i64 0,.int .i64 0,.int .i64 0,.int .i64 0,.int .i64 0,.int .i64 0,.int .i64 0,.int .i64 0,.int .i64 0,.int .i64 0,.int .i64 0,.int .i64 0] 110)=w0 at *
 have HQ:Hid (w.heap.size=P):=hP.symm
 clear hP
 go_loopg [2,5] 9 (fun gg _ s5 wr=>∃kk:Nat,kk≤9∧9 - kk≤gg∧s5=.int .i64 kk∧Aside (Pu 110 9 wr P (newL kk)∧Below w.heap.size w wr))
 case atStart=>exact⟨0,Nat.zero_le _,by omega,rfl,HP0.out,HB0.out⟩
 case round=>
  obtain⟨kk,hkk,hg,rfl,HA⟩:=hrel
  by_cases hlt:kk<9
  ·have hltz:(kk:Int)<9:=by omega
   have h0:(0:Int)≤(kk:Int):=by omega
   have hc:=HA.out.1.cell kk hlt 0 _ rfl
   have hf:=HA.out.1.froz (kk*5)
   simp only[Nat.add_zero] at hc
   generalize ((newL kk)[kk]!).who=x at hc
   have HN:Hid (Pu 110 9 (wr.setCell ⟨P,kk*5,none⟩ (.int .i64 ((kk:Int)+1))) P (newL (kk+1))):=by
    have:=HA.out.1.put kk 0 (.int .i64 ((kk:Int)+1)) ⟨(kk:Int)+1,0,0,0,0⟩ hlt (by omega) (by rw[zCf kk kk hlt];rfl)
    rw[zKf kk hlt] at this
    exact this
   have HBN:=hidU (belG HA.out.2 (grC wr P (kk*5) (.int .i64 ((kk:Int)+1))) HA.out.2.size HP.out)
   have HM:Hid (kk<9∧9 - kk≤gk):=⟨hlt,hg⟩
   have es:=succP kk (by omega)
   have es2:wrap64 ((kk:Int)+1)=(kk:Int)+1:=wrapP _ (by clear es;omega) (by clear es;omega)
   clear HA hkk hg hlt es
   go_wp2_with fail
   go_roundg (9 - (kk+1))
   case measure=>have:=HM.out;clear es2;omega
   case rel=>exact⟨kk+1,HM.out.1,nzR _,by first|rfl|exact congrArg (Value.int .i64) es2,HN.out,HBN.out⟩
  ·obtain rfl:kk=9:=by omega
   have hltz:¬((9:Nat):Int)<9:=by omega
   have HA1:=hidU HA.out
   clear HA hkk hg hlt
   go_wp2_with fail
   go_ret
   have hq:=HQ.out
   subst hq
   exact⟨rfl,HA1.out.1,HA1.out.2⟩
end pur
namespace mrg
open Go.RowKit mee
def Lies(w:World)(b o:Nat)(zs:List T):Prop:=∀j,j<zs.length→∀i v,(tV zs[j]!)[i]?=some v→w.cell? ⟨b,o+j*6+i,none⟩=some v
def TL(w:World)(v:Value)(zs:List T):Prop:=
 (v=.slice none 0 0∧zs=[])∨∃b o c,v=.slice (some ⟨b,o,none⟩) zs.length c∧zs.length≤c∧c≤9223372036854775807∧b<w.heap.size∧Lies w b o zs
theorem Lies.below{w w' : World}{b o:Nat}{zs:List T}(h:Lies w b o zs)(hb:b<w.heap.size)(hB:Below w.heap.size w w'):Lies w' b o zs:=
 fun j hj i v hv=>(hB.cell (p:=⟨b,o+j*6+i,none⟩) hb).trans (h j hj i v hv)
theorem TL.below{w w' : World}{v:Value}{zs:List T}(h:TL w v zs)(hB:Below w.heap.size w w'):TL w' v zs:=by
 rcases h with h|⟨b,o,c,h1,h2,h3,h4,h5⟩
 ·exact .inl h
 ·exact .inr ⟨b,o,c,h1,h2,h3,Nat.lt_of_lt_of_le h4 hB.size,h5.below h4 hB⟩
theorem getE{α:Type}[Inhabited α](l:List α)(j:Nat)(h:j<l.length):l[j]! = l[j]:=by simp[h]
theorem TL.form{w:World}{v:Value}{zs:List T}(h:TL w v zs):∃q c,v=.slice q zs.length c∧zs.length≤9223372036854775807:=by
 rcases h with ⟨h1,h2⟩|⟨b,o,c,h1,h2,h3,h4,h5⟩
 ·subst h2;exact⟨none,0,h1,by simp⟩
 ·exact⟨some ⟨b,o,none⟩,c,h1,by omega⟩
theorem TL.at{w:World}{q:Option Addr}{n c:Nat}{zs:List T}(h:TL w (.slice q n c) zs){k:Nat}(hk:k<zs.length):∃g off,q=some ⟨g,off,none⟩∧g<w.heap.size∧∀i v,(tV zs[k]!)[i]?=some v→w.cell? ⟨g,off+k*6+i,none⟩=some v:=by
 rcases h with ⟨h1,h2⟩|⟨b,o,c,h1,h2,h3,h4,h5⟩
 ·subst h2;simp at hk
 ·cases h1
  exact⟨b,o,rfl,h4,h5 k hk⟩
end mrg
end Go.Proofs.YtifjhlgjgnnnpaaGreat
