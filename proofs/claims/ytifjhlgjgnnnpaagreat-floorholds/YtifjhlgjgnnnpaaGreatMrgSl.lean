import Derived.Test.YtifjhlgjgnnnpaaGreatPurHold
import Derived.Deep.QuietTactic
import Derived.Test.YtifjhlgjgnnnpaaGreatQueChk
set_option maxHeartbeats 2000000
set_option maxRecDepth 100000
namespace Go.Proofs.YtifjhlgjgnnnpaaGreat
namespace pur
open Go.RowKit spn
theorem zQh(P:Nat)(ps:List Pz)(who n:Int)(w:World)(h:Pu 110 9 w P ps)(ho:Ok ps) :
  Calls Tryz.prog 52 #[.pointer (some ⟨P,0,none⟩),.int .i64 who,.int .i64 n] w fun e w'=>e=.returned (errV (payE ps who n))∧Pu 110 9 w' P (payP ps who n)∧w.grownBy w' (some P):=by
 have HG:=hidU (zGq who n w)
 have HP:=hidU h
 cases hb:badG who n with
 | true=>
  rw[hb] at HG
  have HE:Hid (payE ps who n=1):=by show _=_;unfold payE;rw[hb];rfl
  have HF:Hid (payP ps who n=ps):=by show _=_;unfold payP;rw[HE.out];rfl
  rw[HE.out,HF.out]
  clear h ho hb HE HF
  simp only[show errV (zAk true)=.iface 91 (.int .i64 1) from rfl] at HG
  go_enter Tryz.func52,Tryz.ntmps52
  go_wp2_with fail
  refine HG.out.mono ?_
  rintro e w1⟨rfl,hb1⟩
  have HB1:=hidU hb1
  clear hb1
  go_wp2_with fail
  go_ret
  exact⟨rfl,HP.out.below HB1.out,grB HB1.out _⟩
 | false=>
  rw[hb] at HG
  simp only[show errV (zAk false)=.nilIface from rfl] at HG
  obtain⟨b1,b2,b3,b4⟩:=zCB hb
  obtain⟨k,hw,hk,hix⟩:=ix_of b1 b2
  have z:=ho.all k hk
  have HOF:Hid (∀W,Calls Tryz.prog 57 #[.pointer (some ⟨P,0,none⟩),.int .i64 who] W fun e w'=>e=.returned (.pointer (some ⟨P,k*5,none⟩))∧w'=W):=fun W=>of_at P k who W hw hk
  have HX:Hid (∀W,Pu 110 9 W P ps→W.cell? ⟨P,k*5+1,none⟩=some (.int .i64 (ps[k]!).cash)∧W.frozen? ⟨P,k*5+1,none⟩=false):=fun W hW=>⟨hW.cell k hk 1 _ rfl,hW.froz _⟩
  have HE:Hid (payE ps who n=if 1000000000<(ps[k]!).cash+n then 4 else 0):=by show _=_;unfold payE;rw[hb,hix];rfl
  have HN:Hid (∀W,Pu 110 9 W P ps→¬1000000000<(ps[k]!).cash+n→Pu 110 9 (W.setCell ⟨P,k*5+1,none⟩ (.int .i64 ((ps[k]!).cash+n))) P (payP ps who n)):=fun W hW hf=>by
   unfold payP
   rw[HE.out,if_neg hf,if_pos rfl,hix]
   exact hW.put k 1 _ _ hk (by omega) rfl
  have HF:Hid (1000000000<(ps[k]!).cash+n→payP ps who n=ps):=fun hf=>by unfold payP;rw[HE.out,if_pos hf,if_neg (by decide)]
  have hwr:wrap64 ((ps[k]!).cash+n)=(ps[k]!).cash+n:=zAM _ (by have:=z.h0;have:=z.hc;have:=z.t0;have:=z.ts;omega) (by have:=z.cm;have:=z.sm;omega)
  generalize (ps[k]!).cash=x at *
  clear h ho hb z hw hk hix b1 b2 b3 b4
  by_cases hf:1000000000<x+n
  ·have HPF:Hid (∀W,Pu 110 9 W P ps→Calls Tryz.prog 84 #[.pointer (some ⟨P,k*5+1,none⟩),.int .i64 n] W fun e w'=>e=.returned (errV 4)∧w'=W):=fun W hW=>zIb P _ x n W (HX.out W hW).1 hwr hf
   rw[HE.out,if_pos hf,HF.out hf]
   clear hf hwr HE HF HN HX
   go_enter Tryz.func52,Tryz.ntmps52
   go_wp2_with fail
   refine HG.out.mono ?_
   rintro e w1⟨rfl,hb1⟩
   have HB1:=hidU hb1
   clear hb1
   go_wp2_with fail
   refine(HOF.out _).mono ?_
   rintro e w2⟨rfl,rfl⟩
   go_wp2_with fail
   refine(HPF.out _ (HP.out.below HB1.out)).mono ?_
   rintro e w3⟨rfl,rfl⟩
   go_wp2_with fail
   go_ret
   exact⟨rfl,HP.out.below HB1.out,grB HB1.out _⟩
  ·have HPF:Hid (∀W,Pu 110 9 W P ps→Calls Tryz.prog 84 #[.pointer (some ⟨P,k*5+1,none⟩),.int .i64 n] W fun e w'=>e=.returned (errV 0)∧w'=W.setCell ⟨P,k*5+1,none⟩ (.int .i64 (x+n))):=fun W hW=>put_ok P _ x n W (HX.out W hW).1 (HX.out W hW).2 hwr hf
   have HN2:=hidU (fun W hW=>HN.out W hW hf)
   rw[HE.out,if_neg hf]
   clear hf hwr HE HF HN HX
   go_enter Tryz.func52,Tryz.ntmps52
   go_wp2_with fail
   refine HG.out.mono ?_
   rintro e w1⟨rfl,hb1⟩
   have HB1:=hidU hb1
   clear hb1
   go_wp2_with fail
   refine(HOF.out _).mono ?_
   rintro e w2⟨rfl,rfl⟩
   go_wp2_with fail
   refine(HPF.out _ (HP.out.below HB1.out)).mono ?_
   rintro e w3⟨rfl,rfl⟩
   have HL:=hidU (HN2.out _ (HP.out.below HB1.out))
   have HGR:=hidU (grT (grB HB1.out (some P)) (grC w2 P (k*5+1) (.int .i64 (x+n))))
   clear HN2 HPF
   generalize w2.setCell ⟨P,k*5+1,none⟩ (.int .i64 (x+n))=w4 at *
   go_wp2_with fail
   go_ret
   exact⟨rfl,HL.out,HGR.out⟩
theorem zOi(P:Nat)(ps:List Pz)(who n:Int)(w:World)(h:Pu 110 9 w P ps)(ho:Ok ps) :
  Calls Tryz.prog 53 #[.pointer (some ⟨P,0,none⟩),.int .i64 who,.int .i64 n] w fun e w'=>e=.returned (errV (zCC ps who n))∧Pu 110 9 w' P (zCk ps who n)∧w.grownBy w' (some P):=by
 have HG:=hidU (zGq who n w)
 have HP:=hidU h
 cases hb:badG who n with
 | true=>
  rw[hb] at HG
  have HE:Hid (zCC ps who n=1):=by show _=_;unfold zCC;rw[hb];rfl
  have HF:Hid (zCk ps who n=ps):=by show _=_;unfold zCk;rw[HE.out];rfl
  rw[HE.out,HF.out]
  clear h ho hb HE HF
  simp only[show errV (zAk true)=.iface 91 (.int .i64 1) from rfl] at HG
  go_enter Tryz.func53,Tryz.ntmps53
  go_wp2_with fail
  refine HG.out.mono ?_
  rintro e w1⟨rfl,hb1⟩
  have HB1:=hidU hb1
  clear hb1
  go_wp2_with fail
  go_ret
  exact⟨rfl,HP.out.below HB1.out,grB HB1.out _⟩
 | false=>
  rw[hb] at HG
  simp only[show errV (zAk false)=.nilIface from rfl] at HG
  obtain⟨b1,b2,b3,b4⟩:=zCB hb
  obtain⟨k,hw,hk,hix⟩:=ix_of b1 b2
  have z:=ho.all k hk
  have HOF:Hid (∀W,Calls Tryz.prog 57 #[.pointer (some ⟨P,0,none⟩),.int .i64 who] W fun e w'=>e=.returned (.pointer (some ⟨P,k*5,none⟩))∧w'=W):=fun W=>of_at P k who W hw hk
  have HX:Hid (∀W,Pu 110 9 W P ps→W.cell? ⟨P,k*5+3,none⟩=some (.int .i64 (ps[k]!).stock)∧W.frozen? ⟨P,k*5+3,none⟩=false):=fun W hW=>⟨hW.cell k hk 3 _ rfl,hW.froz _⟩
  have HE:Hid (zCC ps who n=if 1000000000<(ps[k]!).stock+n then 4 else 0):=by show _=_;unfold zCC;rw[hb,hix];rfl
  have HN:Hid (∀W,Pu 110 9 W P ps→¬1000000000<(ps[k]!).stock+n→Pu 110 9 (W.setCell ⟨P,k*5+3,none⟩ (.int .i64 ((ps[k]!).stock+n))) P (zCk ps who n)):=fun W hW hf=>by
   unfold zCk
   rw[HE.out,if_neg hf,if_pos rfl,hix]
   exact hW.put k 3 _ _ hk (by omega) rfl
  have HF:Hid (1000000000<(ps[k]!).stock+n→zCk ps who n=ps):=fun hf=>by unfold zCk;rw[HE.out,if_pos hf,if_neg (by decide)]
  have hwr:wrap64 ((ps[k]!).stock+n)=(ps[k]!).stock+n:=zAM _ (by have:=z.h0;have:=z.hc;have:=z.t0;have:=z.ts;omega) (by have:=z.cm;have:=z.sm;omega)
  generalize (ps[k]!).stock=x at *
  clear h ho hb z hw hk hix b1 b2 b3 b4
  by_cases hf:1000000000<x+n
  ·have HPF:Hid (∀W,Pu 110 9 W P ps→Calls Tryz.prog 84 #[.pointer (some ⟨P,k*5+3,none⟩),.int .i64 n] W fun e w'=>e=.returned (errV 4)∧w'=W):=fun W hW=>zIb P _ x n W (HX.out W hW).1 hwr hf
   rw[HE.out,if_pos hf,HF.out hf]
   clear hf hwr HE HF HN HX
   go_enter Tryz.func53,Tryz.ntmps53
   go_wp2_with fail
   refine HG.out.mono ?_
   rintro e w1⟨rfl,hb1⟩
   have HB1:=hidU hb1
   clear hb1
   go_wp2_with fail
   refine(HOF.out _).mono ?_
   rintro e w2⟨rfl,rfl⟩
   go_wp2_with fail
   refine(HPF.out _ (HP.out.below HB1.out)).mono ?_
   rintro e w3⟨rfl,rfl⟩
   go_wp2_with fail
   go_ret
   exact⟨rfl,HP.out.below HB1.out,grB HB1.out _⟩
  ·have HPF:Hid (∀W,Pu 110 9 W P ps→Calls Tryz.prog 84 #[.pointer (some ⟨P,k*5+3,none⟩),.int .i64 n] W fun e w'=>e=.returned (errV 0)∧w'=W.setCell ⟨P,k*5+3,none⟩ (.int .i64 (x+n))):=fun W hW=>put_ok P _ x n W (HX.out W hW).1 (HX.out W hW).2 hwr hf
   have HN2:=hidU (fun W hW=>HN.out W hW hf)
   rw[HE.out,if_neg hf]
   clear hf hwr HE HF HN HX
   go_enter Tryz.func53,Tryz.ntmps53
   go_wp2_with fail
   refine HG.out.mono ?_
   rintro e w1⟨rfl,hb1⟩
   have HB1:=hidU hb1
   clear hb1
   go_wp2_with fail
   refine(HOF.out _).mono ?_
   rintro e w2⟨rfl,rfl⟩
   go_wp2_with fail
   refine(HPF.out _ (HP.out.below HB1.out)).mono ?_
   rintro e w3⟨rfl,rfl⟩
   have HL:=hidU (HN2.out _ (HP.out.below HB1.out))
   have HGR:=hidU (grT (grB HB1.out (some P)) (grC w2 P (k*5+3) (.int .i64 (x+n))))
   clear HN2 HPF
   generalize w2.setCell ⟨P,k*5+3,none⟩ (.int .i64 (x+n))=w4 at *
   go_wp2_with fail
   go_ret
   exact⟨rfl,HL.out,HGR.out⟩
theorem set5{w:World}{B:Nat}{y0 y1 y2 y3 y4:Value}{t:TypeId}(h:w.heap[B]?=some (.cells #[y0,y1,y2,y3,y4] t (0,0)))(x0 x1 x2 x3 x4:Value) :
  (((((w.setCell ⟨B,0,none⟩ x0).setCell ⟨B,1,none⟩ x1).setCell ⟨B,2,none⟩ x2).setCell ⟨B,3,none⟩ x3).setCell ⟨B,4,none⟩ x4).heap[B]?=some (.cells #[x0,x1,x2,x3,x4] t (0,0)):=by
 have h0:=jB w B 0 _ _ x0 h
 have h1:=jB _ B 1 _ _ x1 h0
 have h2:=jB _ B 2 _ _ x2 h1
 have h3:=jB _ B 3 _ _ x3 h2
 have h4:=jB _ B 4 _ _ x4 h3
 exact h4
theorem row5{w:World}{B:Nat}{x0 x1 x2 x3 x4:Value}{t:TypeId}(h:w.heap[B]?=some (.cells #[x0,x1,x2,x3,x4] t (0,0))) :
  w.cell? ⟨B,0,none⟩=some x0∧w.cell? ⟨B,1,none⟩=some x1∧w.cell? ⟨B,2,none⟩=some x2∧w.cell? ⟨B,3,none⟩=some x3∧w.cell? ⟨B,4,none⟩=some x4∧∀j,w.frozen? ⟨B,j,none⟩=false:=
 ⟨by simp[World.cell?,h],by simp[World.cell?,h],by simp[World.cell?,h],by simp[World.cell?,h],by simp[World.cell?,h],fun j=>frozen_of_row w _ j _ _ h⟩
theorem gr5(w:World)(B:Nat)(x0 x1 x2 x3 x4:Value):w.grownBy (((((w.setCell ⟨B,0,none⟩ x0).setCell ⟨B,1,none⟩ x1).setCell ⟨B,2,none⟩ x2).setCell ⟨B,3,none⟩ x3).setCell ⟨B,4,none⟩ x4) (some B):=
 grT (grT (grT (grT (grC _ _ _ _) (grC _ _ _ _)) (grC _ _ _ _)) (grC _ _ _ _)) (grC _ _ _ _)
def badW(who:Int):Bool:=[(who,1,9)].any zAo
theorem zQi{who:Int}(h:badW who=false):1≤who∧who≤9:=by
 simp[badW,zAo] at h
 omega
def getZ(ps:List Pz)(who:Int):Pz:=if badW who=true then zQe else ps[ix who]!
theorem zQj(P:Nat)(ps:List Pz)(who:Int)(w:World)(h:Pu 110 9 w P ps) :
  Calls Tryz.prog 30 #[.pointer (some ⟨P,0,none⟩),.int .i64 who] w fun e w'=>e=.returned (.tuple #[.agg (pL (getZ ps who)).toArray,errV (zAk (badW who))])∧Below w.heap.size w w':=by
 have HP:=hidU h
 have HR:Hid ([(who,1,9)].any zAo=badW who):=rfl
 obtain⟨X,hX⟩:∃x,x=w.heap.size:=⟨_,rfl⟩
 have HB0:=hidU ((bzR _ w).alloc (nzR _) (.cells #[.int .i64 0,.int .i64 0,.int .i64 0,.int .i64 0,.int .i64 0] 36))
 have HR0:=hidU (jA w (.cells #[.int .i64 0,.int .i64 0,.int .i64 0,.int .i64 0,.int .i64 0] 36))
 rw[←hX] at HR0
 have HX:Hid (w.heap.size≤X):=Nat.le_of_eq hX.symm
 cases hb:badW who with
 | true=>
  rw[hb] at HR
  have eg:getZ ps who=zQe:=by unfold getZ;rw[hb];rfl
  rw[eg]
  clear h hb eg
  go_enter Tryz.func30,Tryz.ntmps30
  go_wp2_with fail
  simp only[←hX]
  generalize w.alloc (.cells #[.int .i64 0,.int .i64 0,.int .i64 0,.int .i64 0,.int .i64 0] 36)=w0 at *
  clear hX
  refine(zCr who _).mono ?_
  rintro e w1⟨rfl,hb1⟩
  have HB1:=hidU (HB0.out.trans (hb1.mono HB0.out.size))
  have HR1:=hidU ((hb1.block X (gzE.1 HR0.out).1).trans HR0.out)
  clear hb1
  go_wp2_with fail
  refine(scheck1 true _ _ _ _ _ rfl HR.out).mono ?_
  rintro e w2⟨rfl,hb2⟩
  have HB2:=hidU (HB1.out.trans (hb2.mono HB1.out.size))
  have HR2:=hidU ((hb2.block X (gzE.1 HR1.out).1).trans HR1.out)
  have HS:=hidU (set5 HR2.out (.int .i64 0) (.int .i64 0) (.int .i64 0) (.int .i64 0) (.int .i64 0))
  have HG:=hidU (HB2.out.grown (gr5 w2 X (.int .i64 0) (.int .i64 0) (.int .i64 0) (.int .i64 0) (.int .i64 0)) HB2.out.size (fun k hk=>by cases hk;exact HX.out))
  obtain⟨d0,d1,d2,d3,d4,df⟩:=row5 HR2.out
  clear hb2
  simp only[show errV (zAk true)=.iface 91 (.int .i64 1) from rfl]
  go_wp2_with fail
  clear d0 d1 d2 d3 d4 df
  generalize (((((w2.setCell ⟨X,0,none⟩ (.int .i64 0)).setCell ⟨X,1,none⟩ (.int .i64 0)).setCell ⟨X,2,none⟩ (.int .i64 0)).setCell ⟨X,3,none⟩ (.int .i64 0)).setCell ⟨X,4,none⟩ (.int .i64 0))=w9 at *
  obtain⟨y0,y1,y2,y3,y4,-⟩:=row5 HS.out
  exact jN (v:=.tuple #[.agg #[.int .i64 0,.int .i64 0,.int .i64 0,.int .i64 0,.int .i64 0],.iface 91 (.int .i64 1)]) (by simp[results,Tryz.results30,go_sem,y0,y1,y2,y3,y4]) rfl ⟨rfl,HG.out⟩
 | false=>
  rw[hb] at HR
  obtain⟨b1,b2⟩:=zQi hb
  obtain⟨k,hw,hk,hix⟩:=ix_of b1 b2
  have eg:getZ ps who=ps[k]!:=by unfold getZ;rw[hb,hix];rfl
  rw[eg]
  have HOF:Hid (∀W,Calls Tryz.prog 57 #[.pointer (some ⟨P,0,none⟩),.int .i64 who] W fun e w'=>e=.returned (.pointer (some ⟨P,k*5,none⟩))∧w'=W):=fun W=>of_at P k who W hw hk
  have HC:Hid (∀W,Pu 110 9 W P ps→∀f v,(pL ps[k]!)[f]?=some v→W.cell? ⟨P,k*5+f,none⟩=some v):=fun W hW=>hW.cell k hk
  generalize ps[k]! = z at *
  obtain⟨z0,z1,z2,z3,z4⟩:=z
  clear h hb eg hw hk hix b1 b2
  go_enter Tryz.func30,Tryz.ntmps30
  go_wp2_with fail
  simp only[←hX]
  generalize w.alloc (.cells #[.int .i64 0,.int .i64 0,.int .i64 0,.int .i64 0,.int .i64 0] 36)=w0 at *
  clear hX
  refine(zCr who _).mono ?_
  rintro e w1⟨rfl,hb1⟩
  have HB1:=hidU (HB0.out.trans (hb1.mono HB0.out.size))
  have HR1:=hidU ((hb1.block X (gzE.1 HR0.out).1).trans HR0.out)
  clear hb1
  go_wp2_with fail
  refine(scheck1 false _ _ _ _ _ rfl HR.out).mono ?_
  rintro e w2⟨rfl,hb2⟩
  have HB2:=hidU (HB1.out.trans (hb2.mono HB1.out.size))
  have HR2:=hidU ((hb2.block X (gzE.1 HR1.out).1).trans HR1.out)
  clear hb2
  simp only[show errV (zAk false)=.nilIface from rfl]
  go_wp2_with fail
  refine(HOF.out _).mono ?_
  rintro e w3⟨rfl,rfl⟩
  have HS:=hidU (set5 HR2.out (.int .i64 z0) (.int .i64 z1) (.int .i64 z2) (.int .i64 z3) (.int .i64 z4))
  have HG:=hidU (HB2.out.grown (gr5 w3 X (.int .i64 z0) (.int .i64 z1) (.int .i64 z2) (.int .i64 z3) (.int .i64 z4)) HB2.out.size (fun k hk=>by cases hk;exact HX.out))
  obtain⟨d0,d1,d2,d3,d4,df⟩:=row5 HR2.out
  have hc:=HC.out w3 (HP.out.below HB2.out)
  have c0:=hc 0 _ rfl
  have c1:=hc 1 _ rfl
  have c2:=hc 2 _ rfl
  have c3:=hc 3 _ rfl
  have c4:=hc 4 _ rfl
  simp only[Nat.add_zero] at c0
  clear hc
  go_wp2_with fail
  clear d0 d1 d2 d3 d4 df c0 c1 c2 c3 c4
  generalize (((((w3.setCell ⟨X,0,none⟩ (.int .i64 z0)).setCell ⟨X,1,none⟩ (.int .i64 z1)).setCell ⟨X,2,none⟩ (.int .i64 z2)).setCell ⟨X,3,none⟩ (.int .i64 z3)).setCell ⟨X,4,none⟩ (.int .i64 z4))=w9 at *
  obtain⟨y0,y1,y2,y3,y4,-⟩:=row5 HS.out
  exact jN (v:=.tuple #[.agg #[.int .i64 z0,.int .i64 z1,.int .i64 z2,.int .i64 z3,.int .i64 z4],.nilIface]) (by simp[results,Tryz.results30,go_sem,y0,y1,y2,y3,y4]) rfl ⟨rfl,HG.out⟩
def newL(k:Nat):List Pz:=(List.range 9).map fun i=>⟨if i<k then (i:Int)+1 else 0,0,0,0,0⟩
theorem zCl(k:Nat):(newL k).length=9:=by unfold newL;simp
theorem zDu(k i:Nat)(h:i<9):(newL k)[i]! = ⟨if i<k then (i:Int)+1 else 0,0,0,0,0⟩:=by
 rw[getP _ i (by rw[zCl];exact h)]
 unfold newL
 rw[List.getElem_map,List.getElem_range]
theorem zLr(k:Nat)(h:k<9):(newL k).set k ⟨(k:Int)+1,0,0,0,0⟩=newL (k+1):=by
 refine ext9 (n:=9) (by rw[List.length_set,zCl]) (zCl _) (fun i hi=>?_)
 rw[zDu _ i hi,getP _ i (by rw[List.length_set,zCl];exact hi)]
 by_cases e:i=k
 ·subst e
  rw[List.getElem_set_self,if_pos (by omega)]
 ·rw[List.getElem_set_ne (fun x=>e x.symm),←getP _ i (by rw[zCl];exact hi),zDu k i hi]
  by_cases h1:i<k
  ·rw[if_pos h1,if_pos (by omega)]
  ·rw[if_neg h1,if_neg (by omega)]
theorem zQk:Ok (newL 9):=by
 refine⟨zCl 9,fun i hi=>?_⟩
 rw[zDu 9 i hi,if_pos hi]
 exact⟨rfl,jY 0,jY 0,(by show (0:Int)≤1000000000;decide),jY 0,jY 0,(by show (0:Int)≤1000000000;decide)⟩
theorem succP(i:Nat)(h:i≤5000):wrap64 ((i:Int)+1)=((i+1:Nat):Int):=by unfold wrap64;omega
theorem zero45:(flatP (newL 0)).toArray=#[.int .i64 0,.int .i64 0,.int .i64 0,.int .i64 0,.int .i64 0,.int .i64 0,.int .i64 0,.int .i64 0,.int .i64 0,.int .i64 0,.int .i64 0,.int .i64 0,.int .i64 0,.int .i64 0,.int .i64 0,.int .i64 0,.int .i64 0,.int .i64 0,.int .i64 0,.int .i64 0,.int .i64 0,.int .i64 0,.int .i64 0,.int .i64 0,.int .i64 0,.int .i64 0,.int .i64 0,.int .i64 0,.int .i64 0,.int .i64 0,.int .i64 0,.int .i64 0,.int .i64 0,.int .i64 0,.int .i64 0,.int .i64 0,.int .i64 0,.int .i64 0,.int .i64 0,.int .i64 0,.int .i64 0,.int .i64 0,.int .i64 0,.int .i64 0,.int .i64 0]:=rfl
theorem new_any(w:World) :
  Calls Tryz.prog 26 #[] w fun e w'=>e=.returned (.pointer (some ⟨w.heap.size,0,none⟩))∧Pu 110 9 w' w.heap.size (newL 9)∧Below w.heap.size w w':=by
 have HB0:=hidU ((bzR _ w).alloc (nzR _) (.cells #[.int .i64 0,.int .i64 0,.int .i64 0,.int .i64 0,.int .i64 0,.int .i64 0,.int .i64 0,.int .i64 0,.int .i64 0,.int .i64 0,.int .i64 0,.int .i64 0,.int .i64 0,.int .i64 0,.int .i64 0,.int .i64 0,.int .i64 0,.int .i64 0,.int .i64 0,.int .i64 0,.int .i64 0,.int .i64 0,.int .i64 0,.int .i64 0,.int .i64 0,.int .i64 0,.int .i64 0,.int .i64 0,.int .i64 0,.int .i64 0,.int .i64 0,.int .i64 0,.int .i64 0,.int .i64 0,.int .i64 0,.int .i64 0,.int .i64 0,.int .i64 0,.int .i64 0,.int .i64 0,.int .i64 0,.int .i64 0,.int .i64 0,.int .i64 0,.int .i64 0] 110))
 have HP0:Hid (Pu 110 9 (w.alloc (.cells #[.int .i64 0,.int .i64 0,.int .i64 0,.int .i64 0,.int .i64 0,.int .i64 0,.int .i64 0,.int .i64 0,.int .i64 0,.int .i64 0,.int .i64 0,.int .i64 0,.int .i64 0,.int .i64 0,.int .i64 0,.int .i64 0,.int .i64 0,.int .i64 0,.int .i64 0,.int .i64 0,.int .i64 0,.int .i64 0,.int .i64 0,.int .i64 0,.int .i64 0,.int .i64 0,.int .i64 0,.int .i64 0,.int .i64 0,.int .i64 0,.int .i64 0,.int .i64 0,.int .i64 0,.int .i64 0,.int .i64 0,.int .i64 0,.int .i64 0,.int .i64 0,.int .i64 0,.int .i64 0,.int .i64 0,.int .i64 0,.int .i64 0,.int .i64 0,.int .i64 0] 110)) w.heap.size (newL 0)):=⟨zCl 0,by rw[zero45];exact jA w _⟩
 obtain⟨P,hP⟩:∃P,P=w.heap.size:=⟨_,rfl⟩
 have HP:Hid (w.heap.size≤P):=Nat.le_of_eq hP.symm
 rw[←hP] at HP0
 go_enter Tryz.func26,Tryz.ntmps26
 go_wp2_with fail
 simp only[←hP]
 generalize w.alloc (.cells #[.int .i64 0,.int .i64 0,.int .i64 0,.int .i64 0,.int .i64 0,.int .i64 0,.int .i64 0,.int .i64 0,.int .i64 0,.int .i64 0,.int .i64 0,.int .i64 0,.int .i64 0,.int .i64 0,.int .i64 0,.int .i64 0,.int .i64 0,.int .i64 0,.int .i64 0,.int .i64 0,.int .i64 0,.int .i64 0,.int .i64 0,.int .i64 0,.int .i64 0,.int .i64 0,.int .i64 0,.int .i64 0,.int .i64 0,.int .i64 0,.int .i64 0,.int .i64 0,.int .i64 0,.int .i64 0,.int .i64 0,.int .i64 0,.int .i64 0,.int .i64 0,.int .i64 0,.int .i64 0,.int .i64 0,.int .i64 0,.int .i64 0,.int .i64 0,.int .i64 0] 110)=w0 at *
 have HQ:Hid (w.heap.size=P):=hP.symm
 clear hP
 go_loopg [2,5] 9 (fun gg _ s5 wr=>∃kk:Nat,kk≤9∧9 - kk≤gg∧s5=.int .i64 kk∧Aside (Pu 110 9 wr P (newL kk)∧Below w.heap.size w wr))
 case atStart=>exact⟨0,jL _,by omega,rfl,HP0.out,HB0.out⟩
 case round=>
  obtain⟨kk,hkk,hg,rfl,HA⟩:=hrel
  by_cases hlt:kk<9
  ·have hltz:(kk:Int)<9:=by omega
   have h0:(0:Int)≤(kk:Int):=by omega
   have hc:=HA.out.1.cell kk hlt 0 _ rfl
   have hf:=HA.out.1.froz (kk*5)
   simp only[Nat.add_zero] at hc
   generalize ((newL kk)[kk]!).who=x at hc
   have HN:Hid (Pu 110 9 (wr.setCell ⟨P,kk*5,none⟩ (.int .i64 ((kk:Int)+1))) P (newL (kk+1))):=by
    have:=HA.out.1.put kk 0 (.int .i64 ((kk:Int)+1)) ⟨(kk:Int)+1,0,0,0,0⟩ hlt (by omega) (by rw[zDu kk kk hlt];rfl)
    rw[zLr kk hlt] at this
    exact this
   have HBN:=hidU (belG HA.out.2 (grC wr P (kk*5) (.int .i64 ((kk:Int)+1))) HA.out.2.size HP.out)
   have HM:Hid (kk<9∧9 - kk≤gk):=⟨hlt,hg⟩
   have es:=succP kk (by omega)
   have es2:wrap64 ((kk:Int)+1)=(kk:Int)+1:=zAM _ (by clear es;omega) (by clear es;omega)
   clear HA hkk hg hlt es
   go_wp2_with fail
   go_roundg (9 - (kk+1))
   case measure=>have:=HM.out;clear es2;omega
   case rel=>exact⟨kk+1,HM.out.1,nzR _,by first|rfl|exact congrArg (Value.int .i64) es2,HN.out,HBN.out⟩
  ·obtain rfl:kk=9:=by omega
   have hltz:¬((9:Nat):Int)<9:=by omega
   have HA1:=hidU HA.out
   clear HA hkk hg hlt
   go_wp2_with fail
   go_ret
   have hq:=HQ.out
   subst hq
   exact⟨rfl,HA1.out.1,HA1.out.2⟩
end pur
namespace mrg
open Go.RowKit mee
def Lies(w:World)(b o:Nat)(zs:List T):Prop:=∀j,j<zs.length→∀i v,(tV zs[j]!)[i]?=some v→w.cell? ⟨b,o+j*6+i,none⟩=some v
def TL(w:World)(v:Value)(zs:List T):Prop:=
 (v=.slice none 0 0∧zs=[])∨∃b o c,v=.slice (some ⟨b,o,none⟩) zs.length c∧zs.length≤c∧c≤9223372036854775807∧b<w.heap.size∧Lies w b o zs
theorem Lies.below{w w' : World}{b o:Nat}{zs:List T}(h:Lies w b o zs)(hb:b<w.heap.size)(hB:Below w.heap.size w w'):Lies w' b o zs:=
 fun j hj i v hv=>(hB.cell (p:=⟨b,o+j*6+i,none⟩) hb).trans (h j hj i v hv)
theorem TL.below{w w' : World}{v:Value}{zs:List T}(h:TL w v zs)(hB:Below w.heap.size w w'):TL w' v zs:=by
 rcases h with h|⟨b,o,c,h1,h2,h3,h4,h5⟩
 ·exact .inl h
 ·exact .inr ⟨b,o,c,h1,h2,h3,jC h4 hB.size,h5.below h4 hB⟩
theorem getE{α:Type}[Inhabited α](l:List α)(j:Nat)(h:j<l.length):l[j]! = l[j]:=by simp[h]
theorem TL.form{w:World}{v:Value}{zs:List T}(h:TL w v zs):∃q c,v=.slice q zs.length c∧zs.length≤9223372036854775807:=by
 rcases h with ⟨h1,h2⟩|⟨b,o,c,h1,h2,h3,h4,h5⟩
 ·subst h2;exact⟨none,0,h1,by simp⟩
 ·exact⟨some ⟨b,o,none⟩,c,h1,by omega⟩
theorem TL.at{w:World}{q:Option Addr}{n c:Nat}{zs:List T}(h:TL w (.slice q n c) zs){k:Nat}(hk:k<zs.length):∃g off,q=some ⟨g,off,none⟩∧g<w.heap.size∧∀i v,(tV zs[k]!)[i]?=some v→w.cell? ⟨g,off+k*6+i,none⟩=some v:=by
 rcases h with ⟨h1,h2⟩|⟨b,o,c,h1,h2,h3,h4,h5⟩
 ·subst h2;simp at hk
 ·cases h1
  exact⟨b,o,rfl,h4,h5 k hk⟩
end mrg
end Go.Proofs.YtifjhlgjgnnnpaaGreat
