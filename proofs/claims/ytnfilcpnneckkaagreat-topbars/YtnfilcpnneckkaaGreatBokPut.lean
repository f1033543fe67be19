import Derived.Test.YtnfilcpnneckkaaGreatBokWith
set_option maxHeartbeats 2000000
set_option maxRecDepth 100000
namespace Go.Proofs.YtnfilcpnneckkaaGreat
open Tryz
namespace bok
open Go.RowKit spn que sid
def put1(bs:List L)(s p:Int)(r:R):List L:=if s=1 then putL s p r bs else bs
def put2(ss:List L)(s p:Int)(r:R):List L:=if s=1 then ss else putL s p r ss
def putE(bs ss:List L)(s p:Int)(r:R):Int:=
 if zAc bs ss=0 then (if addE s (if s=1 then bs else ss) p r=0 then zAc (put1 bs s p r) (put2 ss s p r) else addE s (if s=1 then bs else ss) p r) else zAc bs ss
def PutPostD(bs ss:List L)(s p:Int)(r:R)(w:World)(e:Ending)(w' : World):Prop:=
 ∃q1 q2 n1 n2 c1 c2,e=.returned (.tuple #[.agg #[.slice q1 n1 c1,.slice q2 n2 c2],errV (putE bs ss s p r)])∧DL w' w.heap.size (.slice q1 n1 c1) (if putE bs ss s p r=0 then put1 bs s p r else [])∧DL w' w.heap.size (.slice q2 n2 c2) (if putE bs ss s p r=0 then put2 ss s p r else [])∧Bw w w'
theorem zEp{bs ss:List L}{s p:Int}{r:R}{w W:World}{k:Int}(h:putE bs ss s p r=k)(hk:¬k=0)(hW:Bw w W):PutPostD bs ss s p r w (.returned (.tuple #[.agg #[.slice none 0 0,.slice none 0 0],.iface 90 (.int .i64 k)])) W:=
 ⟨none,none,0,0,0,0,by rw[h,wAb hk],by rw[h,if_neg hk];exact zFb _ _,by rw[h,if_neg hk];exact zFb _ _,hW⟩
theorem zOv(s p:Int)(q1 q2:Option Addr)(n1 n2 c1 c2:Nat)(a b c d e:Int)(bs ss:List L)(w:World)(h1:LS w (.slice q1 n1 c1) bs)(h2:LS w (.slice q2 n2 c2) ss)(h0:¬zAc bs ss=0) :
  Calls prog 51 #[.agg #[.slice q1 n1 c1,.slice q2 n2 c2],.int .i64 s,.int .i64 p,.agg #[.int .i64 a,.int .i64 b,.int .i64 c,.int .i64 d,.int .i64 e]] w fun x w'=>PutPostD bs ss s p ⟨a,b,c,d,e⟩ w x w':=by
 have gN:=fun W(hW:Bw w W)=>wAf q1 q2 n1 n2 c1 c2 bs ss W (h1.below hW) (h2.below hW)
 rw[wAb h0] at gN;have gj:Hid (∀W,Bw w W→PutPostD bs ss s p ⟨a,b,c,d,e⟩ w (.returned (.tuple #[.agg #[.slice none 0 0,.slice none 0 0],.iface 90 (.int .i64 (zAc bs ss))])) W):=fun W hW=>zEp (by unfold putE;rw[if_neg h0]) h0 hW
 obtain⟨V,hV⟩:∃V,V=((w.alloc (.cells #[.slice q1 n1 c1,.slice q2 n2 c2] 57)).alloc (.cells #[.int .i64 a,.int .i64 b,.int .i64 c,.int .i64 d,.int .i64 e] 51)).alloc (.cells #[.slice none 0 0,.slice none 0 0] 57):=⟨_,rfl⟩;have HB:Hid (Bw w V):=by rw[hV];exact(((bzR _ _).alloc (nzR _) _).alloc (by simp) _).alloc (by simp;omega) _
 have v0:V.cell? ⟨w.heap.size,0,none⟩=some (.slice q1 n1 c1):=by rw[hV];simp[go_sem]
 have v1:V.cell? ⟨w.heap.size,1,none⟩=some (.slice q2 n2 c2):=by rw[hV];simp[go_sem]
 have r0:V.cell? ⟨w.heap.size+1,0,none⟩=some (.int .i64 a):=by rw[hV];simp[go_sem]
 have r1:V.cell? ⟨w.heap.size+1,1,none⟩=some (.int .i64 b):=by rw[hV];simp[go_sem]
 have r2:V.cell? ⟨w.heap.size+1,2,none⟩=some (.int .i64 c):=by rw[hV];simp[go_sem]
 have r3:V.cell? ⟨w.heap.size+1,3,none⟩=some (.int .i64 d):=by rw[hV];simp[go_sem]
 have r4:V.cell? ⟨w.heap.size+1,4,none⟩=some (.int .i64 e):=by rw[hV];simp[go_sem]
 have hR:V.heap[w.heap.size+2]?=some (.cells #[.slice none 0 0,.slice none 0 0] 57 (0,0)):=by
  rw[hV];have:=jA ((w.alloc (.cells #[.slice q1 n1 c1,.slice q2 n2 c2] 57)).alloc (.cells #[.int .i64 a,.int .i64 b,.int .i64 c,.int .i64 d,.int .i64 e] 51)) (.cells #[.slice none 0 0,.slice none 0 0] 57);simpa using this
 have gp:w.heap.size+2<V.heap.size:=(gzE.1 hR).1;generalize PutPostD bs ss s p ⟨a,b,c,d,e⟩ w=POST at *;generalize zAc bs ss=k at *;clear h0 h1 h2 r0 r1 r2 r3 r4;go_enter func51,ntmps51;go_wp2_with fail;rw[←hV];refine(gN V HB.out).mono ?_;rintro x w1⟨rfl,b1⟩;have gF:Hid (Bw w w1):=HB.out.trans (b1.mono HB.out.size);have Gx:w1.heap[w.heap.size+2]?=some (.cells #[.slice none 0 0,.slice none 0 0] 57 (0,0)):=by rw[b1.block _ gp];exact hR
 clear b1 gN v0 v1 hR;obtain⟨g0,g1,hf⟩:=zAb Gx;have f0:=hf 0;have f1:=hf 1;have hg:=zAT w1 (w.heap.size+2) (.slice none 0 0) (.slice none 0 0);have Gw:=gj.out _ (gF.out.grown hg gF.out.size (fun k hk=>by cases hk;omega))
 have Hx:Hid (((w1.setCell ⟨w.heap.size+2,0,none⟩ (.slice none 0 0)).setCell ⟨w.heap.size+2,1,none⟩ (.slice none 0 0)).heap[w.heap.size+2]?=some (.cells #[.slice none 0 0,.slice none 0 0] 57 (0,0))):=zAz Gx (.slice none 0 0) (.slice none 0 0);clear hf hg gj Gx;go_wp2_with fail;generalize ((w1.setCell ⟨w.heap.size+2,0,none⟩ (.slice none 0 0)).setCell ⟨w.heap.size+2,1,none⟩ (.slice none 0 0))=X at *;obtain⟨y0,y1,-⟩:=zAb Hx.out;exact jN (v:=.tuple #[.agg #[.slice none 0 0,.slice none 0 0],.iface 90 (.int .i64 k)]) (by simp[results,results51,go_sem,y0,y1]) rfl Gw
theorem zOw(p:Int)(q1 q2:Option Addr)(n1 n2 c1 c2:Nat)(a b c d e:Int)(bs ss:List L)(w:World)(h1:LS w (.slice q1 n1 c1) bs)(h2:LS w (.slice q2 n2 c2) ss) (h0:zAc bs ss=0)(ha:¬addE 1 bs p ⟨a,b,c,d,e⟩=0) :
  Calls prog 51 #[.agg #[.slice q1 n1 c1,.slice q2 n2 c2],.int .i64 1,.int .i64 p,.agg #[.int .i64 a,.int .i64 b,.int .i64 c,.int .i64 d,.int .i64 e]] w fun x w'=>PutPostD bs ss 1 p ⟨a,b,c,d,e⟩ w x w':=by
 have gN:=fun W(hW:Bw w W)=>wAf q1 q2 n1 n2 c1 c2 bs ss W (h1.below hW) (h2.below hW)
 rw[h0,wAa] at gN;have gj:Hid (∀W,Bw w W→PutPostD bs ss 1 p ⟨a,b,c,d,e⟩ w (.returned (.tuple #[.agg #[.slice none 0 0,.slice none 0 0],.iface 90 (.int .i64 (addE 1 bs p ⟨a,b,c,d,e⟩))])) W):=fun W hW=>zEp (by unfold putE;rw[if_pos h0,if_pos rfl,if_neg ha]) ha hW
 obtain⟨AL,uK⟩:∃AL,AL=addL 1 bs p ⟨a,b,c,d,e⟩:=⟨_,rfl⟩;have UV:Hid (∀W,Bw w W→Calls prog 81 #[.int .i64 1,.slice q1 n1 c1,.int .i64 p,.agg #[.int .i64 a,.int .i64 b,.int .i64 c,.int .i64 d,.int .i64 e]] W fun x w'=>Bw W w'∧∃q n cc,x=.returned (.tuple #[.slice q n cc,.iface 90 (.int .i64 (addE 1 bs p ⟨a,b,c,d,e⟩))])∧LS w' (.slice q n cc) AL):=fun W hW=>(zDs 1 _ bs p a b c d e W (h1.below hW)).mono fun x w' h=>by
  obtain⟨g1,v',g2,g3⟩:=h;rw[wAb ha] at g2;obtain⟨q,n,cc,rfl⟩:=g3.form;exact⟨g1,q,n,cc,g2,by rw[uK];exact g3.ls⟩
 obtain⟨V,hV⟩:∃V,V=((w.alloc (.cells #[.slice q1 n1 c1,.slice q2 n2 c2] 57)).alloc (.cells #[.int .i64 a,.int .i64 b,.int .i64 c,.int .i64 d,.int .i64 e] 51)).alloc (.cells #[.slice none 0 0,.slice none 0 0] 57):=⟨_,rfl⟩;have HB:Hid (Bw w V):=by rw[hV];exact(((bzR _ _).alloc (nzR _) _).alloc (by simp) _).alloc (by simp;omega) _
 have v0:V.cell? ⟨w.heap.size,0,none⟩=some (.slice q1 n1 c1):=by rw[hV];simp[go_sem]
 have v1:V.cell? ⟨w.heap.size,1,none⟩=some (.slice q2 n2 c2):=by rw[hV];simp[go_sem]
 have r0:V.cell? ⟨w.heap.size+1,0,none⟩=some (.int .i64 a):=by rw[hV];simp[go_sem]
 have r1:V.cell? ⟨w.heap.size+1,1,none⟩=some (.int .i64 b):=by rw[hV];simp[go_sem]
 have r2:V.cell? ⟨w.heap.size+1,2,none⟩=some (.int .i64 c):=by rw[hV];simp[go_sem]
 have r3:V.cell? ⟨w.heap.size+1,3,none⟩=some (.int .i64 d):=by rw[hV];simp[go_sem]
 have r4:V.cell? ⟨w.heap.size+1,4,none⟩=some (.int .i64 e):=by rw[hV];simp[go_sem]
 have hR:V.heap[w.heap.size+2]?=some (.cells #[.slice none 0 0,.slice none 0 0] 57 (0,0)):=by
  rw[hV];have:=jA ((w.alloc (.cells #[.slice q1 n1 c1,.slice q2 n2 c2] 57)).alloc (.cells #[.int .i64 a,.int .i64 b,.int .i64 c,.int .i64 d,.int .i64 e] 51)) (.cells #[.slice none 0 0,.slice none 0 0] 57);simpa using this
 have gp:w.heap.size+2<V.heap.size:=(gzE.1 hR).1;generalize PutPostD bs ss 1 p ⟨a,b,c,d,e⟩ w=POST at *;generalize addE 1 bs p ⟨a,b,c,d,e⟩=k at *;clear h0 h1 h2 ha uK;go_enter func51,ntmps51;go_wp2_with fail;rw[←hV];refine(gN V HB.out).mono ?_;rintro x w1⟨rfl,b1⟩;have He:Hid (Bw w w1):=HB.out.trans (b1.mono HB.out.size);have gh:w1.heap[w.heap.size+2]?=some (.cells #[.slice none 0 0,.slice none 0 0] 57 (0,0)):=by rw[b1.block _ gp];exact hR
 have x0:=zAa b1 v0;have x1:=zAa b1 v1;have y0:=zAa b1 r0;have y1:=zAa b1 r1;have y2:=zAa b1 r2;have y3:=zAa b1 r3;have y4:=zAa b1 r4;have Hl:w.heap.size+2<w1.heap.size:=jC gp b1.size;have GJ:Hid (∀W,Bw w1 W→Calls prog 82 #[.agg #[.slice q1 n1 c1,.slice q2 n2 c2],.int .i64 1] W fun e w'=>e=.returned (.slice q1 n1 c1)∧Bw w1 w'):=fun W hW=>by
  have:=zAx 1 q1 q2 n1 n2 c1 c2 W;rw[if_pos rfl] at this;exact this.mono fun e w' h=>⟨h.1,hW.trans (h.2.mono hW.size)⟩
 have GM:Hid (∀W,Bw w1 W→Calls prog 81 #[.int .i64 1,.slice q1 n1 c1,.int .i64 p,.agg #[.int .i64 a,.int .i64 b,.int .i64 c,.int .i64 d,.int .i64 e]] W fun x w'=>Bw w1 w'∧∃q n cc,x=.returned (.tuple #[.slice q n cc,.iface 90 (.int .i64 k)])∧LS w' (.slice q n cc) AL):=fun W hW=>(UV.out W (He.out.trans (hW.mono He.out.size))).mono fun x w' h=>⟨hW.trans (h.1.mono hW.size),h.2⟩
 have SO:Hid (∀W,Bw w1 W→(Bw w1 W∧W.cell? ⟨w.heap.size,0,none⟩=some (.slice q1 n1 c1)∧W.cell? ⟨w.heap.size,1,none⟩=some (.slice q2 n2 c2)∧W.cell? ⟨w.heap.size+1,0,none⟩=some (.int .i64 a)∧W.cell? ⟨w.heap.size+1,1,none⟩=some (.int .i64 b)∧W.cell? ⟨w.heap.size+1,2,none⟩=some (.int .i64 c)∧W.cell? ⟨w.heap.size+1,3,none⟩=some (.int .i64 d)∧W.cell? ⟨w.heap.size+1,4,none⟩=some (.int .i64 e))):=fun W hW=>⟨hW,zAa hW x0,zAa hW x1,zAa hW y0,zAa hW y1,zAa hW y2,zAa hW y3,zAa hW y4⟩
 clear b1 gN v0 v1 r0 r1 r2 r3 r4 hR UV;go_upto_region 4 with fail
 go_region_held3 (fun W=>Below w1.heap.size w1 W∧W.cell? ⟨w.heap.size,0,none⟩=some (.slice q1 n1 c1)∧W.cell? ⟨w.heap.size,1,none⟩=some (.slice q2 n2 c2)∧W.cell? ⟨w.heap.size+1,0,none⟩=some (.int .i64 a)∧W.cell? ⟨w.heap.size+1,1,none⟩=some (.int .i64 b)∧W.cell? ⟨w.heap.size+1,2,none⟩=some (.int .i64 c)∧W.cell? ⟨w.heap.size+1,3,none⟩=some (.int .i64 d)∧W.cell? ⟨w.heap.size+1,4,none⟩=some (.int .i64 e))
  ((refine SO.out _ ?_;(with_reducible repeat' (first|assumption|refine bal ?_ _|refine Below.setCell ?_ ?_ _|refine Below.drew ?_|exact bzR _ _|exact nzR _|exact Below.size (by assumption)|refine jD ?_))))
  (first|(go_at_call 82;with_reducible refine(GJ.out _ ?_).mono ?_;(with_reducible repeat' (first|assumption|refine bal ?_ _|refine Below.setCell ?_ ?_ _|refine Below.drew ?_|exact bzR _ _|exact nzR _|exact Below.size (by assumption)|refine jD ?_));rintro x W ⟨rfl,Hm⟩)|(go_at_call 81;with_reducible refine(GM.out _ ?_).mono ?_;(with_reducible repeat' (first|assumption|refine bal ?_ _|refine Below.setCell ?_ ?_ _|refine Below.drew ?_|exact bzR _ _|exact nzR _|exact Below.size (by assumption)|refine jD ?_));rintro x W ⟨Hm,q3,n3,c3,rfl,mN⟩))
 have gF:Hid (Bw w W):=He.out.trans (Hm.mono He.out.size);have Gx:W.heap[w.heap.size+2]?=some (.cells #[.slice none 0 0,.slice none 0 0] 57 (0,0)):=by rw[Hm.block _ Hl];exact gh
 clear Hm mN SO GJ GM x0 x1 y0 y1 y2 y3 y4 gh;obtain⟨g0,g1,hf⟩:=zAb Gx;have f0:=hf 0;have f1:=hf 1;have hg:=zAT W (w.heap.size+2) (.slice none 0 0) (.slice none 0 0);have Gw:=gj.out _ (gF.out.grown hg gF.out.size (fun k hk=>by cases hk;omega))
 have Hx:Hid (((W.setCell ⟨w.heap.size+2,0,none⟩ (.slice none 0 0)).setCell ⟨w.heap.size+2,1,none⟩ (.slice none 0 0)).heap[w.heap.size+2]?=some (.cells #[.slice none 0 0,.slice none 0 0] 57 (0,0))):=zAz Gx (.slice none 0 0) (.slice none 0 0);clear hf hg gj Gx;go_wp2_with fail;generalize ((W.setCell ⟨w.heap.size+2,0,none⟩ (.slice none 0 0)).setCell ⟨w.heap.size+2,1,none⟩ (.slice none 0 0))=X at *;obtain⟨y0,y1,-⟩:=zAb Hx.out;exact jN (v:=.tuple #[.agg #[.slice none 0 0,.slice none 0 0],.iface 90 (.int .i64 k)]) (by simp[results,results51,go_sem,y0,y1]) rfl Gw
theorem zOx(s p:Int)(q1 q2:Option Addr)(n1 n2 c1 c2:Nat)(a b c d e:Int)(bs ss:List L)(w:World)(h1:LS w (.slice q1 n1 c1) bs)(h2:LS w (.slice q2 n2 c2) ss)(hs:¬s=1)(h0:zAc bs ss=0)(ha:¬addE s ss p ⟨a,b,c,d,e⟩=0) :
  Calls prog 51 #[.agg #[.slice q1 n1 c1,.slice q2 n2 c2],.int .i64 s,.int .i64 p,.agg #[.int .i64 a,.int .i64 b,.int .i64 c,.int .i64 d,.int .i64 e]] w fun x w'=>PutPostD bs ss s p ⟨a,b,c,d,e⟩ w x w':=by
 have gN:=fun W(hW:Bw w W)=>wAf q1 q2 n1 n2 c1 c2 bs ss W (h1.below hW) (h2.below hW)
 rw[h0,wAa] at gN;have gj:Hid (∀W,Bw w W→PutPostD bs ss s p ⟨a,b,c,d,e⟩ w (.returned (.tuple #[.agg #[.slice none 0 0,.slice none 0 0],.iface 90 (.int .i64 (addE s ss p ⟨a,b,c,d,e⟩))])) W):=fun W hW=>zEp (by unfold putE;rw[if_pos h0,if_neg hs,if_neg ha]) ha hW
 obtain⟨AL,uK⟩:∃AL,AL=addL s ss p ⟨a,b,c,d,e⟩:=⟨_,rfl⟩;have UV:Hid (∀W,Bw w W→Calls prog 81 #[.int .i64 s,.slice q2 n2 c2,.int .i64 p,.agg #[.int .i64 a,.int .i64 b,.int .i64 c,.int .i64 d,.int .i64 e]] W fun x w'=>Bw W w'∧∃q n cc,x=.returned (.tuple #[.slice q n cc,.iface 90 (.int .i64 (addE s ss p ⟨a,b,c,d,e⟩))])∧LS w' (.slice q n cc) AL):=fun W hW=>(zDs s _ ss p a b c d e W (h2.below hW)).mono fun x w' h=>by
  obtain⟨g1,v',g2,g3⟩:=h;rw[wAb ha] at g2;obtain⟨q,n,cc,rfl⟩:=g3.form;exact⟨g1,q,n,cc,g2,by rw[uK];exact g3.ls⟩
 obtain⟨V,hV⟩:∃V,V=((w.alloc (.cells #[.slice q1 n1 c1,.slice q2 n2 c2] 57)).alloc (.cells #[.int .i64 a,.int .i64 b,.int .i64 c,.int .i64 d,.int .i64 e] 51)).alloc (.cells #[.slice none 0 0,.slice none 0 0] 57):=⟨_,rfl⟩;have HB:Hid (Bw w V):=by rw[hV];exact(((bzR _ _).alloc (nzR _) _).alloc (by simp) _).alloc (by simp;omega) _
 have v0:V.cell? ⟨w.heap.size,0,none⟩=some (.slice q1 n1 c1):=by rw[hV];simp[go_sem]
 have v1:V.cell? ⟨w.heap.size,1,none⟩=some (.slice q2 n2 c2):=by rw[hV];simp[go_sem]
 have r0:V.cell? ⟨w.heap.size+1,0,none⟩=some (.int .i64 a):=by rw[hV];simp[go_sem]
 have r1:V.cell? ⟨w.heap.size+1,1,none⟩=some (.int .i64 b):=by rw[hV];simp[go_sem]
 have r2:V.cell? ⟨w.heap.size+1,2,none⟩=some (.int .i64 c):=by rw[hV];simp[go_sem]
 have r3:V.cell? ⟨w.heap.size+1,3,none⟩=some (.int .i64 d):=by rw[hV];simp[go_sem]
 have r4:V.cell? ⟨w.heap.size+1,4,none⟩=some (.int .i64 e):=by rw[hV];simp[go_sem]
 have hR:V.heap[w.heap.size+2]?=some (.cells #[.slice none 0 0,.slice none 0 0] 57 (0,0)):=by
  rw[hV];have:=jA ((w.alloc (.cells #[.slice q1 n1 c1,.slice q2 n2 c2] 57)).alloc (.cells #[.int .i64 a,.int .i64 b,.int .i64 c,.int .i64 d,.int .i64 e] 51)) (.cells #[.slice none 0 0,.slice none 0 0] 57);simpa using this
 have gp:w.heap.size+2<V.heap.size:=(gzE.1 hR).1;generalize PutPostD bs ss s p ⟨a,b,c,d,e⟩ w=POST at *;generalize addE s ss p ⟨a,b,c,d,e⟩=k at *;clear h0 h1 h2 ha uK;go_enter func51,ntmps51;go_wp2_with fail;rw[←hV];refine(gN V HB.out).mono ?_;rintro x w1⟨rfl,b1⟩;have He:Hid (Bw w w1):=HB.out.trans (b1.mono HB.out.size);have gh:w1.heap[w.heap.size+2]?=some (.cells #[.slice none 0 0,.slice none 0 0] 57 (0,0)):=by rw[b1.block _ gp];exact hR
 have x0:=zAa b1 v0;have x1:=zAa b1 v1;have y0:=zAa b1 r0;have y1:=zAa b1 r1;have y2:=zAa b1 r2;have y3:=zAa b1 r3;have y4:=zAa b1 r4;have Hl:w.heap.size+2<w1.heap.size:=jC gp b1.size;have GJ:Hid (∀W,Bw w1 W→Calls prog 82 #[.agg #[.slice q1 n1 c1,.slice q2 n2 c2],.int .i64 s] W fun e w'=>e=.returned (.slice q2 n2 c2)∧Bw w1 w'):=fun W hW=>by
  have:=zAx s q1 q2 n1 n2 c1 c2 W;rw[if_neg hs] at this;exact this.mono fun e w' h=>⟨h.1,hW.trans (h.2.mono hW.size)⟩
 have GM:Hid (∀W,Bw w1 W→Calls prog 81 #[.int .i64 s,.slice q2 n2 c2,.int .i64 p,.agg #[.int .i64 a,.int .i64 b,.int .i64 c,.int .i64 d,.int .i64 e]] W fun x w'=>Bw w1 w'∧∃q n cc,x=.returned (.tuple #[.slice q n cc,.iface 90 (.int .i64 k)])∧LS w' (.slice q n cc) AL):=fun W hW=>(UV.out W (He.out.trans (hW.mono He.out.size))).mono fun x w' h=>⟨hW.trans (h.1.mono hW.size),h.2⟩
 have SO:Hid (∀W,Bw w1 W→(Bw w1 W∧W.cell? ⟨w.heap.size,0,none⟩=some (.slice q1 n1 c1)∧W.cell? ⟨w.heap.size,1,none⟩=some (.slice q2 n2 c2)∧W.cell? ⟨w.heap.size+1,0,none⟩=some (.int .i64 a)∧W.cell? ⟨w.heap.size+1,1,none⟩=some (.int .i64 b)∧W.cell? ⟨w.heap.size+1,2,none⟩=some (.int .i64 c)∧W.cell? ⟨w.heap.size+1,3,none⟩=some (.int .i64 d)∧W.cell? ⟨w.heap.size+1,4,none⟩=some (.int .i64 e))):=fun W hW=>⟨hW,zAa hW x0,zAa hW x1,zAa hW y0,zAa hW y1,zAa hW y2,zAa hW y3,zAa hW y4⟩
 clear b1 gN v0 v1 r0 r1 r2 r3 r4 hR UV;go_upto_region 4 with fail
 go_region_held3 (fun W=>Below w1.heap.size w1 W∧W.cell? ⟨w.heap.size,0,none⟩=some (.slice q1 n1 c1)∧W.cell? ⟨w.heap.size,1,none⟩=some (.slice q2 n2 c2)∧W.cell? ⟨w.heap.size+1,0,none⟩=some (.int .i64 a)∧W.cell? ⟨w.heap.size+1,1,none⟩=some (.int .i64 b)∧W.cell? ⟨w.heap.size+1,2,none⟩=some (.int .i64 c)∧W.cell? ⟨w.heap.size+1,3,none⟩=some (.int .i64 d)∧W.cell? ⟨w.heap.size+1,4,none⟩=some (.int .i64 e))
  ((refine SO.out _ ?_;(with_reducible repeat' (first|assumption|refine bal ?_ _|refine Below.setCell ?_ ?_ _|refine Below.drew ?_|exact bzR _ _|exact nzR _|exact Below.size (by assumption)|refine jD ?_))))
  (first|(go_at_call 82;with_reducible refine(GJ.out _ ?_).mono ?_;(with_reducible repeat' (first|assumption|refine bal ?_ _|refine Below.setCell ?_ ?_ _|refine Below.drew ?_|exact bzR _ _|exact nzR _|exact Below.size (by assumption)|refine jD ?_));rintro x W ⟨rfl,Hm⟩)|(go_at_call 81;with_reducible refine(GM.out _ ?_).mono ?_;(with_reducible repeat' (first|assumption|refine bal ?_ _|refine Below.setCell ?_ ?_ _|refine Below.drew ?_|exact bzR _ _|exact nzR _|exact Below.size (by assumption)|refine jD ?_));rintro x W ⟨Hm,q3,n3,c3,rfl,mN⟩))
 have gF:Hid (Bw w W):=He.out.trans (Hm.mono He.out.size);have Gx:W.heap[w.heap.size+2]?=some (.cells #[.slice none 0 0,.slice none 0 0] 57 (0,0)):=by rw[Hm.block _ Hl];exact gh
 clear Hm mN SO GJ GM x0 x1 y0 y1 y2 y3 y4 gh;obtain⟨g0,g1,hf⟩:=zAb Gx;have f0:=hf 0;have f1:=hf 1;have hg:=zAT W (w.heap.size+2) (.slice none 0 0) (.slice none 0 0);have Gw:=gj.out _ (gF.out.grown hg gF.out.size (fun k hk=>by cases hk;omega))
 have Hx:Hid (((W.setCell ⟨w.heap.size+2,0,none⟩ (.slice none 0 0)).setCell ⟨w.heap.size+2,1,none⟩ (.slice none 0 0)).heap[w.heap.size+2]?=some (.cells #[.slice none 0 0,.slice none 0 0] 57 (0,0))):=zAz Gx (.slice none 0 0) (.slice none 0 0);clear hf hg gj Gx;go_wp2_with fail;generalize ((W.setCell ⟨w.heap.size+2,0,none⟩ (.slice none 0 0)).setCell ⟨w.heap.size+2,1,none⟩ (.slice none 0 0))=X at *;obtain⟨y0,y1,-⟩:=zAb Hx.out;exact jN (v:=.tuple #[.agg #[.slice none 0 0,.slice none 0 0],.iface 90 (.int .i64 k)]) (by simp[results,results51,go_sem,y0,y1]) rfl Gw
end bok
end Go.Proofs.YtnfilcpnneckkaaGreat
