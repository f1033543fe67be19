import Derived.Test.YtnjpjieedgmffaaGreatDoorSidIns2
import Derived.Test.YtnjpjieedgmffaaGreatDoorSidAdd
import Derived.Deep.RegionHeld3
namespace Go.Proofs.YtnjpjieedgmffaaGreatDoor.bok
open Go.RowKit spn que sid
def put1 (bs:List L) (s p:Int) (r:R):List L:=if s=1 then putL s p r bs else bs
def put2 (ss:List L) (s p:Int) (r:R):List L:=if s=1 then ss else putL s p r ss
def putE (bs ss:List L) (s p:Int) (r:R):Int:=
 if bookE bs ss=0 then (if addE s (if s=1 then bs else ss) p r=0 then bookE (put1 bs s p r) (put2 ss s p r) else addE s (if s=1 then bs else ss) p r) else bookE bs ss
def PutPostD (bs ss:List L) (s p:Int) (r:R) (w:World) (e:Ending) (w' : World):Prop:=
 ∃q1 q2 n1 n2 c1 c2,e=.returned (.tuple #[.agg #[.slice q1 n1 c1,.slice q2 n2 c2],errV (putE bs ss s p r)])∧DL w' w.heap.size (.slice q1 n1 c1) (if putE bs ss s p r=0 then put1 bs s p r else [])∧DL w' w.heap.size (.slice q2 n2 c2) (if putE bs ss s p r=0 then put2 ss s p r else [])∧Below w.heap.size w w'
theorem put_bad {bs ss:List L}{s p:Int}{r:R}{w W:World}{k:Int}(h:putE bs ss s p r=k) (hk:¬k=0) (hW:Below w.heap.size w W):PutPostD bs ss s p r w (.returned (.tuple #[.agg #[.slice none 0 0,.slice none 0 0],.iface 70 (.int .i64 k)])) W:=
 ⟨none,none,0,0,0,0,by rw[h,errV_of hk],by rw[h,if_neg hk];exact dl_nil _ _,by rw[h,if_neg hk];exact dl_nil _ _,hW⟩
set_option maxRecDepth 100000 in
set_option maxHeartbeats 2000000 in
theorem put_book (s p:Int) (q1 q2:Option Addr) (n1 n2 c1 c2:Nat) (a b c d e:Int) (bs ss:List L) (w:World) (h1:LS w (.slice q1 n1 c1) bs) (h2:LS w (.slice q2 n2 c2) ss) (h0:¬bookE bs ss=0) :
  Calls Tryz.prog 48 #[.agg #[.slice q1 n1 c1,.slice q2 n2 c2],.int .i64 s,.int .i64 p,.agg #[.int .i64 a,.int .i64 b,.int .i64 c,.int .i64 d,.int .i64 e]] w fun x w'=>PutPostD bs ss s p ⟨a,b,c,d,e⟩ w x w':=by
 have HCH:=fun W (hW:Below w.heap.size w W)=>check_any q1 q2 n1 n2 c1 c2 bs ss W (h1.below hW) (h2.below hW)
 rw[errV_of h0] at HCH
 have HERR:Hid (∀W,Below w.heap.size w W→PutPostD bs ss s p ⟨a,b,c,d,e⟩ w (.returned (.tuple #[.agg #[.slice none 0 0,.slice none 0 0],.iface 70 (.int .i64 (bookE bs ss))])) W):=fun W hW=>put_bad (by unfold putE;rw[if_neg h0]) h0 hW
 obtain⟨V,hV⟩:∃V,V=((w.alloc (.cells #[.slice q1 n1 c1,.slice q2 n2 c2] 24)).alloc (.cells #[.int .i64 a,.int .i64 b,.int .i64 c,.int .i64 d,.int .i64 e] 55)).alloc (.cells #[.slice none 0 0,.slice none 0 0] 24):=⟨_,rfl⟩
 have HB:Hid (Below w.heap.size w V):=by rw[hV];exact(((bzR _ _).alloc (nzR _) _).alloc (by simp) _).alloc (by simp;omega) _
 have v0:V.cell? ⟨w.heap.size,0,none⟩=some (.slice q1 n1 c1):=by rw[hV];simp[go_sem]
 have v1:V.cell? ⟨w.heap.size,1,none⟩=some (.slice q2 n2 c2):=by rw[hV];simp[go_sem]
 have r0:V.cell? ⟨w.heap.size+1,0,none⟩=some (.int .i64 a):=by rw[hV];simp[go_sem]
 have r1:V.cell? ⟨w.heap.size+1,1,none⟩=some (.int .i64 b):=by rw[hV];simp[go_sem]
 have r2:V.cell? ⟨w.heap.size+1,2,none⟩=some (.int .i64 c):=by rw[hV];simp[go_sem]
 have r3:V.cell? ⟨w.heap.size+1,3,none⟩=some (.int .i64 d):=by rw[hV];simp[go_sem]
 have r4:V.cell? ⟨w.heap.size+1,4,none⟩=some (.int .i64 e):=by rw[hV];simp[go_sem]
 have hR:V.heap[w.heap.size+2]?=some (.cells #[.slice none 0 0,.slice none 0 0] 24 (0,0)):=by
  rw[hV]
  have:=heap_alloc_new ((w.alloc (.cells #[.slice q1 n1 c1,.slice q2 n2 c2] 24)).alloc (.cells #[.int .i64 a,.int .i64 b,.int .i64 c,.int .i64 d,.int .i64 e] 55)) (.cells #[.slice none 0 0,.slice none 0 0] 24)
  simpa using this
 have hVs:w.heap.size+2 < V.heap.size:=(gzE.1 hR).1
 generalize PutPostD bs ss s p ⟨a,b,c,d,e⟩ w=POST at *
 generalize bookE bs ss=k at *
 clear h0 h1 h2 r0 r1 r2 r3 r4
 go_enter Tryz.func48,Tryz.ntmps48
 go_wp2_with fail
 rw[←hV]
 refine(HCH V HB.out).mono ?_
 rintro x w1 ⟨rfl,b1⟩
 have HBW:Hid (Below w.heap.size w w1):=HB.out.trans (b1.mono HB.out.size)
 have hRW:w1.heap[w.heap.size+2]?=some (.cells #[.slice none 0 0,.slice none 0 0] 24 (0,0)):=by rw[b1.block _ hVs];exact hR
 clear b1 HCH v0 v1 hR
 obtain⟨g0,g1,hf⟩:=rowTwo hRW
 have f0:=hf 0
 have f1:=hf 1
 have hg:=grTwo w1 (w.heap.size+2) (.slice none 0 0) (.slice none 0 0)
 have HPX:=HERR.out _ (HBW.out.grown hg HBW.out.size (fun k hk=>by cases hk;omega))
 have HHX:Hid (((w1.setCell ⟨w.heap.size+2,0,none⟩ (.slice none 0 0)).setCell ⟨w.heap.size+2,1,none⟩ (.slice none 0 0)).heap[w.heap.size+2]?=some (.cells #[.slice none 0 0,.slice none 0 0] 24 (0,0))):=setTwo hRW (.slice none 0 0) (.slice none 0 0)
 clear hf hg HERR hRW
 go_wp2_with fail
 generalize ((w1.setCell ⟨w.heap.size+2,0,none⟩ (.slice none 0 0)).setCell ⟨w.heap.size+2,1,none⟩ (.slice none 0 0))=X at *
 obtain⟨y0,y1,-⟩:=rowTwo HHX.out
 exact bodyPost_ret (v:=.tuple #[.agg #[.slice none 0 0,.slice none 0 0],.iface 70 (.int .i64 k)]) (by simp[results,Tryz.results48,go_sem,y0,y1]) rfl HPX
set_option maxRecDepth 100000 in
set_option maxHeartbeats 2000000 in
theorem put_add1 (p:Int) (q1 q2:Option Addr) (n1 n2 c1 c2:Nat) (a b c d e:Int) (bs ss:List L) (w:World) (h1:LS w (.slice q1 n1 c1) bs) (h2:LS w (.slice q2 n2 c2) ss)  (h0:bookE bs ss=0) (ha:¬addE 1 bs p ⟨a,b,c,d,e⟩=0) :
  Calls Tryz.prog 48 #[.agg #[.slice q1 n1 c1,.slice q2 n2 c2],.int .i64 1,.int .i64 p,.agg #[.int .i64 a,.int .i64 b,.int .i64 c,.int .i64 d,.int .i64 e]] w fun x w'=>PutPostD bs ss 1 p ⟨a,b,c,d,e⟩ w x w':=by
 have HCH:=fun W (hW:Below w.heap.size w W)=>check_any q1 q2 n1 n2 c1 c2 bs ss W (h1.below hW) (h2.below hW)
 rw[h0,errV_zero] at HCH
 have HERR:Hid (∀W,Below w.heap.size w W→PutPostD bs ss 1 p ⟨a,b,c,d,e⟩ w (.returned (.tuple #[.agg #[.slice none 0 0,.slice none 0 0],.iface 70 (.int .i64 (addE 1 bs p ⟨a,b,c,d,e⟩))])) W):=fun W hW=>put_bad (by unfold putE;rw[if_pos h0,if_pos rfl,if_neg ha]) ha hW
 obtain⟨AL,hAL⟩:∃AL,AL=addL 1 bs p ⟨a,b,c,d,e⟩:=⟨_,rfl⟩
 have HAD:Hid (∀W,Below w.heap.size w W→Calls Tryz.prog 73 #[.int .i64 1,.slice q1 n1 c1,.int .i64 p,.agg #[.int .i64 a,.int .i64 b,.int .i64 c,.int .i64 d,.int .i64 e]] W fun x w'=>Below W.heap.size W w'∧∃q n cc,x=.returned (.tuple #[.slice q n cc,.iface 70 (.int .i64 (addE 1 bs p ⟨a,b,c,d,e⟩))])∧LS w' (.slice q n cc) AL):=fun W hW=>(add_any 1 _ bs p a b c d e W (h1.below hW)).mono fun x w' h=>by
  obtain⟨g1,v',g2,g3⟩:=h
  rw[errV_of ha] at g2
  obtain⟨q,n,cc,rfl⟩:=g3.form
  exact⟨g1,q,n,cc,g2,by rw[hAL];exact g3.ls⟩
 obtain⟨V,hV⟩:∃V,V=((w.alloc (.cells #[.slice q1 n1 c1,.slice q2 n2 c2] 24)).alloc (.cells #[.int .i64 a,.int .i64 b,.int .i64 c,.int .i64 d,.int .i64 e] 55)).alloc (.cells #[.slice none 0 0,.slice none 0 0] 24):=⟨_,rfl⟩
 have HB:Hid (Below w.heap.size w V):=by rw[hV];exact(((bzR _ _).alloc (nzR _) _).alloc (by simp) _).alloc (by simp;omega) _
 have v0:V.cell? ⟨w.heap.size,0,none⟩=some (.slice q1 n1 c1):=by rw[hV];simp[go_sem]
 have v1:V.cell? ⟨w.heap.size,1,none⟩=some (.slice q2 n2 c2):=by rw[hV];simp[go_sem]
 have r0:V.cell? ⟨w.heap.size+1,0,none⟩=some (.int .i64 a):=by rw[hV];simp[go_sem]
 have r1:V.cell? ⟨w.heap.size+1,1,none⟩=some (.int .i64 b):=by rw[hV];simp[go_sem]
 have r2:V.cell? ⟨w.heap.size+1,2,none⟩=some (.int .i64 c):=by rw[hV];simp[go_sem]
 have r3:V.cell? ⟨w.heap.size+1,3,none⟩=some (.int .i64 d):=by rw[hV];simp[go_sem]
 have r4:V.cell? ⟨w.heap.size+1,4,none⟩=some (.int .i64 e):=by rw[hV];simp[go_sem]
 have hR:V.heap[w.heap.size+2]?=some (.cells #[.slice none 0 0,.slice none 0 0] 24 (0,0)):=by
  rw[hV]
  have:=heap_alloc_new ((w.alloc (.cells #[.slice q1 n1 c1,.slice q2 n2 c2] 24)).alloc (.cells #[.int .i64 a,.int .i64 b,.int .i64 c,.int .i64 d,.int .i64 e] 55)) (.cells #[.slice none 0 0,.slice none 0 0] 24)
  simpa using this
 have hVs:w.heap.size+2 < V.heap.size:=(gzE.1 hR).1
 generalize PutPostD bs ss 1 p ⟨a,b,c,d,e⟩ w=POST at *
 generalize addE 1 bs p ⟨a,b,c,d,e⟩=k at *
 clear h0 h1 h2 ha hAL
 go_enter Tryz.func48,Tryz.ntmps48
 go_wp2_with fail
 rw[←hV]
 refine(HCH V HB.out).mono ?_
 rintro x w1 ⟨rfl,b1⟩
 have HB1:Hid (Below w.heap.size w w1):=HB.out.trans (b1.mono HB.out.size)
 have hR1:w1.heap[w.heap.size+2]?=some (.cells #[.slice none 0 0,.slice none 0 0] 24 (0,0)):=by rw[b1.block _ hVs];exact hR
 have x0:=keeps b1 v0
 have x1:=keeps b1 v1
 have y0:=keeps b1 r0
 have y1:=keeps b1 r1
 have y2:=keeps b1 r2
 have y3:=keeps b1 r3
 have y4:=keeps b1 r4
 have hs1:w.heap.size+2 < w1.heap.size:=Nat.lt_of_lt_of_le hVs b1.size
 have HLV:Hid (∀W,Below w1.heap.size w1 W→Calls Tryz.prog 74 #[.agg #[.slice q1 n1 c1,.slice q2 n2 c2],.int .i64 1] W fun e w'=>e=.returned (.slice q1 n1 c1)∧Below w1.heap.size w1 w'):=fun W hW=>by
  have:=levels_any 1 q1 q2 n1 n2 c1 c2 W
  rw[if_pos rfl] at this
  exact this.mono fun e w' h=>⟨h.1,hW.trans (h.2.mono hW.size)⟩
 have HAD2:Hid (∀W,Below w1.heap.size w1 W→Calls Tryz.prog 73 #[.int .i64 1,.slice q1 n1 c1,.int .i64 p,.agg #[.int .i64 a,.int .i64 b,.int .i64 c,.int .i64 d,.int .i64 e]] W fun x w'=>Below w1.heap.size w1 w'∧∃q n cc,x=.returned (.tuple #[.slice q n cc,.iface 70 (.int .i64 k)])∧LS w' (.slice q n cc) AL):=fun W hW=>(HAD.out W (HB1.out.trans (hW.mono HB1.out.size))).mono fun x w' h=>⟨hW.trans (h.1.mono hW.size),h.2⟩
 have SO:Hid (∀W,Below w1.heap.size w1 W→(Below w1.heap.size w1 W∧W.cell? ⟨w.heap.size,0,none⟩=some (.slice q1 n1 c1)∧W.cell? ⟨w.heap.size,1,none⟩=some (.slice q2 n2 c2)∧W.cell? ⟨w.heap.size+1,0,none⟩=some (.int .i64 a)∧W.cell? ⟨w.heap.size+1,1,none⟩=some (.int .i64 b)∧W.cell? ⟨w.heap.size+1,2,none⟩=some (.int .i64 c)∧W.cell? ⟨w.heap.size+1,3,none⟩=some (.int .i64 d)∧W.cell? ⟨w.heap.size+1,4,none⟩=some (.int .i64 e))):=fun W hW=>⟨hW,keeps hW x0,keeps hW x1,keeps hW y0,keeps hW y1,keeps hW y2,keeps hW y3,keeps hW y4⟩
 clear b1 HCH v0 v1 r0 r1 r2 r3 r4 hR HAD
 go_upto_region 4 with fail
 go_region_held3 (fun W=>Below w1.heap.size w1 W∧W.cell? ⟨w.heap.size,0,none⟩=some (.slice q1 n1 c1)∧W.cell? ⟨w.heap.size,1,none⟩=some (.slice q2 n2 c2)∧W.cell? ⟨w.heap.size+1,0,none⟩=some (.int .i64 a)∧W.cell? ⟨w.heap.size+1,1,none⟩=some (.int .i64 b)∧W.cell? ⟨w.heap.size+1,2,none⟩=some (.int .i64 c)∧W.cell? ⟨w.heap.size+1,3,none⟩=some (.int .i64 d)∧W.cell? ⟨w.heap.size+1,4,none⟩=some (.int .i64 e))
  ((refine SO.out _ ?_;(repeat' (first|with_reducible assumption|with_reducible refine bal ?_ _|with_reducible refine Below.setCell ?_ ?_ _|with_reducible refine Below.drew ?_|with_reducible exact bzR _ _|with_reducible exact nzR _|with_reducible exact Below.size (by with_reducible assumption)|with_reducible refine Nat.le_succ_of_le ?_))))
  (first|(go_at_call 74;with_reducible refine(HLV.out _ ?_).mono ?_;(repeat' (first|with_reducible assumption|with_reducible refine bal ?_ _|with_reducible refine Below.setCell ?_ ?_ _|with_reducible refine Below.drew ?_|with_reducible exact bzR _ _|with_reducible exact nzR _|with_reducible exact Below.size (by with_reducible assumption)|with_reducible refine Nat.le_succ_of_le ?_));rintro x W ⟨rfl,hbn⟩)|(go_at_call 73;with_reducible refine(HAD2.out _ ?_).mono ?_;(repeat' (first|with_reducible assumption|with_reducible refine bal ?_ _|with_reducible refine Below.setCell ?_ ?_ _|with_reducible refine Below.drew ?_|with_reducible exact bzR _ _|with_reducible exact nzR _|with_reducible exact Below.size (by with_reducible assumption)|with_reducible refine Nat.le_succ_of_le ?_));rintro x W ⟨hbn,q3,n3,c3,rfl,hL3⟩))
 have HBW:Hid (Below w.heap.size w W):=HB1.out.trans (hbn.mono HB1.out.size)
 have hRW:W.heap[w.heap.size+2]?=some (.cells #[.slice none 0 0,.slice none 0 0] 24 (0,0)):=by rw[hbn.block _ hs1];exact hR1
 clear hbn hL3 SO HLV HAD2 x0 x1 y0 y1 y2 y3 y4 hR1
 obtain⟨g0,g1,hf⟩:=rowTwo hRW
 have f0:=hf 0
 have f1:=hf 1
 have hg:=grTwo W (w.heap.size+2) (.slice none 0 0) (.slice none 0 0)
 have HPX:=HERR.out _ (HBW.out.grown hg HBW.out.size (fun k hk=>by cases hk;omega))
 have HHX:Hid (((W.setCell ⟨w.heap.size+2,0,none⟩ (.slice none 0 0)).setCell ⟨w.heap.size+2,1,none⟩ (.slice none 0 0)).heap[w.heap.size+2]?=some (.cells #[.slice none 0 0,.slice none 0 0] 24 (0,0))):=setTwo hRW (.slice none 0 0) (.slice none 0 0)
 clear hf hg HERR hRW
 go_wp2_with fail
 generalize ((W.setCell ⟨w.heap.size+2,0,none⟩ (.slice none 0 0)).setCell ⟨w.heap.size+2,1,none⟩ (.slice none 0 0))=X at *
 obtain⟨y0,y1,-⟩:=rowTwo HHX.out
 exact bodyPost_ret (v:=.tuple #[.agg #[.slice none 0 0,.slice none 0 0],.iface 70 (.int .i64 k)]) (by simp[results,Tryz.results48,go_sem,y0,y1]) rfl HPX
set_option maxRecDepth 100000 in
set_option maxHeartbeats 2000000 in
theorem put_add2 (s p:Int) (q1 q2:Option Addr) (n1 n2 c1 c2:Nat) (a b c d e:Int) (bs ss:List L) (w:World) (h1:LS w (.slice q1 n1 c1) bs) (h2:LS w (.slice q2 n2 c2) ss) (hs:¬s=1) (h0:bookE bs ss=0) (ha:¬addE s ss p ⟨a,b,c,d,e⟩=0) :
  Calls Tryz.prog 48 #[.agg #[.slice q1 n1 c1,.slice q2 n2 c2],.int .i64 s,.int .i64 p,.agg #[.int .i64 a,.int .i64 b,.int .i64 c,.int .i64 d,.int .i64 e]] w fun x w'=>PutPostD bs ss s p ⟨a,b,c,d,e⟩ w x w':=by
 have HCH:=fun W (hW:Below w.heap.size w W)=>check_any q1 q2 n1 n2 c1 c2 bs ss W (h1.below hW) (h2.below hW)
 rw[h0,errV_zero] at HCH
 have HERR:Hid (∀W,Below w.heap.size w W→PutPostD bs ss s p ⟨a,b,c,d,e⟩ w (.returned (.tuple #[.agg #[.slice none 0 0,.slice none 0 0],.iface 70 (.int .i64 (addE s ss p ⟨a,b,c,d,e⟩))])) W):=fun W hW=>put_bad (by unfold putE;rw[if_pos h0,if_neg hs,if_neg ha]) ha hW
 obtain⟨AL,hAL⟩:∃AL,AL=addL s ss p ⟨a,b,c,d,e⟩:=⟨_,rfl⟩
 have HAD:Hid (∀W,Below w.heap.size w W→Calls Tryz.prog 73 #[.int .i64 s,.slice q2 n2 c2,.int .i64 p,.agg #[.int .i64 a,.int .i64 b,.int .i64 c,.int .i64 d,.int .i64 e]] W fun x w'=>Below W.heap.size W w'∧∃q n cc,x=.returned (.tuple #[.slice q n cc,.iface 70 (.int .i64 (addE s ss p ⟨a,b,c,d,e⟩))])∧LS w' (.slice q n cc) AL):=fun W hW=>(add_any s _ ss p a b c d e W (h2.below hW)).mono fun x w' h=>by
  obtain⟨g1,v',g2,g3⟩:=h
  rw[errV_of ha] at g2
  obtain⟨q,n,cc,rfl⟩:=g3.form
  exact⟨g1,q,n,cc,g2,by rw[hAL];exact g3.ls⟩
 obtain⟨V,hV⟩:∃V,V=((w.alloc (.cells #[.slice q1 n1 c1,.slice q2 n2 c2] 24)).alloc (.cells #[.int .i64 a,.int .i64 b,.int .i64 c,.int .i64 d,.int .i64 e] 55)).alloc (.cells #[.slice none 0 0,.slice none 0 0] 24):=⟨_,rfl⟩
 have HB:Hid (Below w.heap.size w V):=by rw[hV];exact(((bzR _ _).alloc (nzR _) _).alloc (by simp) _).alloc (by simp;omega) _
 have v0:V.cell? ⟨w.heap.size,0,none⟩=some (.slice q1 n1 c1):=by rw[hV];simp[go_sem]
 have v1:V.cell? ⟨w.heap.size,1,none⟩=some (.slice q2 n2 c2):=by rw[hV];simp[go_sem]
 have r0:V.cell? ⟨w.heap.size+1,0,none⟩=some (.int .i64 a):=by rw[hV];simp[go_sem]
 have r1:V.cell? ⟨w.heap.size+1,1,none⟩=some (.int .i64 b):=by rw[hV];simp[go_sem]
 have r2:V.cell? ⟨w.heap.size+1,2,none⟩=some (.int .i64 c):=by rw[hV];simp[go_sem]
 have r3:V.cell? ⟨w.heap.size+1,3,none⟩=some (.int .i64 d):=by rw[hV];simp[go_sem]
 have r4:V.cell? ⟨w.heap.size+1,4,none⟩=some (.int .i64 e):=by rw[hV];simp[go_sem]
 have hR:V.heap[w.heap.size+2]?=some (.cells #[.slice none 0 0,.slice none 0 0] 24 (0,0)):=by
  rw[hV]
  have:=heap_alloc_new ((w.alloc (.cells #[.slice q1 n1 c1,.slice q2 n2 c2] 24)).alloc (.cells #[.int .i64 a,.int .i64 b,.int .i64 c,.int .i64 d,.int .i64 e] 55)) (.cells #[.slice none 0 0,.slice none 0 0] 24)
  simpa using this
 have hVs:w.heap.size+2 < V.heap.size:=(gzE.1 hR).1
 generalize PutPostD bs ss s p ⟨a,b,c,d,e⟩ w=POST at *
 generalize addE s ss p ⟨a,b,c,d,e⟩=k at *
 clear h0 h1 h2 ha hAL
 go_enter Tryz.func48,Tryz.ntmps48
 go_wp2_with fail
 rw[←hV]
 refine(HCH V HB.out).mono ?_
 rintro x w1 ⟨rfl,b1⟩
 have HB1:Hid (Below w.heap.size w w1):=HB.out.trans (b1.mono HB.out.size)
 have hR1:w1.heap[w.heap.size+2]?=some (.cells #[.slice none 0 0,.slice none 0 0] 24 (0,0)):=by rw[b1.block _ hVs];exact hR
 have x0:=keeps b1 v0
 have x1:=keeps b1 v1
 have y0:=keeps b1 r0
 have y1:=keeps b1 r1
 have y2:=keeps b1 r2
 have y3:=keeps b1 r3
 have y4:=keeps b1 r4
 have hs1:w.heap.size+2 < w1.heap.size:=Nat.lt_of_lt_of_le hVs b1.size
 have HLV:Hid (∀W,Below w1.heap.size w1 W→Calls Tryz.prog 74 #[.agg #[.slice q1 n1 c1,.slice q2 n2 c2],.int .i64 s] W fun e w'=>e=.returned (.slice q2 n2 c2)∧Below w1.heap.size w1 w'):=fun W hW=>by
  have:=levels_any s q1 q2 n1 n2 c1 c2 W
  rw[if_neg hs] at this
  exact this.mono fun e w' h=>⟨h.1,hW.trans (h.2.mono hW.size)⟩
 have HAD2:Hid (∀W,Below w1.heap.size w1 W→Calls Tryz.prog 73 #[.int .i64 s,.slice q2 n2 c2,.int .i64 p,.agg #[.int .i64 a,.int .i64 b,.int .i64 c,.int .i64 d,.int .i64 e]] W fun x w'=>Below w1.heap.size w1 w'∧∃q n cc,x=.returned (.tuple #[.slice q n cc,.iface 70 (.int .i64 k)])∧LS w' (.slice q n cc) AL):=fun W hW=>(HAD.out W (HB1.out.trans (hW.mono HB1.out.size))).mono fun x w' h=>⟨hW.trans (h.1.mono hW.size),h.2⟩
 have SO:Hid (∀W,Below w1.heap.size w1 W→(Below w1.heap.size w1 W∧W.cell? ⟨w.heap.size,0,none⟩=some (.slice q1 n1 c1)∧W.cell? ⟨w.heap.size,1,none⟩=some (.slice q2 n2 c2)∧W.cell? ⟨w.heap.size+1,0,none⟩=some (.int .i64 a)∧W.cell? ⟨w.heap.size+1,1,none⟩=some (.int .i64 b)∧W.cell? ⟨w.heap.size+1,2,none⟩=some (.int .i64 c)∧W.cell? ⟨w.heap.size+1,3,none⟩=some (.int .i64 d)∧W.cell? ⟨w.heap.size+1,4,none⟩=some (.int .i64 e))):=fun W hW=>⟨hW,keeps hW x0,keeps hW x1,keeps hW y0,keeps hW y1,keeps hW y2,keeps hW y3,keeps hW y4⟩
 clear b1 HCH v0 v1 r0 r1 r2 r3 r4 hR HAD
 go_upto_region 4 with fail
 go_region_held3 (fun W=>Below w1.heap.size w1 W∧W.cell? ⟨w.heap.size,0,none⟩=some (.slice q1 n1 c1)∧W.cell? ⟨w.heap.size,1,none⟩=some (.slice q2 n2 c2)∧W.cell? ⟨w.heap.size+1,0,none⟩=some (.int .i64 a)∧W.cell? ⟨w.heap.size+1,1,none⟩=some (.int .i64 b)∧W.cell? ⟨w.heap.size+1,2,none⟩=some (.int .i64 c)∧W.cell? ⟨w.heap.size+1,3,none⟩=some (.int .i64 d)∧W.cell? ⟨w.heap.size+1,4,none⟩=some (.int .i64 e))
  ((refine SO.out _ ?_;(repeat' (first|with_reducible assumption|with_reducible refine bal ?_ _|with_reducible refine Below.setCell ?_ ?_ _|with_reducible refine Below.drew ?_|with_reducible exact bzR _ _|with_reducible exact nzR _|with_reducible exact Below.size (by with_reducible assumption)|with_reducible refine Nat.le_succ_of_le ?_))))
  (first|(go_at_call 74;with_reducible refine(HLV.out _ ?_).mono ?_;(repeat' (first|with_reducible assumption|with_reducible refine bal ?_ _|with_reducible refine Below.setCell ?_ ?_ _|with_reducible refine Below.drew ?_|with_reducible exact bzR _ _|with_reducible exact nzR _|with_reducible exact Below.size (by with_reducible assumption)|with_reducible refine Nat.le_succ_of_le ?_));rintro x W ⟨rfl,hbn⟩)|(go_at_call 73;with_reducible refine(HAD2.out _ ?_).mono ?_;(repeat' (first|with_reducible assumption|with_reducible refine bal ?_ _|with_reducible refine Below.setCell ?_ ?_ _|with_reducible refine Below.drew ?_|with_reducible exact bzR _ _|with_reducible exact nzR _|with_reducible exact Below.size (by with_reducible assumption)|with_reducible refine Nat.le_succ_of_le ?_));rintro x W ⟨hbn,q3,n3,c3,rfl,hL3⟩))
 have HBW:Hid (Below w.heap.size w W):=HB1.out.trans (hbn.mono HB1.out.size)
 have hRW:W.heap[w.heap.size+2]?=some (.cells #[.slice none 0 0,.slice none 0 0] 24 (0,0)):=by rw[hbn.block _ hs1];exact hR1
 clear hbn hL3 SO HLV HAD2 x0 x1 y0 y1 y2 y3 y4 hR1
 obtain⟨g0,g1,hf⟩:=rowTwo hRW
 have f0:=hf 0
 have f1:=hf 1
 have hg:=grTwo W (w.heap.size+2) (.slice none 0 0) (.slice none 0 0)
 have HPX:=HERR.out _ (HBW.out.grown hg HBW.out.size (fun k hk=>by cases hk;omega))
 have HHX:Hid (((W.setCell ⟨w.heap.size+2,0,none⟩ (.slice none 0 0)).setCell ⟨w.heap.size+2,1,none⟩ (.slice none 0 0)).heap[w.heap.size+2]?=some (.cells #[.slice none 0 0,.slice none 0 0] 24 (0,0))):=setTwo hRW (.slice none 0 0) (.slice none 0 0)
 clear hf hg HERR hRW
 go_wp2_with fail
 generalize ((W.setCell ⟨w.heap.size+2,0,none⟩ (.slice none 0 0)).setCell ⟨w.heap.size+2,1,none⟩ (.slice none 0 0))=X at *
 obtain⟨y0,y1,-⟩:=rowTwo HHX.out
 exact bodyPost_ret (v:=.tuple #[.agg #[.slice none 0 0,.slice none 0 0],.iface 70 (.int .i64 k)]) (by simp[results,Tryz.results48,go_sem,y0,y1]) rfl HPX
end Go.Proofs.YtnjpjieedgmffaaGreatDoor.bok
