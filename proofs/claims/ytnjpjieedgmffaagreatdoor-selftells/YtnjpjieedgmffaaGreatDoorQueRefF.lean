import Derived.Test.YtnjpjieedgmffaaGreatDoorMeeRef1b
import Derived.Test.YtnjpjieedgmffaaGreatDoorSidRef9
import Derived.Test.YtnjpjieedgmffaaGreatDoorMeeTake
import Derived.Test.YtnjpjieedgmffaaGreatDoorSidLay
import Derived.Test.YtnjpjieedgmffaaGreatDoorQueTake1
namespace Go.Proofs.YtnjpjieedgmffaaGreatDoor.ord
open Go.RowKit
theorem sdB_true {c:Int}(h:1≤c∧c≤2):sdB c=true:=by
 unfold sdB
 have:c=1∨c=2:=by omega
 rcases this with rfl|rfl <;> rfl
theorem sdB_false {c:Int}(h:¬(1≤c∧c≤2)):sdB c=false:=by
 unfold sdB
 simp only[Bool.or_eq_false_iff,decide_eq_false_iff_not]
 omega
theorem head_iff (a b c d p q s t:Int):headB ⟨a,b,c,d,p,q,s,t⟩=true↔(1≤a∧a≤9999∧1≤b∧b≤9∧1≤c∧c≤2∧1≤d∧d≤5):=by
 unfold headB
 simp only[Bool.and_eq_true,decide_eq_true_eq]
 omega
theorem qty_iff (a b c d p q s t:Int):qtyB ⟨a,b,c,d,p,q,s,t⟩=true↔(1≤q∧q≤10000∧0≤s∧s≤q):=by
 unfold qtyB
 simp only[Bool.and_eq_true,decide_eq_true_eq]
 omega
theorem shape_iff (a b c d p q s t:Int):shapeB ⟨a,b,c,d,p,q,s,t⟩=true↔(s=0∨d=1∨d=5):=by
 unfold shapeB
 simp only[Bool.or_eq_true,decide_eq_true_eq]
 omega
theorem beq_no {x k:Int}(h:¬x=k):(x == k)=false:=beq_eq_false_iff_ne.2 h
theorem rord_any (o:O) (w:World) :
  Calls Tryz.prog 12 #[oV o] w fun e w'=>e=.returned (.int .i64 (chk o))∧Below w.heap.size w w':=by
 obtain⟨a,b,c,d,p,q,s,t⟩:=o
 unfold chk
 cases h1:headB ⟨a,b,c,d,p,q,s,t⟩
 ·have hn:¬(1≤a∧a≤9999∧1≤b∧b≤9∧1≤c∧c≤2∧1≤d∧d≤5):=by rw[←head_iff a b c d p q s t,h1];simp
  show Calls _ _ _ _ fun e w'=>e=.returned (.int .i64 1)∧_
  by_cases a1:a < 1
  ·exact rord_h0 a b c d p q s t w a1
  by_cases a2:9999 < a
  ·exact rord_h1 a b c d p q s t w (by omega) a2
  by_cases b1:b < 1
  ·exact rord_h2 a b c d p q s t w (by omega) (by omega) b1
  by_cases b2:9 < b
  ·exact rord_h3 a b c d p q s t w (by omega) (by omega) (by omega) b2
  by_cases c1:1≤c∧c≤2
  ·by_cases d1:d < 1
   ·exact rord_h5 a b c d p q s t w (by omega) (by omega) (by omega) (by omega) (sdB_true c1) d1
   ·exact rord_h6 a b c d p q s t w (by omega) (by omega) (by omega) (by omega) (sdB_true c1) (by omega) (by omega)
  ·exact rord_h4 a b c d p q s t w (by omega) (by omega) (by omega) (by omega) (sdB_false c1)
 obtain⟨a1,a2,b1,b2,c1,c2,d1,d2⟩:=(head_iff a b c d p q s t).1 h1
 have cs:=sdB_true ⟨c1,c2⟩
 have eP:priceOkB ⟨a,b,c,d,p,q,s,t⟩=(if d=2 then decide (p=0) else prB p):=rfl
 cases h2:priceOkB ⟨a,b,c,d,p,q,s,t⟩
 ·show Calls _ _ _ _ fun e w'=>e=.returned (.int .i64 1)∧_
  by_cases k:d=2
  ·subst k
   rw[h2,if_pos rfl] at eP
   exact rord_p0 a b c p q s t w a1 a2 b1 b2 cs (of_decide_eq_false eP.symm)
  ·rw[h2,if_neg k] at eP
   exact rord_p1 a b c d p q s t w a1 a2 b1 b2 cs d1 d2 k (beq_no k) eP.symm
 rw[h2] at eP
 cases h3:qtyB ⟨a,b,c,d,p,q,s,t⟩
 ·have hn:¬(1≤q∧q≤10000∧0≤s∧s≤q):=by rw[←qty_iff a b c d p q s t,h3];simp
  show Calls _ _ _ _ fun e w'=>e=.returned (.int .i64 1)∧_
  by_cases k:d=2
  ·subst k
   rw[if_pos rfl] at eP
   have:=of_decide_eq_true eP.symm
   subst this
   by_cases q1:q < 1
   ·exact rord_q10 a b c q s t w a1 a2 b1 b2 cs q1
   by_cases q2:10000 < q
   ·exact rord_q11 a b c q s t w a1 a2 b1 b2 cs (by omega) q2
   by_cases s1:s < 0
   ·exact rord_q12 a b c q s t w a1 a2 b1 b2 cs (by omega) (by omega) s1
   ·exact rord_q13 a b c q s t w a1 a2 b1 b2 cs (by omega) (by omega) (by omega) (by omega)
  ·rw[if_neg k] at eP
   by_cases q1:q < 1
   ·exact rord_q20 a b c d p q s t w a1 a2 b1 b2 cs d1 d2 k (beq_no k) eP.symm q1
   by_cases q2:10000 < q
   ·exact rord_q21 a b c d p q s t w a1 a2 b1 b2 cs d1 d2 k (beq_no k) eP.symm (by omega) q2
   by_cases s1:s < 0
   ·exact rord_q22 a b c d p q s t w a1 a2 b1 b2 cs d1 d2 k (beq_no k) eP.symm (by omega) (by omega) s1
   ·exact rord_q23 a b c d p q s t w a1 a2 b1 b2 cs d1 d2 k (beq_no k) eP.symm (by omega) (by omega) (by omega) (by omega)
 obtain⟨q1,q2,s1,s2⟩:=(qty_iff a b c d p q s t).1 h3
 cases h4:shapeB ⟨a,b,c,d,p,q,s,t⟩
 ·have hn:¬(s=0∨d=1∨d=5):=by rw[←shape_iff a b c d p q s t,h4];simp
  show Calls _ _ _ _ fun e w'=>e=.returned (.int .i64 3)∧_
  have k0:¬s=0:=by omega
  have:d=2∨d=3∨d=4:=by omega
  rcases this with rfl|rfl|rfl
  ·rw[if_pos rfl] at eP
   have:=of_decide_eq_true eP.symm
   subst this
   exact rord_s1 a b c q s t w a1 a2 b1 b2 cs q1 q2 s1 s2 k0 (beq_no k0)
  ·rw[if_neg (by omega)] at eP
   exact rord_s3 a b c p q s t w a1 a2 b1 b2 cs eP.symm q1 q2 s1 s2 k0 (beq_no k0)
  ·rw[if_neg (by omega)] at eP
   exact rord_s4 a b c p q s t w a1 a2 b1 b2 cs eP.symm q1 q2 s1 s2 k0 (beq_no k0)
 have hs:=(shape_iff a b c d p q s t).1 h4
 by_cases t0:t=0
 ·subst t0
  have h5:stopB ⟨a,b,c,d,p,q,s,0⟩=true:=by unfold stopB;simp
  rw[h5]
  show Calls _ _ _ _ fun e w'=>e=.returned (.int .i64 0)∧_
  by_cases k0:s=0
  ·subst k0
   by_cases k:d=2
   ·subst k
    rw[if_pos rfl] at eP
    have:=of_decide_eq_true eP.symm
    subst this
    exact rord_t0a a b c q w a1 a2 b1 b2 cs q1 q2
   ·rw[if_neg k] at eP
    exact rord_t0b a b c d p q w a1 a2 b1 b2 cs d1 d2 k (beq_no k) eP.symm q1 q2
  ·have:d=1∨d=5:=by omega
   rcases this with rfl|rfl
   ·rw[if_neg (by omega)] at eP
    exact rord_t0c a b c p q s w a1 a2 b1 b2 cs eP.symm q1 q2 s1 s2 k0 (beq_no k0)
   ·rw[if_neg (by omega)] at eP
    exact rord_t0d a b c p q s w a1 a2 b1 b2 cs eP.symm q1 q2 s1 s2 k0 (beq_no k0)
 ·have e5:stopB ⟨a,b,c,d,p,q,s,t⟩=prB t:=by unfold stopB;simp[t0]
  rw[e5]
  cases h5:prB t
  ·show Calls _ _ _ _ fun e w'=>e=.returned (.int .i64 1)∧_
   by_cases k0:s=0
   ·subst k0
    by_cases k:d=2
    ·subst k
     rw[if_pos rfl] at eP
     have:=of_decide_eq_true eP.symm
     subst this
     exact rord_t1a a b c q t w a1 a2 b1 b2 cs q1 q2 t0 (beq_no t0) h5
    ·rw[if_neg k] at eP
     exact rord_t1b a b c d p q t w a1 a2 b1 b2 cs d1 d2 k (beq_no k) eP.symm q1 q2 t0 (beq_no t0) h5
   ·have:d=1∨d=5:=by omega
    rcases this with rfl|rfl
    ·rw[if_neg (by omega)] at eP
     exact rord_t1c a b c p q s t w a1 a2 b1 b2 cs eP.symm q1 q2 s1 s2 k0 (beq_no k0) t0 (beq_no t0) h5
    ·rw[if_neg (by omega)] at eP
     exact rord_t1d a b c p q s t w a1 a2 b1 b2 cs eP.symm q1 q2 s1 s2 k0 (beq_no k0) t0 (beq_no t0) h5
  ·show Calls _ _ _ _ fun e w'=>e=.returned (.int .i64 0)∧_
   by_cases k0:s=0
   ·subst k0
    by_cases k:d=2
    ·subst k
     rw[if_pos rfl] at eP
     have:=of_decide_eq_true eP.symm
     subst this
     exact rord_t2a a b c q t w a1 a2 b1 b2 cs q1 q2 t0 (beq_no t0) h5
    ·rw[if_neg k] at eP
     exact rord_t2b a b c d p q t w a1 a2 b1 b2 cs d1 d2 k (beq_no k) eP.symm q1 q2 t0 (beq_no t0) h5
   ·have:d=1∨d=5:=by omega
    rcases this with rfl|rfl
    ·rw[if_neg (by omega)] at eP
     exact rord_t2c a b c p q s t w a1 a2 b1 b2 cs eP.symm q1 q2 s1 s2 k0 (beq_no k0) t0 (beq_no t0) h5
    ·rw[if_neg (by omega)] at eP
     exact rord_t2d a b c p q s t w a1 a2 b1 b2 cs eP.symm q1 q2 s1 s2 k0 (beq_no k0) t0 (beq_no t0) h5
end Go.Proofs.YtnjpjieedgmffaaGreatDoor.ord
namespace Go.Proofs.YtnjpjieedgmffaaGreatDoor.mee
open Go.RowKit spn que sid bok
open ord (O oV mB mE chk rord_any)
theorem rfind_in (bs ss:List L) (id:Int):(rfindP bs ss id).1=0↔inBook bs ss id=false:=by
 have h1:=atGo_mem id bs 0 (Int.le_refl _)
 have h2:=atGo_mem id ss 0 (Int.le_refl _)
 have e1:(allR bs).map (·.id)=ids bs:=allR_ids bs
 have e2:(allR ss).map (·.id)=ids ss:=allR_ids ss
 rw[e1] at h1
 rw[e2] at h2
 unfold inBook rfindP
 by_cases g1:0≤(atGo id 0 bs).1
 ·rw[if_pos g1,decide_eq_true (.inl (h1.1 g1))];simp
 ·rw[if_neg g1]
  by_cases g2:0≤(atGo id 0 ss).1
  ·rw[if_pos g2,decide_eq_true (.inr (h2.1 g2))];simp
  ·rw[if_neg g2,decide_eq_false (by rintro(h|h);exact g1 (h1.2 h);exact g2 (h2.2 h))];simp
set_option maxRecDepth 100000 in
set_option maxHeartbeats 2000000 in
theorem rcomes_any (q1 q2:Option Addr) (n1 n2 c1 c2:Nat) (bs ss:List L) (a b c d p q s t:Int) (w:World) (h1:LS w (.slice q1 n1 c1) bs) (h2:LS w (.slice q2 n2 c2) ss) :
  Calls Tryz.prog 4 #[.agg #[.slice q1 n1 c1,.slice q2 n2 c2],.agg #[.int .i64 a,.int .i64 b,.int .i64 c,.int .i64 d,.int .i64 p,.int .i64 q,.int .i64 s,.int .i64 t]] w fun e w'=>e=.returned (.int .i64 (comeE bs ss ⟨a,b,c,d,p,q,s,t⟩))∧Below w.heap.size w w':=by
 have HBK:Hid (∀W,Below w.heap.size w W→Calls Tryz.prog 11 #[.agg #[.slice q1 n1 c1,.slice q2 n2 c2]] W fun e w'=>e=.returned (.int .i64 (bookE bs ss))∧Below W.heap.size W w'):=fun W hW=>rbook_any q1 q2 n1 n2 c1 c2 bs ss W (h1.below hW) (h2.below hW)
 have HOR:Hid (∀W,Calls Tryz.prog 12 #[.agg #[.int .i64 a,.int .i64 b,.int .i64 c,.int .i64 d,.int .i64 p,.int .i64 q,.int .i64 s,.int .i64 t]] W fun e w'=>e=.returned (.int .i64 (chk ⟨a,b,c,d,p,q,s,t⟩))∧Below W.heap.size W w'):=fun W=>rord_any ⟨a,b,c,d,p,q,s,t⟩ W
 have HFI:Hid (∀W,Below w.heap.size w W→Calls Tryz.prog 13 #[.agg #[.slice q1 n1 c1,.slice q2 n2 c2],.int .i64 a] W fun e w'=>e=.returned (.tuple #[.int .i64 (rfindP bs ss a).1,.int .i64 (rfindP bs ss a).2.1,.int .i64 (rfindP bs ss a).2.2])∧Below W.heap.size W w'):=fun W hW=>rfind_any q1 q2 n1 n2 c1 c2 bs ss a W (h1.below hW) (h2.below hW)
 have hRI:=rfind_in bs ss a
 have hCE:comeE bs ss ⟨a,b,c,d,p,q,s,t⟩=if bookE bs ss=0 then (if chk ⟨a,b,c,d,p,q,s,t⟩=0 then (if t=0 then (if inBook bs ss a=true then 7 else 0) else 6) else chk ⟨a,b,c,d,p,q,s,t⟩) else bookE bs ss:=rfl
 obtain⟨V,hV⟩:∃V,V=(w.alloc (.cells #[.slice q1 n1 c1,.slice q2 n2 c2] 24)).alloc (.cells #[.int .i64 a,.int .i64 b,.int .i64 c,.int .i64 d,.int .i64 p,.int .i64 q,.int .i64 s,.int .i64 t] 26):=⟨_,rfl⟩
 have HB:Hid (Below w.heap.size w V):=by rw[hV];exact((bzR _ _).alloc (nzR _) _).alloc (by simp) _
 have hR:V.heap[w.heap.size+1]?=some (.cells #[.int .i64 a,.int .i64 b,.int .i64 c,.int .i64 d,.int .i64 p,.int .i64 q,.int .i64 s,.int .i64 t] 26 (0,0)):=by
  rw[hV]
  have:=heap_alloc_new (w.alloc (.cells #[.slice q1 n1 c1,.slice q2 n2 c2] 24)) (.cells #[.int .i64 a,.int .i64 b,.int .i64 c,.int .i64 d,.int .i64 p,.int .i64 q,.int .i64 s,.int .i64 t] 26)
  simpa using this
 have hR0:V.heap[w.heap.size]?=some (.cells #[.slice q1 n1 c1,.slice q2 n2 c2] 24 (0,0)):=by
  have hb:Below (w.heap.size+1) (w.alloc (.cells #[.slice q1 n1 c1,.slice q2 n2 c2] 24)) V:=by rw[hV];exact(bzR _ _).alloc (by simp) _
  rw[hb.block w.heap.size (Nat.lt_succ_self _)]
  exact heap_alloc_new w _
 have u0:V.cell? ⟨w.heap.size,0,none⟩=some (.slice q1 n1 c1):=by simp[World.cell?,hR0]
 have u1:V.cell? ⟨w.heap.size,1,none⟩=some (.slice q2 n2 c2):=by simp[World.cell?,hR0]
 have v0:V.cell? ⟨w.heap.size+1,0,none⟩=some (.int .i64 a):=by simp[World.cell?,hR]
 have v1:V.cell? ⟨w.heap.size+1,1,none⟩=some (.int .i64 b):=by simp[World.cell?,hR]
 have v2:V.cell? ⟨w.heap.size+1,2,none⟩=some (.int .i64 c):=by simp[World.cell?,hR]
 have v3:V.cell? ⟨w.heap.size+1,3,none⟩=some (.int .i64 d):=by simp[World.cell?,hR]
 have v4:V.cell? ⟨w.heap.size+1,4,none⟩=some (.int .i64 p):=by simp[World.cell?,hR]
 have v5:V.cell? ⟨w.heap.size+1,5,none⟩=some (.int .i64 q):=by simp[World.cell?,hR]
 have v6:V.cell? ⟨w.heap.size+1,6,none⟩=some (.int .i64 s):=by simp[World.cell?,hR]
 have v7:V.cell? ⟨w.heap.size+1,7,none⟩=some (.int .i64 t):=by simp[World.cell?,hR]
 have SO:Hid (∀W,Below V.heap.size V W→W.cell? ⟨w.heap.size,0,none⟩=some (.slice q1 n1 c1)∧W.cell? ⟨w.heap.size,1,none⟩=some (.slice q2 n2 c2)∧W.cell? ⟨w.heap.size+1,0,none⟩=some (.int .i64 a)∧W.cell? ⟨w.heap.size+1,1,none⟩=some (.int .i64 b)∧W.cell? ⟨w.heap.size+1,2,none⟩=some (.int .i64 c)∧W.cell? ⟨w.heap.size+1,3,none⟩=some (.int .i64 d)∧W.cell? ⟨w.heap.size+1,4,none⟩=some (.int .i64 p)∧W.cell? ⟨w.heap.size+1,5,none⟩=some (.int .i64 q)∧W.cell? ⟨w.heap.size+1,6,none⟩=some (.int .i64 s)∧W.cell? ⟨w.heap.size+1,7,none⟩=some (.int .i64 t)):=fun W hW=>⟨keeps hW u0,keeps hW u1,keeps hW v0,keeps hW v1,keeps hW v2,keeps hW v3,keeps hW v4,keeps hW v5,keeps hW v6,keeps hW v7⟩
 clear h1 h2 hR hR0 v0 v1 v2 v3 v4 v5 v6 v7
 generalize comeE bs ss ⟨a,b,c,d,p,q,s,t⟩=E at *
 generalize bookE bs ss=e1 at *
 generalize chk ⟨a,b,c,d,p,q,s,t⟩=e2 at *
 generalize inBook bs ss a=ib at *
 generalize rfindP bs ss a=P at *
 obtain⟨p1,p2,p3⟩:=P
 simp only[] at hRI HFI
 go_enter Tryz.func4,Tryz.ntmps4
 go_wp2_with fail
 rw[←hV]
 clear hV
 refine(HBK.out V HB.out).mono ?_
 rintro x w1 ⟨rfl,bw1⟩
 have HB1:Hid (Below V.heap.size V w1):=bw1
 clear bw1 HBK u0 u1
 obtain⟨x0,x1,y0,y1,y2,y3,y4,y5,y6,y7⟩:=SO.out w1 HB1.out
 have hlt:w.heap.size+1 < w1.heap.size:=World.block_lt_of_cell? w1 ⟨w.heap.size+1,5,none⟩ y5
 by_cases z1:e1=0
 ·subst z1
  rw[if_pos rfl] at hCE
  have HCE:=hid_of hCE
  have HRI:=hid_of hRI
  clear hCE hRI
  go_wp2_with fail
  refine(HOR.out w1).mono ?_
  rintro x w2 ⟨rfl,bw2⟩
  have HB2:Hid (Below V.heap.size V w2):=HB1.out.trans (bw2.mono HB1.out.size)
  clear bw2 HOR x0 x1 y0 y1 y2 y3 y4 y5 y6 y7 hlt
  obtain⟨x0,x1,y0,y1,y2,y3,y4,y5,y6,y7⟩:=SO.out w2 HB2.out
  have hlt:w.heap.size+1 < w2.heap.size:=World.block_lt_of_cell? w2 ⟨w.heap.size+1,5,none⟩ y5
  by_cases z2:e2=0
  ·subst z2
   by_cases z3:t=0
   ·subst z3
    go_wp2_with fail
    refine(HFI.out w2 (HB.out.trans (HB2.out.mono HB.out.size))).mono ?_
    rintro x w3 ⟨rfl,bw3⟩
    have HB3:Hid (Below w.heap.size w w3):=(HB.out.trans (HB2.out.mono HB.out.size)).trans (bw3.mono (HB.out.trans (HB2.out.mono HB.out.size)).size)
    clear bw3 HFI x0 x1 y0 y1 y2 y3 y4 y5 y6 y7 hlt SO
    by_cases z4:p1=0
    ·have HE:Hid (E=0):=by show E=0;have h:=HCE.out;rw[HRI.out.1 z4] at h;simpa using h
     obtain rfl:=HE.out
     subst z4
     go_wp2_with fail
     go_ret
     exact⟨rfl,HB3.out⟩
    ·have HE:Hid (E=7):=by
      have h:=HCE.out
      cases ib with
      | false=>exact absurd (HRI.out.2 rfl) z4
      | true=>show E=7;simpa using h
     obtain rfl:=HE.out
     have z5:(p1 == 0)=false:=by simpa using z4
     go_wp2_with fail
     go_ret
     exact⟨rfl,HB3.out⟩
   ·have HE:Hid (E=6):=by have h:=HCE.out;rw[if_pos rfl,if_neg z3] at h;exact h
    obtain rfl:=HE.out
    have z5:(t == 0)=false:=by simpa using z3
    go_wp2_with fail
    go_ret
    exact⟨rfl,HB.out.trans (HB2.out.mono HB.out.size)⟩
  ·have HE:Hid (E=e2):=by have h:=HCE.out;rw[if_neg z2] at h;exact h
   obtain rfl:=HE.out
   have z5:(E == 0)=false:=by simpa using z2
   go_wp2_with fail
   go_ret
   exact⟨rfl,HB.out.trans (HB2.out.mono HB.out.size)⟩
 ·rw[if_neg z1] at hCE
  subst hCE
  have z5:(E == 0)=false:=by simpa using z1
  clear HOR HFI hRI
  go_wp2_with fail
  go_ret
  exact⟨rfl,HB.out.trans (HB1.out.mono HB.out.size)⟩
end Go.Proofs.YtnjpjieedgmffaaGreatDoor.mee
namespace Go.Proofs.YtnjpjieedgmffaaGreatDoor.que
open Go.RowKit spn
theorem cells_new {w w1:World}{a b c d e:Int}(hb1:Below (w.alloc (.cells #[.int .i64 a,.int .i64 b,.int .i64 c,.int .i64 d,.int .i64 e] 55)).heap.size (w.alloc (.cells #[.int .i64 a,.int .i64 b,.int .i64 c,.int .i64 d,.int .i64 e] 55)) w1) :
  w1.heap[w.heap.size]?=some (.cells #[.int .i64 a,.int .i64 b,.int .i64 c,.int .i64 d,.int .i64 e] 55 (0,0)):=by
 rw[hb1.block w.heap.size (by simp)]
 exact heap_alloc_new w _
set_option maxRecDepth 100000 in
set_option maxHeartbeats 1000000 in
theorem fill_good (b o c L:Nat) (a1 b1 q d e:Int) (t:List R) (n:Int) (w:World) (hL:t.length+1=L) (hb:b < w.heap.size) (hc:L≤c) (hm:c≤9223372036854775807) (h60:L≤60) (hl:Lies w b o (⟨a1,b1,q,d,e⟩::t))
  (hq1:1≤q) (hq2:q≤10000) (hd1:0≤d) (hd2:d≤10000) (he1:0≤e) (he2:e≤10000) (hn1:1≤n) (hn2:n≤10000) :
  Calls Tryz.prog 34 #[.slice (some ⟨b,o,none⟩) L c,.int .i64 n] w fun x w'=>∃v,x=.returned (.tuple #[.int .i64 (min n q),v])∧OwnQ w' w.heap.size v (tk1 (min n q) ⟨a1,b1,q,d,e⟩ t)∧Below w.heap.size w w':=by
 obtain⟨c0,c1,c2,c3,c4⟩:=lies_at hl (show 0 < (⟨a1,b1,q,d,e⟩::t:List R).length by simp) rfl
 rw[Nat.zero_mul,Nat.add_zero] at c0 c1 c2 c3 c4
 have HL:Hid (Lies w b o (⟨a1,b1,q,d,e⟩::t)):=hl
 have HN:Hid (t.length+1=L):=hL
 clear hl hL
 have hL0:(0:Int) < (L:Int):=by have:=HN.out;omega
 have HW:Hid (Calls Tryz.prog 57 #[.slice (some ⟨b,o,none⟩) L c,.int .i64 0] (w.alloc (.cells #[.int .i64 a1,.int .i64 b1,.int .i64 q,.int .i64 d,.int .i64 e] 55)) fun x w'=>∃v,x=.returned v∧OwnQ w' (w.alloc (.cells #[.int .i64 a1,.int .i64 b1,.int .i64 q,.int .i64 d,.int .i64 e] 55)).heap.size v t∧Below (w.alloc (.cells #[.int .i64 a1,.int .i64 b1,.int .i64 q,.int .i64 d,.int .i64 e] 55)).heap.size (w.alloc (.cells #[.int .i64 a1,.int .i64 b1,.int .i64 q,.int .i64 d,.int .i64 e] 55)) w'):=by
  have:=without_some b o c L (⟨a1,b1,q,d,e⟩::t) 0 (w.alloc (.cells #[.int .i64 a1,.int .i64 b1,.int .i64 q,.int .i64 d,.int .i64 e] 55)) HN.out (by simp;omega) hc hm (by omega) (HL.out.below hb ((bzR _ _).alloc (nzR _) _)) (by have:=HN.out;omega)
  exact this
 have e1:wrap64 (q - n)=q - n:=by unfold wrap64;omega
 go_enter Tryz.func34,Tryz.ntmps34
 go_wp2_with fail
 refine HW.out.mono ?_
 rintro x w1 ⟨v1,rfl,hO1,hb1⟩
 have hR:=cells_new hb1
 have HB1:Hid (Below w.heap.size w w1):=((bzR _ _).alloc (nzR _) _).trans (hb1.mono (by simp))
 have HO1:Hid (OwnQ w1 (w.heap.size+1) v1 t):=by
  have h:=hO1
  rw[show (w.alloc (.cells #[.int .i64 a1,.int .i64 b1,.int .i64 q,.int .i64 d,.int .i64 e] 55)).heap.size=w.heap.size+1 by simp] at h
  exact h
 have hz:w.heap.size < w1.heap.size:=by have:=hb1.size;simp at this;omega
 clear hb1 hO1 HW c0 c1 c2 c3 c4
 have d0:w1.cell? ⟨w.heap.size,0,none⟩=some (.int .i64 a1):=by simp[World.cell?,hR]
 have d1:w1.cell? ⟨w.heap.size,1,none⟩=some (.int .i64 b1):=by simp[World.cell?,hR]
 have d2:w1.cell? ⟨w.heap.size,2,none⟩=some (.int .i64 q):=by simp[World.cell?,hR]
 have d3:w1.cell? ⟨w.heap.size,3,none⟩=some (.int .i64 d):=by simp[World.cell?,hR]
 have d4:w1.cell? ⟨w.heap.size,4,none⟩=some (.int .i64 e):=by simp[World.cell?,hR]
 have hf:∀j,w1.frozen? ⟨w.heap.size,j,none⟩=false:=fun j=>frozen_of_row w1 _ j _ _ hR
 have f2:=hf 2
 have f3:=hf 3
 clear hf hR
 have HNE:Hid (v1.ownBlock=none∨v1.ownBlock≠some w.heap.size):=by
  cases h:v1.ownBlock with
  | none=>exact .inl rfl
  | some k=>
   right
   intro he
   have:=(HO1.out.lt k h).1
   simp only[Option.some.injEq] at he
   omega
 by_cases hk:n < q
 ·have hX:w1.grownBy (w1.setCell ⟨w.heap.size,2,none⟩ (.int .i64 (q - n))) (some w.heap.size):=grown_set _ _ _ _
  have hOX:=HO1.out.kept hX HNE.out
  have hBX:Below w.heap.size w (w1.setCell ⟨w.heap.size,2,none⟩ (.int .i64 (q - n))):=HB1.out.setCell (nzR _) _
  have hown:=one_own (w1.setCell ⟨w.heap.size,2,none⟩ (.int .i64 (q - n))) w.heap.size a1 b1 (q - n) d e hBX.size
  rw[show (w1.setCell ⟨w.heap.size,2,none⟩ (.int .i64 (q - n))).heap.size=w1.heap.size by simp] at hown
  have hBW:Below w.heap.size w ((w1.setCell ⟨w.heap.size,2,none⟩ (.int .i64 (q - n))).alloc (.cells #[.int .i64 a1,.int .i64 b1,.int .i64 (q - n),.int .i64 d,.int .i64 e] 55)):=hBX.alloc hBX.size _
  obtain⟨v2,w2,hR,hO2,hgr,hat⟩:=run_append_q _ w.heap.size _ v1 [⟨a1,b1,q - n,d,e⟩] t hown (OwnQ.sl (hOX.below ((bzR _ _).alloc (nzR _) _))) (by have:=HN.out;simp;omega) hBW.size
  have HR:Hid ((Builtin.append_ #[49,49] 49 #[.slice (some ⟨w1.heap.size,0,none⟩) 1 1,v1]).run Tryz.prog ((w1.setCell ⟨w.heap.size,2,none⟩ (.int .i64 (q - n))).alloc (.cells #[.int .i64 a1,.int .i64 b1,.int .i64 (q - n),.int .i64 d,.int .i64 e] 55))=.ok v2 w2):=hR
  have HO2:Hid (OwnQ w2 w.heap.size v2 (tk1 (min n q) ⟨a1,b1,q,d,e⟩ t)):=by
   show OwnQ _ _ _ _
   rw[Int.min_eq_left (Int.le_of_lt hk),tk1_less hk]
   exact hO2
  have HB2:Hid (Below w.heap.size w w2):=hBW.grown hgr hBW.size (fun k hk=>(hown.lt k hk).1)
  have hmin:min n q=n:=Int.min_eq_left (Int.le_of_lt hk)
  clear hX hOX hBX hown hBW hR hO2 hgr hat
  go_wp2_with (at_builtin;refine Lib.wpList_append_run _ rfl _ _ _ _ rfl _ _ rfl rfl _ _ HR.out ?_)
  go_ret2
  exact⟨_,by rw[hmin];rfl,HO2.out,HB2.out⟩
 ·by_cases hd0:d=0
  ·subst hd0
   have HO2:Hid (OwnQ w1 w.heap.size v1 (tk1 (min n q) ⟨a1,b1,q,0,e⟩ t)):=by
    show OwnQ _ _ _ _
    rw[Int.min_eq_right (by omega),tk1_gone]
    exact HO1.out.up' (by omega)
   have hmin:min n q=q:=Int.min_eq_right (by omega)
   go_wp2_with fail
   go_ret2
   exact⟨_,by rw[hmin];rfl,HO2.out,HB1.out⟩
  ·have hd3:(d == 0)=false:=by simp[hd0]
   have e2:wrap64 (d - e)=d - e:=by unfold wrap64;omega
   by_cases hde:d < e
   ·have hX:w1.grownBy (((w1.setCell ⟨w.heap.size,2,none⟩ (.int .i64 e)).setCell ⟨w.heap.size,2,none⟩ (.int .i64 d)).setCell ⟨w.heap.size,3,none⟩ (.int .i64 0)) (some w.heap.size):=grown_trans (grown_trans (grown_set _ _ _ _) (grown_set _ _ _ _)) (grown_set _ _ _ _)
    have hOX:=HO1.out.kept hX HNE.out
    have hBX:Below w.heap.size w (((w1.setCell ⟨w.heap.size,2,none⟩ (.int .i64 e)).setCell ⟨w.heap.size,2,none⟩ (.int .i64 d)).setCell ⟨w.heap.size,3,none⟩ (.int .i64 0)):=((HB1.out.setCell (nzR _) _).setCell (nzR _) _).setCell (nzR _) _
    have hsl:=OwnQ.sl (one_own (((w1.setCell ⟨w.heap.size,2,none⟩ (.int .i64 e)).setCell ⟨w.heap.size,2,none⟩ (.int .i64 d)).setCell ⟨w.heap.size,3,none⟩ (.int .i64 0)) w.heap.size a1 b1 d 0 e hBX.size)
    rw[show (((w1.setCell ⟨w.heap.size,2,none⟩ (.int .i64 e)).setCell ⟨w.heap.size,2,none⟩ (.int .i64 d)).setCell ⟨w.heap.size,3,none⟩ (.int .i64 0)).heap.size=w1.heap.size by simp] at hsl
    have hBW:Below w.heap.size w ((((w1.setCell ⟨w.heap.size,2,none⟩ (.int .i64 e)).setCell ⟨w.heap.size,2,none⟩ (.int .i64 d)).setCell ⟨w.heap.size,3,none⟩ (.int .i64 0)).alloc (.cells #[.int .i64 a1,.int .i64 b1,.int .i64 d,.int .i64 0,.int .i64 e] 55)):=hBX.alloc hBX.size _
    have hown:=hOX.below ((bzR _ _).alloc (nzR _) (.cells #[.int .i64 a1,.int .i64 b1,.int .i64 d,.int .i64 0,.int .i64 e] 55))
    obtain⟨v2,w2,hR,hO2,hgr,hat⟩:=run_append_q _ (w.heap.size+1) v1 _ t [⟨a1,b1,d,0,e⟩] hown hsl (by have:=HN.out;simp;omega) (by simp;omega)
    have HR:Hid ((Builtin.append_ #[49,49] 49 #[v1,.slice (some ⟨w1.heap.size,0,none⟩) 1 1]).run Tryz.prog ((((w1.setCell ⟨w.heap.size,2,none⟩ (.int .i64 e)).setCell ⟨w.heap.size,2,none⟩ (.int .i64 d)).setCell ⟨w.heap.size,3,none⟩ (.int .i64 0)).alloc (.cells #[.int .i64 a1,.int .i64 b1,.int .i64 d,.int .i64 0,.int .i64 e] 55))=.ok v2 w2):=hR
    have HO2:Hid (OwnQ w2 w.heap.size v2 (tk1 (min n q) ⟨a1,b1,q,d,e⟩ t)):=by
     show OwnQ _ _ _ _
     rw[Int.min_eq_right (by omega),tk1_back hd0,show min e d=d by omega,Int.sub_self]
     exact hO2.up' (by omega)
    have HB2:Hid (Below w.heap.size w w2):=hBW.grown hgr hBW.size (fun k hk=>by have:=(hown.lt k hk).1;omega)
    have hmin:min n q=q:=Int.min_eq_right (by omega)
    clear hX hOX hBX hown hBW hR hO2 hgr hat hsl
    go_wp2_with (at_builtin;refine Lib.wpList_append_run _ rfl _ _ _ _ rfl _ _ rfl rfl _ _ HR.out ?_)
    go_ret2
    exact⟨_,by rw[hmin];rfl,HO2.out,HB2.out⟩
   ·have hX:w1.grownBy ((w1.setCell ⟨w.heap.size,2,none⟩ (.int .i64 e)).setCell ⟨w.heap.size,3,none⟩ (.int .i64 (d - e))) (some w.heap.size):=grown_trans (grown_set _ _ _ _) (grown_set _ _ _ _)
    have hOX:=HO1.out.kept hX HNE.out
    have hBX:Below w.heap.size w ((w1.setCell ⟨w.heap.size,2,none⟩ (.int .i64 e)).setCell ⟨w.heap.size,3,none⟩ (.int .i64 (d - e))):=(HB1.out.setCell (nzR _) _).setCell (nzR _) _
    have hsl:=OwnQ.sl (one_own ((w1.setCell ⟨w.heap.size,2,none⟩ (.int .i64 e)).setCell ⟨w.heap.size,3,none⟩ (.int .i64 (d - e))) w.heap.size a1 b1 e (d - e) e hBX.size)
    rw[show ((w1.setCell ⟨w.heap.size,2,none⟩ (.int .i64 e)).setCell ⟨w.heap.size,3,none⟩ (.int .i64 (d - e))).heap.size=w1.heap.size by simp] at hsl
    have hBW:Below w.heap.size w (((w1.setCell ⟨w.heap.size,2,none⟩ (.int .i64 e)).setCell ⟨w.heap.size,3,none⟩ (.int .i64 (d - e))).alloc (.cells #[.int .i64 a1,.int .i64 b1,.int .i64 e,.int .i64 (d - e),.int .i64 e] 55)):=hBX.alloc hBX.size _
    have hown:=hOX.below ((bzR _ _).alloc (nzR _) (.cells #[.int .i64 a1,.int .i64 b1,.int .i64 e,.int .i64 (d - e),.int .i64 e] 55))
    obtain⟨v2,w2,hR,hO2,hgr,hat⟩:=run_append_q _ (w.heap.size+1) v1 _ t [⟨a1,b1,e,(d - e),e⟩] hown hsl (by have:=HN.out;simp;omega) (by simp;omega)
    have HR:Hid ((Builtin.append_ #[49,49] 49 #[v1,.slice (some ⟨w1.heap.size,0,none⟩) 1 1]).run Tryz.prog (((w1.setCell ⟨w.heap.size,2,none⟩ (.int .i64 e)).setCell ⟨w.heap.size,3,none⟩ (.int .i64 (d - e))).alloc (.cells #[.int .i64 a1,.int .i64 b1,.int .i64 e,.int .i64 (d - e),.int .i64 e] 55))=.ok v2 w2):=hR
    have HO2:Hid (OwnQ w2 w.heap.size v2 (tk1 (min n q) ⟨a1,b1,q,d,e⟩ t)):=by
     show OwnQ _ _ _ _
     rw[Int.min_eq_right (by omega),tk1_back hd0,show min e d=e by omega]
     exact hO2.up' (by omega)
    have HB2:Hid (Below w.heap.size w w2):=hBW.grown hgr hBW.size (fun k hk=>by have:=(hown.lt k hk).1;omega)
    have hmin:min n q=q:=Int.min_eq_right (by omega)
    clear hX hOX hBX hown hBW hR hO2 hgr hat hsl
    go_wp2_with (at_builtin;refine Lib.wpList_append_run _ rfl _ _ _ _ rfl _ _ rfl rfl _ _ HR.out ?_)
    go_ret2
    exact⟨_,by rw[hmin];rfl,HO2.out,HB2.out⟩
end Go.Proofs.YtnjpjieedgmffaaGreatDoor.que
