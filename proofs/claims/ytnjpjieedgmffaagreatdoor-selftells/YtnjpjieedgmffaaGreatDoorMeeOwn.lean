import Derived.Test.YtnjpjieedgmffaaGreatDoorBokFind
import Derived.Test.YtnjpjieedgmffaaGreatDoorSidLay
import Derived.Test.YtnjpjieedgmffaaGreatDoorSidAdd
import Derived.Test.YtnjpjieedgmffaaGreatDoorQueOwn
import Derived.Test.YtnjpjieedgmffaaGreatDoorQueTake1
import Derived.Test.YtnjpjieedgmffaaGreatDoorBokPut2
import Derived.Test.YtnjpjieedgmffaaGreatDoorSidPure
import Derived.Test.YtnjpjieedgmffaaGreatDoorSidPut
import Derived.Test.YtnjpjieedgmffaaGreatDoorMeeLvl
namespace Go.Proofs.YtnjpjieedgmffaaGreatDoor.bok
open Go.RowKit spn que sid
theorem rof_any (s:Int) (q1 q2:Option Addr) (n1 n2 c1 c2:Nat) (w:World) :
  Calls Tryz.prog 15 #[.agg #[.slice q1 n1 c1,.slice q2 n2 c2],.int .i64 s] w fun e w'=>e=.returned (if s=1 then .slice q1 n1 c1 else .slice q2 n2 c2)∧Below w.heap.size w w':=by
 by_cases hs:s=1
 ·rw[if_pos hs]
  subst hs
  go_enter Tryz.func15,Tryz.ntmps15
  go_wp2
  go_ret
  exact⟨rfl,(bzR _ _).alloc (nzR _) _⟩
 ·rw[if_neg hs]
  have h1:(s == 1)=false:=by simpa using hs
  go_enter Tryz.func15,Tryz.ntmps15
  go_wp2
  go_ret
  exact⟨rfl,(bzR _ _).alloc (nzR _) _⟩
def wholeE (bs ss:List L):Int:=if crossB bs ss=true then 8 else if twiceB (allR bs++allR ss)=true then 7 else if 60 < (allR bs++allR ss).length then 4 else 0
theorem hid_of {P:Prop}(h:P):Hid P:=h
set_option maxRecDepth 100000 in
set_option maxHeartbeats 2000000 in
theorem rwhole_any (q1 q2:Option Addr) (n1 n2 c1 c2:Nat) (bs ss:List L) (w:World) (h1:LS w (.slice q1 n1 c1) bs) (h2:LS w (.slice q2 n2 c2) ss) (hc1:cnt bs≤60) (hc2:cnt ss≤60) :
  Calls Tryz.prog 28 #[.agg #[.slice q1 n1 c1,.slice q2 n2 c2]] w fun e w'=>e=.returned (.int .i64 (wholeE bs ss))∧Below w.heap.size w w':=by
 have hl1:=ls_len h1
 have hl2:=ls_len h2
 have H1:Hid (∀W,Below w.heap.size w W→LS W (.slice q1 n1 c1) bs):=fun W hW=>h1.below hW
 have H2:Hid (∀W,Below w.heap.size w W→LS W (.slice q2 n2 c2) ss):=fun W hW=>h2.below hW
 obtain⟨V,hV⟩:∃V,V=w.alloc (.cells #[.slice q1 n1 c1,.slice q2 n2 c2] 24):=⟨_,rfl⟩
 have hB:Below w.heap.size w V:=by rw[hV];exact(bzR _ _).alloc (nzR _) _
 have hR:V.heap[w.heap.size]?=some (.cells #[.slice q1 n1 c1,.slice q2 n2 c2] 24 (0,0)):=by rw[hV];exact heap_alloc_new w _
 have v0:V.cell? ⟨w.heap.size,0,none⟩=some (.slice q1 n1 c1):=by simp[World.cell?,hR]
 have v1:V.cell? ⟨w.heap.size,1,none⟩=some (.slice q2 n2 c2):=by simp[World.cell?,hR]
 have hVs:w.heap.size < V.heap.size:=(gzE.1 hR).1
 have HB:Hid (Below w.heap.size w V):=hB
 have HF1:Hid (∀W,Below w.heap.size w W→Calls Tryz.prog 55 #[.slice q1 n1 c1] W fun e w'=>∃u,e=.returned u∧OwnQ w' W.heap.size u (allR bs)∧Below W.heap.size W w'):=fun W hW=>rflat_any _ bs W (H1.out W hW) hc1
 have HF2:Hid (∀W,Below w.heap.size w W→Calls Tryz.prog 55 #[.slice q2 n2 c2] W fun e w'=>∃u,e=.returned u∧OwnQ w' W.heap.size u (allR ss)∧Below W.heap.size W w'):=fun W hW=>rflat_any _ ss W (H2.out W hW) hc2
 have hA1:(allR bs).length≤60:=by have:=cnt_allR bs;omega
 have hA2:(allR ss).length≤60:=by have:=cnt_allR ss;omega
 have HTW:Hid (∀W v,SL W v (allR bs++allR ss)→Calls Tryz.prog 54 #[v] W fun e w'=>e=.returned (.bool (twiceB (allR bs++allR ss)))∧Below W.heap.size W w'):=fun W v h=>rtwice_any v _ W h
 have hWE:wholeE bs ss=if crossB bs ss=true then 8 else if twiceB (allR bs++allR ss)=true then 7 else if 60 < (allR bs++allR ss).length then 4 else 0:=rfl
 obtain⟨AR,hAR⟩:∃AR,allR bs++allR ss=AR:=⟨_,rfl⟩
 have HAR:Hid (allR bs++allR ss=AR):=hAR
 rw[hAR] at HTW hWE
 clear hAR
 generalize twiceB AR=tw at *
 by_cases e1:bs=[]
 ·have ec:crossB bs ss=false:=by rw[e1];rfl
  have hE:wholeE bs ss=if tw=true then 7 else if 60 < AR.length then 4 else 0:=by rw[hWE,if_neg (by rw[ec];simp)]
  have HE:=hid_of hE
  clear hE
  generalize wholeE bs ss=E at *
  have hn1:n1=0:=by rw[hl1,e1];rfl
  subst hn1
  clear hl1 hl2 h1 h2 ec e1 hWE hR hc1 hc2 H1 H2 hB
  go_enter Tryz.func28,Tryz.ntmps28
  go_upto_region 1 with fail
  rw[←hV]
  clear hV
  go_quiet (fail)
  go_wp2_with fail
  have HBn:Hid (Below w.heap.size w (V.drewN nq)):=belowN HB.out nq
  have y1:(V.drewN nq).cell? ⟨w.heap.size,1,none⟩=some (.slice q2 n2 c2):=v1
  have hys:w.heap.size < (V.drewN nq).heap.size:=hVs
  clear v0 v1 hVs HB
  generalize V.drewN nq=V1 at *
  refine(HF1.out _ HBn.out).mono ?_
  rintro e w1 ⟨u,rfl,hO1,bw1⟩
  have x1:=keeps bw1 y1
  have hxs:w.heap.size < w1.heap.size:=Nat.lt_of_lt_of_le hys bw1.size
  have HB1:Hid (Below w.heap.size w w1):=HBn.out.trans (bw1.mono HBn.out.size)
  have HO1:Hid (OwnQ w1 V1.heap.size u (allR bs)):=hO1
  have HS1:Hid (V1.heap.size≤w1.heap.size):=bw1.size
  clear HF1 hO1 bw1 y1 hys
  obtain⟨qu,cu,rfl⟩:=OwnM.form HO1.out
  go_wp2_with fail
  refine(HF2.out _ HB1.out).mono ?_
  rintro e w2 ⟨u2,rfl,hO2,bw2⟩
  have HB2:Hid (Below w.heap.size w w2):=HB1.out.trans (bw2.mono HB1.out.size)
  obtain⟨v3,w3,hap,hO3,hg3,-⟩:=run_append_q w2 V1.heap.size (.slice qu (allR bs).length cu) u2 (allR bs) (allR ss) (OwnM.below HO1.out bw2) (OwnQ.sl hO2) (by omega) (Nat.le_trans HS1.out bw2.size)
  have HB3:Hid (Below w.heap.size w w3):=HB2.out.grown hg3 HB2.out.size (fun k hk=>Nat.le_trans HBn.out.size ((OwnM.lt (OwnM.below HO1.out bw2) k hk).1))
  rw[HAR.out] at hO3
  obtain⟨q3,c3,rfl⟩:=OwnM.form hO3
  have HR:Hid ((Builtin.append_ #[49,49] 49 #[.slice qu (allR bs).length cu,u2]).run Tryz.prog w2=.ok (.slice q3 AR.length c3) w3):=hap
  have HSL:Hid (SL w3 (.slice q3 AR.length c3) AR):=OwnQ.sl hO3
  clear hO3 hap hg3 hO2 bw2 HF2 HO1 HB1 HB2 HBn HS1 x1 hA1 hA2 hxs
  go_wp2_with (at_builtin;refine Lib.wpList_append_run _ rfl _ _ _ _ rfl _ _ rfl rfl _ _ HR.out ?_)
  refine(HTW.out w3 _ HSL.out).mono ?_
  rintro e w4 ⟨rfl,bw4⟩
  have HB4:Hid (Below w.heap.size w w4):=HB3.out.trans (bw4.mono HB3.out.size)
  clear bw4 HTW HR HSL HAR HB3
  generalize AR.length=m at *
  cases tw
  ·by_cases h60:60 < m
   ·have hm:(60:Int) < (m:Int):=by omega
    go_wp2_with fail
    go_ret
    exact⟨by rw[HE.out,if_neg (by simp),if_pos h60];rfl,HB4.out⟩
   ·have hm:¬(60:Int) < (m:Int):=by omega
    go_wp2_with fail
    go_ret
    exact⟨by rw[HE.out,if_neg (by simp),if_neg h60];rfl,HB4.out⟩
  ·go_wp2_with fail
   go_ret
   exact⟨by first|(rw[HE.out,if_pos rfl];rfl)|(rw[HE.out,if_pos trivial];rfl),HB4.out⟩
 ·have hn1:0 < n1:=by rw[hl1];exact List.length_pos_iff.2 e1
  have b1:bs.isEmpty=false:=by simpa using e1
  by_cases e2:ss=[]
  ·have ec:crossB bs ss=false:=by unfold crossB;rw[e2];simp
   have hE:wholeE bs ss=if tw=true then 7 else if 60 < AR.length then 4 else 0:=by rw[hWE,if_neg (by rw[ec];simp)]
   have HE:=hid_of hE
   clear hE
   generalize wholeE bs ss=E at *
   have hn2:n2=0:=by rw[hl2,e2];rfl
   subst hn2
   have d1:decide ((0:Int) < (n1:Int))=true:=by simp;omega
   have d2:decide (0 < n1)=true:=by simp;omega
   have d3:(0:Int) < (n1:Int):=by omega
   clear hl1 hl2 h1 h2 ec e1 e2 b1 hWE hR hc1 hc2 H1 H2 hB
   go_enter Tryz.func28,Tryz.ntmps28
   go_upto_region 1 with fail
   rw[←hV]
   clear hV
   go_quiet (fail)
   go_wp2_with fail
   have HBn:Hid (Below w.heap.size w (V.drewN nq)):=belowN HB.out nq
   have y1:(V.drewN nq).cell? ⟨w.heap.size,1,none⟩=some (.slice q2 0 c2):=v1
   have hys:w.heap.size < (V.drewN nq).heap.size:=hVs
   clear v0 v1 hVs HB
   generalize V.drewN nq=V1 at *
   refine(HF1.out _ HBn.out).mono ?_
   rintro e w1 ⟨u,rfl,hO1,bw1⟩
   have x1:=keeps bw1 y1
   have hxs:w.heap.size < w1.heap.size:=Nat.lt_of_lt_of_le hys bw1.size
   have HB1:Hid (Below w.heap.size w w1):=HBn.out.trans (bw1.mono HBn.out.size)
   have HO1:Hid (OwnQ w1 V1.heap.size u (allR bs)):=hO1
   have HS1:Hid (V1.heap.size≤w1.heap.size):=bw1.size
   clear HF1 hO1 bw1 y1 hys
   obtain⟨qu,cu,rfl⟩:=OwnM.form HO1.out
   go_wp2_with fail
   refine(HF2.out _ HB1.out).mono ?_
   rintro e w2 ⟨u2,rfl,hO2,bw2⟩
   have HB2:Hid (Below w.heap.size w w2):=HB1.out.trans (bw2.mono HB1.out.size)
   obtain⟨v3,w3,hap,hO3,hg3,-⟩:=run_append_q w2 V1.heap.size (.slice qu (allR bs).length cu) u2 (allR bs) (allR ss) (OwnM.below HO1.out bw2) (OwnQ.sl hO2) (by omega) (Nat.le_trans HS1.out bw2.size)
   have HB3:Hid (Below w.heap.size w w3):=HB2.out.grown hg3 HB2.out.size (fun k hk=>Nat.le_trans HBn.out.size ((OwnM.lt (OwnM.below HO1.out bw2) k hk).1))
   rw[HAR.out] at hO3
   obtain⟨q3,c3,rfl⟩:=OwnM.form hO3
   have HR:Hid ((Builtin.append_ #[49,49] 49 #[.slice qu (allR bs).length cu,u2]).run Tryz.prog w2=.ok (.slice q3 AR.length c3) w3):=hap
   have HSL:Hid (SL w3 (.slice q3 AR.length c3) AR):=OwnQ.sl hO3
   clear hO3 hap hg3 hO2 bw2 HF2 HO1 HB1 HB2 HBn HS1 x1 hA1 hA2 hxs
   go_wp2_with (at_builtin;refine Lib.wpList_append_run _ rfl _ _ _ _ rfl _ _ rfl rfl _ _ HR.out ?_)
   refine(HTW.out w3 _ HSL.out).mono ?_
   rintro e w4 ⟨rfl,bw4⟩
   have HB4:Hid (Below w.heap.size w w4):=HB3.out.trans (bw4.mono HB3.out.size)
   clear bw4 HTW HR HSL HAR HB3
   generalize AR.length=m at *
   cases tw
   ·by_cases h60:60 < m
    ·have hm:(60:Int) < (m:Int):=by omega
     go_wp2_with fail
     go_ret
     exact⟨by rw[HE.out,if_neg (by simp),if_pos h60];rfl,HB4.out⟩
    ·have hm:¬(60:Int) < (m:Int):=by omega
     go_wp2_with fail
     go_ret
     exact⟨by rw[HE.out,if_neg (by simp),if_neg h60];rfl,HB4.out⟩
   ·go_wp2_with fail
    go_ret
    exact⟨by first|(rw[HE.out,if_pos rfl];rfl)|(rw[HE.out,if_pos trivial];rfl),HB4.out⟩
  ·have hn2:0 < n2:=by rw[hl2];exact List.length_pos_iff.2 e2
   have b2:ss.isEmpty=false:=by simpa using e2
   have ec:crossB bs ss=decide (bestI ss≤bestI bs):=by unfold crossB;rw[b1,b2];simp
   have hE:wholeE bs ss=if bestI ss≤bestI bs then 8 else if tw=true then 7 else if 60 < AR.length then 4 else 0:=by rw[hWE,ec];simp only[decide_eq_true_eq]
   generalize wholeE bs ss=E at *
   have d1:decide ((0:Int) < (n1:Int))=true:=by simp;omega
   have d2:decide (0 < n1)=true:=by simp;omega
   have d3:(0:Int) < (n1:Int):=by omega
   have d4:decide ((0:Int) < (n2:Int))=true:=by simp;omega
   have d5:decide (0 < n2)=true:=by simp;omega
   have d6:(0:Int) < (n2:Int):=by omega
   obtain⟨bb,ob,k0,rfl⟩:∃b o,V.cell? ⟨b,o,none⟩=some (.int .i64 (bestI bs))∧q1=some ⟨b,o,none⟩:=by
    rcases H1.out V HB.out with ⟨-,e⟩|⟨b,o,c,e,-,-,-,hl⟩
    ·exact absurd e e1
    ·cases bs with
     | nil=>exact absurd rfl e1
     | cons l t=>cases e;exact⟨b,o,ls_first hl,rfl⟩
   obtain⟨bs2,os2,k1,rfl⟩:∃b o,V.cell? ⟨b,o,none⟩=some (.int .i64 (bestI ss))∧q2=some ⟨b,o,none⟩:=by
    rcases H2.out V HB.out with ⟨-,e⟩|⟨b,o,c,e,-,-,-,hl⟩
    ·exact absurd e e2
    ·cases ss with
     | nil=>exact absurd rfl e2
     | cons l t=>cases e;exact⟨b,o,ls_first hl,rfl⟩
   generalize bestI bs=x at *
   generalize bestI ss=y at *
   clear hl1 hl2 h1 h2 ec e1 e2 b1 b2 hWE hR hc1 hc2 H1 H2 hB
   by_cases hxy:y≤x
   ·rw[if_pos hxy] at hE
    subst hE
    clear HF1 HF2 HTW HAR hA1 hA2
    go_enter Tryz.func28,Tryz.ntmps28
    go_upto_region 1 with fail
    rw[←hV]
    clear hV
    go_quiet (fail)
    go_wp2_with fail
    go_ret
    exact⟨rfl,belowN HB.out _⟩
   ·rw[if_neg hxy] at hE
    have HE:=hid_of hE
    clear hE
    go_enter Tryz.func28,Tryz.ntmps28
    go_upto_region 1 with fail
    rw[←hV]
    clear hV
    go_quiet (fail)
    go_wp2_with fail
    have HBn:Hid (Below w.heap.size w (V.drewN nq)):=belowN HB.out nq
    have y1:(V.drewN nq).cell? ⟨w.heap.size,1,none⟩=some (.slice (some ⟨bs2,os2,none⟩) n2 c2):=v1
    have hys:w.heap.size < (V.drewN nq).heap.size:=hVs
    clear v0 v1 hVs HB
    generalize V.drewN nq=V1 at *
    refine(HF1.out _ HBn.out).mono ?_
    rintro e w1 ⟨u,rfl,hO1,bw1⟩
    have x1:=keeps bw1 y1
    have hxs:w.heap.size < w1.heap.size:=Nat.lt_of_lt_of_le hys bw1.size
    have HB1:Hid (Below w.heap.size w w1):=HBn.out.trans (bw1.mono HBn.out.size)
    have HO1:Hid (OwnQ w1 V1.heap.size u (allR bs)):=hO1
    have HS1:Hid (V1.heap.size≤w1.heap.size):=bw1.size
    clear HF1 hO1 bw1 y1 hys
    obtain⟨qu,cu,rfl⟩:=OwnM.form HO1.out
    go_wp2_with fail
    refine(HF2.out _ HB1.out).mono ?_
    rintro e w2 ⟨u2,rfl,hO2,bw2⟩
    have HB2:Hid (Below w.heap.size w w2):=HB1.out.trans (bw2.mono HB1.out.size)
    obtain⟨v3,w3,hap,hO3,hg3,-⟩:=run_append_q w2 V1.heap.size (.slice qu (allR bs).length cu) u2 (allR bs) (allR ss) (OwnM.below HO1.out bw2) (OwnQ.sl hO2) (by omega) (Nat.le_trans HS1.out bw2.size)
    have HB3:Hid (Below w.heap.size w w3):=HB2.out.grown hg3 HB2.out.size (fun k hk=>Nat.le_trans HBn.out.size ((OwnM.lt (OwnM.below HO1.out bw2) k hk).1))
    rw[HAR.out] at hO3
    obtain⟨q3,c3,rfl⟩:=OwnM.form hO3
    have HR:Hid ((Builtin.append_ #[49,49] 49 #[.slice qu (allR bs).length cu,u2]).run Tryz.prog w2=.ok (.slice q3 AR.length c3) w3):=hap
    have HSL:Hid (SL w3 (.slice q3 AR.length c3) AR):=OwnQ.sl hO3
    clear hO3 hap hg3 hO2 bw2 HF2 HO1 HB1 HB2 HBn HS1 x1 hA1 hA2 hxs
    go_wp2_with (at_builtin;refine Lib.wpList_append_run _ rfl _ _ _ _ rfl _ _ rfl rfl _ _ HR.out ?_)
    refine(HTW.out w3 _ HSL.out).mono ?_
    rintro e w4 ⟨rfl,bw4⟩
    have HB4:Hid (Below w.heap.size w w4):=HB3.out.trans (bw4.mono HB3.out.size)
    clear bw4 HTW HR HSL HAR HB3
    generalize AR.length=m at *
    cases tw
    ·by_cases h60:60 < m
     ·have hm:(60:Int) < (m:Int):=by omega
      go_wp2_with fail
      go_ret
      exact⟨by rw[HE.out,if_neg (by simp),if_pos h60];rfl,HB4.out⟩
     ·have hm:¬(60:Int) < (m:Int):=by omega
      go_wp2_with fail
      go_ret
      exact⟨by rw[HE.out,if_neg (by simp),if_neg h60];rfl,HB4.out⟩
    ·go_wp2_with fail
     go_ret
     exact⟨by first|(rw[HE.out,if_pos rfl];rfl)|(rw[HE.out,if_pos trivial];rfl),HB4.out⟩
theorem rwith_any (s:Int) (q1 q2 q:Option Addr) (n1 n2 n c1 c2 c:Nat) (w:World) :
  Calls Tryz.prog 32 #[.agg #[.slice q1 n1 c1,.slice q2 n2 c2],.int .i64 s,.slice q n c] w fun e w'=>e=.returned (if s=1 then .agg #[.slice q n c,.slice q2 n2 c2] else .agg #[.slice q1 n1 c1,.slice q n c])∧Below w.heap.size w w':=by
 by_cases hs:s=1
 ·rw[if_pos hs]
  subst hs
  go_enter Tryz.func32,Tryz.ntmps32
  go_wp2_with fail
  have hsz:(w.alloc (.cells #[.slice q1 n1 c1,.slice q2 n2 c2] 24)).heap.size=w.heap.size+1:=by simp
  have hBZ:Below w.heap.size w ((w.alloc (.cells #[.slice q1 n1 c1,.slice q2 n2 c2] 24)).alloc (.cells #[.slice q n c,.slice q2 n2 c2] 24)):=((bzR _ _).alloc (nzR _) _).alloc (by simp) _
  have hZ:=heap_alloc_new (w.alloc (.cells #[.slice q1 n1 c1,.slice q2 n2 c2] 24)) (.cells #[.slice q n c,.slice q2 n2 c2] 24)
  rw[hsz] at hZ
  generalize ((w.alloc (.cells #[.slice q1 n1 c1,.slice q2 n2 c2] 24)).alloc (.cells #[.slice q n c,.slice q2 n2 c2] 24))=Z at *
  obtain⟨r0,r1,-⟩:=rowTwo hZ
  exact bodyPost_ret (v:=.agg #[.slice q n c,.slice q2 n2 c2]) (by simp[results,Tryz.results32,go_sem,r0,r1]) rfl ⟨rfl,hBZ⟩
 ·rw[if_neg hs]
  have h1:(s == 1)=false:=by simpa using hs
  go_enter Tryz.func32,Tryz.ntmps32
  go_wp2_with fail
  have hsz:(w.alloc (.cells #[.slice q1 n1 c1,.slice q2 n2 c2] 24)).heap.size=w.heap.size+1:=by simp
  have hBZ:Below w.heap.size w ((w.alloc (.cells #[.slice q1 n1 c1,.slice q2 n2 c2] 24)).alloc (.cells #[.slice q1 n1 c1,.slice q n c] 24)):=((bzR _ _).alloc (nzR _) _).alloc (by simp) _
  have hZ:=heap_alloc_new (w.alloc (.cells #[.slice q1 n1 c1,.slice q2 n2 c2] 24)) (.cells #[.slice q1 n1 c1,.slice q n c] 24)
  rw[hsz] at hZ
  generalize ((w.alloc (.cells #[.slice q1 n1 c1,.slice q2 n2 c2] 24)).alloc (.cells #[.slice q1 n1 c1,.slice q n c] 24))=Z at *
  obtain⟨r0,r1,-⟩:=rowTwo hZ
  exact bodyPost_ret (v:=.agg #[.slice q1 n1 c1,.slice q n c]) (by simp[results,Tryz.results32,go_sem,r0,r1]) rfl ⟨rfl,hBZ⟩
set_option maxRecDepth 100000 in
set_option maxHeartbeats 2000000 in
theorem rbook_any (q1 q2:Option Addr) (n1 n2 c1 c2:Nat) (bs ss:List L) (w:World) (h1:LS w (.slice q1 n1 c1) bs) (h2:LS w (.slice q2 n2 c2) ss) :
  Calls Tryz.prog 11 #[.agg #[.slice q1 n1 c1,.slice q2 n2 c2]] w fun e w'=>e=.returned (.int .i64 (bookE bs ss))∧Below w.heap.size w w':=by
 have H1:Hid (∀W,Below w.heap.size w W→LS W (.slice q1 n1 c1) bs):=fun W hW=>h1.below hW
 have H2:Hid (∀W,Below w.heap.size w W→LS W (.slice q2 n2 c2) ss):=fun W hW=>h2.below hW
 obtain⟨V,hV⟩:∃V,V=w.alloc (.cells #[.slice q1 n1 c1,.slice q2 n2 c2] 24):=⟨_,rfl⟩
 have hB:Below w.heap.size w V:=by rw[hV];exact(bzR _ _).alloc (nzR _) _
 have hR:V.heap[w.heap.size]?=some (.cells #[.slice q1 n1 c1,.slice q2 n2 c2] 24 (0,0)):=by rw[hV];exact heap_alloc_new w _
 have v0:V.cell? ⟨w.heap.size,0,none⟩=some (.slice q1 n1 c1):=by simp[World.cell?,hR]
 have v1:V.cell? ⟨w.heap.size,1,none⟩=some (.slice q2 n2 c2):=by simp[World.cell?,hR]
 have hVs:w.heap.size < V.heap.size:=(gzE.1 hR).1
 have HB:Hid (Below w.heap.size w V):=hB
 have HC1:=fun W (hW:Below w.heap.size w W)=>rlevels_any 1 _ bs W (H1.out W hW)
 have HC2:=fun W (hW:Below w.heap.size w W)=>rlevels_any 2 _ ss W (H2.out W hW)
 clear h1 h2 hB hR
 by_cases e1:schk 1 bs=0
 ·rw[e1] at HC1
  by_cases e2:schk 2 ss=0
  ·rw[e2] at HC2
   have HW:Hid (∀W,Below w.heap.size w W→Calls Tryz.prog 28 #[.agg #[.slice q1 n1 c1,.slice q2 n2 c2]] W fun e w'=>e=.returned (.int .i64 (bookE bs ss))∧Below W.heap.size W w'):=fun W hW=>by
    have:=rwhole_any q1 q2 n1 n2 c1 c2 bs ss W (H1.out W hW) (H2.out W hW) (schk_zero e1).2.2.1 (schk_zero e2).2.2.1
    have eb:wholeE bs ss=bookE bs ss:=by unfold wholeE bookE;rw[if_pos e1,if_pos e2]
    rw[eb] at this
    exact this
   have HC1':=hid_of HC1
   have HC2':=hid_of HC2
   generalize bookE bs ss=E at *
   clear H1 H2 e1 e2 HC1 HC2
   go_enter Tryz.func11,Tryz.ntmps11
   go_wp2_with fail
   rw[←hV]
   clear hV
   refine(HC1'.out V HB.out).mono ?_
   rintro e w1 ⟨rfl,b1⟩
   have HB1:Hid (Below w.heap.size w w1):=HB.out.trans (b1.mono HB.out.size)
   have x0:=keeps b1 v0
   have x1:=keeps b1 v1
   have hs1:w.heap.size < w1.heap.size:=Nat.lt_of_lt_of_le hVs b1.size
   clear b1 v0 v1 HC1'
   go_wp2_with fail
   refine(HC2'.out w1 HB1.out).mono ?_
   rintro e w2 ⟨rfl,b2⟩
   have HB2:Hid (Below w.heap.size w w2):=HB1.out.trans (b2.mono HB1.out.size)
   have y0:=keeps b2 x0
   have y1:=keeps b2 x1
   have hs2:w.heap.size < w2.heap.size:=Nat.lt_of_lt_of_le hs1 b2.size
   clear b2 x0 x1 HC2'
   go_wp2_with fail
   refine(HW.out w2 HB2.out).mono ?_
   rintro e w3 ⟨rfl,b3⟩
   have HB3:Hid (Below w.heap.size w w3):=HB2.out.trans (b3.mono HB2.out.size)
   clear b3 HW
   go_wp2_with fail
   go_ret
   exact⟨rfl,HB3.out⟩
  ·have eb:bookE bs ss=schk 2 ss:=by unfold bookE;rw[if_pos e1,if_neg e2]
   rw[eb]
   have HC1':=hid_of HC1
   have HC2':=hid_of HC2
   clear H1 H2 HC1 HC2 eb e1
   generalize schk 2 ss=E at *
   have e2' : (E == 0)=false:=by simpa using e2
   go_enter Tryz.func11,Tryz.ntmps11
   go_wp2_with fail
   rw[←hV]
   clear hV
   refine(HC1'.out V HB.out).mono ?_
   rintro e w1 ⟨rfl,b1⟩
   have HB1:Hid (Below w.heap.size w w1):=HB.out.trans (b1.mono HB.out.size)
   have x0:=keeps b1 v0
   have x1:=keeps b1 v1
   have hs1:w.heap.size < w1.heap.size:=Nat.lt_of_lt_of_le hVs b1.size
   clear b1 v0 v1 HC1'
   go_wp2_with fail
   refine(HC2'.out w1 HB1.out).mono ?_
   rintro e w2 ⟨rfl,b2⟩
   have HB2:Hid (Below w.heap.size w w2):=HB1.out.trans (b2.mono HB1.out.size)
   clear b2 x0 x1 HC2'
   go_wp2_with fail
   go_ret
   exact⟨rfl,HB2.out⟩
 ·have eb:bookE bs ss=schk 1 bs:=by unfold bookE;rw[if_neg e1]
  rw[eb]
  have HC1':=hid_of HC1
  clear H1 H2 HC1 HC2 eb
  generalize schk 1 bs=E at *
  have e2' : (E == 0)=false:=by simpa using e1
  go_enter Tryz.func11,Tryz.ntmps11
  go_wp2_with fail
  rw[←hV]
  clear hV
  refine(HC1'.out V HB.out).mono ?_
  rintro e w1 ⟨rfl,b1⟩
  have HB1:Hid (Below w.heap.size w w1):=HB.out.trans (b1.mono HB.out.size)
  clear b1 v0 v1 HC1'
  go_wp2_with fail
  go_ret
  exact⟨rfl,HB1.out⟩
end Go.Proofs.YtnjpjieedgmffaaGreatDoor.bok
namespace Go.Proofs.YtnjpjieedgmffaaGreatDoor.sid
open Go.RowKit spn que Go.Maps
open tickP (priceB sideB)
theorem add_zero {s:Int}{ls:List L}{p:Int}{r:R}(h:addE s ls p r=0):schk s ls=0∧priceB p=true∧rchk r=0∧r.id ∉ ids ls∧cnt ls≠60:=by
 unfold addE at h
 by_cases h0:schk s ls=0
 ·rw[if_pos h0] at h
  by_cases h1:priceB p=true
  ·rw[if_pos h1] at h
   by_cases h2:rchk r=0
   ·rw[if_pos h2] at h
    by_cases h3:r.id∈ids ls
    ·rw[if_pos h3] at h;cases h
    ·rw[if_neg h3] at h
     by_cases h4:cnt ls=60
     ·rw[if_pos h4] at h;cases h
     ·exact⟨h0,h1,h2,h3,h4⟩
   ·rw[if_neg h2] at h;exact absurd h h2
  ·rw[if_neg h1] at h;cases h
 ·rw[if_neg h0] at h;exact absurd h h0
end Go.Proofs.YtnjpjieedgmffaaGreatDoor.sid
namespace Go.Proofs.YtnjpjieedgmffaaGreatDoor.bok
open Go.RowKit spn que sid
open tickP (priceB sideB)
theorem put_zero {bs ss:List L}{s p:Int}{r:R}(h:putE bs ss s p r=0):bookE bs ss=0∧addE s (if s=1 then bs else ss) p r=0∧bookE (put1 bs s p r) (put2 ss s p r)=0:=by
 unfold putE at h
 by_cases h0:bookE bs ss=0
 ·rw[if_pos h0] at h
  by_cases h1:addE s (if s=1 then bs else ss) p r=0
  ·rw[if_pos h1] at h;exact⟨h0,h1,h⟩
  ·rw[if_neg h1] at h;exact absurd h h1
 ·rw[if_neg h0] at h;exact absurd h h0
structure Held (S:Int) (X bs:List L) (p:Int) (r:R) (i k:Nat):Prop where
 hi:i < X.length
 hk:k < X[i].rests.length
 price:X[i].price=p
 rest:X[i].rests[k]=r
 fe:findE S X r.id=0
 fp:findP S X r.id=((i:Int),(k:Int))
 drop:dropL X i k=bs
end Go.Proofs.YtnjpjieedgmffaaGreatDoor.bok
namespace Go.Proofs.YtnjpjieedgmffaaGreatDoor.mee
open Go.RowKit spn que sid
open ord (O mB chk)
def stepL (p:Int) (z:List R) (t:List L):List L:=if z=[] then t else ⟨p,z⟩::t
theorem rest_pos {r:R}{rs:List R}(h:qchk (r::rs)=0):1≤r.qty∧r.qty≤10000:=by
 obtain⟨-,hg⟩:=(qchk_zero _).1 h
 exact(rchk_zero (hg.1 r (by simp))).1
theorem step_queue {q:Int}{r:R}{rs:List R}(h:0 < q) (hg:qchk (r::rs)=0):qchk (tk1 (min q r.qty) r rs)=0∧tot (tk1 (min q r.qty) r rs)=tot (r::rs) - min q r.qty:=by
 have hp:=rest_pos hg
 obtain⟨h60,hgg⟩:=(qchk_zero _).1 hg
 obtain⟨a,b,c⟩:=tk1_good hgg (show 1≤min q r.qty by omega) (by omega)
 exact⟨(qchk_zero _).2 ⟨by omega,a⟩,b⟩
theorem step_good {q p:Int}{r:R}{rs:List R}{t:List L}(h:0 < q) (hl:∀l∈(⟨p,r::rs⟩::t:List L),lchk l=0):∀l∈stepL p (tk1 (min q r.qty) r rs) t,lchk l=0:=by
 have h1:lchk ⟨p,r::rs⟩=0:=hl _ (by simp)
 obtain⟨hp,-,hq⟩:=lchk_zero h1
 have hz:=(step_queue h hq).1
 intro l hm
 unfold stepL at hm
 by_cases e:tk1 (min q r.qty) r rs=[]
 ·rw[if_pos e] at hm;exact hl l (by simp[hm])
 ·rw[if_neg e] at hm
  rcases List.mem_cons.1 hm with rfl|hm
  ·exact lchk_of (by show (decide _ && decide _)=true;simp;exact hp) e hz
  ·exact hl l (by simp[hm])
theorem tkl_fill {o:O}{p q:Int}{r:R}{rs:List R}{t:List L}(h:0 < q) (hm:mB o p=true) (hg:qchk (r::rs)=0) :
  tkl o (⟨p,r::rs⟩::t) q=((tkl o (stepL p (tk1 (min q r.qty) r rs) t) (q - min q r.qty)).1,trd o p ⟨r.id,r.who,min q r.qty⟩::(tkl o (stepL p (tk1 (min q r.qty) r rs) t) (q - min q r.qty)).2.1,(tkl o (stepL p (tk1 (min q r.qty) r rs) t) (q - min q r.qty)).2.2):=by
 have hp:=rest_pos hg
 have hgg:=((qchk_zero _).1 hg).2
 have hc:=take_cons q r rs h hgg
 generalize hk:min q r.qty=k at *
 have hkp:1≤k∧k≤q:=by omega
 generalize tk1 k r rs=z at *
 unfold stepL
 by_cases hz:z=[]
 ·subst hz
  rw[take_nil] at hc
  rw[if_pos rfl,tkl_gone h hm (by rw[hc])]
  simp only[hc]
  have e:q - sum [⟨r.id,r.who,k⟩]=q - k:=by simp[sum]
  rw[e]
  rfl
 ·rw[if_neg hz]
  by_cases h0:q - k≤0
  ·rw[take_done _ _ h0] at hc
   rw[tkl_last h hm (by rw[hc];exact hz),tkl_zero h0]
   simp only[hc]
   have e:q - sum [⟨r.id,r.who,k⟩]=q - k:=by simp[sum]
   rw[e]
   rfl
  ·have hs:∀S:List F,q - sum (⟨r.id,r.who,k⟩::S)=q - k - sum S:=fun S=>by simp only[sum];omega
   by_cases he:(take (q - k) z).2=[]
   ·rw[tkl_gone (l:=⟨p,z⟩) (by omega) hm he,tkl_gone h hm (by rw[hc];exact he)]
    simp only[hc,hs]
    rfl
   ·rw[tkl_last (l:=⟨p,z⟩) (by omega) hm he,tkl_last h hm (by rw[hc];exact he)]
    simp only[hc,hs]
    rfl
end Go.Proofs.YtnjpjieedgmffaaGreatDoor.mee
namespace Go.Proofs.YtnjpjieedgmffaaGreatDoor.mee
open Go.RowKit spn que sid
theorem flatT_get (ts:List T):∀j,j < ts.length→∀i,i < 6→(flatT ts)[j * 6+i]?=(tV ts[j]!)[i]?:=by
 induction ts with
 | nil=>intro j hj;simp at hj
 | cons r t ih=>
  intro j hj i hi
  have e:flatT (r::t)=tV r++flatT t:=rfl
  rw[e]
  cases j with
  | zero=>rw[Nat.zero_mul,Nat.zero_add,List.getElem?_append_left (by show i < 6;exact hi)];rfl
  | succ j=>
   rw[List.getElem?_append_right (by show 6≤_;omega)]
   have:(j+1) * 6+i - (tV r).length=j * 6+i:=by show (j+1) * 6+i - 6=_;omega
   rw[this,ih j (by simpa using hj) i hi]
   rfl
theorem OwnT.at {w:World}{base:Nat}{q:Option Addr}{n c:Nat}{ts:List T}(h:OwnT w base (.slice q n c) ts) {k:Nat}(hk:k < ts.length):∃g off,q=some ⟨g,off,none⟩∧g < w.heap.size∧w.cell? ⟨g,off+k * 6,none⟩=some (.int .i64 ts[k]!.maker)∧w.cell? ⟨g,off+k * 6+1,none⟩=some (.int .i64 ts[k]!.taker)∧w.cell? ⟨g,off+k * 6+2,none⟩=some (.int .i64 ts[k]!.frm)∧w.cell? ⟨g,off+k * 6+3,none⟩=some (.int .i64 ts[k]!.into)∧w.cell? ⟨g,off+k * 6+4,none⟩=some (.int .i64 ts[k]!.price)∧w.cell? ⟨g,off+k * 6+5,none⟩=some (.int .i64 ts[k]!.qty):=by
 have hn:n=ts.length:=by obtain⟨q',c',e⟩:=OwnM.form h;cases e;rfl
 subst hn
 cases q with
 | none=>
  rcases h.2 with ⟨e,hn⟩|⟨g,off,cap,cur,e,_⟩
  ·rw[hn] at hk;exact absurd hk (Nat.not_lt_zero _)
  ·cases e
 | some a=>
  rcases h.2 with ⟨e,hn⟩|⟨g,off,cap,cur,e,_⟩
  ·cases e
  ·cases e
   obtain⟨hc,-,-,hlt⟩:=OwnM.cells h
   have hh:∀i u,i < 6→(tV ts[k]!)[i]?=some u→w.cell? ⟨g,off+(k * 6+i),none⟩=some u:=fun i u hi hu=>hc (k * 6+i) u (by rw[flatT_get ts k hk i hi];exact hu)
   exact⟨g,off,rfl,hlt,hh 0 _ (by omega) rfl,hh 1 _ (by omega) rfl,hh 2 _ (by omega) rfl,hh 3 _ (by omega) rfl,hh 4 _ (by omega) rfl,hh 5 _ (by omega) rfl⟩
end Go.Proofs.YtnjpjieedgmffaaGreatDoor.mee
