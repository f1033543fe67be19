import Derived.Test.YtifjhlgjgnnnpaaGreatBokPut2
import Derived.Test.YtifjhlgjgnnnpaaGreatBokRests
namespace Go.Proofs.YtifjhlgjgnnnpaaGreat
namespace bok
open Go.RowKit spn que sid
set_option maxRecDepth 100000 in
set_option maxHeartbeats 2000000 in
theorem zIn(q1 q2:Option Addr)(n1 n2 c1 c2:Nat)(bs ss:List L)(w:World)(h1:LS w (.slice q1 n1 c1) bs)(h2:LS w (.slice q2 n2 c2) ss)(h0:bookE bs ss=0) :
  Calls Tryz.prog 22 #[.agg #[.slice q1 n1 c1,.slice q2 n2 c2]] w fun e w'=>e=.returned (.tuple #[.int .i64 ((allR bs++allR ss).length:Nat),.nilIface])∧Below w.heap.size w w':=by
 have HCH:=fun W(hW:Below w.heap.size w W)=>check_any q1 q2 n1 n2 c1 c2 bs ss W (h1.below hW) (h2.below hW)
 rw[h0,errV_zero] at HCH
 obtain⟨e1,e2,-⟩:=zAb h0
 have HRE:Hid (∀W,Below w.heap.size w W→Calls Tryz.prog 34 #[.agg #[.slice q1 n1 c1,.slice q2 n2 c2]] W fun e w'=>∃v,e=.returned v∧OwnQ w' W.heap.size v (allR bs++allR ss)∧Below W.heap.size W w'):=fun W hW=>zEz q1 q2 n1 n2 c1 c2 bs ss W (h1.below hW) (h2.below hW) (zAw e1) (zAw e2) (zAa e1).2.2.1 (zAa e2).2.2.1
 generalize allR bs++allR ss=AR at *
 obtain⟨V,hV⟩:∃V,V=w.alloc (.cells #[.slice q1 n1 c1,.slice q2 n2 c2] 46):=⟨_,rfl⟩
 have HB:Hid (Below w.heap.size w V):=by rw[hV];exact(bzR _ _).alloc (nzR _) _
 have v0:V.cell? ⟨w.heap.size,0,none⟩=some (.slice q1 n1 c1):=by rw[hV];simp[go_sem]
 have v1:V.cell? ⟨w.heap.size,1,none⟩=some (.slice q2 n2 c2):=by rw[hV];simp[go_sem]
 have hVs:w.heap.size<V.heap.size:=by rw[hV];simp
 clear h1 h2 h0 e1 e2
 go_enter Tryz.func22,Tryz.ntmps22
 go_wp2_with fail
 rw[←hV]
 refine(HCH V HB.out).mono ?_
 rintro e w1⟨rfl,b1⟩
 have HB1:Hid (Below w.heap.size w w1):=HB.out.trans (b1.mono HB.out.size)
 have x0:=keeps b1 v0
 have x1:=keeps b1 v1
 have hs1:w.heap.size<w1.heap.size:=Nat.lt_of_lt_of_le hVs b1.size
 clear b1 HCH v0 v1
 go_wp2_with fail
 refine(HRE.out w1 HB1.out).mono ?_
 rintro e w4⟨v,rfl,hO,b4⟩
 have HB4:Hid (Below w.heap.size w w4):=HB1.out.trans (b4.mono HB1.out.size)
 obtain⟨q4,c4,rfl⟩:=OwnM.form hO
 clear b4 HRE hO x0 x1
 go_wp2_with fail
 go_ret2
 exact⟨rfl,HB4.out⟩
end bok
end Go.Proofs.YtifjhlgjgnnnpaaGreat
