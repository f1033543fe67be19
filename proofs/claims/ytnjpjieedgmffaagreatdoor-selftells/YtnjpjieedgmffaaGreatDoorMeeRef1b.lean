import Derived.Test.YtnjpjieedgmffaaGreatDoorMeeOwn
import Derived.Test.YtnjpjieedgmffaaGreatDoorMeeOrd
namespace Go.Proofs.YtnjpjieedgmffaaGreatDoor.bok
open Go.RowKit spn que sid
def rfindP (bs ss:List L) (id:Int):Int × Int × Int:=
 if 0≤(atGo id 0 bs).1 then (1,(atGo id 0 bs).1,(atGo id 0 bs).2) else if 0≤(atGo id 0 ss).1 then (2,(atGo id 0 ss).1,(atGo id 0 ss).2) else (0,0,0)
set_option maxRecDepth 100000 in
set_option maxHeartbeats 2000000 in
theorem rfind_any (q1 q2:Option Addr) (n1 n2 c1 c2:Nat) (bs ss:List L) (id:Int) (w:World) (h1:LS w (.slice q1 n1 c1) bs) (h2:LS w (.slice q2 n2 c2) ss) :
  Calls Tryz.prog 13 #[.agg #[.slice q1 n1 c1,.slice q2 n2 c2],.int .i64 id] w fun e w'=>e=.returned (.tuple #[.int .i64 (rfindP bs ss id).1,.int .i64 (rfindP bs ss id).2.1,.int .i64 (rfindP bs ss id).2.2])∧Below w.heap.size w w':=by
 have hP:rfindP bs ss id=if 0≤(atGo id 0 bs).1 then (1,(atGo id 0 bs).1,(atGo id 0 bs).2) else if 0≤(atGo id 0 ss).1 then (2,(atGo id 0 ss).1,(atGo id 0 ss).2) else (0,0,0):=rfl
 have HA1:Hid (∀W,Below w.heap.size w W→Calls Tryz.prog 31 #[.slice q1 n1 c1,.int .i64 id] W fun e w'=>e=.returned (.tuple #[.int .i64 (atGo id 0 bs).1,.int .i64 (atGo id 0 bs).2])∧Below W.heap.size W w'):=fun W hW=>(rat_any _ bs id W (h1.below hW)).mono fun e w' hh=>⟨hh.1,by obtain⟨k,hk⟩:=hh.2;rw[hk];exact sid.below_drewN' W k⟩
 have HA2:Hid (∀W,Below w.heap.size w W→Calls Tryz.prog 31 #[.slice q2 n2 c2,.int .i64 id] W fun e w'=>e=.returned (.tuple #[.int .i64 (atGo id 0 ss).1,.int .i64 (atGo id 0 ss).2])∧Below W.heap.size W w'):=fun W hW=>(rat_any _ ss id W (h2.below hW)).mono fun e w' hh=>⟨hh.1,by obtain⟨k,hk⟩:=hh.2;rw[hk];exact sid.below_drewN' W k⟩
 obtain⟨V,hV⟩:∃V,V=w.alloc (.cells #[.slice q1 n1 c1,.slice q2 n2 c2] 24):=⟨_,rfl⟩
 have hR:V.heap[w.heap.size]?=some (.cells #[.slice q1 n1 c1,.slice q2 n2 c2] 24 (0,0)):=by rw[hV];exact heap_alloc_new w _
 have v0:V.cell? ⟨w.heap.size,0,none⟩=some (.slice q1 n1 c1):=by simp[World.cell?,hR]
 have v1:V.cell? ⟨w.heap.size,1,none⟩=some (.slice q2 n2 c2):=by simp[World.cell?,hR]
 have hVs:w.heap.size < V.heap.size:=(gzE.1 hR).1
 have HB:Hid (Below w.heap.size w V):=by rw[hV];exact(bzR _ _).alloc (nzR _) _
 clear h1 h2 hR
 generalize rfindP bs ss id=P at *
 generalize atGo id 0 bs=A1 at *
 generalize atGo id 0 ss=A2 at *
 obtain⟨p1,p2,p3⟩:=P
 obtain⟨i1,k1⟩:=A1
 obtain⟨i2,k2⟩:=A2
 have HP:=hid_of hP
 clear hP
 simp only[] at HA1 HA2 HP ⊢
 have HOF1:Hid (∀W,Calls Tryz.prog 15 #[.agg #[.slice q1 n1 c1,.slice q2 n2 c2],.int .i64 1] W fun e w'=>e=.returned (.slice q1 n1 c1)∧Below W.heap.size W w'):=fun W=>rof_any 1 q1 q2 n1 n2 c1 c2 W
 have HOF2:Hid (∀W,Calls Tryz.prog 15 #[.agg #[.slice q1 n1 c1,.slice q2 n2 c2],.int .i64 2] W fun e w'=>e=.returned (.slice q2 n2 c2)∧Below W.heap.size W w'):=fun W=>rof_any 2 q1 q2 n1 n2 c1 c2 W
 go_enter Tryz.func13,Tryz.ntmps13
 go_wp2_with fail
 rw[←hV]
 clear hV
 go_loopg [7,8,9] 3 (fun gg s7 _ _ wr=>((s7=.int .i64 1∧3≤gg)∨(s7=.int .i64 2∧2≤gg∧Aside (i1 < 0))∨(s7=.int .i64 3∧Aside (i1 < 0∧i2 < 0)))∧Aside (Below V.heap.size V wr))
 case atStart=>exact⟨.inl ⟨rfl,nzR _⟩,bzR _ _⟩
 case round=>
  obtain⟨hcs,BW⟩:=hrel
  rcases hcs with ⟨rfl,hg⟩|⟨rfl,hg,hi⟩|⟨rfl,hi⟩
  ·have y0:=keeps BW.out v0
   have y1:=keeps BW.out v1
   have hys:w.heap.size < wr.heap.size:=Nat.lt_of_lt_of_le hVs BW.out.size
   go_wp2_with fail
   refine(HOF1.out wr).mono ?_
   rintro e wa ⟨rfl,ba⟩
   have HBa:Hid (Below V.heap.size V wa):=BW.out.trans (ba.mono BW.out.size)
   clear ba y0 y1 hys
   go_wp2_with fail
   refine(HA1.out wa (HB.out.trans (HBa.out.mono HB.out.size))).mono ?_
   rintro e wb ⟨rfl,bb⟩
   have HBb:Hid (Below V.heap.size V wb):=HBa.out.trans (bb.mono HBa.out.size)
   have HBw:Hid (Below w.heap.size w wb):=HB.out.trans (HBb.out.mono HB.out.size)
   clear bb
   by_cases hz:0≤i1
   ·have HQ:Hid (p1=1∧p2=i1∧p3=k1):=by have:=HP.out;rw[if_pos hz] at this;cases this;exact⟨rfl,rfl,rfl⟩
    obtain⟨rfl,rfl,rfl⟩:=HQ.out
    go_wp2_with fail
    exact bodyPost_ret (v:=.tuple #[.int .i64 1,.int .i64 p2,.int .i64 p3]) (by simp[results,Tryz.results13,go_sem]) rfl ⟨rfl,HBw.out⟩
   ·have hz2:i1 < 0:=by omega
    go_wp2_with fail
    go_roundg 2
    case measure=>omega
    case rel=>exact⟨.inr (.inl ⟨by go_num,nzR _,hz2⟩),HBb.out⟩
  ·have y0:=keeps BW.out v0
   have y1:=keeps BW.out v1
   have hys:w.heap.size < wr.heap.size:=Nat.lt_of_lt_of_le hVs BW.out.size
   go_wp2_with fail
   refine(HOF2.out wr).mono ?_
   rintro e wa ⟨rfl,ba⟩
   have HBa:Hid (Below V.heap.size V wa):=BW.out.trans (ba.mono BW.out.size)
   clear ba y0 y1 hys
   go_wp2_with fail
   refine(HA2.out wa (HB.out.trans (HBa.out.mono HB.out.size))).mono ?_
   rintro e wb ⟨rfl,bb⟩
   have HBb:Hid (Below V.heap.size V wb):=HBa.out.trans (bb.mono HBa.out.size)
   have HBw:Hid (Below w.heap.size w wb):=HB.out.trans (HBb.out.mono HB.out.size)
   clear bb
   by_cases hz:0≤i2
   ·have HQ:Hid (p1=2∧p2=i2∧p3=k2):=by have:=HP.out;have hn:=hi.out;rw[if_neg (by omega),if_pos hz] at this;cases this;exact⟨rfl,rfl,rfl⟩
    obtain⟨rfl,rfl,rfl⟩:=HQ.out
    go_wp2_with fail
    exact bodyPost_ret (v:=.tuple #[.int .i64 2,.int .i64 p2,.int .i64 p3]) (by simp[results,Tryz.results13,go_sem]) rfl ⟨rfl,HBw.out⟩
   ·have hz2:i2 < 0:=by omega
    go_wp2_with fail
    go_roundg 1
    case measure=>omega
    case rel=>exact⟨.inr (.inr ⟨by go_num,hi.out,hz2⟩),HBb.out⟩
  ·have HQ:Hid (p1=0∧p2=0∧p3=0):=by have:=HP.out;have hn:=hi.out;rw[if_neg (by omega),if_neg (by omega)] at this;cases this;exact⟨rfl,rfl,rfl⟩
   obtain⟨rfl,rfl,rfl⟩:=HQ.out
   go_wp2_with fail
   exact bodyPost_ret (v:=.tuple #[.int .i64 0,.int .i64 0,.int .i64 0]) (by simp[results,Tryz.results13,go_sem]) rfl ⟨rfl,HB.out.trans (BW.out.mono HB.out.size)⟩
end Go.Proofs.YtnjpjieedgmffaaGreatDoor.bok
namespace Go.Proofs.YtnjpjieedgmffaaGreatDoor.ord
open Go.RowKit
theorem ret_bool {a b:Bool}(h:a=b):Ending.returned (.bool a)=.returned (.bool b):=by rw[h]
def sdB (s:Int):Bool:=decide (s=1) || decide (s=2)
theorem ref_price (p:Int) (w:World) :
  Calls Tryz.prog 30 #[.int .i64 p] w fun e w'=>e=.returned (.bool (prB p))∧w'=w:=by
 by_cases h:1≤p
 ·go_enter Tryz.func30,Tryz.ntmps30
  go_wp2
  go_ret
  exact⟨ret_bool (by simp[prB,h]),rfl⟩
 ·go_enter Tryz.func30,Tryz.ntmps30
  go_wp2
  go_ret
  exact⟨ret_bool (by simp[prB];omega),rfl⟩
theorem ref_side (s:Int) (w:World) :
  Calls Tryz.prog 29 #[.int .i64 s] w fun e w'=>e=.returned (.bool (sdB s))∧w'=w:=by
 by_cases h:s=1
 ·subst h
  go_enter Tryz.func29,Tryz.ntmps29
  go_wp2
  go_ret
  exact⟨ret_bool (by simp[sdB]),rfl⟩
 ·have h' : (s == 1)=false:=by simp;omega
  go_enter Tryz.func29,Tryz.ntmps29
  go_wp2
  go_ret
  exact⟨ret_bool (by by_cases h2:s=2 <;> simp[sdB,h,h2]),rfl⟩
theorem ref_may (a b c d p q s t x:Int) (w:World) (hc:c=1∨c=2) :
  Calls Tryz.prog 16 #[.agg #[.int .i64 a,.int .i64 b,.int .i64 c,.int .i64 d,.int .i64 p,.int .i64 q,.int .i64 s,.int .i64 t],.int .i64 x] w fun e w'=>e=.returned (.bool (mB ⟨a,b,c,d,p,q,s,t⟩ x))∧Below w.heap.size w w':=by
 have em:mB ⟨a,b,c,d,p,q,s,t⟩ x=(decide (d=2) || (if c=1 then decide (x≤p) else decide (p≤x))):=rfl
 rw[em]
 clear em
 by_cases hd:d=2
 ·subst hd
  rcases hc with rfl|rfl
  all_goals
   go_enter Tryz.func16,Tryz.ntmps16
   go_wp2
   go_ret
   exact⟨ret_bool (by simp),(bzR _ _).alloc (nzR _) _⟩
 ·have hd' : (d == 2)=false:=by simp;omega
  rcases hc with rfl|rfl
  ·by_cases hx:x≤p
   all_goals
    go_enter Tryz.func16,Tryz.ntmps16
    go_wp2
    go_ret
    exact⟨ret_bool (by simp[hx]),(bzR _ _).alloc (nzR _) _⟩
  ·by_cases hx:p≤x
   all_goals
    go_enter Tryz.func16,Tryz.ntmps16
    go_wp2
    go_ret
    exact⟨ret_bool (by simp[hx]),(bzR _ _).alloc (nzR _) _⟩
end Go.Proofs.YtnjpjieedgmffaaGreatDoor.ord
namespace Go.Proofs.YtnjpjieedgmffaaGreatDoor.ord
open Go.RowKit
set_option maxRecDepth 100000 in
set_option maxHeartbeats 1000000 in
theorem rord_h0 (a b c d p q s t:Int) (w:World) (a1:a < 1) :
  Calls Tryz.prog 12 #[.agg #[.int .i64 a,.int .i64 b,.int .i64 c,.int .i64 d,.int .i64 p,.int .i64 q,.int .i64 s,.int .i64 t]] w fun e w'=>e=.returned (.int .i64 1)∧Below w.heap.size w w':=by
 go_enter Tryz.func12,Tryz.ntmps12
 go_wp2_with fail
 refine(ref_side _ _).mono ?_
 rintro e w' ⟨rfl,rfl⟩
 go_wp2_with fail
 go_ret
 exact⟨rfl,(bzR _ _).alloc (nzR _) _⟩
set_option maxRecDepth 100000 in
set_option maxHeartbeats 1000000 in
theorem rord_h1 (a b c d p q s t:Int) (w:World) (a1:1≤a) (a2:9999 < a) :
  Calls Tryz.prog 12 #[.agg #[.int .i64 a,.int .i64 b,.int .i64 c,.int .i64 d,.int .i64 p,.int .i64 q,.int .i64 s,.int .i64 t]] w fun e w'=>e=.returned (.int .i64 1)∧Below w.heap.size w w':=by
 go_enter Tryz.func12,Tryz.ntmps12
 go_wp2_with fail
 refine(ref_side _ _).mono ?_
 rintro e w' ⟨rfl,rfl⟩
 go_wp2_with fail
 go_ret
 exact⟨rfl,(bzR _ _).alloc (nzR _) _⟩
set_option maxRecDepth 100000 in
set_option maxHeartbeats 1000000 in
theorem rord_h2 (a b c d p q s t:Int) (w:World) (a1:1≤a) (a2:a≤9999) (b1:b < 1) :
  Calls Tryz.prog 12 #[.agg #[.int .i64 a,.int .i64 b,.int .i64 c,.int .i64 d,.int .i64 p,.int .i64 q,.int .i64 s,.int .i64 t]] w fun e w'=>e=.returned (.int .i64 1)∧Below w.heap.size w w':=by
 go_enter Tryz.func12,Tryz.ntmps12
 go_wp2_with fail
 refine(ref_side _ _).mono ?_
 rintro e w' ⟨rfl,rfl⟩
 go_wp2_with fail
 go_ret
 exact⟨rfl,(bzR _ _).alloc (nzR _) _⟩
set_option maxRecDepth 100000 in
set_option maxHeartbeats 1000000 in
theorem rord_h3 (a b c d p q s t:Int) (w:World) (a1:1≤a) (a2:a≤9999) (b1:1≤b) (b2:9 < b) :
  Calls Tryz.prog 12 #[.agg #[.int .i64 a,.int .i64 b,.int .i64 c,.int .i64 d,.int .i64 p,.int .i64 q,.int .i64 s,.int .i64 t]] w fun e w'=>e=.returned (.int .i64 1)∧Below w.heap.size w w':=by
 go_enter Tryz.func12,Tryz.ntmps12
 go_wp2_with fail
 refine(ref_side _ _).mono ?_
 rintro e w' ⟨rfl,rfl⟩
 go_wp2_with fail
 go_ret
 exact⟨rfl,(bzR _ _).alloc (nzR _) _⟩
set_option maxRecDepth 100000 in
set_option maxHeartbeats 1000000 in
theorem rord_h4 (a b c d p q s t:Int) (w:World) (a1:1≤a) (a2:a≤9999) (b1:1≤b) (b2:b≤9) (c1:sdB c=false) :
  Calls Tryz.prog 12 #[.agg #[.int .i64 a,.int .i64 b,.int .i64 c,.int .i64 d,.int .i64 p,.int .i64 q,.int .i64 s,.int .i64 t]] w fun e w'=>e=.returned (.int .i64 1)∧Below w.heap.size w w':=by
 go_enter Tryz.func12,Tryz.ntmps12
 go_wp2_with fail
 refine(ref_side _ _).mono ?_
 rintro e w' ⟨rfl,rfl⟩
 go_wp2_with fail
 go_ret
 exact⟨rfl,(bzR _ _).alloc (nzR _) _⟩
set_option maxRecDepth 100000 in
set_option maxHeartbeats 1000000 in
theorem rord_h5 (a b c d p q s t:Int) (w:World) (a1:1≤a) (a2:a≤9999) (b1:1≤b) (b2:b≤9) (c1:sdB c=true) (d1:d < 1) :
  Calls Tryz.prog 12 #[.agg #[.int .i64 a,.int .i64 b,.int .i64 c,.int .i64 d,.int .i64 p,.int .i64 q,.int .i64 s,.int .i64 t]] w fun e w'=>e=.returned (.int .i64 1)∧Below w.heap.size w w':=by
 go_enter Tryz.func12,Tryz.ntmps12
 go_wp2_with fail
 refine(ref_side _ _).mono ?_
 rintro e w' ⟨rfl,rfl⟩
 go_wp2_with fail
 go_ret
 exact⟨rfl,(bzR _ _).alloc (nzR _) _⟩
set_option maxRecDepth 100000 in
set_option maxHeartbeats 1000000 in
theorem rord_h6 (a b c d p q s t:Int) (w:World) (a1:1≤a) (a2:a≤9999) (b1:1≤b) (b2:b≤9) (c1:sdB c=true) (d1:1≤d) (d2:5 < d) :
  Calls Tryz.prog 12 #[.agg #[.int .i64 a,.int .i64 b,.int .i64 c,.int .i64 d,.int .i64 p,.int .i64 q,.int .i64 s,.int .i64 t]] w fun e w'=>e=.returned (.int .i64 1)∧Below w.heap.size w w':=by
 go_enter Tryz.func12,Tryz.ntmps12
 go_wp2_with fail
 refine(ref_side _ _).mono ?_
 rintro e w' ⟨rfl,rfl⟩
 go_wp2_with fail
 go_ret
 exact⟨rfl,(bzR _ _).alloc (nzR _) _⟩
set_option maxRecDepth 100000 in
set_option maxHeartbeats 1000000 in
theorem rord_p0 (a b c p q s t:Int) (w:World) (a1:1≤a) (a2:a≤9999) (b1:1≤b) (b2:b≤9) (c1:sdB c=true) (h:¬p=0) :
  Calls Tryz.prog 12 #[.agg #[.int .i64 a,.int .i64 b,.int .i64 c,.int .i64 2,.int .i64 p,.int .i64 q,.int .i64 s,.int .i64 t]] w fun e w'=>e=.returned (.int .i64 1)∧Below w.heap.size w w':=by
 go_enter Tryz.func12,Tryz.ntmps12
 go_wp2_with fail
 refine(ref_side _ _).mono ?_
 rintro e w' ⟨rfl,rfl⟩
 go_wp2_with fail
 refine(ref_price _ _).mono ?_
 rintro e w' ⟨rfl,rfl⟩
 go_wp2_with fail
 go_ret
 exact⟨rfl,(bzR _ _).alloc (nzR _) _⟩
set_option maxRecDepth 100000 in
set_option maxHeartbeats 1000000 in
theorem rord_p1 (a b c d p q s t:Int) (w:World) (a1:1≤a) (a2:a≤9999) (b1:1≤b) (b2:b≤9) (c1:sdB c=true) (d1:1≤d) (d2:d≤5) (k:¬d=2) (_k' : (d == 2)=false) (hp:prB p=false) :
  Calls Tryz.prog 12 #[.agg #[.int .i64 a,.int .i64 b,.int .i64 c,.int .i64 d,.int .i64 p,.int .i64 q,.int .i64 s,.int .i64 t]] w fun e w'=>e=.returned (.int .i64 1)∧Below w.heap.size w w':=by
 go_enter Tryz.func12,Tryz.ntmps12
 go_wp2_with fail
 refine(ref_side _ _).mono ?_
 rintro e w' ⟨rfl,rfl⟩
 go_wp2_with fail
 refine(ref_price _ _).mono ?_
 rintro e w' ⟨rfl,rfl⟩
 go_wp2_with fail
 go_ret
 exact⟨rfl,(bzR _ _).alloc (nzR _) _⟩
set_option maxRecDepth 100000 in
set_option maxHeartbeats 1000000 in
theorem rord_q10 (a b c q s t:Int) (w:World) (a1:1≤a) (a2:a≤9999) (b1:1≤b) (b2:b≤9) (c1:sdB c=true) (q1:q < 1) :
  Calls Tryz.prog 12 #[.agg #[.int .i64 a,.int .i64 b,.int .i64 c,.int .i64 2,.int .i64 0,.int .i64 q,.int .i64 s,.int .i64 t]] w fun e w'=>e=.returned (.int .i64 1)∧Below w.heap.size w w':=by
 go_enter Tryz.func12,Tryz.ntmps12
 go_wp2_with fail
 refine(ref_side _ _).mono ?_
 rintro e w' ⟨rfl,rfl⟩
 go_wp2_with fail
 refine(ref_price _ _).mono ?_
 rintro e w' ⟨rfl,rfl⟩
 go_wp2_with fail
 go_ret
 exact⟨rfl,(bzR _ _).alloc (nzR _) _⟩
set_option maxRecDepth 100000 in
set_option maxHeartbeats 1000000 in
theorem rord_q11 (a b c q s t:Int) (w:World) (a1:1≤a) (a2:a≤9999) (b1:1≤b) (b2:b≤9) (c1:sdB c=true) (q1:1≤q) (q2:10000 < q) :
  Calls Tryz.prog 12 #[.agg #[.int .i64 a,.int .i64 b,.int .i64 c,.int .i64 2,.int .i64 0,.int .i64 q,.int .i64 s,.int .i64 t]] w fun e w'=>e=.returned (.int .i64 1)∧Below w.heap.size w w':=by
 go_enter Tryz.func12,Tryz.ntmps12
 go_wp2_with fail
 refine(ref_side _ _).mono ?_
 rintro e w' ⟨rfl,rfl⟩
 go_wp2_with fail
 refine(ref_price _ _).mono ?_
 rintro e w' ⟨rfl,rfl⟩
 go_wp2_with fail
 go_ret
 exact⟨rfl,(bzR _ _).alloc (nzR _) _⟩
set_option maxRecDepth 100000 in
set_option maxHeartbeats 1000000 in
theorem rord_q12 (a b c q s t:Int) (w:World) (a1:1≤a) (a2:a≤9999) (b1:1≤b) (b2:b≤9) (c1:sdB c=true) (q1:1≤q) (q2:q≤10000) (s1:s < 0) :
  Calls Tryz.prog 12 #[.agg #[.int .i64 a,.int .i64 b,.int .i64 c,.int .i64 2,.int .i64 0,.int .i64 q,.int .i64 s,.int .i64 t]] w fun e w'=>e=.returned (.int .i64 1)∧Below w.heap.size w w':=by
 go_enter Tryz.func12,Tryz.ntmps12
 go_wp2_with fail
 refine(ref_side _ _).mono ?_
 rintro e w' ⟨rfl,rfl⟩
 go_wp2_with fail
 refine(ref_price _ _).mono ?_
 rintro e w' ⟨rfl,rfl⟩
 go_wp2_with fail
 go_ret
 exact⟨rfl,(bzR _ _).alloc (nzR _) _⟩
set_option maxRecDepth 100000 in
set_option maxHeartbeats 1000000 in
theorem rord_q13 (a b c q s t:Int) (w:World) (a1:1≤a) (a2:a≤9999) (b1:1≤b) (b2:b≤9) (c1:sdB c=true) (q1:1≤q) (q2:q≤10000) (s1:0≤s) (s2:q < s) :
  Calls Tryz.prog 12 #[.agg #[.int .i64 a,.int .i64 b,.int .i64 c,.int .i64 2,.int .i64 0,.int .i64 q,.int .i64 s,.int .i64 t]] w fun e w'=>e=.returned (.int .i64 1)∧Below w.heap.size w w':=by
 go_enter Tryz.func12,Tryz.ntmps12
 go_wp2_with fail
 refine(ref_side _ _).mono ?_
 rintro e w' ⟨rfl,rfl⟩
 go_wp2_with fail
 refine(ref_price _ _).mono ?_
 rintro e w' ⟨rfl,rfl⟩
 go_wp2_with fail
 go_ret
 exact⟨rfl,(bzR _ _).alloc (nzR _) _⟩
set_option maxRecDepth 100000 in
set_option maxHeartbeats 1000000 in
theorem rord_q20 (a b c d p q s t:Int) (w:World) (a1:1≤a) (a2:a≤9999) (b1:1≤b) (b2:b≤9) (c1:sdB c=true) (d1:1≤d) (d2:d≤5) (k:¬d=2) (_k' : (d == 2)=false) (hp:prB p=true) (q1:q < 1) :
  Calls Tryz.prog 12 #[.agg #[.int .i64 a,.int .i64 b,.int .i64 c,.int .i64 d,.int .i64 p,.int .i64 q,.int .i64 s,.int .i64 t]] w fun e w'=>e=.returned (.int .i64 1)∧Below w.heap.size w w':=by
 go_enter Tryz.func12,Tryz.ntmps12
 go_wp2_with fail
 refine(ref_side _ _).mono ?_
 rintro e w' ⟨rfl,rfl⟩
 go_wp2_with fail
 refine(ref_price _ _).mono ?_
 rintro e w' ⟨rfl,rfl⟩
 go_wp2_with fail
 go_ret
 exact⟨rfl,(bzR _ _).alloc (nzR _) _⟩
set_option maxRecDepth 100000 in
set_option maxHeartbeats 1000000 in
theorem rord_q21 (a b c d p q s t:Int) (w:World) (a1:1≤a) (a2:a≤9999) (b1:1≤b) (b2:b≤9) (c1:sdB c=true) (d1:1≤d) (d2:d≤5) (k:¬d=2) (_k' : (d == 2)=false) (hp:prB p=true) (q1:1≤q) (q2:10000 < q) :
  Calls Tryz.prog 12 #[.agg #[.int .i64 a,.int .i64 b,.int .i64 c,.int .i64 d,.int .i64 p,.int .i64 q,.int .i64 s,.int .i64 t]] w fun e w'=>e=.returned (.int .i64 1)∧Below w.heap.size w w':=by
 go_enter Tryz.func12,Tryz.ntmps12
 go_wp2_with fail
 refine(ref_side _ _).mono ?_
 rintro e w' ⟨rfl,rfl⟩
 go_wp2_with fail
 refine(ref_price _ _).mono ?_
 rintro e w' ⟨rfl,rfl⟩
 go_wp2_with fail
 go_ret
 exact⟨rfl,(bzR _ _).alloc (nzR _) _⟩
set_option maxRecDepth 100000 in
set_option maxHeartbeats 1000000 in
theorem rord_q22 (a b c d p q s t:Int) (w:World) (a1:1≤a) (a2:a≤9999) (b1:1≤b) (b2:b≤9) (c1:sdB c=true) (d1:1≤d) (d2:d≤5) (k:¬d=2) (_k' : (d == 2)=false) (hp:prB p=true) (q1:1≤q) (q2:q≤10000) (s1:s < 0) :
  Calls Tryz.prog 12 #[.agg #[.int .i64 a,.int .i64 b,.int .i64 c,.int .i64 d,.int .i64 p,.int .i64 q,.int .i64 s,.int .i64 t]] w fun e w'=>e=.returned (.int .i64 1)∧Below w.heap.size w w':=by
 go_enter Tryz.func12,Tryz.ntmps12
 go_wp2_with fail
 refine(ref_side _ _).mono ?_
 rintro e w' ⟨rfl,rfl⟩
 go_wp2_with fail
 refine(ref_price _ _).mono ?_
 rintro e w' ⟨rfl,rfl⟩
 go_wp2_with fail
 go_ret
 exact⟨rfl,(bzR _ _).alloc (nzR _) _⟩
set_option maxRecDepth 100000 in
set_option maxHeartbeats 1000000 in
theorem rord_q23 (a b c d p q s t:Int) (w:World) (a1:1≤a) (a2:a≤9999) (b1:1≤b) (b2:b≤9) (c1:sdB c=true) (d1:1≤d) (d2:d≤5) (k:¬d=2) (_k' : (d == 2)=false) (hp:prB p=true) (q1:1≤q) (q2:q≤10000) (s1:0≤s) (s2:q < s) :
  Calls Tryz.prog 12 #[.agg #[.int .i64 a,.int .i64 b,.int .i64 c,.int .i64 d,.int .i64 p,.int .i64 q,.int .i64 s,.int .i64 t]] w fun e w'=>e=.returned (.int .i64 1)∧Below w.heap.size w w':=by
 go_enter Tryz.func12,Tryz.ntmps12
 go_wp2_with fail
 refine(ref_side _ _).mono ?_
 rintro e w' ⟨rfl,rfl⟩
 go_wp2_with fail
 refine(ref_price _ _).mono ?_
 rintro e w' ⟨rfl,rfl⟩
 go_wp2_with fail
 go_ret
 exact⟨rfl,(bzR _ _).alloc (nzR _) _⟩
end Go.Proofs.YtnjpjieedgmffaaGreatDoor.ord
namespace Go.Proofs.YtnjpjieedgmffaaGreatDoor.ord
open Go.RowKit
set_option maxRecDepth 100000 in
set_option maxHeartbeats 1000000 in
theorem rord_s1 (a b c q s t:Int) (w:World) (a1:1≤a) (a2:a≤9999) (b1:1≤b) (b2:b≤9) (c1:sdB c=true) (q1:1≤q) (q2:q≤10000) (s1:0≤s) (s2:s≤q) (k0:¬s=0) (_k0' : (s == 0)=false) :
  Calls Tryz.prog 12 #[.agg #[.int .i64 a,.int .i64 b,.int .i64 c,.int .i64 2,.int .i64 0,.int .i64 q,.int .i64 s,.int .i64 t]] w fun e w'=>e=.returned (.int .i64 3)∧Below w.heap.size w w':=by
 go_enter Tryz.func12,Tryz.ntmps12
 go_wp2_with fail
 refine(ref_side _ _).mono ?_
 rintro e w' ⟨rfl,rfl⟩
 go_wp2_with fail
 refine(ref_price _ _).mono ?_
 rintro e w' ⟨rfl,rfl⟩
 go_wp2_with fail
 go_ret
 exact⟨rfl,(bzR _ _).alloc (nzR _) _⟩
set_option maxRecDepth 100000 in
set_option maxHeartbeats 1000000 in
theorem rord_s3 (a b c p q s t:Int) (w:World) (a1:1≤a) (a2:a≤9999) (b1:1≤b) (b2:b≤9) (c1:sdB c=true) (hp:prB p=true) (q1:1≤q) (q2:q≤10000) (s1:0≤s) (s2:s≤q) (k0:¬s=0) (_k0' : (s == 0)=false) :
  Calls Tryz.prog 12 #[.agg #[.int .i64 a,.int .i64 b,.int .i64 c,.int .i64 3,.int .i64 p,.int .i64 q,.int .i64 s,.int .i64 t]] w fun e w'=>e=.returned (.int .i64 3)∧Below w.heap.size w w':=by
 go_enter Tryz.func12,Tryz.ntmps12
 go_wp2_with fail
 refine(ref_side _ _).mono ?_
 rintro e w' ⟨rfl,rfl⟩
 go_wp2_with fail
 refine(ref_price _ _).mono ?_
 rintro e w' ⟨rfl,rfl⟩
 go_wp2_with fail
 go_ret
 exact⟨rfl,(bzR _ _).alloc (nzR _) _⟩
set_option maxRecDepth 100000 in
set_option maxHeartbeats 1000000 in
theorem rord_s4 (a b c p q s t:Int) (w:World) (a1:1≤a) (a2:a≤9999) (b1:1≤b) (b2:b≤9) (c1:sdB c=true) (hp:prB p=true) (q1:1≤q) (q2:q≤10000) (s1:0≤s) (s2:s≤q) (k0:¬s=0) (_k0' : (s == 0)=false) :
  Calls Tryz.prog 12 #[.agg #[.int .i64 a,.int .i64 b,.int .i64 c,.int .i64 4,.int .i64 p,.int .i64 q,.int .i64 s,.int .i64 t]] w fun e w'=>e=.returned (.int .i64 3)∧Below w.heap.size w w':=by
 go_enter Tryz.func12,Tryz.ntmps12
 go_wp2_with fail
 refine(ref_side _ _).mono ?_
 rintro e w' ⟨rfl,rfl⟩
 go_wp2_with fail
 refine(ref_price _ _).mono ?_
 rintro e w' ⟨rfl,rfl⟩
 go_wp2_with fail
 go_ret
 exact⟨rfl,(bzR _ _).alloc (nzR _) _⟩
set_option maxRecDepth 100000 in
set_option maxHeartbeats 1000000 in
theorem rord_t0a (a b c q:Int) (w:World) (a1:1≤a) (a2:a≤9999) (b1:1≤b) (b2:b≤9) (c1:sdB c=true) (q1:1≤q) (q2:q≤10000) :
  Calls Tryz.prog 12 #[.agg #[.int .i64 a,.int .i64 b,.int .i64 c,.int .i64 2,.int .i64 0,.int .i64 q,.int .i64 0,.int .i64 0]] w fun e w'=>e=.returned (.int .i64 0)∧Below w.heap.size w w':=by
 go_enter Tryz.func12,Tryz.ntmps12
 go_wp2_with fail
 refine(ref_side _ _).mono ?_
 rintro e w' ⟨rfl,rfl⟩
 go_wp2_with fail
 refine(ref_price _ _).mono ?_
 rintro e w' ⟨rfl,rfl⟩
 go_wp2_with fail
 refine(ref_price _ _).mono ?_
 rintro e w' ⟨rfl,rfl⟩
 go_wp2_with fail
 go_ret
 exact⟨rfl,(bzR _ _).alloc (nzR _) _⟩
set_option maxRecDepth 100000 in
set_option maxHeartbeats 1000000 in
theorem rord_t1a (a b c q t:Int) (w:World) (a1:1≤a) (a2:a≤9999) (b1:1≤b) (b2:b≤9) (c1:sdB c=true) (q1:1≤q) (q2:q≤10000) (t0:¬t=0) (_t0' : (t == 0)=false) (ht:prB t=false) :
  Calls Tryz.prog 12 #[.agg #[.int .i64 a,.int .i64 b,.int .i64 c,.int .i64 2,.int .i64 0,.int .i64 q,.int .i64 0,.int .i64 t]] w fun e w'=>e=.returned (.int .i64 1)∧Below w.heap.size w w':=by
 go_enter Tryz.func12,Tryz.ntmps12
 go_wp2_with fail
 refine(ref_side _ _).mono ?_
 rintro e w' ⟨rfl,rfl⟩
 go_wp2_with fail
 refine(ref_price _ _).mono ?_
 rintro e w' ⟨rfl,rfl⟩
 go_wp2_with fail
 refine(ref_price _ _).mono ?_
 rintro e w' ⟨rfl,rfl⟩
 go_wp2_with fail
 go_ret
 exact⟨rfl,(bzR _ _).alloc (nzR _) _⟩
set_option maxRecDepth 100000 in
set_option maxHeartbeats 1000000 in
theorem rord_t2a (a b c q t:Int) (w:World) (a1:1≤a) (a2:a≤9999) (b1:1≤b) (b2:b≤9) (c1:sdB c=true) (q1:1≤q) (q2:q≤10000) (t0:¬t=0) (_t0' : (t == 0)=false) (ht:prB t=true) :
  Calls Tryz.prog 12 #[.agg #[.int .i64 a,.int .i64 b,.int .i64 c,.int .i64 2,.int .i64 0,.int .i64 q,.int .i64 0,.int .i64 t]] w fun e w'=>e=.returned (.int .i64 0)∧Below w.heap.size w w':=by
 go_enter Tryz.func12,Tryz.ntmps12
 go_wp2_with fail
 refine(ref_side _ _).mono ?_
 rintro e w' ⟨rfl,rfl⟩
 go_wp2_with fail
 refine(ref_price _ _).mono ?_
 rintro e w' ⟨rfl,rfl⟩
 go_wp2_with fail
 refine(ref_price _ _).mono ?_
 rintro e w' ⟨rfl,rfl⟩
 go_wp2_with fail
 go_ret
 exact⟨rfl,(bzR _ _).alloc (nzR _) _⟩
set_option maxRecDepth 100000 in
set_option maxHeartbeats 1000000 in
theorem rord_t0b (a b c d p q:Int) (w:World) (a1:1≤a) (a2:a≤9999) (b1:1≤b) (b2:b≤9) (c1:sdB c=true) (d1:1≤d) (d2:d≤5) (k:¬d=2) (_k' : (d == 2)=false) (hp:prB p=true) (q1:1≤q) (q2:q≤10000) :
  Calls Tryz.prog 12 #[.agg #[.int .i64 a,.int .i64 b,.int .i64 c,.int .i64 d,.int .i64 p,.int .i64 q,.int .i64 0,.int .i64 0]] w fun e w'=>e=.returned (.int .i64 0)∧Below w.heap.size w w':=by
 go_enter Tryz.func12,Tryz.ntmps12
 go_wp2_with fail
 refine(ref_side _ _).mono ?_
 rintro e w' ⟨rfl,rfl⟩
 go_wp2_with fail
 refine(ref_price _ _).mono ?_
 rintro e w' ⟨rfl,rfl⟩
 go_wp2_with fail
 refine(ref_price _ _).mono ?_
 rintro e w' ⟨rfl,rfl⟩
 go_wp2_with fail
 go_ret
 exact⟨rfl,(bzR _ _).alloc (nzR _) _⟩
set_option maxRecDepth 100000 in
set_option maxHeartbeats 1000000 in
theorem rord_t1b (a b c d p q t:Int) (w:World) (a1:1≤a) (a2:a≤9999) (b1:1≤b) (b2:b≤9) (c1:sdB c=true) (d1:1≤d) (d2:d≤5) (k:¬d=2) (_k' : (d == 2)=false) (hp:prB p=true) (q1:1≤q) (q2:q≤10000) (t0:¬t=0) (_t0' : (t == 0)=false) (ht:prB t=false) :
  Calls Tryz.prog 12 #[.agg #[.int .i64 a,.int .i64 b,.int .i64 c,.int .i64 d,.int .i64 p,.int .i64 q,.int .i64 0,.int .i64 t]] w fun e w'=>e=.returned (.int .i64 1)∧Below w.heap.size w w':=by
 go_enter Tryz.func12,Tryz.ntmps12
 go_wp2_with fail
 refine(ref_side _ _).mono ?_
 rintro e w' ⟨rfl,rfl⟩
 go_wp2_with fail
 refine(ref_price _ _).mono ?_
 rintro e w' ⟨rfl,rfl⟩
 go_wp2_with fail
 refine(ref_price _ _).mono ?_
 rintro e w' ⟨rfl,rfl⟩
 go_wp2_with fail
 go_ret
 exact⟨rfl,(bzR _ _).alloc (nzR _) _⟩
set_option maxRecDepth 100000 in
set_option maxHeartbeats 1000000 in
theorem rord_t2b (a b c d p q t:Int) (w:World) (a1:1≤a) (a2:a≤9999) (b1:1≤b) (b2:b≤9) (c1:sdB c=true) (d1:1≤d) (d2:d≤5) (k:¬d=2) (_k' : (d == 2)=false) (hp:prB p=true) (q1:1≤q) (q2:q≤10000) (t0:¬t=0) (_t0' : (t == 0)=false) (ht:prB t=true) :
  Calls Tryz.prog 12 #[.agg #[.int .i64 a,.int .i64 b,.int .i64 c,.int .i64 d,.int .i64 p,.int .i64 q,.int .i64 0,.int .i64 t]] w fun e w'=>e=.returned (.int .i64 0)∧Below w.heap.size w w':=by
 go_enter Tryz.func12,Tryz.ntmps12
 go_wp2_with fail
 refine(ref_side _ _).mono ?_
 rintro e w' ⟨rfl,rfl⟩
 go_wp2_with fail
 refine(ref_price _ _).mono ?_
 rintro e w' ⟨rfl,rfl⟩
 go_wp2_with fail
 refine(ref_price _ _).mono ?_
 rintro e w' ⟨rfl,rfl⟩
 go_wp2_with fail
 go_ret
 exact⟨rfl,(bzR _ _).alloc (nzR _) _⟩
set_option maxRecDepth 100000 in
set_option maxHeartbeats 1000000 in
theorem rord_t0c (a b c p q s:Int) (w:World) (a1:1≤a) (a2:a≤9999) (b1:1≤b) (b2:b≤9) (c1:sdB c=true) (hp:prB p=true) (q1:1≤q) (q2:q≤10000) (s1:0≤s) (s2:s≤q) (k0:¬s=0) (_k0' : (s == 0)=false) :
  Calls Tryz.prog 12 #[.agg #[.int .i64 a,.int .i64 b,.int .i64 c,.int .i64 1,.int .i64 p,.int .i64 q,.int .i64 s,.int .i64 0]] w fun e w'=>e=.returned (.int .i64 0)∧Below w.heap.size w w':=by
 go_enter Tryz.func12,Tryz.ntmps12
 go_wp2_with fail
 refine(ref_side _ _).mono ?_
 rintro e w' ⟨rfl,rfl⟩
 go_wp2_with fail
 refine(ref_price _ _).mono ?_
 rintro e w' ⟨rfl,rfl⟩
 go_wp2_with fail
 refine(ref_price _ _).mono ?_
 rintro e w' ⟨rfl,rfl⟩
 go_wp2_with fail
 go_ret
 exact⟨rfl,(bzR _ _).alloc (nzR _) _⟩
set_option maxRecDepth 100000 in
set_option maxHeartbeats 1000000 in
theorem rord_t1c (a b c p q s t:Int) (w:World) (a1:1≤a) (a2:a≤9999) (b1:1≤b) (b2:b≤9) (c1:sdB c=true) (hp:prB p=true) (q1:1≤q) (q2:q≤10000) (s1:0≤s) (s2:s≤q) (k0:¬s=0) (_k0' : (s == 0)=false) (t0:¬t=0) (_t0' : (t == 0)=false) (ht:prB t=false) :
  Calls Tryz.prog 12 #[.agg #[.int .i64 a,.int .i64 b,.int .i64 c,.int .i64 1,.int .i64 p,.int .i64 q,.int .i64 s,.int .i64 t]] w fun e w'=>e=.returned (.int .i64 1)∧Below w.heap.size w w':=by
 go_enter Tryz.func12,Tryz.ntmps12
 go_wp2_with fail
 refine(ref_side _ _).mono ?_
 rintro e w' ⟨rfl,rfl⟩
 go_wp2_with fail
 refine(ref_price _ _).mono ?_
 rintro e w' ⟨rfl,rfl⟩
 go_wp2_with fail
 refine(ref_price _ _).mono ?_
 rintro e w' ⟨rfl,rfl⟩
 go_wp2_with fail
 go_ret
 exact⟨rfl,(bzR _ _).alloc (nzR _) _⟩
set_option maxRecDepth 100000 in
set_option maxHeartbeats 1000000 in
theorem rord_t2c (a b c p q s t:Int) (w:World) (a1:1≤a) (a2:a≤9999) (b1:1≤b) (b2:b≤9) (c1:sdB c=true) (hp:prB p=true) (q1:1≤q) (q2:q≤10000) (s1:0≤s) (s2:s≤q) (k0:¬s=0) (_k0' : (s == 0)=false) (t0:¬t=0) (_t0' : (t == 0)=false) (ht:prB t=true) :
  Calls Tryz.prog 12 #[.agg #[.int .i64 a,.int .i64 b,.int .i64 c,.int .i64 1,.int .i64 p,.int .i64 q,.int .i64 s,.int .i64 t]] w fun e w'=>e=.returned (.int .i64 0)∧Below w.heap.size w w':=by
 go_enter Tryz.func12,Tryz.ntmps12
 go_wp2_with fail
 refine(ref_side _ _).mono ?_
 rintro e w' ⟨rfl,rfl⟩
 go_wp2_with fail
 refine(ref_price _ _).mono ?_
 rintro e w' ⟨rfl,rfl⟩
 go_wp2_with fail
 refine(ref_price _ _).mono ?_
 rintro e w' ⟨rfl,rfl⟩
 go_wp2_with fail
 go_ret
 exact⟨rfl,(bzR _ _).alloc (nzR _) _⟩
set_option maxRecDepth 100000 in
set_option maxHeartbeats 1000000 in
theorem rord_t0d (a b c p q s:Int) (w:World) (a1:1≤a) (a2:a≤9999) (b1:1≤b) (b2:b≤9) (c1:sdB c=true) (hp:prB p=true) (q1:1≤q) (q2:q≤10000) (s1:0≤s) (s2:s≤q) (k0:¬s=0) (_k0' : (s == 0)=false) :
  Calls Tryz.prog 12 #[.agg #[.int .i64 a,.int .i64 b,.int .i64 c,.int .i64 5,.int .i64 p,.int .i64 q,.int .i64 s,.int .i64 0]] w fun e w'=>e=.returned (.int .i64 0)∧Below w.heap.size w w':=by
 go_enter Tryz.func12,Tryz.ntmps12
 go_wp2_with fail
 refine(ref_side _ _).mono ?_
 rintro e w' ⟨rfl,rfl⟩
 go_wp2_with fail
 refine(ref_price _ _).mono ?_
 rintro e w' ⟨rfl,rfl⟩
 go_wp2_with fail
 refine(ref_price _ _).mono ?_
 rintro e w' ⟨rfl,rfl⟩
 go_wp2_with fail
 go_ret
 exact⟨rfl,(bzR _ _).alloc (nzR _) _⟩
set_option maxRecDepth 100000 in
set_option maxHeartbeats 1000000 in
theorem rord_t1d (a b c p q s t:Int) (w:World) (a1:1≤a) (a2:a≤9999) (b1:1≤b) (b2:b≤9) (c1:sdB c=true) (hp:prB p=true) (q1:1≤q) (q2:q≤10000) (s1:0≤s) (s2:s≤q) (k0:¬s=0) (_k0' : (s == 0)=false) (t0:¬t=0) (_t0' : (t == 0)=false) (ht:prB t=false) :
  Calls Tryz.prog 12 #[.agg #[.int .i64 a,.int .i64 b,.int .i64 c,.int .i64 5,.int .i64 p,.int .i64 q,.int .i64 s,.int .i64 t]] w fun e w'=>e=.returned (.int .i64 1)∧Below w.heap.size w w':=by
 go_enter Tryz.func12,Tryz.ntmps12
 go_wp2_with fail
 refine(ref_side _ _).mono ?_
 rintro e w' ⟨rfl,rfl⟩
 go_wp2_with fail
 refine(ref_price _ _).mono ?_
 rintro e w' ⟨rfl,rfl⟩
 go_wp2_with fail
 refine(ref_price _ _).mono ?_
 rintro e w' ⟨rfl,rfl⟩
 go_wp2_with fail
 go_ret
 exact⟨rfl,(bzR _ _).alloc (nzR _) _⟩
set_option maxRecDepth 100000 in
set_option maxHeartbeats 1000000 in
theorem rord_t2d (a b c p q s t:Int) (w:World) (a1:1≤a) (a2:a≤9999) (b1:1≤b) (b2:b≤9) (c1:sdB c=true) (hp:prB p=true) (q1:1≤q) (q2:q≤10000) (s1:0≤s) (s2:s≤q) (k0:¬s=0) (_k0' : (s == 0)=false) (t0:¬t=0) (_t0' : (t == 0)=false) (ht:prB t=true) :
  Calls Tryz.prog 12 #[.agg #[.int .i64 a,.int .i64 b,.int .i64 c,.int .i64 5,.int .i64 p,.int .i64 q,.int .i64 s,.int .i64 t]] w fun e w'=>e=.returned (.int .i64 0)∧Below w.heap.size w w':=by
 go_enter Tryz.func12,Tryz.ntmps12
 go_wp2_with fail
 refine(ref_side _ _).mono ?_
 rintro e w' ⟨rfl,rfl⟩
 go_wp2_with fail
 refine(ref_price _ _).mono ?_
 rintro e w' ⟨rfl,rfl⟩
 go_wp2_with fail
 refine(ref_price _ _).mono ?_
 rintro e w' ⟨rfl,rfl⟩
 go_wp2_with fail
 go_ret
 exact⟨rfl,(bzR _ _).alloc (nzR _) _⟩
end Go.Proofs.YtnjpjieedgmffaaGreatDoor.ord
