import Derived.Test.YtnjpjieedgmffaaGreatDoorSelMem
import Derived.Test.YtnjpjieedgmffaaGreatDoorSelPure
import Derived.Test.YtnjpjieedgmffaaGreatDoorSidPut
import Derived.Test.YtnjpjieedgmffaaGreatDoorQueRefQ
import Derived.Deep.RegionHeld3
import Derived.Test.YtnjpjieedgmffaaGreatDoorBokFind
import Derived.Test.YtnjpjieedgmffaaGreatDoorProg
import Derived.WalkKit
import Derived.LaidEql
import Derived.RowKitTokens
import Derived.Below
import Derived.Outline
namespace Go.Proofs.YtnjpjieedgmffaaGreatDoor.smt
open Go.RowKit spn que sid bok mee
theorem ownI_at {w:World}{base:Nat}{q:Option Addr}{n c:Nat}{ts:List Int}(h:slf.OwnI w base (.slice q n c) ts) {k:Nat}(hk:k < ts.length):∃g off,q=some ⟨g,off,none⟩∧g < w.heap.size∧w.cell? ⟨g,off+k,none⟩=some (.int .i64 ts[k]!)∧ts.length≤9223372036854775807:=by
 have hn:n=ts.length:=by obtain⟨q',c',e⟩:=OwnM.form h;cases e;rfl
 subst hn
 cases q with
 | none=>
  rcases h.2 with ⟨e,hn⟩|⟨g,off,cap,cur,e,_⟩
  ·rw[hn] at hk;exact absurd hk (Nat.not_lt_zero _)
  ·cases e
 | some a=>
  rcases h.2 with ⟨e,hn⟩|⟨g,off,cap,cur,e,-,hg,hc1,hc2,-⟩
  ·cases e
  ·have hcell:=slf.own_cell h k (.int .i64 ts[k]!) (by
    unfold slf.flatI
    rw[List.getElem?_map,List.getElem?_eq_getElem hk]
    simp[hk])
   simp only[Value.slice.injEq,Option.some.injEq] at e
   obtain⟨rfl,-,-⟩:=e
   exact⟨g,off,rfl,(gzE.1 hg).1,by
    have ha:(Addr.add ⟨g,off,none⟩ k)=⟨g,off+k,none⟩:=by
     by_cases hk0:k=0
     ·subst hk0;simp[Addr.add]
     ·simp[Addr.add,hk0]
    rw[←ha];exact hcell,by unfold maxLen at hc2;omega⟩
theorem ints_none (p q:Option Addr) (c d:Nat) (w:World) :
  Calls Tryz.prog 10 #[.slice p 0 c,.slice q 0 d] w fun e w'=>e=.returned (.bool true)∧Below w.heap.size w w':=by
 go_enter Tryz.func10,Tryz.ntmps10
 go_wp2_with fail
 go_loopg [5] 0 (fun _ s5 wr=>s5=.int .i64 0∧wr=w)
 case atStart=>exact⟨rfl,rfl⟩
 case round=>
  obtain⟨rfl,rfl⟩:=hrel
  go_wp2_with fail
  go_ret
  exact⟨rfl,bzR _ _⟩
set_option maxRecDepth 100000 in
set_option maxHeartbeats 1000000 in
theorem ints_same (q1 q2:Option Addr) (n1 n2 c1 c2 B1 B2:Nat) (ts:List Int) (w:World) (h1:slf.OwnI w B1 (.slice q1 n1 c1) ts) (h2:slf.OwnI w B2 (.slice q2 n2 c2) ts) :
  Calls Tryz.prog 10 #[.slice q1 n1 c1,.slice q2 n2 c2] w fun e w'=>e=.returned (.bool true)∧Below w.heap.size w w':=by
 have e1:n1=ts.length:=by obtain⟨q',c',e⟩:=OwnM.form h1;cases e;rfl
 have e2:n2=ts.length:=by obtain⟨q',c',e⟩:=OwnM.form h2;cases e;rfl
 subst e1
 subst e2
 by_cases hz:ts=[]
 ·subst hz
  exact ints_none q1 q2 c1 c2 w
 have hpos:0 < ts.length:=List.length_pos_iff.2 hz
 have HA1:Hid (∀k,k < ts.length→∃g off,q1=some ⟨g,off,none⟩∧g < w.heap.size∧w.cell? ⟨g,off+k,none⟩=some (.int .i64 ts[k]!)∧ts.length≤9223372036854775807):=fun k hk=>ownI_at h1 hk
 have HA2:Hid (∀k,k < ts.length→∃g off,q2=some ⟨g,off,none⟩∧g < w.heap.size∧w.cell? ⟨g,off+k,none⟩=some (.int .i64 ts[k]!)∧ts.length≤9223372036854775807):=fun k hk=>ownI_at h2 hk
 obtain⟨b,o,rfl,hb,-,hn⟩:=HA1.out 0 hpos
 obtain⟨b',o',rfl,hb',-⟩:=HA2.out 0 hpos
 clear h1 h2 hz hpos
 generalize hN:ts.length=n at *
 go_enter Tryz.func10,Tryz.ntmps10
 go_wp2_with fail
 go_loopg [5] n (fun gg s5 wr=>∃kk:Nat,kk≤n∧n - kk≤gg∧s5=.int .i64 kk∧Aside (Below w.heap.size w wr))
 case atStart=>exact⟨0,Nat.zero_le _,by omega,rfl,bzR _ w⟩
 case round=>
  obtain⟨kk,hkk,hg,rfl,BW⟩:=hrel
  by_cases hlt:kk < n
  ·have hltz:(kk:Int) < (n:Int):=by omega
   obtain⟨g1,o1,ee1,-,a0,-⟩:=HA1.out kk hlt
   obtain⟨g2,o2,ee2,-,b0,-⟩:=HA2.out kk hlt
   cases ee1
   cases ee2
   have c0:=keeps BW.out a0
   have d0:=keeps BW.out b0
   clear a0 b0
   obtain⟨r,hr⟩:∃r,ts[kk]! = r:=⟨_,rfl⟩
   rw[hr] at c0 d0
   have hin1:¬((kk:Int) < 0):=by omega
   have hrr:(r == r)=true:=by simp
   have e1:=wrapSucc kk n hlt hn
   clear hr hN
   go_wp2_with fail
   go_quiet (fail)
   go_wp2_with fail
   go_roundg (n - (kk+1))
   case measure=>clear e1;omega
   case rel=>exact⟨kk+1,hlt,nzR _,by go_num,below_drewN BW.out _⟩
  ·have hltz:¬(kk:Int) < (n:Int):=by omega
   go_wp2_with fail
   go_ret
   exact⟨rfl,BW.out⟩
end Go.Proofs.YtnjpjieedgmffaaGreatDoor.smt
namespace Go.Proofs.YtnjpjieedgmffaaGreatDoor.sid
open Go.RowKit spn que
theorem rests_same' (va vb:Value) (zs:List R) (w:World) (ha:SLe w va zs) (hb:SLe w vb zs) :
  Calls Tryz.prog 50 #[va,vb] w fun e w'=>e=.returned (.bool true)∧Below w.heap.size w w':=by
 by_cases hz:zs=[]
 ·obtain⟨p,c,h1⟩:=sl_form ha
  obtain⟨q,d,h2⟩:=sl_form hb
  subst hz
  subst h1
  subst h2
  exact rests_none p q c d w
 ·exact rests_same va vb zs w (ha.sl hz) (hb.sl hz)
theorem levels_none (p q:Option Addr) (c d:Nat) (w:World) :
  Calls Tryz.prog 26 #[.slice p 0 c,.slice q 0 d] w fun e w'=>e=.returned (.bool true)∧Below w.heap.size w w':=by
 go_enter Tryz.func26,Tryz.ntmps26
 go_wp2_with fail
 go_loopg [5,6] 0 (fun _ s5 _ wr=>s5=.int .i64 0∧wr=w)
 case atStart=>exact⟨rfl,rfl⟩
 case round=>
  obtain⟨rfl,rfl⟩:=hrel
  go_wp2_with fail
  go_ret
  exact⟨rfl,bzR _ _⟩
set_option maxRecDepth 100000 in
set_option maxHeartbeats 2000000 in
theorem levels_some (b o c b' o' c' : Nat) (ls:List L) (w:World) (hb:b < w.heap.size) (hb' : b' < w.heap.size) (hn:ls.length≤9223372036854775807) (hl:LL w b o ls) (hl' : LL w b' o' ls) :
  Calls Tryz.prog 26 #[.slice (some ⟨b,o,none⟩) ls.length c,.slice (some ⟨b',o',none⟩) ls.length c'] w fun e w'=>e=.returned (.bool true)∧Below w.heap.size w w':=by
 have HL:Hid (LL w b o ls∧LL w b' o' ls):=⟨hl,hl'⟩
 clear hl hl'
 generalize hN:ls.length=n at *
 have HN:Hid (ls.length=n):=hN
 clear hN
 go_enter Tryz.func26,Tryz.ntmps26
 go_wp2_with fail
 go_loopg [5,6] n (fun gg s5 _ wr=>∃kk:Nat,kk≤n∧n - kk≤gg∧s5=.int .i64 kk∧Aside (Below w.heap.size w wr))
 case atStart=>exact⟨0,Nat.zero_le _,by omega,rfl,bzR _ w⟩
 case round=>
  obtain⟨kk,hkk,hg,rfl,BW⟩:=hrel
  by_cases hlt:kk < n
  ·have hltz:(kk:Int) < (n:Int):=by omega
   have hlz:kk < ls.length:=by rw[HN.out];exact hlt
   obtain⟨r,hr⟩:∃r,ls[kk]! = r:=⟨_,rfl⟩
   obtain⟨p,zs⟩:=r
   obtain⟨q,cc,a0,a1,hs⟩:=(HL.out.1.below hb BW.out).at hlz hr
   obtain⟨q',cc',b0,b1,hs'⟩:=(HL.out.2.below hb' BW.out).at hlz hr
   have hin1:¬((kk:Int) < 0):=by omega
   have hin2:(0:Int)≤(kk:Int):=by omega
   have HE1:Hid (wrap64 ((kk:Int)+1)=((kk+1:Nat):Int)):=que.wrapSucc kk n hlt hn
   have HRS:Hid (∀W,Below wr.heap.size wr W→Calls Tryz.prog 50 #[.slice q zs.length cc,.slice q' zs.length cc'] W fun e w'=>e=.returned (.bool true)∧Below wr.heap.size wr w'):=fun W hW=>(rests_same' _ _ zs W (hs.below hW) (hs'.below hW)).mono fun e w' h=>⟨h.1,hW.trans (h.2.mono hW.size)⟩
   clear hr hs hs'
   generalize zs.length=zn at *
   have SO:Hid (∀W,Below wr.heap.size wr W→(Below wr.heap.size wr W∧W.cell? ⟨b,o+kk * 2+1,none⟩=some (.slice q zn cc)∧W.cell? ⟨b',o' + kk * 2+1,none⟩=some (.slice q' zn cc'))):=fun W hW=>⟨hW,keeps hW a1,keeps hW b1⟩
   go_upto_region 6 with fail
   go_region_held3 (fun W=>Below wr.heap.size wr W∧W.cell? ⟨b,o+kk * 2+1,none⟩=some (.slice q zn cc)∧W.cell? ⟨b',o' + kk * 2+1,none⟩=some (.slice q' zn cc'))
    ((refine SO.out _ ?_;(repeat' (first|with_reducible assumption|with_reducible refine bal ?_ _|with_reducible refine Below.setCell ?_ ?_ _|with_reducible refine Below.drew ?_|with_reducible exact bzR _ _|with_reducible exact nzR _|with_reducible exact Below.size (by with_reducible assumption)|with_reducible refine Nat.le_succ_of_le ?_))))
    (first|(go_at_call 50;refine(HRS.out _ ?_).mono ?_;(repeat' (first|with_reducible assumption|with_reducible refine bal ?_ _|with_reducible refine Below.setCell ?_ ?_ _|with_reducible refine Below.drew ?_|with_reducible exact bzR _ _|with_reducible exact nzR _|with_reducible exact Below.size (by with_reducible assumption)|with_reducible refine Nat.le_succ_of_le ?_));rintro x W ⟨rfl,hbn⟩))
   have HW:Hid (Below w.heap.size w W):=BW.out.trans (hbn.mono BW.out.size)
   have c0:=keeps hbn a0
   have c1:=keeps hbn b0
   have hbW:b < W.heap.size:=Nat.lt_of_lt_of_le hb HW.out.size
   have hbW' : b' < W.heap.size:=Nat.lt_of_lt_of_le hb' HW.out.size
   have e1:=HE1.out
   clear SO HRS hbn a0 a1 b0 b1
   go_upto_region 7 with fail
   go_quiet (fail)
   go_wp2_with fail
   go_roundg (n - (kk+1))
   case measure=>clear e1;omega
   case rel=>exact⟨kk+1,hlt,nzR _,by go_num,below_drewN HW.out _⟩
  ·have hltz:¬(kk:Int) < (n:Int):=by omega
   go_wp2_with fail
   go_ret
   exact⟨rfl,BW.out⟩
theorem levels_same (va vb:Value) (ls:List L) (w:World) (ha:LS w va ls) (hb:LS w vb ls) :
  Calls Tryz.prog 26 #[va,vb] w fun e w'=>e=.returned (.bool true)∧Below w.heap.size w w':=by
 rcases ha with ⟨rfl,rfl⟩|⟨b,o,c,rfl,h2,h3,h4,h5⟩
 ·rcases hb with ⟨rfl,-⟩|⟨b',o',c',rfl,-,-,-,-⟩
  ·exact levels_none none none 0 0 w
  ·exact levels_none none (some ⟨b',o',none⟩) 0 c' w
 ·rcases hb with ⟨rfl,rfl⟩|⟨b',o',c',rfl,-,-,i4,i5⟩
  ·exact levels_none (some ⟨b,o,none⟩) none c 0 w
  ·exact levels_some b o c b' o' c' ls w h4 i4 (by omega) h5 i5
end Go.Proofs.YtnjpjieedgmffaaGreatDoor.sid
namespace Go.Proofs.YtnjpjieedgmffaaGreatDoor.bok
open Go.RowKit spn que sid
set_option maxRecDepth 100000 in
set_option maxHeartbeats 2000000 in
theorem book_same (q1 q2 p1 p2:Option Addr) (n1 n2 c1 c2 m1 m2 d1 d2:Nat) (bs ss:List L) (w:World) (h1:LS w (.slice q1 n1 c1) bs) (h2:LS w (.slice q2 n2 c2) ss) (g1:LS w (.slice p1 m1 d1) bs) (g2:LS w (.slice p2 m2 d2) ss) :
  Calls Tryz.prog 8 #[.agg #[.slice q1 n1 c1,.slice q2 n2 c2],.agg #[.slice p1 m1 d1,.slice p2 m2 d2]] w fun e w'=>e=.returned (.bool true)∧Below w.heap.size w w':=by
 have HL1:Hid (∀W,Below w.heap.size w W→Calls Tryz.prog 26 #[.slice q1 n1 c1,.slice p1 m1 d1] W fun e w'=>e=.returned (.bool true)∧Below W.heap.size W w'):=fun W hW=>levels_same _ _ bs W (h1.below hW) (g1.below hW)
 have HL2:Hid (∀W,Below w.heap.size w W→Calls Tryz.prog 26 #[.slice q2 n2 c2,.slice p2 m2 d2] W fun e w'=>e=.returned (.bool true)∧Below W.heap.size W w'):=fun W hW=>levels_same _ _ ss W (h2.below hW) (g2.below hW)
 obtain⟨V,hV⟩:∃V,V=(w.alloc (.cells #[.slice q1 n1 c1,.slice q2 n2 c2] 24)).alloc (.cells #[.slice p1 m1 d1,.slice p2 m2 d2] 24):=⟨_,rfl⟩
 have HB:Hid (Below w.heap.size w V):=by rw[hV];exact((bzR _ _).alloc (nzR _) _).alloc (by simp) _
 have v0:V.cell? ⟨w.heap.size,1,none⟩=some (.slice q2 n2 c2):=by rw[hV];simp[go_sem]
 have v1:V.cell? ⟨w.heap.size+1,1,none⟩=some (.slice p2 m2 d2):=by rw[hV];simp[go_sem]
 have hVs:w.heap.size+1 < V.heap.size:=by rw[hV];simp
 clear h1 h2 g1 g2
 go_enter Tryz.func8,Tryz.ntmps8
 go_wp2_with fail
 rw[←hV]
 refine(HL1.out V HB.out).mono ?_
 rintro e w1 ⟨rfl,b1⟩
 have HB1:Hid (Below w.heap.size w w1):=HB.out.trans (b1.mono HB.out.size)
 have x0:=keeps b1 v0
 have x1:=keeps b1 v1
 have hs1:w.heap.size+1 < w1.heap.size:=Nat.lt_of_lt_of_le hVs b1.size
 clear b1 v0 v1 HL1
 go_wp2_with fail
 refine(HL2.out w1 HB1.out).mono ?_
 rintro e w2 ⟨rfl,b2⟩
 have HB2:Hid (Below w.heap.size w w2):=HB1.out.trans (b2.mono HB1.out.size)
 clear b2 x0 x1 HL2
 go_wp2_with fail
 go_ret
 exact⟨rfl,HB2.out⟩
end Go.Proofs.YtnjpjieedgmffaaGreatDoor.bok
namespace Go.Proofs.YtnjpjieedgmffaaGreatDoor.told
open Go.RowKit Go.Extern
theorem valueOfP (t:Addr) (w:World):(ReflectliteValue.unpack (.iface 100 (.pointer (some t)))).run Tryz.prog w
  = .ok (.agg #[.pointer (some ⟨1,100,none⟩),.pointer (some ⟨w.heap.size,0,none⟩),.int .u64 150]) (w.alloc (.cells #[.pointer (some t)] 100)):=by kernel_rfl
theorem typeP (a:Addr) (w:World):(ReflectliteValue.methodAny (ReflectliteValue.valueError "reflectlite.Value.Type" 0) (fun t _ _ _=>ReflectliteType.toType t) #[.agg #[.pointer (some ⟨1,100,none⟩),.pointer (some a),.int .u64 150]]).run Tryz.prog w
  = .ok (.iface 162 (.agg #[.pointer (some ⟨1,100,none⟩)])) w:=by kernel_rfl
theorem methodKind (h:Value) (w:World):(Go.method 326 162 (.agg #[h]) "Kind").run Tryz.prog w=.ok (141,h) w:=by kernel_rfl
theorem kindP (w:World):((ReflectliteType.abiMethod fun t=>(fun a:Nat=>Value.int IntKind.u8 (a:Int)) <$> Rtype.kind t) #[.pointer (some ⟨1,100,none⟩)]).run Tryz.prog w=.ok (.int .u8 22) w:=by kernel_rfl
theorem kindE (w:World):((ReflectliteType.abiMethod fun t=>(fun a:Nat=>Value.int IntKind.u8 (a:Int)) <$> Rtype.kind t) #[.pointer (some ⟨1,70,none⟩)]).run Tryz.prog w=.ok (.int .u8 2) w:=by kernel_rfl
theorem partsP (a:Addr) (w:World):(ReflectliteValue.parts (.agg #[.pointer (some ⟨1,100,none⟩),.pointer (some a),.int .u64 150])).run Tryz.prog w=.ok (some (100,a,150)) w:=by kernel_rfl
theorem isNilP (a p:Addr) (W:World) (ha:W.cell? a=some (.pointer (some p))) :
  (ReflectliteValue.method (ReflectliteValue.valueError "reflectlite.Value.IsNil" 0) ReflectliteValue.isNil #[.agg #[.pointer (some ⟨1,100,none⟩),.pointer (some a),.int .u64 150]]).run Tryz.prog W=.ok (.bool false) W:=by
 refine(Sem.run_bind (x:=ReflectliteValue.parts (.agg #[.pointer (some ⟨1,100,none⟩),.pointer (some a),.int .u64 150])) ..).trans ?_
 simp only[partsP,Result.andThen]
 simp[ReflectliteValue.isNil,loadVar,isAgg,underlying,Tryz.underlying100,ha,Result.andThen]
theorem methodElem (h:Value) (w:World):(Go.method 326 162 (.agg #[h]) "Elem").run Tryz.prog w=.ok (151,.agg #[h]) w:=by kernel_rfl
theorem methodImplements (h:Value) (w:World):(Go.method 326 162 (.agg #[h]) "Implements").run Tryz.prog w=.ok (152,.agg #[h]) w:=by kernel_rfl
theorem methodAssignableTo (h:Value) (w:World):(Go.method 326 162 (.agg #[h]) "AssignableTo").run Tryz.prog w=.ok (149,.agg #[h]) w:=by kernel_rfl
theorem elemP (w:World):(ReflectliteType.method ReflectliteType.elem #[.agg #[.pointer (some ⟨1,100,none⟩)]]).run Tryz.prog w=.ok (.iface 162 (.agg #[.pointer (some ⟨1,70,none⟩)])) w:=by kernel_rfl
theorem implementsE (w:World):(ReflectliteType.relation "Implements" ReflectliteType.implements_ #[.agg #[.pointer (some ⟨1,70,none⟩)],.iface 162 (.agg #[.pointer (some ⟨1,35,none⟩)])]).run Tryz.prog w=.ok (.bool true) w:=by kernel_rfl
theorem typeOfE (v:Value) (w:World):(ReflectliteType.typeOf #[.iface 70 v]).run Tryz.prog w=.ok (.iface 162 (.agg #[.pointer (some ⟨1,70,none⟩)])) w:=by kernel_rfl
theorem assignableE (w:World):(ReflectliteType.relation "AssignableTo" ReflectliteType.assignableTo #[.agg #[.pointer (some ⟨1,70,none⟩)],.iface 162 (.agg #[.pointer (some ⟨1,70,none⟩)])]).run Tryz.prog w=.ok (.bool true) w:=by kernel_rfl
theorem valueOfE (k:Int) (w:World):(ReflectliteValue.unpack (.iface 70 (.int .i64 k))).run Tryz.prog w
  = .ok (.agg #[.pointer (some ⟨1,70,none⟩),.pointer (some ⟨w.heap.size,0,none⟩),.int .u64 130]) (w.alloc (.cells #[.int .i64 k] 70)):=by kernel_rfl
theorem elemOfP (w:World):(Rtype.elem? 100).run Tryz.prog w=.ok (some 70) w:=by kernel_rfl
theorem mkE (p:Addr) (w:World):(ReflectliteValue.mk 70 p ReflectliteValue.flagAddr).run Tryz.prog w=.ok (.agg #[.pointer (some ⟨1,70,none⟩),.pointer (some p),.int .u64 386]) w:=by kernel_rfl
theorem elemVP (a p:Addr) (W:World) (ha:W.cell? a=some (.pointer (some p))) :
  (ReflectliteValue.method (ReflectliteValue.valueError "reflectlite.Value.Elem" 0) ReflectliteValue.elem #[.agg #[.pointer (some ⟨1,100,none⟩),.pointer (some a),.int .u64 150]]).run Tryz.prog W
   = .ok (.agg #[.pointer (some ⟨1,70,none⟩),.pointer (some p),.int .u64 386]) W:=by
 refine(Sem.run_bind (x:=ReflectliteValue.parts (.agg #[.pointer (some ⟨1,100,none⟩),.pointer (some a),.int .u64 150])) ..).trans ?_
 simp only[partsP,Result.andThen]
 simp[ReflectliteValue.elem,loadVar,isAgg,underlying,Tryz.underlying100,ha,Result.andThen,elemOfP,mkE]
theorem partsEa (a:Addr) (w:World):(ReflectliteValue.parts (.agg #[.pointer (some ⟨1,70,none⟩),.pointer (some a),.int .u64 386])).run Tryz.prog w=.ok (some (70,a,386)) w:=by kernel_rfl
theorem partsE (a:Addr) (w:World):(ReflectliteValue.parts (.agg #[.pointer (some ⟨1,70,none⟩),.pointer (some a),.int .u64 130])).run Tryz.prog w=.ok (some (70,a,130)) w:=by kernel_rfl
theorem directE (w:World):(Rtype.directlyAssignable 70 70).run Tryz.prog w=.ok true w:=by kernel_rfl
set_option maxRecDepth 100000 in
theorem setE (ta b:Addr) (k:Int) (old:Value) (W:World) (hb:W.cell? b=some (.int .i64 k)) (ht:W.cell? ta=some old) (hf:W.frozen? ta=false) :
  (ReflectliteValue.set #[.agg #[.pointer (some ⟨1,70,none⟩),.pointer (some ta),.int .u64 386],.agg #[.pointer (some ⟨1,70,none⟩),.pointer (some b),.int .u64 130]]).run Tryz.prog W
   = .ok (.tuple #[]) (W.setCell ta (.int .i64 k)):=by
 refine(Sem.run_bind (x:=ReflectliteValue.parts (.agg #[.pointer (some ⟨1,70,none⟩),.pointer (some ta),.int .u64 386])) ..).trans ?_
 rw[partsEa]
 refine(Sem.run_bind (x:=ReflectliteValue.parts (.agg #[.pointer (some ⟨1,70,none⟩),.pointer (some b),.int .u64 130])) ..).trans ?_
 simp only[partsE,Result.andThen]
 simp[ReflectliteValue.flagAddr,loadVar,isAgg,underlying,Tryz.underlying70,hb,Result.andThen,directE,storeVar,Value.cells,storeCells,Addr.add]
 rw[run_store Tryz.prog W ta _ _ (by rfl)]
 simp[ht,hf]
def Laid (w:World):Prop:=w.cell? ⟨0,0,none⟩=some (.iface 162 (.agg #[.pointer (some ⟨1,35,none⟩)]))
set_option maxHeartbeats 4000000 in
theorem as_hit (k:Int) (t:Addr) (old:Value) (w:World) (hL:Laid w) (ht0:w.cell? t=some old) (hf0:w.frozen? t=false) :
  Calls Tryz.prog 49 #[.iface 70 (.int .i64 k),.iface 100 (.pointer (some t))] w fun ev w'=>ev=.returned (.bool true)∧w'=((((w.alloc (.cells #[.pointer (some t)] 100)).alloc (.cells #[.pointer (some ⟨1,100,none⟩),.pointer (some ⟨w.heap.size,0,none⟩),.int .u64 150] 131)).alloc (.cells #[.pointer (some ⟨1,100,none⟩),.pointer (some ⟨w.heap.size,0,none⟩),.int .u64 150] 131)).alloc (.cells #[.int .i64 k] 70)).setCell t (.int .i64 k):=by
 have hg:w.cell? ⟨0,0,none⟩=some (.iface 162 (.agg #[.pointer (some ⟨1,35,none⟩)])):=hL
 clear hL
 have h1:=@run_callFunc_extern Tryz.prog 76 _ (fun args=>ReflectliteValue.unpack (args.getD 0 (.tuple #[]))) Tryz.func76 (by kernel_rfl) (by kernel_rfl) (by kernel_rfl) (by kernel_rfl)
 have h2:=@run_callFunc_extern Tryz.prog 77 _ (ReflectliteValue.methodAny (ReflectliteValue.valueError "reflectlite.Value.Type" 0) (fun t _ _ _=>ReflectliteType.toType t)) Tryz.func77 (by kernel_rfl) (by kernel_rfl) (by kernel_rfl) (by kernel_rfl)
 have h3:=@run_callFunc_extern Tryz.prog 78 _ (ReflectliteValue.method (ReflectliteValue.valueError "reflectlite.Value.IsNil" 0) ReflectliteValue.isNil) Tryz.func78 (by kernel_rfl) (by kernel_rfl) (by kernel_rfl) (by kernel_rfl)
 have h4:=@run_callFunc_extern Tryz.prog 141 _ (ReflectliteType.abiMethod fun t=>do pure (.int .u8 (←Rtype.kind t))) Tryz.func141 (by kernel_rfl) (by kernel_rfl) (by kernel_rfl) (by kernel_rfl)
 have h5:=@run_callFunc_extern Tryz.prog 151 _ (ReflectliteType.method ReflectliteType.elem) Tryz.func151 (by kernel_rfl) (by kernel_rfl) (by kernel_rfl) (by kernel_rfl)
 have h6:=@run_callFunc_extern Tryz.prog 152 _ (ReflectliteType.relation "Implements" ReflectliteType.implements_) Tryz.func152 (by kernel_rfl) (by kernel_rfl) (by kernel_rfl) (by kernel_rfl)
 have h7:=@run_callFunc_extern Tryz.prog 99 _ ReflectliteType.typeOf Tryz.func99 (by kernel_rfl) (by kernel_rfl) (by kernel_rfl) (by kernel_rfl)
 have h8:=@run_callFunc_extern Tryz.prog 149 _ (ReflectliteType.relation "AssignableTo" ReflectliteType.assignableTo) Tryz.func149 (by kernel_rfl) (by kernel_rfl) (by kernel_rfl) (by kernel_rfl)
 have h9:=@run_callFunc_extern Tryz.prog 100 _ (ReflectliteValue.method (ReflectliteValue.valueError "reflectlite.Value.Elem" 0) ReflectliteValue.elem) Tryz.func100 (by kernel_rfl) (by kernel_rfl) (by kernel_rfl) (by kernel_rfl)
 have h10:=@run_callFunc_extern Tryz.prog 101 _ ReflectliteValue.set Tryz.func101 (by kernel_rfl) (by kernel_rfl) (by kernel_rfl) (by kernel_rfl)
 have tO:=typeOfE
 have mA:=methodAssignableTo
 have aE:=assignableE
 have vE:=valueOfE
 have vP:=valueOfP
 have tP:=typeP
 have mK:=methodKind
 have mE:=methodElem
 have mI:=methodImplements
 have kP:=kindP
 have kE:=kindE
 have eP:=elemP
 have iE:=implementsE
 have n8:=isNilP ⟨w.heap.size,0,none⟩ t ((w.alloc (.cells #[.pointer (some t)] 100)).alloc (.cells #[.pointer (some ⟨1,100,none⟩),.pointer (some ⟨w.heap.size,0,none⟩),.int .u64 150] 131)) (by simp)
 have hlt:0 < w.heap.size:=by
  rcases Nat.lt_or_ge 0 w.heap.size with h|h
  ·exact h
  ·simp[World.cell?,Array.getElem?_eq_none h] at hg
 have hg2:((w.alloc (.cells #[.pointer (some t)] 100)).alloc (.cells #[.pointer (some ⟨1,100,none⟩),.pointer (some ⟨w.heap.size,0,none⟩),.int .u64 150] 131)).cell? ⟨0,0,none⟩=some (.iface 162 (.agg #[.pointer (some ⟨1,35,none⟩)])):=by
  rw[World.cell?_alloc_lt _ _ ⟨0,0,none⟩ (by simp;try omega),World.cell?_alloc_lt _ _ ⟨0,0,none⟩ hlt];exact hg
 have htl:t.block < w.heap.size:=by
  rcases Nat.lt_or_ge t.block w.heap.size with h|h
  ·exact h
  ·simp[World.cell?,Array.getElem?_eq_none h] at ht0
 have el:=elemVP ⟨w.heap.size,0,none⟩ t (((w.alloc (.cells #[.pointer (some t)] 100)).alloc (.cells #[.pointer (some ⟨1,100,none⟩),.pointer (some ⟨w.heap.size,0,none⟩),.int .u64 150] 131)).alloc (.cells #[.pointer (some ⟨1,100,none⟩),.pointer (some ⟨w.heap.size,0,none⟩),.int .u64 150] 131)) (by rw[World.cell?_alloc_lt _ _ ⟨w.heap.size,0,none⟩ (by simp;omega)];simp)
 have st:=setE t ⟨w.heap.size+1+1+1,0,none⟩ k old ((((w.alloc (.cells #[.pointer (some t)] 100)).alloc (.cells #[.pointer (some ⟨1,100,none⟩),.pointer (some ⟨w.heap.size,0,none⟩),.int .u64 150] 131)).alloc (.cells #[.pointer (some ⟨1,100,none⟩),.pointer (some ⟨w.heap.size,0,none⟩),.int .u64 150] 131)).alloc (.cells #[.int .i64 k] 70))
  (by rw[World.cell?_alloc_at _ _ _ _ (by simp)];rfl)
  (by rw[World.cell?_alloc_lt _ _ t (by simp;omega),World.cell?_alloc_lt _ _ t (by simp;omega),World.cell?_alloc_lt _ _ t (by simp;omega),World.cell?_alloc_lt _ _ t htl];exact ht0)
  (by rw[World.frozen?_alloc_old _ _ t (by simp;omega),World.frozen?_alloc_old _ _ t (by simp;omega),World.frozen?_alloc_old _ _ t (by simp;omega),World.frozen?_alloc_old _ _ t (Nat.ne_of_lt htl)];exact hf0)
 go_enter Tryz.func49,Tryz.ntmps49
 go_wp2
 refine wp_loop_rounds 1 ?_
 rw[rounds_succ]
 go_wp2
 go_ret
 exact⟨rfl,rfl⟩
theorem Laid.size {w:World}(h:Laid w):0 < w.heap.size:=by
 have hg:w.cell? ⟨0,0,none⟩=some (.iface 162 (.agg #[.pointer (some ⟨1,35,none⟩)])):=h
 rcases Nat.lt_or_ge 0 w.heap.size with h|h
 ·exact h
 ·simp[World.cell?,Array.getElem?_eq_none h] at hg
theorem Laid.below {w w' : World}(h:Laid w) (hb:Below w.heap.size w w'):Laid w':=
 (hb.cell (p:=⟨0,0,none⟩) h.size).trans h
theorem told_nil (w:World):Calls Tryz.prog 25 #[.nilIface] w fun e w'=>e=.returned (.int .i64 0)∧w'=w:=by
 go_enter Tryz.func25,Tryz.ntmps25
 go_wp2
 go_ret
 exact⟨rfl,rfl⟩
set_option maxHeartbeats 1000000 in
theorem told_errno (k:Int) (w:World) (hL:Laid w) :
  Calls Tryz.prog 25 #[.iface 70 (.int .i64 k)] w fun e w'=>e=.returned (.int .i64 k)∧Below w.heap.size w w':=by
 have hA:Laid (w.alloc (.cells #[.int .i64 0] 70)):=hL.below ((bzR _ _).alloc (nzR _) _)
 have htA:(w.alloc (.cells #[.int .i64 0] 70)).cell? ⟨w.heap.size,0,none⟩=some (.int .i64 0):=by simp
 have hfA:(w.alloc (.cells #[.int .i64 0] 70)).frozen? ⟨w.heap.size,0,none⟩=false:=by simp
 go_enter Tryz.func25,Tryz.ntmps25
 go_wp2_with (go_at_call 49;refine(as_hit _ _ (.int .i64 0) _ hA htA hfA).mono ?_;rintro e w' ⟨rfl,rfl⟩)
 go_ret
 refine⟨rfl,?_⟩
 repeat (first|exact bzR _ _|refine Below.alloc ?_ (by simp;try omega) _|refine Below.setCell ?_ (by simp;try omega) _)
def errV (k:Int):Value:=if k=0 then .nilIface else .iface 70 (.int .i64 k)
theorem errV_zero:errV 0=.nilIface:=rfl
theorem errV_of {k:Int}(h:¬k=0):errV k=.iface 70 (.int .i64 k):=if_neg h
theorem told_any (k:Int) (w:World) (hL:Laid w) :
  Calls Tryz.prog 25 #[errV k] w fun e w'=>e=.returned (.int .i64 k)∧Below w.heap.size w w':=by
 by_cases h:k=0
 ·subst h
  refine(told_nil w).mono ?_
  rintro e w' ⟨rfl,rfl⟩
  exact⟨rfl,bzR _ _⟩
 ·rw[errV_of h]
  exact told_errno k w hL
def Inv (B w:World):Prop:=Laid B∧Below B.heap.size B w
theorem Inv.start {B:World}(h:Laid B):Inv B B:=⟨h,bzR _ _⟩
theorem Inv.laid {B w:World}(h:Inv B w):Laid w:=h.1.below h.2
theorem Inv.on {B w w' : World}(h:Inv B w) (hb:Below w.heap.size w w'):Inv B w':=⟨h.1,h.2.trans (hb.mono h.2.size)⟩
theorem error_any (B:World) (k e:Int) (w:World) (h:Inv B w) :
  Calls Tryz.prog 7 #[errV k,.int .i64 e] w fun ev w'=>ev=.returned (.bool (k == e))∧Inv B w':=by
 go_enter Tryz.func7,Tryz.ntmps7
 go_wp2_with (go_at_call 25;refine(told_any _ _ h.laid).mono ?_;rintro e w' ⟨rfl,hb⟩)
 go_ret
 exact⟨rfl,h.on hb⟩
end Go.Proofs.YtnjpjieedgmffaaGreatDoor.told
