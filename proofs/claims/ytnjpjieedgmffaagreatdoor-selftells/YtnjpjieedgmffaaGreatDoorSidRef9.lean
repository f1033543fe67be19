import Derived.Test.YtnjpjieedgmffaaGreatDoorSidRef6
import Derived.Test.YtnjpjieedgmffaaGreatDoorSidRef8
import Derived.Test.YtnjpjieedgmffaaGreatDoorSidAdd
namespace Go.Proofs.YtnjpjieedgmffaaGreatDoor.sid
open Go.RowKit spn que
theorem idx_mem (id:Int) (zs:List R):0≤idx id zs↔id∈zs.map (·.id):=by
 have h:=has_idx id zs
 constructor
 ·intro h1
  rw[decide_eq_true h1] at h
  cases hm:has id zs with
  | false=>rw[hm] at h;cases h
  | true=>exact Classical.byContradiction fun hn=>by rw[(has_false id zs).2 hn] at hm;cases hm
 ·intro h1
  exact Classical.byContradiction fun hn=>by
   rw[decide_eq_false hn] at h
   exact(has_false id zs).1 h h1
theorem atGo_mem (id:Int) (ls:List L):∀i:Int,0≤i→(0≤(atGo id i ls).1↔id∈(allR ls).map (·.id)):=by
 induction ls with
 | nil=>intro i hi;simp[atGo,allR]
 | cons l t ih=>
  intro i hi
  rw[allR_cons,List.map_append,List.mem_append,←idx_mem]
  unfold atGo
  by_cases h:0≤idx id l.rests
  ·rw[if_pos h];simp[h,hi]
  ·rw[if_neg h,ih (i+1) (by omega)];simp[h]
end Go.Proofs.YtnjpjieedgmffaaGreatDoor.sid
namespace Go.Proofs.YtnjpjieedgmffaaGreatDoor.sid
open Go.RowKit spn que
open tickP (priceB sideB betOk betR)
def raddE (ls:List L) (p:Int) (r:R):Int:=if priceB p=true then (if rchk r=0 then (if 0≤(atGo r.id 0 ls).1 then 7 else if 60≤cnt ls then 4 else 0) else rchk r) else 1
theorem raddE_is {s:Int}{ls:List L}{p:Int}{r:R}(h0:schk s ls=0):raddE ls p r=addE s ls p r:=by
 have hc:=(schk_zero h0).2.2.1
 unfold raddE addE
 rw[if_pos h0]
 by_cases hp:priceB p=true
 ·rw[if_pos hp,if_pos hp]
  by_cases hr:rchk r=0
  ·rw[if_pos hr,if_pos hr]
   have hm:=atGo_mem r.id ls 0 (Int.le_refl _)
   rw[←ids_allR] at hm
   by_cases h1:0≤(atGo r.id 0 ls).1
   ·rw[if_pos h1,if_pos (hm.1 h1)]
   ·rw[if_neg h1,if_neg (fun h=>h1 (hm.2 h))]
    by_cases h2:60≤cnt ls
    ·rw[if_pos h2,if_pos (by omega)]
    ·rw[if_neg h2,if_neg (by omega)]
  ·rw[if_neg hr,if_neg hr]
 ·rw[if_neg hp,if_neg hp]
def RaddPost (s:Int) (ls:List L) (p:Int) (r:R) (w:World) (x:Ending) (w' : World):Prop:=
 ∃v',x=.returned (.tuple #[v',.int .i64 (addE s ls p r)])∧LS w' v' (addL s ls p r)∧Below w.heap.size w w'
theorem radd_bad {s:Int}{ls:List L}{p:Int}{r:R}{w W:World}{k:Int}(h:addE s ls p r=k) (hk:¬k=0) (hW:Below w.heap.size w W):RaddPost s ls p r w (.returned (.tuple #[.slice none 0 0,.int .i64 k])) W:=
 ⟨_,by rw[h],by rw[addL_bad h hk];exact ls_nil _,hW⟩
set_option maxRecDepth 100000 in
set_option maxHeartbeats 2000000 in
theorem radd_good (s p r1 r2 r3 r4 r5:Int) (vq:Option Addr) (vn vc:Nat) (ls:List L) (w:World) (h:LS w (.slice vq vn vc) ls) (h0:schk s ls=0) :
  Calls Tryz.prog 35 #[.int .i64 s,.slice vq vn vc,.int .i64 p,.agg #[.int .i64 r1,.int .i64 r2,.int .i64 r3,.int .i64 r4,.int .i64 r5]] w fun x w'=>RaddPost s ls p ⟨r1,r2,r3,r4,r5⟩ w x w':=by
 obtain⟨z1,z2,z3,-⟩:=schk_zero h0
 have hE:=sgo_each z2
 have hlen:=len_cnt hE
 have HR60:Hid ((∀l∈ls,l.rests.length≤60)∧ls.length≤10000):=⟨fun l hl=>by have:=rests_le hl;omega,by omega⟩
 have HLS:Hid (∀W,Below w.heap.size w W→LS W (.slice vq vn vc) ls):=fun W hW=>h.below hW
 have H0:Hid (schk s ls=0):=h0
 have HBD:Hid (∀k W,addE s ls p ⟨r1,r2,r3,r4,r5⟩=k→¬k=0→Below w.heap.size w W→RaddPost s ls p ⟨r1,r2,r3,r4,r5⟩ w (.returned (.tuple #[.slice none 0 0,.int .i64 k])) W):=fun k W a b c=>radd_bad a b c
 have HAE:Hid (raddE ls p ⟨r1,r2,r3,r4,r5⟩=addE s ls p ⟨r1,r2,r3,r4,r5⟩):=raddE_is h0
 have HOK:Hid (∀v' W,addE s ls p ⟨r1,r2,r3,r4,r5⟩=0→LS W v' (putL s p ⟨r1,r2,r3,r4,r5⟩ ls)→Below w.heap.size w W→RaddPost s ls p ⟨r1,r2,r3,r4,r5⟩ w (.returned (.tuple #[v',.int .i64 0])) W):=fun v' W a b c=>⟨v',by rw[a],by unfold addL;rw[if_pos a];exact b,c⟩
 generalize hPO:RaddPost s ls p ⟨r1,r2,r3,r4,r5⟩ w=PO at *
 clear z1 z2 z3 hE hlen h h0 hPO
 obtain⟨V,hV⟩:∃V,V=w.alloc (.cells #[.int .i64 r1,.int .i64 r2,.int .i64 r3,.int .i64 r4,.int .i64 r5] 55):=⟨_,rfl⟩
 have HBV:Hid (Below w.heap.size w V):=by rw[hV];exact(bzR _ _).alloc (nzR _) _
 have HRV:Hid (V.heap[w.heap.size]?=some (.cells #[.int .i64 r1,.int .i64 r2,.int .i64 r3,.int .i64 r4,.int .i64 r5] 55 (0,0))):=by rw[hV];exact heap_alloc_new w _
 obtain⟨y0,y1,y2,y3,y4,-⟩:=rowFive HRV.out
 go_enter Tryz.func35,Tryz.ntmps35
 go_wp2_with fail
 rw[←hV]
 clear hV
 refine(rprice_any p _).mono ?_
 rintro e V ⟨rfl,rfl⟩
 unfold raddE at HAE
 by_cases hp2:priceB p=false
 ·have ha:addE s ls p ⟨r1,r2,r3,r4,r5⟩=1:=by rw[←HAE.out,if_neg (by simp[hp2])]
  have HF:=HBD.out 1 V ha (by decide) HBV.out
  rw[hp2]
  clear hp2 ha
  go_wp2_with fail
  exact HF
 have hp:priceB p=true:=by simpa using hp2
 have HP:Hid (priceB p=true):=hp
 rw[hp]
 rw[if_pos hp] at HAE
 clear hp hp2
 go_wp2_with fail
 refine(rrest_any r1 r2 r3 r4 r5 _).mono ?_
 rintro e w1 ⟨rfl,b1⟩
 have HB1:Hid (Below w.heap.size w w1):=HBV.out.trans (b1.mono HBV.out.size)
 have x0:=keeps b1 y0
 have x1:=keeps b1 y1
 have x2:=keeps b1 y2
 have x3:=keeps b1 y3
 have x4:=keeps b1 y4
 clear b1 y0 y1 y2 y3 y4
 by_cases hr:rchk ⟨r1,r2,r3,r4,r5⟩=0
 rotate_left
 ·have ha:addE s ls p ⟨r1,r2,r3,r4,r5⟩=rchk ⟨r1,r2,r3,r4,r5⟩:=by rw[←HAE.out,if_neg hr]
  have HF:=HBD.out _ w1 ha hr HB1.out
  generalize rchk ⟨r1,r2,r3,r4,r5⟩=k at *
  have hkb:(k != 0)=true:=by simp[hr]
  clear ha
  go_wp2_with fail
  exact HF
 rw[if_pos hr] at HAE
 rw[hr]
 clear hr
 go_wp2_with fail
 refine(rat_any _ ls r1 _ (HLS.out w1 HB1.out)).mono ?_
 rintro e w2 ⟨rfl,k2,rfl⟩
 have HB2:Hid (Below w.heap.size w (w1.drewN k2)):=belowN HB1.out k2
 have z0:=keeps (below_drewN' w1 k2) x0
 have z1:=keeps (below_drewN' w1 k2) x1
 have z2:=keeps (below_drewN' w1 k2) x2
 have z3:=keeps (below_drewN' w1 k2) x3
 have z4:=keeps (below_drewN' w1 k2) x4
 clear x0 x1 x2 x3 x4
 generalize w1.drewN k2=w2 at *
 generalize atGo r1 0 ls=A at *
 obtain⟨A1,A2⟩:=A
 simp only[] at HAE ⊢
 by_cases h7:0≤A1
 ·have ha:addE s ls p ⟨r1,r2,r3,r4,r5⟩=7:=by rw[←HAE.out,if_pos h7]
  have HF:=HBD.out 7 w2 ha (by decide) HB2.out
  clear ha
  go_wp2_with fail
  exact HF
 rw[if_neg h7] at HAE
 go_wp2_with fail
 refine(rcount_any _ ls _ (HLS.out w2 HB2.out) HR60.out.1 HR60.out.2).mono ?_
 rintro e w3 ⟨rfl,k3,rfl⟩
 have HB3:Hid (Below w.heap.size w (w2.drewN k3)):=belowN HB2.out k3
 have y0:=keeps (below_drewN' w2 k3) z0
 have y1:=keeps (below_drewN' w2 k3) z1
 have y2:=keeps (below_drewN' w2 k3) z2
 have y3:=keeps (below_drewN' w2 k3) z3
 have y4:=keeps (below_drewN' w2 k3) z4
 clear z0 z1 z2 z3 z4
 generalize w2.drewN k3=w3 at *
 generalize cnt ls=C at *
 by_cases h4:60≤C
 ·have ha:addE s ls p ⟨r1,r2,r3,r4,r5⟩=4:=by rw[←HAE.out,if_pos h4]
  have HF:=HBD.out 4 w3 ha (by decide) HB3.out
  clear ha
  go_wp2_with fail
  exact HF
 rw[if_neg h4] at HAE
 have HA0:Hid (addE s ls p ⟨r1,r2,r3,r4,r5⟩=0):=HAE.out.symm
 go_wp2_with fail
 refine(rput_good s p r1 r2 r3 r4 r5 _ ls _ (HLS.out w3 HB3.out) H0.out HP.out).mono ?_
 rintro e w4 ⟨v',rfl,l4,b4⟩
 have HF:=HOK.out v' w4 HA0.out l4 (HB3.out.trans (b4.mono HB3.out.size))
 clear l4 b4
 go_wp2_with fail
 exact HF
end Go.Proofs.YtnjpjieedgmffaaGreatDoor.sid
