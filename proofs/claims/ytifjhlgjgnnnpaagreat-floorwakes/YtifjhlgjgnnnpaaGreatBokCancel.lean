import Derived.Test.YtifjhlgjgnnnpaaGreatSidDrop
import Derived.Test.YtifjhlgjgnnnpaaGreatBokFind
import Derived.Test.YtifjhlgjgnnnpaaGreatQueFil
set_option maxHeartbeats 4000000
set_option maxRecDepth 100000
namespace Go.Proofs.YtifjhlgjgnnnpaaGreat
namespace sid
open Go.RowKit spn que Go.Maps
theorem wrapSucc(i:Nat)(h:i≤1000):wrap64 ((i:Int)+1)=(i:Int)+1∧IntKind.i64.wrap ((i:Int)+1)=(i:Int)+1:=by
 have i2:wrap64 ((i:Int)+1)=(i:Int)+1:=by unfold wrap64;omega
 exact⟨i2,(IntWalk.i64_left _).trans i2⟩
theorem zJE(s:Int)(b o c n:Nat)(ls:List L)(id:Int)(i k:Nat)(p:Int)(zs:List R)(r1 r2 r3 r4 r5:Int)(w:World)(hn:ls.length=n)(hb:b<w.heap.size)(hc:n≤c)(hm:c≤9223372036854775807)(hl:LL w b o ls)(hid:(Lit.int .i64 id).wf=true)(h0:schk s ls=0)
  (hfv:findV s ls id=.tuple #[.int .i64 i,.int .i64 k,.nilIface]) (hi:i<n) (he:ls[i]! = ⟨p,zs⟩) (hk:k<zs.length) (hr:zs[k]! = ⟨r1,r2,r3,r4,r5⟩) (POST:Ending→World→Prop)
  (hpost:∀W v3,Below w.heap.size w W→DL W w.heap.size v3 (dropL ls i k)→POST (.returned (.tuple #[v3,.agg #[.int .i64 r1,.int .i64 r2,.int .i64 r3,.int .i64 r4,.int .i64 r5],.int .i64 p,.nilIface])) W) :
  Calls Tryz.prog 130 #[.int .i64 s,.slice (some ⟨b,o,none⟩) n c,.int .i64 id] w fun x w'=>POST x w':=by
 have hLS:LS w (.slice (some ⟨b,o,none⟩) n c) ls:=.inr ⟨b,o,c,by rw[hn],by rw[hn];exact hc,hm,hb,hl⟩
 obtain⟨z1,z2,z3,z4⟩:=zAa h0
 have hlen:=zBZ (zAh z2)
 have HFI:=fun W(hW:Below w.heap.size w W)=>find_any s _ ls id W (hLS.below hW) hid
 rw[hfv] at HFI
 have HFR:Hid (∀W,Below w.heap.size w W→Calls Tryz.prog 58 #[.slice (some ⟨b,o,none⟩) n c] W fun e w'=>FreshPost W ls e w'):=fun W hW=>zAK _ ls W (hLS.below hW) (by omega) (fun l hl=>by have:=zAt hl;omega) (fun l hl=>(zAc (zAh z2 l hl)).2.1)
 have hn60:n≤60:=by omega
 have hil:i<ls.length:=by omega
 obtain⟨q,rc,l0,l1,hsl⟩:=hl.at hil he
 obtain⟨rb,ro,hq,-,hrb,hlr⟩:=zDB hsl hk
 subst hq
 obtain⟨v0,v1,v2,v3,v4⟩:=zBj hlr hk hr
 have hm60:zs.length≤60:=by
  have h1:ls[i]!∈ls:=by rw[getE _ _ hil];exact List.getElem_mem hil
  have:=zAt h1
  rw[he] at this
  simp only[] at this
  omega
 have hrc:zs.length≤rc∧rc≤9223372036854775807:=by
  rcases hsl.sl (fun e=>by rw[e] at hk;simp at hk) with ⟨e,-⟩|⟨b',o',c',e,h1,h2,-⟩
  ·cases e
  ·cases e;exact⟨h1,h2⟩
 have HLS:Hid (ls.length=n∧ls[i]! = ⟨p,zs⟩∧i<ls.length):=⟨hn,he,hil⟩
 have HPOST:Hid (∀W v3,Below w.heap.size w W→DL W w.heap.size v3 (dropL ls i k)→POST (.returned (.tuple #[v3,.agg #[.int .i64 r1,.int .i64 r2,.int .i64 r3,.int .i64 r4,.int .i64 r5],.int .i64 p,.nilIface])) W):=hpost
 obtain⟨hrc1,hrc2⟩:=hrc
 generalize hmm:zs.length=m at *
 have HM:Hid (zs.length=m):=hmm
 have SO:Hid (∀W,Below w.heap.size w W→(Below w.heap.size w W∧W.cell? ⟨b,o+i*2,none⟩=some (.int .i64 p)∧W.cell? ⟨b,o+i*2+1,none⟩=some (.slice (some ⟨rb,ro,none⟩) m rc)∧W.cell? ⟨rb,ro+k*5,none⟩=some (.int .i64 r1)∧W.cell? ⟨rb,ro+k*5+1,none⟩=some (.int .i64 r2)∧W.cell? ⟨rb,ro+k*5+2,none⟩=some (.int .i64 r3)∧W.cell? ⟨rb,ro+k*5+3,none⟩=some (.int .i64 r4)∧W.cell? ⟨rb,ro+k*5+4,none⟩=some (.int .i64 r5))):=fun W hW=>⟨hW,keeps hW l0,keeps hW l1,keeps hW v0,keeps hW v1,keeps hW v2,keeps hW v3,keeps hW v4⟩
 clear hmm hpost hLS z1 z2 z3 z4 hlen hsl hlr hl h0 hfv he hr hn hil v0 v1 v2 v3 v4 l0 l1 hid
 have i0:¬((i:Int)<0):=by omega
 have i1:(i:Int)<(n:Int):=by omega
 have i4:(0:Int)≤(i:Int):=by omega
 have k0:¬((k:Int)<0):=by omega
 have k1:(k:Int)<(m:Int):=by omega
 have k4:(0:Int)≤(k:Int):=by omega
 have HI2:Hid (wrap64 ((i:Int)+1)=(i:Int)+1∧IntKind.i64.wrap ((i:Int)+1)=(i:Int)+1):=wrapSucc i (by omega)
 have HK2:Hid (wrap64 ((k:Int)+1)=(k:Int)+1∧IntKind.i64.wrap ((k:Int)+1)=(k:Int)+1):=wrapSucc k (by omega)
 go_enter Tryz.func130,Tryz.ntmps130
 go_wp2_with fail
 refine(HFI _ ((bzR _ _).alloc (nzR _) _)).mono ?_
 rintro x w1⟨rfl,hb1⟩
 have HB1:Hid (Below w.heap.size w w1):=((bzR _ _).alloc (nzR _) _).trans (hb1.mono (by simp))
 have hR1:w1.heap[w.heap.size]?=some (.cells #[.int .i64 0,.int .i64 0,.int .i64 0,.int .i64 0,.int .i64 0] 54 (0,0)):=by
  rw[hb1.block w.heap.size (by simp)]
  exact heap_alloc_new w _
 have hz1:w.heap.size<w1.heap.size:=by have:=hb1.size;simp at this;omega
 clear hb1 HFI
 go_wp2_with fail
 refine(HFR.out w1 HB1.out).mono ?_
 rintro x w2⟨v2,ps,rfl,hps,hD,hb2⟩
 have HB2:Hid (Below w.heap.size w w2):=HB1.out.trans (hb2.mono HB1.out.size)
 have hR2:w2.heap[w.heap.size]?=some (.cells #[.int .i64 0,.int .i64 0,.int .i64 0,.int .i64 0,.int .i64 0] 54 (0,0)):=by
  rw[hb2.block w.heap.size hz1];exact hR1
 clear HFR hR1
 obtain⟨hn,he,hil⟩:=HLS.out
 have hpl:ps.length=n:=by rw[←hn,←hps,List.length_map]
 have hip:i<ps.length:=by omega
 obtain⟨⟨⟨xp,xq,xn,xc⟩,xz⟩,hx⟩:∃x,x=ps[i]:=⟨_,rfl⟩
 have hxl:toL (⟨xp,xq,xn,xc⟩,xz)=⟨p,zs⟩:=by
  rw[hx,←he,getE _ _ hil]
  simp only[←hps,List.getElem_map]
 have hxp:p=xp:=(congrArg L.price hxl).symm
 have hxz:zs=xz:=(congrArg L.rests hxl).symm
 subst hxp
 subst hxz
 have hsp:ps=ps.take i++(⟨p,xq,xn,xc⟩,zs)::ps.drop (i+1):=by
  rw[hx,←List.drop_eq_getElem_cons hip,List.take_append_drop]
 obtain⟨a,ha⟩:∃a,a=ps.take i:=⟨_,rfl⟩
 obtain⟨t,ht⟩:∃t,t=ps.drop (i+1):=⟨_,rfl⟩
 rw[←ha,←ht] at hsp
 have hai:a.length=i:=by rw[ha,List.length_take];omega
 rw[hsp] at hD
 have hex:=hD.each (⟨p,xq,xn,xc⟩,zs) (by simp)
 have hxn:m=xn:=by
  obtain⟨q',c',e⟩:=OwnM.form hex
  have e' : Value.slice xq xn xc=.slice q' zs.length c':=e
  simp at e'
  rw[e'.2.1,HM.out]
 subst hxn
 have ho5:=hD.own
 rw[List.append_nil,List.map_append,List.map_cons] at ho5
 have hnl:(a.map (·.1)++(⟨p,xq,m,xc⟩:rlv.RL)::t.map (·.1)).length=n:=by
  rw[←hpl,hsp];simp
 have HDL:Hid (dropL ls i k=if m=1 then (a++t).map toL else a.map toL++⟨p,zs.eraseIdx k⟩::t.map toL):=by
  show _=_
  have e1:ls=a.map toL++⟨p,zs⟩::t.map toL:=by rw[←hps,hsp];simp[toL]
  unfold dropL
  rw[he]
  simp only[]
  rw[HM.out]
  rw[e1,←show (a.map toL).length=i by rw[List.length_map,hai],zCK,zBY]
  split
  ·simp
  ·rfl
 rcases ho5.2 with ⟨-,hz⟩|⟨g,off,cap,cur,e5,-,-,hcap,hcm,-,-⟩
 ·simp at hz
 ·rw[hnl] at e5 hcap
  subst e5
  have hcap2:cap≤9223372036854775807:=by simpa [maxLen] using hcm
  obtain⟨-,-,c1,hfr,hgb,hgs⟩:=zBX ho5
  rw[List.length_map,hai] at c1
  simp only[] at c1
  have f1:=hfr (off+i*2+1)
  have hwg:w.heap.size≠g:=by omega
  have HDD:Hid (Deep w2 w1.heap.size (.slice (some ⟨g,off,none⟩) n cap) (a++(⟨p,xq,m,xc⟩,zs)::t)):=hD
  have HAI:Hid (a.length=i):=hai
  have HEX:Hid (OwnM w2 w1.heap.size 54 5 (.slice xq m xc) m (flat zs)):=by have h:OwnM w2 w1.heap.size 54 5 (.slice xq m xc) zs.length (flat zs):=hex;rwa [HM.out] at h
  have HO5:Hid (OwnM w2 w1.heap.size 52 2 (.slice (some ⟨g,off,none⟩) n cap) n (rlv.flat (a.map (·.1)++(⟨p,xq,m,xc⟩:rlv.RL)::t.map (·.1)))):=by have h:OwnM w2 w1.heap.size 52 2 _ _ _:=ho5;rwa [hnl] at h
  have HB2b:Hid (Below w1.heap.size w1 w2):=hb2
  clear hn he hil hpl hip hx hxl hsp ha ht hai hex ho5 hnl hcm hD hfr hps HLS hb2
  by_cases h1:m=1
  ·have HDL1:Hid (dropL ls i k=(a++t).map toL):=by show _=_;rw[HDL.out,if_pos h1]
   have hdel:=rlv.delete_own w2 w1.heap.size g off n cap i (i+1) _ HO5.out (by omega) (by omega) (rlv.flat_one _)
   rw[show (((i+1:Nat)):Int)=(i:Int)+1 by omega] at hdel
   have h11:((m:Int) == 1)=true:=by simp;omega
   have h12:(m:Int)=1:=by omega
   obtain⟨i2,i3⟩:=HI2.out
   go_wp2_with fail
   refine hdel.mono ?_
   clear i2 i3 h11 h12 h1
   rintro x W3⟨rfl,hO3,hg3⟩
   have HB3:Hid (Below w.heap.size w W3):=HB2.out.grown hg3 HB2.out.size (fun k hk=>by cases hk;omega)
   have hR3:W3.heap[w.heap.size]?=some (.cells #[.int .i64 0,.int .i64 0,.int .i64 0,.int .i64 0,.int .i64 0] 54 (0,0)):=by
    rw[hg3.block w.heap.size (by have:=HB2b.out.size;omega) (fun e=>by cases e;exact hwg rfl)];exact hR2
   have HL3:Hid (∀W,W3.grownBy W (some w.heap.size)→DL W w.heap.size (.slice (some ⟨g,off,none⟩) (i+(n - (i+1))) cap) (dropL ls i k)):=fun W hW=>by
    rw[HDL1.out]
    have ho:rlv.OwnQ W3 w1.heap.size (.slice (some ⟨g,off,none⟩) (i+(n - (i+1))) cap) ((a++t).map (·.1)):=by
     have e1:rlv.flat ((a++t).map (·.1))=(rlv.flat (a.map (·.1)++(⟨p,xq,m,xc⟩:rlv.RL)::t.map (·.1))).take (i*2)++(rlv.flat (a.map (·.1)++(⟨p,xq,m,xc⟩:rlv.RL)::t.map (·.1))).drop ((i+1)*2):=by
      rw[←zEE,←zEF,←rlv.flat_append,List.take_left' (by rw[List.length_map,HAI.out]),List.map_append]
      congr 2
      rw[show i+1=(a.map (·.1)).length+1 by rw[List.length_map,HAI.out],List.drop_length_add_append]
      rfl
     have e2:((a++t).map (·.1)).length=i+(n - (i+1)):=by
      have h1:=HO5.out.1
      rw[rlv.flat_len] at h1
      simp at h1 ⊢
      have:=HAI.out
      omega
     show OwnM _ _ _ _ _ _ _
     rw[e1,e2]
     exact hO3
    have hd:=DeepT.delete HDD.out ho hg3 rfl
    exact⟨_,rfl,(hd.other hW hz1).mono HB1.out.size⟩
   clear hdel hO3 hg3 HDL HDL1 HDD HEX HO5 c1 f1 hR2 HB2 HB2b
   have hB3:=HB3.out
   obtain⟨e0,e1,e2,e3,e4,hfr⟩:=rowFive hR3
   have f0:=hfr 0
   have f1:=hfr 1
   have f2:=hfr 2
   have f3:=hfr 3
   have f4:=hfr 4
   have HX:=setFive hR3 (.int .i64 r1) (.int .i64 r2) (.int .i64 r3) (.int .i64 r4) (.int .i64 r5)
   have HBX:Below w.heap.size w (((((W3.setCell ⟨w.heap.size,0,none⟩ (.int .i64 r1)).setCell ⟨w.heap.size,1,none⟩ (.int .i64 r2)).setCell ⟨w.heap.size,2,none⟩ (.int .i64 r3)).setCell ⟨w.heap.size,3,none⟩ (.int .i64 r4)).setCell ⟨w.heap.size,4,none⟩ (.int .i64 r5)):=((((hB3.setCell (nzR _) _).setCell (nzR _) _).setCell (nzR _) _).setCell (nzR _) _).setCell (nzR _) _
   have HPX:=HPOST.out _ _ HBX (HL3.out _ (grFive W3 w.heap.size (.int .i64 r1) (.int .i64 r2) (.int .i64 r3) (.int .i64 r4) (.int .i64 r5)))
   have HPX1:=HPOST.out _ _ HBX.drew (HL3.out _ (gr_trans (grFive W3 w.heap.size (.int .i64 r1) (.int .i64 r2) (.int .i64 r3) (.int .i64 r4) (.int .i64 r5)) (gr_drew _ _)))
   have HHX:Hid ((((((W3.setCell ⟨w.heap.size,0,none⟩ (.int .i64 r1)).setCell ⟨w.heap.size,1,none⟩ (.int .i64 r2)).setCell ⟨w.heap.size,2,none⟩ (.int .i64 r3)).setCell ⟨w.heap.size,3,none⟩ (.int .i64 r4)).setCell ⟨w.heap.size,4,none⟩ (.int .i64 r5)).heap[w.heap.size]?=some (.cells #[.int .i64 r1,.int .i64 r2,.int .i64 r3,.int .i64 r4,.int .i64 r5] 54 (0,0))):=HX
   clear hfr HPOST HL3 HBX HX hR3
   go_upto_region 8 with fail
   go_region_held3 (fun W=>Below w.heap.size w W∧W.cell? ⟨b,o+i*2,none⟩=some (.int .i64 p)∧W.cell? ⟨b,o+i*2+1,none⟩=some (.slice (some ⟨rb,ro,none⟩) m rc)∧W.cell? ⟨rb,ro+k*5,none⟩=some (.int .i64 r1)∧W.cell? ⟨rb,ro+k*5+1,none⟩=some (.int .i64 r2)∧W.cell? ⟨rb,ro+k*5+2,none⟩=some (.int .i64 r3)∧W.cell? ⟨rb,ro+k*5+3,none⟩=some (.int .i64 r4)∧W.cell? ⟨rb,ro+k*5+4,none⟩=some (.int .i64 r5))
    ((refine SO.out _ ?_;(with_reducible repeat' (first|assumption|refine bal ?_ _|refine Below.setCell ?_ ?_ _|refine Below.drew ?_|exact bzR _ _|exact nzR _|exact Below.size (by assumption)|refine Nat.le_succ_of_le ?_))))
    (fail)
   go_wp2_with fail
   generalize (((((W3.setCell ⟨w.heap.size,0,none⟩ (.int .i64 r1)).setCell ⟨w.heap.size,1,none⟩ (.int .i64 r2)).setCell ⟨w.heap.size,2,none⟩ (.int .i64 r3)).setCell ⟨w.heap.size,3,none⟩ (.int .i64 r4)).setCell ⟨w.heap.size,4,none⟩ (.int .i64 r5))=V at *
   obtain⟨y0,y1,y2,y3,y4,-⟩:=rowFive HHX.out
   first|exact bodyPost_ret (v:=.tuple #[.slice (some ⟨g,off,none⟩) (i+(n - (i+1))) cap,.agg #[.int .i64 r1,.int .i64 r2,.int .i64 r3,.int .i64 r4,.int .i64 r5],.int .i64 p,.nilIface]) (by simp[results,Tryz.results130,go_sem,y0,y1,y2,y3,y4]) rfl HPX1|exact bodyPost_ret (v:=.tuple #[.slice (some ⟨g,off,none⟩) (i+(n - (i+1))) cap,.agg #[.int .i64 r1,.int .i64 r2,.int .i64 r3,.int .i64 r4,.int .i64 r5],.int .i64 p,.nilIface]) (by simp[results,Tryz.results130,go_sem,y0,y1,y2,y3,y4]) rfl HPX
  ·have HDL1:Hid (dropL ls i k=a.map toL++⟨p,zs.eraseIdx k⟩::t.map toL):=by show _=_;rw[HDL.out,if_neg h1]
   have h12:¬((m:Int)=1):=by omega
   have h11:((m:Int) == 1)=false:=by simp;omega
   rcases HEX.out.2 with ⟨e,hz⟩|⟨xg,xo,xcap,xcur,e,hxb,hxg,hxcap,hxcm,-,-⟩
   ·omega
   ·cases e
    have hxc2:xc≤9223372036854775807:=by simpa [maxLen] using hxcm
    have hdel:=que.delete_own w2 w1.heap.size xg xo m xc k (k+1) _ HEX.out (by omega) (by omega) (flat_one _)
    rw[show (((k+1:Nat)):Int)=(k:Int)+1 by omega] at hdel
    have hxgs:xg<w2.heap.size:=(gzE.1 hxg).1
    have hfar:xg≠g:=fun e=>HDD.out.far (⟨p,some ⟨xg,xo,none⟩,m,xc⟩,zs) (by simp) xg rfl (by rw[e];rfl)
    clear hxcm hxg
    obtain⟨k2,k3⟩:=HK2.out
    go_wp2_with fail
    refine hdel.mono ?_
    clear k2 k3
    rintro x w3⟨rfl,hO3,hg3⟩
    have hwg3:w.heap.size≠xg:=by omega
    have d1:w3.cell? ⟨g,off+i*2+1,none⟩=some (.slice (some ⟨xg,xo,none⟩) m xc):=by
     rw[hg3.cell_far ⟨g,off+i*2+1,none⟩ hgs (fun e=>hfar (by cases e;rfl))];exact c1
    have d2:w3.frozen? ⟨g,off+i*2+1,none⟩=false:=by
     rw[World.frozen?_of_block (hg3.block g hgs (fun e=>hfar (by cases e;rfl)))];exact f1
    have hgs3:g<w3.heap.size:=Nat.lt_of_lt_of_le hgs hg3.size
    have hB3a:Below w.heap.size w w3:=HB2.out.grown hg3 HB2.out.size (fun k hk=>by cases hk;omega)
    have HB3:Hid (Below w.heap.size w (w3.setCell ⟨g,off+i*2+1,none⟩ (.slice (some ⟨xg,xo,none⟩) (k+(m - (k+1))) xc))):=hB3a.setCell (by show _≤g;omega) _
    have hR3:(w3.setCell ⟨g,off+i*2+1,none⟩ (.slice (some ⟨xg,xo,none⟩) (k+(m - (k+1))) xc)).heap[w.heap.size]?=some (.cells #[.int .i64 0,.int .i64 0,.int .i64 0,.int .i64 0,.int .i64 0] 54 (0,0)):=by
     rw[heap_setCell_other _ _ _ _ hwg,hg3.block w.heap.size (by have:=HB2b.out.size;omega) (fun e=>by cases e;exact hwg3 rfl)];exact hR2
    have HL3:Hid (∀W,(w3.setCell ⟨g,off+i*2+1,none⟩ (.slice (some ⟨xg,xo,none⟩) (k+(m - (k+1))) xc)).grownBy W (some w.heap.size)→DL W w.heap.size (.slice (some ⟨g,off,none⟩) n cap) (dropL ls i k)):=fun W hW=>by
     rw[HDL1.out]
     have ho:OwnQ w3 w1.heap.size (.slice (some ⟨xg,xo,none⟩) (k+(m - (k+1))) xc) (zs.eraseIdx k):=by
      have e1:flat (zs.eraseIdx k)=(flat zs).take (k*5)++(flat zs).drop ((k+1)*5):=by
       rw[List.eraseIdx_eq_take_drop_succ,flat_append,zHF,zHG]
      have e2:(zs.eraseIdx k).length=k+(m - (k+1)):=by
       rw[List.length_eraseIdx_of_lt (by rw[HM.out];exact hk),HM.out];omega
      show OwnM _ _ _ _ _ _ _
      rw[e1,e2]
      exact hO3
     have hd:=DeepT.swap HDD.out hg3 ho (.inl rfl)
     rw[HAI.out] at hd
     rw[show a.map toL++(⟨p,zs.eraseIdx k⟩:L)::t.map toL=(a++(((⟨p,some ⟨xg,xo,none⟩,k+(m - (k+1)),xc⟩:rlv.RL),zs.eraseIdx k):RP)::t).map toL by simp[toL]]
     exact⟨_,rfl,(hd.other hW hz1).mono HB1.out.size⟩
    clear hdel hO3 HDL HDL1 HDD HEX HO5 c1 f1 hR2 HB2 HB2b hB3a
    go_upto_region 8 with fail
    generalize w3.setCell ⟨g,off+i*2+1,none⟩ (.slice (some ⟨xg,xo,none⟩) (k+(m - (k+1))) xc)=W3 at *
    clear hg3 d1 d2 hgs3
    have hB3:=HB3.out
    obtain⟨e0,e1,e2,e3,e4,hfr⟩:=rowFive hR3
    have f0:=hfr 0
    have f1:=hfr 1
    have f2:=hfr 2
    have f3:=hfr 3
    have f4:=hfr 4
    have HX:=setFive hR3 (.int .i64 r1) (.int .i64 r2) (.int .i64 r3) (.int .i64 r4) (.int .i64 r5)
    have HBX:Below w.heap.size w (((((W3.setCell ⟨w.heap.size,0,none⟩ (.int .i64 r1)).setCell ⟨w.heap.size,1,none⟩ (.int .i64 r2)).setCell ⟨w.heap.size,2,none⟩ (.int .i64 r3)).setCell ⟨w.heap.size,3,none⟩ (.int .i64 r4)).setCell ⟨w.heap.size,4,none⟩ (.int .i64 r5)):=((((hB3.setCell (nzR _) _).setCell (nzR _) _).setCell (nzR _) _).setCell (nzR _) _).setCell (nzR _) _
    have HPX:=HPOST.out _ _ HBX (HL3.out _ (grFive W3 w.heap.size (.int .i64 r1) (.int .i64 r2) (.int .i64 r3) (.int .i64 r4) (.int .i64 r5)))
    have HPX1:=HPOST.out _ _ HBX.drew (HL3.out _ (gr_trans (grFive W3 w.heap.size (.int .i64 r1) (.int .i64 r2) (.int .i64 r3) (.int .i64 r4) (.int .i64 r5)) (gr_drew _ _)))
    have HHX:Hid ((((((W3.setCell ⟨w.heap.size,0,none⟩ (.int .i64 r1)).setCell ⟨w.heap.size,1,none⟩ (.int .i64 r2)).setCell ⟨w.heap.size,2,none⟩ (.int .i64 r3)).setCell ⟨w.heap.size,3,none⟩ (.int .i64 r4)).setCell ⟨w.heap.size,4,none⟩ (.int .i64 r5)).heap[w.heap.size]?=some (.cells #[.int .i64 r1,.int .i64 r2,.int .i64 r3,.int .i64 r4,.int .i64 r5] 54 (0,0))):=HX
    clear hfr HPOST HL3 HBX HX hR3
    go_region_held3 (fun W=>Below w.heap.size w W∧W.cell? ⟨b,o+i*2,none⟩=some (.int .i64 p)∧W.cell? ⟨b,o+i*2+1,none⟩=some (.slice (some ⟨rb,ro,none⟩) m rc)∧W.cell? ⟨rb,ro+k*5,none⟩=some (.int .i64 r1)∧W.cell? ⟨rb,ro+k*5+1,none⟩=some (.int .i64 r2)∧W.cell? ⟨rb,ro+k*5+2,none⟩=some (.int .i64 r3)∧W.cell? ⟨rb,ro+k*5+3,none⟩=some (.int .i64 r4)∧W.cell? ⟨rb,ro+k*5+4,none⟩=some (.int .i64 r5))
     ((refine SO.out _ ?_;(with_reducible repeat' (first|assumption|refine bal ?_ _|refine Below.setCell ?_ ?_ _|refine Below.drew ?_|exact bzR _ _|exact nzR _|exact Below.size (by assumption)|refine Nat.le_succ_of_le ?_))))
     (fail)
    go_wp2_with fail
    generalize (((((W3.setCell ⟨w.heap.size,0,none⟩ (.int .i64 r1)).setCell ⟨w.heap.size,1,none⟩ (.int .i64 r2)).setCell ⟨w.heap.size,2,none⟩ (.int .i64 r3)).setCell ⟨w.heap.size,3,none⟩ (.int .i64 r4)).setCell ⟨w.heap.size,4,none⟩ (.int .i64 r5))=V at *
    obtain⟨y0,y1,y2,y3,y4,-⟩:=rowFive HHX.out
    first|exact bodyPost_ret (v:=.tuple #[.slice (some ⟨g,off,none⟩) n cap,.agg #[.int .i64 r1,.int .i64 r2,.int .i64 r3,.int .i64 r4,.int .i64 r5],.int .i64 p,.nilIface]) (by simp[results,Tryz.results130,go_sem,y0,y1,y2,y3,y4]) rfl HPX1|exact bodyPost_ret (v:=.tuple #[.slice (some ⟨g,off,none⟩) n cap,.agg #[.int .i64 r1,.int .i64 r2,.int .i64 r3,.int .i64 r4,.int .i64 r5],.int .i64 p,.nilIface]) (by simp[results,Tryz.results130,go_sem,y0,y1,y2,y3,y4]) rfl HPX
theorem zGv(s:Int)(v:Value)(ls:List L)(id:Int)(w:World)(h:LS w v ls)(hid:(Lit.int .i64 id).wf=true) :
  Calls Tryz.prog 130 #[.int .i64 s,v,.int .i64 id] w fun x w'=>DropPost s ls id w x w':=by
 by_cases h0:findE s ls id=0
 ·obtain⟨hs,i,k,hi,hk,e1,e2⟩:=zBL h0
  have hfv:findV s ls id=.tuple #[.int .i64 i,.int .i64 k,.nilIface]:=by unfold findV;rw[e2,h0,errV_zero]
  rcases h with ⟨rfl,rfl⟩|⟨b,o,c,rfl,h2,h3,h4,h5⟩
  ·simp at hi
  ·obtain⟨l,hl⟩:∃l,ls[i]! = l:=⟨_,rfl⟩
   obtain⟨p,zs⟩:=l
   have hle:ls[i]=⟨p,zs⟩:=by rw[←hl,getE _ _ hi]
   have hk2:k<zs.length:=by rw[hle] at hk;exact hk
   obtain⟨r,hr⟩:∃r,zs[k]! = r:=⟨_,rfl⟩
   obtain⟨r1,r2,r3,r4,r5⟩:=r
   refine zJE s b o c ls.length ls id i k p zs r1 r2 r3 r4 r5 w rfl h4 h2 h3 h5 hid hs hfv hi hl hk2 hr (DropPost s ls id w) (fun W v3 hW hL=>⟨hW,v3,?_,?_⟩)
   ·unfold dropRest dropPrice
    rw[if_pos h0,if_pos h0,e2,h0,errV_zero]
    simp only[Int.toNat_natCast]
    rw[hl]
    simp only[]
    rw[hr]
    rfl
   ·unfold dropE
    rw[if_pos h0,e2]
    simp only[Int.toNat_natCast]
    exact hL
 ·obtain⟨q,m,c,rfl⟩:=zDD h
  exact zMt s q m c ls id w h hid h0
end sid
namespace bok
open Go.RowKit spn que sid
def WiPost(s:Int)(bs ss ls:List L)(b0:Nat)(w:World)(e:Ending)(w' : World):Prop:=
 ∃q1 q2 n1 n2 c1 c2,e=.returned (.agg #[.slice q1 n1 c1,.slice q2 n2 c2])∧DL w' b0 (.slice q1 n1 c1) (if s=1 then ls else bs)∧DL w' b0 (.slice q2 n2 c2) (if s=1 then ss else ls)∧Below w.heap.size w w'
theorem zBu(s:Int)(q1 q2 q3:Option Addr)(n1 n2 n3 c1 c2 c3:Nat)(bs ss ls:List L)(b0:Nat)(w:World)(h1:LS w (.slice q1 n1 c1) bs)(h2:LS w (.slice q2 n2 c2) ss)(h3:DL w b0 (.slice q3 n3 c3) ls)(hb0:b0≤w.heap.size)(k1:schk 1 bs=0)(k2:schk 2 ss=0) :
  Calls Tryz.prog 122 #[.agg #[.slice q1 n1 c1,.slice q2 n2 c2],.int .i64 s,.slice q3 n3 c3] w fun e w'=>WiPost s bs ss ls b0 w e w':=by
 have hlen:∀ {t:Int}{xs:List L},schk t xs=0→xs.length≤1000∧(∀l∈xs,l.rests.length≤1000):=fun {t xs} hk=>by
  obtain⟨-,z2,z3,-⟩:=zAa hk
  have:=zBZ (zAh z2)
  exact⟨by omega,fun l hl=>by have:=zAt hl;omega⟩
 have HF1:Hid (∀W,Below w.heap.size w W→Calls Tryz.prog 58 #[.slice q1 n1 c1] W fun e w'=>FreshPost W bs e w'):=fun W hW=>zAK _ bs W (h1.below hW) (hlen k1).1 (hlen k1).2 (zAw k1)
 have HF2:Hid (∀W,Below w.heap.size w W→Calls Tryz.prog 58 #[.slice q2 n2 c2] W fun e w'=>FreshPost W ss e w'):=fun W hW=>zAK _ ss W (h2.below hW) (hlen k2).1 (hlen k2).2 (zAw k2)
 have H3:Hid (DL w b0 (.slice q3 n3 c3) ls):=h3
 obtain⟨V,hV⟩:∃V,V=(w.alloc (.cells #[.slice q1 n1 c1,.slice q2 n2 c2] 46)).alloc (.cells #[.slice none 0 0,.slice none 0 0] 46):=⟨_,rfl⟩
 have HB:Hid (Below w.heap.size w V):=by rw[hV];exact((bzR _ _).alloc (nzR _) _).alloc (by simp) _
 have v0:V.cell? ⟨w.heap.size,0,none⟩=some (.slice q1 n1 c1):=by rw[hV];simp[go_sem]
 have v1:V.cell? ⟨w.heap.size,1,none⟩=some (.slice q2 n2 c2):=by rw[hV];simp[go_sem]
 have hR:V.heap[w.heap.size+1]?=some (.cells #[.slice none 0 0,.slice none 0 0] 46 (0,0)):=by
  rw[hV]
  have:=heap_alloc_new (w.alloc (.cells #[.slice q1 n1 c1,.slice q2 n2 c2] 46)) (.cells #[.slice none 0 0,.slice none 0 0] 46)
  simpa using this
 have hVs:w.heap.size+1<V.heap.size:=(gzE.1 hR).1
 clear h1 h2 h3 k1 k2 hlen
 by_cases hs:s=1
 ·subst hs
  have HP:Hid (∀W q m c,Below w.heap.size w W→DL W b0 (.slice q m c) ss→DL W b0 (.slice q3 n3 c3) ls→WiPost 1 bs ss ls b0 w (.returned (.agg #[.slice q3 n3 c3,.slice q m c])) W):=fun W q m c hW ha hb=>⟨q3,q,n3,m,c3,c,rfl,by rw[if_pos rfl];exact hb,by rw[if_pos rfl];exact ha,hW⟩
  generalize WiPost 1 bs ss ls b0 w=POST at *
  go_enter Tryz.func122,Tryz.ntmps122
  go_wp2_with fail
  rw[←hV]
  refine(HF2.out V HB.out).mono ?_
  rintro e w1⟨v',ps,rfl,hps,hD,b1⟩
  obtain⟨q',c',hv'⟩:=OwnM.form hD.own
  generalize (ps.map (·.1)++([]:List rlv.RL)).length=m' at hv'
  subst hv'
  have hB1:Below w.heap.size w w1:=HB.out.trans (b1.mono HB.out.size)
  have hR1:w1.heap[w.heap.size+1]?=some (.cells #[.slice none 0 0,.slice none 0 0] 46 (0,0)):=by rw[b1.block _ hVs];exact hR
  obtain⟨e0,e1,hf⟩:=rowTwo hR1
  have f0:=hf 0
  have f1:=hf 1
  have HX:=setTwo hR1 (.slice q3 n3 c3) (.slice q' m' c')
  have hg:=grTwo w1 (w.heap.size+1) (.slice q3 n3 c3) (.slice q' m' c')
  have hD2:DL _ b0 _ _:=⟨ps,hps,(hD.other hg hVs).mono (Nat.le_trans hb0 HB.out.size)⟩
  have HPX:=HP.out _ q' m' c' (hB1.grown hg hB1.size (fun k hk=>by cases hk;omega)) hD2 (zGj H3.out hB1 hg (by omega))
  have HHX:Hid (((w1.setCell ⟨w.heap.size+1,0,none⟩ (.slice q3 n3 c3)).setCell ⟨w.heap.size+1,1,none⟩ (.slice q' m' c')).heap[w.heap.size+1]?=some (.cells #[.slice q3 n3 c3,.slice q' m' c'] 46 (0,0))):=HX
  clear hD hps hB1 hR1 hf HX hg hD2 HP HF1 HF2 b1 hR v0 v1
  go_wp2_with fail
  generalize (w1.setCell ⟨w.heap.size+1,0,none⟩ (.slice q3 n3 c3)).setCell ⟨w.heap.size+1,1,none⟩ (.slice q' m' c')=X at *
  obtain⟨y0,y1,-⟩:=rowTwo HHX.out
  exact bodyPost_ret (v:=.agg #[.slice q3 n3 c3,.slice q' m' c']) (by simp[results,Tryz.results122,go_sem,y0,y1]) rfl HPX
 ·have hs1:(s == 1)=false:=by simpa using hs
  have HP:Hid (∀W q m c,Below w.heap.size w W→DL W b0 (.slice q m c) bs→DL W b0 (.slice q3 n3 c3) ls→WiPost s bs ss ls b0 w (.returned (.agg #[.slice q m c,.slice q3 n3 c3])) W):=fun W q m c hW ha hb=>⟨q,q3,m,n3,c,c3,rfl,by rw[if_neg hs];exact ha,by rw[if_neg hs];exact hb,hW⟩
  generalize WiPost s bs ss ls b0 w=POST at *
  go_enter Tryz.func122,Tryz.ntmps122
  go_wp2_with fail
  rw[←hV]
  refine(HF1.out V HB.out).mono ?_
  rintro e w1⟨v',ps,rfl,hps,hD,b1⟩
  obtain⟨q',c',hv'⟩:=OwnM.form hD.own
  generalize (ps.map (·.1)++([]:List rlv.RL)).length=m' at hv'
  subst hv'
  have hB1:Below w.heap.size w w1:=HB.out.trans (b1.mono HB.out.size)
  have hR1:w1.heap[w.heap.size+1]?=some (.cells #[.slice none 0 0,.slice none 0 0] 46 (0,0)):=by rw[b1.block _ hVs];exact hR
  obtain⟨e0,e1,hf⟩:=rowTwo hR1
  have f0:=hf 0
  have f1:=hf 1
  have HX:=setTwo hR1 (.slice q' m' c') (.slice q3 n3 c3)
  have hg:=grTwo w1 (w.heap.size+1) (.slice q' m' c') (.slice q3 n3 c3)
  have hD2:DL _ b0 _ _:=⟨ps,hps,(hD.other hg hVs).mono (Nat.le_trans hb0 HB.out.size)⟩
  have HPX:=HP.out _ q' m' c' (hB1.grown hg hB1.size (fun k hk=>by cases hk;omega)) hD2 (zGj H3.out hB1 hg (by omega))
  have HHX:Hid (((w1.setCell ⟨w.heap.size+1,0,none⟩ (.slice q' m' c')).setCell ⟨w.heap.size+1,1,none⟩ (.slice q3 n3 c3)).heap[w.heap.size+1]?=some (.cells #[.slice q' m' c',.slice q3 n3 c3] 46 (0,0))):=HX
  clear hD hps hB1 hR1 hf HX hg hD2 HP HF1 HF2 b1 hR v0 v1
  go_wp2_with fail
  generalize (w1.setCell ⟨w.heap.size+1,0,none⟩ (.slice q' m' c')).setCell ⟨w.heap.size+1,1,none⟩ (.slice q3 n3 c3)=X at *
  obtain⟨y0,y1,-⟩:=rowTwo HHX.out
  exact bodyPost_ret (v:=.agg #[.slice q' m' c',.slice q3 n3 c3]) (by simp[results,Tryz.results122,go_sem,y0,y1]) rfl HPX
theorem zCQ(q1 q2:Option Addr)(n1 n2 c1 c2:Nat)(bs ss:List L)(id:Int)(hid:(Lit.int .i64 id).wf=true)(i k:Nat)(w:World)(h1:LS w (.slice q1 n1 c1) bs)(h2:LS w (.slice q2 n2 c2) ss)(h0:bookE bs ss=0)(hi:i<bs.length)(hk:k<bs[i].rests.length)(hfe:findE 1 bs id=0)(hfp:findP 1 bs id=((i:Int),(k:Int))) :
  Calls Tryz.prog 106 #[.agg #[.slice q1 n1 c1,.slice q2 n2 c2],.int .i64 id] w fun e w'=>∃u1 u2 m1 m2 d1 d2,e=.returned (.tuple #[.agg #[.slice u1 m1 d1,.slice u2 m2 d2],.agg (rV bs[i].rests[k]).toArray,.nilIface])∧DL w' w.heap.size (.slice u1 m1 d1) (dropL bs i k)∧DL w' w.heap.size (.slice u2 m2 d2) (ss)∧Below w.heap.size w w':=by
 have hfv:findV 1 bs id=.tuple #[.int .i64 i,.int .i64 k,.nilIface]:=by unfold findV;rw[hfp,hfe,errV_zero]
 have HFI:=fun W(hW:Below w.heap.size w W)=>zDF q1 q2 n1 n2 c1 c2 bs ss id hid i k W (h1.below hW) (h2.below hW) h0 hi hk hfv
 obtain⟨r,hr⟩:∃r,bs[i].rests[k]=r:=⟨_,rfl⟩
 obtain⟨p,hp⟩:∃p,bs[i].price=p:=⟨_,rfl⟩
 have HDR:Hid (∀W,Below w.heap.size w W→Calls Tryz.prog 130 #[.int .i64 1,.slice q1 n1 c1,.int .i64 id] W fun x w'=>Below W.heap.size W w'∧∃q m c,x=.returned (.tuple #[.slice q m c,.agg (rV r).toArray,.int .i64 p,.nilIface])∧DL w' W.heap.size (.slice q m c) (dropL bs i k)):=fun W hW=>(zGv 1 _ bs id W (h1.below hW) hid).mono fun x w' h=>by
  obtain⟨g1,v',g2,g3⟩:=h
  unfold dropRest dropPrice at g2
  unfold dropE at g3
  rw[if_pos hfe,if_pos hfe,hfe,hfp,errV_zero] at g2
  rw[if_pos hfe,hfp] at g3
  simp only[Int.toNat_natCast] at g2 g3
  rw[getE _ _ hi,getE _ _ hk,hr,hp] at g2
  obtain⟨q,m,c,rfl⟩:=g3.form
  exact⟨g1,q,m,c,g2,g3⟩
 rw[hr] at HFI ⊢
 rw[hp] at HFI
 obtain⟨ee1,ee2,-⟩:=zAb h0
 obtain⟨X1,hX1⟩:∃X1,X1=dropL bs i k:=⟨_,rfl⟩
 obtain⟨X2,hX2⟩:∃X2,X2=ss:=⟨_,rfl⟩
 obtain⟨DD,hDD⟩:∃DD,DD=dropL bs i k:=⟨_,rfl⟩
 rw[←hX1,←hX2]
 rw[←hDD] at HDR
 have HWI:Hid (∀W q3 n3 c3 b0,Below w.heap.size w W→b0≤W.heap.size→DL W b0 (.slice q3 n3 c3) DD→Calls Tryz.prog 122 #[.agg #[.slice q1 n1 c1,.slice q2 n2 c2],.int .i64 1,.slice q3 n3 c3] W fun x w'=>∃u1 u2 m1 m2 d1 d2,x=.returned (.agg #[.slice u1 m1 d1,.slice u2 m2 d2])∧DL w' b0 (.slice u1 m1 d1) X1∧DL w' b0 (.slice u2 m2 d2) X2∧Below W.heap.size W w'):=fun W q3 n3 c3 b0 hW hb0 hd=>(zBu 1 q1 q2 q3 n1 n2 n3 c1 c2 c3 bs ss DD b0 W (h1.below hW) (h2.below hW) hd hb0 ee1 ee2).mono fun x w' h=>by
  obtain⟨u1,u2,m1,m2,d1,d2,g1,g2,g3,g4⟩:=h
  rw[if_pos rfl] at g2 g3
  exact⟨u1,u2,m1,m2,d1,d2,g1,by rw[hX1,←hDD];exact g2,by rw[hX2];exact g3,g4⟩
 obtain⟨r1,r2,r3,r4,r5⟩:=r
 simp only[show (rV ⟨r1,r2,r3,r4,r5⟩).toArray=#[.int .i64 r1,.int .i64 r2,.int .i64 r3,.int .i64 r4,.int .i64 r5] from rfl] at HFI HDR ⊢
 obtain⟨V,hV⟩:∃V,V=((w.alloc (.cells #[.slice q1 n1 c1,.slice q2 n2 c2] 46)).alloc (.cells #[.slice none 0 0,.slice none 0 0] 46)).alloc (.cells #[.int .i64 0,.int .i64 0,.int .i64 0,.int .i64 0,.int .i64 0] 54):=⟨_,rfl⟩
 have HB:Hid (Below w.heap.size w V):=by rw[hV];exact(((bzR _ _).alloc (nzR _) _).alloc (by simp) _).alloc (by simp;omega) _
 have v0:V.cell? ⟨w.heap.size,0,none⟩=some (.slice q1 n1 c1):=by rw[hV];simp[go_sem]
 have v1:V.cell? ⟨w.heap.size,1,none⟩=some (.slice q2 n2 c2):=by rw[hV];simp[go_sem]
 have hR1:V.heap[w.heap.size+1]?=some (.cells #[.slice none 0 0,.slice none 0 0] 46 (0,0)):=by
  rw[hV,Below.heap_alloc _ _ _ (by simp)]
  have:=heap_alloc_new (w.alloc (.cells #[.slice q1 n1 c1,.slice q2 n2 c2] 46)) (.cells #[.slice none 0 0,.slice none 0 0] 46)
  simpa using this
 have hR2:V.heap[w.heap.size+1+1]?=some (.cells #[.int .i64 0,.int .i64 0,.int .i64 0,.int .i64 0,.int .i64 0] 54 (0,0)):=by
  rw[hV]
  have:=heap_alloc_new ((w.alloc (.cells #[.slice q1 n1 c1,.slice q2 n2 c2] 46)).alloc (.cells #[.slice none 0 0,.slice none 0 0] 46)) (.cells #[.int .i64 0,.int .i64 0,.int .i64 0,.int .i64 0,.int .i64 0] 54)
  simpa using this
 have hVs:w.heap.size+1+1<V.heap.size:=(gzE.1 hR2).1
 clear h1 h2 h0 hid hi hk hfe hfp hfv hr hp ee1 ee2 hX1 hX2 hDD
 go_enter Tryz.func106,Tryz.ntmps106
 go_wp2_with fail
 rw[←hV]
 refine(HFI V HB.out).mono ?_
 rintro x w1⟨rfl,b1⟩
 have x0:=keeps b1 v0
 have x1:=keeps b1 v1
 have H1:Hid (Below V.heap.size V w1):=b1
 have hs1:w.heap.size<w1.heap.size:=by have:=b1.size;omega
 clear b1 HFI v0 v1
 go_wp2_with fail
 have hA1:Below w1.heap.size w1 (w1.alloc (.cells #[.int .i64 r1,.int .i64 r2,.int .i64 r3,.int .i64 r4,.int .i64 r5] 54)):=(bzR _ _).alloc (nzR _) _
 have H2:Hid (Below V.heap.size V (w1.alloc (.cells #[.int .i64 r1,.int .i64 r2,.int .i64 r3,.int .i64 r4,.int .i64 r5] 54))):=H1.out.trans (hA1.mono H1.out.size)
 have y0:=keeps hA1 x0
 have y1:=keeps hA1 x1
 generalize w1.alloc (.cells #[.int .i64 r1,.int .i64 r2,.int .i64 r3,.int .i64 r4,.int .i64 r5] 54)=V2 at *
 have hs2:w.heap.size<V2.heap.size:=Nat.lt_of_lt_of_le hs1 hA1.size
 clear hA1 x0 x1
 refine(zAj 1 q1 q2 n1 n2 c1 c2 V2).mono ?_
 rintro x w2⟨rfl,b2⟩
 rw[show (if (1:Int)=1 then Value.slice q1 n1 c1 else .slice q2 n2 c2)=.slice q1 n1 c1 from rfl]
 have H3:Hid (Below V.heap.size V w2):=H2.out.trans (b2.mono H2.out.size)
 have hs3:w.heap.size<w2.heap.size:=Nat.lt_of_lt_of_le hs2 b2.size
 have z0:=keeps b2 y0
 have z1:=keeps b2 y1
 clear b2 y0 y1
 go_wp2_with fail
 refine(HDR.out w2 (HB.out.trans (H3.out.mono HB.out.size))).mono ?_
 rintro x w3⟨b3,q3,n3,c3,rfl,hD3⟩
 have H4:Hid (Below V.heap.size V w3):=H3.out.trans (b3.mono H3.out.size)
 have HD3:Hid (DL w3 V.heap.size (.slice q3 n3 c3) DD):=hD3.mono H3.out.size
 have hs4:w.heap.size<w3.heap.size:=Nat.lt_of_lt_of_le hs3 b3.size
 have t0:=keeps b3 z0
 have t1:=keeps b3 z1
 clear b3 hD3 HDR z0 z1
 have hA3:Below w3.heap.size w3 (w3.alloc (.cells #[.int .i64 r1,.int .i64 r2,.int .i64 r3,.int .i64 r4,.int .i64 r5] 54)):=(bzR _ _).alloc (nzR _) _
 have hR3:=heap_alloc_new w3 (.cells #[.int .i64 r1,.int .i64 r2,.int .i64 r3,.int .i64 r4,.int .i64 r5] 54)
 go_upto_region 7 with fail
 generalize w3.alloc (.cells #[.int .i64 r1,.int .i64 r2,.int .i64 r3,.int .i64 r4,.int .i64 r5] 54)=V3 at *
 have HV3:Hid (Below V.heap.size V V3):=H4.out.trans (hA3.mono H4.out.size)
 have HD4:Hid (DL V3 V.heap.size (.slice q3 n3 c3) DD):=HD3.out.below hA3
 obtain⟨e0,e1,e2,e3,e4,-⟩:=rowFive hR3
 have s0:=keeps hA3 t0
 have s1:=keeps hA3 t1
 have hB12:V.heap.size≤w3.heap.size:=H4.out.size
 have hw3:w3.heap.size<V3.heap.size:=(gzE.1 hR3).1
 have hsV:w.heap.size<V3.heap.size:=Nat.lt_of_lt_of_le hs4 hA3.size
 clear hA3 hR3 t0 t1
 generalize w3.heap.size=B12 at *
 have HROW:Hid (∀W,Below V3.heap.size V3 W→W.heap[w.heap.size+1]?=some (.cells #[.slice none 0 0,.slice none 0 0] 46 (0,0))∧W.heap[w.heap.size+1+1]?=some (.cells #[.int .i64 0,.int .i64 0,.int .i64 0,.int .i64 0,.int .i64 0] 54 (0,0))):=fun W hW=>by
  have hb:=HV3.out.trans (hW.mono HV3.out.size)
  exact⟨by rw[hb.block _ (by omega)];exact hR1,by rw[hb.block _ hVs];exact hR2⟩
 have HWJ:Hid (∀W,Below V3.heap.size V3 W→Calls Tryz.prog 122 #[.agg #[.slice q1 n1 c1,.slice q2 n2 c2],.int .i64 1,.slice q3 n3 c3] W fun x w'=>∃u1 u2 m1 m2 d1 d2,x=.returned (.agg #[.slice u1 m1 d1,.slice u2 m2 d2])∧DL w' V.heap.size (.slice u1 m1 d1) X1∧DL w' V.heap.size (.slice u2 m2 d2) X2∧Below V3.heap.size V3 w'):=fun W hW=>by
  have hb:=HV3.out.trans (hW.mono HV3.out.size)
  exact(HWI.out W q3 n3 c3 V.heap.size (HB.out.trans (hb.mono HB.out.size)) hb.size (HD4.out.below hW)).mono fun x w' h=>by
   obtain⟨u1,u2,m1,m2,d1,d2,g1,g2,g3,g4⟩:=h
   exact⟨u1,u2,m1,m2,d1,d2,g1,g2,g3,hW.trans (g4.mono hW.size)⟩
 have SO:Hid (∀W,Below V3.heap.size V3 W→(W.cell? ⟨w.heap.size,0,none⟩=some (.slice q1 n1 c1)∧W.cell? ⟨w.heap.size,1,none⟩=some (.slice q2 n2 c2)∧W.cell? ⟨B12,0,none⟩=some (.int .i64 r1)∧W.cell? ⟨B12,1,none⟩=some (.int .i64 r2)∧W.cell? ⟨B12,2,none⟩=some (.int .i64 r3)∧W.cell? ⟨B12,3,none⟩=some (.int .i64 r4)∧W.cell? ⟨B12,4,none⟩=some (.int .i64 r5))):=fun W hW=>⟨keeps hW s0,keeps hW s1,keeps hW e0,keeps hW e1,keeps hW e2,keeps hW e3,keeps hW e4⟩
 have SK1:Hid (∀ (W:World) (j:Nat) (v:Value),(W.cell? ⟨w.heap.size,0,none⟩=some (.slice q1 n1 c1)∧W.cell? ⟨w.heap.size,1,none⟩=some (.slice q2 n2 c2)∧W.cell? ⟨B12,0,none⟩=some (.int .i64 r1)∧W.cell? ⟨B12,1,none⟩=some (.int .i64 r2)∧W.cell? ⟨B12,2,none⟩=some (.int .i64 r3)∧W.cell? ⟨B12,3,none⟩=some (.int .i64 r4)∧W.cell? ⟨B12,4,none⟩=some (.int .i64 r5))→((W.setCell ⟨w.heap.size+1,j,none⟩ v).cell? ⟨w.heap.size,0,none⟩=some (.slice q1 n1 c1)∧(W.setCell ⟨w.heap.size+1,j,none⟩ v).cell? ⟨w.heap.size,1,none⟩=some (.slice q2 n2 c2)∧(W.setCell ⟨w.heap.size+1,j,none⟩ v).cell? ⟨B12,0,none⟩=some (.int .i64 r1)∧(W.setCell ⟨w.heap.size+1,j,none⟩ v).cell? ⟨B12,1,none⟩=some (.int .i64 r2)∧(W.setCell ⟨w.heap.size+1,j,none⟩ v).cell? ⟨B12,2,none⟩=some (.int .i64 r3)∧(W.setCell ⟨w.heap.size+1,j,none⟩ v).cell? ⟨B12,3,none⟩=some (.int .i64 r4)∧(W.setCell ⟨w.heap.size+1,j,none⟩ v).cell? ⟨B12,4,none⟩=some (.int .i64 r5))):=fun W j v h=>by
  have hne:∀ (a b x:Nat),a≠b→(W.setCell ⟨b,j,none⟩ v).cell? ⟨a,x,none⟩=W.cell? ⟨a,x,none⟩:=fun a b x hab=>World.cell?_setCell_other _ _ _ _ (fun e=>hab (by cases e;rfl))
  simp only[hne _ _ _ (show w.heap.size≠w.heap.size+1 by omega),hne _ _ _ (show B12≠w.heap.size+1 by omega)]
  exact h
 have SK2:Hid (∀ (W:World) (j:Nat) (v:Value),(W.cell? ⟨w.heap.size,0,none⟩=some (.slice q1 n1 c1)∧W.cell? ⟨w.heap.size,1,none⟩=some (.slice q2 n2 c2)∧W.cell? ⟨B12,0,none⟩=some (.int .i64 r1)∧W.cell? ⟨B12,1,none⟩=some (.int .i64 r2)∧W.cell? ⟨B12,2,none⟩=some (.int .i64 r3)∧W.cell? ⟨B12,3,none⟩=some (.int .i64 r4)∧W.cell? ⟨B12,4,none⟩=some (.int .i64 r5))→((W.setCell ⟨w.heap.size+1+1,j,none⟩ v).cell? ⟨w.heap.size,0,none⟩=some (.slice q1 n1 c1)∧(W.setCell ⟨w.heap.size+1+1,j,none⟩ v).cell? ⟨w.heap.size,1,none⟩=some (.slice q2 n2 c2)∧(W.setCell ⟨w.heap.size+1+1,j,none⟩ v).cell? ⟨B12,0,none⟩=some (.int .i64 r1)∧(W.setCell ⟨w.heap.size+1+1,j,none⟩ v).cell? ⟨B12,1,none⟩=some (.int .i64 r2)∧(W.setCell ⟨w.heap.size+1+1,j,none⟩ v).cell? ⟨B12,2,none⟩=some (.int .i64 r3)∧(W.setCell ⟨w.heap.size+1+1,j,none⟩ v).cell? ⟨B12,3,none⟩=some (.int .i64 r4)∧(W.setCell ⟨w.heap.size+1+1,j,none⟩ v).cell? ⟨B12,4,none⟩=some (.int .i64 r5))):=fun W j v h=>by
  have hne:∀ (a b x:Nat),a≠b→(W.setCell ⟨b,j,none⟩ v).cell? ⟨a,x,none⟩=W.cell? ⟨a,x,none⟩:=fun a b x hab=>World.cell?_setCell_other _ _ _ _ (fun e=>hab (by cases e;rfl))
  simp only[hne _ _ _ (show w.heap.size≠w.heap.size+1+1 by omega),hne _ _ _ (show B12≠w.heap.size+1+1 by omega)]
  exact h
 clear HWI hR1 hR2 HD3 H1 H2 H3 H4 HD4
 go_region_held3 (fun W=>W.cell? ⟨w.heap.size,0,none⟩=some (.slice q1 n1 c1)∧W.cell? ⟨w.heap.size,1,none⟩=some (.slice q2 n2 c2)∧W.cell? ⟨B12,0,none⟩=some (.int .i64 r1)∧W.cell? ⟨B12,1,none⟩=some (.int .i64 r2)∧W.cell? ⟨B12,2,none⟩=some (.int .i64 r3)∧W.cell? ⟨B12,3,none⟩=some (.int .i64 r4)∧W.cell? ⟨B12,4,none⟩=some (.int .i64 r5))
  (first|with_reducible assumption|(refine SO.out _ ?_;(with_reducible repeat' (first|assumption|refine bal ?_ _|refine Below.setCell ?_ ?_ _|refine Below.drew ?_|exact bzR _ _|exact nzR _|exact Below.size (by assumption)|refine Nat.le_succ_of_le ?_));done)|(with_reducible repeat' (first|assumption|refine SK1.out _ _ _ ?_|refine SK2.out _ _ _ ?_)))
  (first|(go_at_call 122;with_reducible refine(HWJ.out _ ?_).mono ?_;(with_reducible repeat' (first|assumption|refine bal ?_ _|refine Below.setCell ?_ ?_ _|refine Below.drew ?_|exact bzR _ _|exact nzR _|exact Below.size (by assumption)|refine Nat.le_succ_of_le ?_));rintro x W ⟨u1,u2,m1,m2,d1,d2,rfl,hA,hBq,hbn⟩;have hSW:=SO.out W hbn;obtain⟨ra,rb⟩:=HROW.out W hbn;obtain⟨g0,g1,hfa⟩:=rowTwo ra;obtain⟨k0,k1,k2,k3,k4,hfb⟩:=rowFive rb;have fa0:=hfa 0;have fa1:=hfa 1;have fb0:=hfb 0;have fb1:=hfb 1;have fb2:=hfb 2;have fb3:=hfb 3;have fb4:=hfb 4))
 have hbW:=HV3.out.trans (hbn.mono HV3.out.size)
 have hBW:Below w.heap.size w W:=HB.out.trans (hbW.mono HB.out.size)
 have hsW:w.heap.size+1+1<W.heap.size:=Nat.lt_of_lt_of_le hVs hbW.size
 have gg1:=grTwo W (w.heap.size+1) (.slice u1 m1 d1) (.slice u2 m2 d2)
 have gg2:=grFive ((W.setCell ⟨w.heap.size+1,0,none⟩ (.slice u1 m1 d1)).setCell ⟨w.heap.size+1,1,none⟩ (.slice u2 m2 d2)) (w.heap.size+1+1) (.int .i64 r1) (.int .i64 r2) (.int .i64 r3) (.int .i64 r4) (.int .i64 r5)
 have HX1:Hid ((((((((W.setCell ⟨w.heap.size+1,0,none⟩ (.slice u1 m1 d1)).setCell ⟨w.heap.size+1,1,none⟩ (.slice u2 m2 d2)).setCell ⟨w.heap.size+1+1,0,none⟩ (.int .i64 r1)).setCell ⟨w.heap.size+1+1,1,none⟩ (.int .i64 r2)).setCell ⟨w.heap.size+1+1,2,none⟩ (.int .i64 r3)).setCell ⟨w.heap.size+1+1,3,none⟩ (.int .i64 r4)).setCell ⟨w.heap.size+1+1,4,none⟩ (.int .i64 r5)).heap[w.heap.size+1]?=some (.cells #[.slice u1 m1 d1,.slice u2 m2 d2] 46 (0,0))):=by
  show _=_
  rw[gg2.block _ (Nat.lt_of_lt_of_le (by omega) gg1.size) (fun e=>by simp at e)]
  exact setTwo ra _ _
 have HX2:Hid ((((((((W.setCell ⟨w.heap.size+1,0,none⟩ (.slice u1 m1 d1)).setCell ⟨w.heap.size+1,1,none⟩ (.slice u2 m2 d2)).setCell ⟨w.heap.size+1+1,0,none⟩ (.int .i64 r1)).setCell ⟨w.heap.size+1+1,1,none⟩ (.int .i64 r2)).setCell ⟨w.heap.size+1+1,2,none⟩ (.int .i64 r3)).setCell ⟨w.heap.size+1+1,3,none⟩ (.int .i64 r4)).setCell ⟨w.heap.size+1+1,4,none⟩ (.int .i64 r5)).heap[w.heap.size+1+1]?=some (.cells #[.int .i64 r1,.int .i64 r2,.int .i64 r3,.int .i64 r4,.int .i64 r5] 54 (0,0))):=
  setFive (by rw[gg1.block _ hsW (fun e=>by simp at e)];exact rb) _ _ _ _ _
 have HLA:Hid (DL (((((((W.setCell ⟨w.heap.size+1,0,none⟩ (.slice u1 m1 d1)).setCell ⟨w.heap.size+1,1,none⟩ (.slice u2 m2 d2)).setCell ⟨w.heap.size+1+1,0,none⟩ (.int .i64 r1)).setCell ⟨w.heap.size+1+1,1,none⟩ (.int .i64 r2)).setCell ⟨w.heap.size+1+1,2,none⟩ (.int .i64 r3)).setCell ⟨w.heap.size+1+1,3,none⟩ (.int .i64 r4)).setCell ⟨w.heap.size+1+1,4,none⟩ (.int .i64 r5)) w.heap.size (.slice u1 m1 d1) X1∧DL (((((((W.setCell ⟨w.heap.size+1,0,none⟩ (.slice u1 m1 d1)).setCell ⟨w.heap.size+1,1,none⟩ (.slice u2 m2 d2)).setCell ⟨w.heap.size+1+1,0,none⟩ (.int .i64 r1)).setCell ⟨w.heap.size+1+1,1,none⟩ (.int .i64 r2)).setCell ⟨w.heap.size+1+1,2,none⟩ (.int .i64 r3)).setCell ⟨w.heap.size+1+1,3,none⟩ (.int .i64 r4)).setCell ⟨w.heap.size+1+1,4,none⟩ (.int .i64 r5)) w.heap.size (.slice u2 m2 d2) X2):=⟨(DL.other (DL.other hA gg1 (by omega)) gg2 hVs).mono (by omega),(DL.other (DL.other hBq gg1 (by omega)) gg2 hVs).mono (by omega)⟩
 have hB1:Below w.heap.size w ((W.setCell ⟨w.heap.size+1,0,none⟩ (.slice u1 m1 d1)).setCell ⟨w.heap.size+1,1,none⟩ (.slice u2 m2 d2)):=hBW.grown gg1 hBW.size (fun k hk=>by cases hk;omega)
 have hB2:Below w.heap.size w (((((((W.setCell ⟨w.heap.size+1,0,none⟩ (.slice u1 m1 d1)).setCell ⟨w.heap.size+1,1,none⟩ (.slice u2 m2 d2)).setCell ⟨w.heap.size+1+1,0,none⟩ (.int .i64 r1)).setCell ⟨w.heap.size+1+1,1,none⟩ (.int .i64 r2)).setCell ⟨w.heap.size+1+1,2,none⟩ (.int .i64 r3)).setCell ⟨w.heap.size+1+1,3,none⟩ (.int .i64 r4)).setCell ⟨w.heap.size+1+1,4,none⟩ (.int .i64 r5)):=hB1.grown gg2 hB1.size (fun k hk=>by cases hk;omega)
 have HBF:Hid (Below w.heap.size w (((((((W.setCell ⟨w.heap.size+1,0,none⟩ (.slice u1 m1 d1)).setCell ⟨w.heap.size+1,1,none⟩ (.slice u2 m2 d2)).setCell ⟨w.heap.size+1+1,0,none⟩ (.int .i64 r1)).setCell ⟨w.heap.size+1+1,1,none⟩ (.int .i64 r2)).setCell ⟨w.heap.size+1+1,2,none⟩ (.int .i64 r3)).setCell ⟨w.heap.size+1+1,3,none⟩ (.int .i64 r4)).setCell ⟨w.heap.size+1+1,4,none⟩ (.int .i64 r5))):=hB2
 clear hbW hBW hsW gg1 gg2 hB1 hB2 hA hBq hbn ra rb hSW HROW HWJ SO SK1 SK2 hfa hfb
 go_wp2_with fail
 generalize (((((((W.setCell ⟨w.heap.size+1,0,none⟩ (.slice u1 m1 d1)).setCell ⟨w.heap.size+1,1,none⟩ (.slice u2 m2 d2)).setCell ⟨w.heap.size+1+1,0,none⟩ (.int .i64 r1)).setCell ⟨w.heap.size+1+1,1,none⟩ (.int .i64 r2)).setCell ⟨w.heap.size+1+1,2,none⟩ (.int .i64 r3)).setCell ⟨w.heap.size+1+1,3,none⟩ (.int .i64 r4)).setCell ⟨w.heap.size+1+1,4,none⟩ (.int .i64 r5))=X at *
 obtain⟨y0,y1,-⟩:=rowTwo HX1.out
 obtain⟨z0,z1,z2,z3,z4,-⟩:=rowFive HX2.out
 first|exact bodyPost_ret (v:=.tuple #[.agg #[.slice u1 m1 d1,.slice u2 m2 d2],.agg #[.int .i64 r1,.int .i64 r2,.int .i64 r3,.int .i64 r4,.int .i64 r5],.nilIface]) (by simp[results,Tryz.results106,go_sem,y0,y1,z0,z1,z2,z3,z4]) rfl ⟨u1,u2,m1,m2,d1,d2,rfl,HLA.out.1,HLA.out.2,HBF.out⟩|exact bodyPost_ret (v:=.tuple #[.agg #[.slice u1 m1 d1,.slice u2 m2 d2],.agg #[.int .i64 r1,.int .i64 r2,.int .i64 r3,.int .i64 r4,.int .i64 r5],.nilIface]) (by simp[results,Tryz.results106,go_sem,y0,y1,z0,z1,z2,z3,z4]) rfl ⟨u1,u2,m1,m2,d1,d2,rfl,HLA.out.1.below (bzR _ _).drew,HLA.out.2.below (bzR _ _).drew,HBF.out.drew⟩
theorem zCR(q1 q2:Option Addr)(n1 n2 c1 c2:Nat)(bs ss:List L)(id:Int)(hid:(Lit.int .i64 id).wf=true)(i k:Nat)(w:World)(h1:LS w (.slice q1 n1 c1) bs)(h2:LS w (.slice q2 n2 c2) ss)(h0:bookE bs ss=0)(hno:findE 1 bs id=5)(hi:i<ss.length)(hk:k<ss[i].rests.length)(hfe:findE 2 ss id=0)(hfp:findP 2 ss id=((i:Int),(k:Int))) :
  Calls Tryz.prog 106 #[.agg #[.slice q1 n1 c1,.slice q2 n2 c2],.int .i64 id] w fun e w'=>∃u1 u2 m1 m2 d1 d2,e=.returned (.tuple #[.agg #[.slice u1 m1 d1,.slice u2 m2 d2],.agg (rV ss[i].rests[k]).toArray,.nilIface])∧DL w' w.heap.size (.slice u1 m1 d1) (bs)∧DL w' w.heap.size (.slice u2 m2 d2) (dropL ss i k)∧Below w.heap.size w w':=by
 have hfv:findV 2 ss id=.tuple #[.int .i64 i,.int .i64 k,.nilIface]:=by unfold findV;rw[hfp,hfe,errV_zero]
 have HFI:=fun W(hW:Below w.heap.size w W)=>zDG q1 q2 n1 n2 c1 c2 bs ss id hid i k W (h1.below hW) (h2.below hW) h0 hno hi hk hfv
 obtain⟨r,hr⟩:∃r,ss[i].rests[k]=r:=⟨_,rfl⟩
 obtain⟨p,hp⟩:∃p,ss[i].price=p:=⟨_,rfl⟩
 have HDR:Hid (∀W,Below w.heap.size w W→Calls Tryz.prog 130 #[.int .i64 2,.slice q2 n2 c2,.int .i64 id] W fun x w'=>Below W.heap.size W w'∧∃q m c,x=.returned (.tuple #[.slice q m c,.agg (rV r).toArray,.int .i64 p,.nilIface])∧DL w' W.heap.size (.slice q m c) (dropL ss i k)):=fun W hW=>(zGv 2 _ ss id W (h2.below hW) hid).mono fun x w' h=>by
  obtain⟨g1,v',g2,g3⟩:=h
  unfold dropRest dropPrice at g2
  unfold dropE at g3
  rw[if_pos hfe,if_pos hfe,hfe,hfp,errV_zero] at g2
  rw[if_pos hfe,hfp] at g3
  simp only[Int.toNat_natCast] at g2 g3
  rw[getE _ _ hi,getE _ _ hk,hr,hp] at g2
  obtain⟨q,m,c,rfl⟩:=g3.form
  exact⟨g1,q,m,c,g2,g3⟩
 rw[hr] at HFI ⊢
 rw[hp] at HFI
 obtain⟨ee1,ee2,-⟩:=zAb h0
 obtain⟨X1,hX1⟩:∃X1,X1=bs:=⟨_,rfl⟩
 obtain⟨X2,hX2⟩:∃X2,X2=dropL ss i k:=⟨_,rfl⟩
 obtain⟨DD,hDD⟩:∃DD,DD=dropL ss i k:=⟨_,rfl⟩
 rw[←hX1,←hX2]
 rw[←hDD] at HDR
 have HWI:Hid (∀W q3 n3 c3 b0,Below w.heap.size w W→b0≤W.heap.size→DL W b0 (.slice q3 n3 c3) DD→Calls Tryz.prog 122 #[.agg #[.slice q1 n1 c1,.slice q2 n2 c2],.int .i64 2,.slice q3 n3 c3] W fun x w'=>∃u1 u2 m1 m2 d1 d2,x=.returned (.agg #[.slice u1 m1 d1,.slice u2 m2 d2])∧DL w' b0 (.slice u1 m1 d1) X1∧DL w' b0 (.slice u2 m2 d2) X2∧Below W.heap.size W w'):=fun W q3 n3 c3 b0 hW hb0 hd=>(zBu 2 q1 q2 q3 n1 n2 n3 c1 c2 c3 bs ss DD b0 W (h1.below hW) (h2.below hW) hd hb0 ee1 ee2).mono fun x w' h=>by
  obtain⟨u1,u2,m1,m2,d1,d2,g1,g2,g3,g4⟩:=h
  rw[if_neg (by decide)] at g2 g3
  exact⟨u1,u2,m1,m2,d1,d2,g1,by rw[hX1];exact g2,by rw[hX2,←hDD];exact g3,g4⟩
 obtain⟨r1,r2,r3,r4,r5⟩:=r
 simp only[show (rV ⟨r1,r2,r3,r4,r5⟩).toArray=#[.int .i64 r1,.int .i64 r2,.int .i64 r3,.int .i64 r4,.int .i64 r5] from rfl] at HFI HDR ⊢
 obtain⟨V,hV⟩:∃V,V=((w.alloc (.cells #[.slice q1 n1 c1,.slice q2 n2 c2] 46)).alloc (.cells #[.slice none 0 0,.slice none 0 0] 46)).alloc (.cells #[.int .i64 0,.int .i64 0,.int .i64 0,.int .i64 0,.int .i64 0] 54):=⟨_,rfl⟩
 have HB:Hid (Below w.heap.size w V):=by rw[hV];exact(((bzR _ _).alloc (nzR _) _).alloc (by simp) _).alloc (by simp;omega) _
 have v0:V.cell? ⟨w.heap.size,0,none⟩=some (.slice q1 n1 c1):=by rw[hV];simp[go_sem]
 have v1:V.cell? ⟨w.heap.size,1,none⟩=some (.slice q2 n2 c2):=by rw[hV];simp[go_sem]
 have hR1:V.heap[w.heap.size+1]?=some (.cells #[.slice none 0 0,.slice none 0 0] 46 (0,0)):=by
  rw[hV,Below.heap_alloc _ _ _ (by simp)]
  have:=heap_alloc_new (w.alloc (.cells #[.slice q1 n1 c1,.slice q2 n2 c2] 46)) (.cells #[.slice none 0 0,.slice none 0 0] 46)
  simpa using this
 have hR2:V.heap[w.heap.size+1+1]?=some (.cells #[.int .i64 0,.int .i64 0,.int .i64 0,.int .i64 0,.int .i64 0] 54 (0,0)):=by
  rw[hV]
  have:=heap_alloc_new ((w.alloc (.cells #[.slice q1 n1 c1,.slice q2 n2 c2] 46)).alloc (.cells #[.slice none 0 0,.slice none 0 0] 46)) (.cells #[.int .i64 0,.int .i64 0,.int .i64 0,.int .i64 0,.int .i64 0] 54)
  simpa using this
 have hVs:w.heap.size+1+1<V.heap.size:=(gzE.1 hR2).1
 clear h1 h2 h0 hid hi hk hfe hfp hfv hr hp ee1 ee2 hX1 hX2 hDD hno
 go_enter Tryz.func106,Tryz.ntmps106
 go_wp2_with fail
 rw[←hV]
 refine(HFI V HB.out).mono ?_
 rintro x w1⟨rfl,b1⟩
 have x0:=keeps b1 v0
 have x1:=keeps b1 v1
 have H1:Hid (Below V.heap.size V w1):=b1
 have hs1:w.heap.size<w1.heap.size:=by have:=b1.size;omega
 clear b1 HFI v0 v1
 go_wp2_with fail
 have hA1:Below w1.heap.size w1 (w1.alloc (.cells #[.int .i64 r1,.int .i64 r2,.int .i64 r3,.int .i64 r4,.int .i64 r5] 54)):=(bzR _ _).alloc (nzR _) _
 have H2:Hid (Below V.heap.size V (w1.alloc (.cells #[.int .i64 r1,.int .i64 r2,.int .i64 r3,.int .i64 r4,.int .i64 r5] 54))):=H1.out.trans (hA1.mono H1.out.size)
 have y0:=keeps hA1 x0
 have y1:=keeps hA1 x1
 generalize w1.alloc (.cells #[.int .i64 r1,.int .i64 r2,.int .i64 r3,.int .i64 r4,.int .i64 r5] 54)=V2 at *
 have hs2:w.heap.size<V2.heap.size:=Nat.lt_of_lt_of_le hs1 hA1.size
 clear hA1 x0 x1
 refine(zAj 2 q1 q2 n1 n2 c1 c2 V2).mono ?_
 rintro x w2⟨rfl,b2⟩
 rw[show (if (2:Int)=1 then Value.slice q1 n1 c1 else .slice q2 n2 c2)=.slice q2 n2 c2 from rfl]
 have H3:Hid (Below V.heap.size V w2):=H2.out.trans (b2.mono H2.out.size)
 have hs3:w.heap.size<w2.heap.size:=Nat.lt_of_lt_of_le hs2 b2.size
 have z0:=keeps b2 y0
 have z1:=keeps b2 y1
 clear b2 y0 y1
 go_wp2_with fail
 refine(HDR.out w2 (HB.out.trans (H3.out.mono HB.out.size))).mono ?_
 rintro x w3⟨b3,q3,n3,c3,rfl,hD3⟩
 have H4:Hid (Below V.heap.size V w3):=H3.out.trans (b3.mono H3.out.size)
 have HD3:Hid (DL w3 V.heap.size (.slice q3 n3 c3) DD):=hD3.mono H3.out.size
 have hs4:w.heap.size<w3.heap.size:=Nat.lt_of_lt_of_le hs3 b3.size
 have t0:=keeps b3 z0
 have t1:=keeps b3 z1
 clear b3 hD3 HDR z0 z1
 have hA3:Below w3.heap.size w3 (w3.alloc (.cells #[.int .i64 r1,.int .i64 r2,.int .i64 r3,.int .i64 r4,.int .i64 r5] 54)):=(bzR _ _).alloc (nzR _) _
 have hR3:=heap_alloc_new w3 (.cells #[.int .i64 r1,.int .i64 r2,.int .i64 r3,.int .i64 r4,.int .i64 r5] 54)
 go_upto_region 7 with fail
 generalize w3.alloc (.cells #[.int .i64 r1,.int .i64 r2,.int .i64 r3,.int .i64 r4,.int .i64 r5] 54)=V3 at *
 have HV3:Hid (Below V.heap.size V V3):=H4.out.trans (hA3.mono H4.out.size)
 have HD4:Hid (DL V3 V.heap.size (.slice q3 n3 c3) DD):=HD3.out.below hA3
 obtain⟨e0,e1,e2,e3,e4,-⟩:=rowFive hR3
 have s0:=keeps hA3 t0
 have s1:=keeps hA3 t1
 have hB12:V.heap.size≤w3.heap.size:=H4.out.size
 have hw3:w3.heap.size<V3.heap.size:=(gzE.1 hR3).1
 have hsV:w.heap.size<V3.heap.size:=Nat.lt_of_lt_of_le hs4 hA3.size
 clear hA3 hR3 t0 t1
 generalize w3.heap.size=B12 at *
 have HROW:Hid (∀W,Below V3.heap.size V3 W→W.heap[w.heap.size+1]?=some (.cells #[.slice none 0 0,.slice none 0 0] 46 (0,0))∧W.heap[w.heap.size+1+1]?=some (.cells #[.int .i64 0,.int .i64 0,.int .i64 0,.int .i64 0,.int .i64 0] 54 (0,0))):=fun W hW=>by
  have hb:=HV3.out.trans (hW.mono HV3.out.size)
  exact⟨by rw[hb.block _ (by omega)];exact hR1,by rw[hb.block _ hVs];exact hR2⟩
 have HWJ:Hid (∀W,Below V3.heap.size V3 W→Calls Tryz.prog 122 #[.agg #[.slice q1 n1 c1,.slice q2 n2 c2],.int .i64 2,.slice q3 n3 c3] W fun x w'=>∃u1 u2 m1 m2 d1 d2,x=.returned (.agg #[.slice u1 m1 d1,.slice u2 m2 d2])∧DL w' V.heap.size (.slice u1 m1 d1) X1∧DL w' V.heap.size (.slice u2 m2 d2) X2∧Below V3.heap.size V3 w'):=fun W hW=>by
  have hb:=HV3.out.trans (hW.mono HV3.out.size)
  exact(HWI.out W q3 n3 c3 V.heap.size (HB.out.trans (hb.mono HB.out.size)) hb.size (HD4.out.below hW)).mono fun x w' h=>by
   obtain⟨u1,u2,m1,m2,d1,d2,g1,g2,g3,g4⟩:=h
   exact⟨u1,u2,m1,m2,d1,d2,g1,g2,g3,hW.trans (g4.mono hW.size)⟩
 have SO:Hid (∀W,Below V3.heap.size V3 W→(W.cell? ⟨w.heap.size,0,none⟩=some (.slice q1 n1 c1)∧W.cell? ⟨w.heap.size,1,none⟩=some (.slice q2 n2 c2)∧W.cell? ⟨B12,0,none⟩=some (.int .i64 r1)∧W.cell? ⟨B12,1,none⟩=some (.int .i64 r2)∧W.cell? ⟨B12,2,none⟩=some (.int .i64 r3)∧W.cell? ⟨B12,3,none⟩=some (.int .i64 r4)∧W.cell? ⟨B12,4,none⟩=some (.int .i64 r5))):=fun W hW=>⟨keeps hW s0,keeps hW s1,keeps hW e0,keeps hW e1,keeps hW e2,keeps hW e3,keeps hW e4⟩
 have SK1:Hid (∀ (W:World) (j:Nat) (v:Value),(W.cell? ⟨w.heap.size,0,none⟩=some (.slice q1 n1 c1)∧W.cell? ⟨w.heap.size,1,none⟩=some (.slice q2 n2 c2)∧W.cell? ⟨B12,0,none⟩=some (.int .i64 r1)∧W.cell? ⟨B12,1,none⟩=some (.int .i64 r2)∧W.cell? ⟨B12,2,none⟩=some (.int .i64 r3)∧W.cell? ⟨B12,3,none⟩=some (.int .i64 r4)∧W.cell? ⟨B12,4,none⟩=some (.int .i64 r5))→((W.setCell ⟨w.heap.size+1,j,none⟩ v).cell? ⟨w.heap.size,0,none⟩=some (.slice q1 n1 c1)∧(W.setCell ⟨w.heap.size+1,j,none⟩ v).cell? ⟨w.heap.size,1,none⟩=some (.slice q2 n2 c2)∧(W.setCell ⟨w.heap.size+1,j,none⟩ v).cell? ⟨B12,0,none⟩=some (.int .i64 r1)∧(W.setCell ⟨w.heap.size+1,j,none⟩ v).cell? ⟨B12,1,none⟩=some (.int .i64 r2)∧(W.setCell ⟨w.heap.size+1,j,none⟩ v).cell? ⟨B12,2,none⟩=some (.int .i64 r3)∧(W.setCell ⟨w.heap.size+1,j,none⟩ v).cell? ⟨B12,3,none⟩=some (.int .i64 r4)∧(W.setCell ⟨w.heap.size+1,j,none⟩ v).cell? ⟨B12,4,none⟩=some (.int .i64 r5))):=fun W j v h=>by
  have hne:∀ (a b x:Nat),a≠b→(W.setCell ⟨b,j,none⟩ v).cell? ⟨a,x,none⟩=W.cell? ⟨a,x,none⟩:=fun a b x hab=>World.cell?_setCell_other _ _ _ _ (fun e=>hab (by cases e;rfl))
  simp only[hne _ _ _ (show w.heap.size≠w.heap.size+1 by omega),hne _ _ _ (show B12≠w.heap.size+1 by omega)]
  exact h
 have SK2:Hid (∀ (W:World) (j:Nat) (v:Value),(W.cell? ⟨w.heap.size,0,none⟩=some (.slice q1 n1 c1)∧W.cell? ⟨w.heap.size,1,none⟩=some (.slice q2 n2 c2)∧W.cell? ⟨B12,0,none⟩=some (.int .i64 r1)∧W.cell? ⟨B12,1,none⟩=some (.int .i64 r2)∧W.cell? ⟨B12,2,none⟩=some (.int .i64 r3)∧W.cell? ⟨B12,3,none⟩=some (.int .i64 r4)∧W.cell? ⟨B12,4,none⟩=some (.int .i64 r5))→((W.setCell ⟨w.heap.size+1+1,j,none⟩ v).cell? ⟨w.heap.size,0,none⟩=some (.slice q1 n1 c1)∧(W.setCell ⟨w.heap.size+1+1,j,none⟩ v).cell? ⟨w.heap.size,1,none⟩=some (.slice q2 n2 c2)∧(W.setCell ⟨w.heap.size+1+1,j,none⟩ v).cell? ⟨B12,0,none⟩=some (.int .i64 r1)∧(W.setCell ⟨w.heap.size+1+1,j,none⟩ v).cell? ⟨B12,1,none⟩=some (.int .i64 r2)∧(W.setCell ⟨w.heap.size+1+1,j,none⟩ v).cell? ⟨B12,2,none⟩=some (.int .i64 r3)∧(W.setCell ⟨w.heap.size+1+1,j,none⟩ v).cell? ⟨B12,3,none⟩=some (.int .i64 r4)∧(W.setCell ⟨w.heap.size+1+1,j,none⟩ v).cell? ⟨B12,4,none⟩=some (.int .i64 r5))):=fun W j v h=>by
  have hne:∀ (a b x:Nat),a≠b→(W.setCell ⟨b,j,none⟩ v).cell? ⟨a,x,none⟩=W.cell? ⟨a,x,none⟩:=fun a b x hab=>World.cell?_setCell_other _ _ _ _ (fun e=>hab (by cases e;rfl))
  simp only[hne _ _ _ (show w.heap.size≠w.heap.size+1+1 by omega),hne _ _ _ (show B12≠w.heap.size+1+1 by omega)]
  exact h
 clear HWI hR1 hR2 HD3 H1 H2 H3 H4 HD4
 go_region_held3 (fun W=>W.cell? ⟨w.heap.size,0,none⟩=some (.slice q1 n1 c1)∧W.cell? ⟨w.heap.size,1,none⟩=some (.slice q2 n2 c2)∧W.cell? ⟨B12,0,none⟩=some (.int .i64 r1)∧W.cell? ⟨B12,1,none⟩=some (.int .i64 r2)∧W.cell? ⟨B12,2,none⟩=some (.int .i64 r3)∧W.cell? ⟨B12,3,none⟩=some (.int .i64 r4)∧W.cell? ⟨B12,4,none⟩=some (.int .i64 r5))
  (first|with_reducible assumption|(refine SO.out _ ?_;(with_reducible repeat' (first|assumption|refine bal ?_ _|refine Below.setCell ?_ ?_ _|refine Below.drew ?_|exact bzR _ _|exact nzR _|exact Below.size (by assumption)|refine Nat.le_succ_of_le ?_));done)|(with_reducible repeat' (first|assumption|refine SK1.out _ _ _ ?_|refine SK2.out _ _ _ ?_)))
  (first|(go_at_call 122;with_reducible refine(HWJ.out _ ?_).mono ?_;(with_reducible repeat' (first|assumption|refine bal ?_ _|refine Below.setCell ?_ ?_ _|refine Below.drew ?_|exact bzR _ _|exact nzR _|exact Below.size (by assumption)|refine Nat.le_succ_of_le ?_));rintro x W ⟨u1,u2,m1,m2,d1,d2,rfl,hA,hBq,hbn⟩;have hSW:=SO.out W hbn;obtain⟨ra,rb⟩:=HROW.out W hbn;obtain⟨g0,g1,hfa⟩:=rowTwo ra;obtain⟨k0,k1,k2,k3,k4,hfb⟩:=rowFive rb;have fa0:=hfa 0;have fa1:=hfa 1;have fb0:=hfb 0;have fb1:=hfb 1;have fb2:=hfb 2;have fb3:=hfb 3;have fb4:=hfb 4))
 have hbW:=HV3.out.trans (hbn.mono HV3.out.size)
 have hBW:Below w.heap.size w W:=HB.out.trans (hbW.mono HB.out.size)
 have hsW:w.heap.size+1+1<W.heap.size:=Nat.lt_of_lt_of_le hVs hbW.size
 have gg1:=grTwo W (w.heap.size+1) (.slice u1 m1 d1) (.slice u2 m2 d2)
 have gg2:=grFive ((W.setCell ⟨w.heap.size+1,0,none⟩ (.slice u1 m1 d1)).setCell ⟨w.heap.size+1,1,none⟩ (.slice u2 m2 d2)) (w.heap.size+1+1) (.int .i64 r1) (.int .i64 r2) (.int .i64 r3) (.int .i64 r4) (.int .i64 r5)
 have HX1:Hid ((((((((W.setCell ⟨w.heap.size+1,0,none⟩ (.slice u1 m1 d1)).setCell ⟨w.heap.size+1,1,none⟩ (.slice u2 m2 d2)).setCell ⟨w.heap.size+1+1,0,none⟩ (.int .i64 r1)).setCell ⟨w.heap.size+1+1,1,none⟩ (.int .i64 r2)).setCell ⟨w.heap.size+1+1,2,none⟩ (.int .i64 r3)).setCell ⟨w.heap.size+1+1,3,none⟩ (.int .i64 r4)).setCell ⟨w.heap.size+1+1,4,none⟩ (.int .i64 r5)).heap[w.heap.size+1]?=some (.cells #[.slice u1 m1 d1,.slice u2 m2 d2] 46 (0,0))):=by
  show _=_
  rw[gg2.block _ (Nat.lt_of_lt_of_le (by omega) gg1.size) (fun e=>by simp at e)]
  exact setTwo ra _ _
 have HX2:Hid ((((((((W.setCell ⟨w.heap.size+1,0,none⟩ (.slice u1 m1 d1)).setCell ⟨w.heap.size+1,1,none⟩ (.slice u2 m2 d2)).setCell ⟨w.heap.size+1+1,0,none⟩ (.int .i64 r1)).setCell ⟨w.heap.size+1+1,1,none⟩ (.int .i64 r2)).setCell ⟨w.heap.size+1+1,2,none⟩ (.int .i64 r3)).setCell ⟨w.heap.size+1+1,3,none⟩ (.int .i64 r4)).setCell ⟨w.heap.size+1+1,4,none⟩ (.int .i64 r5)).heap[w.heap.size+1+1]?=some (.cells #[.int .i64 r1,.int .i64 r2,.int .i64 r3,.int .i64 r4,.int .i64 r5] 54 (0,0))):=
  setFive (by rw[gg1.block _ hsW (fun e=>by simp at e)];exact rb) _ _ _ _ _
 have HLA:Hid (DL (((((((W.setCell ⟨w.heap.size+1,0,none⟩ (.slice u1 m1 d1)).setCell ⟨w.heap.size+1,1,none⟩ (.slice u2 m2 d2)).setCell ⟨w.heap.size+1+1,0,none⟩ (.int .i64 r1)).setCell ⟨w.heap.size+1+1,1,none⟩ (.int .i64 r2)).setCell ⟨w.heap.size+1+1,2,none⟩ (.int .i64 r3)).setCell ⟨w.heap.size+1+1,3,none⟩ (.int .i64 r4)).setCell ⟨w.heap.size+1+1,4,none⟩ (.int .i64 r5)) w.heap.size (.slice u1 m1 d1) X1∧DL (((((((W.setCell ⟨w.heap.size+1,0,none⟩ (.slice u1 m1 d1)).setCell ⟨w.heap.size+1,1,none⟩ (.slice u2 m2 d2)).setCell ⟨w.heap.size+1+1,0,none⟩ (.int .i64 r1)).setCell ⟨w.heap.size+1+1,1,none⟩ (.int .i64 r2)).setCell ⟨w.heap.size+1+1,2,none⟩ (.int .i64 r3)).setCell ⟨w.heap.size+1+1,3,none⟩ (.int .i64 r4)).setCell ⟨w.heap.size+1+1,4,none⟩ (.int .i64 r5)) w.heap.size (.slice u2 m2 d2) X2):=⟨(DL.other (DL.other hA gg1 (by omega)) gg2 hVs).mono (by omega),(DL.other (DL.other hBq gg1 (by omega)) gg2 hVs).mono (by omega)⟩
 have hB1:Below w.heap.size w ((W.setCell ⟨w.heap.size+1,0,none⟩ (.slice u1 m1 d1)).setCell ⟨w.heap.size+1,1,none⟩ (.slice u2 m2 d2)):=hBW.grown gg1 hBW.size (fun k hk=>by cases hk;omega)
 have hB2:Below w.heap.size w (((((((W.setCell ⟨w.heap.size+1,0,none⟩ (.slice u1 m1 d1)).setCell ⟨w.heap.size+1,1,none⟩ (.slice u2 m2 d2)).setCell ⟨w.heap.size+1+1,0,none⟩ (.int .i64 r1)).setCell ⟨w.heap.size+1+1,1,none⟩ (.int .i64 r2)).setCell ⟨w.heap.size+1+1,2,none⟩ (.int .i64 r3)).setCell ⟨w.heap.size+1+1,3,none⟩ (.int .i64 r4)).setCell ⟨w.heap.size+1+1,4,none⟩ (.int .i64 r5)):=hB1.grown gg2 hB1.size (fun k hk=>by cases hk;omega)
 have HBF:Hid (Below w.heap.size w (((((((W.setCell ⟨w.heap.size+1,0,none⟩ (.slice u1 m1 d1)).setCell ⟨w.heap.size+1,1,none⟩ (.slice u2 m2 d2)).setCell ⟨w.heap.size+1+1,0,none⟩ (.int .i64 r1)).setCell ⟨w.heap.size+1+1,1,none⟩ (.int .i64 r2)).setCell ⟨w.heap.size+1+1,2,none⟩ (.int .i64 r3)).setCell ⟨w.heap.size+1+1,3,none⟩ (.int .i64 r4)).setCell ⟨w.heap.size+1+1,4,none⟩ (.int .i64 r5))):=hB2
 clear hbW hBW hsW gg1 gg2 hB1 hB2 hA hBq hbn ra rb hSW HROW HWJ SO SK1 SK2 hfa hfb
 go_wp2_with fail
 generalize (((((((W.setCell ⟨w.heap.size+1,0,none⟩ (.slice u1 m1 d1)).setCell ⟨w.heap.size+1,1,none⟩ (.slice u2 m2 d2)).setCell ⟨w.heap.size+1+1,0,none⟩ (.int .i64 r1)).setCell ⟨w.heap.size+1+1,1,none⟩ (.int .i64 r2)).setCell ⟨w.heap.size+1+1,2,none⟩ (.int .i64 r3)).setCell ⟨w.heap.size+1+1,3,none⟩ (.int .i64 r4)).setCell ⟨w.heap.size+1+1,4,none⟩ (.int .i64 r5))=X at *
 obtain⟨y0,y1,-⟩:=rowTwo HX1.out
 obtain⟨z0,z1,z2,z3,z4,-⟩:=rowFive HX2.out
 first|exact bodyPost_ret (v:=.tuple #[.agg #[.slice u1 m1 d1,.slice u2 m2 d2],.agg #[.int .i64 r1,.int .i64 r2,.int .i64 r3,.int .i64 r4,.int .i64 r5],.nilIface]) (by simp[results,Tryz.results106,go_sem,y0,y1,z0,z1,z2,z3,z4]) rfl ⟨u1,u2,m1,m2,d1,d2,rfl,HLA.out.1,HLA.out.2,HBF.out⟩|exact bodyPost_ret (v:=.tuple #[.agg #[.slice u1 m1 d1,.slice u2 m2 d2],.agg #[.int .i64 r1,.int .i64 r2,.int .i64 r3,.int .i64 r4,.int .i64 r5],.nilIface]) (by simp[results,Tryz.results106,go_sem,y0,y1,z0,z1,z2,z3,z4]) rfl ⟨u1,u2,m1,m2,d1,d2,rfl,HLA.out.1.below (bzR _ _).drew,HLA.out.2.below (bzR _ _).drew,HBF.out.drew⟩
end bok
end Go.Proofs.YtifjhlgjgnnnpaaGreat
