import Derived.Test.YtifjhlgjgnnnpaaGreatSidDrop
import Derived.Test.YtifjhlgjgnnnpaaGreatBokFind
import Derived.Test.YtifjhlgjgnnnpaaGreatQueFil
set_option maxHeartbeats 4000000
set_option maxRecDepth 100000
namespace Go.Proofs.YtifjhlgjgnnnpaaGreat
namespace sid
open Go.RowKit spn que Go.Maps
theorem zHQ(i:Nat)(h:i≤1000):wrap64 ((i:Int)+1)=(i:Int)+1∧IntKind.i64.wrap ((i:Int)+1)=(i:Int)+1:=by
 have i2:wrap64 ((i:Int)+1)=(i:Int)+1:=by unfold wrap64;omega
 exact⟨i2,(IntWalk.i64_left _).trans i2⟩
theorem zKR(s:Int)(b o c n:Nat)(ls:List L)(id:Int)(i k:Nat)(p:Int)(zs:List R)(r1 r2 r3 r4 r5:Int)(w:World)(hn:ls.length=n)(hb:b<w.heap.size)(hc:n≤c)(hm:c≤9223372036854775807)(hl:LL w b o ls)(hid:(Lit.int .i64 id).wf=true)(h0:schk s ls=0)
  (hfv:zBj s ls id=.tuple #[.int .i64 i,.int .i64 k,.nilIface]) (hi:i<n) (he:ls[i]! = ⟨p,zs⟩) (hk:k<zs.length) (hr:zs[k]! = ⟨r1,r2,r3,r4,r5⟩) (POST:Ending→World→Prop)
  (hpost:∀W v3,Below w.heap.size w W→DL W w.heap.size v3 (zBq ls i k)→POST (.returned (.tuple #[v3,.agg #[.int .i64 r1,.int .i64 r2,.int .i64 r3,.int .i64 r4,.int .i64 r5],.int .i64 p,.nilIface])) W) :
  Calls Tryz.prog 130 #[.int .i64 s,.slice (some ⟨b,o,none⟩) n c,.int .i64 id] w fun x w'=>POST x w':=by
 have hLS:LS w (.slice (some ⟨b,o,none⟩) n c) ls:=.inr ⟨b,o,c,by rw[hn],by rw[hn];exact hc,hm,hb,hl⟩
 obtain⟨z1,z2,z3,z4⟩:=zAc h0
 have hlen:=zCQ (zAs z2)
 have HFI:=fun W(hW:Below w.heap.size w W)=>find_any s _ ls id W (hLS.below hW) hid
 rw[hfv] at HFI
 have HFR:Hid (∀W,Below w.heap.size w W→Calls Tryz.prog 58 #[.slice (some ⟨b,o,none⟩) n c] W fun e w'=>FreshPost W ls e w'):=fun W hW=>zBp _ ls W (hLS.below hW) (by omega) (fun l hl=>by have:=zAR hl;omega) (fun l hl=>(zAg (zAs z2 l hl)).2.1)
 have hn60:n≤60:=by omega
 have hil:i<ls.length:=by omega
 obtain⟨q,rc,l0,l1,hsl⟩:=hl.at hil he
 obtain⟨rb,ro,hq,-,hrb,hlr⟩:=zEZ hsl hk
 subst hq
 obtain⟨v0,v1,v2,v3,v4⟩:=zCt hlr hk hr
 have hm60:zs.length≤60:=by
  have h1:ls[i]!∈ls:=by rw[getE _ _ hil];exact jT hil
  have:=zAR h1
  rw[he] at this
  simp only[] at this
  omega
 have hrc:zs.length≤rc∧rc≤9223372036854775807:=by
  rcases hsl.sl (fun e=>by rw[e] at hk;simp at hk) with ⟨e,-⟩|⟨b',o',c',e,h1,h2,-⟩
  ·cases e
  ·cases e;exact⟨h1,h2⟩
 have HLS:Hid (ls.length=n∧ls[i]! = ⟨p,zs⟩∧i<ls.length):=⟨hn,he,hil⟩
 have HPOST:Hid (∀W v3,Below w.heap.size w W→DL W w.heap.size v3 (zBq ls i k)→POST (.returned (.tuple #[v3,.agg #[.int .i64 r1,.int .i64 r2,.int .i64 r3,.int .i64 r4,.int .i64 r5],.int .i64 p,.nilIface])) W):=hpost
 obtain⟨hrc1,hrc2⟩:=hrc
 generalize hmm:zs.length=m at *
 have HM:Hid (zs.length=m):=hmm
 have SO:Hid (∀W,Below w.heap.size w W→(Below w.heap.size w W∧W.cell? ⟨b,o+i*2,none⟩=some (.int .i64 p)∧W.cell? ⟨b,o+i*2+1,none⟩=some (.slice (some ⟨rb,ro,none⟩) m rc)∧W.cell? ⟨rb,ro+k*5,none⟩=some (.int .i64 r1)∧W.cell? ⟨rb,ro+k*5+1,none⟩=some (.int .i64 r2)∧W.cell? ⟨rb,ro+k*5+2,none⟩=some (.int .i64 r3)∧W.cell? ⟨rb,ro+k*5+3,none⟩=some (.int .i64 r4)∧W.cell? ⟨rb,ro+k*5+4,none⟩=some (.int .i64 r5))):=fun W hW=>⟨hW,zAa hW l0,zAa hW l1,zAa hW v0,zAa hW v1,zAa hW v2,zAa hW v3,zAa hW v4⟩
 clear hmm hpost hLS z1 z2 z3 z4 hlen hsl hlr hl h0 hfv he hr hn hil v0 v1 v2 v3 v4 l0 l1 hid
 have i0:¬((i:Int)<0):=by omega
 have i1:(i:Int)<(n:Int):=by omega
 have i4:(0:Int)≤(i:Int):=by omega
 have k0:¬((k:Int)<0):=by omega
 have k1:(k:Int)<(m:Int):=by omega
 have k4:(0:Int)≤(k:Int):=by omega
 have HI2:Hid (wrap64 ((i:Int)+1)=(i:Int)+1∧IntKind.i64.wrap ((i:Int)+1)=(i:Int)+1):=zHQ i (by omega)
 have HK2:Hid (wrap64 ((k:Int)+1)=(k:Int)+1∧IntKind.i64.wrap ((k:Int)+1)=(k:Int)+1):=zHQ k (by omega)
 go_enter Tryz.func130,Tryz.ntmps130
 go_wp2_with fail
 refine(HFI _ ((bzR _ _).alloc (nzR _) _)).mono ?_
 rintro x w1⟨rfl,hb1⟩
 have HB1:Hid (Below w.heap.size w w1):=((bzR _ _).alloc (nzR _) _).trans (hb1.mono (by simp))
 have hR1:w1.heap[w.heap.size]?=some (.cells #[.int .i64 0,.int .i64 0,.int .i64 0,.int .i64 0,.int .i64 0] 54 (0,0)):=by
  rw[hb1.block w.heap.size (by simp)]
  exact jA w _
 have hz1:w.heap.size<w1.heap.size:=by have:=hb1.size;simp at this;omega
 clear hb1 HFI
 go_wp2_with fail
 refine(HFR.out w1 HB1.out).mono ?_
 rintro x w2⟨v2,ps,rfl,hps,hD,hb2⟩
 have HB2:Hid (Below w.heap.size w w2):=HB1.out.trans (hb2.mono HB1.out.size)
 have hR2:w2.heap[w.heap.size]?=some (.cells #[.int .i64 0,.int .i64 0,.int .i64 0,.int .i64 0,.int .i64 0] 54 (0,0)):=by
  rw[hb2.block w.heap.size hz1];exact hR1
 clear HFR hR1
 obtain⟨hn,he,hil⟩:=HLS.out
 have hpl:ps.length=n:=by rw[←hn,←hps,jP]
 have hip:i<ps.length:=by omega
 obtain⟨⟨⟨xp,xq,xn,xc⟩,xz⟩,hx⟩:∃x,x=ps[i]:=⟨_,rfl⟩
 have hxl:toL (⟨xp,xq,xn,xc⟩,xz)=⟨p,zs⟩:=by
  rw[hx,←he,getE _ _ hil]
  simp only[←hps,List.getElem_map]
 have hxp:p=xp:=(congrArg L.price hxl).symm
 have hxz:zs=xz:=(congrArg L.rests hxl).symm
 subst hxp
 subst hxz
 have hsp:ps=ps.take i++(⟨p,xq,xn,xc⟩,zs)::ps.drop (i+1):=by
  rw[hx,←List.drop_eq_getElem_cons hip,jR]
 obtain⟨a,ha⟩:∃a,a=ps.take i:=⟨_,rfl⟩
 obtain⟨t,ht⟩:∃t,t=ps.drop (i+1):=⟨_,rfl⟩
 rw[←ha,←ht] at hsp
 have hai:a.length=i:=by rw[ha,jJ];omega
 rw[hsp] at hD
 have hex:=hD.each (⟨p,xq,xn,xc⟩,zs) (by simp)
 have hxn:m=xn:=by
  obtain⟨q',c',e⟩:=OwnM.form hex
  have e' : Value.slice xq xn xc=.slice q' zs.length c':=e
  simp at e'
  rw[e'.2.1,HM.out]
 subst hxn
 have ho5:=hD.own
 rw[jH,jF,jK] at ho5
 have hnl:(a.map (·.1)++(⟨p,xq,m,xc⟩:rlv.RL)::t.map (·.1)).length=n:=by
  rw[←hpl,hsp];simp
 have HDL:Hid (zBq ls i k=if m=1 then (a++t).map toL else a.map toL++⟨p,zs.eraseIdx k⟩::t.map toL):=by
  show _=_
  have e1:ls=a.map toL++⟨p,zs⟩::t.map toL:=by rw[←hps,hsp];simp[toL]
  unfold zBq
  rw[he]
  simp only[]
  rw[HM.out]
  rw[e1,←show (a.map toL).length=i by rw[jP,hai],zEd,zDo]
  split
  ·simp
  ·rfl
 rcases ho5.2 with ⟨-,hz⟩|⟨g,off,cap,cur,e5,-,-,hcap,hcm,-,-⟩
 ·simp at hz
 ·rw[hnl] at e5 hcap
  subst e5
  have hcap2:cap≤9223372036854775807:=by simpa [maxLen] using hcm
  obtain⟨-,-,c1,hfr,hgb,hgs⟩:=zDn ho5
  rw[jP,hai] at c1
  simp only[] at c1
  have f1:=hfr (off+i*2+1)
  have hwg:w.heap.size≠g:=by omega
  have HDD:Hid (Deep w2 w1.heap.size (.slice (some ⟨g,off,none⟩) n cap) (a++(⟨p,xq,m,xc⟩,zs)::t)):=hD
  have HAI:Hid (a.length=i):=hai
  have HEX:Hid (OwnM w2 w1.heap.size 54 5 (.slice xq m xc) m (flat zs)):=by have h:OwnM w2 w1.heap.size 54 5 (.slice xq m xc) zs.length (flat zs):=hex;rwa [HM.out] at h
  have HO5:Hid (OwnM w2 w1.heap.size 52 2 (.slice (some ⟨g,off,none⟩) n cap) n (rlv.flat (a.map (·.1)++(⟨p,xq,m,xc⟩:rlv.RL)::t.map (·.1)))):=by have h:OwnM w2 w1.heap.size 52 2 _ _ _:=ho5;rwa [hnl] at h
  have HB2b:Hid (Below w1.heap.size w1 w2):=hb2
  clear hn he hil hpl hip hx hxl hsp ha ht hai hex ho5 hnl hcm hD hfr hps HLS hb2
  by_cases h1:m=1
  ·have HDL1:Hid (zBq ls i k=(a++t).map toL):=by show _=_;rw[HDL.out,if_pos h1]
   have hdel:=rlv.delete_own w2 w1.heap.size g off n cap i (i+1) _ HO5.out (by omega) (by omega) (rlv.flat_one _)
   rw[show (((i+1:Nat)):Int)=(i:Int)+1 by omega] at hdel
   have h11:((m:Int) == 1)=true:=by simp;omega
   have h12:(m:Int)=1:=by omega
   obtain⟨i2,i3⟩:=HI2.out
   go_wp2_with fail
   refine hdel.mono ?_
   clear i2 i3 h11 h12 h1
   rintro x W3⟨rfl,hO3,hg3⟩
   have HB3:Hid (Below w.heap.size w W3):=HB2.out.grown hg3 HB2.out.size (fun k hk=>by cases hk;omega)
   have hR3:W3.heap[w.heap.size]?=some (.cells #[.int .i64 0,.int .i64 0,.int .i64 0,.int .i64 0,.int .i64 0] 54 (0,0)):=by
    rw[hg3.block w.heap.size (by have:=HB2b.out.size;omega) (fun e=>by cases e;exact hwg rfl)];exact hR2
   have HL3:Hid (∀W,W3.grownBy W (some w.heap.size)→DL W w.heap.size (.slice (some ⟨g,off,none⟩) (i+(n - (i+1))) cap) (zBq ls i k)):=fun W hW=>by
    rw[HDL1.out]
    have ho:rlv.OwnQ W3 w1.heap.size (.slice (some ⟨g,off,none⟩) (i+(n - (i+1))) cap) ((a++t).map (·.1)):=by
     have e1:rlv.flat ((a++t).map (·.1))=(rlv.flat (a.map (·.1)++(⟨p,xq,m,xc⟩:rlv.RL)::t.map (·.1))).take (i*2)++(rlv.flat (a.map (·.1)++(⟨p,xq,m,xc⟩:rlv.RL)::t.map (·.1))).drop ((i+1)*2):=by
      rw[←zGd,←zGe,←rlv.flat_append,List.take_left' (by rw[jP,HAI.out]),jF]
      congr 2
      rw[show i+1=(a.map (·.1)).length+1 by rw[jP,HAI.out],List.drop_length_add_append]
      rfl
     have e2:((a++t).map (·.1)).length=i+(n - (i+1)):=by
      have h1:=HO5.out.1
      rw[rlv.flat_len] at h1
      simp at h1 ⊢
      have:=HAI.out
      omega
     show OwnM _ _ _ _ _ _ _
     rw[e1,e2]
     exact hO3
    have hd:=DeepT.delete HDD.out ho hg3 rfl
    exact⟨_,rfl,(hd.other hW hz1).mono HB1.out.size⟩
   clear hdel hO3 hg3 HDL HDL1 HDD HEX HO5 c1 f1 hR2 HB2 HB2b
   have hB3:=HB3.out
   obtain⟨e0,e1,e2,e3,e4,hfr⟩:=zAe hR3
   have f0:=hfr 0
   have f1:=hfr 1
   have f2:=hfr 2
   have f3:=hfr 3
   have f4:=hfr 4
   have HX:=zAV hR3 (.int .i64 r1) (.int .i64 r2) (.int .i64 r3) (.int .i64 r4) (.int .i64 r5)
   have HBX:Below w.heap.size w (((((W3.setCell ⟨w.heap.size,0,none⟩ (.int .i64 r1)).setCell ⟨w.heap.size,1,none⟩ (.int .i64 r2)).setCell ⟨w.heap.size,2,none⟩ (.int .i64 r3)).setCell ⟨w.heap.size,3,none⟩ (.int .i64 r4)).setCell ⟨w.heap.size,4,none⟩ (.int .i64 r5)):=((((hB3.setCell (nzR _) _).setCell (nzR _) _).setCell (nzR _) _).setCell (nzR _) _).setCell (nzR _) _
   have HPX:=HPOST.out _ _ HBX (HL3.out _ (zBP W3 w.heap.size (.int .i64 r1) (.int .i64 r2) (.int .i64 r3) (.int .i64 r4) (.int .i64 r5)))
   have HPX1:=HPOST.out _ _ HBX.drew (HL3.out _ (gr_trans (zBP W3 w.heap.size (.int .i64 r1) (.int .i64 r2) (.int .i64 r3) (.int .i64 r4) (.int .i64 r5)) (gr_drew _ _)))
   have HHX:Hid ((((((W3.setCell ⟨w.heap.size,0,none⟩ (.int .i64 r1)).setCell ⟨w.heap.size,1,none⟩ (.int .i64 r2)).setCell ⟨w.heap.size,2,none⟩ (.int .i64 r3)).setCell ⟨w.heap.size,3,none⟩ (.int .i64 r4)).setCell ⟨w.heap.size,4,none⟩ (.int .i64 r5)).heap[w.heap.size]?=some (.cells #[.int .i64 r1,.int .i64 r2,.int .i64 r3,.int .i64 r4,.int .i64 r5] 54 (0,0))):=HX
   clear hfr HPOST HL3 HBX HX hR3
   go_upto_region 8 with fail
   go_region_held3 (fun W=>Below w.heap.size w W∧W.cell? ⟨b,o+i*2,none⟩=some (.int .i64 p)∧W.cell? ⟨b,o+i*2+1,none⟩=some (.slice (some ⟨rb,ro,none⟩) m rc)∧W.cell? ⟨rb,ro+k*5,none⟩=some (.int .i64 r1)∧W.cell? ⟨rb,ro+k*5+1,none⟩=some (.int .i64 r2)∧W.cell? ⟨rb,ro+k*5+2,none⟩=some (.int .i64 r3)∧W.cell? ⟨rb,ro+k*5+3,none⟩=some (.int .i64 r4)∧W.cell? ⟨rb,ro+k*5+4,none⟩=some (.int .i64 r5))
    ((refine SO.out _ ?_;(with_reducible repeat' (first|assumption|refine bal ?_ _|refine Below.setCell ?_ ?_ _|refine Below.drew ?_|exact bzR _ _|exact nzR _|exact Below.size (by assumption)|refine jD ?_))))
    (fail)
   go_wp2_with fail
   generalize (((((W3.setCell ⟨w.heap.size,0,none⟩ (.int .i64 r1)).setCell ⟨w.heap.size,1,none⟩ (.int .i64 r2)).setCell ⟨w.heap.size,2,none⟩ (.int .i64 r3)).setCell ⟨w.heap.size,3,none⟩ (.int .i64 r4)).setCell ⟨w.heap.size,4,none⟩ (.int .i64 r5))=V at *
   obtain⟨y0,y1,y2,y3,y4,-⟩:=zAe HHX.out
   first|exact jN (v:=.tuple #[.slice (some ⟨g,off,none⟩) (i+(n - (i+1))) cap,.agg #[.int .i64 r1,.int .i64 r2,.int .i64 r3,.int .i64 r4,.int .i64 r5],.int .i64 p,.nilIface]) (by simp[results,Tryz.results130,go_sem,y0,y1,y2,y3,y4]) rfl HPX1|exact jN (v:=.tuple #[.slice (some ⟨g,off,none⟩) (i+(n - (i+1))) cap,.agg #[.int .i64 r1,.int .i64 r2,.int .i64 r3,.int .i64 r4,.int .i64 r5],.int .i64 p,.nilIface]) (by simp[results,Tryz.results130,go_sem,y0,y1,y2,y3,y4]) rfl HPX
  ·have HDL1:Hid (zBq ls i k=a.map toL++⟨p,zs.eraseIdx k⟩::t.map toL):=by show _=_;rw[HDL.out,if_neg h1]
   have h12:¬((m:Int)=1):=by omega
   have h11:((m:Int) == 1)=false:=by simp;omega
   rcases HEX.out.2 with ⟨e,hz⟩|⟨xg,xo,xcap,xcur,e,hxb,hxg,hxcap,hxcm,-,-⟩
   ·omega
   ·cases e
    have hxc2:xc≤9223372036854775807:=by simpa [maxLen] using hxcm
    have hdel:=que.delete_own w2 w1.heap.size xg xo m xc k (k+1) _ HEX.out (by omega) (by omega) (flat_one _)
    rw[show (((k+1:Nat)):Int)=(k:Int)+1 by omega] at hdel
    have hxgs:xg<w2.heap.size:=(gzE.1 hxg).1
    have hfar:xg≠g:=fun e=>HDD.out.far (⟨p,some ⟨xg,xo,none⟩,m,xc⟩,zs) (by simp) xg rfl (by rw[e];rfl)
    clear hxcm hxg
    obtain⟨k2,k3⟩:=HK2.out
    go_wp2_with fail
    refine hdel.mono ?_
    clear k2 k3
    rintro x w3⟨rfl,hO3,hg3⟩
    have hwg3:w.heap.size≠xg:=by omega
    have d1:w3.cell? ⟨g,off+i*2+1,none⟩=some (.slice (some ⟨xg,xo,none⟩) m xc):=by
     rw[hg3.cell_far ⟨g,off+i*2+1,none⟩ hgs (fun e=>hfar (by cases e;rfl))];exact c1
    have d2:w3.frozen? ⟨g,off+i*2+1,none⟩=false:=by
     rw[World.frozen?_of_block (hg3.block g hgs (fun e=>hfar (by cases e;rfl)))];exact f1
    have hgs3:g<w3.heap.size:=jC hgs hg3.size
    have hB3a:Below w.heap.size w w3:=HB2.out.grown hg3 HB2.out.size (fun k hk=>by cases hk;omega)
    have HB3:Hid (Below w.heap.size w (w3.setCell ⟨g,off+i*2+1,none⟩ (.slice (some ⟨xg,xo,none⟩) (k+(m - (k+1))) xc))):=hB3a.setCell (by show _≤g;omega) _
    have hR3:(w3.setCell ⟨g,off+i*2+1,none⟩ (.slice (some ⟨xg,xo,none⟩) (k+(m - (k+1))) xc)).heap[w.heap.size]?=some (.cells #[.int .i64 0,.int .i64 0,.int .i64 0,.int .i64 0,.int .i64 0] 54 (0,0)):=by
     rw[heap_setCell_other _ _ _ _ hwg,hg3.block w.heap.size (by have:=HB2b.out.size;omega) (fun e=>by cases e;exact hwg3 rfl)];exact hR2
    have HL3:Hid (∀W,(w3.setCell ⟨g,off+i*2+1,none⟩ (.slice (some ⟨xg,xo,none⟩) (k+(m - (k+1))) xc)).grownBy W (some w.heap.size)→DL W w.heap.size (.slice (some ⟨g,off,none⟩) n cap) (zBq ls i k)):=fun W hW=>by
     rw[HDL1.out]
     have ho:OwnQ w3 w1.heap.size (.slice (some ⟨xg,xo,none⟩) (k+(m - (k+1))) xc) (zs.eraseIdx k):=by
      have e1:flat (zs.eraseIdx k)=(flat zs).take (k*5)++(flat zs).drop ((k+1)*5):=by
       rw[List.eraseIdx_eq_take_drop_succ,flat_append,zIU,zIV]
      have e2:(zs.eraseIdx k).length=k+(m - (k+1)):=by
       rw[List.length_eraseIdx_of_lt (by rw[HM.out];exact hk),HM.out];omega
      show OwnM _ _ _ _ _ _ _
      rw[e1,e2]
      exact hO3
     have hd:=DeepT.swap HDD.out hg3 ho (.inl rfl)
     rw[HAI.out] at hd
     rw[show a.map toL++(⟨p,zs.eraseIdx k⟩:L)::t.map toL=(a++(((⟨p,some ⟨xg,xo,none⟩,k+(m - (k+1)),xc⟩:rlv.RL),zs.eraseIdx k):RP)::t).map toL by simp[toL]]
     exact⟨_,rfl,(hd.other hW hz1).mono HB1.out.size⟩
    clear hdel hO3 HDL HDL1 HDD HEX HO5 c1 f1 hR2 HB2 HB2b hB3a
    go_upto_region 8 with fail
    generalize w3.setCell ⟨g,off+i*2+1,none⟩ (.slice (some ⟨xg,xo,none⟩) (k+(m - (k+1))) xc)=W3 at *
    clear hg3 d1 d2 hgs3
    have hB3:=HB3.out
    obtain⟨e0,e1,e2,e3,e4,hfr⟩:=zAe hR3
    have f0:=hfr 0
    have f1:=hfr 1
    have f2:=hfr 2
    have f3:=hfr 3
    have f4:=hfr 4
    have HX:=zAV hR3 (.int .i64 r1) (.int .i64 r2) (.int .i64 r3) (.int .i64 r4) (.int .i64 r5)
    have HBX:Below w.heap.size w (((((W3.setCell ⟨w.heap.size,0,none⟩ (.int .i64 r1)).setCell ⟨w.heap.size,1,none⟩ (.int .i64 r2)).setCell ⟨w.heap.size,2,none⟩ (.int .i64 r3)).setCell ⟨w.heap.size,3,none⟩ (.int .i64 r4)).setCell ⟨w.heap.size,4,none⟩ (.int .i64 r5)):=((((hB3.setCell (nzR _) _).setCell (nzR _) _).setCell (nzR _) _).setCell (nzR _) _).setCell (nzR _) _
    have HPX:=HPOST.out _ _ HBX (HL3.out _ (zBP W3 w.heap.size (.int .i64 r1) (.int .i64 r2) (.int .i64 r3) (.int .i64 r4) (.int .i64 r5)))
    have HPX1:=HPOST.out _ _ HBX.drew (HL3.out _ (gr_trans (zBP W3 w.heap.size (.int .i64 r1) (.int .i64 r2) (.int .i64 r3) (.int .i64 r4) (.int .i64 r5)) (gr_drew _ _)))
    have HHX:Hid ((((((W3.setCell ⟨w.heap.size,0,none⟩ (.int .i64 r1)).setCell ⟨w.heap.size,1,none⟩ (.int .i64 r2)).setCell ⟨w.heap.size,2,none⟩ (.int .i64 r3)).setCell ⟨w.heap.size,3,none⟩ (.int .i64 r4)).setCell ⟨w.heap.size,4,none⟩ (.int .i64 r5)).heap[w.heap.size]?=some (.cells #[.int .i64 r1,.int .i64 r2,.int .i64 r3,.int .i64 r4,.int .i64 r5] 54 (0,0))):=HX
    clear hfr HPOST HL3 HBX HX hR3
    go_region_held3 (fun W=>Below w.heap.size w W∧W.cell? ⟨b,o+i*2,none⟩=some (.int .i64 p)∧W.cell? ⟨b,o+i*2+1,none⟩=some (.slice (some ⟨rb,ro,none⟩) m rc)∧W.cell? ⟨rb,ro+k*5,none⟩=some (.int .i64 r1)∧W.cell? ⟨rb,ro+k*5+1,none⟩=some (.int .i64 r2)∧W.cell? ⟨rb,ro+k*5+2,none⟩=some (.int .i64 r3)∧W.cell? ⟨rb,ro+k*5+3,none⟩=some (.int .i64 r4)∧W.cell? ⟨rb,ro+k*5+4,none⟩=some (.int .i64 r5))
     ((refine SO.out _ ?_;(with_reducible repeat' (first|assumption|refine bal ?_ _|refine Below.setCell ?_ ?_ _|refine Below.drew ?_|exact bzR _ _|exact nzR _|exact Below.size (by assumption)|refine jD ?_))))
     (fail)
    go_wp2_with fail
    generalize (((((W3.setCell ⟨w.heap.size,0,none⟩ (.int .i64 r1)).setCell ⟨w.heap.size,1,none⟩ (.int .i64 r2)).setCell ⟨w.heap.size,2,none⟩ (.int .i64 r3)).setCell ⟨w.heap.size,3,none⟩ (.int .i64 r4)).setCell ⟨w.heap.size,4,none⟩ (.int .i64 r5))=V at *
    obtain⟨y0,y1,y2,y3,y4,-⟩:=zAe HHX.out
    first|exact jN (v:=.tuple #[.slice (some ⟨g,off,none⟩) n cap,.agg #[.int .i64 r1,.int .i64 r2,.int .i64 r3,.int .i64 r4,.int .i64 r5],.int .i64 p,.nilIface]) (by simp[results,Tryz.results130,go_sem,y0,y1,y2,y3,y4]) rfl HPX1|exact jN (v:=.tuple #[.slice (some ⟨g,off,none⟩) n cap,.agg #[.int .i64 r1,.int .i64 r2,.int .i64 r3,.int .i64 r4,.int .i64 r5],.int .i64 p,.nilIface]) (by simp[results,Tryz.results130,go_sem,y0,y1,y2,y3,y4]) rfl HPX
theorem zHR(s:Int)(v:Value)(ls:List L)(id:Int)(w:World)(h:LS w v ls)(hid:(Lit.int .i64 id).wf=true) :
  Calls Tryz.prog 130 #[.int .i64 s,v,.int .i64 id] w fun x w'=>DropPost s ls id w x w':=by
 by_cases h0:zAE s ls id=0
 ·obtain⟨hs,i,k,hi,hk,e1,e2⟩:=zDd h0
  have hfv:zBj s ls id=.tuple #[.int .i64 i,.int .i64 k,.nilIface]:=by unfold zBj;rw[e2,h0,errV_zero]
  rcases h with ⟨rfl,rfl⟩|⟨b,o,c,rfl,h2,h3,h4,h5⟩
  ·simp at hi
  ·obtain⟨l,hl⟩:∃l,ls[i]! = l:=⟨_,rfl⟩
   obtain⟨p,zs⟩:=l
   have hle:ls[i]=⟨p,zs⟩:=by rw[←hl,getE _ _ hi]
   have hk2:k<zs.length:=by rw[hle] at hk;exact hk
   obtain⟨r,hr⟩:∃r,zs[k]! = r:=⟨_,rfl⟩
   obtain⟨r1,r2,r3,r4,r5⟩:=r
   refine zKR s b o c ls.length ls id i k p zs r1 r2 r3 r4 r5 w rfl h4 h2 h3 h5 hid hs hfv hi hl hk2 hr (DropPost s ls id w) (fun W v3 hW hL=>⟨hW,v3,?_,?_⟩)
   ·unfold zDf zCx
    rw[if_pos h0,if_pos h0,e2,h0,errV_zero]
    simp only[Int.toNat_natCast]
    rw[hl]
    simp only[]
    rw[hr]
    rfl
   ·unfold zKQ
    rw[if_pos h0,e2]
    simp only[Int.toNat_natCast]
    exact hL
 ·obtain⟨q,m,c,rfl⟩:=zFb h
  exact zNz s q m c ls id w h hid h0
end sid
namespace bok
open Go.RowKit spn que sid
def WiPost(s:Int)(bs ss ls:List L)(b0:Nat)(w:World)(e:Ending)(w' : World):Prop:=
 ∃q1 q2 n1 n2 c1 c2,e=.returned (.agg #[.slice q1 n1 c1,.slice q2 n2 c2])∧DL w' b0 (.slice q1 n1 c1) (if s=1 then ls else bs)∧DL w' b0 (.slice q2 n2 c2) (if s=1 then ss else ls)∧Below w.heap.size w w'
theorem zCJ(s:Int)(q1 q2 q3:Option Addr)(n1 n2 n3 c1 c2 c3:Nat)(bs ss ls:List L)(b0:Nat)(w:World)(h1:LS w (.slice q1 n1 c1) bs)(h2:LS w (.slice q2 n2 c2) ss)(h3:DL w b0 (.slice q3 n3 c3) ls)(hb0:b0≤w.heap.size)(k1:schk 1 bs=0)(k2:schk 2 ss=0) :
  Calls Tryz.prog 122 #[.agg #[.slice q1 n1 c1,.slice q2 n2 c2],.int .i64 s,.slice q3 n3 c3] w fun e w'=>WiPost s bs ss ls b0 w e w':=by
 have hlen:∀ {t:Int}{xs:List L},schk t xs=0→xs.length≤1000∧(∀l∈xs,l.rests.length≤1000):=fun {t xs} hk=>by
  obtain⟨-,z2,z3,-⟩:=zAc hk
  have:=zCQ (zAs z2)
  exact⟨by omega,fun l hl=>by have:=zAR hl;omega⟩
 have HF1:Hid (∀W,Below w.heap.size w W→Calls Tryz.prog 58 #[.slice q1 n1 c1] W fun e w'=>FreshPost W bs e w'):=fun W hW=>zBp _ bs W (h1.below hW) (hlen k1).1 (hlen k1).2 (zBd k1)
 have HF2:Hid (∀W,Below w.heap.size w W→Calls Tryz.prog 58 #[.slice q2 n2 c2] W fun e w'=>FreshPost W ss e w'):=fun W hW=>zBp _ ss W (h2.below hW) (hlen k2).1 (hlen k2).2 (zBd k2)
 have H3:Hid (DL w b0 (.slice q3 n3 c3) ls):=h3
 obtain⟨V,hV⟩:∃V,V=(w.alloc (.cells #[.slice q1 n1 c1,.slice q2 n2 c2] 46)).alloc (.cells #[.slice none 0 0,.slice none 0 0] 46):=⟨_,rfl⟩
 have HB:Hid (Below w.heap.size w V):=by rw[hV];exact((bzR _ _).alloc (nzR _) _).alloc (by simp) _
 have v0:V.cell? ⟨w.heap.size,0,none⟩=some (.slice q1 n1 c1):=by rw[hV];simp[go_sem]
 have v1:V.cell? ⟨w.heap.size,1,none⟩=some (.slice q2 n2 c2):=by rw[hV];simp[go_sem]
 have hR:V.heap[w.heap.size+1]?=some (.cells #[.slice none 0 0,.slice none 0 0] 46 (0,0)):=by
  rw[hV]
  have:=jA (w.alloc (.cells #[.slice q1 n1 c1,.slice q2 n2 c2] 46)) (.cells #[.slice none 0 0,.slice none 0 0] 46)
  simpa using this
 have hVs:w.heap.size+1<V.heap.size:=(gzE.1 hR).1
 clear h1 h2 h3 k1 k2 hlen
 by_cases hs:s=1
 ·subst hs
  have HP:Hid (∀W q m c,Below w.heap.size w W→DL W b0 (.slice q m c) ss→DL W b0 (.slice q3 n3 c3) ls→WiPost 1 bs ss ls b0 w (.returned (.agg #[.slice q3 n3 c3,.slice q m c])) W):=fun W q m c hW ha hb=>⟨q3,q,n3,m,c3,c,rfl,by rw[if_pos rfl];exact hb,by rw[if_pos rfl];exact ha,hW⟩
  generalize WiPost 1 bs ss ls b0 w=POST at *
  go_enter Tryz.func122,Tryz.ntmps122
  go_wp2_with fail
  rw[←hV]
  refine(HF2.out V HB.out).mono ?_
  rintro e w1⟨v',ps,rfl,hps,hD,b1⟩
  obtain⟨q',c',hv'⟩:=OwnM.form hD.own
  generalize (ps.map (·.1)++([]:List rlv.RL)).length=m' at hv'
  subst hv'
  have hB1:Below w.heap.size w w1:=HB.out.trans (b1.mono HB.out.size)
  have hR1:w1.heap[w.heap.size+1]?=some (.cells #[.slice none 0 0,.slice none 0 0] 46 (0,0)):=by rw[b1.block _ hVs];exact hR
  obtain⟨e0,e1,hf⟩:=zAb hR1
  have f0:=hf 0
  have f1:=hf 1
  have HX:=zAw hR1 (.slice q3 n3 c3) (.slice q' m' c')
  have hg:=zAN w1 (w.heap.size+1) (.slice q3 n3 c3) (.slice q' m' c')
  have hD2:DL _ b0 _ _:=⟨ps,hps,(hD.other hg hVs).mono (jM hb0 HB.out.size)⟩
  have HPX:=HP.out _ q' m' c' (hB1.grown hg hB1.size (fun k hk=>by cases hk;omega)) hD2 (zHE H3.out hB1 hg (by omega))
  have HHX:Hid (((w1.setCell ⟨w.heap.size+1,0,none⟩ (.slice q3 n3 c3)).setCell ⟨w.heap.size+1,1,none⟩ (.slice q' m' c')).heap[w.heap.size+1]?=some (.cells #[.slice q3 n3 c3,.slice q' m' c'] 46 (0,0))):=HX
  clear hD hps hB1 hR1 hf HX hg hD2 HP HF1 HF2 b1 hR v0 v1
  go_wp2_with fail
  generalize (w1.setCell ⟨w.heap.size+1,0,none⟩ (.slice q3 n3 c3)).setCell ⟨w.heap.size+1,1,none⟩ (.slice q' m' c')=X at *
  obtain⟨y0,y1,-⟩:=zAb HHX.out
  exact jN (v:=.agg #[.slice q3 n3 c3,.slice q' m' c']) (by simp[results,Tryz.results122,go_sem,y0,y1]) rfl HPX
 ·have hs1:(s == 1)=false:=by simpa using hs
  have HP:Hid (∀W q m c,Below w.heap.size w W→DL W b0 (.slice q m c) bs→DL W b0 (.slice q3 n3 c3) ls→WiPost s bs ss ls b0 w (.returned (.agg #[.slice q m c,.slice q3 n3 c3])) W):=fun W q m c hW ha hb=>⟨q,q3,m,n3,c,c3,rfl,by rw[if_neg hs];exact ha,by rw[if_neg hs];exact hb,hW⟩
  generalize WiPost s bs ss ls b0 w=POST at *
  go_enter Tryz.func122,Tryz.ntmps122
  go_wp2_with fail
  rw[←hV]
  refine(HF1.out V HB.out).mono ?_
  rintro e w1⟨v',ps,rfl,hps,hD,b1⟩
  obtain⟨q',c',hv'⟩:=OwnM.form hD.own
  generalize (ps.map (·.1)++([]:List rlv.RL)).length=m' at hv'
  subst hv'
  have hB1:Below w.heap.size w w1:=HB.out.trans (b1.mono HB.out.size)
  have hR1:w1.heap[w.heap.size+1]?=some (.cells #[.slice none 0 0,.slice none 0 0] 46 (0,0)):=by rw[b1.block _ hVs];exact hR
  obtain⟨e0,e1,hf⟩:=zAb hR1
  have f0:=hf 0
  have f1:=hf 1
  have HX:=zAw hR1 (.slice q' m' c') (.slice q3 n3 c3)
  have hg:=zAN w1 (w.heap.size+1) (.slice q' m' c') (.slice q3 n3 c3)
  have hD2:DL _ b0 _ _:=⟨ps,hps,(hD.other hg hVs).mono (jM hb0 HB.out.size)⟩
  have HPX:=HP.out _ q' m' c' (hB1.grown hg hB1.size (fun k hk=>by cases hk;omega)) hD2 (zHE H3.out hB1 hg (by omega))
  have HHX:Hid (((w1.setCell ⟨w.heap.size+1,0,none⟩ (.slice q' m' c')).setCell ⟨w.heap.size+1,1,none⟩ (.slice q3 n3 c3)).heap[w.heap.size+1]?=some (.cells #[.slice q' m' c',.slice q3 n3 c3] 46 (0,0))):=HX
  clear hD hps hB1 hR1 hf HX hg hD2 HP HF1 HF2 b1 hR v0 v1
  go_wp2_with fail
  generalize (w1.setCell ⟨w.heap.size+1,0,none⟩ (.slice q' m' c')).setCell ⟨w.heap.size+1,1,none⟩ (.slice q3 n3 c3)=X at *
  obtain⟨y0,y1,-⟩:=zAb HHX.out
  exact jN (v:=.agg #[.slice q' m' c',.slice q3 n3 c3]) (by simp[results,Tryz.results122,go_sem,y0,y1]) rfl HPX
end bok
end Go.Proofs.YtifjhlgjgnnnpaaGreat
