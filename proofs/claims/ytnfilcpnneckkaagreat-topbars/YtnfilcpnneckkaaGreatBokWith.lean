import Derived.Test.YtnfilcpnneckkaaGreatSidDrop
set_option maxHeartbeats 4000000
set_option maxRecDepth 100000
namespace Go.Proofs.YtnfilcpnneckkaaGreat
open Tryz
namespace sid
open Go.RowKit spn que Go.Maps
theorem wrapSucc(i:Nat)(h:i≤1000):wrap64 ((i:Int)+1)=(i:Int)+1∧IntKind.i64.wrap ((i:Int)+1)=(i:Int)+1:=by
 have i2:wrap64 ((i:Int)+1)=(i:Int)+1:=by unfold wrap64;omega
 exact⟨i2,(IntWalk.i64_left _).trans i2⟩
theorem zLJ(s:Int)(b o c n:Nat)(ls:List L)(id:Int)(i k:Nat)(p:Int)(zs:List R)(r1 r2 r3 r4 r5:Int)(w:World)(hn:ls.length=n)(hb:b<w.heap.size)(hc:n≤c)(hm:c≤9223372036854775807)(hl:LL w b o ls)(hid:(Lit.int .i64 id).wf=true)(h0:schk s ls=0)
  (Uq:zBl s ls id=.tuple #[.int .i64 i,.int .i64 k,.nilIface]) (hi:i<n) (he:ls[i]! = ⟨p,zs⟩) (hk:k<zs.length) (hr:zs[k]! = ⟨r1,r2,r3,r4,r5⟩) (POST:Ending→World→Prop)
  (Mj:∀W v3,Bw w W→DL W w.heap.size v3 (zBo ls i k)→POST (.returned (.tuple #[v3,.agg #[.int .i64 r1,.int .i64 r2,.int .i64 r3,.int .i64 r4,.int .i64 r5],.int .i64 p,.nilIface])) W) :
  Calls prog 132 #[.int .i64 s,.slice (some ⟨b,o,none⟩) n c,.int .i64 id] w fun x w'=>POST x w':=by
 have hLS:LS w (.slice (some ⟨b,o,none⟩) n c) ls:=.inr ⟨b,o,c,by rw[hn],by rw[hn];exact hc,hm,hb,hl⟩
 obtain⟨z1,z2,z3,z4⟩:=zAe h0;have Hh:=zDq (zAs z2);have Uv:=fun W(hW:Bw w W)=>wAr s _ ls id W (hLS.below hW) hid
 rw[Uq] at Uv;have uA:Hid (∀W,Bw w W→Calls prog 78 #[.slice (some ⟨b,o,none⟩) n c] W fun e w'=>FreshPost W ls e w'):=fun W hW=>zBu _ ls W (hLS.below hW) (by omega) (fun l hl=>by have:=zAV hl;omega) (fun l hl=>(zAf (zAs z2 l hl)).2.1)
 have Pr:n≤60:=by omega
 have MM:i<ls.length:=by omega
 obtain⟨q,rc,l0,l1,UG⟩:=hl.at MM he;obtain⟨rb,ro,hq,-,B7,dJ⟩:=zFx UG hk;subst hq;obtain⟨v0,v1,v2,v3,v4⟩:=zCn dJ hk hr;have EH:zs.length≤60:=by
  have h1:ls[i]!∈ls:=by rw[getE _ _ MM];exact jT MM
  have:=zAV h1;rw[he] at this;simp only[] at this;omega
 have hrc:zs.length≤rc∧rc≤9223372036854775807:=by
  rcases UG.sl (fun e=>by rw[e] at hk;simp at hk) with ⟨e,-⟩|⟨b',o',c',e,h1,h2,-⟩
  ·cases e
  ·cases e;exact⟨h1,h2⟩
 have Uf:Hid (ls.length=n∧ls[i]! = ⟨p,zs⟩∧i<ls.length):=⟨hn,he,MM⟩;have Hw:Hid (∀W v3,Bw w W→DL W w.heap.size v3 (zBo ls i k)→POST (.returned (.tuple #[v3,.agg #[.int .i64 r1,.int .i64 r2,.int .i64 r3,.int .i64 r4,.int .i64 r5],.int .i64 p,.nilIface])) W):=Mj;obtain⟨hrc1,hrc2⟩:=hrc;generalize mz:zs.length=m at *;have HM:Hid (zs.length=m):=mz;have SO:Hid (∀W,Bw w W→(Bw w W∧W.cell? ⟨b,o+i*2,none⟩=some (.int .i64 p)∧W.cell? ⟨b,o+i*2+1,none⟩=some (.slice (some ⟨rb,ro,none⟩) m rc)∧W.cell? ⟨rb,ro+k*5,none⟩=some (.int .i64 r1)∧W.cell? ⟨rb,ro+k*5+1,none⟩=some (.int .i64 r2)∧W.cell? ⟨rb,ro+k*5+2,none⟩=some (.int .i64 r3)∧W.cell? ⟨rb,ro+k*5+3,none⟩=some (.int .i64 r4)∧W.cell? ⟨rb,ro+k*5+4,none⟩=some (.int .i64 r5))):=fun W hW=>⟨hW,zAa hW l0,zAa hW l1,zAa hW v0,zAa hW v1,zAa hW v2,zAa hW v3,zAa hW v4⟩
 clear mz Mj hLS z1 z2 z3 z4 Hh UG dJ hl h0 Uq he hr hn MM v0 v1 v2 v3 v4 l0 l1 hid;have i0:¬((i:Int)<0):=by omega
 have i1:(i:Int)<(n:Int):=by omega
 have i4:(0:Int)≤(i:Int):=by omega
 have k0:¬((k:Int)<0):=by omega
 have k1:(k:Int)<(m:Int):=by omega
 have k4:(0:Int)≤(k:Int):=by omega
 have HI2:Hid (wrap64 ((i:Int)+1)=(i:Int)+1∧IntKind.i64.wrap ((i:Int)+1)=(i:Int)+1):=wrapSucc i (by omega)
 have Uw:Hid (wrap64 ((k:Int)+1)=(k:Int)+1∧IntKind.i64.wrap ((k:Int)+1)=(k:Int)+1):=wrapSucc k (by omega)
 go_enter func132,ntmps132;go_wp2_with fail;refine(Uv _ ((bzR _ _).alloc (nzR _) _)).mono ?_;rintro x w1⟨rfl,Hc⟩;have He:Hid (Bw w w1):=((bzR _ _).alloc (nzR _) _).trans (Hc.mono (by simp))
 have gh:w1.heap[w.heap.size]?=some (.cells #[.int .i64 0,.int .i64 0,.int .i64 0,.int .i64 0,.int .i64 0] 51 (0,0)):=by
  rw[Hc.block w.heap.size (by simp)]
  exact jA w _
 have gu:w.heap.size<w1.heap.size:=by have:=Hc.size;simp at this;omega
 clear Hc Uv;go_wp2_with fail;refine(uA.out w1 He.out).mono ?_;rintro x w2⟨v2,ps,rfl,GC,hD,Ha⟩;have Hg:Hid (Bw w w2):=He.out.trans (Ha.mono He.out.size);have gw:w2.heap[w.heap.size]?=some (.cells #[.int .i64 0,.int .i64 0,.int .i64 0,.int .i64 0,.int .i64 0] 51 (0,0)):=by
  rw[Ha.block w.heap.size gu];exact gh
 clear uA gh;obtain⟨hn,he,MM⟩:=Uf.out;have Pw:ps.length=n:=by rw[←hn,←GC,jP]
 have hip:i<ps.length:=by omega
 obtain⟨⟨⟨xp,xq,xn,xc⟩,xz⟩,hx⟩:∃x,x=ps[i]:=⟨_,rfl⟩;have G7:toL (⟨xp,xq,xn,xc⟩,xz)=⟨p,zs⟩:=by
  rw[hx,←he,getE _ _ MM];simp only[←GC,List.getElem_map]
 have Ba:p=xp:=(congrArg L.price G7).symm;have hxz:zs=xz:=(congrArg L.rests G7).symm;subst Ba;subst hxz;have cd:ps=ps.take i++(⟨p,xq,xn,xc⟩,zs)::ps.drop (i+1):=by
  rw[hx,←List.drop_eq_getElem_cons hip,jR]
 obtain⟨a,ha⟩:∃a,a=ps.take i:=⟨_,rfl⟩;obtain⟨t,ht⟩:∃t,t=ps.drop (i+1):=⟨_,rfl⟩;rw[←ha,←ht] at cd;have hai:a.length=i:=by rw[ha,jJ];omega
 rw[cd] at hD;have bD:=hD.each (⟨p,xq,xn,xc⟩,zs) (by simp)
 have hxn:m=xn:=by
  obtain⟨q',c',e⟩:=OwnM.form bD;have e' : Value.slice xq xn xc=.slice q' zs.length c':=e;simp at e';rw[e'.2.1,HM.out]
 subst hxn;have P4:=hD.own;rw[jH,jF,jK] at P4;have P2:(a.map (·.1)++(⟨p,xq,m,xc⟩:rlv.RL)::t.map (·.1)).length=n:=by
  rw[←Pw,cd];simp
 have cE:Hid (zBo ls i k=if m=1 then (a++t).map toL else a.map toL++⟨p,zs.eraseIdx k⟩::t.map toL):=by
  show _=_
  have e1:ls=a.map toL++⟨p,zs⟩::t.map toL:=by rw[←GC,cd];simp[toL]
  unfold zBo;rw[he];simp only[];rw[HM.out];rw[e1,←show (a.map toL).length=i by rw[jP,hai],zEg,zDp]
  split
  ·simp
  ·rfl
 rcases P4.2 with ⟨-,hz⟩|⟨g,off,cap,cur,e5,-,-,UM,gi,-,-⟩
 ·simp at hz
 ·rw[P2] at e5 UM;subst e5;have p9:cap≤9223372036854775807:=by simpa [maxLen] using gi
  obtain⟨-,-,c1,gB,dF,Ur⟩:=zDo P4;rw[jP,hai] at c1;simp only[] at c1;have f1:=gB (off+i*2+1);have hwg:w.heap.size≠g:=by omega
  have UQ:Hid (Deep w2 w1.heap.size (.slice (some ⟨g,off,none⟩) n cap) (a++(⟨p,xq,m,xc⟩,zs)::t)):=hD;have HAI:Hid (a.length=i):=hai;have HEX:Hid (OwnM w2 w1.heap.size 51 5 (.slice xq m xc) m (flat zs)):=by have h:OwnM w2 w1.heap.size 51 5 (.slice xq m xc) zs.length (flat zs):=bD;rwa [HM.out] at h
  have HO5:Hid (OwnM w2 w1.heap.size 54 2 (.slice (some ⟨g,off,none⟩) n cap) n (rlv.flat (a.map (·.1)++(⟨p,xq,m,xc⟩:rlv.RL)::t.map (·.1)))):=by have h:OwnM w2 w1.heap.size 54 2 _ _ _:=P4;rwa [P2] at h
  have P7:Hid (Bw w1 w2):=Ha;clear hn he MM Pw hip hx G7 cd ha ht hai bD P4 P2 gi hD gB GC Uf Ha;by_cases h1:m=1
  ·have pi:Hid (zBo ls i k=(a++t).map toL):=by show _=_;rw[cE.out,if_pos h1]
   have mU:=rlv.wAS w2 w1.heap.size g off n cap i (i+1) _ HO5.out (by omega) (by omega) (rlv.wAB _)
   rw[show (((i+1:Nat)):Int)=(i:Int)+1 by omega] at mU
   have h11:((m:Int) == 1)=true:=by simp;omega
   have h12:(m:Int)=1:=by omega
   obtain⟨i2,i3⟩:=HI2.out;go_wp2_with fail;refine mU.mono ?_;clear i2 i3 h11 h12 h1;rintro x W3⟨rfl,eS,UN⟩;have HU:Hid (Bw w W3):=Hg.out.grown UN Hg.out.size (fun k hk=>by cases hk;omega)
   have gZ:W3.heap[w.heap.size]?=some (.cells #[.int .i64 0,.int .i64 0,.int .i64 0,.int .i64 0,.int .i64 0] 51 (0,0)):=by
    rw[UN.block w.heap.size (by have:=P7.out.size;omega) (fun e=>by cases e;exact hwg rfl)];exact gw
   have mG:Hid (∀W,W3.grownBy W (some w.heap.size)→DL W w.heap.size (.slice (some ⟨g,off,none⟩) (i+(n - (i+1))) cap) (zBo ls i k)):=fun W hW=>by
    rw[pi.out];have ho:rlv.OwnQ W3 w1.heap.size (.slice (some ⟨g,off,none⟩) (i+(n - (i+1))) cap) ((a++t).map (·.1)):=by
     have e1:rlv.flat ((a++t).map (·.1))=(rlv.flat (a.map (·.1)++(⟨p,xq,m,xc⟩:rlv.RL)::t.map (·.1))).take (i*2)++(rlv.flat (a.map (·.1)++(⟨p,xq,m,xc⟩:rlv.RL)::t.map (·.1))).drop ((i+1)*2):=by
      rw[←zGJ,←zGK,←rlv.wAg,List.take_left' (by rw[jP,HAI.out]),jF]
      congr 2
      rw[show i+1=(a.map (·.1)).length+1 by rw[jP,HAI.out],List.drop_length_add_append]
      rfl
     have e2:((a++t).map (·.1)).length=i+(n - (i+1)):=by
      have h1:=HO5.out.1;rw[rlv.wAl] at h1;simp at h1 ⊢;have:=HAI.out;omega
     show OwnM _ _ _ _ _ _ _
     rw[e1,e2];exact eS
    have hd:=DeepT.delete UQ.out ho UN rfl;exact⟨_,rfl,(hd.other hW gu).mono He.out.size⟩
   clear mU eS UN cE pi UQ HEX HO5 c1 f1 gw Hg P7;have UK:=HU.out;obtain⟨e0,e1,e2,e3,e4,gB⟩:=zAi gZ;have f0:=gB 0;have f1:=gB 1;have f2:=gB 2;have f3:=gB 3;have f4:=gB 4;have HX:=zBd gZ (.int .i64 r1) (.int .i64 r2) (.int .i64 r3) (.int .i64 r4) (.int .i64 r5);have GA:Bw w (((((W3.setCell ⟨w.heap.size,0,none⟩ (.int .i64 r1)).setCell ⟨w.heap.size,1,none⟩ (.int .i64 r2)).setCell ⟨w.heap.size,2,none⟩ (.int .i64 r3)).setCell ⟨w.heap.size,3,none⟩ (.int .i64 r4)).setCell ⟨w.heap.size,4,none⟩ (.int .i64 r5)):=((((UK.setCell (nzR _) _).setCell (nzR _) _).setCell (nzR _) _).setCell (nzR _) _).setCell (nzR _) _;have Gw:=Hw.out _ _ GA (mG.out _ (zBW W3 w.heap.size (.int .i64 r1) (.int .i64 r2) (.int .i64 r3) (.int .i64 r4) (.int .i64 r5)))
   have cT:=Hw.out _ _ GA.drew (mG.out _ (wAd (zBW W3 w.heap.size (.int .i64 r1) (.int .i64 r2) (.int .i64 r3) (.int .i64 r4) (.int .i64 r5)) (wAH _ _)));have Hx:Hid ((((((W3.setCell ⟨w.heap.size,0,none⟩ (.int .i64 r1)).setCell ⟨w.heap.size,1,none⟩ (.int .i64 r2)).setCell ⟨w.heap.size,2,none⟩ (.int .i64 r3)).setCell ⟨w.heap.size,3,none⟩ (.int .i64 r4)).setCell ⟨w.heap.size,4,none⟩ (.int .i64 r5)).heap[w.heap.size]?=some (.cells #[.int .i64 r1,.int .i64 r2,.int .i64 r3,.int .i64 r4,.int .i64 r5] 51 (0,0))):=HX;clear gB Hw mG GA HX gZ;go_upto_region 8 with fail
   go_region_held3 (fun W=>Below w.heap.size w W∧W.cell? ⟨b,o+i*2,none⟩=some (.int .i64 p)∧W.cell? ⟨b,o+i*2+1,none⟩=some (.slice (some ⟨rb,ro,none⟩) m rc)∧W.cell? ⟨rb,ro+k*5,none⟩=some (.int .i64 r1)∧W.cell? ⟨rb,ro+k*5+1,none⟩=some (.int .i64 r2)∧W.cell? ⟨rb,ro+k*5+2,none⟩=some (.int .i64 r3)∧W.cell? ⟨rb,ro+k*5+3,none⟩=some (.int .i64 r4)∧W.cell? ⟨rb,ro+k*5+4,none⟩=some (.int .i64 r5))
    ((refine SO.out _ ?_;(with_reducible repeat' (first|assumption|refine bal ?_ _|refine Below.setCell ?_ ?_ _|refine Below.drew ?_|exact bzR _ _|exact nzR _|exact Below.size (by assumption)|refine jD ?_))))
    (fail)
   go_wp2_with fail;generalize (((((W3.setCell ⟨w.heap.size,0,none⟩ (.int .i64 r1)).setCell ⟨w.heap.size,1,none⟩ (.int .i64 r2)).setCell ⟨w.heap.size,2,none⟩ (.int .i64 r3)).setCell ⟨w.heap.size,3,none⟩ (.int .i64 r4)).setCell ⟨w.heap.size,4,none⟩ (.int .i64 r5))=V at *;obtain⟨y0,y1,y2,y3,y4,-⟩:=zAi Hx.out;first|exact jN (v:=.tuple #[.slice (some ⟨g,off,none⟩) (i+(n - (i+1))) cap,.agg #[.int .i64 r1,.int .i64 r2,.int .i64 r3,.int .i64 r4,.int .i64 r5],.int .i64 p,.nilIface]) (by simp[results,results132,go_sem,y0,y1,y2,y3,y4]) rfl cT|exact jN (v:=.tuple #[.slice (some ⟨g,off,none⟩) (i+(n - (i+1))) cap,.agg #[.int .i64 r1,.int .i64 r2,.int .i64 r3,.int .i64 r4,.int .i64 r5],.int .i64 p,.nilIface]) (by simp[results,results132,go_sem,y0,y1,y2,y3,y4]) rfl Gw
  ·have pi:Hid (zBo ls i k=a.map toL++⟨p,zs.eraseIdx k⟩::t.map toL):=by show _=_;rw[cE.out,if_neg h1]
   have h12:¬((m:Int)=1):=by omega
   have h11:((m:Int) == 1)=false:=by simp;omega
   rcases HEX.out.2 with ⟨e,hz⟩|⟨xg,xo,xcap,xcur,e,hxb,kf,hxcap,ke,-,-⟩
   ·omega
   ·cases e;have hxc2:xc≤9223372036854775807:=(by simpa [maxLen] using ke);have mU:=que.wAS w2 w1.heap.size xg xo m xc k (k+1) _ HEX.out (by omega) (by omega) (wAB _)
    rw[show (((k+1:Nat)):Int)=(k:Int)+1 by omega] at mU
    have hxgs:xg<w2.heap.size:=(gzE.1 kf).1;have Pd:xg≠g:=fun e=>UQ.out.far (⟨p,some ⟨xg,xo,none⟩,m,xc⟩,zs) (by simp) xg rfl (by rw[e];rfl)
    clear ke kf;obtain⟨k2,k3⟩:=Uw.out;go_wp2_with fail;refine mU.mono ?_;clear k2 k3;rintro x w3⟨rfl,eS,UN⟩;have hwg3:w.heap.size≠xg:=(by omega);have d1:w3.cell? ⟨g,off+i*2+1,none⟩=some (.slice (some ⟨xg,xo,none⟩) m xc):=by
     rw[UN.cell_far ⟨g,off+i*2+1,none⟩ Ur (fun e=>Pd (by cases e;rfl))];exact c1
    have d2:w3.frozen? ⟨g,off+i*2+1,none⟩=false:=by
     rw[World.frozen?_of_block (UN.block g Ur (fun e=>Pd (by cases e;rfl)))];exact f1
    have hgs3:g<w3.heap.size:=jC Ur UN.size;have eu:Bw w w3:=Hg.out.grown UN Hg.out.size (fun k hk=>by cases hk;omega)
    have HU:Hid (Bw w (w3.setCell ⟨g,off+i*2+1,none⟩ (.slice (some ⟨xg,xo,none⟩) (k+(m - (k+1))) xc))):=eu.setCell (by show _≤g;omega) _
    have gZ:(w3.setCell ⟨g,off+i*2+1,none⟩ (.slice (some ⟨xg,xo,none⟩) (k+(m - (k+1))) xc)).heap[w.heap.size]?=some (.cells #[.int .i64 0,.int .i64 0,.int .i64 0,.int .i64 0,.int .i64 0] 51 (0,0)):=by
     rw[heap_setCell_other _ _ _ _ hwg,UN.block w.heap.size (by have:=P7.out.size;omega) (fun e=>by cases e;exact hwg3 rfl)];exact gw
    have mG:Hid (∀W,(w3.setCell ⟨g,off+i*2+1,none⟩ (.slice (some ⟨xg,xo,none⟩) (k+(m - (k+1))) xc)).grownBy W (some w.heap.size)→DL W w.heap.size (.slice (some ⟨g,off,none⟩) n cap) (zBo ls i k)):=fun W hW=>by
     rw[pi.out];have ho:OwnQ w3 w1.heap.size (.slice (some ⟨xg,xo,none⟩) (k+(m - (k+1))) xc) (zs.eraseIdx k):=by
      have e1:flat (zs.eraseIdx k)=(flat zs).take (k*5)++(flat zs).drop ((k+1)*5):=by
       rw[List.eraseIdx_eq_take_drop_succ,wAg,zJF,zJG]
      have e2:(zs.eraseIdx k).length=k+(m - (k+1)):=by
       rw[List.length_eraseIdx_of_lt (by rw[HM.out];exact hk),HM.out];omega
      show OwnM _ _ _ _ _ _ _
      rw[e1,e2];exact eS
     have hd:=DeepT.swap UQ.out UN ho (.inl rfl);rw[HAI.out] at hd;rw[show a.map toL++(⟨p,zs.eraseIdx k⟩:L)::t.map toL=(a++(((⟨p,some ⟨xg,xo,none⟩,k+(m - (k+1)),xc⟩:rlv.RL),zs.eraseIdx k):RP)::t).map toL by simp[toL]]
     exact⟨_,rfl,(hd.other hW gu).mono He.out.size⟩
    clear mU eS cE pi UQ HEX HO5 c1 f1 gw Hg P7 eu;go_upto_region 8 with fail
    generalize w3.setCell ⟨g,off+i*2+1,none⟩ (.slice (some ⟨xg,xo,none⟩) (k+(m - (k+1))) xc)=W3 at *;clear UN d1 d2 hgs3;have UK:=HU.out;obtain⟨e0,e1,e2,e3,e4,gB⟩:=zAi gZ;have f0:=gB 0;have f1:=gB 1;have f2:=gB 2;have f3:=gB 3;have f4:=gB 4;have HX:=zBd gZ (.int .i64 r1) (.int .i64 r2) (.int .i64 r3) (.int .i64 r4) (.int .i64 r5);have GA:Bw w (((((W3.setCell ⟨w.heap.size,0,none⟩ (.int .i64 r1)).setCell ⟨w.heap.size,1,none⟩ (.int .i64 r2)).setCell ⟨w.heap.size,2,none⟩ (.int .i64 r3)).setCell ⟨w.heap.size,3,none⟩ (.int .i64 r4)).setCell ⟨w.heap.size,4,none⟩ (.int .i64 r5)):=((((UK.setCell (nzR _) _).setCell (nzR _) _).setCell (nzR _) _).setCell (nzR _) _).setCell (nzR _) _;have Gw:=Hw.out _ _ GA (mG.out _ (zBW W3 w.heap.size (.int .i64 r1) (.int .i64 r2) (.int .i64 r3) (.int .i64 r4) (.int .i64 r5)))
    have cT:=Hw.out _ _ GA.drew (mG.out _ (wAd (zBW W3 w.heap.size (.int .i64 r1) (.int .i64 r2) (.int .i64 r3) (.int .i64 r4) (.int .i64 r5)) (wAH _ _)));have Hx:Hid ((((((W3.setCell ⟨w.heap.size,0,none⟩ (.int .i64 r1)).setCell ⟨w.heap.size,1,none⟩ (.int .i64 r2)).setCell ⟨w.heap.size,2,none⟩ (.int .i64 r3)).setCell ⟨w.heap.size,3,none⟩ (.int .i64 r4)).setCell ⟨w.heap.size,4,none⟩ (.int .i64 r5)).heap[w.heap.size]?=some (.cells #[.int .i64 r1,.int .i64 r2,.int .i64 r3,.int .i64 r4,.int .i64 r5] 51 (0,0))):=HX;clear gB Hw mG GA HX gZ
    go_region_held3 (fun W=>Below w.heap.size w W∧W.cell? ⟨b,o+i*2,none⟩=some (.int .i64 p)∧W.cell? ⟨b,o+i*2+1,none⟩=some (.slice (some ⟨rb,ro,none⟩) m rc)∧W.cell? ⟨rb,ro+k*5,none⟩=some (.int .i64 r1)∧W.cell? ⟨rb,ro+k*5+1,none⟩=some (.int .i64 r2)∧W.cell? ⟨rb,ro+k*5+2,none⟩=some (.int .i64 r3)∧W.cell? ⟨rb,ro+k*5+3,none⟩=some (.int .i64 r4)∧W.cell? ⟨rb,ro+k*5+4,none⟩=some (.int .i64 r5))
     ((refine SO.out _ ?_;(with_reducible repeat' (first|assumption|refine bal ?_ _|refine Below.setCell ?_ ?_ _|refine Below.drew ?_|exact bzR _ _|exact nzR _|exact Below.size (by assumption)|refine jD ?_))))
     (fail)
    go_wp2_with fail;generalize (((((W3.setCell ⟨w.heap.size,0,none⟩ (.int .i64 r1)).setCell ⟨w.heap.size,1,none⟩ (.int .i64 r2)).setCell ⟨w.heap.size,2,none⟩ (.int .i64 r3)).setCell ⟨w.heap.size,3,none⟩ (.int .i64 r4)).setCell ⟨w.heap.size,4,none⟩ (.int .i64 r5))=V at *;obtain⟨y0,y1,y2,y3,y4,-⟩:=zAi Hx.out;first|exact jN (v:=.tuple #[.slice (some ⟨g,off,none⟩) n cap,.agg #[.int .i64 r1,.int .i64 r2,.int .i64 r3,.int .i64 r4,.int .i64 r5],.int .i64 p,.nilIface]) (by simp[results,results132,go_sem,y0,y1,y2,y3,y4]) rfl cT|exact jN (v:=.tuple #[.slice (some ⟨g,off,none⟩) n cap,.agg #[.int .i64 r1,.int .i64 r2,.int .i64 r3,.int .i64 r4,.int .i64 r5],.int .i64 p,.nilIface]) (by simp[results,results132,go_sem,y0,y1,y2,y3,y4]) rfl Gw
theorem zIA(s:Int)(v:Value)(ls:List L)(id:Int)(w:World)(h:LS w v ls)(hid:(Lit.int .i64 id).wf=true) :
  Calls prog 132 #[.int .i64 s,v,.int .i64 id] w fun x w'=>DropPost s ls id w x w':=by
 by_cases h0:zAF s ls id=0
 ·obtain⟨hs,i,k,hi,hk,e1,e2⟩:=zDb h0;have Uq:zBl s ls id=.tuple #[.int .i64 i,.int .i64 k,.nilIface]:=by unfold zBl;rw[e2,h0,wAa]
  rcases h with ⟨rfl,rfl⟩|⟨b,o,c,rfl,h2,h3,h4,h5⟩
  ·simp at hi
  ·obtain⟨l,hl⟩:∃l,ls[i]! = l:=⟨_,rfl⟩;obtain⟨p,zs⟩:=l;have Gh:ls[i]=⟨p,zs⟩:=by rw[←hl,getE _ _ hi]
   have Gg:k<zs.length:=by rw[Gh] at hk;exact hk
   obtain⟨r,hr⟩:∃r,zs[k]! = r:=⟨_,rfl⟩;obtain⟨r1,r2,r3,r4,r5⟩:=r;refine zLJ s b o c ls.length ls id i k p zs r1 r2 r3 r4 r5 w rfl h4 h2 h3 h5 hid hs Uq hi hl Gg hr (DropPost s ls id w) (fun W v3 hW hL=>⟨hW,v3,?_,?_⟩)
   ·unfold zDd zCr;rw[if_pos h0,if_pos h0,e2,h0,wAa];simp only[Int.toNat_natCast];rw[hl];simp only[];rw[hr];rfl
   ·unfold zLI;rw[if_pos h0,e2];simp only[Int.toNat_natCast];exact hL
 ·obtain⟨q,m,c,rfl⟩:=zFz h;exact zOp s q m c ls id w h hid h0
end sid
namespace bok
open Go.RowKit spn que sid
def WiPost(s:Int)(bs ss ls:List L)(b0:Nat)(w:World)(e:Ending)(w' : World):Prop:=
 ∃q1 q2 n1 n2 c1 c2,e=.returned (.agg #[.slice q1 n1 c1,.slice q2 n2 c2])∧DL w' b0 (.slice q1 n1 c1) (if s=1 then ls else bs)∧DL w' b0 (.slice q2 n2 c2) (if s=1 then ss else ls)∧Bw w w'
theorem zCG(s:Int)(q1 q2 q3:Option Addr)(n1 n2 n3 c1 c2 c3:Nat)(bs ss ls:List L)(b0:Nat)(w:World)(h1:LS w (.slice q1 n1 c1) bs)(h2:LS w (.slice q2 n2 c2) ss)(h3:DL w b0 (.slice q3 n3 c3) ls)(Up:b0≤w.heap.size)(k1:schk 1 bs=0)(k2:schk 2 ss=0) :
  Calls prog 83 #[.agg #[.slice q1 n1 c1,.slice q2 n2 c2],.int .i64 s,.slice q3 n3 c3] w fun e w'=>WiPost s bs ss ls b0 w e w':=by
 have Hh:∀ {t:Int}{xs:List L},schk t xs=0→xs.length≤1000∧(∀l∈xs,l.rests.length≤1000):=fun {t xs} hk=>by
  obtain⟨-,z2,z3,-⟩:=zAe hk;have:=zDq (zAs z2);exact⟨by omega,fun l hl=>by have:=zAV hl;omega⟩
 have G9:Hid (∀W,Bw w W→Calls prog 78 #[.slice q1 n1 c1] W fun e w'=>FreshPost W bs e w'):=fun W hW=>zBu _ bs W (h1.below hW) (Hh k1).1 (Hh k1).2 (zBg k1)
 have uW:Hid (∀W,Bw w W→Calls prog 78 #[.slice q2 n2 c2] W fun e w'=>FreshPost W ss e w'):=fun W hW=>zBu _ ss W (h2.below hW) (Hh k2).1 (Hh k2).2 (zBg k2)
 have H3:Hid (DL w b0 (.slice q3 n3 c3) ls):=h3;obtain⟨V,hV⟩:∃V,V=(w.alloc (.cells #[.slice q1 n1 c1,.slice q2 n2 c2] 57)).alloc (.cells #[.slice none 0 0,.slice none 0 0] 57):=⟨_,rfl⟩;have HB:Hid (Bw w V):=by rw[hV];exact((bzR _ _).alloc (nzR _) _).alloc (by simp) _
 have v0:V.cell? ⟨w.heap.size,0,none⟩=some (.slice q1 n1 c1):=by rw[hV];simp[go_sem]
 have v1:V.cell? ⟨w.heap.size,1,none⟩=some (.slice q2 n2 c2):=by rw[hV];simp[go_sem]
 have hR:V.heap[w.heap.size+1]?=some (.cells #[.slice none 0 0,.slice none 0 0] 57 (0,0)):=by
  rw[hV];have:=jA (w.alloc (.cells #[.slice q1 n1 c1,.slice q2 n2 c2] 57)) (.cells #[.slice none 0 0,.slice none 0 0] 57);simpa using this
 have gp:w.heap.size+1<V.heap.size:=(gzE.1 hR).1;clear h1 h2 h3 k1 k2 Hh;by_cases hs:s=1
 ·subst hs;have HP:Hid (∀W q m c,Bw w W→DL W b0 (.slice q m c) ss→DL W b0 (.slice q3 n3 c3) ls→WiPost 1 bs ss ls b0 w (.returned (.agg #[.slice q3 n3 c3,.slice q m c])) W):=fun W q m c hW ha hb=>⟨q3,q,n3,m,c3,c,rfl,by rw[if_pos rfl];exact hb,by rw[if_pos rfl];exact ha,hW⟩
  generalize WiPost 1 bs ss ls b0 w=POST at *;go_enter func83,ntmps83;go_wp2_with fail;rw[←hV];refine(uW.out V HB.out).mono ?_;rintro e w1⟨v',ps,rfl,GC,hD,b1⟩;obtain⟨q',c',gU⟩:=OwnM.form hD.own;generalize (ps.map (·.1)++([]:List rlv.RL)).length=m' at gU;subst gU;have Gd:Bw w w1:=HB.out.trans (b1.mono HB.out.size);have gh:w1.heap[w.heap.size+1]?=some (.cells #[.slice none 0 0,.slice none 0 0] 57 (0,0)):=by rw[b1.block _ gp];exact hR
  obtain⟨e0,e1,hf⟩:=zAb gh;have f0:=hf 0;have f1:=hf 1;have HX:=zAz gh (.slice q3 n3 c3) (.slice q' m' c');have hg:=zAT w1 (w.heap.size+1) (.slice q3 n3 c3) (.slice q' m' c');have pO:DL _ b0 _ _:=⟨ps,GC,(hD.other hg gp).mono (jM Up HB.out.size)⟩;have Gw:=HP.out _ q' m' c' (Gd.grown hg Gd.size (fun k hk=>by cases hk;omega)) pO (zIo H3.out Gd hg (by omega))
  have Hx:Hid (((w1.setCell ⟨w.heap.size+1,0,none⟩ (.slice q3 n3 c3)).setCell ⟨w.heap.size+1,1,none⟩ (.slice q' m' c')).heap[w.heap.size+1]?=some (.cells #[.slice q3 n3 c3,.slice q' m' c'] 57 (0,0))):=HX;clear hD GC Gd gh hf HX hg pO HP G9 uW b1 hR v0 v1;go_wp2_with fail;generalize (w1.setCell ⟨w.heap.size+1,0,none⟩ (.slice q3 n3 c3)).setCell ⟨w.heap.size+1,1,none⟩ (.slice q' m' c')=X at *;obtain⟨y0,y1,-⟩:=zAb Hx.out;exact jN (v:=.agg #[.slice q3 n3 c3,.slice q' m' c']) (by simp[results,results83,go_sem,y0,y1]) rfl Gw
 ·have Hl:(s == 1)=false:=by simpa using hs
  have HP:Hid (∀W q m c,Bw w W→DL W b0 (.slice q m c) bs→DL W b0 (.slice q3 n3 c3) ls→WiPost s bs ss ls b0 w (.returned (.agg #[.slice q m c,.slice q3 n3 c3])) W):=fun W q m c hW ha hb=>⟨q,q3,m,n3,c,c3,rfl,by rw[if_neg hs];exact ha,by rw[if_neg hs];exact hb,hW⟩
  generalize WiPost s bs ss ls b0 w=POST at *;go_enter func83,ntmps83;go_wp2_with fail;rw[←hV];refine(G9.out V HB.out).mono ?_;rintro e w1⟨v',ps,rfl,GC,hD,b1⟩;obtain⟨q',c',gU⟩:=OwnM.form hD.own;generalize (ps.map (·.1)++([]:List rlv.RL)).length=m' at gU;subst gU;have Gd:Bw w w1:=HB.out.trans (b1.mono HB.out.size);have gh:w1.heap[w.heap.size+1]?=some (.cells #[.slice none 0 0,.slice none 0 0] 57 (0,0)):=by rw[b1.block _ gp];exact hR
  obtain⟨e0,e1,hf⟩:=zAb gh;have f0:=hf 0;have f1:=hf 1;have HX:=zAz gh (.slice q' m' c') (.slice q3 n3 c3);have hg:=zAT w1 (w.heap.size+1) (.slice q' m' c') (.slice q3 n3 c3);have pO:DL _ b0 _ _:=⟨ps,GC,(hD.other hg gp).mono (jM Up HB.out.size)⟩;have Gw:=HP.out _ q' m' c' (Gd.grown hg Gd.size (fun k hk=>by cases hk;omega)) pO (zIo H3.out Gd hg (by omega))
  have Hx:Hid (((w1.setCell ⟨w.heap.size+1,0,none⟩ (.slice q' m' c')).setCell ⟨w.heap.size+1,1,none⟩ (.slice q3 n3 c3)).heap[w.heap.size+1]?=some (.cells #[.slice q' m' c',.slice q3 n3 c3] 57 (0,0))):=HX;clear hD GC Gd gh hf HX hg pO HP G9 uW b1 hR v0 v1;go_wp2_with fail;generalize (w1.setCell ⟨w.heap.size+1,0,none⟩ (.slice q' m' c')).setCell ⟨w.heap.size+1,1,none⟩ (.slice q3 n3 c3)=X at *;obtain⟨y0,y1,-⟩:=zAb Hx.out;exact jN (v:=.agg #[.slice q' m' c',.slice q3 n3 c3]) (by simp[results,results83,go_sem,y0,y1]) rfl Gw
end bok
end Go.Proofs.YtnfilcpnneckkaaGreat
