import Derived.Test.YtifjhlgjgnnnpaaGreatSidWith2
import Derived.Deep.RegionHeld3
import Derived.Deep.RegionLaw
import Derived.Test.YtifjhlgjgnnnpaaGreatSidIns2
import Derived.Lib.SlicesDelete
set_option maxHeartbeats 4000000
set_option maxRecDepth 100000
namespace Go.Proofs.YtifjhlgjgnnnpaaGreat
namespace sid
open Go.RowKit spn que Go.Maps
open tickP (errB zAm zAz zBt betR zAT)
def addE(s:Int)(ls:List L)(p:Int)(r:R):Int:=
 if schk s ls=0 then (if zAm p=true then (if rchk r=0 then (if r.id∈ids ls then 7 else if cnt ls=60 then 4 else 0) else rchk r) else 1) else schk s ls
def addL(s:Int)(ls:List L)(p:Int)(r:R):List L:=if addE s ls p r=0 then putL s p r ls else []
def AddPost(s:Int)(ls:List L)(p:Int)(r:R)(w:World)(x:Ending)(w' : World):Prop:=
 Below w.heap.size w w'∧∃v',x=.returned (.tuple #[v',errV (addE s ls p r)])∧DL w' w.heap.size v' (addL s ls p r)
theorem zNy{s:Int}{ls:List L}{p:Int}{r:R}{k:Int}(h:addE s ls p r=k)(hk:¬k=0):addL s ls p r=[]:=by unfold addL;rw[h,if_neg hk]
theorem zFn{s:Int}{ls:List L}{p:Int}{r:R}{w W:World}{k:Int}(h:addE s ls p r=k)(hk:¬k=0)(hW:Below w.heap.size w W):AddPost s ls p r w (.returned (.tuple #[.slice none 0 0,.iface 91 (.int .i64 k)])) W:=by
 refine⟨hW,_,?_,by rw[zNy h hk];exact zED _ _⟩
 rw[h,errV_of hk]
theorem add_in(s:Int)(vq:Option Addr)(vm vc:Nat)(ls:List L)(p:Int)(a b c d e:Int)(w V0:World)(hV0:V0=w.alloc (.cells #[.int .i64 a,.int .i64 b,.int .i64 c,.int .i64 d,.int .i64 e] 54))(HLS:Hid (∀W,Below w.heap.size w W→LS W (.slice vq vm vc) ls))(h0:schk s ls=0)(hp:zAm p=true)(hr:rchk ⟨a,b,c,d,e⟩=0)(hkey:keyOf Tryz.prog 3 (.int .i64 a)=some (.int .i64 a)) :
  Calls Tryz.prog 121 #[.int .i64 s,.slice vq vm vc,.int .i64 p,.agg #[.int .i64 a,.int .i64 b,.int .i64 c,.int .i64 d,.int .i64 e]] w fun x w'=>AddPost s ls p ⟨a,b,c,d,e⟩ w x w':=by
 have hB0:Below w.heap.size w V0:=by rw[hV0];exact(bzR _ _).alloc (nzR _) _
 have hR0:V0.heap[w.heap.size]?=some (.cells #[.int .i64 a,.int .i64 b,.int .i64 c,.int .i64 d,.int .i64 e] 54 (0,0)):=by rw[hV0];exact jA w _
 have hcon:=zCa s _ ls V0 (HLS.out V0 hB0)
 have HB0:Hid (Below w.heap.size w V0):=hB0
 have x0:V0.cell? ⟨w.heap.size,0,none⟩=some (.int .i64 a):=by simp[World.cell?,hR0]
 have x1:V0.cell? ⟨w.heap.size,1,none⟩=some (.int .i64 b):=by simp[World.cell?,hR0]
 have x2:V0.cell? ⟨w.heap.size,2,none⟩=some (.int .i64 c):=by simp[World.cell?,hR0]
 have x3:V0.cell? ⟨w.heap.size,3,none⟩=some (.int .i64 d):=by simp[World.cell?,hR0]
 have x4:V0.cell? ⟨w.heap.size,4,none⟩=some (.int .i64 e):=by simp[World.cell?,hR0]
 have hsz0:w.heap.size<V0.heap.size:=(gzE.1 hR0).1
 have HPL:Hid (∀x w',PlacesPost s ls V0 x w'→Below V0.heap.size V0 w'∧∃B,x=.returned (.tuple #[.map (some B),.nilIface])∧Own w' B (flatP 0 ls)):=fun x w' hp=>by
  obtain⟨h1,⟨h2,_⟩|⟨_,B,_,h3,h4⟩⟩:=hp
  ·exact absurd h0 h2
  ·exact⟨h1,B,h3,h4⟩
 have HPR:=fun W=>zAT W p W (bzR _ _)
 rw[hp] at HPR
 simp only[show errB true=.nilIface from rfl] at HPR
 have HRE:=fun W=>zCX a b c d e W
 rw[hr,errV_zero] at HRE
 have hh:=zHC (flatP 0 ls) a
 have ha:=zKb (flatP 0 ls) a
 have HPOST:Hid (∀W k,addE s ls p ⟨a,b,c,d,e⟩=k→¬k=0→Below w.heap.size w W→AddPost s ls p ⟨a,b,c,d,e⟩ w (.returned (.tuple #[.slice none 0 0,.iface 91 (.int .i64 k)])) W):=fun W k h1 h2 h3=>zFn h1 h2 h3
 obtain⟨z1,z2,z3,z4⟩:=zAc h0
 have HE1:Hid (¬zAB (flatP 0 ls) a=none→addE s ls p ⟨a,b,c,d,e⟩=7):=fun h=>by unfold addE;rw[if_pos h0,if_pos hp,if_pos hr,if_pos (zFU.2 h)]
 have HE2:Hid (zAB (flatP 0 ls) a=none→cnt ls=60→addE s ls p ⟨a,b,c,d,e⟩=4):=fun h h6=>by unfold addE;rw[if_pos h0,if_pos hp,if_pos hr,if_neg (fun hh=>zFU.1 hh h),if_pos h6]
 have HE3:Hid (zAB (flatP 0 ls) a=none→¬cnt ls=60→addE s ls p ⟨a,b,c,d,e⟩=0):=fun h h6=>by unfold addE;rw[if_pos h0,if_pos hp,if_pos hr,if_neg (fun hh=>zFU.1 hh h),if_neg h6]
 have HFINE:Hid (∀W v',Below w.heap.size w W→addE s ls p ⟨a,b,c,d,e⟩=0→DL W w.heap.size v' (putL s p ⟨a,b,c,d,e⟩ ls)→AddPost s ls p ⟨a,b,c,d,e⟩ w (.returned (.tuple #[v',.nilIface])) W):=fun W v' h1 h2 h3=>⟨h1,v',by rw[h2];rfl,by unfold addL;rw[if_pos h2];exact h3⟩
 have hlen:=zCQ (zAs z2)
 have HWITH:Hid (∀W,Below w.heap.size w W→Calls Tryz.prog 140 #[.int .i64 s,.slice vq vm vc,.int .i64 p] W fun e w'=>WithPost s p ls W e w'):=fun W hW=>zFm s p _ ls W (HLS.out W hW) (by omega) (fun l hl=>by have:=zAR hl;omega) (fun l hl=>(zAg (zAs z2 l hl)).2.1)
 have hsn:=zHB z4
 generalize AddPost s ls p ⟨a,b,c,d,e⟩ w=POST at *
 have HLEN:Hid (∀W B,Own W B (flatP 0 ls)→W.ownsMap Tryz.prog 3 plR B (flatP 0 ls).length (mapD (flatP 0 ls))∧Maps.size (mapD (flatP 0 ls))=zDZ ls):=fun W B h=>⟨h,rfl⟩
 have HZ3:Hid (∀aa zs bb,putL s p ⟨a,b,c,d,e⟩ ls=aa++(⟨p,zs++[⟨a,b,c,d,e⟩]⟩:L)::bb→zs.length≤60):=fun aa zs bb hput=>by
  have h1:=zPy s p ⟨a,b,c,d,e⟩ ls
  have h2:(⟨p,zs++[⟨a,b,c,d,e⟩]⟩:L)∈putL s p ⟨a,b,c,d,e⟩ ls:=by rw[hput];simp
  have h3:=zAR h2
  simp at h3
  omega
 clear h0 hp hr hB0 hR0 z1 z2 z3 z4 hlen
 cases hl:zAB (flatP 0 ls) a with
 | some t=>
  have HXE:Hid (addE s ls p ⟨a,b,c,d,e⟩=7):=HE1.out (by rw[hl];simp)
  rw[hl] at hh ha
  simp only[Option.isSome_some,Option.getD_some] at hh ha
  obtain⟨t1,t2,t3⟩:=t
  simp only[] at hh ha
  clear hl HE1 HE2 HE3 HFINE HWITH hsn HZ3
  go_enter Tryz.func121,Tryz.ntmps121
  go_wp2_with fail
  rw[←hV0]
  refine hcon.mono ?_
  rintro x w1 hp
  obtain⟨h1,B,rfl,hO⟩:=HPL.out _ _ hp
  have H1:Hid (Below V0.heap.size V0 w1):=h1
  have HO:Hid (Own w1 B (flatP 0 ls)):=hO
  clear hcon HPL hp h1 hO
  go_wp2_with fail
  refine(HPR w1).mono ?_
  rintro x w2⟨rfl,h2⟩
  have H2:Hid (Below w1.heap.size w1 w2):=h2
  have y0:=zAa h2 (zAa H1.out x0)
  have y1:=zAa h2 (zAa H1.out x1)
  have y2:=zAa h2 (zAa H1.out x2)
  have y3:=zAa h2 (zAa H1.out x3)
  have y4:=zAa h2 (zAa H1.out x4)
  have hs2:w.heap.size<w2.heap.size:=jC hsz0 (jM H1.out.size h2.size)
  clear HPR h2 x0 x1 x2 x3 x4
  go_wp2_with fail
  refine(HRE w2).mono ?_
  rintro x w3⟨rfl,h3⟩
  have H3:Hid (Below w.heap.size w w3):=(HB0.out.trans ((H1.out.trans ((H2.out.trans (h3.mono H2.out.size)).mono H1.out.size)).mono HB0.out.size))
  have y0':=zAa h3 y0
  have hs3:w.heap.size<w3.heap.size:=jC hs2 h3.size
  obtain⟨hown,-⟩:=HLEN.out _ _ ((HO.out.below H2.out).below h3)
  have HXX:Hid (∀o,POST (.returned (.tuple #[.slice none 0 0,.iface 91 (.int .i64 7)])) (w3.alloc o)):=fun o=>HPOST.out _ 7 HXE.out (by omega) (H3.out.alloc H3.out.size _)
  clear HRE h3 y0 y1 y2 y3 y4 HPOST
  go_wp2_with (at_lookup;refine zBo _ rfl _ _ 120 rfl 3 181 lawI Tryz.underlying120 (zFR _) B _ _ rfl hown _ _ rfl hkey _ _ _ ha hh ?_)
  exact HXX.out _
 | none=>
  rw[hl] at hh ha
  simp only[Option.isSome_none,Option.getD_none] at hh ha
  have HEa:Hid (cnt ls=60→addE s ls p ⟨a,b,c,d,e⟩=4):=fun h=>HE2.out hl h
  have HEb:Hid (¬cnt ls=60→addE s ls p ⟨a,b,c,d,e⟩=0):=fun h=>HE3.out hl h
  clear hl HE1 HE2 HE3
  generalize zDZ ls=z at *
  generalize cnt ls=T at *
  go_enter Tryz.func121,Tryz.ntmps121
  go_wp2_with fail
  rw[←hV0]
  refine hcon.mono ?_
  rintro x w1 hp
  obtain⟨h1,B,rfl,hO⟩:=HPL.out _ _ hp
  have H1:Hid (Below V0.heap.size V0 w1):=h1
  have HO:Hid (Own w1 B (flatP 0 ls)):=hO
  clear hcon HPL hp h1 hO
  go_wp2_with fail
  refine(HPR w1).mono ?_
  rintro x w2⟨rfl,h2⟩
  have H2:Hid (Below w1.heap.size w1 w2):=h2
  have y0:=zAa h2 (zAa H1.out x0)
  have y1:=zAa h2 (zAa H1.out x1)
  have y2:=zAa h2 (zAa H1.out x2)
  have y3:=zAa h2 (zAa H1.out x3)
  have y4:=zAa h2 (zAa H1.out x4)
  have hs2:w.heap.size<w2.heap.size:=jC hsz0 (jM H1.out.size h2.size)
  clear HPR h2 x0 x1 x2 x3 x4
  go_wp2_with fail
  refine(HRE w2).mono ?_
  rintro x w3⟨rfl,h3⟩
  have H3:Hid (Below w.heap.size w w3):=(HB0.out.trans ((H1.out.trans ((H2.out.trans (h3.mono H2.out.size)).mono H1.out.size)).mono HB0.out.size))
  have u0:=zAa h3 y0
  have u1:=zAa h3 y1
  have u2:=zAa h3 y2
  have u3:=zAa h3 y3
  have u4:=zAa h3 y4
  have hs3:w.heap.size<w3.heap.size:=jC hs2 h3.size
  obtain⟨hown,hsz⟩:=HLEN.out _ _ ((HO.out.below H2.out).below h3)
  have hown2:=fun o=>World.ownsMap.alloc hown o
  clear HRE h3 y0 y1 y2 y3 y4
  by_cases h6:T=60
  ·have HXX:Hid (∀o,POST (.returned (.tuple #[.slice none 0 0,.iface 91 (.int .i64 4)])) (w3.alloc o)):=fun o=>HPOST.out _ 4 (HEa.out h6) (by omega) (H3.out.alloc H3.out.size _)
   have hz6:(z:Int)=60:=by omega
   have hz60:z=60:=by omega
   subst hz60
   clear HPOST hz6 h6 hsn
   go_wp2_with (first|(at_lookup;refine zBo _ rfl _ _ 120 rfl 3 181 lawI Tryz.underlying120 (zFR _) B _ _ rfl hown _ _ rfl hkey _ _ _ ha hh ?_)|(at_len;refine wpList_len_own _ rfl _ 120 rfl 3 181 Tryz.underlying120 plR B _ _ rfl (hown2 _) ?_;rw[hsz]))
   exact HXX.out _
  ·have hz6:¬((z:Int)=60):=by omega
   have hz60:¬(z=60):=by omega
   have hz61:((z:Int) == 60)=false:=by simp;omega
   have HB4:Hid (∀o,Below w.heap.size w (w3.alloc o)):=fun o=>H3.out.alloc H3.out.size _
   have HE0:=HEb.out h6
   clear HPOST hsn h6 HEa HEb
   go_wp2_with (first|(at_lookup;refine zBo _ rfl _ _ 120 rfl 3 181 lawI Tryz.underlying120 (zFR _) B _ _ rfl hown _ _ rfl hkey _ _ _ ha hh ?_)|(at_len;refine wpList_len_own _ rfl _ 120 rfl 3 181 Tryz.underlying120 plR B _ _ rfl (hown2 _) ?_;rw[hsz]))
   have HBA:Hid (Below w3.heap.size w3 (w3.alloc (.cells #[.int .i64 0,.int .i64 0] 181))):=(bzR _ _).alloc (nzR _) _
   have HB44:=HB4.out (.cells #[.int .i64 0,.int .i64 0] 181)
   generalize w3.alloc (.cells #[.int .i64 0,.int .i64 0] 181)=W4 at *
   refine(HWITH.out W4 HB44).mono ?_
   rintro x w5⟨v5,aa,⟨⟨xp,xq,xn,xc⟩,zs⟩,bb,rfl,hD,hxp,hput,hB5⟩
   simp only[] at hxp hput
   have hzl:zs.length≤60:=HZ3.out _ _ _ (hput _)
   have hex:=hD.each (⟨xp,xq,xn,xc⟩,zs) (by simp)
   have hxn:xn=zs.length:=by
    obtain⟨q',c',e⟩:=OwnM.form hex
    have e' : Value.slice xq xn xc=.slice q' zs.length c':=e
    simp at e'
    exact e'.2.1
   subst hxn
   subst hxp
   have ho5:=hD.own
   rw[jH,jF,jK] at ho5
   rcases ho5.2 with ⟨-,hz⟩|⟨g,off,cap,cur,e5,-,-,hcap,hcm,-,-⟩
   ·simp at hz
   ·rw[show (aa.map (·.1)++(⟨xp,xq,zs.length,xc⟩:rlv.RL)::bb.map (·.1)).length=(aa++(((⟨xp,xq,zs.length,xc⟩:rlv.RL),zs):RP)::bb).length by simp] at e5 hcap
    subst e5
    have hcap2:cap≤9223372036854775807:=by simpa [maxLen] using hcm
    obtain⟨-,-,c1,hfr,hgb,hgs⟩:=zDn ho5
    rw[jP] at c1
    have f1:=hfr (off+aa.length*2+1)
    have hkn:aa.length<(aa++(((⟨xp,xq,zs.length,xc⟩:rlv.RL),zs):RP)::bb).length:=by simp
    have t0:=zAa hB5 (zAa HBA.out u0)
    have t1:=zAa hB5 (zAa HBA.out u1)
    have t2:=zAa hB5 (zAa HBA.out u2)
    have t3:=zAa hB5 (zAa HBA.out u3)
    have t4:=zAa hB5 (zAa HBA.out u4)
    have hw4:w.heap.size<W4.heap.size:=jC hs3 HBA.out.size
    have hs5:w.heap.size<w5.heap.size:=jC hw4 hB5.size
    obtain⟨i0,hi,hz0,hz1,hz2⟩:=infoR'
    have HI:Hid (Tryz.prog.info? 54=some i0):=hi
    have OV:Hid (OwnM w5 W4.heap.size 54 5 (.slice xq zs.length xc) zs.length (flat zs)):=hex
    have HDW:Hid (∀W W' q' c',Below w5.heap.size w5 W→W.grownBy W' (Value.slice xq zs.length xc).ownBlock→OwnM W' W4.heap.size 54 5 (.slice q' (zs.length+1) c') (zs.length+1) (flat zs++[.int .i64 a,.int .i64 b,.int .i64 c,.int .i64 d,.int .i64 e])→((Value.slice q' (zs.length+1) c').ownBlock=(Value.slice xq zs.length xc).ownBlock∨(Value.slice q' (zs.length+1) c').ownBlock=some W.heap.size)→POST (.returned (.tuple #[.slice (some ⟨g,off,none⟩) (aa++(((⟨xp,xq,zs.length,xc⟩:rlv.RL),zs):RP)::bb).length cap,.nilIface])) (W'.setCell ⟨g,off+aa.length*2+1,none⟩ (.slice q' (zs.length+1) c'))):=fun W W' q' c' hW hg hO hat=>by
     have hDW:=hD.below hW
     have hO2:OwnQ W' W4.heap.size (.slice q' (zs.length+1) c') (zs++[⟨a,b,c,d,e⟩]):=by
      show OwnM _ _ _ _ _ _ _
      rw[flat_append,jE];exact hO
     have hsw:=DeepT.swap hDW hg hO2 (hat.imp id (fun e=>⟨_,e,nzR _⟩))
     have hlt:∀k,(Value.slice xq zs.length xc).ownBlock=some k→W4.heap.size≤k:=fun k hk=>(OwnM.lt hex k hk).1
     have hBW:Below W4.heap.size W4 W:=hB5.trans (hW.mono hB5.size)
     have hBW' : Below W4.heap.size W4 W':=hBW.grown hg hBW.size hlt
     refine HFINE.out _ _ (HB44.trans (((hBW'.setCell hgb _)).mono HB44.size)) HE0 ?_
     rw[hput,show aa.map toL++(⟨xp,zs++[⟨a,b,c,d,e⟩]⟩:L)::bb.map toL=(aa++(((⟨xp,q',zs.length+1,c'⟩:rlv.RL),zs++[⟨a,b,c,d,e⟩]):RP)::bb).map toL by simp[toL]]
     exact⟨_,rfl,hsw.mono HB44.size⟩
    have hxlt:∀k,(Value.slice xq zs.length xc).ownBlock=some k→W4.heap.size≤k∧k<w5.heap.size:=fun k hk=>OwnM.lt hex k hk
    have hxg:(Value.slice xq zs.length xc).ownBlock≠some g:=fun e=>hD.far (⟨xp,xq,zs.length,xc⟩,zs) (by simp) g e rfl
    clear hD hput hi hex ho5 HWITH HFINE HZ3 HE0 hfr hcm hown hown2 hsz ha hh hkey HLEN u0 u1 u2 u3 u4
    generalize hkk:aa.length=k at *
    generalize hnn:(aa++(((⟨xp,xq,zs.length,xc⟩:rlv.RL),zs):RP)::bb).length=n at *
    clear hkk hnn
    have hk0:¬((k:Int)<0):=by omega
    have hk3:(k:Int)<(n:Int):=by omega
    have hk6:(0:Int)≤(k:Int):=by omega
    have HB5:Hid (Below W4.heap.size W4 w5):=hB5
    have SO:Hid (∀W,Below w5.heap.size w5 W→(Below W4.heap.size W4 W∧W.cell? ⟨g,off+k*2+1,none⟩=some (.slice xq zs.length xc)∧W.frozen? ⟨g,off+k*2+1,none⟩=false∧W.cell? ⟨w.heap.size,0,none⟩=some (.int .i64 a)∧W.cell? ⟨w.heap.size,1,none⟩=some (.int .i64 b)∧W.cell? ⟨w.heap.size,2,none⟩=some (.int .i64 c)∧W.cell? ⟨w.heap.size,3,none⟩=some (.int .i64 d)∧W.cell? ⟨w.heap.size,4,none⟩=some (.int .i64 e))):=fun W hW=>⟨HB5.out.trans (hW.mono HB5.out.size),zAa hW c1,(hW.frozen (p:=⟨g,off+k*2+1,none⟩) hgs).trans f1,zAa hW t0,zAa hW t1,zAa hW t2,zAa hW t3,zAa hW t4⟩
    have SG:Hid (∀W W',Below w5.heap.size w5 W→W.grownBy W' (Value.slice xq zs.length xc).ownBlock→(Below W4.heap.size W4 W'∧W'.cell? ⟨g,off+k*2+1,none⟩=some (.slice xq zs.length xc)∧W'.frozen? ⟨g,off+k*2+1,none⟩=false∧W'.cell? ⟨w.heap.size,0,none⟩=some (.int .i64 a)∧W'.cell? ⟨w.heap.size,1,none⟩=some (.int .i64 b)∧W'.cell? ⟨w.heap.size,2,none⟩=some (.int .i64 c)∧W'.cell? ⟨w.heap.size,3,none⟩=some (.int .i64 d)∧W'.cell? ⟨w.heap.size,4,none⟩=some (.int .i64 e))):=fun W W' hW hg=>by
     have hBW:Below W4.heap.size W4 W:=HB5.out.trans (hW.mono HB5.out.size)
     have hgW:g<W.heap.size:=jC hgs hW.size
     have hwW:w.heap.size<W.heap.size:=jC hs5 hW.size
     have hne:some g≠(Value.slice xq zs.length xc).ownBlock:=fun e=>hxg e.symm
     have hnw:some w.heap.size≠(Value.slice xq zs.length xc).ownBlock:=fun e=>by have:=(hxlt _ e.symm).1;omega
     refine⟨hBW.grown hg hBW.size (fun k hk=>(hxlt k hk).1),?_,?_,?_,?_,?_,?_,?_⟩
     ·rw[hg.cell_far ⟨g,off+k*2+1,none⟩ hgW hne];exact zAa hW c1
     ·rw[World.frozen?_of_block (hg.block g hgW hne)];exact(hW.frozen (p:=⟨g,off+k*2+1,none⟩) hgs).trans f1
     ·rw[hg.cell_far ⟨w.heap.size,0,none⟩ hwW hnw];exact zAa hW t0
     ·rw[hg.cell_far ⟨w.heap.size,1,none⟩ hwW hnw];exact zAa hW t1
     ·rw[hg.cell_far ⟨w.heap.size,2,none⟩ hwW hnw];exact zAa hW t2
     ·rw[hg.cell_far ⟨w.heap.size,3,none⟩ hwW hnw];exact zAa hW t3
     ·rw[hg.cell_far ⟨w.heap.size,4,none⟩ hwW hnw];exact zAa hW t4
    have hszV:W4.heap.size≤w5.heap.size:=HB5.out.size
    clear hB5 hxlt hxg
    go_upto_region 16 with fail
    go_region_law (refine step_append_mid _ rfl _ _ 50 rfl W4.heap.size 54 i0 zeroR 5 40 Tryz.underlying50 HI.out hz0 hz1 hz2 rfl (.slice xq zs.length xc) zs.length (flat zs) rfl (OwnM.below OV.out (by(with_reducible repeat' (first|assumption|refine bal ?_ _|refine Below.setCell ?_ ?_ _|refine Below.drew ?_|exact bzR _ _|exact nzR _|exact Below.size (by assumption)|refine jD ?_)))) _ 1 1 [.int .i64 a,.int .i64 b,.int .i64 c,.int .i64 d,.int .i64 e] rfl rfl (World.news_of_block (cs:=#[.int .i64 a,.int .i64 b,.int .i64 c,.int .i64 d,.int .i64 e]) (jA _ _)) (by simp[Value.oneCell']) (by unfold maxLen;omega) (by omega) (jM hszV (Below.size (w:=w5) (B:=w5.heap.size) (by(with_reducible repeat' (first|assumption|refine bal ?_ _|refine Below.setCell ?_ ?_ _|refine Below.drew ?_|exact bzR _ _|exact nzR _|exact Below.size (by assumption)|refine jD ?_))))) ?_;intro v' w' hO' hgr hat;have hS1:=SG.out _ _ (by(with_reducible repeat' (first|assumption|refine bal ?_ _|refine Below.setCell ?_ ?_ _|refine Below.drew ?_|exact bzR _ _|exact nzR _|exact Below.size (by assumption)|refine jD ?_))) hgr;obtain⟨q',c',rfl⟩:=OwnM.form hO';have hPX:=HDW.out _ _ _ _ (by(with_reducible repeat' (first|assumption|refine bal ?_ _|refine Below.setCell ?_ ?_ _|refine Below.drew ?_|exact bzR _ _|exact nzR _|exact Below.size (by assumption)|refine jD ?_))) hgr hO' hat;have hS9:=hS1;obtain⟨hS2,hS3,hS4,-⟩:=hS1)
    all_goals
     go_wp2_with fail
     exact hPX
theorem add_ok(s:Int)(vq:Option Addr)(vm vc:Nat)(ls:List L)(p:Int)(a b c d e:Int)(w V0:World)(hV0:V0=w.alloc (.cells #[.int .i64 a,.int .i64 b,.int .i64 c,.int .i64 d,.int .i64 e] 54))(h:LS w (.slice vq vm vc) ls)(h0:schk s ls=0) :
  Calls Tryz.prog 121 #[.int .i64 s,.slice vq vm vc,.int .i64 p,.agg #[.int .i64 a,.int .i64 b,.int .i64 c,.int .i64 d,.int .i64 e]] w fun x w'=>AddPost s ls p ⟨a,b,c,d,e⟩ w x w':=by
 have hB0:Below w.heap.size w V0:=by rw[hV0];exact(bzR _ _).alloc (nzR _) _
 have hR0:V0.heap[w.heap.size]?=some (.cells #[.int .i64 a,.int .i64 b,.int .i64 c,.int .i64 d,.int .i64 e] 54 (0,0)):=by rw[hV0];exact jA w _
 have hcon:=zCa s _ ls V0 (h.below hB0)
 have HB0:Hid (Below w.heap.size w V0):=hB0
 have HLS:Hid (∀W,Below w.heap.size w W→LS W (.slice vq vm vc) ls):=fun W hW=>h.below hW
 have x0:V0.cell? ⟨w.heap.size,0,none⟩=some (.int .i64 a):=by simp[World.cell?,hR0]
 have x1:V0.cell? ⟨w.heap.size,1,none⟩=some (.int .i64 b):=by simp[World.cell?,hR0]
 have x2:V0.cell? ⟨w.heap.size,2,none⟩=some (.int .i64 c):=by simp[World.cell?,hR0]
 have x3:V0.cell? ⟨w.heap.size,3,none⟩=some (.int .i64 d):=by simp[World.cell?,hR0]
 have x4:V0.cell? ⟨w.heap.size,4,none⟩=some (.int .i64 e):=by simp[World.cell?,hR0]
 have HPL:Hid (∀x w',PlacesPost s ls V0 x w'→Below V0.heap.size V0 w'∧∃B,x=.returned (.tuple #[.map (some B),.nilIface])∧Own w' B (flatP 0 ls)):=fun x w' hp=>by
  obtain⟨h1,⟨h2,_⟩|⟨_,B,_,h3,h4⟩⟩:=hp
  ·exact absurd h0 h2
  ·exact⟨h1,B,h3,h4⟩
 have HPR:=fun W hW=>zAT V0 p W hW
 clear hB0 hR0 h
 cases hp:zAm p
 ·rw[hp] at HPR
  simp only[show errB false=.iface 91 (.int .i64 1) from rfl] at HPR
  have HX:Hid (∀W,Below w.heap.size w W→AddPost s ls p ⟨a,b,c,d,e⟩ w (.returned (.tuple #[.slice none 0 0,.iface 91 (.int .i64 1)])) W):=fun W hW=>zFn (by unfold addE;rw[if_pos h0,if_neg (by simp[hp])]) (by omega) hW
  generalize AddPost s ls p ⟨a,b,c,d,e⟩ w=POST at *
  clear h0 hp x0 x1 x2 x3 x4
  go_enter Tryz.func121,Tryz.ntmps121
  go_wp2_with fail
  rw[←hV0]
  refine hcon.mono ?_
  rintro x w1 hp
  obtain⟨h1,B,rfl,hO⟩:=HPL.out _ _ hp
  have H1:Hid (Below V0.heap.size V0 w1):=h1
  clear hcon HPL hp h1 hO
  go_wp2_with fail
  refine(HPR w1 H1.out).mono ?_
  rintro x w2⟨rfl,h2⟩
  have HXX:=HX.out w2 (HB0.out.trans (h2.mono HB0.out.size))
  clear HPR h2 HX
  go_wp2_with fail
  exact HXX
 ·rw[hp] at HPR
  simp only[show errB true=.nilIface from rfl] at HPR
  have HRE:=fun W=>zCX a b c d e W
  by_cases hr:rchk ⟨a,b,c,d,e⟩=0
  ·rw[hr,errV_zero] at HRE
   have hkey:keyOf Tryz.prog 3 (.int .i64 a)=some (.int .i64 a):=keyOf_int_mk Tryz.underlying3 (wf_id (r:=⟨a,b,c,d,e⟩) hr)
   exact add_in s vq vm vc ls p a b c d e w V0 hV0 HLS h0 hp hr hkey
  ·rw[errV_of hr] at HRE
   have HX:Hid (∀W,Below w.heap.size w W→AddPost s ls p ⟨a,b,c,d,e⟩ w (.returned (.tuple #[.slice none 0 0,.iface 91 (.int .i64 (rchk ⟨a,b,c,d,e⟩))])) W):=fun W hW=>zFn (by unfold addE;rw[if_pos h0,if_pos hp,if_neg hr]) hr hW
   generalize AddPost s ls p ⟨a,b,c,d,e⟩ w=POST at *
   generalize rchk ⟨a,b,c,d,e⟩=k at *
   clear h0 hp hr
   go_enter Tryz.func121,Tryz.ntmps121
   go_wp2_with fail
   rw[←hV0]
   refine hcon.mono ?_
   rintro x w1 hp
   obtain⟨h1,B,rfl,hO⟩:=HPL.out _ _ hp
   have H1:Hid (Below V0.heap.size V0 w1):=h1
   clear hcon HPL hp h1 hO
   go_wp2_with fail
   refine(HPR w1 H1.out).mono ?_
   rintro x w2⟨rfl,h2⟩
   have H2:Hid (Below V0.heap.size V0 w2):=h2
   have y0:=zAa h2 x0
   have y1:=zAa h2 x1
   have y2:=zAa h2 x2
   have y3:=zAa h2 x3
   have y4:=zAa h2 x4
   clear HPR h2 x0 x1 x2 x3 x4
   go_wp2_with fail
   refine(HRE w2).mono ?_
   rintro x w3⟨rfl,h3⟩
   have HXX:=HX.out w3 (HB0.out.trans ((H2.out.trans (h3.mono H2.out.size)).mono HB0.out.size))
   clear HRE h3 HX y0 y1 y2 y3 y4
   go_wp2_with fail
   exact HXX
theorem zDr(s:Int)(v:Value)(ls:List L)(p:Int)(a b c d e:Int)(w:World)(h:LS w v ls) :
  Calls Tryz.prog 121 #[.int .i64 s,v,.int .i64 p,.agg #[.int .i64 a,.int .i64 b,.int .i64 c,.int .i64 d,.int .i64 e]] w fun x w'=>AddPost s ls p ⟨a,b,c,d,e⟩ w x w':=by
 obtain⟨V0,hV0⟩:∃V0,V0=w.alloc (.cells #[.int .i64 a,.int .i64 b,.int .i64 c,.int .i64 d,.int .i64 e] 54):=⟨_,rfl⟩
 have hB0:Below w.heap.size w V0:=by rw[hV0];exact(bzR _ _).alloc (nzR _) _
 obtain⟨vq,vm,vc,rfl⟩:=zFb h
 have hcon:=zCa s _ ls V0 (h.below hB0)
 have HB0:Hid (Below w.heap.size w V0):=hB0
 by_cases h0:schk s ls=0
 ·exact add_ok s vq vm vc ls p a b c d e w V0 hV0 h h0
 ·have HPL:Hid (∀x w',PlacesPost s ls V0 x w'→Below V0.heap.size V0 w'∧x=.returned (.tuple #[.map none,.iface 91 (.int .i64 (schk s ls))])):=fun x w' hp=>by
   obtain⟨h1,⟨_,h3⟩|⟨h2,_⟩⟩:=hp
   ·rw[errV_of h0] at h3;exact⟨h1,h3⟩
   ·exact absurd h2 h0
  have HX:Hid (∀W,Below w.heap.size w W→AddPost s ls p ⟨a,b,c,d,e⟩ w (.returned (.tuple #[.slice none 0 0,.iface 91 (.int .i64 (schk s ls))])) W):=fun W hW=>zFn (by unfold addE;rw[if_neg h0]) h0 hW
  generalize AddPost s ls p ⟨a,b,c,d,e⟩ w=POST at *
  generalize schk s ls=k at HPL HX
  clear h0 h hB0
  go_enter Tryz.func121,Tryz.ntmps121
  go_wp2_with fail
  rw[←hV0]
  refine hcon.mono ?_
  rintro x w1 hp
  obtain⟨h1,rfl⟩:=HPL.out _ _ hp
  have HXX:=HX.out w1 (HB0.out.trans (h1.mono HB0.out.size))
  clear hcon HPL hp h1 HX
  go_wp2_with fail
  exact HXX
end sid
namespace rlv
open Go.RowKit spn que sid
theorem zeroVR(w:World):(zeroValue 52).run Tryz.prog w=.ok zeroR w:=by kernel_rfl
theorem delete_own(w:World)(base g off n c i j:Nat)(xs:List Value)(ho:OwnM w base 52 2 (.slice (some ⟨g,off,none⟩) n c) n xs)(hij:i<j)(hj:j≤n)(h1x:∀u∈xs,u.oneCell'=true) :
  Calls Tryz.prog 149 #[.slice (some ⟨g,off,none⟩) n c,.int .i64 i,.int .i64 j] w fun e w'=>e=.returned (.slice (some ⟨g,off,none⟩) (i+(n - j)) c)∧OwnM w' base 52 2 (.slice (some ⟨g,off,none⟩) (i+(n - j)) c) (i+(n - j)) (xs.take (i*2)++xs.drop (j*2))∧w.grownBy w' (some g):=by
 obtain⟨hxl,hbg,⟨cur,hcur,hcs⟩,hnc,hcm,hrg,hth⟩:=own_range ho
 have hc63:c≤9223372036854775807:=by simpa [maxLen] using hcm
 obtain⟨i0,hi0,hz0,hz1,hz2⟩:=rlv.infoR'
 have hdl:(xs.drop (j*2)).length=(n - j)*2:=by rw[jQ,hxl];omega
 have htl:(xs.take (i*2)).length=i*2:=by rw[jJ,hxl];omega
 have hx1:xs=xs.take (i*2)++xs.drop (i*2):=(jR _ _).symm
 have hx2:xs=xs.take (j*2)++xs.drop (j*2):=(jR _ _).symm
 have hr1:w.rangeAt g off (xs.take (i*2)):=by rw[hx1] at hrg;exact range_left hrg
 have hr2:w.rangeAt g (off+j*2) (xs.drop (j*2)):=by
  rw[hx2] at hrg;have:=range_right hrg;rwa [jJ,hxl,Nat.min_eq_left (by omega)] at this
 have hthX:∀o k,o+k≤c*2→w.there g (off+o) k:=fun o k hk q hq=>by rw[Nat.add_assoc];exact hth (o+q) (by omega)
 obtain⟨news,hnews⟩:∃news,news=xs.drop (j*2):=⟨_,rfl⟩
 obtain⟨A,hA,hsrc⟩:∃A:Addr,(if c=j then some (⟨g,off,none⟩:Addr) else some ⟨g,off+j*2,none⟩)=some A∧Hid (∀t u,news[t]?=some u→w.drew.cell? (A.add t)=some u):=by
  by_cases h:c=j
  ·refine⟨⟨g,off,none⟩,by simp[h],fun t u hu=>?_⟩
   have h0:news.length=0:=by rw[hnews,hdl];omega
   rw[List.length_eq_zero_iff.1 h0] at hu
   simp at hu
  ·refine⟨⟨g,off+j*2,none⟩,by simp[h],fun t u hu=>?_⟩
   rw[Addr.add_lit]
   rw[hnews] at hu
   exact hr2 t u hu
 have s1:Hid (news.length=(n - j)*2):=by show _=_;rw[hnews,hdl]
 have s2:Hid (∀u∈news,u.oneCell'=true):=fun u hu=>h1x u (List.mem_of_mem_drop (by rw[hnews] at hu;exact hu))
 have s3:Hid (∀t,t<news.length→(w.drew.cell? ⟨g,off+i*2+t,none⟩).isSome=true∧w.drew.frozen? ⟨g,off+i*2+t,none⟩=false):=fun t ht=>by
  have ht2:t<(n - j)*2:=by rw[hnews,hdl] at ht;exact ht
  exact hthX (i*2) ((n - j)*2) (by omega) t ht2
 obtain⟨W1,hW1⟩:∃W1,W1=w.drew.setCells g (off+i*2) news:=⟨_,rfl⟩
 have hth1:∀o k,o+k≤c*2→W1.there g (off+o) k:=fun o k hk=>by rw[hW1];exact World.there_setCells ((World.there_drew _ _ _ _).2 (hthX o k hk)) _ _ _
 have hcl:∀ty,(Builtin.clear_ #[44] ty #[.slice (some ⟨g,off+(i+(n - j))*2,none⟩) (n - (i+(n - j))) (c - (i+(n - j)))]).run Tryz.prog W1=.ok (.tuple #[]) (W1.setCells g (off+(i+(n - j))*2) (Builtin.zeroCells zeroR.cells (n - (i+(n - j)))).toList):=
  fun ty=>run_clear_wide W1 _ _ ty zeroR 2 Tryz.underlying44 zeroVR rfl (by simp[zeroR,Value.cells,Value.oneCell']) g _ _ _ (by omega) (hth1 _ _ (by omega))
 have HPOST:Hid (OwnM (W1.setCells g (off+(i+(n - j))*2) (Builtin.zeroCells zeroR.cells (n - (i+(n - j)))).toList) base 52 2 (.slice (some ⟨g,off,none⟩) (i+(n - j)) c) (i+(n - j)) (xs.take (i*2)++xs.drop (j*2))∧w.grownBy (W1.setCells g (off+(i+(n - j))*2) (Builtin.zeroCells zeroR.cells (n - (i+(n - j)))).toList) (some g)):=by
  obtain⟨cur1,hb1,hs1⟩:=setCells_blk g 52 (0,0) news (off+i*2) w.drew cur hcur
  rw[←hW1] at hb1
  obtain⟨cur2,hb2,hs2⟩:=setCells_blk g 52 (0,0) (Builtin.zeroCells zeroR.cells (n - (i+(n - j)))).toList (off+(i+(n - j))*2) W1 cur1 hb1
  refine⟨own_of ?_ hbg hb2 (by rw[hs2,hs1];exact hcs) (by omega) hcm ?_,?_⟩
  ·rw[jE,htl,hdl];omega
  ·refine range_append ?_ ?_
   ·refine World.rangeAt_setCells_apart ?_ _ _ _ (.inr (.inl (by rw[htl];omega)))
    rw[hW1]
    exact World.rangeAt_setCells_apart ((World.rangeAt_drew _ _ _ _).2 hr1) _ _ _ (.inr (.inl (by rw[htl];omega)))
   ·rw[htl]
    refine World.rangeAt_setCells_apart ?_ _ _ _ (.inr (.inl (by rw[hdl];omega)))
    rw[hW1,hnews]
    exact World.rangeAt_setCells_same _ _ _ _ ((World.there_drew _ _ _ _).2 (hthX _ _ (by rw[hdl];omega)))
  ·rw[hW1]
   exact gr_trans (gr_trans (gr_drew _ _) (gr_setCells g _ _ _)) (gr_setCells g _ _ _)
 have hW:Hid (W1=w.drew.setCells g (off+i*2) news):=hW1
 obtain⟨W2,hW2⟩:∃W2,W2=W1.setCells g (off+(i+(n - j))*2) (Builtin.zeroCells zeroR.cells (n - (i+(n - j)))).toList:=⟨_,rfl⟩
 rw[←hW2] at HPOST
 simp only[←hW2] at hcl
 clear hW2
 have hic:i≤c:=by omega
 have hjc:j≤c:=by omega
 have hne:¬((i:Int)=(j:Int)):=by omega
 have hne2:¬(i=j):=by omega
 clear hW1 ho hxl hcur hcs hrg hth hdl htl hx1 hx2 hr1 hr2 hthX hth1 hnews h1x hcm hbg hz0 hz2
 go_enter Tryz.func149,Tryz.ntmps149
 go_wp2_with fail
 go_region_law (refine step_append_room rfl (.tmp 22) (.tmp 25) 44 rfl 52 i0 2 Tryz.underlying44 hi0 hz1 g off i c (by simp[Act.eval,Act.put]) A (n - j) (c - j) news (by simp[Act.eval,Act.put]) s1.out hsrc.out s2.out (by omega) s3.out ?_;rw[←hW.out])
 go_wp2
 go_ret
 exact⟨rfl,HPOST.out⟩
end rlv
namespace que
open Go.RowKit spn que sid
theorem zeroVR(w:World):(zeroValue 54).run Tryz.prog w=.ok zeroR w:=by kernel_rfl
theorem delete_own(w:World)(base g off n c i j:Nat)(xs:List Value)(ho:OwnM w base 54 5 (.slice (some ⟨g,off,none⟩) n c) n xs)(hij:i<j)(hj:j≤n)(h1x:∀u∈xs,u.oneCell'=true) :
  Calls Tryz.prog 150 #[.slice (some ⟨g,off,none⟩) n c,.int .i64 i,.int .i64 j] w fun e w'=>e=.returned (.slice (some ⟨g,off,none⟩) (i+(n - j)) c)∧OwnM w' base 54 5 (.slice (some ⟨g,off,none⟩) (i+(n - j)) c) (i+(n - j)) (xs.take (i*5)++xs.drop (j*5))∧w.grownBy w' (some g):=by
 obtain⟨hxl,hbg,⟨cur,hcur,hcs⟩,hnc,hcm,hrg,hth⟩:=own_range ho
 have hc63:c≤9223372036854775807:=by simpa [maxLen] using hcm
 obtain⟨i0,hi0,hz0,hz1,hz2⟩:=que.infoR'
 have hdl:(xs.drop (j*5)).length=(n - j)*5:=by rw[jQ,hxl];omega
 have htl:(xs.take (i*5)).length=i*5:=by rw[jJ,hxl];omega
 have hx1:xs=xs.take (i*5)++xs.drop (i*5):=(jR _ _).symm
 have hx2:xs=xs.take (j*5)++xs.drop (j*5):=(jR _ _).symm
 have hr1:w.rangeAt g off (xs.take (i*5)):=by rw[hx1] at hrg;exact range_left hrg
 have hr2:w.rangeAt g (off+j*5) (xs.drop (j*5)):=by
  rw[hx2] at hrg;have:=range_right hrg;rwa [jJ,hxl,Nat.min_eq_left (by omega)] at this
 have hthX:∀o k,o+k≤c*5→w.there g (off+o) k:=fun o k hk q hq=>by rw[Nat.add_assoc];exact hth (o+q) (by omega)
 obtain⟨news,hnews⟩:∃news,news=xs.drop (j*5):=⟨_,rfl⟩
 obtain⟨A,hA,hsrc⟩:∃A:Addr,(if c=j then some (⟨g,off,none⟩:Addr) else some ⟨g,off+j*5,none⟩)=some A∧Hid (∀t u,news[t]?=some u→w.drew.cell? (A.add t)=some u):=by
  by_cases h:c=j
  ·refine⟨⟨g,off,none⟩,by simp[h],fun t u hu=>?_⟩
   have h0:news.length=0:=by rw[hnews,hdl];omega
   rw[List.length_eq_zero_iff.1 h0] at hu
   simp at hu
  ·refine⟨⟨g,off+j*5,none⟩,by simp[h],fun t u hu=>?_⟩
   rw[Addr.add_lit]
   rw[hnews] at hu
   exact hr2 t u hu
 have s1:Hid (news.length=(n - j)*5):=by show _=_;rw[hnews,hdl]
 have s2:Hid (∀u∈news,u.oneCell'=true):=fun u hu=>h1x u (List.mem_of_mem_drop (by rw[hnews] at hu;exact hu))
 have s3:Hid (∀t,t<news.length→(w.drew.cell? ⟨g,off+i*5+t,none⟩).isSome=true∧w.drew.frozen? ⟨g,off+i*5+t,none⟩=false):=fun t ht=>by
  have ht2:t<(n - j)*5:=by rw[hnews,hdl] at ht;exact ht
  exact hthX (i*5) ((n - j)*5) (by omega) t ht2
 obtain⟨W1,hW1⟩:∃W1,W1=w.drew.setCells g (off+i*5) news:=⟨_,rfl⟩
 have hth1:∀o k,o+k≤c*5→W1.there g (off+o) k:=fun o k hk=>by rw[hW1];exact World.there_setCells ((World.there_drew _ _ _ _).2 (hthX o k hk)) _ _ _
 have hcl:∀ty,(Builtin.clear_ #[50] ty #[.slice (some ⟨g,off+(i+(n - j))*5,none⟩) (n - (i+(n - j))) (c - (i+(n - j)))]).run Tryz.prog W1=.ok (.tuple #[]) (W1.setCells g (off+(i+(n - j))*5) (Builtin.zeroCells zeroR.cells (n - (i+(n - j)))).toList):=
  fun ty=>run_clear_wide W1 _ _ ty zeroR 5 Tryz.underlying50 zeroVR rfl (by simp[zeroR,Value.cells,Value.oneCell']) g _ _ _ (by omega) (hth1 _ _ (by omega))
 have HPOST:Hid (OwnM (W1.setCells g (off+(i+(n - j))*5) (Builtin.zeroCells zeroR.cells (n - (i+(n - j)))).toList) base 54 5 (.slice (some ⟨g,off,none⟩) (i+(n - j)) c) (i+(n - j)) (xs.take (i*5)++xs.drop (j*5))∧w.grownBy (W1.setCells g (off+(i+(n - j))*5) (Builtin.zeroCells zeroR.cells (n - (i+(n - j)))).toList) (some g)):=by
  obtain⟨cur1,hb1,hs1⟩:=setCells_blk g 54 (0,0) news (off+i*5) w.drew cur hcur
  rw[←hW1] at hb1
  obtain⟨cur2,hb2,hs2⟩:=setCells_blk g 54 (0,0) (Builtin.zeroCells zeroR.cells (n - (i+(n - j)))).toList (off+(i+(n - j))*5) W1 cur1 hb1
  refine⟨own_of ?_ hbg hb2 (by rw[hs2,hs1];exact hcs) (by omega) hcm ?_,?_⟩
  ·rw[jE,htl,hdl];omega
  ·refine range_append ?_ ?_
   ·refine World.rangeAt_setCells_apart ?_ _ _ _ (.inr (.inl (by rw[htl];omega)))
    rw[hW1]
    exact World.rangeAt_setCells_apart ((World.rangeAt_drew _ _ _ _).2 hr1) _ _ _ (.inr (.inl (by rw[htl];omega)))
   ·rw[htl]
    refine World.rangeAt_setCells_apart ?_ _ _ _ (.inr (.inl (by rw[hdl];omega)))
    rw[hW1,hnews]
    exact World.rangeAt_setCells_same _ _ _ _ ((World.there_drew _ _ _ _).2 (hthX _ _ (by rw[hdl];omega)))
  ·rw[hW1]
   exact gr_trans (gr_trans (gr_drew _ _) (gr_setCells g _ _ _)) (gr_setCells g _ _ _)
 have hW:Hid (W1=w.drew.setCells g (off+i*5) news):=hW1
 obtain⟨W2,hW2⟩:∃W2,W2=W1.setCells g (off+(i+(n - j))*5) (Builtin.zeroCells zeroR.cells (n - (i+(n - j)))).toList:=⟨_,rfl⟩
 rw[←hW2] at HPOST
 simp only[←hW2] at hcl
 clear hW2
 have hic:i≤c:=by omega
 have hjc:j≤c:=by omega
 have hne:¬((i:Int)=(j:Int)):=by omega
 have hne2:¬(i=j):=by omega
 clear hW1 ho hxl hcur hcs hrg hth hdl htl hx1 hx2 hr1 hr2 hthX hth1 hnews h1x hcm hbg hz0 hz2
 go_enter Tryz.func150,Tryz.ntmps150
 go_wp2_with fail
 go_region_law (refine step_append_room rfl (.tmp 22) (.tmp 25) 50 rfl 54 i0 5 Tryz.underlying50 hi0 hz1 g off i c (by simp[Act.eval,Act.put]) A (n - j) (c - j) news (by simp[Act.eval,Act.put]) s1.out hsrc.out s2.out (by omega) s3.out ?_;rw[←hW.out])
 go_wp2
 go_ret
 exact⟨rfl,HPOST.out⟩
end que
namespace sid
open Go.RowKit spn que Go.Maps
theorem zIU(zs:List R)(i:Nat):flat (zs.take i)=(flat zs).take (i*5):=by
 induction zs generalizing i with
 | nil=>simp[flat]
 | cons r t ih=>
  cases i with
  | zero=>simp[flat]
  | succ i=>rw[List.take_succ_cons,flat_cons,flat_cons,ih,show (i+1)*5=(rV r).length+i*5 by show _=5+i*5;omega,List.take_length_add_append]
theorem zIV(zs:List R)(i:Nat):flat (zs.drop i)=(flat zs).drop (i*5):=by
 induction zs generalizing i with
 | nil=>simp[flat]
 | cons r t ih=>
  cases i with
  | zero=>simp
  | succ i=>rw[List.drop_succ_cons,flat_cons,ih,show (i+1)*5=(rV r).length+i*5 by show _=5+i*5;omega,List.drop_length_add_append]
theorem DeepT.delete{w w' : World}{base:Nat}{v v' : Value}{a:List RP}{x:RP}{b:List RP}(h:Deep w base v (a++x::b))(ho:rlv.OwnQ w' base v' ((a++b).map (·.1)))(hg:w.grownBy w' v.ownBlock)(hv:v'.ownBlock=v.ownBlock):Deep w' base v' (a++b):=by
 have hm:∀y∈a++b,y∈a++x::b:=fun y hy=>by
  rcases List.mem_append.1 hy with hy|hy <;>simp[hy]
 refine⟨by rw[jH];exact ho,fun y hy=>zAj (h.each y (hm y hy)) hg (fun z hz=>h.far y (hm y hy) z hz),?_,fun y hy z hz=>by rw[hv];exact h.far y (hm y hy) z hz⟩
 obtain⟨p1,p2,p3⟩:=List.pairwise_append.1 h.apart
 exact List.pairwise_append.2 ⟨p1,(List.pairwise_cons.1 p2).2,fun y hy z hz=>p3 y hy z (by simp[hz])⟩
def zKQ(s:Int)(ls:List L)(id:Int):List L:=if zAE s ls id=0 then zBq ls (zBk s ls id).1.toNat (zBk s ls id).2.toNat else []
def zDf(s:Int)(ls:List L)(id:Int):R:=if zAE s ls id=0 then ls[(zBk s ls id).1.toNat]!.rests[(zBk s ls id).2.toNat]! else ⟨0,0,0,0,0⟩
def zCx(s:Int)(ls:List L)(id:Int):Int:=if zAE s ls id=0 then ls[(zBk s ls id).1.toNat]!.price else 0
def DropPost(s:Int)(ls:List L)(id:Int)(w:World)(x:Ending)(w' : World):Prop:=
 Below w.heap.size w w'∧∃v',x=.returned (.tuple #[v',.agg (rV (zDf s ls id)).toArray,.int .i64 (zCx s ls id),errV (zAE s ls id)])∧DL w' w.heap.size v' (zKQ s ls id)
theorem zNz(s:Int)(vq:Option Addr)(vm vc:Nat)(ls:List L)(id:Int)(w:World)(h:LS w (.slice vq vm vc) ls)(hid:(Lit.int .i64 id).wf=true)(h0:¬zAE s ls id=0) :
  Calls Tryz.prog 130 #[.int .i64 s,.slice vq vm vc,.int .i64 id] w fun x w'=>DropPost s ls id w x w':=by
 have HC:=fun W(hW:Below w.heap.size w W)=>find_any s _ ls id W (h.below hW) hid
 have hf:zBj s ls id=.tuple #[.int .i64 0,.int .i64 0,.iface 91 (.int .i64 (zAE s ls id))]:=by
  unfold zBj zBk;rw[if_neg h0,errV_of h0]
 rw[hf] at HC
 have HP:Hid (∀W,Below w.heap.size w W→DropPost s ls id w (.returned (.tuple #[.slice none 0 0,.agg #[.int .i64 0,.int .i64 0,.int .i64 0,.int .i64 0,.int .i64 0],.int .i64 0,.iface 91 (.int .i64 (zAE s ls id))])) W):=fun W hW=>by
  refine⟨hW,.slice none 0 0,?_,?_⟩
  ·unfold zDf zCx;rw[if_neg h0,if_neg h0,errV_of h0];rfl
  ·unfold zKQ;rw[if_neg h0];exact zED _ _
 generalize DropPost s ls id w=POST at *
 generalize zAE s ls id=k at *
 clear h hid h0 hf
 go_enter Tryz.func130,Tryz.ntmps130
 go_wp2_with fail
 refine(HC _ ((bzR _ _).alloc (nzR _) _)).mono ?_
 rintro x w1⟨rfl,hb1⟩
 have hB:Below w.heap.size w w1:=((bzR _ _).alloc (nzR _) _).trans (hb1.mono (by simp))
 have hR1:w1.heap[w.heap.size]?=some (.cells #[.int .i64 0,.int .i64 0,.int .i64 0,.int .i64 0,.int .i64 0] 54 (0,0)):=by
  rw[hb1.block w.heap.size (by simp)]
  exact jA w _
 clear hb1 HC
 obtain⟨c0,c1,c2,c3,c4,hf⟩:=zAe hR1
 have f0:=hf 0
 have f1:=hf 1
 have f2:=hf 2
 have f3:=hf 3
 have f4:=hf 4
 clear hf
 have HX:=zAV hR1 (.int .i64 0) (.int .i64 0) (.int .i64 0) (.int .i64 0) (.int .i64 0)
 have HBX:Below w.heap.size w (((((w1.setCell ⟨w.heap.size,0,none⟩ (.int .i64 0)).setCell ⟨w.heap.size,1,none⟩ (.int .i64 0)).setCell ⟨w.heap.size,2,none⟩ (.int .i64 0)).setCell ⟨w.heap.size,3,none⟩ (.int .i64 0)).setCell ⟨w.heap.size,4,none⟩ (.int .i64 0)):=((((hB.setCell (nzR _) _).setCell (nzR _) _).setCell (nzR _) _).setCell (nzR _) _).setCell (nzR _) _
 go_wp2_with fail
 generalize (((((w1.setCell ⟨w.heap.size,0,none⟩ (.int .i64 0)).setCell ⟨w.heap.size,1,none⟩ (.int .i64 0)).setCell ⟨w.heap.size,2,none⟩ (.int .i64 0)).setCell ⟨w.heap.size,3,none⟩ (.int .i64 0)).setCell ⟨w.heap.size,4,none⟩ (.int .i64 0))=V at *
 obtain⟨d0,d1,d2,d3,d4,-⟩:=zAe HX
 clear HX
 exact jN (v:=.tuple #[.slice none 0 0,.agg #[.int .i64 0,.int .i64 0,.int .i64 0,.int .i64 0,.int .i64 0],.int .i64 0,.iface 91 (.int .i64 k)]) (by simp[results,Tryz.results130,go_sem,d0,d1,d2,d3,d4]) rfl (HP.out V HBX)
end sid
end Go.Proofs.YtifjhlgjgnnnpaaGreat
