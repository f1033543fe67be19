import Derived.Test.YtnjpjieedgmffaaGreatDoorSidWith2
import Derived.Deep.RegionHeld3
import Derived.Deep.RegionLaw
namespace Go.Proofs.YtnjpjieedgmffaaGreatDoor.sid
open Go.RowKit spn que Go.Maps
open tickP (errB priceB sideB betOk betR tprice_V)
def addE (s:Int) (ls:List L) (p:Int) (r:R):Int:=
 if schk s ls=0 then (if priceB p=true then (if rchk r=0 then (if r.id∈ids ls then 7 else if cnt ls=60 then 4 else 0) else rchk r) else 1) else schk s ls
def addL (s:Int) (ls:List L) (p:Int) (r:R):List L:=if addE s ls p r=0 then putL s p r ls else []
def AddPost (s:Int) (ls:List L) (p:Int) (r:R) (w:World) (x:Ending) (w' : World):Prop:=
 Below w.heap.size w w'∧∃v',x=.returned (.tuple #[v',errV (addE s ls p r)])∧DL w' w.heap.size v' (addL s ls p r)
theorem addL_bad {s:Int}{ls:List L}{p:Int}{r:R}{k:Int}(h:addE s ls p r=k) (hk:¬k=0):addL s ls p r=[]:=by unfold addL;rw[h,if_neg hk]
theorem add_bad {s:Int}{ls:List L}{p:Int}{r:R}{w W:World}{k:Int}(h:addE s ls p r=k) (hk:¬k=0) (hW:Below w.heap.size w W):AddPost s ls p r w (.returned (.tuple #[.slice none 0 0,.iface 70 (.int .i64 k)])) W:=by
 refine⟨hW,_,?_,by rw[addL_bad h hk];exact dl_nil _ _⟩
 rw[h,errV_of hk]
set_option maxRecDepth 100000 in
set_option maxHeartbeats 4000000 in
theorem add_in (s:Int) (vq:Option Addr) (vm vc:Nat) (ls:List L) (p:Int) (a b c d e:Int) (w V0:World) (hV0:V0=w.alloc (.cells #[.int .i64 a,.int .i64 b,.int .i64 c,.int .i64 d,.int .i64 e] 55)) (HLS:Hid (∀W,Below w.heap.size w W→LS W (.slice vq vm vc) ls)) (h0:schk s ls=0) (hp:priceB p=true) (hr:rchk ⟨a,b,c,d,e⟩=0) (hkey:keyOf Tryz.prog 3 (.int .i64 a)=some (.int .i64 a)) :
  Calls Tryz.prog 73 #[.int .i64 s,.slice vq vm vc,.int .i64 p,.agg #[.int .i64 a,.int .i64 b,.int .i64 c,.int .i64 d,.int .i64 e]] w fun x w'=>AddPost s ls p ⟨a,b,c,d,e⟩ w x w':=by
 have hB0:Below w.heap.size w V0:=by rw[hV0];exact(bzR _ _).alloc (nzR _) _
 have hR0:V0.heap[w.heap.size]?=some (.cells #[.int .i64 a,.int .i64 b,.int .i64 c,.int .i64 d,.int .i64 e] 55 (0,0)):=by rw[hV0];exact heap_alloc_new w _
 have hcon:=places_any s _ ls V0 (HLS.out V0 hB0)
 have HB0:Hid (Below w.heap.size w V0):=hB0
 have x0:V0.cell? ⟨w.heap.size,0,none⟩=some (.int .i64 a):=by simp[World.cell?,hR0]
 have x1:V0.cell? ⟨w.heap.size,1,none⟩=some (.int .i64 b):=by simp[World.cell?,hR0]
 have x2:V0.cell? ⟨w.heap.size,2,none⟩=some (.int .i64 c):=by simp[World.cell?,hR0]
 have x3:V0.cell? ⟨w.heap.size,3,none⟩=some (.int .i64 d):=by simp[World.cell?,hR0]
 have x4:V0.cell? ⟨w.heap.size,4,none⟩=some (.int .i64 e):=by simp[World.cell?,hR0]
 have hsz0:w.heap.size < V0.heap.size:=(gzE.1 hR0).1
 have HPL:Hid (∀x w',PlacesPost s ls V0 x w'→Below V0.heap.size V0 w'∧∃B,x=.returned (.tuple #[.map (some B),.nilIface])∧Own w' B (flatP 0 ls)):=fun x w' hp=>by
  obtain⟨h1,⟨h2,_⟩|⟨_,B,_,h3,h4⟩⟩:=hp
  ·exact absurd h0 h2
  ·exact⟨h1,B,h3,h4⟩
 have HPR:=fun W=>tprice_V W p W (bzR _ _)
 rw[hp] at HPR
 simp only[show errB true=.nilIface from rfl] at HPR
 have HRE:=fun W=>rest_any a b c d e W
 rw[hr,errV_zero] at HRE
 have hh:=has_last (flatP 0 ls) a
 have ha:=at_last (flatP 0 ls) a
 have HPOST:Hid (∀W k,addE s ls p ⟨a,b,c,d,e⟩=k→¬k=0→Below w.heap.size w W→AddPost s ls p ⟨a,b,c,d,e⟩ w (.returned (.tuple #[.slice none 0 0,.iface 70 (.int .i64 k)])) W):=fun W k h1 h2 h3=>add_bad h1 h2 h3
 obtain⟨z1,z2,z3,z4⟩:=schk_zero h0
 have HE1:Hid (¬lastAt (flatP 0 ls) a=none→addE s ls p ⟨a,b,c,d,e⟩=7):=fun h=>by unfold addE;rw[if_pos h0,if_pos hp,if_pos hr,if_pos (id_ids.2 h)]
 have HE2:Hid (lastAt (flatP 0 ls) a=none→cnt ls=60→addE s ls p ⟨a,b,c,d,e⟩=4):=fun h h6=>by unfold addE;rw[if_pos h0,if_pos hp,if_pos hr,if_neg (fun hh=>id_ids.1 hh h),if_pos h6]
 have HE3:Hid (lastAt (flatP 0 ls) a=none→¬cnt ls=60→addE s ls p ⟨a,b,c,d,e⟩=0):=fun h h6=>by unfold addE;rw[if_pos h0,if_pos hp,if_pos hr,if_neg (fun hh=>id_ids.1 hh h),if_neg h6]
 have HFINE:Hid (∀W v',Below w.heap.size w W→addE s ls p ⟨a,b,c,d,e⟩=0→DL W w.heap.size v' (putL s p ⟨a,b,c,d,e⟩ ls)→AddPost s ls p ⟨a,b,c,d,e⟩ w (.returned (.tuple #[v',.nilIface])) W):=fun W v' h1 h2 h3=>⟨h1,v',by rw[h2];rfl,by unfold addL;rw[if_pos h2];exact h3⟩
 have hlen:=len_cnt (sgo_each z2)
 have HWITH:Hid (∀W,Below w.heap.size w W→Calls Tryz.prog 98 #[.int .i64 s,.slice vq vm vc,.int .i64 p] W fun e w'=>WithPost s p ls W e w'):=fun W hW=>withLevel_any s p _ ls W (HLS.out W hW) (by omega) (fun l hl=>by have:=rests_le hl;omega) (fun l hl=>(lchk_zero (sgo_each z2 l hl)).2.1)
 have hsn:=seen_all z4
 generalize AddPost s ls p ⟨a,b,c,d,e⟩ w=POST at *
 have HLEN:Hid (∀W B,Own W B (flatP 0 ls)→W.ownsMap Tryz.prog 3 plR B (flatP 0 ls).length (mapD (flatP 0 ls))∧Maps.size (mapD (flatP 0 ls))=seenN ls):=fun W B h=>⟨h,rfl⟩
 have HZ3:Hid (∀aa zs bb,putL s p ⟨a,b,c,d,e⟩ ls=aa++(⟨p,zs++[⟨a,b,c,d,e⟩]⟩:L)::bb→zs.length≤60):=fun aa zs bb hput=>by
  have h1:=cnt_put s p ⟨a,b,c,d,e⟩ ls
  have h2:(⟨p,zs++[⟨a,b,c,d,e⟩]⟩:L)∈putL s p ⟨a,b,c,d,e⟩ ls:=by rw[hput];simp
  have h3:=rests_le h2
  simp at h3
  omega
 clear h0 hp hr hB0 hR0 z1 z2 z3 z4 hlen
 cases hl:lastAt (flatP 0 ls) a with
 | some t=>
  have HXE:Hid (addE s ls p ⟨a,b,c,d,e⟩=7):=HE1.out (by rw[hl];simp)
  rw[hl] at hh ha
  simp only[Option.isSome_some,Option.getD_some] at hh ha
  obtain⟨t1,t2,t3⟩:=t
  simp only[] at hh ha
  clear hl HE1 HE2 HE3 HFINE HWITH hsn HZ3
  go_enter Tryz.func73,Tryz.ntmps73
  go_wp2_with fail
  rw[←hV0]
  refine hcon.mono ?_
  rintro x w1 hp
  obtain⟨h1,B,rfl,hO⟩:=HPL.out _ _ hp
  have H1:Hid (Below V0.heap.size V0 w1):=h1
  have HO:Hid (Own w1 B (flatP 0 ls)):=hO
  clear hcon HPL hp h1 hO
  go_wp2_with fail
  refine(HPR w1).mono ?_
  rintro x w2 ⟨rfl,h2⟩
  have H2:Hid (Below w1.heap.size w1 w2):=h2
  have y0:=keeps h2 (keeps H1.out x0)
  have y1:=keeps h2 (keeps H1.out x1)
  have y2:=keeps h2 (keeps H1.out x2)
  have y3:=keeps h2 (keeps H1.out x3)
  have y4:=keeps h2 (keeps H1.out x4)
  have hs2:w.heap.size < w2.heap.size:=Nat.lt_of_lt_of_le hsz0 (Nat.le_trans H1.out.size h2.size)
  clear HPR h2 x0 x1 x2 x3 x4
  go_wp2_with fail
  refine(HRE w2).mono ?_
  rintro x w3 ⟨rfl,h3⟩
  have H3:Hid (Below w.heap.size w w3):=(HB0.out.trans ((H1.out.trans ((H2.out.trans (h3.mono H2.out.size)).mono H1.out.size)).mono HB0.out.size))
  have y0':=keeps h3 y0
  have hs3:w.heap.size < w3.heap.size:=Nat.lt_of_lt_of_le hs2 h3.size
  obtain⟨hown,-⟩:=HLEN.out _ _ ((HO.out.below H2.out).below h3)
  have HXX:Hid (∀o,POST (.returned (.tuple #[.slice none 0 0,.iface 70 (.int .i64 7)])) (w3.alloc o)):=fun o=>HPOST.out _ 7 HXE.out (by omega) (H3.out.alloc H3.out.size _)
  clear HRE h3 y0 y1 y2 y3 y4 HPOST
  go_wp2_with (at_lookup;refine lookup_place _ rfl _ _ 153 rfl 3 158 lawI Tryz.underlying153 (zeroPl _) B _ _ rfl hown _ _ rfl hkey _ _ _ ha hh ?_)
  exact HXX.out _
 | none=>
  rw[hl] at hh ha
  simp only[Option.isSome_none,Option.getD_none] at hh ha
  have HEa:Hid (cnt ls=60→addE s ls p ⟨a,b,c,d,e⟩=4):=fun h=>HE2.out hl h
  have HEb:Hid (¬cnt ls=60→addE s ls p ⟨a,b,c,d,e⟩=0):=fun h=>HE3.out hl h
  clear hl HE1 HE2 HE3
  generalize seenN ls=z at *
  generalize cnt ls=T at *
  go_enter Tryz.func73,Tryz.ntmps73
  go_wp2_with fail
  rw[←hV0]
  refine hcon.mono ?_
  rintro x w1 hp
  obtain⟨h1,B,rfl,hO⟩:=HPL.out _ _ hp
  have H1:Hid (Below V0.heap.size V0 w1):=h1
  have HO:Hid (Own w1 B (flatP 0 ls)):=hO
  clear hcon HPL hp h1 hO
  go_wp2_with fail
  refine(HPR w1).mono ?_
  rintro x w2 ⟨rfl,h2⟩
  have H2:Hid (Below w1.heap.size w1 w2):=h2
  have y0:=keeps h2 (keeps H1.out x0)
  have y1:=keeps h2 (keeps H1.out x1)
  have y2:=keeps h2 (keeps H1.out x2)
  have y3:=keeps h2 (keeps H1.out x3)
  have y4:=keeps h2 (keeps H1.out x4)
  have hs2:w.heap.size < w2.heap.size:=Nat.lt_of_lt_of_le hsz0 (Nat.le_trans H1.out.size h2.size)
  clear HPR h2 x0 x1 x2 x3 x4
  go_wp2_with fail
  refine(HRE w2).mono ?_
  rintro x w3 ⟨rfl,h3⟩
  have H3:Hid (Below w.heap.size w w3):=(HB0.out.trans ((H1.out.trans ((H2.out.trans (h3.mono H2.out.size)).mono H1.out.size)).mono HB0.out.size))
  have u0:=keeps h3 y0
  have u1:=keeps h3 y1
  have u2:=keeps h3 y2
  have u3:=keeps h3 y3
  have u4:=keeps h3 y4
  have hs3:w.heap.size < w3.heap.size:=Nat.lt_of_lt_of_le hs2 h3.size
  obtain⟨hown,hsz⟩:=HLEN.out _ _ ((HO.out.below H2.out).below h3)
  have hown2:=fun o=>World.ownsMap.alloc hown o
  clear HRE h3 y0 y1 y2 y3 y4
  by_cases h6:T=60
  ·have HXX:Hid (∀o,POST (.returned (.tuple #[.slice none 0 0,.iface 70 (.int .i64 4)])) (w3.alloc o)):=fun o=>HPOST.out _ 4 (HEa.out h6) (by omega) (H3.out.alloc H3.out.size _)
   have hz6:(z:Int)=60:=by omega
   have hz60:z=60:=by omega
   subst hz60
   clear HPOST hz6 h6 hsn
   go_wp2_with (first|(at_lookup;refine lookup_place _ rfl _ _ 153 rfl 3 158 lawI Tryz.underlying153 (zeroPl _) B _ _ rfl hown _ _ rfl hkey _ _ _ ha hh ?_)|(at_len;refine wpList_len_own _ rfl _ 153 rfl 3 158 Tryz.underlying153 plR B _ _ rfl (hown2 _) ?_;rw[hsz]))
   exact HXX.out _
  ·have hz6:¬((z:Int)=60):=by omega
   have hz60:¬(z=60):=by omega
   have hz61:((z:Int) == 60)=false:=by simp;omega
   have HB4:Hid (∀o,Below w.heap.size w (w3.alloc o)):=fun o=>H3.out.alloc H3.out.size _
   have HE0:=HEb.out h6
   clear HPOST hsn h6 HEa HEb
   go_wp2_with (first|(at_lookup;refine lookup_place _ rfl _ _ 153 rfl 3 158 lawI Tryz.underlying153 (zeroPl _) B _ _ rfl hown _ _ rfl hkey _ _ _ ha hh ?_)|(at_len;refine wpList_len_own _ rfl _ 153 rfl 3 158 Tryz.underlying153 plR B _ _ rfl (hown2 _) ?_;rw[hsz]))
   have HBA:Hid (Below w3.heap.size w3 (w3.alloc (.cells #[.int .i64 0,.int .i64 0] 158))):=(bzR _ _).alloc (nzR _) _
   have HB44:=HB4.out (.cells #[.int .i64 0,.int .i64 0] 158)
   generalize w3.alloc (.cells #[.int .i64 0,.int .i64 0] 158)=W4 at *
   refine(HWITH.out W4 HB44).mono ?_
   rintro x w5 ⟨v5,aa,⟨⟨xp,xq,xn,xc⟩,zs⟩,bb,rfl,hD,hxp,hput,hB5⟩
   simp only[] at hxp hput
   have hzl:zs.length≤60:=HZ3.out _ _ _ (hput _)
   have hex:=hD.each (⟨xp,xq,xn,xc⟩,zs) (by simp)
   have hxn:xn=zs.length:=by
    obtain⟨q',c',e⟩:=OwnM.form hex
    have e' : Value.slice xq xn xc=.slice q' zs.length c':=e
    simp at e'
    exact e'.2.1
   subst hxn
   subst hxp
   have ho5:=hD.own
   rw[List.append_nil,List.map_append,List.map_cons] at ho5
   rcases ho5.2 with ⟨-,hz⟩|⟨g,off,cap,cur,e5,-,-,hcap,hcm,-,-⟩
   ·simp at hz
   ·rw[show (aa.map (·.1)++(⟨xp,xq,zs.length,xc⟩:rlv.RL)::bb.map (·.1)).length=(aa++(((⟨xp,xq,zs.length,xc⟩:rlv.RL),zs):RP)::bb).length by simp] at e5 hcap
    subst e5
    have hcap2:cap≤9223372036854775807:=by simpa [maxLen] using hcm
    obtain⟨-,-,c1,hfr,hgb,hgs⟩:=ownr_at ho5
    rw[List.length_map] at c1
    have f1:=hfr (off+aa.length * 2+1)
    have hkn:aa.length < (aa++(((⟨xp,xq,zs.length,xc⟩:rlv.RL),zs):RP)::bb).length:=by simp
    have t0:=keeps hB5 (keeps HBA.out u0)
    have t1:=keeps hB5 (keeps HBA.out u1)
    have t2:=keeps hB5 (keeps HBA.out u2)
    have t3:=keeps hB5 (keeps HBA.out u3)
    have t4:=keeps hB5 (keeps HBA.out u4)
    have hw4:w.heap.size < W4.heap.size:=Nat.lt_of_lt_of_le hs3 HBA.out.size
    have hs5:w.heap.size < w5.heap.size:=Nat.lt_of_lt_of_le hw4 hB5.size
    obtain⟨i0,hi,hz0,hz1,hz2⟩:=infoR'
    have HI:Hid (Tryz.prog.info? 55=some i0):=hi
    have OV:Hid (OwnM w5 W4.heap.size 55 5 (.slice xq zs.length xc) zs.length (flat zs)):=hex
    have HDW:Hid (∀W W' q' c',Below w5.heap.size w5 W→W.grownBy W' (Value.slice xq zs.length xc).ownBlock→OwnM W' W4.heap.size 55 5 (.slice q' (zs.length+1) c') (zs.length+1) (flat zs++[.int .i64 a,.int .i64 b,.int .i64 c,.int .i64 d,.int .i64 e])→((Value.slice q' (zs.length+1) c').ownBlock=(Value.slice xq zs.length xc).ownBlock∨(Value.slice q' (zs.length+1) c').ownBlock=some W.heap.size)→POST (.returned (.tuple #[.slice (some ⟨g,off,none⟩) (aa++(((⟨xp,xq,zs.length,xc⟩:rlv.RL),zs):RP)::bb).length cap,.nilIface])) (W'.setCell ⟨g,off+aa.length * 2+1,none⟩ (.slice q' (zs.length+1) c'))):=fun W W' q' c' hW hg hO hat=>by
     have hDW:=hD.below hW
     have hO2:OwnQ W' W4.heap.size (.slice q' (zs.length+1) c') (zs++[⟨a,b,c,d,e⟩]):=by
      show OwnM _ _ _ _ _ _ _
      rw[flat_append,List.length_append];exact hO
     have hsw:=DeepT.swap hDW hg hO2 (hat.imp id (fun e=>⟨_,e,nzR _⟩))
     have hlt:∀k,(Value.slice xq zs.length xc).ownBlock=some k→W4.heap.size≤k:=fun k hk=>(OwnM.lt hex k hk).1
     have hBW:Below W4.heap.size W4 W:=hB5.trans (hW.mono hB5.size)
     have hBW' : Below W4.heap.size W4 W':=hBW.grown hg hBW.size hlt
     refine HFINE.out _ _ (HB44.trans (((hBW'.setCell hgb _)).mono HB44.size)) HE0 ?_
     rw[hput,show aa.map toL++(⟨xp,zs++[⟨a,b,c,d,e⟩]⟩:L)::bb.map toL=(aa++(((⟨xp,q',zs.length+1,c'⟩:rlv.RL),zs++[⟨a,b,c,d,e⟩]):RP)::bb).map toL by simp[toL]]
     exact⟨_,rfl,hsw.mono HB44.size⟩
    have hxlt:∀k,(Value.slice xq zs.length xc).ownBlock=some k→W4.heap.size≤k∧k < w5.heap.size:=fun k hk=>OwnM.lt hex k hk
    have hxg:(Value.slice xq zs.length xc).ownBlock≠some g:=fun e=>hD.far (⟨xp,xq,zs.length,xc⟩,zs) (by simp) g e rfl
    clear hD hput hi hex ho5 HWITH HFINE HZ3 HE0 hfr hcm hown hown2 hsz ha hh hkey HLEN u0 u1 u2 u3 u4
    generalize hkk:aa.length=k at *
    generalize hnn:(aa++(((⟨xp,xq,zs.length,xc⟩:rlv.RL),zs):RP)::bb).length=n at *
    clear hkk hnn
    have hk0:¬((k:Int) < 0):=by omega
    have hk3:(k:Int) < (n:Int):=by omega
    have hk6:(0:Int)≤(k:Int):=by omega
    have HB5:Hid (Below W4.heap.size W4 w5):=hB5
    have SO:Hid (∀W,Below w5.heap.size w5 W→(Below W4.heap.size W4 W∧W.cell? ⟨g,off+k * 2+1,none⟩=some (.slice xq zs.length xc)∧W.frozen? ⟨g,off+k * 2+1,none⟩=false∧W.cell? ⟨w.heap.size,0,none⟩=some (.int .i64 a)∧W.cell? ⟨w.heap.size,1,none⟩=some (.int .i64 b)∧W.cell? ⟨w.heap.size,2,none⟩=some (.int .i64 c)∧W.cell? ⟨w.heap.size,3,none⟩=some (.int .i64 d)∧W.cell? ⟨w.heap.size,4,none⟩=some (.int .i64 e))):=fun W hW=>⟨HB5.out.trans (hW.mono HB5.out.size),keeps hW c1,(hW.frozen (p:=⟨g,off+k * 2+1,none⟩) hgs).trans f1,keeps hW t0,keeps hW t1,keeps hW t2,keeps hW t3,keeps hW t4⟩
    have SG:Hid (∀W W',Below w5.heap.size w5 W→W.grownBy W' (Value.slice xq zs.length xc).ownBlock→(Below W4.heap.size W4 W'∧W'.cell? ⟨g,off+k * 2+1,none⟩=some (.slice xq zs.length xc)∧W'.frozen? ⟨g,off+k * 2+1,none⟩=false∧W'.cell? ⟨w.heap.size,0,none⟩=some (.int .i64 a)∧W'.cell? ⟨w.heap.size,1,none⟩=some (.int .i64 b)∧W'.cell? ⟨w.heap.size,2,none⟩=some (.int .i64 c)∧W'.cell? ⟨w.heap.size,3,none⟩=some (.int .i64 d)∧W'.cell? ⟨w.heap.size,4,none⟩=some (.int .i64 e))):=fun W W' hW hg=>by
     have hBW:Below W4.heap.size W4 W:=HB5.out.trans (hW.mono HB5.out.size)
     have hgW:g < W.heap.size:=Nat.lt_of_lt_of_le hgs hW.size
     have hwW:w.heap.size < W.heap.size:=Nat.lt_of_lt_of_le hs5 hW.size
     have hne:some g≠(Value.slice xq zs.length xc).ownBlock:=fun e=>hxg e.symm
     have hnw:some w.heap.size≠(Value.slice xq zs.length xc).ownBlock:=fun e=>by have:=(hxlt _ e.symm).1;omega
     refine⟨hBW.grown hg hBW.size (fun k hk=>(hxlt k hk).1),?_,?_,?_,?_,?_,?_,?_⟩
     ·rw[hg.cell_far ⟨g,off+k * 2+1,none⟩ hgW hne];exact keeps hW c1
     ·rw[World.frozen?_of_block (hg.block g hgW hne)];exact(hW.frozen (p:=⟨g,off+k * 2+1,none⟩) hgs).trans f1
     ·rw[hg.cell_far ⟨w.heap.size,0,none⟩ hwW hnw];exact keeps hW t0
     ·rw[hg.cell_far ⟨w.heap.size,1,none⟩ hwW hnw];exact keeps hW t1
     ·rw[hg.cell_far ⟨w.heap.size,2,none⟩ hwW hnw];exact keeps hW t2
     ·rw[hg.cell_far ⟨w.heap.size,3,none⟩ hwW hnw];exact keeps hW t3
     ·rw[hg.cell_far ⟨w.heap.size,4,none⟩ hwW hnw];exact keeps hW t4
    have hszV:W4.heap.size≤w5.heap.size:=HB5.out.size
    clear hB5 hxlt hxg
    go_upto_region 16 with fail
    go_region_law (refine step_append_mid _ rfl _ _ 49 rfl W4.heap.size 55 i0 zeroR 5 40 Tryz.underlying49 HI.out hz0 hz1 hz2 rfl (.slice xq zs.length xc) zs.length (flat zs) rfl (OwnM.below OV.out (by(repeat' (first|with_reducible assumption|with_reducible refine bal ?_ _|with_reducible refine Below.setCell ?_ ?_ _|with_reducible refine Below.drew ?_|with_reducible exact bzR _ _|with_reducible exact nzR _|with_reducible exact Below.size (by with_reducible assumption)|with_reducible refine Nat.le_succ_of_le ?_)))) _ 1 1 [.int .i64 a,.int .i64 b,.int .i64 c,.int .i64 d,.int .i64 e] rfl rfl (World.news_of_block (cs:=#[.int .i64 a,.int .i64 b,.int .i64 c,.int .i64 d,.int .i64 e]) (heap_alloc_new _ _)) (by simp[Value.oneCell']) (by unfold maxLen;omega) (by omega) (Nat.le_trans hszV (Below.size (w:=w5) (B:=w5.heap.size) (by(repeat' (first|with_reducible assumption|with_reducible refine bal ?_ _|with_reducible refine Below.setCell ?_ ?_ _|with_reducible refine Below.drew ?_|with_reducible exact bzR _ _|with_reducible exact nzR _|with_reducible exact Below.size (by with_reducible assumption)|with_reducible refine Nat.le_succ_of_le ?_))))) ?_;intro v' w' hO' hgr hat;have hS1:=SG.out _ _ (by(repeat' (first|with_reducible assumption|with_reducible refine bal ?_ _|with_reducible refine Below.setCell ?_ ?_ _|with_reducible refine Below.drew ?_|with_reducible exact bzR _ _|with_reducible exact nzR _|with_reducible exact Below.size (by with_reducible assumption)|with_reducible refine Nat.le_succ_of_le ?_))) hgr;obtain⟨q',c',rfl⟩:=OwnM.form hO';have hPX:=HDW.out _ _ _ _ (by(repeat' (first|with_reducible assumption|with_reducible refine bal ?_ _|with_reducible refine Below.setCell ?_ ?_ _|with_reducible refine Below.drew ?_|with_reducible exact bzR _ _|with_reducible exact nzR _|with_reducible exact Below.size (by with_reducible assumption)|with_reducible refine Nat.le_succ_of_le ?_))) hgr hO' hat;have hS9:=hS1;obtain⟨hS2,hS3,hS4,-⟩:=hS1)
    all_goals
     go_wp2_with fail
     exact hPX
set_option maxRecDepth 100000 in
set_option maxHeartbeats 4000000 in
theorem add_ok (s:Int) (vq:Option Addr) (vm vc:Nat) (ls:List L) (p:Int) (a b c d e:Int) (w V0:World) (hV0:V0=w.alloc (.cells #[.int .i64 a,.int .i64 b,.int .i64 c,.int .i64 d,.int .i64 e] 55)) (h:LS w (.slice vq vm vc) ls) (h0:schk s ls=0) :
  Calls Tryz.prog 73 #[.int .i64 s,.slice vq vm vc,.int .i64 p,.agg #[.int .i64 a,.int .i64 b,.int .i64 c,.int .i64 d,.int .i64 e]] w fun x w'=>AddPost s ls p ⟨a,b,c,d,e⟩ w x w':=by
 have hB0:Below w.heap.size w V0:=by rw[hV0];exact(bzR _ _).alloc (nzR _) _
 have hR0:V0.heap[w.heap.size]?=some (.cells #[.int .i64 a,.int .i64 b,.int .i64 c,.int .i64 d,.int .i64 e] 55 (0,0)):=by rw[hV0];exact heap_alloc_new w _
 have hcon:=places_any s _ ls V0 (h.below hB0)
 have HB0:Hid (Below w.heap.size w V0):=hB0
 have HLS:Hid (∀W,Below w.heap.size w W→LS W (.slice vq vm vc) ls):=fun W hW=>h.below hW
 have x0:V0.cell? ⟨w.heap.size,0,none⟩=some (.int .i64 a):=by simp[World.cell?,hR0]
 have x1:V0.cell? ⟨w.heap.size,1,none⟩=some (.int .i64 b):=by simp[World.cell?,hR0]
 have x2:V0.cell? ⟨w.heap.size,2,none⟩=some (.int .i64 c):=by simp[World.cell?,hR0]
 have x3:V0.cell? ⟨w.heap.size,3,none⟩=some (.int .i64 d):=by simp[World.cell?,hR0]
 have x4:V0.cell? ⟨w.heap.size,4,none⟩=some (.int .i64 e):=by simp[World.cell?,hR0]
 have HPL:Hid (∀x w',PlacesPost s ls V0 x w'→Below V0.heap.size V0 w'∧∃B,x=.returned (.tuple #[.map (some B),.nilIface])∧Own w' B (flatP 0 ls)):=fun x w' hp=>by
  obtain⟨h1,⟨h2,_⟩|⟨_,B,_,h3,h4⟩⟩:=hp
  ·exact absurd h0 h2
  ·exact⟨h1,B,h3,h4⟩
 have HPR:=fun W hW=>tprice_V V0 p W hW
 clear hB0 hR0 h
 cases hp:priceB p
 ·rw[hp] at HPR
  simp only[show errB false=.iface 70 (.int .i64 1) from rfl] at HPR
  have HX:Hid (∀W,Below w.heap.size w W→AddPost s ls p ⟨a,b,c,d,e⟩ w (.returned (.tuple #[.slice none 0 0,.iface 70 (.int .i64 1)])) W):=fun W hW=>add_bad (by unfold addE;rw[if_pos h0,if_neg (by simp[hp])]) (by omega) hW
  generalize AddPost s ls p ⟨a,b,c,d,e⟩ w=POST at *
  clear h0 hp x0 x1 x2 x3 x4
  go_enter Tryz.func73,Tryz.ntmps73
  go_wp2_with fail
  rw[←hV0]
  refine hcon.mono ?_
  rintro x w1 hp
  obtain⟨h1,B,rfl,hO⟩:=HPL.out _ _ hp
  have H1:Hid (Below V0.heap.size V0 w1):=h1
  clear hcon HPL hp h1 hO
  go_wp2_with fail
  refine(HPR w1 H1.out).mono ?_
  rintro x w2 ⟨rfl,h2⟩
  have HXX:=HX.out w2 (HB0.out.trans (h2.mono HB0.out.size))
  clear HPR h2 HX
  go_wp2_with fail
  exact HXX
 ·rw[hp] at HPR
  simp only[show errB true=.nilIface from rfl] at HPR
  have HRE:=fun W=>rest_any a b c d e W
  by_cases hr:rchk ⟨a,b,c,d,e⟩=0
  ·rw[hr,errV_zero] at HRE
   have hkey:keyOf Tryz.prog 3 (.int .i64 a)=some (.int .i64 a):=keyOf_int_mk Tryz.underlying3 (wf_id (r:=⟨a,b,c,d,e⟩) hr)
   exact add_in s vq vm vc ls p a b c d e w V0 hV0 HLS h0 hp hr hkey
  ·rw[errV_of hr] at HRE
   have HX:Hid (∀W,Below w.heap.size w W→AddPost s ls p ⟨a,b,c,d,e⟩ w (.returned (.tuple #[.slice none 0 0,.iface 70 (.int .i64 (rchk ⟨a,b,c,d,e⟩))])) W):=fun W hW=>add_bad (by unfold addE;rw[if_pos h0,if_pos hp,if_neg hr]) hr hW
   generalize AddPost s ls p ⟨a,b,c,d,e⟩ w=POST at *
   generalize rchk ⟨a,b,c,d,e⟩=k at *
   clear h0 hp hr
   go_enter Tryz.func73,Tryz.ntmps73
   go_wp2_with fail
   rw[←hV0]
   refine hcon.mono ?_
   rintro x w1 hp
   obtain⟨h1,B,rfl,hO⟩:=HPL.out _ _ hp
   have H1:Hid (Below V0.heap.size V0 w1):=h1
   clear hcon HPL hp h1 hO
   go_wp2_with fail
   refine(HPR w1 H1.out).mono ?_
   rintro x w2 ⟨rfl,h2⟩
   have H2:Hid (Below V0.heap.size V0 w2):=h2
   have y0:=keeps h2 x0
   have y1:=keeps h2 x1
   have y2:=keeps h2 x2
   have y3:=keeps h2 x3
   have y4:=keeps h2 x4
   clear HPR h2 x0 x1 x2 x3 x4
   go_wp2_with fail
   refine(HRE w2).mono ?_
   rintro x w3 ⟨rfl,h3⟩
   have HXX:=HX.out w3 (HB0.out.trans ((H2.out.trans (h3.mono H2.out.size)).mono HB0.out.size))
   clear HRE h3 HX y0 y1 y2 y3 y4
   go_wp2_with fail
   exact HXX
set_option maxRecDepth 100000 in
set_option maxHeartbeats 4000000 in
theorem add_any (s:Int) (v:Value) (ls:List L) (p:Int) (a b c d e:Int) (w:World) (h:LS w v ls) :
  Calls Tryz.prog 73 #[.int .i64 s,v,.int .i64 p,.agg #[.int .i64 a,.int .i64 b,.int .i64 c,.int .i64 d,.int .i64 e]] w fun x w'=>AddPost s ls p ⟨a,b,c,d,e⟩ w x w':=by
 obtain⟨V0,hV0⟩:∃V0,V0=w.alloc (.cells #[.int .i64 a,.int .i64 b,.int .i64 c,.int .i64 d,.int .i64 e] 55):=⟨_,rfl⟩
 have hB0:Below w.heap.size w V0:=by rw[hV0];exact(bzR _ _).alloc (nzR _) _
 obtain⟨vq,vm,vc,rfl⟩:=ls_form h
 have hcon:=places_any s _ ls V0 (h.below hB0)
 have HB0:Hid (Below w.heap.size w V0):=hB0
 by_cases h0:schk s ls=0
 ·exact add_ok s vq vm vc ls p a b c d e w V0 hV0 h h0
 ·have HPL:Hid (∀x w',PlacesPost s ls V0 x w'→Below V0.heap.size V0 w'∧x=.returned (.tuple #[.map none,.iface 70 (.int .i64 (schk s ls))])):=fun x w' hp=>by
   obtain⟨h1,⟨_,h3⟩|⟨h2,_⟩⟩:=hp
   ·rw[errV_of h0] at h3;exact⟨h1,h3⟩
   ·exact absurd h2 h0
  have HX:Hid (∀W,Below w.heap.size w W→AddPost s ls p ⟨a,b,c,d,e⟩ w (.returned (.tuple #[.slice none 0 0,.iface 70 (.int .i64 (schk s ls))])) W):=fun W hW=>add_bad (by unfold addE;rw[if_neg h0]) h0 hW
  generalize AddPost s ls p ⟨a,b,c,d,e⟩ w=POST at *
  generalize schk s ls=k at HPL HX
  clear h0 h hB0
  go_enter Tryz.func73,Tryz.ntmps73
  go_wp2_with fail
  rw[←hV0]
  refine hcon.mono ?_
  rintro x w1 hp
  obtain⟨h1,rfl⟩:=HPL.out _ _ hp
  have HXX:=HX.out w1 (HB0.out.trans (h1.mono HB0.out.size))
  clear hcon HPL hp h1 HX
  go_wp2_with fail
  exact HXX
end Go.Proofs.YtnjpjieedgmffaaGreatDoor.sid
