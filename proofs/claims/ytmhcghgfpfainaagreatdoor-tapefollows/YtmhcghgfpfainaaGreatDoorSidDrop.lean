import Derived.Test.YtmhcghgfpfainaaGreatDoorSidWith2
import Derived.Lib.SlicesDelete
set_option maxHeartbeats 4000000
set_option maxRecDepth 100000
namespace Go.Proofs.YtmhcghgfpfainaaGreatDoor
open Tryz
namespace sid
open Go.RowKit spn que Go.Maps
open tickP (errB zAn zAB zBy betR zAU)
def addE(s:Int)(ls:List L)(p:Int)(r:R):Int:=
 if schk s ls=0 then (if zAn p=true then (if rchk r=0 then (if r.id∈ids ls then 7 else if cnt ls=60 then 4 else 0) else rchk r) else 1) else schk s ls
def addL(s:Int)(ls:List L)(p:Int)(r:R):List L:=if addE s ls p r=0 then putL s p r ls else []
def AddPost(s:Int)(ls:List L)(p:Int)(r:R)(w:World)(x:Ending)(w' : World):Prop:=
 Bw w w'∧∃v',x=.returned (.tuple #[v',errV (addE s ls p r)])∧DL w' w.heap.size v' (addL s ls p r)
theorem zOJ{s:Int}{ls:List L}{p:Int}{r:R}{k:Int}(h:addE s ls p r=k)(hk:¬k=0):addL s ls p r=[]:=by unfold addL;rw[h,if_neg hk]
theorem zFP{s:Int}{ls:List L}{p:Int}{r:R}{w W:World}{k:Int}(h:addE s ls p r=k)(hk:¬k=0)(hW:Bw w W):AddPost s ls p r w (.returned (.tuple #[.slice none 0 0,.iface 80 (.int .i64 k)])) W:=by
 refine⟨hW,_,?_,by rw[zOJ h hk];exact zFe _ _⟩
 rw[h,wAb hk]
theorem add_in(s:Int)(vq:Option Addr)(vm vc:Nat)(ls:List L)(p:Int)(a b c d e:Int)(w V0:World)(ud:V0=w.alloc (.cells #[.int .i64 a,.int .i64 b,.int .i64 c,.int .i64 d,.int .i64 e] 54))(U3:Hid (∀W,Bw w W→LS W (.slice vq vm vc) ls))(h0:schk s ls=0)(hp:zAn p=true)(hr:rchk ⟨a,b,c,d,e⟩=0)(gJ:keyOf prog 3 (.int .i64 a)=some (.int .i64 a)) :
  Calls prog 186 #[.int .i64 s,.slice vq vm vc,.int .i64 p,.agg #[.int .i64 a,.int .i64 b,.int .i64 c,.int .i64 d,.int .i64 e]] w fun x w'=>AddPost s ls p ⟨a,b,c,d,e⟩ w x w':=by
 have gR:Bw w V0:=by rw[ud];exact(bzR _ _).alloc (nzR _) _
 have GF:V0.heap[w.heap.size]?=some (.cells #[.int .i64 a,.int .i64 b,.int .i64 c,.int .i64 d,.int .i64 e] 54 (0,0)):=by rw[ud];exact jA w _
 have Hf:=zBV s _ ls V0 (U3.out V0 gR);have uO:Hid (Bw w V0):=gR;have x0:V0.cell? ⟨w.heap.size,0,none⟩=some (.int .i64 a):=by simp[World.cell?,GF]
 have x1:V0.cell? ⟨w.heap.size,1,none⟩=some (.int .i64 b):=by simp[World.cell?,GF]
 have x2:V0.cell? ⟨w.heap.size,2,none⟩=some (.int .i64 c):=by simp[World.cell?,GF]
 have x3:V0.cell? ⟨w.heap.size,3,none⟩=some (.int .i64 d):=by simp[World.cell?,GF]
 have x4:V0.cell? ⟨w.heap.size,4,none⟩=some (.int .i64 e):=by simp[World.cell?,GF]
 have M0:w.heap.size<V0.heap.size:=(gzE.1 GF).1;have UT:Hid (∀x w',PlacesPost s ls V0 x w'→Bw V0 w'∧∃B,x=.returned (.tuple #[.map (some B),.nilIface])∧Own w' B (flatP 0 ls)):=fun x w' hp=>by
  obtain⟨h1,⟨h2,_⟩|⟨_,B,_,h3,h4⟩⟩:=hp
  ·exact absurd h0 h2
  ·exact⟨h1,B,h3,h4⟩
 have uW:=fun W=>zAU W p W (bzR _ _)
 rw[hp] at uW;simp only[show errB true=.nilIface from rfl] at uW
 have uj:=fun W=>zCT a b c d e W
 rw[hr,wAa] at uj;have hh:=zIz (flatP 0 ls) a;have ha:=zLn (flatP 0 ls) a;have Hx:Hid (∀W k,addE s ls p ⟨a,b,c,d,e⟩=k→¬k=0→Bw w W→AddPost s ls p ⟨a,b,c,d,e⟩ w (.returned (.tuple #[.slice none 0 0,.iface 80 (.int .i64 k)])) W):=fun W k h1 h2 h3=>zFP h1 h2 h3
 obtain⟨z1,z2,z3,z4⟩:=zAd h0;have Bo:Hid (¬zAC (flatP 0 ls) a=none→addE s ls p ⟨a,b,c,d,e⟩=7):=fun h=>by unfold addE;rw[if_pos h0,if_pos hp,if_pos hr,if_pos (zGG.2 h)]
 have Gp:Hid (zAC (flatP 0 ls) a=none→cnt ls=60→addE s ls p ⟨a,b,c,d,e⟩=4):=fun h h6=>by unfold addE;rw[if_pos h0,if_pos hp,if_pos hr,if_neg (fun hh=>zGG.1 hh h),if_pos h6]
 have Dj:Hid (zAC (flatP 0 ls) a=none→¬cnt ls=60→addE s ls p ⟨a,b,c,d,e⟩=0):=fun h h6=>by unfold addE;rw[if_pos h0,if_pos hp,if_pos hr,if_neg (fun hh=>zGG.1 hh h),if_neg h6]
 have px:Hid (∀W v',Bw w W→addE s ls p ⟨a,b,c,d,e⟩=0→DL W w.heap.size v' (putL s p ⟨a,b,c,d,e⟩ ls)→AddPost s ls p ⟨a,b,c,d,e⟩ w (.returned (.tuple #[v',.nilIface])) W):=fun W v' h1 h2 h3=>⟨h1,v',by rw[h2];rfl,by unfold addL;rw[if_pos h2];exact h3⟩
 have Hi:=zDp (zAs z2);have pP:Hid (∀W,Bw w W→Calls prog 191 #[.int .i64 s,.slice vq vm vc,.int .i64 p] W fun e w'=>WithPost s p ls W e w'):=fun W hW=>zFO s p _ ls W (U3.out W hW) (by omega) (fun l hl=>by have:=zAV hl;omega) (fun l hl=>(zAh (zAs z2 l hl)).2.1)
 have MZ:=zIy z4;generalize AddPost s ls p ⟨a,b,c,d,e⟩ w=POST at *;have pA:Hid (∀W B,Own W B (flatP 0 ls)→W.ownsMap prog 3 plR B (flatP 0 ls).length (mapD (flatP 0 ls))∧Maps.size (mapD (flatP 0 ls))=zEf ls):=fun W B h=>⟨h,rfl⟩
 have HZ3:Hid (∀aa zs bb,putL s p ⟨a,b,c,d,e⟩ ls=aa++(⟨p,zs++[⟨a,b,c,d,e⟩]⟩:L)::bb→zs.length≤60):=fun aa zs bb uS=>by
  have h1:=zQO s p ⟨a,b,c,d,e⟩ ls;have h2:(⟨p,zs++[⟨a,b,c,d,e⟩]⟩:L)∈putL s p ⟨a,b,c,d,e⟩ ls:=by rw[uS];simp
  have h3:=zAV h2;simp at h3;omega
 clear h0 hp hr gR GF z1 z2 z3 z4 Hi;cases hl:zAC (flatP 0 ls) a with
 | some t=>
  have HXE:Hid (addE s ls p ⟨a,b,c,d,e⟩=7):=Bo.out (by rw[hl];simp)
  rw[hl] at hh ha;simp only[Option.isSome_some,Option.getD_some] at hh ha;obtain⟨t1,t2,t3⟩:=t;simp only[] at hh ha;clear hl Bo Gp Dj px pP MZ HZ3;go_enter func186,ntmps186;go_wp2_with fail;rw[←ud];refine Hf.mono ?_;rintro x w1 hp;obtain⟨h1,B,rfl,hO⟩:=UT.out _ _ hp;have H1:Hid (Bw V0 w1):=h1;have HO:Hid (Own w1 B (flatP 0 ls)):=hO;clear Hf UT hp h1 hO;go_wp2_with fail;refine(uW w1).mono ?_;rintro x w2⟨rfl,h2⟩;have H2:Hid (Bw w1 w2):=h2;have y0:=zAa h2 (zAa H1.out x0);have y1:=zAa h2 (zAa H1.out x1);have y2:=zAa h2 (zAa H1.out x2);have y3:=zAa h2 (zAa H1.out x3);have y4:=zAa h2 (zAa H1.out x4);have gd:w.heap.size<w2.heap.size:=jC M0 (jM H1.out.size h2.size);clear uW h2 x0 x1 x2 x3 x4;go_wp2_with fail;refine(uj w2).mono ?_;rintro x w3⟨rfl,h3⟩
  have H3:Hid (Bw w w3):=(uO.out.trans ((H1.out.trans ((H2.out.trans (h3.mono H2.out.size)).mono H1.out.size)).mono uO.out.size));have y0':=zAa h3 y0;have uT:w.heap.size<w3.heap.size:=jC gd h3.size;obtain⟨Hh,-⟩:=pA.out _ _ ((HO.out.below H2.out).below h3);have GE:Hid (∀o,POST (.returned (.tuple #[.slice none 0 0,.iface 80 (.int .i64 7)])) (w3.alloc o)):=fun o=>Hx.out _ 7 HXE.out (by omega) (H3.out.alloc H3.out.size _)
  clear uj h3 y0 y1 y2 y3 y4 Hx;go_wp2_with (at_lookup;refine zBq _ rfl _ _ 129 rfl 3 133 lawI underlying129 (zGD _) B _ _ rfl Hh _ _ rfl gJ _ _ _ ha hh ?_)
  exact GE.out _
 | none=>
  rw[hl] at hh ha;simp only[Option.isSome_none,Option.getD_none] at hh ha;have HEa:Hid (cnt ls=60→addE s ls p ⟨a,b,c,d,e⟩=4):=fun h=>Gp.out hl h
  have HEb:Hid (¬cnt ls=60→addE s ls p ⟨a,b,c,d,e⟩=0):=fun h=>Dj.out hl h
  clear hl Bo Gp Dj;generalize zEf ls=z at *;generalize cnt ls=T at *;go_enter func186,ntmps186;go_wp2_with fail;rw[←ud];refine Hf.mono ?_;rintro x w1 hp;obtain⟨h1,B,rfl,hO⟩:=UT.out _ _ hp;have H1:Hid (Bw V0 w1):=h1;have HO:Hid (Own w1 B (flatP 0 ls)):=hO;clear Hf UT hp h1 hO;go_wp2_with fail;refine(uW w1).mono ?_;rintro x w2⟨rfl,h2⟩;have H2:Hid (Bw w1 w2):=h2;have y0:=zAa h2 (zAa H1.out x0);have y1:=zAa h2 (zAa H1.out x1);have y2:=zAa h2 (zAa H1.out x2);have y3:=zAa h2 (zAa H1.out x3);have y4:=zAa h2 (zAa H1.out x4);have gd:w.heap.size<w2.heap.size:=jC M0 (jM H1.out.size h2.size);clear uW h2 x0 x1 x2 x3 x4;go_wp2_with fail;refine(uj w2).mono ?_;rintro x w3⟨rfl,h3⟩;have H3:Hid (Bw w w3):=(uO.out.trans ((H1.out.trans ((H2.out.trans (h3.mono H2.out.size)).mono H1.out.size)).mono uO.out.size));have u0:=zAa h3 y0;have u1:=zAa h3 y1;have u2:=zAa h3 y2;have u3:=zAa h3 y3
  have u4:=zAa h3 y4;have uT:w.heap.size<w3.heap.size:=jC gd h3.size;obtain⟨Hh,G4⟩:=pA.out _ _ ((HO.out.below H2.out).below h3);have Pw:=fun o=>World.ownsMap.alloc Hh o
  clear uj h3 y0 y1 y2 y3 y4;by_cases h6:T=60
  ·have GE:Hid (∀o,POST (.returned (.tuple #[.slice none 0 0,.iface 80 (.int .i64 4)])) (w3.alloc o)):=fun o=>Hx.out _ 4 (HEa.out h6) (by omega) (H3.out.alloc H3.out.size _)
   have hz6:(z:Int)=60:=by omega
   have Bk:z=60:=by omega
   subst Bk;clear Hx hz6 h6 MZ;go_wp2_with (first|(at_lookup;refine zBq _ rfl _ _ 129 rfl 3 133 lawI underlying129 (zGD _) B _ _ rfl Hh _ _ rfl gJ _ _ _ ha hh ?_)|(at_len;refine wpList_len_own _ rfl _ 129 rfl 3 133 underlying129 plR B _ _ rfl (Pw _) ?_;rw[G4]))
   exact GE.out _
  ·have hz6:¬((z:Int)=60):=by omega
   have Bk:¬(z=60):=by omega
   have hz61:((z:Int) == 60)=false:=by simp;omega
   have Gd:Hid (∀o,Bw w (w3.alloc o)):=fun o=>H3.out.alloc H3.out.size _
   have HE0:=HEb.out h6;clear Hx MZ h6 HEa HEb;go_wp2_with (first|(at_lookup;refine zBq _ rfl _ _ 129 rfl 3 133 lawI underlying129 (zGD _) B _ _ rfl Hh _ _ rfl gJ _ _ _ ha hh ?_)|(at_len;refine wpList_len_own _ rfl _ 129 rfl 3 133 underlying129 plR B _ _ rfl (Pw _) ?_;rw[G4]))
   have uI:Hid (Bw w3 (w3.alloc (.cells #[.int .i64 0,.int .i64 0] 133))):=(bzR _ _).alloc (nzR _) _;have bl:=Gd.out (.cells #[.int .i64 0,.int .i64 0] 133);generalize w3.alloc (.cells #[.int .i64 0,.int .i64 0] 133)=W4 at *;refine(pP.out W4 bl).mono ?_;rintro x w5⟨v5,aa,⟨⟨xp,xq,xn,xc⟩,zs⟩,bb,rfl,hD,Bj,uS,U9⟩;simp only[] at Bj uS;have hzl:zs.length≤60:=HZ3.out _ _ _ (uS _);have bO:=hD.each (⟨xp,xq,xn,xc⟩,zs) (by simp)
   have hxn:xn=zs.length:=by
    obtain⟨q',c',e⟩:=OwnM.form bO;have e' : Value.slice xq xn xc=.slice q' zs.length c':=e;simp at e';exact e'.2.1
   subst hxn;subst Bj;have bh:=hD.own;rw[jH,jF,jK] at bh;rcases bh.2 with ⟨-,hz⟩|⟨g,off,cap,cur,e5,-,-,UL,ga,-,-⟩
   ·simp at hz
   ·rw[show (aa.map (·.1)++(⟨xp,xq,zs.length,xc⟩:rlv.RL)::bb.map (·.1)).length=(aa++(((⟨xp,xq,zs.length,xc⟩:rlv.RL),zs):RP)::bb).length by simp] at e5 UL
    subst e5;have Pd:cap≤9223372036854775807:=(by simpa [maxLen] using ga);obtain⟨-,-,c1,gB,dF,Up⟩:=zDn bh;rw[jP] at c1;have f1:=gB (off+aa.length*2+1);have B8:aa.length<(aa++(((⟨xp,xq,zs.length,xc⟩:rlv.RL),zs):RP)::bb).length:=(by simp);have t0:=zAa U9 (zAa uI.out u0);have t1:=zAa U9 (zAa uI.out u1);have t2:=zAa U9 (zAa uI.out u2);have t3:=zAa U9 (zAa uI.out u3);have t4:=zAa U9 (zAa uI.out u4);have Bi:w.heap.size<W4.heap.size:=jC uT uI.out.size;have UD:w.heap.size<w5.heap.size:=jC Bi U9.size;obtain⟨i0,hi,gH,gw,gD⟩:=infoR';have HI:Hid (prog.info? 54=some i0):=hi;have OV:Hid (OwnM w5 W4.heap.size 54 5 (.slice xq zs.length xc) zs.length (flat zs)):=bO
    have HDW:Hid (∀W W' q' c',Bw w5 W→W.grownBy W' (Value.slice xq zs.length xc).ownBlock→OwnM W' W4.heap.size 54 5 (.slice q' (zs.length+1) c') (zs.length+1) (flat zs++[.int .i64 a,.int .i64 b,.int .i64 c,.int .i64 d,.int .i64 e])→((Value.slice q' (zs.length+1) c').ownBlock=(Value.slice xq zs.length xc).ownBlock∨(Value.slice q' (zs.length+1) c').ownBlock=some W.heap.size)→POST (.returned (.tuple #[.slice (some ⟨g,off,none⟩) (aa++(((⟨xp,xq,zs.length,xc⟩:rlv.RL),zs):RP)::bb).length cap,.nilIface])) (W'.setCell ⟨g,off+aa.length*2+1,none⟩ (.slice q' (zs.length+1) c'))):=fun W W' q' c' hW hg hO Gk=>by
     have hDW:=hD.below hW;have ul:OwnQ W' W4.heap.size (.slice q' (zs.length+1) c') (zs++[⟨a,b,c,d,e⟩]):=by
      show OwnM _ _ _ _ _ _ _
      rw[wAg,jE];exact hO
     have dO:=DeepT.swap hDW hg ul (Gk.imp id (fun e=>⟨_,e,nzR _⟩))
     have Hj:∀k,(Value.slice xq zs.length xc).ownBlock=some k→W4.heap.size≤k:=fun k hk=>(OwnM.lt bO k hk).1
     have Hk:Bw W4 W:=U9.trans (hW.mono U9.size);have hBW' : Bw W4 W':=Hk.grown hg Hk.size Hj;refine px.out _ _ (bl.trans (((hBW'.setCell dF _)).mono bl.size)) HE0 ?_;rw[uS,show aa.map toL++(⟨xp,zs++[⟨a,b,c,d,e⟩]⟩:L)::bb.map toL=(aa++(((⟨xp,q',zs.length+1,c'⟩:rlv.RL),zs++[⟨a,b,c,d,e⟩]):RP)::bb).map toL by simp[toL]]
     exact⟨_,rfl,dO.mono bl.size⟩
    have C8:∀k,(Value.slice xq zs.length xc).ownBlock=some k→W4.heap.size≤k∧k<w5.heap.size:=fun k hk=>OwnM.lt bO k hk
    have kf:(Value.slice xq zs.length xc).ownBlock≠some g:=fun e=>hD.far (⟨xp,xq,zs.length,xc⟩,zs) (by simp) g e rfl
    clear hD uS hi bO bh pP px HZ3 HE0 gB ga Hh Pw G4 ha hh gJ pA u0 u1 u2 u3 u4;generalize gh:aa.length=k at *;generalize Ma:(aa++(((⟨xp,xq,zs.length,xc⟩:rlv.RL),zs):RP)::bb).length=n at *;clear gh Ma;have Ug:¬((k:Int)<0):=(by omega);have UC:(k:Int)<(n:Int):=(by omega);have hk6:(0:Int)≤(k:Int):=(by omega);have ut:Hid (Bw W4 w5):=U9;have SO:Hid (∀W,Bw w5 W→(Bw W4 W∧W.cell? ⟨g,off+k*2+1,none⟩=some (.slice xq zs.length xc)∧W.frozen? ⟨g,off+k*2+1,none⟩=false∧W.cell? ⟨w.heap.size,0,none⟩=some (.int .i64 a)∧W.cell? ⟨w.heap.size,1,none⟩=some (.int .i64 b)∧W.cell? ⟨w.heap.size,2,none⟩=some (.int .i64 c)∧W.cell? ⟨w.heap.size,3,none⟩=some (.int .i64 d)∧W.cell? ⟨w.heap.size,4,none⟩=some (.int .i64 e))):=fun W hW=>⟨ut.out.trans (hW.mono ut.out.size),zAa hW c1,(hW.frozen (p:=⟨g,off+k*2+1,none⟩) Up).trans f1,zAa hW t0,zAa hW t1,zAa hW t2,zAa hW t3,zAa hW t4⟩
    have SG:Hid (∀W W',Bw w5 W→W.grownBy W' (Value.slice xq zs.length xc).ownBlock→(Bw W4 W'∧W'.cell? ⟨g,off+k*2+1,none⟩=some (.slice xq zs.length xc)∧W'.frozen? ⟨g,off+k*2+1,none⟩=false∧W'.cell? ⟨w.heap.size,0,none⟩=some (.int .i64 a)∧W'.cell? ⟨w.heap.size,1,none⟩=some (.int .i64 b)∧W'.cell? ⟨w.heap.size,2,none⟩=some (.int .i64 c)∧W'.cell? ⟨w.heap.size,3,none⟩=some (.int .i64 d)∧W'.cell? ⟨w.heap.size,4,none⟩=some (.int .i64 e))):=fun W W' hW hg=>by
     have Hk:Bw W4 W:=ut.out.trans (hW.mono ut.out.size);have hgW:g<W.heap.size:=jC Up hW.size;have PI:w.heap.size<W.heap.size:=jC UD hW.size;have H7:some g≠(Value.slice xq zs.length xc).ownBlock:=fun e=>kf e.symm
     have ET:some w.heap.size≠(Value.slice xq zs.length xc).ownBlock:=fun e=>by have:=(C8 _ e.symm).1;omega
     refine⟨Hk.grown hg Hk.size (fun k hk=>(C8 k hk).1),?_,?_,?_,?_,?_,?_,?_⟩
     ·rw[hg.cell_far ⟨g,off+k*2+1,none⟩ hgW H7];exact zAa hW c1
     ·rw[World.frozen?_of_block (hg.block g hgW H7)];exact(hW.frozen (p:=⟨g,off+k*2+1,none⟩) Up).trans f1
     ·rw[hg.cell_far ⟨w.heap.size,0,none⟩ PI ET];exact zAa hW t0
     ·rw[hg.cell_far ⟨w.heap.size,1,none⟩ PI ET];exact zAa hW t1
     ·rw[hg.cell_far ⟨w.heap.size,2,none⟩ PI ET];exact zAa hW t2
     ·rw[hg.cell_far ⟨w.heap.size,3,none⟩ PI ET];exact zAa hW t3
     ·rw[hg.cell_far ⟨w.heap.size,4,none⟩ PI ET];exact zAa hW t4
    have hszV:W4.heap.size≤w5.heap.size:=ut.out.size;clear U9 C8 kf;go_upto_region 16 with fail
    go_region_law (refine wAk _ rfl _ _ 88 rfl W4.heap.size 54 i0 zeroR 5 40 underlying88 HI.out gH gw gD rfl (.slice xq zs.length xc) zs.length (flat zs) rfl (OwnM.below OV.out (by(with_reducible repeat' (first|assumption|refine bal ?_ _|refine Below.setCell ?_ ?_ _|refine Below.drew ?_|exact bzR _ _|exact nzR _|exact Below.size (by assumption)|refine jD ?_)))) _ 1 1 [.int .i64 a,.int .i64 b,.int .i64 c,.int .i64 d,.int .i64 e] rfl rfl (World.news_of_block (cs:=#[.int .i64 a,.int .i64 b,.int .i64 c,.int .i64 d,.int .i64 e]) (jA _ _)) (by simp[Value.oneCell']) (by unfold maxLen;omega) (by omega) (jM hszV (Below.size (w:=w5) (B:=w5.heap.size) (by(with_reducible repeat' (first|assumption|refine bal ?_ _|refine Below.setCell ?_ ?_ _|refine Below.drew ?_|exact bzR _ _|exact nzR _|exact Below.size (by assumption)|refine jD ?_))))) ?_;intro v' w' gA Hw Gk;have M9:=SG.out _ _ (by(with_reducible repeat' (first|assumption|refine bal ?_ _|refine Below.setCell ?_ ?_ _|refine Below.drew ?_|exact bzR _ _|exact nzR _|exact Below.size (by assumption)|refine jD ?_))) Hw;obtain⟨q',c',rfl⟩:=OwnM.form gA;have md:=HDW.out _ _ _ _ (by(with_reducible repeat' (first|assumption|refine bal ?_ _|refine Below.setCell ?_ ?_ _|refine Below.drew ?_|exact bzR _ _|exact nzR _|exact Below.size (by assumption)|refine jD ?_))) Hw gA Gk;have hS9:=M9;obtain⟨CD,Uy,hS4,-⟩:=M9)
    all_goals
     go_wp2_with fail;exact md
theorem add_ok(s:Int)(vq:Option Addr)(vm vc:Nat)(ls:List L)(p:Int)(a b c d e:Int)(w V0:World)(ud:V0=w.alloc (.cells #[.int .i64 a,.int .i64 b,.int .i64 c,.int .i64 d,.int .i64 e] 54))(h:LS w (.slice vq vm vc) ls)(h0:schk s ls=0) :
  Calls prog 186 #[.int .i64 s,.slice vq vm vc,.int .i64 p,.agg #[.int .i64 a,.int .i64 b,.int .i64 c,.int .i64 d,.int .i64 e]] w fun x w'=>AddPost s ls p ⟨a,b,c,d,e⟩ w x w':=by
 have gR:Bw w V0:=by rw[ud];exact(bzR _ _).alloc (nzR _) _
 have GF:V0.heap[w.heap.size]?=some (.cells #[.int .i64 a,.int .i64 b,.int .i64 c,.int .i64 d,.int .i64 e] 54 (0,0)):=by rw[ud];exact jA w _
 have Hf:=zBV s _ ls V0 (h.below gR);have uO:Hid (Bw w V0):=gR;have U3:Hid (∀W,Bw w W→LS W (.slice vq vm vc) ls):=fun W hW=>h.below hW
 have x0:V0.cell? ⟨w.heap.size,0,none⟩=some (.int .i64 a):=by simp[World.cell?,GF]
 have x1:V0.cell? ⟨w.heap.size,1,none⟩=some (.int .i64 b):=by simp[World.cell?,GF]
 have x2:V0.cell? ⟨w.heap.size,2,none⟩=some (.int .i64 c):=by simp[World.cell?,GF]
 have x3:V0.cell? ⟨w.heap.size,3,none⟩=some (.int .i64 d):=by simp[World.cell?,GF]
 have x4:V0.cell? ⟨w.heap.size,4,none⟩=some (.int .i64 e):=by simp[World.cell?,GF]
 have UT:Hid (∀x w',PlacesPost s ls V0 x w'→Bw V0 w'∧∃B,x=.returned (.tuple #[.map (some B),.nilIface])∧Own w' B (flatP 0 ls)):=fun x w' hp=>by
  obtain⟨h1,⟨h2,_⟩|⟨_,B,_,h3,h4⟩⟩:=hp
  ·exact absurd h0 h2
  ·exact⟨h1,B,h3,h4⟩
 have uW:=fun W hW=>zAU V0 p W hW
 clear gR GF h;cases hp:zAn p
 ·rw[hp] at uW;simp only[show errB false=.iface 80 (.int .i64 1) from rfl] at uW
  have HX:Hid (∀W,Bw w W→AddPost s ls p ⟨a,b,c,d,e⟩ w (.returned (.tuple #[.slice none 0 0,.iface 80 (.int .i64 1)])) W):=fun W hW=>zFP (by unfold addE;rw[if_pos h0,if_neg (by simp[hp])]) (by omega) hW
  generalize AddPost s ls p ⟨a,b,c,d,e⟩ w=POST at *;clear h0 hp x0 x1 x2 x3 x4;go_enter func186,ntmps186;go_wp2_with fail;rw[←ud];refine Hf.mono ?_;rintro x w1 hp;obtain⟨h1,B,rfl,hO⟩:=UT.out _ _ hp;have H1:Hid (Bw V0 w1):=h1;clear Hf UT hp h1 hO;go_wp2_with fail;refine(uW w1 H1.out).mono ?_;rintro x w2⟨rfl,h2⟩;have GE:=HX.out w2 (uO.out.trans (h2.mono uO.out.size));clear uW h2 HX;go_wp2_with fail;exact GE
 ·rw[hp] at uW;simp only[show errB true=.nilIface from rfl] at uW
  have uj:=fun W=>zCT a b c d e W
  by_cases hr:rchk ⟨a,b,c,d,e⟩=0
  ·rw[hr,wAa] at uj;have gJ:keyOf prog 3 (.int .i64 a)=some (.int .i64 a):=keyOf_int_mk underlying3 (wf_id (r:=⟨a,b,c,d,e⟩) hr);exact add_in s vq vm vc ls p a b c d e w V0 ud U3 h0 hp hr gJ
  ·rw[wAb hr] at uj;have HX:Hid (∀W,Bw w W→AddPost s ls p ⟨a,b,c,d,e⟩ w (.returned (.tuple #[.slice none 0 0,.iface 80 (.int .i64 (rchk ⟨a,b,c,d,e⟩))])) W):=fun W hW=>zFP (by unfold addE;rw[if_pos h0,if_pos hp,if_neg hr]) hr hW
   generalize AddPost s ls p ⟨a,b,c,d,e⟩ w=POST at *;generalize rchk ⟨a,b,c,d,e⟩=k at *;clear h0 hp hr;go_enter func186,ntmps186;go_wp2_with fail;rw[←ud];refine Hf.mono ?_;rintro x w1 hp;obtain⟨h1,B,rfl,hO⟩:=UT.out _ _ hp;have H1:Hid (Bw V0 w1):=h1;clear Hf UT hp h1 hO;go_wp2_with fail;refine(uW w1 H1.out).mono ?_;rintro x w2⟨rfl,h2⟩;have H2:Hid (Bw V0 w2):=h2;have y0:=zAa h2 x0;have y1:=zAa h2 x1;have y2:=zAa h2 x2;have y3:=zAa h2 x3;have y4:=zAa h2 x4;clear uW h2 x0 x1 x2 x3 x4;go_wp2_with fail;refine(uj w2).mono ?_;rintro x w3⟨rfl,h3⟩;have GE:=HX.out w3 (uO.out.trans ((H2.out.trans (h3.mono H2.out.size)).mono uO.out.size));clear uj h3 HX y0 y1 y2 y3 y4;go_wp2_with fail;exact GE
theorem zDs(s:Int)(v:Value)(ls:List L)(p:Int)(a b c d e:Int)(w:World)(h:LS w v ls) :
  Calls prog 186 #[.int .i64 s,v,.int .i64 p,.agg #[.int .i64 a,.int .i64 b,.int .i64 c,.int .i64 d,.int .i64 e]] w fun x w'=>AddPost s ls p ⟨a,b,c,d,e⟩ w x w':=by
 obtain⟨V0,ud⟩:∃V0,V0=w.alloc (.cells #[.int .i64 a,.int .i64 b,.int .i64 c,.int .i64 d,.int .i64 e] 54):=⟨_,rfl⟩;have gR:Bw w V0:=by rw[ud];exact(bzR _ _).alloc (nzR _) _
 obtain⟨vq,vm,vc,rfl⟩:=zFD h;have Hf:=zBV s _ ls V0 (h.below gR);have uO:Hid (Bw w V0):=gR;by_cases h0:schk s ls=0
 ·exact add_ok s vq vm vc ls p a b c d e w V0 ud h h0
 ·have UT:Hid (∀x w',PlacesPost s ls V0 x w'→Bw V0 w'∧x=.returned (.tuple #[.map none,.iface 80 (.int .i64 (schk s ls))])):=fun x w' hp=>by
   obtain⟨h1,⟨_,h3⟩|⟨h2,_⟩⟩:=hp
   ·rw[wAb h0] at h3;exact⟨h1,h3⟩
   ·exact absurd h2 h0
  have HX:Hid (∀W,Bw w W→AddPost s ls p ⟨a,b,c,d,e⟩ w (.returned (.tuple #[.slice none 0 0,.iface 80 (.int .i64 (schk s ls))])) W):=fun W hW=>zFP (by unfold addE;rw[if_neg h0]) h0 hW
  generalize AddPost s ls p ⟨a,b,c,d,e⟩ w=POST at *;generalize schk s ls=k at UT HX;clear h0 h gR;go_enter func186,ntmps186;go_wp2_with fail;rw[←ud];refine Hf.mono ?_;rintro x w1 hp;obtain⟨h1,rfl⟩:=UT.out _ _ hp;have GE:=HX.out w1 (uO.out.trans (h1.mono uO.out.size));clear Hf UT hp h1 HX;go_wp2_with fail;exact GE
end sid
namespace rlv
open Go.RowKit spn que sid
theorem zeroVR(w:World):(zeroValue 94).run prog w=.ok zeroR w:=by kernel_rfl
theorem wAO(w:World)(base g off n c i j:Nat)(xs:List Value)(ho:OwnM w base 94 2 (.slice (some ⟨g,off,none⟩) n c) n xs)(hij:i<j)(hj:j≤n)(Ml:∀u∈xs,u.oneCell'=true) :
  Calls prog 175 #[.slice (some ⟨g,off,none⟩) n c,.int .i64 i,.int .i64 j] w fun e w'=>e=.returned (.slice (some ⟨g,off,none⟩) (i+(n - j)) c)∧OwnM w' base 94 2 (.slice (some ⟨g,off,none⟩) (i+(n - j)) c) (i+(n - j)) (xs.take (i*2)++xs.drop (j*2))∧w.grownBy w' (some g):=by
 obtain⟨ui,G7,⟨cur,G0,Gy⟩,GM,ga,GU,uN⟩:=wAh ho;have CM:c≤9223372036854775807:=by simpa [maxLen] using ga
 obtain⟨i0,Gg,gH,gw,gD⟩:=rlv.infoR';have GQ:(xs.drop (j*2)).length=(n - j)*2:=by rw[jQ,ui];omega
 have gP:(xs.take (i*2)).length=i*2:=by rw[jJ,ui];omega
 have gM:xs=xs.take (i*2)++xs.drop (i*2):=(jR _ _).symm;have UX:xs=xs.take (j*2)++xs.drop (j*2):=(jR _ _).symm;have go:w.rangeAt g off (xs.take (i*2)):=by rw[gM] at GU;exact wAB GU
 have H5:w.rangeAt g (off+j*2) (xs.drop (j*2)):=by
  rw[UX] at GU;have:=wAw GU;rwa [jJ,ui,Nat.min_eq_left (by omega)] at this
 have Gw:∀o k,o+k≤c*2→w.there g (off+o) k:=fun o k hk q hq=>by rw[Nat.add_assoc];exact uN (o+q) (by omega)
 obtain⟨news,Hl⟩:∃news,news=xs.drop (j*2):=⟨_,rfl⟩;obtain⟨A,hA,Mf⟩:∃A:Addr,(if c=j then some (⟨g,off,none⟩:Addr) else some ⟨g,off+j*2,none⟩)=some A∧Hid (∀t u,news[t]?=some u→w.drew.cell? (A.add t)=some u):=by
  by_cases h:c=j
  ·refine⟨⟨g,off,none⟩,by simp[h],fun t u hu=>?_⟩
   have h0:news.length=0:=by rw[Hl,GQ];omega
   rw[List.length_eq_zero_iff.1 h0] at hu;simp at hu
  ·refine⟨⟨g,off+j*2,none⟩,by simp[h],fun t u hu=>?_⟩
   rw[Addr.add_lit];rw[Hl] at hu;exact H5 t u hu
 have s1:Hid (news.length=(n - j)*2):=by show _=_;rw[Hl,GQ]
 have s2:Hid (∀u∈news,u.oneCell'=true):=fun u hu=>Ml u (List.mem_of_mem_drop (by rw[Hl] at hu;exact hu))
 have s3:Hid (∀t,t<news.length→(w.drew.cell? ⟨g,off+i*2+t,none⟩).isSome=true∧w.drew.frozen? ⟨g,off+i*2+t,none⟩=false):=fun t ht=>by
  have PD:t<(n - j)*2:=by rw[Hl,GQ] at ht;exact ht
  exact Gw (i*2) ((n - j)*2) (by omega) t PD
 obtain⟨W1,gb⟩:∃W1,W1=w.drew.setCells g (off+i*2) news:=⟨_,rfl⟩;have GC:∀o k,o+k≤c*2→W1.there g (off+o) k:=fun o k hk=>by rw[gb];exact World.there_setCells ((World.there_drew _ _ _ _).2 (Gw o k hk)) _ _ _
 have mh:∀ty,(Builtin.clear_ #[48] ty #[.slice (some ⟨g,off+(i+(n - j))*2,none⟩) (n - (i+(n - j))) (c - (i+(n - j)))]).run prog W1=.ok (.tuple #[]) (W1.setCells g (off+(i+(n - j))*2) (Builtin.zeroCells zeroR.cells (n - (i+(n - j)))).toList):=
  fun ty=>wAx W1 _ _ ty zeroR 2 underlying48 zeroVR rfl (by simp[zeroR,Value.cells,Value.oneCell']) g _ _ _ (by omega) (GC _ _ (by omega))
 have Hx:Hid (OwnM (W1.setCells g (off+(i+(n - j))*2) (Builtin.zeroCells zeroR.cells (n - (i+(n - j)))).toList) base 94 2 (.slice (some ⟨g,off,none⟩) (i+(n - j)) c) (i+(n - j)) (xs.take (i*2)++xs.drop (j*2))∧w.grownBy (W1.setCells g (off+(i+(n - j))*2) (Builtin.zeroCells zeroR.cells (n - (i+(n - j)))).toList) (some g)):=by
  obtain⟨cur1,Ha,Hm⟩:=wAj g 94 (0,0) news (off+i*2) w.drew cur G0;rw[←gb] at Ha;obtain⟨cur2,Hc,gd⟩:=wAj g 94 (0,0) (Builtin.zeroCells zeroR.cells (n - (i+(n - j)))).toList (off+(i+(n - j))*2) W1 cur1 Ha;refine⟨wAy ?_ G7 Hc (by rw[gd,Hm];exact Gy) (by omega) ga ?_,?_⟩
  ·rw[jE,gP,GQ];omega
  ·refine wAr ?_ ?_
   ·refine World.rangeAt_setCells_apart ?_ _ _ _ (.inr (.inl (by rw[gP];omega)))
    rw[gb];exact World.rangeAt_setCells_apart ((World.rangeAt_drew _ _ _ _).2 go) _ _ _ (.inr (.inl (by rw[gP];omega)))
   ·rw[gP];refine World.rangeAt_setCells_apart ?_ _ _ _ (.inr (.inl (by rw[GQ];omega)))
    rw[gb,Hl];exact World.rangeAt_setCells_same _ _ _ _ ((World.there_drew _ _ _ _).2 (Gw _ _ (by rw[GQ];omega)))
  ·rw[gb];exact wAe (wAe (wAH _ _) (wAi g _ _ _)) (wAi g _ _ _)
 have hW:Hid (W1=w.drew.setCells g (off+i*2) news):=gb;obtain⟨W2,H9⟩:∃W2,W2=W1.setCells g (off+(i+(n - j))*2) (Builtin.zeroCells zeroR.cells (n - (i+(n - j)))).toList:=⟨_,rfl⟩;rw[←H9] at Hx;simp only[←H9] at mh;clear H9;have hic:i≤c:=by omega
 have hjc:j≤c:=by omega
 have H7:¬((i:Int)=(j:Int)):=by omega
 have MX:¬(i=j):=by omega
 clear gb ho ui G0 Gy GU uN GQ gP gM UX go H5 Gw GC Hl Ml ga G7 gH gD;go_enter func175,ntmps175;go_wp2_with fail
 go_region_law (refine step_append_room rfl (.tmp 22) (.tmp 25) 48 rfl 94 i0 2 underlying48 Gg gw g off i c (by simp[Act.eval,Act.put]) A (n - j) (c - j) news (by simp[Act.eval,Act.put]) s1.out Mf.out s2.out (by omega) s3.out ?_;rw[←hW.out])
 go_wp2
 go_ret;exact⟨rfl,Hx.out⟩
end rlv
namespace que
open Go.RowKit spn que sid
theorem zeroVR(w:World):(zeroValue 54).run prog w=.ok zeroR w:=by kernel_rfl
theorem wAO(w:World)(base g off n c i j:Nat)(xs:List Value)(ho:OwnM w base 54 5 (.slice (some ⟨g,off,none⟩) n c) n xs)(hij:i<j)(hj:j≤n)(Ml:∀u∈xs,u.oneCell'=true) :
  Calls prog 176 #[.slice (some ⟨g,off,none⟩) n c,.int .i64 i,.int .i64 j] w fun e w'=>e=.returned (.slice (some ⟨g,off,none⟩) (i+(n - j)) c)∧OwnM w' base 54 5 (.slice (some ⟨g,off,none⟩) (i+(n - j)) c) (i+(n - j)) (xs.take (i*5)++xs.drop (j*5))∧w.grownBy w' (some g):=by
 obtain⟨ui,G7,⟨cur,G0,Gy⟩,GM,ga,GU,uN⟩:=wAh ho;have CM:c≤9223372036854775807:=by simpa [maxLen] using ga
 obtain⟨i0,Gg,gH,gw,gD⟩:=que.infoR';have GQ:(xs.drop (j*5)).length=(n - j)*5:=by rw[jQ,ui];omega
 have gP:(xs.take (i*5)).length=i*5:=by rw[jJ,ui];omega
 have gM:xs=xs.take (i*5)++xs.drop (i*5):=(jR _ _).symm;have UX:xs=xs.take (j*5)++xs.drop (j*5):=(jR _ _).symm;have go:w.rangeAt g off (xs.take (i*5)):=by rw[gM] at GU;exact wAB GU
 have H5:w.rangeAt g (off+j*5) (xs.drop (j*5)):=by
  rw[UX] at GU;have:=wAw GU;rwa [jJ,ui,Nat.min_eq_left (by omega)] at this
 have Gw:∀o k,o+k≤c*5→w.there g (off+o) k:=fun o k hk q hq=>by rw[Nat.add_assoc];exact uN (o+q) (by omega)
 obtain⟨news,Hl⟩:∃news,news=xs.drop (j*5):=⟨_,rfl⟩;obtain⟨A,hA,Mf⟩:∃A:Addr,(if c=j then some (⟨g,off,none⟩:Addr) else some ⟨g,off+j*5,none⟩)=some A∧Hid (∀t u,news[t]?=some u→w.drew.cell? (A.add t)=some u):=by
  by_cases h:c=j
  ·refine⟨⟨g,off,none⟩,by simp[h],fun t u hu=>?_⟩
   have h0:news.length=0:=by rw[Hl,GQ];omega
   rw[List.length_eq_zero_iff.1 h0] at hu;simp at hu
  ·refine⟨⟨g,off+j*5,none⟩,by simp[h],fun t u hu=>?_⟩
   rw[Addr.add_lit];rw[Hl] at hu;exact H5 t u hu
 have s1:Hid (news.length=(n - j)*5):=by show _=_;rw[Hl,GQ]
 have s2:Hid (∀u∈news,u.oneCell'=true):=fun u hu=>Ml u (List.mem_of_mem_drop (by rw[Hl] at hu;exact hu))
 have s3:Hid (∀t,t<news.length→(w.drew.cell? ⟨g,off+i*5+t,none⟩).isSome=true∧w.drew.frozen? ⟨g,off+i*5+t,none⟩=false):=fun t ht=>by
  have PD:t<(n - j)*5:=by rw[Hl,GQ] at ht;exact ht
  exact Gw (i*5) ((n - j)*5) (by omega) t PD
 obtain⟨W1,gb⟩:∃W1,W1=w.drew.setCells g (off+i*5) news:=⟨_,rfl⟩;have GC:∀o k,o+k≤c*5→W1.there g (off+o) k:=fun o k hk=>by rw[gb];exact World.there_setCells ((World.there_drew _ _ _ _).2 (Gw o k hk)) _ _ _
 have mh:∀ty,(Builtin.clear_ #[88] ty #[.slice (some ⟨g,off+(i+(n - j))*5,none⟩) (n - (i+(n - j))) (c - (i+(n - j)))]).run prog W1=.ok (.tuple #[]) (W1.setCells g (off+(i+(n - j))*5) (Builtin.zeroCells zeroR.cells (n - (i+(n - j)))).toList):=
  fun ty=>wAx W1 _ _ ty zeroR 5 underlying88 zeroVR rfl (by simp[zeroR,Value.cells,Value.oneCell']) g _ _ _ (by omega) (GC _ _ (by omega))
 have Hx:Hid (OwnM (W1.setCells g (off+(i+(n - j))*5) (Builtin.zeroCells zeroR.cells (n - (i+(n - j)))).toList) base 54 5 (.slice (some ⟨g,off,none⟩) (i+(n - j)) c) (i+(n - j)) (xs.take (i*5)++xs.drop (j*5))∧w.grownBy (W1.setCells g (off+(i+(n - j))*5) (Builtin.zeroCells zeroR.cells (n - (i+(n - j)))).toList) (some g)):=by
  obtain⟨cur1,Ha,Hm⟩:=wAj g 54 (0,0) news (off+i*5) w.drew cur G0;rw[←gb] at Ha;obtain⟨cur2,Hc,gd⟩:=wAj g 54 (0,0) (Builtin.zeroCells zeroR.cells (n - (i+(n - j)))).toList (off+(i+(n - j))*5) W1 cur1 Ha;refine⟨wAy ?_ G7 Hc (by rw[gd,Hm];exact Gy) (by omega) ga ?_,?_⟩
  ·rw[jE,gP,GQ];omega
  ·refine wAr ?_ ?_
   ·refine World.rangeAt_setCells_apart ?_ _ _ _ (.inr (.inl (by rw[gP];omega)))
    rw[gb];exact World.rangeAt_setCells_apart ((World.rangeAt_drew _ _ _ _).2 go) _ _ _ (.inr (.inl (by rw[gP];omega)))
   ·rw[gP];refine World.rangeAt_setCells_apart ?_ _ _ _ (.inr (.inl (by rw[GQ];omega)))
    rw[gb,Hl];exact World.rangeAt_setCells_same _ _ _ _ ((World.there_drew _ _ _ _).2 (Gw _ _ (by rw[GQ];omega)))
  ·rw[gb];exact wAe (wAe (wAH _ _) (wAi g _ _ _)) (wAi g _ _ _)
 have hW:Hid (W1=w.drew.setCells g (off+i*5) news):=gb;obtain⟨W2,H9⟩:∃W2,W2=W1.setCells g (off+(i+(n - j))*5) (Builtin.zeroCells zeroR.cells (n - (i+(n - j)))).toList:=⟨_,rfl⟩;rw[←H9] at Hx;simp only[←H9] at mh;clear H9;have hic:i≤c:=by omega
 have hjc:j≤c:=by omega
 have H7:¬((i:Int)=(j:Int)):=by omega
 have MX:¬(i=j):=by omega
 clear gb ho ui G0 Gy GU uN GQ gP gM UX go H5 Gw GC Hl Ml ga G7 gH gD;go_enter func176,ntmps176;go_wp2_with fail
 go_region_law (refine step_append_room rfl (.tmp 22) (.tmp 25) 88 rfl 54 i0 5 underlying88 Gg gw g off i c (by simp[Act.eval,Act.put]) A (n - j) (c - j) news (by simp[Act.eval,Act.put]) s1.out Mf.out s2.out (by omega) s3.out ?_;rw[←hW.out])
 go_wp2
 go_ret;exact⟨rfl,Hx.out⟩
end que
namespace sid
open Go.RowKit spn que Go.Maps
theorem zJX(zs:List R)(i:Nat):flat (zs.take i)=(flat zs).take (i*5):=by
 induction zs generalizing i with
 | nil=>simp[flat]
 | cons r t ih=>
  cases i with
  | zero=>simp[flat]
  | succ i=>rw[List.take_succ_cons,wAm,wAm,ih,show (i+1)*5=(rV r).length+i*5 by show _=5+i*5;omega,List.take_length_add_append]
theorem zJY(zs:List R)(i:Nat):flat (zs.drop i)=(flat zs).drop (i*5):=by
 induction zs generalizing i with
 | nil=>simp[flat]
 | cons r t ih=>
  cases i with
  | zero=>simp
  | succ i=>rw[List.drop_succ_cons,wAm,ih,show (i+1)*5=(rV r).length+i*5 by show _=5+i*5;omega,List.drop_length_add_append]
theorem DeepT.delete{w w' : World}{base:Nat}{v v' : Value}{a:List RP}{x:RP}{b:List RP}(h:Deep w base v (a++x::b))(ho:rlv.OwnQ w' base v' ((a++b).map (·.1)))(hg:w.grownBy w' v.ownBlock)(hv:v'.ownBlock=v.ownBlock):Deep w' base v' (a++b):=by
 have hm:∀y∈a++b,y∈a++x::b:=fun y hy=>by
  rcases List.mem_append.1 hy with hy|hy <;>simp[hy]
 refine⟨by rw[jH];exact ho,fun y hy=>zAl (h.each y (hm y hy)) hg (fun z hz=>h.far y (hm y hy) z hz),?_,fun y hy z hz=>by rw[hv];exact h.far y (hm y hy) z hz⟩
 obtain⟨p1,p2,p3⟩:=List.pairwise_append.1 h.apart;exact List.pairwise_append.2 ⟨p1,(List.pairwise_cons.1 p2).2,fun y hy z hz=>p3 y hy z (by simp[hz])⟩
def zMa(s:Int)(ls:List L)(id:Int):List L:=if zAE s ls id=0 then zBl ls (zBk s ls id).1.toNat (zBk s ls id).2.toNat else []
def zDb(s:Int)(ls:List L)(id:Int):R:=if zAE s ls id=0 then ls[(zBk s ls id).1.toNat]!.rests[(zBk s ls id).2.toNat]! else ⟨0,0,0,0,0⟩
def zCp(s:Int)(ls:List L)(id:Int):Int:=if zAE s ls id=0 then ls[(zBk s ls id).1.toNat]!.price else 0
def DropPost(s:Int)(ls:List L)(id:Int)(w:World)(x:Ending)(w' : World):Prop:=
 Bw w w'∧∃v',x=.returned (.tuple #[v',.agg (rV (zDb s ls id)).toArray,.int .i64 (zCp s ls id),errV (zAE s ls id)])∧DL w' w.heap.size v' (zMa s ls id)
theorem zOK(s:Int)(vq:Option Addr)(vm vc:Nat)(ls:List L)(id:Int)(w:World)(h:LS w (.slice vq vm vc) ls)(hid:(Lit.int .i64 id).wf=true)(h0:¬zAE s ls id=0) :
  Calls prog 152 #[.int .i64 s,.slice vq vm vc,.int .i64 id] w fun x w'=>DropPost s ls id w x w':=by
 have HC:=fun W(hW:Bw w W)=>wAs s _ ls id W (h.below hW) hid
 have hf:zBi s ls id=.tuple #[.int .i64 0,.int .i64 0,.iface 80 (.int .i64 (zAE s ls id))]:=by
  unfold zBi zBk;rw[if_neg h0,wAb h0]
 rw[hf] at HC;have HP:Hid (∀W,Bw w W→DropPost s ls id w (.returned (.tuple #[.slice none 0 0,.agg #[.int .i64 0,.int .i64 0,.int .i64 0,.int .i64 0,.int .i64 0],.int .i64 0,.iface 80 (.int .i64 (zAE s ls id))])) W):=fun W hW=>by
  refine⟨hW,.slice none 0 0,?_,?_⟩
  ·unfold zDb zCp;rw[if_neg h0,if_neg h0,wAb h0];rfl
  ·unfold zMa;rw[if_neg h0];exact zFe _ _
 generalize DropPost s ls id w=POST at *;generalize zAE s ls id=k at *;clear h hid h0 hf;go_enter func152,ntmps152;go_wp2_with fail;refine(HC _ ((bzR _ _).alloc (nzR _) _)).mono ?_;rintro x w1⟨rfl,Ha⟩;have hB:Bw w w1:=((bzR _ _).alloc (nzR _) _).trans (Ha.mono (by simp))
 have gc:w1.heap[w.heap.size]?=some (.cells #[.int .i64 0,.int .i64 0,.int .i64 0,.int .i64 0,.int .i64 0] 54 (0,0)):=by
  rw[Ha.block w.heap.size (by simp)]
  exact jA w _
 clear Ha HC;obtain⟨c0,c1,c2,c3,c4,hf⟩:=zAi gc;have f0:=hf 0;have f1:=hf 1;have f2:=hf 2;have f3:=hf 3;have f4:=hf 4;clear hf;have HX:=zBb gc (.int .i64 0) (.int .i64 0) (.int .i64 0) (.int .i64 0) (.int .i64 0);have Gh:Bw w (((((w1.setCell ⟨w.heap.size,0,none⟩ (.int .i64 0)).setCell ⟨w.heap.size,1,none⟩ (.int .i64 0)).setCell ⟨w.heap.size,2,none⟩ (.int .i64 0)).setCell ⟨w.heap.size,3,none⟩ (.int .i64 0)).setCell ⟨w.heap.size,4,none⟩ (.int .i64 0)):=((((hB.setCell (nzR _) _).setCell (nzR _) _).setCell (nzR _) _).setCell (nzR _) _).setCell (nzR _) _;go_wp2_with fail;generalize (((((w1.setCell ⟨w.heap.size,0,none⟩ (.int .i64 0)).setCell ⟨w.heap.size,1,none⟩ (.int .i64 0)).setCell ⟨w.heap.size,2,none⟩ (.int .i64 0)).setCell ⟨w.heap.size,3,none⟩ (.int .i64 0)).setCell ⟨w.heap.size,4,none⟩ (.int .i64 0))=V at *;obtain⟨d0,d1,d2,d3,d4,-⟩:=zAi HX;clear HX
 exact jN (v:=.tuple #[.slice none 0 0,.agg #[.int .i64 0,.int .i64 0,.int .i64 0,.int .i64 0,.int .i64 0],.int .i64 0,.iface 80 (.int .i64 k)]) (by simp[results,results152,go_sem,d0,d1,d2,d3,d4]) rfl (HP.out V Gh)
end sid
end Go.Proofs.YtmhcghgfpfainaaGreatDoor
