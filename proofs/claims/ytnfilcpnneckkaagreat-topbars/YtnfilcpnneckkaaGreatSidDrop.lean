import Derived.Test.YtnfilcpnneckkaaGreatSidWith2
import Derived.Lib.SlicesDelete
set_option maxHeartbeats 4000000
set_option maxRecDepth 100000
namespace Go.Proofs.YtnfilcpnneckkaaGreat
open Tryz
namespace sid
open Go.RowKit spn que Go.Maps
open tickP (errB zAo zAB zBA betR zAU)
def addE(s:Int)(ls:List L)(p:Int)(r:R):Int:=
 if schk s ls=0 then (if zAo p=true then (if rchk r=0 then (if r.id∈ids ls then 7 else if cnt ls=60 then 4 else 0) else rchk r) else 1) else schk s ls
def addL(s:Int)(ls:List L)(p:Int)(r:R):List L:=if addE s ls p r=0 then putL s p r ls else []
def AddPost(s:Int)(ls:List L)(p:Int)(r:R)(w:World)(x:Ending)(w' : World):Prop:=
 Bw w w'∧∃v',x=.returned (.tuple #[v',errV (addE s ls p r)])∧DL w' w.heap.size v' (addL s ls p r)
theorem zOo{s:Int}{ls:List L}{p:Int}{r:R}{k:Int}(h:addE s ls p r=k)(hk:¬k=0):addL s ls p r=[]:=by unfold addL;rw[h,if_neg hk]
theorem zFL{s:Int}{ls:List L}{p:Int}{r:R}{w W:World}{k:Int}(h:addE s ls p r=k)(hk:¬k=0)(hW:Bw w W):AddPost s ls p r w (.returned (.tuple #[.slice none 0 0,.iface 90 (.int .i64 k)])) W:=by
 refine⟨hW,_,?_,by rw[zOo h hk];exact zFb _ _⟩
 rw[h,wAb hk]
theorem add_in(s:Int)(vq:Option Addr)(vm vc:Nat)(ls:List L)(p:Int)(a b c d e:Int)(w V0:World)(Gf:V0=w.alloc (.cells #[.int .i64 a,.int .i64 b,.int .i64 c,.int .i64 d,.int .i64 e] 51))(Uf:Hid (∀W,Bw w W→LS W (.slice vq vm vc) ls))(h0:schk s ls=0)(hp:zAo p=true)(hr:rchk ⟨a,b,c,d,e⟩=0)(G6:keyOf prog 3 (.int .i64 a)=some (.int .i64 a)) :
  Calls prog 81 #[.int .i64 s,.slice vq vm vc,.int .i64 p,.agg #[.int .i64 a,.int .i64 b,.int .i64 c,.int .i64 d,.int .i64 e]] w fun x w'=>AddPost s ls p ⟨a,b,c,d,e⟩ w x w':=by
 have gP:Bw w V0:=by rw[Gf];exact(bzR _ _).alloc (nzR _) _
 have GL:V0.heap[w.heap.size]?=some (.cells #[.int .i64 a,.int .i64 b,.int .i64 c,.int .i64 d,.int .i64 e] 51 (0,0)):=by rw[Gf];exact jA w _
 have Hf:=zBV s _ ls V0 (Uf.out V0 gP);have Gq:Hid (Bw w V0):=gP;have x0:V0.cell? ⟨w.heap.size,0,none⟩=some (.int .i64 a):=by simp[World.cell?,GL]
 have x1:V0.cell? ⟨w.heap.size,1,none⟩=some (.int .i64 b):=by simp[World.cell?,GL]
 have x2:V0.cell? ⟨w.heap.size,2,none⟩=some (.int .i64 c):=by simp[World.cell?,GL]
 have x3:V0.cell? ⟨w.heap.size,3,none⟩=some (.int .i64 d):=by simp[World.cell?,GL]
 have x4:V0.cell? ⟨w.heap.size,4,none⟩=some (.int .i64 e):=by simp[World.cell?,GL]
 have MU:w.heap.size<V0.heap.size:=(gzE.1 GL).1;have uw:Hid (∀x w',PlacesPost s ls V0 x w'→Bw V0 w'∧∃B,x=.returned (.tuple #[.map (some B),.nilIface])∧Own w' B (flatP 0 ls)):=fun x w' hp=>by
  obtain⟨h1,⟨h2,_⟩|⟨_,B,_,h3,h4⟩⟩:=hp
  ·exact absurd h0 h2
  ·exact⟨h1,B,h3,h4⟩
 have uX:=fun W=>zAU W p W (bzR _ _)
 rw[hp] at uX;simp only[show errB true=.nilIface from rfl] at uX
 have uG:=fun W=>zCV a b c d e W
 rw[hr,wAa] at uG;have hh:=zIm (flatP 0 ls) a;have ha:=zKU (flatP 0 ls) a;have Hw:Hid (∀W k,addE s ls p ⟨a,b,c,d,e⟩=k→¬k=0→Bw w W→AddPost s ls p ⟨a,b,c,d,e⟩ w (.returned (.tuple #[.slice none 0 0,.iface 90 (.int .i64 k)])) W):=fun W k h1 h2 h3=>zFL h1 h2 h3
 obtain⟨z1,z2,z3,z4⟩:=zAe h0;have Bf:Hid (¬zAC (flatP 0 ls) a=none→addE s ls p ⟨a,b,c,d,e⟩=7):=fun h=>by unfold addE;rw[if_pos h0,if_pos hp,if_pos hr,if_pos (zGA.2 h)]
 have Gs:Hid (zAC (flatP 0 ls) a=none→cnt ls=60→addE s ls p ⟨a,b,c,d,e⟩=4):=fun h h6=>by unfold addE;rw[if_pos h0,if_pos hp,if_pos hr,if_neg (fun hh=>zGA.1 hh h),if_pos h6]
 have Dm:Hid (zAC (flatP 0 ls) a=none→¬cnt ls=60→addE s ls p ⟨a,b,c,d,e⟩=0):=fun h h6=>by unfold addE;rw[if_pos h0,if_pos hp,if_pos hr,if_neg (fun hh=>zGA.1 hh h),if_neg h6]
 have pk:Hid (∀W v',Bw w W→addE s ls p ⟨a,b,c,d,e⟩=0→DL W w.heap.size v' (putL s p ⟨a,b,c,d,e⟩ ls)→AddPost s ls p ⟨a,b,c,d,e⟩ w (.returned (.tuple #[v',.nilIface])) W):=fun W v' h1 h2 h3=>⟨h1,v',by rw[h2];rfl,by unfold addL;rw[if_pos h2];exact h3⟩
 have Hh:=zDq (zAs z2);have pJ:Hid (∀W,Bw w W→Calls prog 123 #[.int .i64 s,.slice vq vm vc,.int .i64 p] W fun e w'=>WithPost s p ls W e w'):=fun W hW=>zFK s p _ ls W (Uf.out W hW) (by omega) (fun l hl=>by have:=zAV hl;omega) (fun l hl=>(zAf (zAs z2 l hl)).2.1)
 have bT:=zIl z4;generalize AddPost s ls p ⟨a,b,c,d,e⟩ w=POST at *;have po:Hid (∀W B,Own W B (flatP 0 ls)→W.ownsMap prog 3 plR B (flatP 0 ls).length (mapD (flatP 0 ls))∧Maps.size (mapD (flatP 0 ls))=zEc ls):=fun W B h=>⟨h,rfl⟩
 have HZ3:Hid (∀aa zs bb,putL s p ⟨a,b,c,d,e⟩ ls=aa++(⟨p,zs++[⟨a,b,c,d,e⟩]⟩:L)::bb→zs.length≤60):=fun aa zs bb uU=>by
  have h1:=zQv s p ⟨a,b,c,d,e⟩ ls;have h2:(⟨p,zs++[⟨a,b,c,d,e⟩]⟩:L)∈putL s p ⟨a,b,c,d,e⟩ ls:=by rw[uU];simp
  have h3:=zAV h2;simp at h3;omega
 clear h0 hp hr gP GL z1 z2 z3 z4 Hh;cases hl:zAC (flatP 0 ls) a with
 | some t=>
  have HXE:Hid (addE s ls p ⟨a,b,c,d,e⟩=7):=Bf.out (by rw[hl];simp)
  rw[hl] at hh ha;simp only[Option.isSome_some,Option.getD_some] at hh ha;obtain⟨t1,t2,t3⟩:=t;simp only[] at hh ha;clear hl Bf Gs Dm pk pJ bT HZ3;go_enter func81,ntmps81;go_wp2_with fail;rw[←Gf];refine Hf.mono ?_;rintro x w1 hp;obtain⟨h1,B,rfl,hO⟩:=uw.out _ _ hp;have H1:Hid (Bw V0 w1):=h1;have HO:Hid (Own w1 B (flatP 0 ls)):=hO;clear Hf uw hp h1 hO;go_wp2_with fail;refine(uX w1).mono ?_;rintro x w2⟨rfl,h2⟩;have H2:Hid (Bw w1 w2):=h2;have y0:=zAa h2 (zAa H1.out x0);have y1:=zAa h2 (zAa H1.out x1);have y2:=zAa h2 (zAa H1.out x2);have y3:=zAa h2 (zAa H1.out x3);have y4:=zAa h2 (zAa H1.out x4);have H9:w.heap.size<w2.heap.size:=jC MU (jM H1.out.size h2.size);clear uX h2 x0 x1 x2 x3 x4;go_wp2_with fail;refine(uG w2).mono ?_;rintro x w3⟨rfl,h3⟩;have H3:Hid (Bw w w3):=(Gq.out.trans ((H1.out.trans ((H2.out.trans (h3.mono H2.out.size)).mono H1.out.size)).mono Gq.out.size))
  have y0':=zAa h3 y0;have UU:w.heap.size<w3.heap.size:=jC H9 h3.size;obtain⟨Hk,-⟩:=po.out _ _ ((HO.out.below H2.out).below h3);have Gl:Hid (∀o,POST (.returned (.tuple #[.slice none 0 0,.iface 90 (.int .i64 7)])) (w3.alloc o)):=fun o=>Hw.out _ 7 HXE.out (by omega) (H3.out.alloc H3.out.size _)
  clear uG h3 y0 y1 y2 y3 y4 Hw;go_wp2_with (at_lookup;refine zBt _ rfl _ _ 189 rfl 3 194 lawI underlying189 (zGx _) B _ _ rfl Hk _ _ rfl G6 _ _ _ ha hh ?_)
  exact Gl.out _
 | none=>
  rw[hl] at hh ha;simp only[Option.isSome_none,Option.getD_none] at hh ha;have HEa:Hid (cnt ls=60→addE s ls p ⟨a,b,c,d,e⟩=4):=fun h=>Gs.out hl h
  have HEb:Hid (¬cnt ls=60→addE s ls p ⟨a,b,c,d,e⟩=0):=fun h=>Dm.out hl h
  clear hl Bf Gs Dm;generalize zEc ls=z at *;generalize cnt ls=T at *;go_enter func81,ntmps81;go_wp2_with fail;rw[←Gf];refine Hf.mono ?_;rintro x w1 hp;obtain⟨h1,B,rfl,hO⟩:=uw.out _ _ hp;have H1:Hid (Bw V0 w1):=h1;have HO:Hid (Own w1 B (flatP 0 ls)):=hO;clear Hf uw hp h1 hO;go_wp2_with fail;refine(uX w1).mono ?_;rintro x w2⟨rfl,h2⟩;have H2:Hid (Bw w1 w2):=h2;have y0:=zAa h2 (zAa H1.out x0);have y1:=zAa h2 (zAa H1.out x1);have y2:=zAa h2 (zAa H1.out x2);have y3:=zAa h2 (zAa H1.out x3);have y4:=zAa h2 (zAa H1.out x4);have H9:w.heap.size<w2.heap.size:=jC MU (jM H1.out.size h2.size);clear uX h2 x0 x1 x2 x3 x4;go_wp2_with fail;refine(uG w2).mono ?_;rintro x w3⟨rfl,h3⟩;have H3:Hid (Bw w w3):=(Gq.out.trans ((H1.out.trans ((H2.out.trans (h3.mono H2.out.size)).mono H1.out.size)).mono Gq.out.size));have u0:=zAa h3 y0;have u1:=zAa h3 y1;have u2:=zAa h3 y2;have u3:=zAa h3 y3
  have u4:=zAa h3 y4;have UU:w.heap.size<w3.heap.size:=jC H9 h3.size;obtain⟨Hk,ur⟩:=po.out _ _ ((HO.out.below H2.out).below h3);have Pv:=fun o=>World.ownsMap.alloc Hk o
  clear uG h3 y0 y1 y2 y3 y4;by_cases h6:T=60
  ·have Gl:Hid (∀o,POST (.returned (.tuple #[.slice none 0 0,.iface 90 (.int .i64 4)])) (w3.alloc o)):=fun o=>Hw.out _ 4 (HEa.out h6) (by omega) (H3.out.alloc H3.out.size _)
   have hz6:(z:Int)=60:=by omega
   have Bb:z=60:=by omega
   subst Bb;clear Hw hz6 h6 bT;go_wp2_with (first|(at_lookup;refine zBt _ rfl _ _ 189 rfl 3 194 lawI underlying189 (zGx _) B _ _ rfl Hk _ _ rfl G6 _ _ _ ha hh ?_)|(at_len;refine wpList_len_own _ rfl _ 189 rfl 3 194 underlying189 plR B _ _ rfl (Pv _) ?_;rw[ur]))
   exact Gl.out _
  ·have hz6:¬((z:Int)=60):=by omega
   have Bb:¬(z=60):=by omega
   have hz61:((z:Int) == 60)=false:=by simp;omega
   have Gi:Hid (∀o,Bw w (w3.alloc o)):=fun o=>H3.out.alloc H3.out.size _
   have HE0:=HEb.out h6;clear Hw bT h6 HEa HEb;go_wp2_with (first|(at_lookup;refine zBt _ rfl _ _ 189 rfl 3 194 lawI underlying189 (zGx _) B _ _ rfl Hk _ _ rfl G6 _ _ _ ha hh ?_)|(at_len;refine wpList_len_own _ rfl _ 189 rfl 3 194 underlying189 plR B _ _ rfl (Pv _) ?_;rw[ur]))
   have uD:Hid (Bw w3 (w3.alloc (.cells #[.int .i64 0,.int .i64 0] 194))):=(bzR _ _).alloc (nzR _) _;have P8:=Gi.out (.cells #[.int .i64 0,.int .i64 0] 194);generalize w3.alloc (.cells #[.int .i64 0,.int .i64 0] 194)=W4 at *;refine(pJ.out W4 P8).mono ?_;rintro x w5⟨v5,aa,⟨⟨xp,xq,xn,xc⟩,zs⟩,bb,rfl,hD,Ba,uU,U4⟩;simp only[] at Ba uU;have hzl:zs.length≤60:=HZ3.out _ _ _ (uU _);have bD:=hD.each (⟨xp,xq,xn,xc⟩,zs) (by simp)
   have hxn:xn=zs.length:=by
    obtain⟨q',c',e⟩:=OwnM.form bD;have e' : Value.slice xq xn xc=.slice q' zs.length c':=e;simp at e';exact e'.2.1
   subst hxn;subst Ba;have P4:=hD.own;rw[jH,jF,jK] at P4;rcases P4.2 with ⟨-,hz⟩|⟨g,off,cap,cur,e5,-,-,UM,gi,-,-⟩
   ·simp at hz
   ·rw[show (aa.map (·.1)++(⟨xp,xq,zs.length,xc⟩:rlv.RL)::bb.map (·.1)).length=(aa++(((⟨xp,xq,zs.length,xc⟩:rlv.RL),zs):RP)::bb).length by simp] at e5 UM
    subst e5;have p9:cap≤9223372036854775807:=(by simpa [maxLen] using gi);obtain⟨-,-,c1,gB,dF,Ur⟩:=zDo P4;rw[jP] at c1;have f1:=gB (off+aa.length*2+1);have BO:aa.length<(aa++(((⟨xp,xq,zs.length,xc⟩:rlv.RL),zs):RP)::bb).length:=(by simp);have t0:=zAa U4 (zAa uD.out u0);have t1:=zAa U4 (zAa uD.out u1);have t2:=zAa U4 (zAa uD.out u2);have t3:=zAa U4 (zAa uD.out u3);have t4:=zAa U4 (zAa uD.out u4);have bZ:w.heap.size<W4.heap.size:=jC UU uD.out.size;have UF:w.heap.size<w5.heap.size:=jC bZ U4.size;obtain⟨i0,hi,gE,gu,gA⟩:=infoR';have HI:Hid (prog.info? 51=some i0):=hi;have OV:Hid (OwnM w5 W4.heap.size 51 5 (.slice xq zs.length xc) zs.length (flat zs)):=bD
    have C6:Hid (∀W W' q' c',Bw w5 W→W.grownBy W' (Value.slice xq zs.length xc).ownBlock→OwnM W' W4.heap.size 51 5 (.slice q' (zs.length+1) c') (zs.length+1) (flat zs++[.int .i64 a,.int .i64 b,.int .i64 c,.int .i64 d,.int .i64 e])→((Value.slice q' (zs.length+1) c').ownBlock=(Value.slice xq zs.length xc).ownBlock∨(Value.slice q' (zs.length+1) c').ownBlock=some W.heap.size)→POST (.returned (.tuple #[.slice (some ⟨g,off,none⟩) (aa++(((⟨xp,xq,zs.length,xc⟩:rlv.RL),zs):RP)::bb).length cap,.nilIface])) (W'.setCell ⟨g,off+aa.length*2+1,none⟩ (.slice q' (zs.length+1) c'))):=fun W W' q' c' hW hg hO Gm=>by
     have hDW:=hD.below hW;have uL:OwnQ W' W4.heap.size (.slice q' (zs.length+1) c') (zs++[⟨a,b,c,d,e⟩]):=by
      show OwnM _ _ _ _ _ _ _
      rw[wAg,jE];exact hO
     have dQ:=DeepT.swap hDW hg uL (Gm.imp id (fun e=>⟨_,e,nzR _⟩))
     have Hi:∀k,(Value.slice xq zs.length xc).ownBlock=some k→W4.heap.size≤k:=fun k hk=>(OwnM.lt bD k hk).1
     have Hj:Bw W4 W:=U4.trans (hW.mono U4.size);have hBW' : Bw W4 W':=Hj.grown hg Hj.size Hi;refine pk.out _ _ (P8.trans (((hBW'.setCell dF _)).mono P8.size)) HE0 ?_;rw[uU,show aa.map toL++(⟨xp,zs++[⟨a,b,c,d,e⟩]⟩:L)::bb.map toL=(aa++(((⟨xp,q',zs.length+1,c'⟩:rlv.RL),zs++[⟨a,b,c,d,e⟩]):RP)::bb).map toL by simp[toL]]
     exact⟨_,rfl,dQ.mono P8.size⟩
    have C0:∀k,(Value.slice xq zs.length xc).ownBlock=some k→W4.heap.size≤k∧k<w5.heap.size:=fun k hk=>OwnM.lt bD k hk
    have kf:(Value.slice xq zs.length xc).ownBlock≠some g:=fun e=>hD.far (⟨xp,xq,zs.length,xc⟩,zs) (by simp) g e rfl
    clear hD uU hi bD P4 pJ pk HZ3 HE0 gB gi Hk Pv ur ha hh G6 po u0 u1 u2 u3 u4;generalize gd:aa.length=k at *;generalize MQ:(aa++(((⟨xp,xq,zs.length,xc⟩:rlv.RL),zs):RP)::bb).length=n at *;clear gd MQ;have mx:¬((k:Int)<0):=(by omega);have uS:(k:Int)<(n:Int):=(by omega);have Pi:(0:Int)≤(k:Int):=(by omega);have GX:Hid (Bw W4 w5):=U4;have SO:Hid (∀W,Bw w5 W→(Bw W4 W∧W.cell? ⟨g,off+k*2+1,none⟩=some (.slice xq zs.length xc)∧W.frozen? ⟨g,off+k*2+1,none⟩=false∧W.cell? ⟨w.heap.size,0,none⟩=some (.int .i64 a)∧W.cell? ⟨w.heap.size,1,none⟩=some (.int .i64 b)∧W.cell? ⟨w.heap.size,2,none⟩=some (.int .i64 c)∧W.cell? ⟨w.heap.size,3,none⟩=some (.int .i64 d)∧W.cell? ⟨w.heap.size,4,none⟩=some (.int .i64 e))):=fun W hW=>⟨GX.out.trans (hW.mono GX.out.size),zAa hW c1,(hW.frozen (p:=⟨g,off+k*2+1,none⟩) Ur).trans f1,zAa hW t0,zAa hW t1,zAa hW t2,zAa hW t3,zAa hW t4⟩
    have SG:Hid (∀W W',Bw w5 W→W.grownBy W' (Value.slice xq zs.length xc).ownBlock→(Bw W4 W'∧W'.cell? ⟨g,off+k*2+1,none⟩=some (.slice xq zs.length xc)∧W'.frozen? ⟨g,off+k*2+1,none⟩=false∧W'.cell? ⟨w.heap.size,0,none⟩=some (.int .i64 a)∧W'.cell? ⟨w.heap.size,1,none⟩=some (.int .i64 b)∧W'.cell? ⟨w.heap.size,2,none⟩=some (.int .i64 c)∧W'.cell? ⟨w.heap.size,3,none⟩=some (.int .i64 d)∧W'.cell? ⟨w.heap.size,4,none⟩=some (.int .i64 e))):=fun W W' hW hg=>by
     have Hj:Bw W4 W:=GX.out.trans (hW.mono GX.out.size);have hgW:g<W.heap.size:=jC Ur hW.size;have PG:w.heap.size<W.heap.size:=jC UF hW.size;have H8:some g≠(Value.slice xq zs.length xc).ownBlock:=fun e=>kf e.symm
     have EQ:some w.heap.size≠(Value.slice xq zs.length xc).ownBlock:=fun e=>by have:=(C0 _ e.symm).1;omega
     refine⟨Hj.grown hg Hj.size (fun k hk=>(C0 k hk).1),?_,?_,?_,?_,?_,?_,?_⟩
     ·rw[hg.cell_far ⟨g,off+k*2+1,none⟩ hgW H8];exact zAa hW c1
     ·rw[World.frozen?_of_block (hg.block g hgW H8)];exact(hW.frozen (p:=⟨g,off+k*2+1,none⟩) Ur).trans f1
     ·rw[hg.cell_far ⟨w.heap.size,0,none⟩ PG EQ];exact zAa hW t0
     ·rw[hg.cell_far ⟨w.heap.size,1,none⟩ PG EQ];exact zAa hW t1
     ·rw[hg.cell_far ⟨w.heap.size,2,none⟩ PG EQ];exact zAa hW t2
     ·rw[hg.cell_far ⟨w.heap.size,3,none⟩ PG EQ];exact zAa hW t3
     ·rw[hg.cell_far ⟨w.heap.size,4,none⟩ PG EQ];exact zAa hW t4
    have hszV:W4.heap.size≤w5.heap.size:=GX.out.size;clear U4 C0 kf;go_upto_region 16 with fail
    go_region_law (refine wAj _ rfl _ _ 52 rfl W4.heap.size 51 i0 zeroR 5 40 underlying52 HI.out gE gu gA rfl (.slice xq zs.length xc) zs.length (flat zs) rfl (OwnM.below OV.out (by(with_reducible repeat' (first|assumption|refine bal ?_ _|refine Below.setCell ?_ ?_ _|refine Below.drew ?_|exact bzR _ _|exact nzR _|exact Below.size (by assumption)|refine jD ?_)))) _ 1 1 [.int .i64 a,.int .i64 b,.int .i64 c,.int .i64 d,.int .i64 e] rfl rfl (World.news_of_block (cs:=#[.int .i64 a,.int .i64 b,.int .i64 c,.int .i64 d,.int .i64 e]) (jA _ _)) (by simp[Value.oneCell']) (by unfold maxLen;omega) (by omega) (jM hszV (Below.size (w:=w5) (B:=w5.heap.size) (by(with_reducible repeat' (first|assumption|refine bal ?_ _|refine Below.setCell ?_ ?_ _|refine Below.drew ?_|exact bzR _ _|exact nzR _|exact Below.size (by assumption)|refine jD ?_))))) ?_;intro v' w' gy Hy Gm;have du:=SG.out _ _ (by(with_reducible repeat' (first|assumption|refine bal ?_ _|refine Below.setCell ?_ ?_ _|refine Below.drew ?_|exact bzR _ _|exact nzR _|exact Below.size (by assumption)|refine jD ?_))) Hy;obtain⟨q',c',rfl⟩:=OwnM.form gy;have U6:=C6.out _ _ _ _ (by(with_reducible repeat' (first|assumption|refine bal ?_ _|refine Below.setCell ?_ ?_ _|refine Below.drew ?_|exact bzR _ _|exact nzR _|exact Below.size (by assumption)|refine jD ?_))) Hy gy Gm;have hS9:=du;obtain⟨hS2,mu,hS4,-⟩:=du)
    all_goals
     go_wp2_with fail;exact U6
theorem add_ok(s:Int)(vq:Option Addr)(vm vc:Nat)(ls:List L)(p:Int)(a b c d e:Int)(w V0:World)(Gf:V0=w.alloc (.cells #[.int .i64 a,.int .i64 b,.int .i64 c,.int .i64 d,.int .i64 e] 51))(h:LS w (.slice vq vm vc) ls)(h0:schk s ls=0) :
  Calls prog 81 #[.int .i64 s,.slice vq vm vc,.int .i64 p,.agg #[.int .i64 a,.int .i64 b,.int .i64 c,.int .i64 d,.int .i64 e]] w fun x w'=>AddPost s ls p ⟨a,b,c,d,e⟩ w x w':=by
 have gP:Bw w V0:=by rw[Gf];exact(bzR _ _).alloc (nzR _) _
 have GL:V0.heap[w.heap.size]?=some (.cells #[.int .i64 a,.int .i64 b,.int .i64 c,.int .i64 d,.int .i64 e] 51 (0,0)):=by rw[Gf];exact jA w _
 have Hf:=zBV s _ ls V0 (h.below gP);have Gq:Hid (Bw w V0):=gP;have Uf:Hid (∀W,Bw w W→LS W (.slice vq vm vc) ls):=fun W hW=>h.below hW
 have x0:V0.cell? ⟨w.heap.size,0,none⟩=some (.int .i64 a):=by simp[World.cell?,GL]
 have x1:V0.cell? ⟨w.heap.size,1,none⟩=some (.int .i64 b):=by simp[World.cell?,GL]
 have x2:V0.cell? ⟨w.heap.size,2,none⟩=some (.int .i64 c):=by simp[World.cell?,GL]
 have x3:V0.cell? ⟨w.heap.size,3,none⟩=some (.int .i64 d):=by simp[World.cell?,GL]
 have x4:V0.cell? ⟨w.heap.size,4,none⟩=some (.int .i64 e):=by simp[World.cell?,GL]
 have uw:Hid (∀x w',PlacesPost s ls V0 x w'→Bw V0 w'∧∃B,x=.returned (.tuple #[.map (some B),.nilIface])∧Own w' B (flatP 0 ls)):=fun x w' hp=>by
  obtain⟨h1,⟨h2,_⟩|⟨_,B,_,h3,h4⟩⟩:=hp
  ·exact absurd h0 h2
  ·exact⟨h1,B,h3,h4⟩
 have uX:=fun W hW=>zAU V0 p W hW
 clear gP GL h;cases hp:zAo p
 ·rw[hp] at uX;simp only[show errB false=.iface 90 (.int .i64 1) from rfl] at uX
  have HX:Hid (∀W,Bw w W→AddPost s ls p ⟨a,b,c,d,e⟩ w (.returned (.tuple #[.slice none 0 0,.iface 90 (.int .i64 1)])) W):=fun W hW=>zFL (by unfold addE;rw[if_pos h0,if_neg (by simp[hp])]) (by omega) hW
  generalize AddPost s ls p ⟨a,b,c,d,e⟩ w=POST at *;clear h0 hp x0 x1 x2 x3 x4;go_enter func81,ntmps81;go_wp2_with fail;rw[←Gf];refine Hf.mono ?_;rintro x w1 hp;obtain⟨h1,B,rfl,hO⟩:=uw.out _ _ hp;have H1:Hid (Bw V0 w1):=h1;clear Hf uw hp h1 hO;go_wp2_with fail;refine(uX w1 H1.out).mono ?_;rintro x w2⟨rfl,h2⟩;have Gl:=HX.out w2 (Gq.out.trans (h2.mono Gq.out.size));clear uX h2 HX;go_wp2_with fail;exact Gl
 ·rw[hp] at uX;simp only[show errB true=.nilIface from rfl] at uX
  have uG:=fun W=>zCV a b c d e W
  by_cases hr:rchk ⟨a,b,c,d,e⟩=0
  ·rw[hr,wAa] at uG;have G6:keyOf prog 3 (.int .i64 a)=some (.int .i64 a):=keyOf_int_mk underlying3 (wf_id (r:=⟨a,b,c,d,e⟩) hr);exact add_in s vq vm vc ls p a b c d e w V0 Gf Uf h0 hp hr G6
  ·rw[wAb hr] at uG;have HX:Hid (∀W,Bw w W→AddPost s ls p ⟨a,b,c,d,e⟩ w (.returned (.tuple #[.slice none 0 0,.iface 90 (.int .i64 (rchk ⟨a,b,c,d,e⟩))])) W):=fun W hW=>zFL (by unfold addE;rw[if_pos h0,if_pos hp,if_neg hr]) hr hW
   generalize AddPost s ls p ⟨a,b,c,d,e⟩ w=POST at *;generalize rchk ⟨a,b,c,d,e⟩=k at *;clear h0 hp hr;go_enter func81,ntmps81;go_wp2_with fail;rw[←Gf];refine Hf.mono ?_;rintro x w1 hp;obtain⟨h1,B,rfl,hO⟩:=uw.out _ _ hp;have H1:Hid (Bw V0 w1):=h1;clear Hf uw hp h1 hO;go_wp2_with fail;refine(uX w1 H1.out).mono ?_;rintro x w2⟨rfl,h2⟩;have H2:Hid (Bw V0 w2):=h2;have y0:=zAa h2 x0;have y1:=zAa h2 x1;have y2:=zAa h2 x2;have y3:=zAa h2 x3;have y4:=zAa h2 x4;clear uX h2 x0 x1 x2 x3 x4;go_wp2_with fail;refine(uG w2).mono ?_;rintro x w3⟨rfl,h3⟩;have Gl:=HX.out w3 (Gq.out.trans ((H2.out.trans (h3.mono H2.out.size)).mono Gq.out.size));clear uG h3 HX y0 y1 y2 y3 y4;go_wp2_with fail;exact Gl
theorem zDs(s:Int)(v:Value)(ls:List L)(p:Int)(a b c d e:Int)(w:World)(h:LS w v ls) :
  Calls prog 81 #[.int .i64 s,v,.int .i64 p,.agg #[.int .i64 a,.int .i64 b,.int .i64 c,.int .i64 d,.int .i64 e]] w fun x w'=>AddPost s ls p ⟨a,b,c,d,e⟩ w x w':=by
 obtain⟨V0,Gf⟩:∃V0,V0=w.alloc (.cells #[.int .i64 a,.int .i64 b,.int .i64 c,.int .i64 d,.int .i64 e] 51):=⟨_,rfl⟩;have gP:Bw w V0:=by rw[Gf];exact(bzR _ _).alloc (nzR _) _
 obtain⟨vq,vm,vc,rfl⟩:=zFz h;have Hf:=zBV s _ ls V0 (h.below gP);have Gq:Hid (Bw w V0):=gP;by_cases h0:schk s ls=0
 ·exact add_ok s vq vm vc ls p a b c d e w V0 Gf h h0
 ·have uw:Hid (∀x w',PlacesPost s ls V0 x w'→Bw V0 w'∧x=.returned (.tuple #[.map none,.iface 90 (.int .i64 (schk s ls))])):=fun x w' hp=>by
   obtain⟨h1,⟨_,h3⟩|⟨h2,_⟩⟩:=hp
   ·rw[wAb h0] at h3;exact⟨h1,h3⟩
   ·exact absurd h2 h0
  have HX:Hid (∀W,Bw w W→AddPost s ls p ⟨a,b,c,d,e⟩ w (.returned (.tuple #[.slice none 0 0,.iface 90 (.int .i64 (schk s ls))])) W):=fun W hW=>zFL (by unfold addE;rw[if_neg h0]) h0 hW
  generalize AddPost s ls p ⟨a,b,c,d,e⟩ w=POST at *;generalize schk s ls=k at uw HX;clear h0 h gP;go_enter func81,ntmps81;go_wp2_with fail;rw[←Gf];refine Hf.mono ?_;rintro x w1 hp;obtain⟨h1,rfl⟩:=uw.out _ _ hp;have Gl:=HX.out w1 (Gq.out.trans (h1.mono Gq.out.size));clear Hf uw hp h1 HX;go_wp2_with fail;exact Gl
end sid
namespace rlv
open Go.RowKit spn que sid
theorem zeroVR(w:World):(zeroValue 54).run prog w=.ok zeroR w:=by kernel_rfl
theorem wAS(w:World)(base g off n c i j:Nat)(xs:List Value)(ho:OwnM w base 54 2 (.slice (some ⟨g,off,none⟩) n c) n xs)(hij:i<j)(hj:j≤n)(Mb:∀u∈xs,u.oneCell'=true) :
  Calls prog 158 #[.slice (some ⟨g,off,none⟩) n c,.int .i64 i,.int .i64 j] w fun e w'=>e=.returned (.slice (some ⟨g,off,none⟩) (i+(n - j)) c)∧OwnM w' base 54 2 (.slice (some ⟨g,off,none⟩) (i+(n - j)) c) (i+(n - j)) (xs.take (i*2)++xs.drop (j*2))∧w.grownBy w' (some g):=by
 obtain⟨G7,ud,⟨cur,G5,Gy⟩,GH,gi,uk,uO⟩:=wAk ho;have CC:c≤9223372036854775807:=by simpa [maxLen] using gi
 obtain⟨i0,gY,gE,gu,gA⟩:=rlv.infoR';have GS:(xs.drop (j*2)).length=(n - j)*2:=by rw[jQ,G7];omega
 have gW:(xs.take (i*2)).length=i*2:=by rw[jJ,G7];omega
 have gM:xs=xs.take (i*2)++xs.drop (i*2):=(jR _ _).symm;have mF:xs=xs.take (j*2)++xs.drop (j*2):=(jR _ _).symm;have gq:w.rangeAt g off (xs.take (i*2)):=by rw[gM] at uk;exact wAC uk
 have H5:w.rangeAt g (off+j*2) (xs.drop (j*2)):=by
  rw[mF] at uk;have:=wAx uk;rwa [jJ,G7,Nat.min_eq_left (by omega)] at this
 have Gz:∀o k,o+k≤c*2→w.there g (off+o) k:=fun o k hk q hq=>by rw[Nat.add_assoc];exact uO (o+q) (by omega)
 obtain⟨news,Hn⟩:∃news,news=xs.drop (j*2):=⟨_,rfl⟩;obtain⟨A,hA,m6⟩:∃A:Addr,(if c=j then some (⟨g,off,none⟩:Addr) else some ⟨g,off+j*2,none⟩)=some A∧Hid (∀t u,news[t]?=some u→w.drew.cell? (A.add t)=some u):=by
  by_cases h:c=j
  ·refine⟨⟨g,off,none⟩,by simp[h],fun t u hu=>?_⟩
   have h0:news.length=0:=by rw[Hn,GS];omega
   rw[List.length_eq_zero_iff.1 h0] at hu;simp at hu
  ·refine⟨⟨g,off+j*2,none⟩,by simp[h],fun t u hu=>?_⟩
   rw[Addr.add_lit];rw[Hn] at hu;exact H5 t u hu
 have s1:Hid (news.length=(n - j)*2):=by show _=_;rw[Hn,GS]
 have s2:Hid (∀u∈news,u.oneCell'=true):=fun u hu=>Mb u (List.mem_of_mem_drop (by rw[Hn] at hu;exact hu))
 have s3:Hid (∀t,t<news.length→(w.drew.cell? ⟨g,off+i*2+t,none⟩).isSome=true∧w.drew.frozen? ⟨g,off+i*2+t,none⟩=false):=fun t ht=>by
  have PB:t<(n - j)*2:=by rw[Hn,GS] at ht;exact ht
  exact Gz (i*2) ((n - j)*2) (by omega) t PB
 obtain⟨W1,H7⟩:∃W1,W1=w.drew.setCells g (off+i*2) news:=⟨_,rfl⟩;have GI:∀o k,o+k≤c*2→W1.there g (off+o) k:=fun o k hk=>by rw[H7];exact World.there_setCells ((World.there_drew _ _ _ _).2 (Gz o k hk)) _ _ _
 have U8:∀ty,(Builtin.clear_ #[55] ty #[.slice (some ⟨g,off+(i+(n - j))*2,none⟩) (n - (i+(n - j))) (c - (i+(n - j)))]).run prog W1=.ok (.tuple #[]) (W1.setCells g (off+(i+(n - j))*2) (Builtin.zeroCells zeroR.cells (n - (i+(n - j)))).toList):=
  fun ty=>wAy W1 _ _ ty zeroR 2 underlying55 zeroVR rfl (by simp[zeroR,Value.cells,Value.oneCell']) g _ _ _ (by omega) (GI _ _ (by omega))
 have Hw:Hid (OwnM (W1.setCells g (off+(i+(n - j))*2) (Builtin.zeroCells zeroR.cells (n - (i+(n - j)))).toList) base 54 2 (.slice (some ⟨g,off,none⟩) (i+(n - j)) c) (i+(n - j)) (xs.take (i*2)++xs.drop (j*2))∧w.grownBy (W1.setCells g (off+(i+(n - j))*2) (Builtin.zeroCells zeroR.cells (n - (i+(n - j)))).toList) (some g)):=by
  obtain⟨cur1,Hc,Hl⟩:=wAi g 54 (0,0) news (off+i*2) w.drew cur G5;rw[←H7] at Hc;obtain⟨cur2,Ha,H9⟩:=wAi g 54 (0,0) (Builtin.zeroCells zeroR.cells (n - (i+(n - j)))).toList (off+(i+(n - j))*2) W1 cur1 Hc;refine⟨wAO ?_ ud Ha (by rw[H9,Hl];exact Gy) (by omega) gi ?_,?_⟩
  ·rw[jE,gW,GS];omega
  ·refine wAq ?_ ?_
   ·refine World.rangeAt_setCells_apart ?_ _ _ _ (.inr (.inl (by rw[gW];omega)))
    rw[H7];exact World.rangeAt_setCells_apart ((World.rangeAt_drew _ _ _ _).2 gq) _ _ _ (.inr (.inl (by rw[gW];omega)))
   ·rw[gW];refine World.rangeAt_setCells_apart ?_ _ _ _ (.inr (.inl (by rw[GS];omega)))
    rw[H7,Hn];exact World.rangeAt_setCells_same _ _ _ _ ((World.there_drew _ _ _ _).2 (Gz _ _ (by rw[GS];omega)))
  ·rw[H7];exact wAd (wAd (wAH _ _) (wAh g _ _ _)) (wAh g _ _ _)
 have hW:Hid (W1=w.drew.setCells g (off+i*2) news):=H7;obtain⟨W2,gb⟩:∃W2,W2=W1.setCells g (off+(i+(n - j))*2) (Builtin.zeroCells zeroR.cells (n - (i+(n - j)))).toList:=⟨_,rfl⟩;rw[←gb] at Hw;simp only[←gb] at U8;clear gb;have hic:i≤c:=by omega
 have hjc:j≤c:=by omega
 have H8:¬((i:Int)=(j:Int)):=by omega
 have MP:¬(i=j):=by omega
 clear H7 ho G7 G5 Gy uk uO GS gW gM mF gq H5 Gz GI Hn Mb gi ud gE gA;go_enter func158,ntmps158;go_wp2_with fail
 go_region_law (refine step_append_room rfl (.tmp 22) (.tmp 25) 55 rfl 54 i0 2 underlying55 gY gu g off i c (by simp[Act.eval,Act.put]) A (n - j) (c - j) news (by simp[Act.eval,Act.put]) s1.out m6.out s2.out (by omega) s3.out ?_;rw[←hW.out])
 go_wp2
 go_ret;exact⟨rfl,Hw.out⟩
end rlv
namespace que
open Go.RowKit spn que sid
theorem zeroVR(w:World):(zeroValue 51).run prog w=.ok zeroR w:=by kernel_rfl
theorem wAS(w:World)(base g off n c i j:Nat)(xs:List Value)(ho:OwnM w base 51 5 (.slice (some ⟨g,off,none⟩) n c) n xs)(hij:i<j)(hj:j≤n)(Mb:∀u∈xs,u.oneCell'=true) :
  Calls prog 159 #[.slice (some ⟨g,off,none⟩) n c,.int .i64 i,.int .i64 j] w fun e w'=>e=.returned (.slice (some ⟨g,off,none⟩) (i+(n - j)) c)∧OwnM w' base 51 5 (.slice (some ⟨g,off,none⟩) (i+(n - j)) c) (i+(n - j)) (xs.take (i*5)++xs.drop (j*5))∧w.grownBy w' (some g):=by
 obtain⟨G7,ud,⟨cur,G5,Gy⟩,GH,gi,uk,uO⟩:=wAk ho;have CC:c≤9223372036854775807:=by simpa [maxLen] using gi
 obtain⟨i0,gY,gE,gu,gA⟩:=que.infoR';have GS:(xs.drop (j*5)).length=(n - j)*5:=by rw[jQ,G7];omega
 have gW:(xs.take (i*5)).length=i*5:=by rw[jJ,G7];omega
 have gM:xs=xs.take (i*5)++xs.drop (i*5):=(jR _ _).symm;have mF:xs=xs.take (j*5)++xs.drop (j*5):=(jR _ _).symm;have gq:w.rangeAt g off (xs.take (i*5)):=by rw[gM] at uk;exact wAC uk
 have H5:w.rangeAt g (off+j*5) (xs.drop (j*5)):=by
  rw[mF] at uk;have:=wAx uk;rwa [jJ,G7,Nat.min_eq_left (by omega)] at this
 have Gz:∀o k,o+k≤c*5→w.there g (off+o) k:=fun o k hk q hq=>by rw[Nat.add_assoc];exact uO (o+q) (by omega)
 obtain⟨news,Hn⟩:∃news,news=xs.drop (j*5):=⟨_,rfl⟩;obtain⟨A,hA,m6⟩:∃A:Addr,(if c=j then some (⟨g,off,none⟩:Addr) else some ⟨g,off+j*5,none⟩)=some A∧Hid (∀t u,news[t]?=some u→w.drew.cell? (A.add t)=some u):=by
  by_cases h:c=j
  ·refine⟨⟨g,off,none⟩,by simp[h],fun t u hu=>?_⟩
   have h0:news.length=0:=by rw[Hn,GS];omega
   rw[List.length_eq_zero_iff.1 h0] at hu;simp at hu
  ·refine⟨⟨g,off+j*5,none⟩,by simp[h],fun t u hu=>?_⟩
   rw[Addr.add_lit];rw[Hn] at hu;exact H5 t u hu
 have s1:Hid (news.length=(n - j)*5):=by show _=_;rw[Hn,GS]
 have s2:Hid (∀u∈news,u.oneCell'=true):=fun u hu=>Mb u (List.mem_of_mem_drop (by rw[Hn] at hu;exact hu))
 have s3:Hid (∀t,t<news.length→(w.drew.cell? ⟨g,off+i*5+t,none⟩).isSome=true∧w.drew.frozen? ⟨g,off+i*5+t,none⟩=false):=fun t ht=>by
  have PB:t<(n - j)*5:=by rw[Hn,GS] at ht;exact ht
  exact Gz (i*5) ((n - j)*5) (by omega) t PB
 obtain⟨W1,H7⟩:∃W1,W1=w.drew.setCells g (off+i*5) news:=⟨_,rfl⟩;have GI:∀o k,o+k≤c*5→W1.there g (off+o) k:=fun o k hk=>by rw[H7];exact World.there_setCells ((World.there_drew _ _ _ _).2 (Gz o k hk)) _ _ _
 have U8:∀ty,(Builtin.clear_ #[52] ty #[.slice (some ⟨g,off+(i+(n - j))*5,none⟩) (n - (i+(n - j))) (c - (i+(n - j)))]).run prog W1=.ok (.tuple #[]) (W1.setCells g (off+(i+(n - j))*5) (Builtin.zeroCells zeroR.cells (n - (i+(n - j)))).toList):=
  fun ty=>wAy W1 _ _ ty zeroR 5 underlying52 zeroVR rfl (by simp[zeroR,Value.cells,Value.oneCell']) g _ _ _ (by omega) (GI _ _ (by omega))
 have Hw:Hid (OwnM (W1.setCells g (off+(i+(n - j))*5) (Builtin.zeroCells zeroR.cells (n - (i+(n - j)))).toList) base 51 5 (.slice (some ⟨g,off,none⟩) (i+(n - j)) c) (i+(n - j)) (xs.take (i*5)++xs.drop (j*5))∧w.grownBy (W1.setCells g (off+(i+(n - j))*5) (Builtin.zeroCells zeroR.cells (n - (i+(n - j)))).toList) (some g)):=by
  obtain⟨cur1,Hc,Hl⟩:=wAi g 51 (0,0) news (off+i*5) w.drew cur G5;rw[←H7] at Hc;obtain⟨cur2,Ha,H9⟩:=wAi g 51 (0,0) (Builtin.zeroCells zeroR.cells (n - (i+(n - j)))).toList (off+(i+(n - j))*5) W1 cur1 Hc;refine⟨wAO ?_ ud Ha (by rw[H9,Hl];exact Gy) (by omega) gi ?_,?_⟩
  ·rw[jE,gW,GS];omega
  ·refine wAq ?_ ?_
   ·refine World.rangeAt_setCells_apart ?_ _ _ _ (.inr (.inl (by rw[gW];omega)))
    rw[H7];exact World.rangeAt_setCells_apart ((World.rangeAt_drew _ _ _ _).2 gq) _ _ _ (.inr (.inl (by rw[gW];omega)))
   ·rw[gW];refine World.rangeAt_setCells_apart ?_ _ _ _ (.inr (.inl (by rw[GS];omega)))
    rw[H7,Hn];exact World.rangeAt_setCells_same _ _ _ _ ((World.there_drew _ _ _ _).2 (Gz _ _ (by rw[GS];omega)))
  ·rw[H7];exact wAd (wAd (wAH _ _) (wAh g _ _ _)) (wAh g _ _ _)
 have hW:Hid (W1=w.drew.setCells g (off+i*5) news):=H7;obtain⟨W2,gb⟩:∃W2,W2=W1.setCells g (off+(i+(n - j))*5) (Builtin.zeroCells zeroR.cells (n - (i+(n - j)))).toList:=⟨_,rfl⟩;rw[←gb] at Hw;simp only[←gb] at U8;clear gb;have hic:i≤c:=by omega
 have hjc:j≤c:=by omega
 have H8:¬((i:Int)=(j:Int)):=by omega
 have MP:¬(i=j):=by omega
 clear H7 ho G7 G5 Gy uk uO GS gW gM mF gq H5 Gz GI Hn Mb gi ud gE gA;go_enter func159,ntmps159;go_wp2_with fail
 go_region_law (refine step_append_room rfl (.tmp 22) (.tmp 25) 52 rfl 51 i0 5 underlying52 gY gu g off i c (by simp[Act.eval,Act.put]) A (n - j) (c - j) news (by simp[Act.eval,Act.put]) s1.out m6.out s2.out (by omega) s3.out ?_;rw[←hW.out])
 go_wp2
 go_ret;exact⟨rfl,Hw.out⟩
end que
namespace sid
open Go.RowKit spn que Go.Maps
theorem zJF(zs:List R)(i:Nat):flat (zs.take i)=(flat zs).take (i*5):=by
 induction zs generalizing i with
 | nil=>simp[flat]
 | cons r t ih=>
  cases i with
  | zero=>simp[flat]
  | succ i=>rw[List.take_succ_cons,wAm,wAm,ih,show (i+1)*5=(rV r).length+i*5 by show _=5+i*5;omega,List.take_length_add_append]
theorem zJG(zs:List R)(i:Nat):flat (zs.drop i)=(flat zs).drop (i*5):=by
 induction zs generalizing i with
 | nil=>simp[flat]
 | cons r t ih=>
  cases i with
  | zero=>simp
  | succ i=>rw[List.drop_succ_cons,wAm,ih,show (i+1)*5=(rV r).length+i*5 by show _=5+i*5;omega,List.drop_length_add_append]
theorem DeepT.delete{w w' : World}{base:Nat}{v v' : Value}{a:List RP}{x:RP}{b:List RP}(h:Deep w base v (a++x::b))(ho:rlv.OwnQ w' base v' ((a++b).map (·.1)))(hg:w.grownBy w' v.ownBlock)(hv:v'.ownBlock=v.ownBlock):Deep w' base v' (a++b):=by
 have hm:∀y∈a++b,y∈a++x::b:=fun y hy=>by
  rcases List.mem_append.1 hy with hy|hy <;>simp[hy]
 refine⟨by rw[jH];exact ho,fun y hy=>zAm (h.each y (hm y hy)) hg (fun z hz=>h.far y (hm y hy) z hz),?_,fun y hy z hz=>by rw[hv];exact h.far y (hm y hy) z hz⟩
 obtain⟨p1,p2,p3⟩:=List.pairwise_append.1 h.apart;exact List.pairwise_append.2 ⟨p1,(List.pairwise_cons.1 p2).2,fun y hy z hz=>p3 y hy z (by simp[hz])⟩
def zLI(s:Int)(ls:List L)(id:Int):List L:=if zAF s ls id=0 then zBo ls (zBn s ls id).1.toNat (zBn s ls id).2.toNat else []
def zDd(s:Int)(ls:List L)(id:Int):R:=if zAF s ls id=0 then ls[(zBn s ls id).1.toNat]!.rests[(zBn s ls id).2.toNat]! else ⟨0,0,0,0,0⟩
def zCr(s:Int)(ls:List L)(id:Int):Int:=if zAF s ls id=0 then ls[(zBn s ls id).1.toNat]!.price else 0
def DropPost(s:Int)(ls:List L)(id:Int)(w:World)(x:Ending)(w' : World):Prop:=
 Bw w w'∧∃v',x=.returned (.tuple #[v',.agg (rV (zDd s ls id)).toArray,.int .i64 (zCr s ls id),errV (zAF s ls id)])∧DL w' w.heap.size v' (zLI s ls id)
theorem zOp(s:Int)(vq:Option Addr)(vm vc:Nat)(ls:List L)(id:Int)(w:World)(h:LS w (.slice vq vm vc) ls)(hid:(Lit.int .i64 id).wf=true)(h0:¬zAF s ls id=0) :
  Calls prog 132 #[.int .i64 s,.slice vq vm vc,.int .i64 id] w fun x w'=>DropPost s ls id w x w':=by
 have HC:=fun W(hW:Bw w W)=>wAr s _ ls id W (h.below hW) hid
 have hf:zBl s ls id=.tuple #[.int .i64 0,.int .i64 0,.iface 90 (.int .i64 (zAF s ls id))]:=by
  unfold zBl zBn;rw[if_neg h0,wAb h0]
 rw[hf] at HC;have HP:Hid (∀W,Bw w W→DropPost s ls id w (.returned (.tuple #[.slice none 0 0,.agg #[.int .i64 0,.int .i64 0,.int .i64 0,.int .i64 0,.int .i64 0],.int .i64 0,.iface 90 (.int .i64 (zAF s ls id))])) W):=fun W hW=>by
  refine⟨hW,.slice none 0 0,?_,?_⟩
  ·unfold zDd zCr;rw[if_neg h0,if_neg h0,wAb h0];rfl
  ·unfold zLI;rw[if_neg h0];exact zFb _ _
 generalize DropPost s ls id w=POST at *;generalize zAF s ls id=k at *;clear h hid h0 hf;go_enter func132,ntmps132;go_wp2_with fail;refine(HC _ ((bzR _ _).alloc (nzR _) _)).mono ?_;rintro x w1⟨rfl,Hc⟩;have hB:Bw w w1:=((bzR _ _).alloc (nzR _) _).trans (Hc.mono (by simp))
 have gh:w1.heap[w.heap.size]?=some (.cells #[.int .i64 0,.int .i64 0,.int .i64 0,.int .i64 0,.int .i64 0] 51 (0,0)):=by
  rw[Hc.block w.heap.size (by simp)]
  exact jA w _
 clear Hc HC;obtain⟨c0,c1,c2,c3,c4,hf⟩:=zAi gh;have f0:=hf 0;have f1:=hf 1;have f2:=hf 2;have f3:=hf 3;have f4:=hf 4;clear hf;have HX:=zBd gh (.int .i64 0) (.int .i64 0) (.int .i64 0) (.int .i64 0) (.int .i64 0);have GA:Bw w (((((w1.setCell ⟨w.heap.size,0,none⟩ (.int .i64 0)).setCell ⟨w.heap.size,1,none⟩ (.int .i64 0)).setCell ⟨w.heap.size,2,none⟩ (.int .i64 0)).setCell ⟨w.heap.size,3,none⟩ (.int .i64 0)).setCell ⟨w.heap.size,4,none⟩ (.int .i64 0)):=((((hB.setCell (nzR _) _).setCell (nzR _) _).setCell (nzR _) _).setCell (nzR _) _).setCell (nzR _) _;go_wp2_with fail;generalize (((((w1.setCell ⟨w.heap.size,0,none⟩ (.int .i64 0)).setCell ⟨w.heap.size,1,none⟩ (.int .i64 0)).setCell ⟨w.heap.size,2,none⟩ (.int .i64 0)).setCell ⟨w.heap.size,3,none⟩ (.int .i64 0)).setCell ⟨w.heap.size,4,none⟩ (.int .i64 0))=V at *;obtain⟨d0,d1,d2,d3,d4,-⟩:=zAi HX;clear HX
 exact jN (v:=.tuple #[.slice none 0 0,.agg #[.int .i64 0,.int .i64 0,.int .i64 0,.int .i64 0,.int .i64 0],.int .i64 0,.iface 90 (.int .i64 k)]) (by simp[results,results132,go_sem,d0,d1,d2,d3,d4]) rfl (HP.out V GA)
end sid
end Go.Proofs.YtnfilcpnneckkaaGreat
