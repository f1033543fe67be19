import Derived.Test.YtnfilcpnneckkaaGreatQueRest
set_option maxHeartbeats 1000000
set_option maxRecDepth 100000
namespace Go.Proofs.YtnfilcpnneckkaaGreat
open Tryz
namespace que
open Go.RowKit spn
def Lies(w:World)(b o:Nat)(zs:List R):Prop:=∀j,j<zs.length→∀i v,(rV zs[j]!)[i]?=some v→w.cell? ⟨b,o+j*5+i,none⟩=some v
def SL(w:World)(v:Value)(zs:List R):Prop:=
 (v=.slice none 0 0∧zs=[])∨∃b o c,v=.slice (some ⟨b,o,none⟩) zs.length c∧zs.length≤c∧c≤9223372036854775807∧b<w.heap.size∧Lies w b o zs
theorem Lies.below{w w' : World}{b o:Nat}{zs:List R}(h:Lies w b o zs)(hb:b<w.heap.size)(hB:Bw w w'):Lies w' b o zs:=
 fun j hj i v hv=>(hB.cell (p:=⟨b,o+j*5+i,none⟩) hb).trans (h j hj i v hv)
theorem SL.below{w w' : World}{v:Value}{zs:List R}(h:SL w v zs)(hB:Bw w w'):SL w' v zs:=by
 rcases h with h|⟨b,o,c,h1,h2,h3,h4,h5⟩
 ·exact .inl h
 ·exact .inr ⟨b,o,c,h1,h2,h3,jC h4 hB.size,h5.below h4 hB⟩
theorem getE{α:Type}[Inhabited α](l:List α)(j:Nat)(h:j<l.length):l[j]! = l[j]:=by simp[h]
theorem Lies.take{w:World}{b o:Nat}{zs:List R}(h:Lies w b o zs)(n:Nat):Lies w b o (zs.take n):=by
 intro j hj i v hv;have Ez:j<n∧j<zs.length:=by rw[jJ] at hj;omega
 have e:(zs.take n)[j]! = zs[j]!:=by
  rw[getE _ _ hj,getE _ _ Ez.2,List.getElem_take]
 rw[e] at hv;exact h j Ez.2 i v hv
theorem idxFrom(id:Int)(x:R)(zs:List R):∀i,Lib.idxByFrom (fun _ y=>decide (y.id=id)) x zs i=if idx id zs<0 then -1 else (i:Int)+idx id zs:=by
 induction zs with
 | nil=>intro i;rfl
 | cons r t ih=>
  intro i;have:=wAX id t;show (if decide (r.id=id)=true then (i:Int) else Lib.idxByFrom (fun _ y=>decide (y.id=id)) x t (i+1))=_
  rw[ih,wAL];by_cases h:r.id=id
  ·rw[if_pos (decide_eq_true h),if_pos h,if_neg (by omega),Int.add_zero]
  ·rw[if_neg (by simpa using h),if_neg h]
   by_cases h2:idx id t<0
   ·rw[if_pos h2,if_pos h2,if_pos (by omega)]
   ·rw[if_neg h2,if_neg h2,if_neg (by omega)];omega
theorem wAK(id:Int)(x:R)(zs:List R):Lib.idxBy (fun _ y=>decide (y.id=id)) zs x=idx id zs:=by
 have:=wAX id zs;unfold Lib.idxBy;rw[idxFrom];split <;>omega
theorem wAU(id:Int)(B:Nat)(w:World)(hB:B<w.heap.size)(hc:w.cell? ⟨B,0,none⟩=some (.int .i64 id)) :
  PredBelow prog 177 #[.pointer (some ⟨B,0,none⟩)] (fun x=>.agg (rV x).toArray) (fun x=>decide (x.id=id)) w:=by
 intro W x hb;obtain⟨a,b,c,d,e⟩:=x;show Calls prog 177 #[.agg #[.int .i64 a,.int .i64 b,.int .i64 c,.int .i64 d,.int .i64 e],.pointer (some ⟨B,0,none⟩)] W _
 have mT:=zAa hb hc;have hz:B<W.heap.size:=jC hB hb.size;go_enter func177,ntmps177
 go_wp2
 go_ret;exact⟨rfl,hb.alloc hb.size _⟩
theorem zNz(id:Int)(w:World) :
  Calls prog 173 #[.slice none 0 0,.int .i64 id] w fun e w'=>e=.returned (.int .i64 (-1))∧Bw w w':=by
 have h0:∀ (B:Nat) (W:World),Calls prog 160 #[.slice none 0 0,.func (.func 177) #[] #[.pointer (some ⟨B,0,none⟩)]] W fun e w'=>e=.returned (.int .i64 (-1))∧w'=W:=by
  intro B W;go_enter func160,ntmps160
  go_wp2
  go_loopg [5,8] 0 (fun _ _ s8 wr=>s8=.int .i64 0∧wr=W)
  case atStart=>exact⟨rfl,rfl⟩
  case round=>
   obtain⟨rfl,rfl⟩:=hrel
   go_wp2
   go_ret;exact⟨rfl,rfl⟩
 go_enter func173,ntmps173;go_wp2_with (go_at_call 160;refine(h0 _ _).mono ?_;rintro e w' ⟨rfl,rfl⟩)
 go_ret;exact⟨rfl,(bzR _ _).alloc (nzR _) _⟩
theorem zKF(id:Int)(b o c:Nat)(zs:List R)(w:World)(hb:b<w.heap.size)(hn:zs.length≤9223372036854775807)(hl:Lies w b o zs) :
  Calls prog 173 #[.slice (some ⟨b,o,none⟩) zs.length c,.int .i64 id] w fun e w'=>e=.returned (.int .i64 (idx id zs))∧Bw w w':=by
 have eg:∀args w,(callFunc 177 args).run prog w=.ok (.enter 177 args) w:=enters_of func177 (by kernel_rfl) rfl
 have hB:Bw w (w.alloc (.cells #[.int .i64 id] 3)):=(bzR _ _).alloc (nzR _) _;have Hf:=AnyQ.slices_IndexFunc Tryz.lq6 5 isAgg51 sizeOf51 rV (fun x=>rfl) (fun x=>decide (x.id=id)) 177 #[.pointer (some ⟨w.heap.size,0,none⟩)] eg b o zs.length c zs
  (w.alloc (.cells #[.int .i64 id] 3)) (wAU id w.heap.size _ (by simp) (by simp[go_sem])) (nzR _) hn (by simp;omega) (hl.below hb hB)
 change Calls prog 160 _ _ _ at Hf
 rw[List.take_length,wAK] at Hf;generalize idx id zs=k at *;clear hl;generalize zs.length=n at *;go_enter func173,ntmps173;go_wp2_with (go_at_call 160;refine Hf.mono ?_;rintro e w' ⟨rfl,Uo⟩)
 go_ret;exact⟨rfl,hB.trans (Uo.mono (by simp))⟩
theorem wAr(id:Int)(v:Value)(zs:List R)(w:World)(h:SL w v zs) :
  Calls prog 173 #[v,.int .i64 id] w fun e w'=>e=.returned (.int .i64 (idx id zs))∧Bw w w':=by
 rcases h with ⟨rfl,rfl⟩|⟨b,o,c,rfl,h2,h3,h4,h5⟩
 ·exact zNz id w
 ·exact zKF id b o c zs w h4 (by omega) h5
theorem zJh(v:Value)(zs:List R)(a b c d e:Int)(w:World)(h:SL w v zs) :
  Calls prog 162 #[v,.agg #[.int .i64 a,.int .i64 b,.int .i64 c,.int .i64 d,.int .i64 e]] w fun x w'=>x=.returned (errV (bchk zs ⟨a,b,c,d,e⟩))∧Bw w w':=by
 have hr:=zCV a b c d e;have e1:bchk zs ⟨a,b,c,d,e⟩=if rchk ⟨a,b,c,d,e⟩=0 then (if 0≤idx a zs then 7 else 0) else rchk ⟨a,b,c,d,e⟩:=by
  unfold bchk;rw[zKy];simp only[decide_eq_true_eq]
 rw[e1];clear e1;generalize rchk ⟨a,b,c,d,e⟩=k at *;have HF:=fun W hW=>wAr a v zs W hW
 have H:Hid (∀W,SL W v zs→Calls prog 173 #[v,.int .i64 a] W fun e w'=>e=.returned (.int .i64 (idx a zs))∧Bw W w'):=HF
 clear HF;have HS:Hid (SL w v zs):=h;clear h;generalize idx a zs=m at *;by_cases hk:k=0
 ·subst hk;rw[if_pos rfl];rw[wAa] at hr;by_cases hm:0≤m
  ·rw[if_pos hm];go_enter func162,ntmps162;go_wp2_with fail;refine(hr _).mono ?_;rintro x w1⟨rfl,Hc⟩;have hB:Bw w w1:=((bzR _ _).alloc (nzR _) _).trans (Hc.mono (by simp))
   obtain⟨Gn,M4⟩:=bcell Hc;clear hr;go_wp2_with fail;refine(H.out _ (HS.out.below hB)).mono ?_;rintro x w2⟨rfl,Ha⟩;clear Gn M4;go_wp2_with fail;go_ret;exact⟨rfl,hB.trans (Ha.mono hB.size)⟩
  ·rw[if_neg hm];go_enter func162,ntmps162;go_wp2_with fail;refine(hr _).mono ?_;rintro x w1⟨rfl,Hc⟩;have hB:Bw w w1:=((bzR _ _).alloc (nzR _) _).trans (Hc.mono (by simp))
   obtain⟨Gn,M4⟩:=bcell Hc;clear hr;go_wp2_with fail;refine(H.out _ (HS.out.below hB)).mono ?_;rintro x w2⟨rfl,Ha⟩;clear Gn M4;go_wp2_with fail;go_ret;exact⟨rfl,hB.trans (Ha.mono hB.size)⟩
 ·rw[if_neg hk];rw[wAb hk] at hr ⊢;go_enter func162,ntmps162;go_wp2_with fail;refine(hr _).mono ?_;rintro x w1⟨rfl,Hc⟩;have hB:Bw w w1:=((bzR _ _).alloc (nzR _) _).trans (Hc.mono (by simp))
  clear hr;go_wp2_with fail;go_ret;exact⟨rfl,hB⟩
theorem zCn{w:World}{b o k:Nat}{zs:List R}(h:Lies w b o zs)(hk:k<zs.length){r1 r2 r3 r4 r5:Int}(he:zs[k]! = ⟨r1,r2,r3,r4,r5⟩) :
  w.cell? ⟨b,o+k*5,none⟩=some (.int .i64 r1)∧w.cell? ⟨b,o+k*5+1,none⟩=some (.int .i64 r2)∧w.cell? ⟨b,o+k*5+2,none⟩=some (.int .i64 r3)∧w.cell? ⟨b,o+k*5+3,none⟩=some (.int .i64 r4)∧w.cell? ⟨b,o+k*5+4,none⟩=some (.int .i64 r5):=by
 have hh:=h k hk;rw[he] at hh;exact⟨hh 0 _ rfl,hh 1 _ rfl,hh 2 _ rfl,hh 3 _ rfl,hh 4 _ rfl⟩
theorem wAY{zs:List R}{k:Nat}(hk:k<zs.length):zs.drop k=zs[k]!::zs.drop (k+1):=by
 rw[List.drop_eq_getElem_cons hk,getE _ _ hk]
theorem zDX{zs:List R}{k:Nat}(hk:k<zs.length):zs.take (k+1)=zs.take k++[zs[k]!]:=by
 rw[List.take_succ_eq_append_getElem hk,getE _ _ hk]
theorem zQl{w:World}{b o c k:Nat}{zs:List R}(hk:k≤zs.length)(hc:zs.length≤c)(hm:c≤9223372036854775807)(hb:b<w.heap.size)(h:Lies w b o zs):SL w (.slice (some ⟨b,o,none⟩) k c) (zs.take k):=by
 refine .inr ⟨b,o,c,?_,?_,hm,hb,h.take k⟩
 ·rw[jJ,Nat.min_eq_left hk]
 ·rw[jJ];omega
theorem zDY(b o c:Nat)(zs:List R)(w:World)(hb:b<w.heap.size)(hc:zs.length≤c)(hm:c≤9223372036854775807)(hl:Lies w b o zs) :
  Calls prog 138 #[.slice (some ⟨b,o,none⟩) zs.length c] w fun e w'=>e=.returned (errV (qchk zs))∧Below w.heap.size w w':=by
 by_cases GF:60<zs.length
 ·have e:qchk zs=4:=by unfold qchk;rw[if_pos GF]
  rw[e];clear hl e;generalize zs.length=n at *;have h60' : (60:Int)<(n:Int):=by omega
  go_enter func138,ntmps138
  go_wp2
  go_ret;exact⟨rfl,bzR _ _⟩
 ·have e:qchk zs=qgo [] zs:=by unfold qchk;rw[if_neg GF]
  rw[e];clear e;generalize hQ:qgo [] zs=Q;have HQ:Hid (qgo [] zs=Q):=hQ;clear hQ;have HL:Hid (Lies w b o zs):=hl;clear hl;generalize hn:zs.length=n at *;have HN:Hid (zs.length=n):=hn;clear hn;have h60' : ¬(60:Int)<(n:Int):=by omega
  go_enter func138,ntmps138;go_wp2_with fail;go_loopg [3,4,5,12] n (fun gg _ _ _ s12 wr=>∃kk:Nat,kk≤n∧n - kk≤gg∧s12=.int .i64 kk∧Aside (Below w.heap.size w wr)∧Aside (qgo (zs.take kk) (zs.drop kk)=Q))
  case atStart=>exact⟨0,jL _,by omega,rfl,bzR _ w,HQ.out⟩
  case round=>
   obtain⟨kk,gd,hg,rfl,BW,A⟩:=hrel;by_cases Hi:kk<n
   ·have Hp:(kk:Int)<(n:Int):=(by omega);have Hs:kk<zs.length:=(by rw[HN.out];exact Hi);have LW:Hid (Lies wr b o zs):=HL.out.below hb BW.out;obtain⟨r,hr⟩:∃r,zs[kk]! = r:=⟨_,rfl⟩;obtain⟨r1,r2,r3,r4,r5⟩:=r;obtain⟨c0,c1,c2,c3,c4⟩:=zCn LW.out Hs hr;have HR:Hid (zs[kk]! = ⟨r1,r2,r3,r4,r5⟩):=hr;have hA:(if bchk (zs.take kk) ⟨r1,r2,r3,r4,r5⟩=0 then qgo (zs.take (kk+1)) (zs.drop (kk+1)) else bchk (zs.take kk) ⟨r1,r2,r3,r4,r5⟩)=Q:=by
     have h:=A.out;rw[wAY Hs,HR.out] at h;rw[zDX Hs,HR.out];exact h
    have HA:Hid ((if bchk (zs.take kk) ⟨r1,r2,r3,r4,r5⟩=0 then qgo (zs.take (kk+1)) (zs.drop (kk+1)) else bchk (zs.take kk) ⟨r1,r2,r3,r4,r5⟩)=Q):=hA
    have MI:b<wr.heap.size:=jC hb BW.out.size;have gR:¬((kk:Int)<0):=(by omega);have hkc:¬((c:Int)<(kk:Int)):=(by omega);have hkc2:(kk:Int)≤(c:Int):=(by omega);have hBH:=fun v W hW=>zJh v (zs.take kk) r1 r2 r3 r4 r5 W hW
    have HB:Hid (∀v W,SL W v (zs.take kk)→Calls prog 162 #[v,.agg #[.int .i64 r1,.int .i64 r2,.int .i64 r3,.int .i64 r4,.int .i64 r5]] W fun x w'=>x=.returned (errV (bchk (zs.take kk) ⟨r1,r2,r3,r4,r5⟩))∧Below W.heap.size W w'):=hBH
    clear hA hr hBH A;generalize bchk (zs.take kk) ⟨r1,r2,r3,r4,r5⟩=k at HA HB;go_upto_region 6 with fail
    have hV:Below w.heap.size w (wr.alloc (.cells #[.int .i64 r1,.int .i64 r2,.int .i64 r3,.int .i64 r4,.int .i64 r5] 51)):=BW.out.alloc BW.out.size _;have hR:=jA wr (.cells #[.int .i64 r1,.int .i64 r2,.int .i64 r3,.int .i64 r4,.int .i64 r5] 51);have mn:Hid (SL (wr.alloc (.cells #[.int .i64 r1,.int .i64 r2,.int .i64 r3,.int .i64 r4,.int .i64 r5] 51)) (.slice (some ⟨b,o,none⟩) kk c) (zs.take kk)):=(zQl (by rw[HN.out];exact gd) (by rw[HN.out];exact hc) hm MI LW.out).below ((bzR _ _).alloc (nzR _) _)
    generalize wr.alloc (.cells #[.int .i64 r1,.int .i64 r2,.int .i64 r3,.int .i64 r4,.int .i64 r5] 51)=V at *;generalize wr.heap.size=G at *;have cel:∀i,V.cell? ⟨G,i,none⟩=(#[.int .i64 r1,.int .i64 r2,.int .i64 r3,.int .i64 r4,.int .i64 r5]:Array Value)[i]?:=fun i=>by simp[World.cell?,hR]
    have d0:=cel 0;have d1:=cel 1;have d2:=cel 2;have d3:=cel 3;have d4:=cel 4;simp only[List.getElem?_toArray,List.getElem?_cons_zero,List.getElem?_cons_succ] at d0 d1 d2 d3 d4;clear cel hR c0 c1 c2 c3 c4;have SO:Hid (∀W,Below V.heap.size V W→(Below V.heap.size V W∧W.cell? ⟨G,0,none⟩=some (.int .i64 r1)∧W.cell? ⟨G,1,none⟩=some (.int .i64 r2)∧W.cell? ⟨G,2,none⟩=some (.int .i64 r3)∧W.cell? ⟨G,3,none⟩=some (.int .i64 r4)∧W.cell? ⟨G,4,none⟩=some (.int .i64 r5))):=fun W hW=>⟨hW,zAa hW d0,zAa hW d1,zAa hW d2,zAa hW d3,zAa hW d4⟩
    go_region_held3 (fun W=>Below V.heap.size V W∧W.cell? ⟨G,0,none⟩=some (.int .i64 r1)∧W.cell? ⟨G,1,none⟩=some (.int .i64 r2)∧W.cell? ⟨G,2,none⟩=some (.int .i64 r3)∧W.cell? ⟨G,3,none⟩=some (.int .i64 r4)∧W.cell? ⟨G,4,none⟩=some (.int .i64 r5))
     ((refine SO.out _ ?_;(with_reducible repeat' (first|assumption|refine bal ?_ _|refine Below.setCell ?_ ?_ _|refine Below.drew ?_|exact bzR _ _|exact nzR _|exact Below.size (by assumption)|refine jD ?_))))
     (first|(go_at_call 162;refine(HB.out _ _ ?_).mono ?_;exact mn.out.below (bzR _ _).drew;rintro x W ⟨rfl,GB⟩;have Hm:Below V.heap.size V W:=(bzR _ _).drew.trans GB))
    have hW:Below w.heap.size w W:=hV.trans (Hm.mono hV.size);clear SO d0 d1 d2 d3 d4 GB Hm hV mn;by_cases hk:k=0
    ·subst hk;rw[if_pos rfl] at HA;simp only[wAa];go_wp2_with fail;go_roundg (n - (kk+1))
     case measure=>omega
     case rel=>exact⟨kk+1,by omega,by omega,by go_num,hW,HA.out⟩
    ·rw[if_neg hk] at HA;simp only[wAb hk];go_wp2_with fail;go_ret;exact⟨by rw[←HA.out,wAb hk];rfl,hW⟩
   ·have Hp:¬(kk:Int)<(n:Int):=(by omega);have:kk=n:=(by omega);subst this;go_wp2_with fail;go_ret;refine⟨?_,BW.out⟩;have h:=A.out;rw[List.drop_eq_nil_of_le (by rw[HN.out];exact nzR _)] at h
    rw[←h];rfl
theorem zJi(w:World) :
  Calls prog 138 #[.slice none 0 0] w fun e w'=>e=.returned (errV (qchk []))∧Bw w w':=by
 go_enter func138,ntmps138;go_wp2_with fail;go_loopg [3,4,5,12] 0 (fun _ _ _ _ s12 wr=>s12=.int .i64 0∧wr=w)
 case atStart=>exact⟨rfl,rfl⟩
 case round=>
  obtain⟨rfl,rfl⟩:=hrel;go_wp2_with fail;go_ret;exact⟨rfl,bzR _ _⟩
theorem zEX(v:Value)(zs:List R)(w:World)(h:SL w v zs) :
  Calls prog 138 #[v] w fun e w'=>e=.returned (errV (qchk zs))∧Bw w w':=by
 rcases h with ⟨rfl,rfl⟩|⟨b,o,c,rfl,h2,h3,h4,h5⟩
 ·exact zJi w
 ·exact zDY b o c zs w h4 h2 h3 h5
theorem zNA(zs:List R)(k:Nat)(hk:k<zs.length):tot (zs.take (k+1))=tot (zs.take k)+(zs[k]!.qty+zs[k]!.hid):=by
 rw[zDX hk,zEV];simp only[tot];omega
theorem zJj(b o c:Nat)(zs:List R)(w:World)(hb:b<w.heap.size)(hc:zs.length≤c)(hm:c≤9223372036854775807)(hl:Lies w b o zs)(h0:qchk zs=0) :
  Calls prog 169 #[.slice (some ⟨b,o,none⟩) zs.length c] w fun e w'=>e=.returned (.tuple #[.int .i64 (tot zs),.nilIface])∧Bw w w':=by
 have Hf:=zDY b o c zs w hb hc hm hl;rw[h0,wAa] at Hf;obtain⟨GF,hG⟩:=(zAn zs).1 h0;have HG:Hid (Good zs):=hG;have HL:Hid (Lies w b o zs):=hl;clear hl h0 hG;generalize hT:tot zs=T;have HT:Hid (tot zs=T):=hT;clear hT;generalize hn:zs.length=n at *;have HN:Hid (zs.length=n):=hn;clear hn;go_enter func169,ntmps169;go_wp2_with fail;refine Hf.mono ?_;rintro e w1⟨rfl,Hc⟩;have He:Hid (Bw w w1):=Hc;clear Hf Hc;go_wp2_with fail;go_loopg [5,7,15] n (fun gg s5 _ s15 wr=>∃kk:Nat,kk≤n∧n - kk≤gg∧s15=.int .i64 kk∧s5=.int .i64 (tot (zs.take kk))∧Aside (Below w.heap.size w wr))
 case atStart=>exact⟨0,jL _,by omega,rfl,rfl,He.out⟩
 case round=>
  obtain⟨kk,gd,hg,rfl,rfl,BW⟩:=hrel;have hA:Hid (0≤tot (zs.take kk)∧tot (zs.take kk)≤20000*(kk:Int)):=by
   have:=zKC (zs.take kk) (fun r hr=>HG.out.1 r (List.mem_of_mem_take hr))
   rw[jJ,HN.out,Nat.min_eq_left gd] at this;exact this
  by_cases Hi:kk<n
  ·have Hp:(kk:Int)<(n:Int):=by omega
   have Hs:kk<zs.length:=by rw[HN.out];exact Hi
   have LW:Hid (Lies wr b o zs):=HL.out.below hb BW.out;obtain⟨r,hr⟩:∃r,zs[kk]! = r:=⟨_,rfl⟩;obtain⟨r1,r2,r3,r4,r5⟩:=r;obtain⟨c0,c1,c2,c3,c4⟩:=zCn LW.out Hs hr;have hq:=zAq (HG.out.1 zs[kk]! (by rw[getE _ _ Hs];exact jT Hs))
   rw[hr] at hq;obtain⟨⟨q1,q2⟩,⟨q3,q4⟩,-⟩:=hq;simp only[] at q1 q2 q3 q4;have mQ:Hid (tot (zs.take (kk+1))=tot (zs.take kk)+(r3+r4)):=by
    have:=zNA zs kk Hs;rw[hr] at this;exact this
   clear hr;obtain⟨t1,t2⟩:=hA.out;clear hA;have MI:b<wr.heap.size:=jC hb BW.out.size;have gR:¬((kk:Int)<0):=by omega
   have e1:wrap64 (r3+r4)=r3+r4:=by unfold wrap64;omega
   have e2:wrap64 (tot (zs.take kk)+(r3+r4))=tot (zs.take kk)+(r3+r4):=by unfold wrap64;omega
   go_wp2_with fail;go_roundg (n - (kk+1))
   case measure=>omega
   case rel=>exact⟨kk+1,by omega,by omega,by go_num,by rw[mQ.out],BW.out.alloc BW.out.size _⟩
  ·have Hp:¬(kk:Int)<(n:Int):=by omega
   have hk:kk=n:=by omega
   subst hk;have pW:tot (zs.take kk)=T:=by rw[←HT.out,List.take_of_length_le (by rw[HN.out];exact nzR _)]
   rw[pW];go_wp2_with fail
   go_ret2
   exact⟨rfl,BW.out⟩
end que
end Go.Proofs.YtnfilcpnneckkaaGreat
