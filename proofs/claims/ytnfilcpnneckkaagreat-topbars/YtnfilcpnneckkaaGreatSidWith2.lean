import Derived.Test.YtnfilcpnneckkaaGreatSidIns2
set_option maxHeartbeats 4000000
set_option maxRecDepth 100000
namespace Go.Proofs.YtnfilcpnneckkaaGreat
open Tryz
namespace sid
open Go.RowKit spn que
theorem zHN(w:World)(base g off n c i vb m vc:Nat)(xs vs:List Value)(ho:OwnM w base 54 2 (.slice (some ⟨g,off,none⟩) n c) n xs)(hi:i<n)(hm:0<m)(EJ:m≤1000)(P2:n≤10000)(gT:c<n+m)(Hq:base≤w.heap.size)
  (mC:vs.length=m*2) (M9:w.rangeAt vb 0 vs) (hvw:vb<w.heap.size) (Mb:∀u∈xs,u.oneCell'=true) (h1:∀u∈vs,u.oneCell'=true) :
  Calls prog 149 #[.slice (some ⟨g,off,none⟩) n c,.int .i64 i,.slice (some ⟨vb,0,none⟩) m vc] w fun e w'=>InsPost w base (.slice (some ⟨g,off,none⟩) n c) (n+m) (xs.take (i*2)++vs++xs.drop (i*2)) e w':=by
 obtain⟨G7,ud,⟨cur,G5,Gy⟩,GH,gi,uk,uO⟩:=wAk ho;have UE:g<w.heap.size:=(gzE.1 G5).1;have GS:(xs.drop (i*2)).length=(n - i)*2:=by rw[jQ,G7];omega
 have gW:(xs.take (i*2)).length=i*2:=by rw[jJ,G7];omega
 have hx:xs=xs.take (i*2)++xs.drop (i*2):=(jR _ _).symm;have gq:w.rangeAt g off (xs.take (i*2)):=by rw[hx] at uk;exact wAC uk
 have H5:w.rangeAt g (off+i*2) (xs.drop (i*2)):=by rw[hx] at uk;have:=wAx uk;rwa [gW] at this
 obtain⟨i0,gY,gE,Mm,hzb⟩:=rlv.infoR';have gd:(n:Int)+(m:Int) - (i:Int)=((n+m - i:Nat):Int):=by omega
 have hik:i+(n+m - i)=n+m:=by omega
 have ER:(Builtin.firstCells i0.size i (.slice (some ⟨g,off,none⟩) i c)).run prog w.drew=.ok (xs.take (i*2)).toArray w.drew:=by
  rw[Mm];exact run_firstCells_some w.drew 2 i ⟨g,off,none⟩ i c (xs.take (i*2)) gW (fun j v hj=>by rw[Addr.add_lit];exact gq j v hj)
 have hrz:∀ty,(Builtin.append_ #[55,3] ty #[.slice (some ⟨g,off,none⟩) i c,.int .i64 ((n:Int)+(m:Int) - (i:Int))]).run prog w =
   .ok (.slice (some ⟨w.heap.size,0,none⟩) (n+m) (grownCap w (n+m) c 54)) (w.drew.alloc (.cells ((xs.take (i*2)).toArray++Builtin.zeroCells rlv.zeroR.cells (n+m - i)++Builtin.zeroCells rlv.zeroR.cells (grownCap w (n+m) c 54 - (n+m))) 54)):=fun ty=>by
  have h:=Lib.run_append_grow_zeros w 55 3 ty 54 i0 _ .i64 .i64 underlying55 underlying3 gY gE (some ⟨g,off,none⟩) i c (xs.take (i*2)) ER (n+m - i) (by omega) (by omega) (by omega) (by omega) (by rw[hzb];omega) (by rw[hzb,hik];exact growslice_fits gT (by omega))
  rw[hik] at h;rw[gd];exact h
 obtain⟨G,hG⟩:∃G,G=grownCap w (n+m) c 54:=⟨_,rfl⟩;obtain⟨ROW,bv⟩:∃ROW:Array Value,ROW=(xs.take (i*2)).toArray++Builtin.zeroCells rlv.zeroR.cells (n+m - i)++Builtin.zeroCells rlv.zeroR.cells (G - (n+m)):=⟨_,rfl⟩;rw[←hG] at hrz;rw[←bv] at hrz;have hGn:n+m≤G:=by rw[hG];exact grownCap_ge w _ _ _
 have hGm:G≤maxLen:=by rw[hG];exact grownCap_le_maxLen w (n+m) c 54 (by unfold maxLen;omega)
 have hG63:G≤9223372036854775807:=by simpa [maxLen] using hGm
 have hRl:ROW.size=G*2:=by
  rw[bv,Array.size_append,Array.size_append,size_zeroCells,size_zeroCells];rw[List.size_toArray,gW];show i*2+(n+m - i)*2+(G - (n+m))*2=_
  omega
 obtain⟨W1,H7⟩:∃W1,W1=w.drew.alloc (.cells ROW 54):=⟨_,rfl⟩;rw[←H7] at hrz;have U7:W1.heap[w.heap.size]?=some (.cells ROW 54 (0,0)):=by rw[H7];exact jA w.drew _
 have GI:∀o k,o+k≤G*2→W1.there w.heap.size o k:=fun o k hk j hj=>⟨by rw[jZ W1 w.heap.size (o+j) ROW _ (0,0) U7,Array.getElem?_eq_getElem (by omega)];rfl,by simp[World.frozen?,U7]⟩
 have E7:W1.rangeAt w.heap.size 0 (xs.take (i*2)):=fun j v hv=>by
  rw[jZ W1 w.heap.size (0+j) ROW _ (0,0) U7,Nat.zero_add,bv,Array.append_assoc,Array.getElem?_append_left (by simpa using (List.getElem?_eq_some_iff.1 hv).1)]
  simpa using hv
 have MH:Bw w W1:=by rw[H7];exact(bzR _ _).drew.alloc (nzR _) _
 have PE:W1.rangeAt vb 0 vs:=fun j v hv=>(MH.cell (p:=⟨vb,0+j,none⟩) hvw).trans (M9 j v hv)
 have E3:W1.rangeAt g (off+i*2) (xs.drop (i*2)):=fun j v hv=>(MH.cell (p:=⟨g,off+i*2+j,none⟩) UE).trans (H5 j v hv)
 have hcpA:∀ (W:World),(∀x,W.cell? x=W1.cell? x)→(∀x,W.frozen? x=W1.frozen? x)→∀ty dc,(Builtin.copy_ #[55,55] ty #[.slice (some ⟨w.heap.size,i*2,none⟩) (n+m - i) dc,.slice (some ⟨vb,0,none⟩) m vc]).run prog W=.ok (goInt m) (W.setCells w.heap.size (i*2) vs):=fun W BD Ei ty dc=>by
  have:=zBD (P:=prog) W 55 55 ty 54 2 w.heap.size (i*2) (n+m - i) dc ⟨vb,0,none⟩ m vc vs underlying55 zOm (by rw[mC];congr 1;simp only[Nat.min_def];split <;>omega)
   (fun j v hj=>by rw[Addr.add_lit,BD];exact PE j v hj) (fun j hj=>by rw[BD,Ei];exact GI (i*2) (m*2) (by omega) j (by omega)) h1
  rw[show Nat.min m (n+m - i)=m by simp only[Nat.min_def];split <;>omega] at this
  exact this
 have hgN:g≠w.heap.size:=by omega
 have Et:∀ (W:World),(∀x,W.cell? x=(W1.setCells w.heap.size (i*2) vs).cell? x)→(∀x,W.frozen? x=(W1.setCells w.heap.size (i*2) vs).frozen? x)→∀ty dc sc,(Builtin.copy_ #[55,55] ty #[.slice (some ⟨w.heap.size,(i+m)*2,none⟩) (n+m - (i+m)) dc,.slice (some ⟨g,off+i*2,none⟩) (n - i) sc]).run prog W=.ok (goInt ((n - i:Nat):Int)) (W.setCells w.heap.size ((i+m)*2) (xs.drop (i*2))):=fun W BD Ei ty dc sc=>by
  have:=zBD (P:=prog) W 55 55 ty 54 2 w.heap.size ((i+m)*2) (n+m - (i+m)) dc ⟨g,off+i*2,none⟩ (n - i) sc (xs.drop (i*2)) underlying55 zOm (by rw[GS];congr 1;simp only[Nat.min_def];split <;>omega)
   (fun j v hj=>by
    rw[Addr.add_lit,BD];exact World.rangeAt_setCells_apart E3 _ _ _ (.inl hgN) j v hj)
   (fun j hj=>by rw[BD,Ei];exact World.there_setCells (GI ((i+m)*2) ((n - i)*2) (by omega)) _ _ _ j (by omega)) (fun v hv=>Mb v (List.mem_of_mem_drop hv))
  rw[show Nat.min (n - i) (n+m - (i+m))=n - i by simp only[Nat.min_def];split <;>omega] at this
  exact this
 have Hw:Hid (∀W,W.heap=((W1.setCells w.heap.size (i*2) vs).setCells w.heap.size ((i+m)*2) (xs.drop (i*2))).heap→W.os=w.os→W.tape=w.tape→W.output=w.output→InsPost w base (.slice (some ⟨g,off,none⟩) n c) (n+m) (xs.take (i*2)++vs++xs.drop (i*2)) (.returned (.slice (some ⟨w.heap.size,0,none⟩) (n+m) G)) W):=by
  intro W hh Us Mi ho3;obtain⟨cur1,Hc,Hl⟩:=wAi w.heap.size 54 (0,0) vs (i*2) W1 ROW U7;obtain⟨cur2,Ha,H9⟩:=wAi w.heap.size 54 (0,0) (xs.drop (i*2)) ((i+m)*2) _ cur1 Hc;have Hy:W1.grownBy ((W1.setCells w.heap.size (i*2) vs).setCells w.heap.size ((i+m)*2) (xs.drop (i*2))) (some w.heap.size):=wAd (wAh _ _ _ _) (wAh _ _ _ _);refine⟨_,rfl,wAO (cur:=cur2) ?_ Hq (by rw[hh];exact Ha) (by rw[H9,Hl,hRl];omega) hGn hGm ?_,?_,.inr ⟨_,rfl,nzR _⟩⟩
  ·rw[jE,jE,gW,mC,GS];omega
  ·have gv:∀x,W.cell? x=((W1.setCells w.heap.size (i*2) vs).setCells w.heap.size ((i+m)*2) (xs.drop (i*2))).cell? x:=fun x=>by simp only[World.cell?,hh]
   have hR:((W1.setCells w.heap.size (i*2) vs).setCells w.heap.size ((i+m)*2) (xs.drop (i*2))).rangeAt w.heap.size 0 (xs.take (i*2)++vs++xs.drop (i*2)):=by
    refine wAq (wAq ?_ ?_) ?_
    ·refine World.rangeAt_setCells_apart ?_ _ _ _ (.inr (.inl (by rw[gW];omega)))
     exact World.rangeAt_setCells_apart E7 _ _ _ (.inr (.inl (by rw[gW];omega)))
    ·rw[gW,Nat.zero_add];refine World.rangeAt_setCells_apart ?_ _ _ _ (.inr (.inl (by rw[mC];omega)))
     exact World.rangeAt_setCells_same _ _ _ _ (by rw[mC];exact GI _ _ (by omega))
    ·rw[jE,gW,mC,Nat.zero_add,show i*2+m*2=(i+m)*2 by omega]
     exact World.rangeAt_setCells_same _ _ _ _ (World.there_setCells (by rw[GS];exact GI _ _ (by omega)) _ _ _)
   exact fun j v hv=>(gv _).trans (hR j v hv)
  ·refine⟨Us,Mi,ho3,?_,fun k hk _=>?_⟩
   ·rw[hh];exact jM MH.size Hy.size
   ·rw[hh,Hy.block k (jC hk MH.size) (fun e=>by simp at e;omega)]
    exact MH.block k hk
 generalize InsPost w base (.slice (some ⟨g,off,none⟩) n c) (n+m) (xs.take (i*2)++vs++xs.drop (i*2))=POST at *;have gu:¬((m:Int)=0):=by omega
 have P6:¬(m=0):=by omega
 have gA:¬((i:Int)=(n:Int)):=by omega
 have hz3:(c:Int)<(n:Int)+(m:Int):=by omega
 have hGi:¬(G=i):=by omega
 have hGim:¬(G=i+m):=by omega
 have hci:¬(c=i):=by omega
 subst H7;have hE1:∀x,((w.alloc (.cells ROW 54)).drew).cell? x=(w.drew.alloc (.cells ROW 54)).cell? x:=fun x=>rfl
 have hE2:∀x,((w.alloc (.cells ROW 54)).drew).frozen? x=(w.drew.alloc (.cells ROW 54)).frozen? x:=fun x=>rfl
 have hF1:∀x,(((w.alloc (.cells ROW 54)).drew.setCells w.heap.size (i*2) vs).drew).cell? x=((w.drew.alloc (.cells ROW 54)).setCells w.heap.size (i*2) vs).cell? x:=fun x=>rfl
 have hF2:∀x,(((w.alloc (.cells ROW 54)).drew.setCells w.heap.size (i*2) vs).drew).frozen? x=((w.drew.alloc (.cells ROW 54)).setCells w.heap.size (i*2) vs).frozen? x:=fun x=>rfl
 have MV:IntKind.i64.wrap ((i:Int)+(m:Int))=(i:Int)+(m:Int):=by rw[IntKind.wrap_i64];omega
 have Hc:(0:Int)≤(i:Int)+(m:Int):=by omega
 have Hv:i≤n:=by omega
 have bU:((i:Int)+(m:Int)).toNat=i+m:=by omega
 have Hr:(i:Int)≤(n:Int):=by omega
 have mixed:prog.follows Departure.mixedOrders=true:=by kernel_rfl
 clear gd hik ER bv hG hRl ho G7 G5 Gy uk uO GS gW hx gq H5 mC M9 h1 Mb gi ud U7 GI E7 MH PE E3 gY gE Mm hzb hGm;go_enter func149,ntmps149;go_wp2_with (first
  | (at_builtin;refine Lib.wpList_append_run _ rfl _ _ _ _ rfl _ _ rfl rfl _ _ (hrz _) ?_)
  | (at_builtin;refine wpList_copy_runI _ rfl _ _ 55 55 rfl _ _ rfl rfl (hcpA _ hE1 hE2 _ _) ?_)
  | (at_builtin;refine wpList_copy_runI _ rfl _ _ 55 55 rfl _ _ rfl rfl (Et _ (fun _=>rfl) (fun _=>rfl) _ _ _) ?_))
 go_region_law_o (refine step_copy_runI rfl _ _ 55 55 rfl (.slice (some ⟨w.heap.size,(i+m)*2,none⟩) (n+m - (i+m)) (G - (i+m))) (.slice (some ⟨g,off+i*2,none⟩) (n - i) (c - i)) (by simp[Act.eval,Act.put]) (by simp[Act.eval,Act.put]) (Et _ hF1 hF2 3 (G - (i+m)) (c - i)) ?_)
 go_wp2
 have hgz:∀ (X:World) (a b:Nat) (us ys:List Value),X.grownBy (((X.drew.setCells w.heap.size a us).drew).setCells w.heap.size b ys) (some w.heap.size):=fun X a b us ys=>wAd (wAd (wAd (wAH _ _) (wAh _ _ _ _)) (wAH _ _)) (wAh _ _ _ _)
 have PY:=hgz (w.alloc (.cells ROW 54)) (i*2) ((i+m)*2) vs (xs.drop (i*2));exact Hw.out _ (by rw[show w.drew.alloc (.cells ROW 54)=(w.alloc (.cells ROW 54)).drew from rfl,←drew_setCells,←drew_setCells,←drew_setCells];rfl) PY.os PY.tape PY.output
theorem zGJ(zs:List rlv.RL)(i:Nat):rlv.flat (zs.take i)=(rlv.flat zs).take (i*2):=by
 induction zs generalizing i with
 | nil=>simp[rlv.flat]
 | cons r t ih=>
  cases i with
  | zero=>simp[rlv.flat]
  | succ i=>rw[List.take_succ_cons,rlv.wAm,rlv.wAm,ih,show (i+1)*2=(rlv.rV r).length+i*2 by show _=2+i*2;omega,List.take_length_add_append]
theorem zGK(zs:List rlv.RL)(i:Nat):rlv.flat (zs.drop i)=(rlv.flat zs).drop (i*2):=by
 induction zs generalizing i with
 | nil=>simp[rlv.flat]
 | cons r t ih=>
  cases i with
  | zero=>simp
  | succ i=>rw[List.drop_succ_cons,rlv.wAm,ih,show (i+1)*2=(rlv.rV r).length+i*2 by show _=2+i*2;omega,List.drop_length_add_append]
theorem zJE(w:World)(base:Nat)(v:Value)(zs:List rlv.RL)(i:Nat)(p:Int)(vb vc:Nat)(ho:rlv.OwnQ w base v zs)(Hq:base≤w.heap.size)(hi:i≤zs.length)(hn:zs.length≤10000)
  (PD:w.heap[vb]?=some (.cells #[.int .i64 p,.slice none 0 0] 54 (0,0))) (H8:v.ownBlock≠some vb) :
  Calls prog 149 #[v,.int .i64 i,.slice (some ⟨vb,0,none⟩) 1 vc] w fun e w'=>
   ∃v',e=.returned v'∧rlv.OwnQ w' base v' (zs.take i++⟨p,none,0,0⟩::zs.drop i)∧w.grownBy w' v.ownBlock∧(v'.ownBlock=v.ownBlock∨∃k,v'.ownBlock=some k∧w.heap.size≤k):=by
 have M9:w.rangeAt vb 0 [.int .i64 p,.slice none 0 0]:=fun j u hu=>by
  rw[jZ w vb (0+j) _ _ (0,0) PD,Nat.zero_add];simpa using hu
 have h1:∀u∈[Value.int .i64 p,.slice none 0 0],u.oneCell'=true:=by
  intro u hu;simp at hu;rcases hu with rfl|rfl <;>rfl
 have hfl:rlv.flat (zs.take i++⟨p,none,0,0⟩::zs.drop i)=(rlv.flat zs).take (i*2)++[.int .i64 p,.slice none 0 0]++(rlv.flat zs).drop (i*2):=by
  rw[rlv.wAg,rlv.wAm,zGJ,zGK,jS];rfl
 have hln:(zs.take i++(⟨p,none,0,0⟩:rlv.RL)::zs.drop i).length=zs.length+1:=by simp;omega
 unfold rlv.OwnQ;rw[hfl,hln];by_cases he:i=zs.length
 ·subst he;have:=zJD w base v zs.length (rlv.flat zs) vb 1 vc [.int .i64 p,.slice none 0 0] ho Hq (by omega) (by omega) hn rfl M9 h1
  rw[List.take_of_length_le (by rw[rlv.wAl];exact nzR _),List.drop_eq_nil_of_le (by rw[rlv.wAl];exact nzR _),jH]
  exact this
 ·have Hi:i<zs.length:=by omega
  obtain⟨q,c,hv⟩:=OwnM.form ho;subst hv;rcases ho.2 with ⟨e,hz⟩|⟨g,off,cap,cur,e,ud,hg,UM,gi,Gy,-⟩
  ·omega
  ·cases e;have hvg:vb≠g:=fun e=>H8 (by rw[e];rfl)
   by_cases hr:zs.length+1≤c
   ·exact zGI w base g off zs.length c i vb 1 vc (rlv.flat zs) [.int .i64 p,.slice none 0 0] _ _ ho Hi (by omega) (by omega) hr hvg rfl M9 PD (rlv.wAB zs) h1
   ·exact zHN w base g off zs.length c i vb 1 vc (rlv.flat zs) [.int .i64 p,.slice none 0 0] ho Hi (by omega) (by omega) hn (by omega) Hq rfl M9 (gzE.1 PD).1 (rlv.wAB zs) h1
end sid
namespace sid
open Go.RowKit spn que
open tickP (zAo zAB zBA betR)
theorem zLC{s p:Int}{r:R}(a b:List L)(h:∀l∈a,zAX s l.price p=true):putL s p r (a++b)=a++putL s p r b:=by
 induction a with
 | nil=>rfl
 | cons x t ih=>
  rw[List.cons_append,putL,if_pos (h x (by simp)),ih (fun l hl=>h l (by simp[hl]))];rfl
theorem zOn(s p:Int)(ps:List RP):∃a b,ps=a++b∧(∀y∈a,zAX s y.1.price p=true)∧(b=[]∨∃x t,b=x::t∧zAX s x.1.price p=false):=by
 induction ps with
 | nil=>exact⟨[],[],rfl,by simp,.inl rfl⟩
 | cons x t ih=>
  cases hl:zAX s x.1.price p
  ·exact⟨[],x::t,rfl,by simp,.inr ⟨x,t,rfl,hl⟩⟩
  ·obtain⟨a,b,e,h1,h2⟩:=ih;refine⟨x::a,b,by rw[e];rfl,?_,h2⟩
   intro y hy;rcases List.mem_cons.1 hy with rfl|hy
   ·exact hl
   ·exact h1 y hy
theorem zIx{α:Type}(f:α→Bool)(x:α)(a b:List α)(h:∀y∈a,f y=false):∀i,Lib.idxByFrom (fun _ y=>f y) x (a++b) i=Lib.idxByFrom (fun _ y=>f y) x b (i+a.length):=by
 induction a with
 | nil=>intro i;rfl
 | cons y t ih=>
  intro i;show (if f y=true then (i:Int) else Lib.idxByFrom (fun _ y=>f y) x (t++b) (i+1))=_
  rw[if_neg (by rw[h y (by simp)];simp),ih (fun z hz=>h z (by simp[hz])),jG,show i+1+t.length=i+(t.length+1) by omega]
theorem zQK{α:Type}(f:α→Bool)(x:α)(a:List α)(h:∀y∈a,f y=false):Lib.idxBy (fun _ y=>f y) a x = -1:=by
 have:=zIx f x a [] h 0;rw[jH] at this;unfold Lib.idxBy;rw[this];rfl
theorem zLD{α:Type}(f:α→Bool)(x:α)(a:List α)(y:α)(b:List α)(h:∀z∈a,f z=false)(hy:f y=true):Lib.idxBy (fun _ y=>f y) (a++y::b) x=a.length:=by
 have:=zIx f x a (y::b) h 0;unfold Lib.idxBy;rw[this];show (if f y=true then ((0+a.length:Nat):Int) else _)=_
 rw[if_pos hy,Nat.zero_add]
theorem zLE(s p:Int)(B1 B2:Nat)(w:World)(h1:B1<w.heap.size)(h2:B2<w.heap.size)(c1:w.cell? ⟨B1,0,none⟩=some (.int .i64 s))(c2:w.cell? ⟨B2,0,none⟩=some (.int .i64 p)) :
  PredBelow prog 148 #[.pointer (some ⟨B1,0,none⟩),.pointer (some ⟨B2,0,none⟩)] (fun x=>.agg (rlv.rV x).toArray) (fun x=>!zAX s x.price p) w:=by
 intro W x hb;obtain⟨pp,q,n,c⟩:=x;show Calls prog 148 #[.agg #[.int .i64 pp,.slice q n c],.pointer (some ⟨B1,0,none⟩),.pointer (some ⟨B2,0,none⟩)] W _
 have d1:=zAa hb c1;have d2:=zAa hb c2;have gu:B1<W.heap.size:=jC h1 hb.size;have gA:B2<W.heap.size:=jC h2 hb.size;have Ha:Bw w (W.alloc (.cells #[.int .i64 pp,.slice q n c] 54)):=hb.alloc hb.size _;have Hf:=zKH w s pp p _ Ha;simp only[];generalize zAX s pp p=ld at *;go_enter func148,ntmps148;go_wp2_with fail;refine Hf.mono ?_;rintro e w1⟨rfl,h3⟩;clear Hf;go_wp2_with fail;go_ret;exact⟨rfl,h3⟩
theorem zLF(cl:Value)(w:World) :
  Calls prog 147 #[.slice none 0 0,cl] w fun e w'=>e=.returned (.int .i64 (-1))∧Bw w w':=by
 go_enter func147,ntmps147
 go_wp2
 go_loopg [5,8] 0 (fun _ _ s8 wr=>s8=.int .i64 0∧wr=w)
 case atStart=>exact⟨rfl,rfl⟩
 case round=>
  obtain⟨rfl,rfl⟩:=hrel
  go_wp2
  go_ret;exact⟨rfl,bzR _ _⟩
theorem zLG(s p:Int)(B1 B2:Nat)(v:Value)(zs:List rlv.RL)(w:World)(h:rlv.SL w v zs)(h1:B1<w.heap.size)(h2:B2<w.heap.size)(c1:w.cell? ⟨B1,0,none⟩=some (.int .i64 s))(c2:w.cell? ⟨B2,0,none⟩=some (.int .i64 p)) :
  Calls prog 147 #[v,.func (.func 148) #[] #[.pointer (some ⟨B1,0,none⟩),.pointer (some ⟨B2,0,none⟩)]] w fun e w'=>e=.returned (.int .i64 (Lib.idxBy (fun _ y=>!zAX s y.price p) zs default))∧Bw w w':=by
 rcases h with ⟨rfl,rfl⟩|⟨b,o,c,rfl,hc,hm,hb,hl⟩
 ·exact zLF _ w
 ·have eg:∀args w,(callFunc 148 args).run prog w=.ok (.enter 148 args) w:=enters_of func148 (by kernel_rfl) rfl
  have Hf:=AnyQ.slices_IndexFunc Tryz.lq6l 2 isAgg54 sizeOf54 rlv.rV (fun x=>rfl) (fun x=>!zAX s x.price p) 148 #[.pointer (some ⟨B1,0,none⟩),.pointer (some ⟨B2,0,none⟩)] eg b o zs.length c zs
   w (zLE s p B1 B2 w h1 h2 c1 c2) (nzR _) (by omega) hb hl
  change Calls prog 147 _ _ _ at Hf
  rw[List.take_length] at Hf;exact Hf
theorem zLH(r:rlv.RL)(h:blkR r=none)(zs:List R)(b:RP):AP (r,zs) b∧AP b (r,zs):=
 ⟨fun x hx=>(by rw[show (r,zs).1=r from rfl,h] at hx;cases hx),fun x _ e=>(by rw[show (r,zs).1=r from rfl,h] at e;cases e)⟩
theorem DeepT.insert{w w' : World}{base:Nat}{v v' : Value}{a b:List RP}{p:Int}(h:Deep w base v (a++b))(ho:rlv.OwnQ w' base v' (a.map (·.1)++⟨p,none,0,0⟩::b.map (·.1)))
  (hg:w.grownBy w' v.ownBlock) (hv:v'.ownBlock=v.ownBlock∨∃k,v'.ownBlock=some k∧w.heap.size≤k):Deep w' base v' (a++(⟨p,none,0,0⟩,[])::b):=by
 have hk:∀y∈a++b,OwnQ w' base (sv y.1) y.2∧∀x,blkR y.1=some x→v'.ownBlock≠some x:=fun y hy=>by
  refine⟨zAm (h.each y hy) hg (fun x hx=>h.far y hy x hx),fun x hx=>?_⟩
  rcases hv with e|⟨k,e,hk⟩
  ·rw[e];exact h.far y hy x hx
  ·rw[e];intro e2;have e3:k=x:=by simpa using e2
   have:=(OwnM.lt (h.each y hy) x hx).2;omega
 refine⟨?_,?_,?_,?_⟩
 ·rw[jH,jF,jK];exact ho
 ·intro y hy;rcases List.mem_append.1 hy with hy|hy
  ·exact(hk y (by simp[hy])).1
  ·rcases List.mem_cons.1 hy with rfl|hy
   ·exact⟨rfl,.inl ⟨rfl,rfl⟩⟩
   ·exact(hk y (by simp[hy])).1
 ·obtain⟨h1,h2,h3⟩:=List.pairwise_append.1 h.apart;refine List.pairwise_append.2 ⟨h1,List.pairwise_cons.2 ⟨fun y _=>(zLH _ rfl _ y).1,h2⟩,fun y hy z hz=>?_⟩
  rcases List.mem_cons.1 hz with rfl|hz
  ·exact(zLH _ rfl _ y).2
  ·exact h3 y hy z hz
 ·intro y hy;rcases List.mem_append.1 hy with hy|hy
  ·exact(hk y (by simp[hy])).2
  ·rcases List.mem_cons.1 hy with rfl|hy
   ·intro x hx;cases hx
   ·exact(hk y (by simp[hy])).2
theorem zEm(w2:World)(base:Nat)(v:Value)(a b:List RP)(p:Int)(nq:Nat)(hD:Deep w2 base v (a++b))(Hq:base≤w2.heap.size)(hn:(a++b).length≤1000) :
  Calls prog 149 #[v,.int .i64 (a.length:Nat),.slice (some ⟨w2.heap.size,0,none⟩) 1 1] ((w2.drewN nq).alloc (.cells #[.int .i64 p,.slice none 0 0] 54)) fun e w'=>
   ∃v',e=.returned v'∧Deep w' base v' (a++(⟨p,none,0,0⟩,[])::b)∧Below base w2 w':=by
 have ur:(w2.drewN nq).heap.size=w2.heap.size:=rfl;have gc:Bw w2 ((w2.drewN nq).alloc (.cells #[.int .i64 p,.slice none 0 0] 54)):=(zEb (bzR _ _) nq).alloc (nzR _) _;have PD:=jA (w2.drewN nq) (.cells #[.int .i64 p,.slice none 0 0] 54);rw[ur] at PD;have hDV:=hD.below gc;have Gd:Below base w2 ((w2.drewN nq).alloc (.cells #[.int .i64 p,.slice none 0 0] 54)):=gc.mono Hq;generalize (w2.drewN nq).alloc (.cells #[.int .i64 p,.slice none 0 0] 54)=V at *;have ho:rlv.OwnQ V base v (a.map (·.1)++b.map (·.1)):=by have:=hDV.own;rwa [jH,jF] at this
 have h:=zJE V base v (a.map (·.1)++b.map (·.1)) a.length p w2.heap.size 1 ho (jM Hq gc.size) (by simp) (by simp at hn ⊢;omega) PD (fun e=>by have:=(OwnM.lt hD.own _ e).2;omega)
 refine h.mono ?_;rintro e w'⟨v',rfl,dN,hg,hv⟩;rw[List.take_left' (by simp),List.drop_left' (by simp)] at dN
 exact⟨v',rfl,hDV.insert dN hg hv,Gd.grown hg (jM Hq gc.size) (fun k hk=>(OwnM.lt hDV.own k hk).1)⟩
def WithPost(s p:Int)(ls:List L)(w:World)(e:Ending)(w' : World):Prop:=
 ∃v' a x b,e=.returned (.tuple #[v',.int .i64 (a.length:Nat)])∧Deep w' w.heap.size v' (a++x::b)∧x.1.price=p∧(∀r,putL s p r ls=a.map toL++⟨p,x.2++[r]⟩::b.map toL)∧Bw w w'
theorem zIy{s p:Int}{a:List RP}(h:∀y∈a,zAX s y.1.price p=true):∀l∈a.map toL,zAX s l.price p=true:=by
 intro l hl;obtain⟨y,hy,rfl⟩:=List.mem_map.1 hl;exact h y hy
theorem zIz{s p:Int}{a:List RP}(h:∀y∈a,zAX s y.1.price p=true):∀l∈a.map (·.1),(!zAX s l.price p)=false:=by
 intro l hl;obtain⟨y,hy,rfl⟩:=List.mem_map.1 hl;simp[h y hy]
theorem zFK(s p:Int)(v:Value)(ls:List L)(w:World)(h:LS w v ls)(hn:ls.length≤1000)(hr:∀l∈ls,l.rests.length≤1000)(H8:∀l∈ls,l.rests≠[]) :
  Calls prog 123 #[.int .i64 s,v,.int .i64 p] w fun e w'=>WithPost s p ls w e w':=by
 obtain⟨W0,UL⟩:∃W0,W0=(w.alloc (.cells #[.int .i64 s] 3)).alloc (.cells #[.int .i64 p] 3):=⟨_,rfl⟩;have gP:Bw w W0:=by rw[UL];exact((bzR _ _).alloc (nzR _) _).alloc (by simp) _
 have hs0:W0.heap.size=w.heap.size+2:=by rw[UL];simp
 have c1:W0.cell? ⟨w.heap.size,0,none⟩=some (.int .i64 s):=by rw[UL];simp[go_sem]
 have c2:W0.cell? ⟨w.heap.size+1,0,none⟩=some (.int .i64 p):=by rw[UL];simp[go_sem]
 have Pf:=zBu v ls W0 (h.below gP) hn hr H8;obtain⟨vq,vm,vc,rfl⟩:=zFz h;have HP:Hid (∀W v' a x b,Deep W w.heap.size v' (a++x::b)→x.1.price=p→(∀r,putL s p r ls=a.map toL++⟨p,x.2++[r]⟩::b.map toL)→Bw w W→WithPost s p ls w (.returned (.tuple #[v',.int .i64 (a.length:Nat)])) W):=fun W v' a x b h1 h2 h3 h4=>⟨v',a,x,b,rfl,h1,h2,h3,h4⟩
 have HN:Hid (ls.length≤1000):=hn;generalize WithPost s p ls w=POST at *;clear h hn hr H8;go_enter func123,ntmps123;go_wp2_with fail;rw[←UL];refine Pf.mono ?_;rintro e w1⟨v1,ps,rfl,GC,hD0,Gd⟩;have go:Hid (Bw w w1):=gP.trans (Gd.mono gP.size);have HD:Hid (Deep w1 w.heap.size v1 ps):=hD0.mono gP.size;have CW:w.heap.size+2≤w1.heap.size:=by have:=Gd.size;omega
 have d1:=zAa Gd c1;have d2:=zAa Gd c2;have Hh:ps.length≤1000:=by have:=HN.out;rw[←GC,jP] at this;exact this
 have Bm:Hid (ps.map toL=ls):=GC;have Ms:=zLG s p w.heap.size (w.heap.size+1) v1 (ps.map (·.1)) w1 HD.out.loose.1 (by omega) (by omega) d1 d2
 obtain⟨a,b,uQ,ha,hb⟩:=zOn s p ps;obtain⟨q1,cc1,CX⟩:=OwnM.form HD.out.own;rw[jH,jP] at CX;clear Pf gP hs0 c1 c2 UL hD0 Gd GC;rcases hb with rfl|⟨x,t,rfl,hx⟩
 ·
  rw[zQK _ _ _ (by rw[uQ,jH];exact zIz ha)] at Ms
  rw[jH] at uQ;subst uQ;have Mx:Hid (∀r,putL s p r ls=ps.map toL++⟨p,[]++[r]⟩::[].map toL):=fun r=>by
   rw[←Bm.out,←jH (ps.map toL),zLC _ _ (zIy ha),jH];rfl
  clear ha;subst CX;generalize MQ:ps.length=n at *;have py:Hid (ps.length=n):=MQ;clear MQ;go_wp2_with fail;refine Ms.mono ?_;rintro e w2⟨rfl,gG⟩;have H6:Hid (Bw w w2):=go.out.trans (gG.mono go.out.size);have ut:Hid (Deep w2 w.heap.size (.slice q1 n cc1) ps):=HD.out.below gG;have e2:=zAa gG d2;have hsz2:w.heap.size+2≤w2.heap.size:=jM CW gG.size;clear Ms gG d1 d2;go_upto_region 5 with fail
  go_quiet (fail)
  go_wp2_with fail;have Hv:=zEm w2 w.heap.size (.slice q1 n cc1) ps [] p nq (by rw[jH];exact ut.out) H6.out.size (by rw[jH,py.out];exact Hh)
  rw[py.out] at Hv;refine Hv.mono ?_;rintro e w3⟨v3,rfl,Md,UK⟩;have HX:=HP.out w3 v3 ps (⟨p,none,0,0⟩,[]) [] Md rfl Mx.out (H6.out.trans UK);rw[py.out] at HX;clear Hv Md UK;go_wp2_with fail;exact HX
 ·rw[uQ,jF,jK,zLD _ _ _ _ _ (zIz ha) (by simp[hx]),jP] at Ms
  have Mx:Hid (∀r,putL s p r ls=a.map toL++(if x.1.price=p then ⟨p,x.2++[r]⟩::t.map toL else ⟨p,[r]⟩::toL x::t.map toL)):=fun r=>by
   rw[←Bm.out,uQ,jF,zLC _ _ (zIy ha),jK,putL,if_neg (by rw[zKW,hx];simp)]
   rfl
  have Gp:Hid (ps=a++x::t):=uQ;rcases HD.out.own.2 with ⟨e,hz⟩|⟨g,off,cap,cur,e,-,-,UM,gi,-,-⟩
  ·rw[jH,jP,uQ] at hz;simp at hz
  ·rw[jH,jP] at e UM;subst e;have p9:cap≤9223372036854775807:=by simpa [maxLen] using gi
   have ho:=HD.out.own;rw[jH,uQ,jF,jK] at ho;obtain⟨-,c0,-,-,-,Ur⟩:=zDo ho;rw[jP] at c0;have BO:a.length<ps.length:=by rw[uQ];simp
   clear ho ha hx uQ gi CX;obtain⟨⟨xp,xq,xn,xc⟩,zs⟩:=x;simp only[] at c0;generalize MQ:ps.length=n at *;have py:Hid (ps.length=n):=MQ;generalize gd:a.length=k at *;have ug:Hid (a.length=k):=gd;clear MQ gd;go_wp2_with fail;refine Ms.mono ?_;rintro e w2⟨rfl,gG⟩;have H6:Hid (Bw w w2):=go.out.trans (gG.mono go.out.size);have ut:Hid (Deep w2 w.heap.size (.slice (some ⟨g,off,none⟩) n cap) (a++(⟨xp,xq,xn,xc⟩,zs)::t)):=by have:=HD.out.below gG;rwa [Gp.out] at this
   have e2:=zAa gG d2;have e0:=zAa gG c0;have hsz2:w.heap.size+2≤w2.heap.size:=jM CW gG.size;have hgs2:g<w2.heap.size:=jC Ur gG.size;clear Ms gG d1 d2 c0;have mx:¬((k:Int)<0):=by omega
   have my:¬((k:Int)=(n:Int)):=by omega
   have Gg:¬(k=n):=by omega
   have uS:(k:Int)<(n:Int):=by omega
   have hk4:decide (k=n)=false:=by simp[Gg]
   have hk5:((k:Int) == (n:Int))=false:=by simp;omega
   have Pi:(0:Int)≤(k:Int):=by omega
   by_cases Ba:xp=p
   ·subst Ba;have pC:Hid (∀r,putL s xp r ls=a.map toL++⟨xp,zs++[r]⟩::t.map toL):=fun r=>by rw[Mx.out r,if_pos rfl]
    clear Mx;have HX:=fun nq=>HP.out (w2.drewN nq) _ a (⟨xp,xq,xn,xc⟩,zs) t (ut.out.below (zEb (bzR _ _) nq)) rfl pC.out (zEb H6.out nq)
    rw[ug.out] at HX;have Gl:Hid (∀nq,POST (.returned (.tuple #[.slice (some ⟨g,off,none⟩) n cap,.int .i64 (k:Int)])) (w2.drewN nq)):=HX;clear HX;go_upto_region 5 with fail
    go_quiet (fail)
    go_wp2_with fail;exact Gl.out _
   ·have pC:Hid (∀r,putL s p r ls=a.map toL++⟨p,[]++[r]⟩::((⟨xp,xq,xn,xc⟩,zs)::t).map toL):=fun r=>by rw[Mx.out r,if_neg Ba];rfl
    clear Mx;have hxp1:(xp == p)=false:=(by simpa using Ba);have hxp2:decide (xp=p)=false:=(by simpa using Ba);go_upto_region 5 with fail
    go_quiet (fail)
    go_wp2_with fail;have Hv:=zEm w2 w.heap.size (.slice (some ⟨g,off,none⟩) n cap) a ((⟨xp,xq,xn,xc⟩,zs)::t) p nq ut.out H6.out.size (by rw[←Gp.out,py.out];exact Hh)
    rw[ug.out] at Hv;refine Hv.mono ?_;rintro e w3⟨v3,rfl,Md,UK⟩;have HX:=HP.out w3 v3 a (⟨p,none,0,0⟩,[]) ((⟨xp,xq,xn,xc⟩,zs)::t) Md rfl pC.out (H6.out.trans UK);rw[ug.out] at HX;clear Hv Md UK;go_wp2_with fail;exact HX
end sid
end Go.Proofs.YtnfilcpnneckkaaGreat
