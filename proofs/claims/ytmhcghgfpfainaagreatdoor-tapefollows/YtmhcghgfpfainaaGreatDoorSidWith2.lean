import Derived.Test.YtmhcghgfpfainaaGreatDoorSidIns2
set_option maxHeartbeats 4000000
set_option maxRecDepth 100000
namespace Go.Proofs.YtmhcghgfpfainaaGreatDoor
open Tryz
namespace sid
open Go.RowKit spn que
theorem zHV(w:World)(base g off n c i vb m vc:Nat)(xs vs:List Value)(ho:OwnM w base 94 2 (.slice (some ⟨g,off,none⟩) n c) n xs)(hi:i<n)(hm:0<m)(hml:m≤1000)(bg:n≤10000)(gW:c<n+m)(Ho:base≤w.heap.size)
  (mH:vs.length=m*2) (pj:w.rangeAt vb 0 vs) (hvw:vb<w.heap.size) (Ml:∀u∈xs,u.oneCell'=true) (h1:∀u∈vs,u.oneCell'=true) :
  Calls prog 198 #[.slice (some ⟨g,off,none⟩) n c,.int .i64 i,.slice (some ⟨vb,0,none⟩) m vc] w fun e w'=>InsPost w base (.slice (some ⟨g,off,none⟩) n c) (n+m) (xs.take (i*2)++vs++xs.drop (i*2)) e w':=by
 obtain⟨ui,G7,⟨cur,G0,Gy⟩,GM,ga,GU,uN⟩:=wAh ho;have Uq:g<w.heap.size:=(gzE.1 G0).1;have GQ:(xs.drop (i*2)).length=(n - i)*2:=by rw[jQ,ui];omega
 have gP:(xs.take (i*2)).length=i*2:=by rw[jJ,ui];omega
 have hx:xs=xs.take (i*2)++xs.drop (i*2):=(jR _ _).symm;have go:w.rangeAt g off (xs.take (i*2)):=by rw[hx] at GU;exact wAB GU
 have H5:w.rangeAt g (off+i*2) (xs.drop (i*2)):=by rw[hx] at GU;have:=wAw GU;rwa [gP] at this
 obtain⟨i0,Gg,gH,Mx,hzb⟩:=rlv.infoR';have gh:(n:Int)+(m:Int) - (i:Int)=((n+m - i:Nat):Int):=by omega
 have hik:i+(n+m - i)=n+m:=by omega
 have EU:(Builtin.firstCells i0.size i (.slice (some ⟨g,off,none⟩) i c)).run prog w.drew=.ok (xs.take (i*2)).toArray w.drew:=by
  rw[Mx];exact run_firstCells_some w.drew 2 i ⟨g,off,none⟩ i c (xs.take (i*2)) gP (fun j v hj=>by rw[Addr.add_lit];exact go j v hj)
 have hrz:∀ty,(Builtin.append_ #[48,3] ty #[.slice (some ⟨g,off,none⟩) i c,.int .i64 ((n:Int)+(m:Int) - (i:Int))]).run prog w =
   .ok (.slice (some ⟨w.heap.size,0,none⟩) (n+m) (grownCap w (n+m) c 94)) (w.drew.alloc (.cells ((xs.take (i*2)).toArray++Builtin.zeroCells rlv.zeroR.cells (n+m - i)++Builtin.zeroCells rlv.zeroR.cells (grownCap w (n+m) c 94 - (n+m))) 94)):=fun ty=>by
  have h:=Lib.run_append_grow_zeros w 48 3 ty 94 i0 _ .i64 .i64 underlying48 underlying3 Gg gH (some ⟨g,off,none⟩) i c (xs.take (i*2)) EU (n+m - i) (by omega) (by omega) (by omega) (by omega) (by rw[hzb];omega) (by rw[hzb,hik];exact growslice_fits gW (by omega))
  rw[hik] at h;rw[gh];exact h
 obtain⟨G,hG⟩:∃G,G=grownCap w (n+m) c 94:=⟨_,rfl⟩;obtain⟨ROW,bE⟩:∃ROW:Array Value,ROW=(xs.take (i*2)).toArray++Builtin.zeroCells rlv.zeroR.cells (n+m - i)++Builtin.zeroCells rlv.zeroR.cells (G - (n+m)):=⟨_,rfl⟩;rw[←hG] at hrz;rw[←bE] at hrz;have hGn:n+m≤G:=by rw[hG];exact grownCap_ge w _ _ _
 have hGm:G≤maxLen:=by rw[hG];exact grownCap_le_maxLen w (n+m) c 94 (by unfold maxLen;omega)
 have hG63:G≤9223372036854775807:=by simpa [maxLen] using hGm
 have hRl:ROW.size=G*2:=by
  rw[bE,Array.size_append,Array.size_append,size_zeroCells,size_zeroCells];rw[List.size_toArray,gP];show i*2+(n+m - i)*2+(G - (n+m))*2=_
  omega
 obtain⟨W1,gb⟩:∃W1,W1=w.drew.alloc (.cells ROW 94):=⟨_,rfl⟩;rw[←gb] at hrz;have mg:W1.heap[w.heap.size]?=some (.cells ROW 94 (0,0)):=by rw[gb];exact jA w.drew _
 have GC:∀o k,o+k≤G*2→W1.there w.heap.size o k:=fun o k hk j hj=>⟨by rw[jZ W1 w.heap.size (o+j) ROW _ (0,0) mg,Array.getElem?_eq_getElem (by omega)];rfl,by simp[World.frozen?,mg]⟩
 have Bb:W1.rangeAt w.heap.size 0 (xs.take (i*2)):=fun j v hv=>by
  rw[jZ W1 w.heap.size (0+j) ROW _ (0,0) mg,Nat.zero_add,bE,Array.append_assoc,Array.getElem?_append_left (by simpa using (List.getElem?_eq_some_iff.1 hv).1)]
  simpa using hv
 have MO:Bw w W1:=by rw[gb];exact(bzR _ _).drew.alloc (nzR _) _
 have PH:W1.rangeAt vb 0 vs:=fun j v hv=>(MO.cell (p:=⟨vb,0+j,none⟩) hvw).trans (pj j v hv)
 have E3:W1.rangeAt g (off+i*2) (xs.drop (i*2)):=fun j v hv=>(MO.cell (p:=⟨g,off+i*2+j,none⟩) Uq).trans (H5 j v hv)
 have hcpA:∀ (W:World),(∀x,W.cell? x=W1.cell? x)→(∀x,W.frozen? x=W1.frozen? x)→∀ty dc,(Builtin.copy_ #[48,48] ty #[.slice (some ⟨w.heap.size,i*2,none⟩) (n+m - i) dc,.slice (some ⟨vb,0,none⟩) m vc]).run prog W=.ok (goInt m) (W.setCells w.heap.size (i*2) vs):=fun W BP Eg ty dc=>by
  have:=zBC (P:=prog) W 48 48 ty 94 2 w.heap.size (i*2) (n+m - i) dc ⟨vb,0,none⟩ m vc vs underlying48 zOH (by rw[mH];congr 1;simp only[Nat.min_def];split <;>omega)
   (fun j v hj=>by rw[Addr.add_lit,BP];exact PH j v hj) (fun j hj=>by rw[BP,Eg];exact GC (i*2) (m*2) (by omega) j (by omega)) h1
  rw[show Nat.min m (n+m - i)=m by simp only[Nat.min_def];split <;>omega] at this
  exact this
 have hgN:g≠w.heap.size:=by omega
 have Eo:∀ (W:World),(∀x,W.cell? x=(W1.setCells w.heap.size (i*2) vs).cell? x)→(∀x,W.frozen? x=(W1.setCells w.heap.size (i*2) vs).frozen? x)→∀ty dc sc,(Builtin.copy_ #[48,48] ty #[.slice (some ⟨w.heap.size,(i+m)*2,none⟩) (n+m - (i+m)) dc,.slice (some ⟨g,off+i*2,none⟩) (n - i) sc]).run prog W=.ok (goInt ((n - i:Nat):Int)) (W.setCells w.heap.size ((i+m)*2) (xs.drop (i*2))):=fun W BP Eg ty dc sc=>by
  have:=zBC (P:=prog) W 48 48 ty 94 2 w.heap.size ((i+m)*2) (n+m - (i+m)) dc ⟨g,off+i*2,none⟩ (n - i) sc (xs.drop (i*2)) underlying48 zOH (by rw[GQ];congr 1;simp only[Nat.min_def];split <;>omega)
   (fun j v hj=>by
    rw[Addr.add_lit,BP];exact World.rangeAt_setCells_apart E3 _ _ _ (.inl hgN) j v hj)
   (fun j hj=>by rw[BP,Eg];exact World.there_setCells (GC ((i+m)*2) ((n - i)*2) (by omega)) _ _ _ j (by omega)) (fun v hv=>Ml v (List.mem_of_mem_drop hv))
  rw[show Nat.min (n - i) (n+m - (i+m))=n - i by simp only[Nat.min_def];split <;>omega] at this
  exact this
 have Hx:Hid (∀W,W.heap=((W1.setCells w.heap.size (i*2) vs).setCells w.heap.size ((i+m)*2) (xs.drop (i*2))).heap→W.os=w.os→W.tape=w.tape→W.output=w.output→InsPost w base (.slice (some ⟨g,off,none⟩) n c) (n+m) (xs.take (i*2)++vs++xs.drop (i*2)) (.returned (.slice (some ⟨w.heap.size,0,none⟩) (n+m) G)) W):=by
  intro W hh Us Mt ho3;obtain⟨cur1,Ha,Hm⟩:=wAj w.heap.size 94 (0,0) vs (i*2) W1 ROW mg;obtain⟨cur2,Hc,gd⟩:=wAj w.heap.size 94 (0,0) (xs.drop (i*2)) ((i+m)*2) _ cur1 Ha;have Hw:W1.grownBy ((W1.setCells w.heap.size (i*2) vs).setCells w.heap.size ((i+m)*2) (xs.drop (i*2))) (some w.heap.size):=wAe (wAi _ _ _ _) (wAi _ _ _ _);refine⟨_,rfl,wAy (cur:=cur2) ?_ Ho (by rw[hh];exact Hc) (by rw[gd,Hm,hRl];omega) hGn hGm ?_,?_,.inr ⟨_,rfl,nzR _⟩⟩
  ·rw[jE,jE,gP,mH,GQ];omega
  ·have gu:∀x,W.cell? x=((W1.setCells w.heap.size (i*2) vs).setCells w.heap.size ((i+m)*2) (xs.drop (i*2))).cell? x:=fun x=>by simp only[World.cell?,hh]
   have hR:((W1.setCells w.heap.size (i*2) vs).setCells w.heap.size ((i+m)*2) (xs.drop (i*2))).rangeAt w.heap.size 0 (xs.take (i*2)++vs++xs.drop (i*2)):=by
    refine wAr (wAr ?_ ?_) ?_
    ·refine World.rangeAt_setCells_apart ?_ _ _ _ (.inr (.inl (by rw[gP];omega)))
     exact World.rangeAt_setCells_apart Bb _ _ _ (.inr (.inl (by rw[gP];omega)))
    ·rw[gP,Nat.zero_add];refine World.rangeAt_setCells_apart ?_ _ _ _ (.inr (.inl (by rw[mH];omega)))
     exact World.rangeAt_setCells_same _ _ _ _ (by rw[mH];exact GC _ _ (by omega))
    ·rw[jE,gP,mH,Nat.zero_add,show i*2+m*2=(i+m)*2 by omega]
     exact World.rangeAt_setCells_same _ _ _ _ (World.there_setCells (by rw[GQ];exact GC _ _ (by omega)) _ _ _)
   exact fun j v hv=>(gu _).trans (hR j v hv)
  ·refine⟨Us,Mt,ho3,?_,fun k hk _=>?_⟩
   ·rw[hh];exact jM MO.size Hw.size
   ·rw[hh,Hw.block k (jC hk MO.size) (fun e=>by simp at e;omega)]
    exact MO.block k hk
 generalize InsPost w base (.slice (some ⟨g,off,none⟩) n c) (n+m) (xs.take (i*2)++vs++xs.drop (i*2))=POST at *;have gw:¬((m:Int)=0):=by omega
 have bj:¬(m=0):=by omega
 have gD:¬((i:Int)=(n:Int)):=by omega
 have hz3:(c:Int)<(n:Int)+(m:Int):=by omega
 have hGi:¬(G=i):=by omega
 have hGim:¬(G=i+m):=by omega
 have hci:¬(c=i):=by omega
 subst gb;have hE1:∀x,((w.alloc (.cells ROW 94)).drew).cell? x=(w.drew.alloc (.cells ROW 94)).cell? x:=fun x=>rfl
 have hE2:∀x,((w.alloc (.cells ROW 94)).drew).frozen? x=(w.drew.alloc (.cells ROW 94)).frozen? x:=fun x=>rfl
 have hF1:∀x,(((w.alloc (.cells ROW 94)).drew.setCells w.heap.size (i*2) vs).drew).cell? x=((w.drew.alloc (.cells ROW 94)).setCells w.heap.size (i*2) vs).cell? x:=fun x=>rfl
 have hF2:∀x,(((w.alloc (.cells ROW 94)).drew.setCells w.heap.size (i*2) vs).drew).frozen? x=((w.drew.alloc (.cells ROW 94)).setCells w.heap.size (i*2) vs).frozen? x:=fun x=>rfl
 have mp:IntKind.i64.wrap ((i:Int)+(m:Int))=(i:Int)+(m:Int):=by rw[IntKind.wrap_i64];omega
 have Ha:(0:Int)≤(i:Int)+(m:Int):=by omega
 have Ht:i≤n:=by omega
 have Be:((i:Int)+(m:Int)).toNat=i+m:=by omega
 have Hr:(i:Int)≤(n:Int):=by omega
 have mixed:prog.follows Departure.mixedOrders=true:=by kernel_rfl
 clear gh hik EU bE hG hRl ho ui G0 Gy GU uN GQ gP hx go H5 mH pj h1 Ml ga G7 mg GC Bb MO PH E3 Gg gH Mx hzb hGm;go_enter func198,ntmps198;go_wp2_with (first
  | (at_builtin;refine Lib.wpList_append_run _ rfl _ _ _ _ rfl _ _ rfl rfl _ _ (hrz _) ?_)
  | (at_builtin;refine wpList_copy_runI _ rfl _ _ 48 48 rfl _ _ rfl rfl (hcpA _ hE1 hE2 _ _) ?_)
  | (at_builtin;refine wpList_copy_runI _ rfl _ _ 48 48 rfl _ _ rfl rfl (Eo _ (fun _=>rfl) (fun _=>rfl) _ _ _) ?_))
 go_region_law_o (refine step_copy_runI rfl _ _ 48 48 rfl (.slice (some ⟨w.heap.size,(i+m)*2,none⟩) (n+m - (i+m)) (G - (i+m))) (.slice (some ⟨g,off+i*2,none⟩) (n - i) (c - i)) (by simp[Act.eval,Act.put]) (by simp[Act.eval,Act.put]) (Eo _ hF1 hF2 3 (G - (i+m)) (c - i)) ?_)
 go_wp2
 have hgz:∀ (X:World) (a b:Nat) (us ys:List Value),X.grownBy (((X.drew.setCells w.heap.size a us).drew).setCells w.heap.size b ys) (some w.heap.size):=fun X a b us ys=>wAe (wAe (wAe (wAH _ _) (wAi _ _ _ _)) (wAH _ _)) (wAi _ _ _ _)
 have P9:=hgz (w.alloc (.cells ROW 94)) (i*2) ((i+m)*2) vs (xs.drop (i*2));exact Hx.out _ (by rw[show w.drew.alloc (.cells ROW 94)=(w.alloc (.cells ROW 94)).drew from rfl,←drew_setCells,←drew_setCells,←drew_setCells];rfl) P9.os P9.tape P9.output
theorem zGQ(zs:List rlv.RL)(i:Nat):rlv.flat (zs.take i)=(rlv.flat zs).take (i*2):=by
 induction zs generalizing i with
 | nil=>simp[rlv.flat]
 | cons r t ih=>
  cases i with
  | zero=>simp[rlv.flat]
  | succ i=>rw[List.take_succ_cons,rlv.wAm,rlv.wAm,ih,show (i+1)*2=(rlv.rV r).length+i*2 by show _=2+i*2;omega,List.take_length_add_append]
theorem zGR(zs:List rlv.RL)(i:Nat):rlv.flat (zs.drop i)=(rlv.flat zs).drop (i*2):=by
 induction zs generalizing i with
 | nil=>simp[rlv.flat]
 | cons r t ih=>
  cases i with
  | zero=>simp
  | succ i=>rw[List.drop_succ_cons,rlv.wAm,ih,show (i+1)*2=(rlv.rV r).length+i*2 by show _=2+i*2;omega,List.drop_length_add_append]
theorem zJW(w:World)(base:Nat)(v:Value)(zs:List rlv.RL)(i:Nat)(p:Int)(vb vc:Nat)(ho:rlv.OwnQ w base v zs)(Ho:base≤w.heap.size)(hi:i≤zs.length)(hn:zs.length≤10000)
  (PG:w.heap[vb]?=some (.cells #[.int .i64 p,.slice none 0 0] 94 (0,0))) (H7:v.ownBlock≠some vb) :
  Calls prog 198 #[v,.int .i64 i,.slice (some ⟨vb,0,none⟩) 1 vc] w fun e w'=>
   ∃v',e=.returned v'∧rlv.OwnQ w' base v' (zs.take i++⟨p,none,0,0⟩::zs.drop i)∧w.grownBy w' v.ownBlock∧(v'.ownBlock=v.ownBlock∨∃k,v'.ownBlock=some k∧w.heap.size≤k):=by
 have pj:w.rangeAt vb 0 [.int .i64 p,.slice none 0 0]:=fun j u hu=>by
  rw[jZ w vb (0+j) _ _ (0,0) PG,Nat.zero_add];simpa using hu
 have h1:∀u∈[Value.int .i64 p,.slice none 0 0],u.oneCell'=true:=by
  intro u hu;simp at hu;rcases hu with rfl|rfl <;>rfl
 have hfl:rlv.flat (zs.take i++⟨p,none,0,0⟩::zs.drop i)=(rlv.flat zs).take (i*2)++[.int .i64 p,.slice none 0 0]++(rlv.flat zs).drop (i*2):=by
  rw[rlv.wAg,rlv.wAm,zGQ,zGR,jS];rfl
 have hln:(zs.take i++(⟨p,none,0,0⟩:rlv.RL)::zs.drop i).length=zs.length+1:=by simp;omega
 unfold rlv.OwnQ;rw[hfl,hln];by_cases he:i=zs.length
 ·subst he;have:=zJV w base v zs.length (rlv.flat zs) vb 1 vc [.int .i64 p,.slice none 0 0] ho Ho (by omega) (by omega) hn rfl pj h1
  rw[List.take_of_length_le (by rw[rlv.wAl];exact nzR _),List.drop_eq_nil_of_le (by rw[rlv.wAl];exact nzR _),jH]
  exact this
 ·have Hj:i<zs.length:=by omega
  obtain⟨q,c,hv⟩:=OwnM.form ho;subst hv;rcases ho.2 with ⟨e,hz⟩|⟨g,off,cap,cur,e,G7,hg,UL,ga,Gy,-⟩
  ·omega
  ·cases e;have hvg:vb≠g:=fun e=>H7 (by rw[e];rfl)
   by_cases hr:zs.length+1≤c
   ·exact zGP w base g off zs.length c i vb 1 vc (rlv.flat zs) [.int .i64 p,.slice none 0 0] _ _ ho Hj (by omega) (by omega) hr hvg rfl pj PG (rlv.wAA zs) h1
   ·exact zHV w base g off zs.length c i vb 1 vc (rlv.flat zs) [.int .i64 p,.slice none 0 0] ho Hj (by omega) (by omega) hn (by omega) Ho rfl pj (gzE.1 PG).1 (rlv.wAA zs) h1
end sid
namespace sid
open Go.RowKit spn que
open tickP (zAn zAB zBy betR)
theorem zLU{s p:Int}{r:R}(a b:List L)(h:∀l∈a,zAX s l.price p=true):putL s p r (a++b)=a++putL s p r b:=by
 induction a with
 | nil=>rfl
 | cons x t ih=>
  rw[List.cons_append,putL,if_pos (h x (by simp)),ih (fun l hl=>h l (by simp[hl]))];rfl
theorem zOI(s p:Int)(ps:List RP):∃a b,ps=a++b∧(∀y∈a,zAX s y.1.price p=true)∧(b=[]∨∃x t,b=x::t∧zAX s x.1.price p=false):=by
 induction ps with
 | nil=>exact⟨[],[],rfl,by simp,.inl rfl⟩
 | cons x t ih=>
  cases hl:zAX s x.1.price p
  ·exact⟨[],x::t,rfl,by simp,.inr ⟨x,t,rfl,hl⟩⟩
  ·obtain⟨a,b,e,h1,h2⟩:=ih;refine⟨x::a,b,by rw[e];rfl,?_,h2⟩
   intro y hy;rcases List.mem_cons.1 hy with rfl|hy
   ·exact hl
   ·exact h1 y hy
theorem zIK{α:Type}(f:α→Bool)(x:α)(a b:List α)(h:∀y∈a,f y=false):∀i,Lib.idxByFrom (fun _ y=>f y) x (a++b) i=Lib.idxByFrom (fun _ y=>f y) x b (i+a.length):=by
 induction a with
 | nil=>intro i;rfl
 | cons y t ih=>
  intro i;show (if f y=true then (i:Int) else Lib.idxByFrom (fun _ y=>f y) x (t++b) (i+1))=_
  rw[if_neg (by rw[h y (by simp)];simp),ih (fun z hz=>h z (by simp[hz])),jG,show i+1+t.length=i+(t.length+1) by omega]
theorem zRd{α:Type}(f:α→Bool)(x:α)(a:List α)(h:∀y∈a,f y=false):Lib.idxBy (fun _ y=>f y) a x = -1:=by
 have:=zIK f x a [] h 0;rw[jH] at this;unfold Lib.idxBy;rw[this];rfl
theorem zLV{α:Type}(f:α→Bool)(x:α)(a:List α)(y:α)(b:List α)(h:∀z∈a,f z=false)(hy:f y=true):Lib.idxBy (fun _ y=>f y) (a++y::b) x=a.length:=by
 have:=zIK f x a (y::b) h 0;unfold Lib.idxBy;rw[this];show (if f y=true then ((0+a.length:Nat):Int) else _)=_
 rw[if_pos hy,Nat.zero_add]
theorem zLW(s p:Int)(B1 B2:Nat)(w:World)(h1:B1<w.heap.size)(h2:B2<w.heap.size)(c1:w.cell? ⟨B1,0,none⟩=some (.int .i64 s))(c2:w.cell? ⟨B2,0,none⟩=some (.int .i64 p)) :
  PredBelow prog 197 #[.pointer (some ⟨B1,0,none⟩),.pointer (some ⟨B2,0,none⟩)] (fun x=>.agg (rlv.rV x).toArray) (fun x=>!zAX s x.price p) w:=by
 intro W x hb;obtain⟨pp,q,n,c⟩:=x;show Calls prog 197 #[.agg #[.int .i64 pp,.slice q n c],.pointer (some ⟨B1,0,none⟩),.pointer (some ⟨B2,0,none⟩)] W _
 have d1:=zAa hb c1;have d2:=zAa hb c2;have gw:B1<W.heap.size:=jC h1 hb.size;have gD:B2<W.heap.size:=jC h2 hb.size;have Hc:Bw w (W.alloc (.cells #[.int .i64 pp,.slice q n c] 94)):=hb.alloc hb.size _;have Hf:=zLa w s pp p _ Hc;simp only[];generalize zAX s pp p=ld at *;go_enter func197,ntmps197;go_wp2_with fail;refine Hf.mono ?_;rintro e w1⟨rfl,h3⟩;clear Hf;go_wp2_with fail;go_ret;exact⟨rfl,h3⟩
theorem zLX(cl:Value)(w:World) :
  Calls prog 196 #[.slice none 0 0,cl] w fun e w'=>e=.returned (.int .i64 (-1))∧Bw w w':=by
 go_enter func196,ntmps196
 go_wp2
 go_loopg [5,8] 0 (fun _ _ s8 wr=>s8=.int .i64 0∧wr=w)
 case atStart=>exact⟨rfl,rfl⟩
 case round=>
  obtain⟨rfl,rfl⟩:=hrel
  go_wp2
  go_ret;exact⟨rfl,bzR _ _⟩
theorem zLY(s p:Int)(B1 B2:Nat)(v:Value)(zs:List rlv.RL)(w:World)(h:rlv.SL w v zs)(h1:B1<w.heap.size)(h2:B2<w.heap.size)(c1:w.cell? ⟨B1,0,none⟩=some (.int .i64 s))(c2:w.cell? ⟨B2,0,none⟩=some (.int .i64 p)) :
  Calls prog 196 #[v,.func (.func 197) #[] #[.pointer (some ⟨B1,0,none⟩),.pointer (some ⟨B2,0,none⟩)]] w fun e w'=>e=.returned (.int .i64 (Lib.idxBy (fun _ y=>!zAX s y.price p) zs default))∧Bw w w':=by
 rcases h with ⟨rfl,rfl⟩|⟨b,o,c,rfl,hc,hm,hb,hl⟩
 ·exact zLX _ w
 ·have eg:∀args w,(callFunc 197 args).run prog w=.ok (.enter 197 args) w:=enters_of func197 (by kernel_rfl) rfl
  have Hf:=AnyQ.slices_IndexFunc Tryz.lq6l 2 isAgg94 sizeOf94 rlv.rV (fun x=>rfl) (fun x=>!zAX s x.price p) 197 #[.pointer (some ⟨B1,0,none⟩),.pointer (some ⟨B2,0,none⟩)] eg b o zs.length c zs
   w (zLW s p B1 B2 w h1 h2 c1 c2) (nzR _) (by omega) hb hl
  change Calls prog 196 _ _ _ at Hf
  rw[List.take_length] at Hf;exact Hf
theorem zLZ(r:rlv.RL)(h:blkR r=none)(zs:List R)(b:RP):AP (r,zs) b∧AP b (r,zs):=
 ⟨fun x hx=>(by rw[show (r,zs).1=r from rfl,h] at hx;cases hx),fun x _ e=>(by rw[show (r,zs).1=r from rfl,h] at e;cases e)⟩
theorem DeepT.insert{w w' : World}{base:Nat}{v v' : Value}{a b:List RP}{p:Int}(h:Deep w base v (a++b))(ho:rlv.OwnQ w' base v' (a.map (·.1)++⟨p,none,0,0⟩::b.map (·.1)))
  (hg:w.grownBy w' v.ownBlock) (hv:v'.ownBlock=v.ownBlock∨∃k,v'.ownBlock=some k∧w.heap.size≤k):Deep w' base v' (a++(⟨p,none,0,0⟩,[])::b):=by
 have hk:∀y∈a++b,OwnQ w' base (sv y.1) y.2∧∀x,blkR y.1=some x→v'.ownBlock≠some x:=fun y hy=>by
  refine⟨zAl (h.each y hy) hg (fun x hx=>h.far y hy x hx),fun x hx=>?_⟩
  rcases hv with e|⟨k,e,hk⟩
  ·rw[e];exact h.far y hy x hx
  ·rw[e];intro e2;have e3:k=x:=by simpa using e2
   have:=(OwnM.lt (h.each y hy) x hx).2;omega
 refine⟨?_,?_,?_,?_⟩
 ·rw[jH,jF,jK];exact ho
 ·intro y hy;rcases List.mem_append.1 hy with hy|hy
  ·exact(hk y (by simp[hy])).1
  ·rcases List.mem_cons.1 hy with rfl|hy
   ·exact⟨rfl,.inl ⟨rfl,rfl⟩⟩
   ·exact(hk y (by simp[hy])).1
 ·obtain⟨h1,h2,h3⟩:=List.pairwise_append.1 h.apart;refine List.pairwise_append.2 ⟨h1,List.pairwise_cons.2 ⟨fun y _=>(zLZ _ rfl _ y).1,h2⟩,fun y hy z hz=>?_⟩
  rcases List.mem_cons.1 hz with rfl|hz
  ·exact(zLZ _ rfl _ y).2
  ·exact h3 y hy z hz
 ·intro y hy;rcases List.mem_append.1 hy with hy|hy
  ·exact(hk y (by simp[hy])).2
  ·rcases List.mem_cons.1 hy with rfl|hy
   ·intro x hx;cases hx
   ·exact(hk y (by simp[hy])).2
theorem zEp(w2:World)(base:Nat)(v:Value)(a b:List RP)(p:Int)(nq:Nat)(hD:Deep w2 base v (a++b))(Ho:base≤w2.heap.size)(hn:(a++b).length≤1000) :
  Calls prog 198 #[v,.int .i64 (a.length:Nat),.slice (some ⟨w2.heap.size,0,none⟩) 1 1] ((w2.drewN nq).alloc (.cells #[.int .i64 p,.slice none 0 0] 94)) fun e w'=>
   ∃v',e=.returned v'∧Deep w' base v' (a++(⟨p,none,0,0⟩,[])::b)∧Below base w2 w':=by
 have G4:(w2.drewN nq).heap.size=w2.heap.size:=rfl;have gj:Bw w2 ((w2.drewN nq).alloc (.cells #[.int .i64 p,.slice none 0 0] 94)):=(zEe (bzR _ _) nq).alloc (nzR _) _;have PG:=jA (w2.drewN nq) (.cells #[.int .i64 p,.slice none 0 0] 94);rw[G4] at PG;have hDV:=hD.below gj;have Gt:Below base w2 ((w2.drewN nq).alloc (.cells #[.int .i64 p,.slice none 0 0] 94)):=gj.mono Ho;generalize (w2.drewN nq).alloc (.cells #[.int .i64 p,.slice none 0 0] 94)=V at *;have ho:rlv.OwnQ V base v (a.map (·.1)++b.map (·.1)):=by have:=hDV.own;rwa [jH,jF] at this
 have h:=zJW V base v (a.map (·.1)++b.map (·.1)) a.length p w2.heap.size 1 ho (jM Ho gj.size) (by simp) (by simp at hn ⊢;omega) PG (fun e=>by have:=(OwnM.lt hD.own _ e).2;omega)
 refine h.mono ?_;rintro e w'⟨v',rfl,dN,hg,hv⟩;rw[List.take_left' (by simp),List.drop_left' (by simp)] at dN
 exact⟨v',rfl,hDV.insert dN hg hv,Gt.grown hg (jM Ho gj.size) (fun k hk=>(OwnM.lt hDV.own k hk).1)⟩
def WithPost(s p:Int)(ls:List L)(w:World)(e:Ending)(w' : World):Prop:=
 ∃v' a x b,e=.returned (.tuple #[v',.int .i64 (a.length:Nat)])∧Deep w' w.heap.size v' (a++x::b)∧x.1.price=p∧(∀r,putL s p r ls=a.map toL++⟨p,x.2++[r]⟩::b.map toL)∧Bw w w'
theorem zIL{s p:Int}{a:List RP}(h:∀y∈a,zAX s y.1.price p=true):∀l∈a.map toL,zAX s l.price p=true:=by
 intro l hl;obtain⟨y,hy,rfl⟩:=List.mem_map.1 hl;exact h y hy
theorem zIM{s p:Int}{a:List RP}(h:∀y∈a,zAX s y.1.price p=true):∀l∈a.map (·.1),(!zAX s l.price p)=false:=by
 intro l hl;obtain⟨y,hy,rfl⟩:=List.mem_map.1 hl;simp[h y hy]
theorem zFO(s p:Int)(v:Value)(ls:List L)(w:World)(h:LS w v ls)(hn:ls.length≤1000)(hr:∀l∈ls,l.rests.length≤1000)(H7:∀l∈ls,l.rests≠[]) :
  Calls prog 191 #[.int .i64 s,v,.int .i64 p] w fun e w'=>WithPost s p ls w e w':=by
 obtain⟨W0,p9⟩:∃W0,W0=(w.alloc (.cells #[.int .i64 s] 3)).alloc (.cells #[.int .i64 p] 3):=⟨_,rfl⟩;have gR:Bw w W0:=by rw[p9];exact((bzR _ _).alloc (nzR _) _).alloc (by simp) _
 have hs0:W0.heap.size=w.heap.size+2:=by rw[p9];simp
 have c1:W0.cell? ⟨w.heap.size,0,none⟩=some (.int .i64 s):=by rw[p9];simp[go_sem]
 have c2:W0.cell? ⟨w.heap.size+1,0,none⟩=some (.int .i64 p):=by rw[p9];simp[go_sem]
 have Pm:=zBr v ls W0 (h.below gR) hn hr H7;obtain⟨vq,vm,vc,rfl⟩:=zFD h;have HP:Hid (∀W v' a x b,Deep W w.heap.size v' (a++x::b)→x.1.price=p→(∀r,putL s p r ls=a.map toL++⟨p,x.2++[r]⟩::b.map toL)→Bw w W→WithPost s p ls w (.returned (.tuple #[v',.int .i64 (a.length:Nat)])) W):=fun W v' a x b h1 h2 h3 h4=>⟨v',a,x,b,rfl,h1,h2,h3,h4⟩
 have HN:Hid (ls.length≤1000):=hn;generalize WithPost s p ls w=POST at *;clear h hn hr H7;go_enter func191,ntmps191;go_wp2_with fail;rw[←p9];refine Pm.mono ?_;rintro e w1⟨v1,ps,rfl,Gz,hD0,Gt⟩;have gq:Hid (Bw w w1):=gR.trans (Gt.mono gR.size);have HD:Hid (Deep w1 w.heap.size v1 ps):=hD0.mono gR.size;have C5:w.heap.size+2≤w1.heap.size:=by have:=Gt.size;omega
 have d1:=zAa Gt c1;have d2:=zAa Gt c2;have Hi:ps.length≤1000:=by have:=HN.out;rw[←Gz,jP] at this;exact this
 have Bx:Hid (ps.map toL=ls):=Gz;have MC:=zLY s p w.heap.size (w.heap.size+1) v1 (ps.map (·.1)) w1 HD.out.loose.1 (by omega) (by omega) d1 d2
 obtain⟨a,b,um,ha,hb⟩:=zOI s p ps;obtain⟨q1,cc1,C6⟩:=OwnM.form HD.out.own;rw[jH,jP] at C6;clear Pm gR hs0 c1 c2 p9 hD0 Gt Gz;rcases hb with rfl|⟨x,t,rfl,hx⟩
 ·
  rw[zRd _ _ _ (by rw[um,jH];exact zIM ha)] at MC
  rw[jH] at um;subst um;have MH:Hid (∀r,putL s p r ls=ps.map toL++⟨p,[]++[r]⟩::[].map toL):=fun r=>by
   rw[←Bx.out,←jH (ps.map toL),zLU _ _ (zIL ha),jH];rfl
  clear ha;subst C6;generalize Ma:ps.length=n at *;have PW:Hid (ps.length=n):=Ma;clear Ma;go_wp2_with fail;refine MC.mono ?_;rintro e w2⟨rfl,gO⟩;have H6:Hid (Bw w w2):=gq.out.trans (gO.mono gq.out.size);have uu:Hid (Deep w2 w.heap.size (.slice q1 n cc1) ps):=HD.out.below gO;have e2:=zAa gO d2;have hsz2:w.heap.size+2≤w2.heap.size:=jM C5 gO.size;clear MC gO d1 d2;go_upto_region 5 with fail
  go_quiet (fail)
  go_wp2_with fail;have Ht:=zEp w2 w.heap.size (.slice q1 n cc1) ps [] p nq (by rw[jH];exact uu.out) H6.out.size (by rw[jH,PW.out];exact Hi)
  rw[PW.out] at Ht;refine Ht.mono ?_;rintro e w3⟨v3,rfl,Mn,UK⟩;have HX:=HP.out w3 v3 ps (⟨p,none,0,0⟩,[]) [] Mn rfl MH.out (H6.out.trans UK);rw[PW.out] at HX;clear Ht Mn UK;go_wp2_with fail;exact HX
 ·rw[um,jF,jK,zLV _ _ _ _ _ (zIM ha) (by simp[hx]),jP] at MC
  have MH:Hid (∀r,putL s p r ls=a.map toL++(if x.1.price=p then ⟨p,x.2++[r]⟩::t.map toL else ⟨p,[r]⟩::toL x::t.map toL)):=fun r=>by
   rw[←Bx.out,um,jF,zLU _ _ (zIL ha),jK,putL,if_neg (by rw[zLp,hx];simp)]
   rfl
  have Gn:Hid (ps=a++x::t):=um;rcases HD.out.own.2 with ⟨e,hz⟩|⟨g,off,cap,cur,e,-,-,UL,ga,-,-⟩
  ·rw[jH,jP,um] at hz;simp at hz
  ·rw[jH,jP] at e UL;subst e;have Pd:cap≤9223372036854775807:=by simpa [maxLen] using ga
   have ho:=HD.out.own;rw[jH,um,jF,jK] at ho;obtain⟨-,c0,-,-,-,Up⟩:=zDn ho;rw[jP] at c0;have B8:a.length<ps.length:=by rw[um];simp
   clear ho ha hx um ga C6;obtain⟨⟨xp,xq,xn,xc⟩,zs⟩:=x;simp only[] at c0;generalize Ma:ps.length=n at *;have PW:Hid (ps.length=n):=Ma;generalize gh:a.length=k at *;have uw:Hid (a.length=k):=gh;clear Ma gh;go_wp2_with fail;refine MC.mono ?_;rintro e w2⟨rfl,gO⟩;have H6:Hid (Bw w w2):=gq.out.trans (gO.mono gq.out.size);have uu:Hid (Deep w2 w.heap.size (.slice (some ⟨g,off,none⟩) n cap) (a++(⟨xp,xq,xn,xc⟩,zs)::t)):=by have:=HD.out.below gO;rwa [Gn.out] at this
   have e2:=zAa gO d2;have e0:=zAa gO c0;have hsz2:w.heap.size+2≤w2.heap.size:=jM C5 gO.size;have hgs2:g<w2.heap.size:=jC Up gO.size;clear MC gO d1 d2 c0;have Ug:¬((k:Int)<0):=by omega
   have MV:¬((k:Int)=(n:Int)):=by omega
   have GB:¬(k=n):=by omega
   have UC:(k:Int)<(n:Int):=by omega
   have hk4:decide (k=n)=false:=by simp[GB]
   have hk5:((k:Int) == (n:Int))=false:=by simp;omega
   have hk6:(0:Int)≤(k:Int):=by omega
   by_cases Bj:xp=p
   ·subst Bj;have pH:Hid (∀r,putL s xp r ls=a.map toL++⟨xp,zs++[r]⟩::t.map toL):=fun r=>by rw[MH.out r,if_pos rfl]
    clear MH;have HX:=fun nq=>HP.out (w2.drewN nq) _ a (⟨xp,xq,xn,xc⟩,zs) t (uu.out.below (zEe (bzR _ _) nq)) rfl pH.out (zEe H6.out nq)
    rw[uw.out] at HX;have GE:Hid (∀nq,POST (.returned (.tuple #[.slice (some ⟨g,off,none⟩) n cap,.int .i64 (k:Int)])) (w2.drewN nq)):=HX;clear HX;go_upto_region 5 with fail
    go_quiet (fail)
    go_wp2_with fail;exact GE.out _
   ·have pH:Hid (∀r,putL s p r ls=a.map toL++⟨p,[]++[r]⟩::((⟨xp,xq,xn,xc⟩,zs)::t).map toL):=fun r=>by rw[MH.out r,if_neg Bj];rfl
    clear MH;have hxp1:(xp == p)=false:=(by simpa using Bj);have hxp2:decide (xp=p)=false:=(by simpa using Bj);go_upto_region 5 with fail
    go_quiet (fail)
    go_wp2_with fail;have Ht:=zEp w2 w.heap.size (.slice (some ⟨g,off,none⟩) n cap) a ((⟨xp,xq,xn,xc⟩,zs)::t) p nq uu.out H6.out.size (by rw[←Gn.out,PW.out];exact Hi)
    rw[uw.out] at Ht;refine Ht.mono ?_;rintro e w3⟨v3,rfl,Mn,UK⟩;have HX:=HP.out w3 v3 a (⟨p,none,0,0⟩,[]) ((⟨xp,xq,xn,xc⟩,zs)::t) Mn rfl pH.out (H6.out.trans UK);rw[uw.out] at HX;clear Ht Mn UK;go_wp2_with fail;exact HX
end sid
end Go.Proofs.YtmhcghgfpfainaaGreatDoor
