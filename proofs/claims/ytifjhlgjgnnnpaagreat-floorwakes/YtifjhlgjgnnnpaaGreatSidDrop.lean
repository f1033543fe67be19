import Derived.Test.YtifjhlgjgnnnpaaGreatSidIns2
import Derived.Test.YtifjhlgjgnnnpaaGreatSidPut
import Derived.Test.YtifjhlgjgnnnpaaGreatQueFil
import Derived.Deep.RegionHeld3
import Derived.Deep.RegionLaw
import Derived.Lib.SlicesDelete
set_option maxHeartbeats 4000000
set_option maxRecDepth 100000
namespace Go.Proofs.YtifjhlgjgnnnpaaGreat
namespace sid
open Go.RowKit spn que
theorem zFK(w:World)(base g off n c i vb m vc:Nat)(xs vs:List Value)(ho:OwnM w base 52 2 (.slice (some ⟨g,off,none⟩) n c) n xs)(hi:i<n)(hm:0<m)(hml:m≤1000)(hnl:n≤10000)(hroom:c<n+m)(hbase:base≤w.heap.size)
  (hvl:vs.length=m*2) (hvs:w.rangeAt vb 0 vs) (hvw:vb<w.heap.size) (h1x:∀u∈xs,u.oneCell'=true) (h1:∀u∈vs,u.oneCell'=true) :
  Calls Tryz.prog 157 #[.slice (some ⟨g,off,none⟩) n c,.int .i64 i,.slice (some ⟨vb,0,none⟩) m vc] w fun e w'=>InsPost w base (.slice (some ⟨g,off,none⟩) n c) (n+m) (xs.take (i*2)++vs++xs.drop (i*2)) e w':=by
 obtain⟨hxl,hbg,⟨cur,hcur,hcs⟩,hnc,hcm,hrg,hth⟩:=own_range ho
 have hgw:g<w.heap.size:=(gzE.1 hcur).1
 have hdl:(xs.drop (i*2)).length=(n - i)*2:=by rw[List.length_drop,hxl];omega
 have htl:(xs.take (i*2)).length=i*2:=by rw[List.length_take,hxl];omega
 have hx:xs=xs.take (i*2)++xs.drop (i*2):=(List.take_append_drop _ _).symm
 have hr1:w.rangeAt g off (xs.take (i*2)):=by rw[hx] at hrg;exact range_left hrg
 have hr2:w.rangeAt g (off+i*2) (xs.drop (i*2)):=by rw[hx] at hrg;have:=range_right hrg;rwa [htl] at this
 obtain⟨i0,hi0,hz0,hzs,hzb⟩:=rlv.infoR'
 have hkk:(n:Int)+(m:Int) - (i:Int)=((n+m - i:Nat):Int):=by omega
 have hik:i+(n+m - i)=n+m:=by omega
 have hold:(Builtin.firstCells i0.size i (.slice (some ⟨g,off,none⟩) i c)).run Tryz.prog w.drew=.ok (xs.take (i*2)).toArray w.drew:=by
  rw[hzs]
  exact run_firstCells_some w.drew 2 i ⟨g,off,none⟩ i c (xs.take (i*2)) htl (fun j v hj=>by rw[Addr.add_lit];exact hr1 j v hj)
 have hrz:∀ty,(Builtin.append_ #[44,3] ty #[.slice (some ⟨g,off,none⟩) i c,.int .i64 ((n:Int)+(m:Int) - (i:Int))]).run Tryz.prog w =
   .ok (.slice (some ⟨w.heap.size,0,none⟩) (n+m) (grownCap w (n+m) c 52)) (w.drew.alloc (.cells ((xs.take (i*2)).toArray++Builtin.zeroCells rlv.zeroR.cells (n+m - i)++Builtin.zeroCells rlv.zeroR.cells (grownCap w (n+m) c 52 - (n+m))) 52)):=fun ty=>by
  have h:=Lib.run_append_grow_zeros w 44 3 ty 52 i0 _ .i64 .i64 Tryz.underlying44 Tryz.underlying3 hi0 hz0 (some ⟨g,off,none⟩) i c (xs.take (i*2)) hold (n+m - i) (by omega) (by omega) (by omega) (by omega) (by rw[hzb];omega) (by rw[hzb,hik];exact growslice_fits hroom (by omega))
  rw[hik] at h
  rw[hkk]
  exact h
 obtain⟨G,hG⟩:∃G,G=grownCap w (n+m) c 52:=⟨_,rfl⟩
 obtain⟨ROW,hROW⟩:∃ROW:Array Value,ROW=(xs.take (i*2)).toArray++Builtin.zeroCells rlv.zeroR.cells (n+m - i)++Builtin.zeroCells rlv.zeroR.cells (G - (n+m)):=⟨_,rfl⟩
 rw[←hG] at hrz
 rw[←hROW] at hrz
 have hGn:n+m≤G:=by rw[hG];exact grownCap_ge w _ _ _
 have hGm:G≤maxLen:=by rw[hG];exact grownCap_le_maxLen w (n+m) c 52 (by unfold maxLen;omega)
 have hG63:G≤9223372036854775807:=by simpa [maxLen] using hGm
 have hRl:ROW.size=G*2:=by
  rw[hROW,Array.size_append,Array.size_append,size_zeroCells,size_zeroCells]
  rw[List.size_toArray,htl]
  show i*2+(n+m - i)*2+(G - (n+m))*2=_
  omega
 obtain⟨W1,hW1⟩:∃W1,W1=w.drew.alloc (.cells ROW 52):=⟨_,rfl⟩
 rw[←hW1] at hrz
 have hblk1:W1.heap[w.heap.size]?=some (.cells ROW 52 (0,0)):=by rw[hW1];exact heap_alloc_new w.drew _
 have hth1:∀o k,o+k≤G*2→W1.there w.heap.size o k:=fun o k hk j hj=>⟨by rw[cell_of_row W1 w.heap.size (o+j) ROW _ (0,0) hblk1,Array.getElem?_eq_getElem (by omega)];rfl,by simp[World.frozen?,hblk1]⟩
 have hra:W1.rangeAt w.heap.size 0 (xs.take (i*2)):=fun j v hv=>by
  rw[cell_of_row W1 w.heap.size (0+j) ROW _ (0,0) hblk1,Nat.zero_add,hROW,Array.append_assoc,Array.getElem?_append_left (by simpa using (List.getElem?_eq_some_iff.1 hv).1)]
  simpa using hv
 have hbel:Below w.heap.size w W1:=by rw[hW1];exact(bzR _ _).drew.alloc (nzR _) _
 have hvs1:W1.rangeAt vb 0 vs:=fun j v hv=>(hbel.cell (p:=⟨vb,0+j,none⟩) hvw).trans (hvs j v hv)
 have hr21:W1.rangeAt g (off+i*2) (xs.drop (i*2)):=fun j v hv=>(hbel.cell (p:=⟨g,off+i*2+j,none⟩) hgw).trans (hr2 j v hv)
 have hcpA:∀ (W:World),(∀x,W.cell? x=W1.cell? x)→(∀x,W.frozen? x=W1.frozen? x)→∀ty dc,(Builtin.copy_ #[44,44] ty #[.slice (some ⟨w.heap.size,i*2,none⟩) (n+m - i) dc,.slice (some ⟨vb,0,none⟩) m vc]).run Tryz.prog W=.ok (goInt m) (W.setCells w.heap.size (i*2) vs):=fun W hWc hWf ty dc=>by
  have:=zAN (P:=Tryz.prog) W 44 44 ty 52 2 w.heap.size (i*2) (n+m - i) dc ⟨vb,0,none⟩ m vc vs Tryz.underlying44 sizeL (by rw[hvl];congr 1;simp only[Nat.min_def];split <;>omega)
   (fun j v hj=>by rw[Addr.add_lit,hWc];exact hvs1 j v hj) (fun j hj=>by rw[hWc,hWf];exact hth1 (i*2) (m*2) (by omega) j (by omega)) h1
  rw[show Nat.min m (n+m - i)=m by simp only[Nat.min_def];split <;>omega] at this
  exact this
 have hgN:g≠w.heap.size:=by omega
 have hcpB:∀ (W:World),(∀x,W.cell? x=(W1.setCells w.heap.size (i*2) vs).cell? x)→(∀x,W.frozen? x=(W1.setCells w.heap.size (i*2) vs).frozen? x)→∀ty dc sc,(Builtin.copy_ #[44,44] ty #[.slice (some ⟨w.heap.size,(i+m)*2,none⟩) (n+m - (i+m)) dc,.slice (some ⟨g,off+i*2,none⟩) (n - i) sc]).run Tryz.prog W=.ok (goInt ((n - i:Nat):Int)) (W.setCells w.heap.size ((i+m)*2) (xs.drop (i*2))):=fun W hWc hWf ty dc sc=>by
  have:=zAN (P:=Tryz.prog) W 44 44 ty 52 2 w.heap.size ((i+m)*2) (n+m - (i+m)) dc ⟨g,off+i*2,none⟩ (n - i) sc (xs.drop (i*2)) Tryz.underlying44 sizeL (by rw[hdl];congr 1;simp only[Nat.min_def];split <;>omega)
   (fun j v hj=>by
    rw[Addr.add_lit,hWc]
    exact World.rangeAt_setCells_apart hr21 _ _ _ (.inl hgN) j v hj)
   (fun j hj=>by rw[hWc,hWf];exact World.there_setCells (hth1 ((i+m)*2) ((n - i)*2) (by omega)) _ _ _ j (by omega)) (fun v hv=>h1x v (List.mem_of_mem_drop hv))
  rw[show Nat.min (n - i) (n+m - (i+m))=n - i by simp only[Nat.min_def];split <;>omega] at this
  exact this
 have HPOST:Hid (∀W,W.heap=((W1.setCells w.heap.size (i*2) vs).setCells w.heap.size ((i+m)*2) (xs.drop (i*2))).heap→W.os=w.os→W.tape=w.tape→W.output=w.output→InsPost w base (.slice (some ⟨g,off,none⟩) n c) (n+m) (xs.take (i*2)++vs++xs.drop (i*2)) (.returned (.slice (some ⟨w.heap.size,0,none⟩) (n+m) G)) W):=by
  intro W hh ho1 ho2 ho3
  obtain⟨cur1,hb1,hs1⟩:=setCells_blk w.heap.size 52 (0,0) vs (i*2) W1 ROW hblk1
  obtain⟨cur2,hb2,hs2⟩:=setCells_blk w.heap.size 52 (0,0) (xs.drop (i*2)) ((i+m)*2) _ cur1 hb1
  have hgr:W1.grownBy ((W1.setCells w.heap.size (i*2) vs).setCells w.heap.size ((i+m)*2) (xs.drop (i*2))) (some w.heap.size):=gr_trans (gr_setCells _ _ _ _) (gr_setCells _ _ _ _)
  refine⟨_,rfl,own_of (cur:=cur2) ?_ hbase (by rw[hh];exact hb2) (by rw[hs2,hs1,hRl];omega) hGn hGm ?_,?_,.inr ⟨_,rfl,nzR _⟩⟩
  ·rw[List.length_append,List.length_append,htl,hvl,hdl];omega
  ·have hcell:∀x,W.cell? x=((W1.setCells w.heap.size (i*2) vs).setCells w.heap.size ((i+m)*2) (xs.drop (i*2))).cell? x:=fun x=>by simp only[World.cell?,hh]
   have hR:((W1.setCells w.heap.size (i*2) vs).setCells w.heap.size ((i+m)*2) (xs.drop (i*2))).rangeAt w.heap.size 0 (xs.take (i*2)++vs++xs.drop (i*2)):=by
    refine range_append (range_append ?_ ?_) ?_
    ·refine World.rangeAt_setCells_apart ?_ _ _ _ (.inr (.inl (by rw[htl];omega)))
     exact World.rangeAt_setCells_apart hra _ _ _ (.inr (.inl (by rw[htl];omega)))
    ·rw[htl,Nat.zero_add]
     refine World.rangeAt_setCells_apart ?_ _ _ _ (.inr (.inl (by rw[hvl];omega)))
     exact World.rangeAt_setCells_same _ _ _ _ (by rw[hvl];exact hth1 _ _ (by omega))
    ·rw[List.length_append,htl,hvl,Nat.zero_add,show i*2+m*2=(i+m)*2 by omega]
     exact World.rangeAt_setCells_same _ _ _ _ (World.there_setCells (by rw[hdl];exact hth1 _ _ (by omega)) _ _ _)
   exact fun j v hv=>(hcell _).trans (hR j v hv)
  ·refine⟨ho1,ho2,ho3,?_,fun k hk _=>?_⟩
   ·rw[hh];exact Nat.le_trans hbel.size hgr.size
   ·rw[hh,hgr.block k (Nat.lt_of_lt_of_le hk hbel.size) (fun e=>by simp at e;omega)]
    exact hbel.block k hk
 generalize InsPost w base (.slice (some ⟨g,off,none⟩) n c) (n+m) (xs.take (i*2)++vs++xs.drop (i*2))=POST at *
 have hz1:¬((m:Int)=0):=by omega
 have hz4:¬(m=0):=by omega
 have hz2:¬((i:Int)=(n:Int)):=by omega
 have hz3:(c:Int)<(n:Int)+(m:Int):=by omega
 have hGi:¬(G=i):=by omega
 have hGim:¬(G=i+m):=by omega
 have hci:¬(c=i):=by omega
 subst hW1
 have hE1:∀x,((w.alloc (.cells ROW 52)).drew).cell? x=(w.drew.alloc (.cells ROW 52)).cell? x:=fun x=>rfl
 have hE2:∀x,((w.alloc (.cells ROW 52)).drew).frozen? x=(w.drew.alloc (.cells ROW 52)).frozen? x:=fun x=>rfl
 have hF1:∀x,(((w.alloc (.cells ROW 52)).drew.setCells w.heap.size (i*2) vs).drew).cell? x=((w.drew.alloc (.cells ROW 52)).setCells w.heap.size (i*2) vs).cell? x:=fun x=>rfl
 have hF2:∀x,(((w.alloc (.cells ROW 52)).drew.setCells w.heap.size (i*2) vs).drew).frozen? x=((w.drew.alloc (.cells ROW 52)).setCells w.heap.size (i*2) vs).frozen? x:=fun x=>rfl
 have hw1:IntKind.i64.wrap ((i:Int)+(m:Int))=(i:Int)+(m:Int):=by rw[IntKind.wrap_i64];omega
 have hb1:(0:Int)≤(i:Int)+(m:Int):=by omega
 have hin:i≤n:=by omega
 have htn:((i:Int)+(m:Int)).toNat=i+m:=by omega
 have hb3:(i:Int)≤(n:Int):=by omega
 have mixed:Tryz.prog.follows Departure.mixedOrders=true:=by kernel_rfl
 clear hkk hik hold hROW hG hRl ho hxl hcur hcs hrg hth hdl htl hx hr1 hr2 hvl hvs h1 h1x hcm hbg hblk1 hth1 hra hbel hvs1 hr21 hi0 hz0 hzs hzb hGm
 go_enter Tryz.func157,Tryz.ntmps157
 go_wp2_with (first
  | (at_builtin;refine Lib.wpList_append_run _ rfl _ _ _ _ rfl _ _ rfl rfl _ _ (hrz _) ?_)
  | (at_builtin;refine wpList_copy_runI _ rfl _ _ 44 44 rfl _ _ rfl rfl (hcpA _ hE1 hE2 _ _) ?_)
  | (at_builtin;refine wpList_copy_runI _ rfl _ _ 44 44 rfl _ _ rfl rfl (hcpB _ (fun _=>rfl) (fun _=>rfl) _ _ _) ?_))
 go_region_law_o (refine step_copy_runI rfl _ _ 44 44 rfl (.slice (some ⟨w.heap.size,(i+m)*2,none⟩) (n+m - (i+m)) (G - (i+m))) (.slice (some ⟨g,off+i*2,none⟩) (n - i) (c - i)) (by simp[Act.eval,Act.put]) (by simp[Act.eval,Act.put]) (hcpB _ hF1 hF2 3 (G - (i+m)) (c - i)) ?_)
 go_wp2
 have hgz:∀ (X:World) (a b:Nat) (us ys:List Value),X.grownBy (((X.drew.setCells w.heap.size a us).drew).setCells w.heap.size b ys) (some w.heap.size):=fun X a b us ys=>gr_trans (gr_trans (gr_trans (gr_drew _ _) (gr_setCells _ _ _ _)) (gr_drew _ _)) (gr_setCells _ _ _ _)
 have hga:=hgz (w.alloc (.cells ROW 52)) (i*2) ((i+m)*2) vs (xs.drop (i*2))
 exact HPOST.out _ (by rw[show w.drew.alloc (.cells ROW 52)=(w.alloc (.cells ROW 52)).drew from rfl,←drew_setCells,←drew_setCells,←drew_setCells];rfl) hga.os hga.tape hga.output
theorem zEE(zs:List rlv.RL)(i:Nat):rlv.flat (zs.take i)=(rlv.flat zs).take (i*2):=by
 induction zs generalizing i with
 | nil=>simp[rlv.flat]
 | cons r t ih=>
  cases i with
  | zero=>simp[rlv.flat]
  | succ i=>rw[List.take_succ_cons,rlv.flat_cons,rlv.flat_cons,ih,show (i+1)*2=(rlv.rV r).length+i*2 by show _=2+i*2;omega,List.take_length_add_append]
theorem zEF(zs:List rlv.RL)(i:Nat):rlv.flat (zs.drop i)=(rlv.flat zs).drop (i*2):=by
 induction zs generalizing i with
 | nil=>simp[rlv.flat]
 | cons r t ih=>
  cases i with
  | zero=>simp
  | succ i=>rw[List.drop_succ_cons,rlv.flat_cons,ih,show (i+1)*2=(rlv.rV r).length+i*2 by show _=2+i*2;omega,List.drop_length_add_append]
theorem zHE(w:World)(base:Nat)(v:Value)(zs:List rlv.RL)(i:Nat)(p:Int)(vb vc:Nat)(ho:rlv.OwnQ w base v zs)(hbase:base≤w.heap.size)(hi:i≤zs.length)(hn:zs.length≤10000)
  (hvc:w.heap[vb]?=some (.cells #[.int .i64 p,.slice none 0 0] 52 (0,0))) (hne:v.ownBlock≠some vb) :
  Calls Tryz.prog 157 #[v,.int .i64 i,.slice (some ⟨vb,0,none⟩) 1 vc] w fun e w'=>
   ∃v',e=.returned v'∧rlv.OwnQ w' base v' (zs.take i++⟨p,none,0,0⟩::zs.drop i)∧w.grownBy w' v.ownBlock∧(v'.ownBlock=v.ownBlock∨∃k,v'.ownBlock=some k∧w.heap.size≤k):=by
 have hvs:w.rangeAt vb 0 [.int .i64 p,.slice none 0 0]:=fun j u hu=>by
  rw[cell_of_row w vb (0+j) _ _ (0,0) hvc,Nat.zero_add];simpa using hu
 have h1:∀u∈[Value.int .i64 p,.slice none 0 0],u.oneCell'=true:=by
  intro u hu;simp at hu;rcases hu with rfl|rfl <;>rfl
 have hfl:rlv.flat (zs.take i++⟨p,none,0,0⟩::zs.drop i)=(rlv.flat zs).take (i*2)++[.int .i64 p,.slice none 0 0]++(rlv.flat zs).drop (i*2):=by
  rw[rlv.flat_append,rlv.flat_cons,zEE,zEF,List.append_assoc];rfl
 have hln:(zs.take i++(⟨p,none,0,0⟩:rlv.RL)::zs.drop i).length=zs.length+1:=by simp;omega
 unfold rlv.OwnQ
 rw[hfl,hln]
 by_cases he:i=zs.length
 ·subst he
  have:=zHD w base v zs.length (rlv.flat zs) vb 1 vc [.int .i64 p,.slice none 0 0] ho hbase (by omega) (by omega) hn rfl hvs h1
  rw[List.take_of_length_le (by rw[rlv.flat_len];exact nzR _),List.drop_eq_nil_of_le (by rw[rlv.flat_len];exact nzR _),List.append_nil]
  exact this
 ·have hlt:i<zs.length:=by omega
  obtain⟨q,c,hv⟩:=OwnM.form ho
  subst hv
  rcases ho.2 with ⟨e,hz⟩|⟨g,off,cap,cur,e,hbg,hg,hcap,hcm,hcs,-⟩
  ·omega
  ·cases e
   have hvg:vb≠g:=fun e=>hne (by rw[e];rfl)
   by_cases hr:zs.length+1≤c
   ·exact zED w base g off zs.length c i vb 1 vc (rlv.flat zs) [.int .i64 p,.slice none 0 0] _ _ ho hlt (by omega) (by omega) hr hvg rfl hvs hvc (rlv.flat_one zs) h1
   ·exact zFK w base g off zs.length c i vb 1 vc (rlv.flat zs) [.int .i64 p,.slice none 0 0] ho hlt (by omega) (by omega) hn (by omega) hbase rfl hvs (gzE.1 hvc).1 (rlv.flat_one zs) h1
end sid
namespace sid
open Go.RowKit spn que
open tickP (priceB sideB betOk betR)
theorem zJy{s p:Int}{r:R}(a b:List L)(h:∀l∈a,leadB s l.price p=true):putL s p r (a++b)=a++putL s p r b:=by
 induction a with
 | nil=>rfl
 | cons x t ih=>
  rw[List.cons_append,putL,if_pos (h x (by simp)),ih (fun l hl=>h l (by simp[hl]))];rfl
theorem zMr(s p:Int)(ps:List RP):∃a b,ps=a++b∧(∀y∈a,leadB s y.1.price p=true)∧(b=[]∨∃x t,b=x::t∧leadB s x.1.price p=false):=by
 induction ps with
 | nil=>exact⟨[],[],rfl,by simp,.inl rfl⟩
 | cons x t ih=>
  cases hl:leadB s x.1.price p
  ·exact⟨[],x::t,rfl,by simp,.inr ⟨x,t,rfl,hl⟩⟩
  ·obtain⟨a,b,e,h1,h2⟩:=ih
   refine⟨x::a,b,by rw[e];rfl,?_,h2⟩
   intro y hy
   rcases List.mem_cons.1 hy with rfl|hy
   ·exact hl
   ·exact h1 y hy
theorem zGs{α:Type}(f:α→Bool)(x:α)(a b:List α)(h:∀y∈a,f y=false):∀i,Lib.idxByFrom (fun _ y=>f y) x (a++b) i=Lib.idxByFrom (fun _ y=>f y) x b (i+a.length):=by
 induction a with
 | nil=>intro i;rfl
 | cons y t ih=>
  intro i
  show (if f y=true then (i:Int) else Lib.idxByFrom (fun _ y=>f y) x (t++b) (i+1))=_
  rw[if_neg (by rw[h y (by simp)];simp),ih (fun z hz=>h z (by simp[hz])),List.length_cons,show i+1+t.length=i+(t.length+1) by omega]
theorem idx_all{α:Type}(f:α→Bool)(x:α)(a:List α)(h:∀y∈a,f y=false):Lib.idxBy (fun _ y=>f y) a x = -1:=by
 have:=zGs f x a [] h 0
 rw[List.append_nil] at this
 unfold Lib.idxBy
 rw[this];rfl
theorem zJz{α:Type}(f:α→Bool)(x:α)(a:List α)(y:α)(b:List α)(h:∀z∈a,f z=false)(hy:f y=true):Lib.idxBy (fun _ y=>f y) (a++y::b) x=a.length:=by
 have:=zGs f x a (y::b) h 0
 unfold Lib.idxBy
 rw[this]
 show (if f y=true then ((0+a.length:Nat):Int) else _)=_
 rw[if_pos hy,Nat.zero_add]
theorem zJA(s p:Int)(B1 B2:Nat)(w:World)(h1:B1<w.heap.size)(h2:B2<w.heap.size)(c1:w.cell? ⟨B1,0,none⟩=some (.int .i64 s))(c2:w.cell? ⟨B2,0,none⟩=some (.int .i64 p)) :
  PredBelow Tryz.prog 156 #[.pointer (some ⟨B1,0,none⟩),.pointer (some ⟨B2,0,none⟩)] (fun x=>.agg (rlv.rV x).toArray) (fun x=>!leadB s x.price p) w:=by
 intro W x hb
 obtain⟨pp,q,n,c⟩:=x
 show Calls Tryz.prog 156 #[.agg #[.int .i64 pp,.slice q n c],.pointer (some ⟨B1,0,none⟩),.pointer (some ⟨B2,0,none⟩)] W _
 have d1:=keeps hb c1
 have d2:=keeps hb c2
 have hz1:B1<W.heap.size:=Nat.lt_of_lt_of_le h1 hb.size
 have hz2:B2<W.heap.size:=Nat.lt_of_lt_of_le h2 hb.size
 have hb2:Below w.heap.size w (W.alloc (.cells #[.int .i64 pp,.slice q n c] 52)):=hb.alloc hb.size _
 have hcon:=zIE w s pp p _ hb2
 simp only[]
 generalize leadB s pp p=ld at *
 go_enter Tryz.func156,Tryz.ntmps156
 go_wp2_with fail
 refine hcon.mono ?_
 rintro e w1⟨rfl,h3⟩
 clear hcon
 go_wp2_with fail
 go_ret
 exact⟨rfl,h3⟩
theorem zJB(cl:Value)(w:World) :
  Calls Tryz.prog 155 #[.slice none 0 0,cl] w fun e w'=>e=.returned (.int .i64 (-1))∧Below w.heap.size w w':=by
 go_enter Tryz.func155,Tryz.ntmps155
 go_wp2
 go_loopg [5,8] 0 (fun _ _ s8 wr=>s8=.int .i64 0∧wr=w)
 case atStart=>exact⟨rfl,rfl⟩
 case round=>
  obtain⟨rfl,rfl⟩:=hrel
  go_wp2
  go_ret
  exact⟨rfl,bzR _ _⟩
theorem zJC(s p:Int)(B1 B2:Nat)(v:Value)(zs:List rlv.RL)(w:World)(h:rlv.SL w v zs)(h1:B1<w.heap.size)(h2:B2<w.heap.size)(c1:w.cell? ⟨B1,0,none⟩=some (.int .i64 s))(c2:w.cell? ⟨B2,0,none⟩=some (.int .i64 p)) :
  Calls Tryz.prog 155 #[v,.func (.func 156) #[] #[.pointer (some ⟨B1,0,none⟩),.pointer (some ⟨B2,0,none⟩)]] w fun e w'=>e=.returned (.int .i64 (Lib.idxBy (fun _ y=>!leadB s y.price p) zs default))∧Below w.heap.size w w':=by
 rcases h with ⟨rfl,rfl⟩|⟨b,o,c,rfl,hc,hm,hb,hl⟩
 ·exact zJB _ w
 ·have eg:∀args w,(callFunc 156 args).run Tryz.prog w=.ok (.enter 156 args) w:=enters_of Tryz.func156 (by kernel_rfl) rfl
  have hcon:=AnyQ.slices_IndexFunc Tryz.lq6l 2 Tryz.isAgg52 Tryz.sizeOf52 rlv.rV (fun x=>rfl) (fun x=>!leadB s x.price p) 156 #[.pointer (some ⟨B1,0,none⟩),.pointer (some ⟨B2,0,none⟩)] eg b o zs.length c zs
   w (zJA s p B1 B2 w h1 h2 c1 c2) (nzR _) (by omega) hb hl
  change Calls Tryz.prog 155 _ _ _ at hcon
  rw[List.take_length] at hcon
  exact hcon
theorem zJD(r:rlv.RL)(h:blkR r=none)(zs:List R)(b:RP):AP (r,zs) b∧AP b (r,zs):=
 ⟨fun x hx=>(by rw[show (r,zs).1=r from rfl,h] at hx;cases hx),fun x _ e=>(by rw[show (r,zs).1=r from rfl,h] at e;cases e)⟩
theorem DeepT.insert{w w' : World}{base:Nat}{v v' : Value}{a b:List RP}{p:Int}(h:Deep w base v (a++b))(ho:rlv.OwnQ w' base v' (a.map (·.1)++⟨p,none,0,0⟩::b.map (·.1)))
  (hg:w.grownBy w' v.ownBlock) (hv:v'.ownBlock=v.ownBlock∨∃k,v'.ownBlock=some k∧w.heap.size≤k):Deep w' base v' (a++(⟨p,none,0,0⟩,[])::b):=by
 have hk:∀y∈a++b,OwnQ w' base (sv y.1) y.2∧∀x,blkR y.1=some x→v'.ownBlock≠some x:=fun y hy=>by
  refine⟨zAe (h.each y hy) hg (fun x hx=>h.far y hy x hx),fun x hx=>?_⟩
  rcases hv with e|⟨k,e,hk⟩
  ·rw[e];exact h.far y hy x hx
  ·rw[e];intro e2
   have e3:k=x:=by simpa using e2
   have:=(OwnM.lt (h.each y hy) x hx).2
   omega
 refine⟨?_,?_,?_,?_⟩
 ·rw[List.append_nil,List.map_append,List.map_cons];exact ho
 ·intro y hy
  rcases List.mem_append.1 hy with hy|hy
  ·exact(hk y (by simp[hy])).1
  ·rcases List.mem_cons.1 hy with rfl|hy
   ·exact⟨rfl,.inl ⟨rfl,rfl⟩⟩
   ·exact(hk y (by simp[hy])).1
 ·obtain⟨h1,h2,h3⟩:=List.pairwise_append.1 h.apart
  refine List.pairwise_append.2 ⟨h1,List.pairwise_cons.2 ⟨fun y _=>(zJD _ rfl _ y).1,h2⟩,fun y hy z hz=>?_⟩
  rcases List.mem_cons.1 hz with rfl|hz
  ·exact(zJD _ rfl _ y).2
  ·exact h3 y hy z hz
 ·intro y hy
  rcases List.mem_append.1 hy with hy|hy
  ·exact(hk y (by simp[hy])).2
  ·rcases List.mem_cons.1 hy with rfl|hy
   ·intro x hx;cases hx
   ·exact(hk y (by simp[hy])).2
theorem zCP(w2:World)(base:Nat)(v:Value)(a b:List RP)(p:Int)(nq:Nat)(hD:Deep w2 base v (a++b))(hbase:base≤w2.heap.size)(hn:(a++b).length≤1000) :
  Calls Tryz.prog 157 #[v,.int .i64 (a.length:Nat),.slice (some ⟨w2.heap.size,0,none⟩) 1 1] ((w2.drewN nq).alloc (.cells #[.int .i64 p,.slice none 0 0] 52)) fun e w'=>
   ∃v',e=.returned v'∧Deep w' base v' (a++(⟨p,none,0,0⟩,[])::b)∧Below base w2 w':=by
 have hsz:(w2.drewN nq).heap.size=w2.heap.size:=rfl
 have hBV:Below w2.heap.size w2 ((w2.drewN nq).alloc (.cells #[.int .i64 p,.slice none 0 0] 52)):=(belowN (bzR _ _) nq).alloc (nzR _) _
 have hvc:=heap_alloc_new (w2.drewN nq) (.cells #[.int .i64 p,.slice none 0 0] 52)
 rw[hsz] at hvc
 have hDV:=hD.below hBV
 have hB1:Below base w2 ((w2.drewN nq).alloc (.cells #[.int .i64 p,.slice none 0 0] 52)):=hBV.mono hbase
 generalize (w2.drewN nq).alloc (.cells #[.int .i64 p,.slice none 0 0] 52)=V at *
 have ho:rlv.OwnQ V base v (a.map (·.1)++b.map (·.1)):=by have:=hDV.own;rwa [List.append_nil,List.map_append] at this
 have h:=zHE V base v (a.map (·.1)++b.map (·.1)) a.length p w2.heap.size 1 ho (Nat.le_trans hbase hBV.size) (by simp) (by simp at hn ⊢;omega) hvc (fun e=>by have:=(OwnM.lt hD.own _ e).2;omega)
 refine h.mono ?_
 rintro e w'⟨v',rfl,ho',hg,hv⟩
 rw[List.take_left' (by simp),List.drop_left' (by simp)] at ho'
 exact⟨v',rfl,hDV.insert ho' hg hv,hB1.grown hg (Nat.le_trans hbase hBV.size) (fun k hk=>(OwnM.lt hDV.own k hk).1)⟩
def WithPost(s p:Int)(ls:List L)(w:World)(e:Ending)(w' : World):Prop:=
 ∃v' a x b,e=.returned (.tuple #[v',.int .i64 (a.length:Nat)])∧Deep w' w.heap.size v' (a++x::b)∧x.1.price=p∧(∀r,putL s p r ls=a.map toL++⟨p,x.2++[r]⟩::b.map toL)∧Below w.heap.size w w'
theorem zGt{s p:Int}{a:List RP}(h:∀y∈a,leadB s y.1.price p=true):∀l∈a.map toL,leadB s l.price p=true:=by
 intro l hl
 obtain⟨y,hy,rfl⟩:=List.mem_map.1 hl
 exact h y hy
theorem zGu{s p:Int}{a:List RP}(h:∀y∈a,leadB s y.1.price p=true):∀l∈a.map (·.1),(!leadB s l.price p)=false:=by
 intro l hl
 obtain⟨y,hy,rfl⟩:=List.mem_map.1 hl
 simp[h y hy]
theorem zDN(s p:Int)(v:Value)(ls:List L)(w:World)(h:LS w v ls)(hn:ls.length≤1000)(hr:∀l∈ls,l.rests.length≤1000)(hne:∀l∈ls,l.rests≠[]) :
  Calls Tryz.prog 140 #[.int .i64 s,v,.int .i64 p] w fun e w'=>WithPost s p ls w e w':=by
 obtain⟨W0,hW0⟩:∃W0,W0=(w.alloc (.cells #[.int .i64 s] 3)).alloc (.cells #[.int .i64 p] 3):=⟨_,rfl⟩
 have hB0:Below w.heap.size w W0:=by rw[hW0];exact((bzR _ _).alloc (nzR _) _).alloc (by simp) _
 have hs0:W0.heap.size=w.heap.size+2:=by rw[hW0];simp
 have c1:W0.cell? ⟨w.heap.size,0,none⟩=some (.int .i64 s):=by rw[hW0];simp[go_sem]
 have c2:W0.cell? ⟨w.heap.size+1,0,none⟩=some (.int .i64 p):=by rw[hW0];simp[go_sem]
 have hfresh:=zAK v ls W0 (h.below hB0) hn hr hne
 obtain⟨vq,vm,vc,rfl⟩:=zDD h
 have HP:Hid (∀W v' a x b,Deep W w.heap.size v' (a++x::b)→x.1.price=p→(∀r,putL s p r ls=a.map toL++⟨p,x.2++[r]⟩::b.map toL)→Below w.heap.size w W→WithPost s p ls w (.returned (.tuple #[v',.int .i64 (a.length:Nat)])) W):=fun W v' a x b h1 h2 h3 h4=>⟨v',a,x,b,rfl,h1,h2,h3,h4⟩
 have HN:Hid (ls.length≤1000):=hn
 generalize WithPost s p ls w=POST at *
 clear h hn hr hne
 go_enter Tryz.func140,Tryz.ntmps140
 go_wp2_with fail
 rw[←hW0]
 refine hfresh.mono ?_
 rintro e w1⟨v1,ps,rfl,hps,hD0,hB1⟩
 have HW1:Hid (Below w.heap.size w w1):=hB0.trans (hB1.mono hB0.size)
 have HD:Hid (Deep w1 w.heap.size v1 ps):=hD0.mono hB0.size
 have hsz1:w.heap.size+2≤w1.heap.size:=by have:=hB1.size;omega
 have d1:=keeps hB1 c1
 have d2:=keeps hB1 c2
 have hlen:ps.length≤1000:=by have:=HN.out;rw[←hps,List.length_map] at this;exact this
 have HPS:Hid (ps.map toL=ls):=hps
 have HIX:=zJC s p w.heap.size (w.heap.size+1) v1 (ps.map (·.1)) w1 HD.out.loose.1 (by omega) (by omega) d1 d2
 obtain⟨a,b,hab,ha,hb⟩:=zMr s p ps
 obtain⟨q1,cc1,hv1⟩:=OwnM.form HD.out.own
 rw[List.append_nil,List.length_map] at hv1
 clear hfresh hB0 hs0 c1 c2 hW0 hD0 hB1 hps
 rcases hb with rfl|⟨x,t,rfl,hx⟩
 ·
  rw[idx_all _ _ _ (by rw[hab,List.append_nil];exact zGu ha)] at HIX
  rw[List.append_nil] at hab
  subst hab
  have HPUT:Hid (∀r,putL s p r ls=ps.map toL++⟨p,[]++[r]⟩::[].map toL):=fun r=>by
   rw[←HPS.out,←List.append_nil (ps.map toL),zJy _ _ (zGt ha),List.append_nil];rfl
  clear ha
  subst hv1
  generalize hnn:ps.length=n at *
  have HNN:Hid (ps.length=n):=hnn
  clear hnn
  go_wp2_with fail
  refine HIX.mono ?_
  rintro e w2⟨rfl,hB2⟩
  have HW2:Hid (Below w.heap.size w w2):=HW1.out.trans (hB2.mono HW1.out.size)
  have HD2:Hid (Deep w2 w.heap.size (.slice q1 n cc1) ps):=HD.out.below hB2
  have e2:=keeps hB2 d2
  have hsz2:w.heap.size+2≤w2.heap.size:=Nat.le_trans hsz1 hB2.size
  clear HIX hB2 d1 d2
  go_upto_region 5 with fail
  go_quiet (fail)
  go_wp2_with fail
  have hin:=zCP w2 w.heap.size (.slice q1 n cc1) ps [] p nq (by rw[List.append_nil];exact HD2.out) HW2.out.size (by rw[List.append_nil,HNN.out];exact hlen)
  rw[HNN.out] at hin
  refine hin.mono ?_
  rintro e w3⟨v3,rfl,hD3,hB3⟩
  have HX:=HP.out w3 v3 ps (⟨p,none,0,0⟩,[]) [] hD3 rfl HPUT.out (HW2.out.trans hB3)
  rw[HNN.out] at HX
  clear hin hD3 hB3
  go_wp2_with fail
  exact HX
 ·rw[hab,List.map_append,List.map_cons,zJz _ _ _ _ _ (zGu ha) (by simp[hx]),List.length_map] at HIX
  have HPUT:Hid (∀r,putL s p r ls=a.map toL++(if x.1.price=p then ⟨p,x.2++[r]⟩::t.map toL else ⟨p,[r]⟩::toL x::t.map toL)):=fun r=>by
   rw[←HPS.out,hab,List.map_append,zJy _ _ (zGt ha),List.map_cons,putL,if_neg (by rw[zIR,hx];simp)]
   rfl
  have HAB:Hid (ps=a++x::t):=hab
  rcases HD.out.own.2 with ⟨e,hz⟩|⟨g,off,cap,cur,e,-,-,hcap,hcm,-,-⟩
  ·rw[List.append_nil,List.length_map,hab] at hz;simp at hz
  ·rw[List.append_nil,List.length_map] at e hcap
   subst e
   have hcap2:cap≤9223372036854775807:=by simpa [maxLen] using hcm
   have ho:=HD.out.own
   rw[List.append_nil,hab,List.map_append,List.map_cons] at ho
   obtain⟨-,c0,-,-,-,hgs⟩:=zBX ho
   rw[List.length_map] at c0
   have hkn:a.length<ps.length:=by rw[hab];simp
   clear ho ha hx hab hcm hv1
   obtain⟨⟨xp,xq,xn,xc⟩,zs⟩:=x
   simp only[] at c0
   generalize hnn:ps.length=n at *
   have HNN:Hid (ps.length=n):=hnn
   generalize hkk:a.length=k at *
   have HKK:Hid (a.length=k):=hkk
   clear hnn hkk
   go_wp2_with fail
   refine HIX.mono ?_
   rintro e w2⟨rfl,hB2⟩
   have HW2:Hid (Below w.heap.size w w2):=HW1.out.trans (hB2.mono HW1.out.size)
   have HD2:Hid (Deep w2 w.heap.size (.slice (some ⟨g,off,none⟩) n cap) (a++(⟨xp,xq,xn,xc⟩,zs)::t)):=by have:=HD.out.below hB2;rwa [HAB.out] at this
   have e2:=keeps hB2 d2
   have e0:=keeps hB2 c0
   have hsz2:w.heap.size+2≤w2.heap.size:=Nat.le_trans hsz1 hB2.size
   have hgs2:g<w2.heap.size:=Nat.lt_of_lt_of_le hgs hB2.size
   clear HIX hB2 d1 d2 c0
   have hk0:¬((k:Int)<0):=by omega
   have hk1:¬((k:Int)=(n:Int)):=by omega
   have hk2:¬(k=n):=by omega
   have hk3:(k:Int)<(n:Int):=by omega
   have hk4:decide (k=n)=false:=by simp[hk2]
   have hk5:((k:Int) == (n:Int))=false:=by simp;omega
   have hk6:(0:Int)≤(k:Int):=by omega
   by_cases hxp:xp=p
   ·subst hxp
    have HPUT2:Hid (∀r,putL s xp r ls=a.map toL++⟨xp,zs++[r]⟩::t.map toL):=fun r=>by rw[HPUT.out r,if_pos rfl]
    clear HPUT
    have HX:=fun nq=>HP.out (w2.drewN nq) _ a (⟨xp,xq,xn,xc⟩,zs) t (HD2.out.below (belowN (bzR _ _) nq)) rfl HPUT2.out (belowN HW2.out nq)
    rw[HKK.out] at HX
    have HXX:Hid (∀nq,POST (.returned (.tuple #[.slice (some ⟨g,off,none⟩) n cap,.int .i64 (k:Int)])) (w2.drewN nq)):=HX
    clear HX
    go_upto_region 5 with fail
    go_quiet (fail)
    go_wp2_with fail
    exact HXX.out _
   ·have HPUT2:Hid (∀r,putL s p r ls=a.map toL++⟨p,[]++[r]⟩::((⟨xp,xq,xn,xc⟩,zs)::t).map toL):=fun r=>by rw[HPUT.out r,if_neg hxp];rfl
    clear HPUT
    have hxp1:(xp == p)=false:=by simpa using hxp
    have hxp2:decide (xp=p)=false:=by simpa using hxp
    go_upto_region 5 with fail
    go_quiet (fail)
    go_wp2_with fail
    have hin:=zCP w2 w.heap.size (.slice (some ⟨g,off,none⟩) n cap) a ((⟨xp,xq,xn,xc⟩,zs)::t) p nq HD2.out HW2.out.size (by rw[←HAB.out,HNN.out];exact hlen)
    rw[HKK.out] at hin
    refine hin.mono ?_
    rintro e w3⟨v3,rfl,hD3,hB3⟩
    have HX:=HP.out w3 v3 a (⟨p,none,0,0⟩,[]) ((⟨xp,xq,xn,xc⟩,zs)::t) hD3 rfl HPUT2.out (HW2.out.trans hB3)
    rw[HKK.out] at HX
    clear hin hD3 hB3
    go_wp2_with fail
    exact HX
end sid
namespace sid
open Go.RowKit spn que Go.Maps
open tickP (errB priceB sideB betOk betR zAx)
def addE(s:Int)(ls:List L)(p:Int)(r:R):Int:=
 if schk s ls=0 then (if priceB p=true then (if rchk r=0 then (if r.id∈ids ls then 7 else if cnt ls=60 then 4 else 0) else rchk r) else 1) else schk s ls
def addL(s:Int)(ls:List L)(p:Int)(r:R):List L:=if addE s ls p r=0 then putL s p r ls else []
def AddPost(s:Int)(ls:List L)(p:Int)(r:R)(w:World)(x:Ending)(w' : World):Prop:=
 Below w.heap.size w w'∧∃v',x=.returned (.tuple #[v',errV (addE s ls p r)])∧DL w' w.heap.size v' (addL s ls p r)
theorem zMs{s:Int}{ls:List L}{p:Int}{r:R}{k:Int}(h:addE s ls p r=k)(hk:¬k=0):addL s ls p r=[]:=by unfold addL;rw[h,if_neg hk]
theorem zDO{s:Int}{ls:List L}{p:Int}{r:R}{w W:World}{k:Int}(h:addE s ls p r=k)(hk:¬k=0)(hW:Below w.heap.size w W):AddPost s ls p r w (.returned (.tuple #[.slice none 0 0,.iface 91 (.int .i64 k)])) W:=by
 refine⟨hW,_,?_,by rw[zMs h hk];exact zDh _ _⟩
 rw[h,errV_of hk]
theorem add_in(s:Int)(vq:Option Addr)(vm vc:Nat)(ls:List L)(p:Int)(a b c d e:Int)(w V0:World)(hV0:V0=w.alloc (.cells #[.int .i64 a,.int .i64 b,.int .i64 c,.int .i64 d,.int .i64 e] 54))(HLS:Hid (∀W,Below w.heap.size w W→LS W (.slice vq vm vc) ls))(h0:schk s ls=0)(hp:priceB p=true)(hr:rchk ⟨a,b,c,d,e⟩=0)(hkey:keyOf Tryz.prog 3 (.int .i64 a)=some (.int .i64 a)) :
  Calls Tryz.prog 121 #[.int .i64 s,.slice vq vm vc,.int .i64 p,.agg #[.int .i64 a,.int .i64 b,.int .i64 c,.int .i64 d,.int .i64 e]] w fun x w'=>AddPost s ls p ⟨a,b,c,d,e⟩ w x w':=by
 have hB0:Below w.heap.size w V0:=by rw[hV0];exact(bzR _ _).alloc (nzR _) _
 have hR0:V0.heap[w.heap.size]?=some (.cells #[.int .i64 a,.int .i64 b,.int .i64 c,.int .i64 d,.int .i64 e] 54 (0,0)):=by rw[hV0];exact heap_alloc_new w _
 have hcon:=zAY s _ ls V0 (HLS.out V0 hB0)
 have HB0:Hid (Below w.heap.size w V0):=hB0
 have x0:V0.cell? ⟨w.heap.size,0,none⟩=some (.int .i64 a):=by simp[World.cell?,hR0]
 have x1:V0.cell? ⟨w.heap.size,1,none⟩=some (.int .i64 b):=by simp[World.cell?,hR0]
 have x2:V0.cell? ⟨w.heap.size,2,none⟩=some (.int .i64 c):=by simp[World.cell?,hR0]
 have x3:V0.cell? ⟨w.heap.size,3,none⟩=some (.int .i64 d):=by simp[World.cell?,hR0]
 have x4:V0.cell? ⟨w.heap.size,4,none⟩=some (.int .i64 e):=by simp[World.cell?,hR0]
 have hsz0:w.heap.size<V0.heap.size:=(gzE.1 hR0).1
 have HPL:Hid (∀x w',PlacesPost s ls V0 x w'→Below V0.heap.size V0 w'∧∃B,x=.returned (.tuple #[.map (some B),.nilIface])∧Own w' B (flatP 0 ls)):=fun x w' hp=>by
  obtain⟨h1,⟨h2,_⟩|⟨_,B,_,h3,h4⟩⟩:=hp
  ·exact absurd h0 h2
  ·exact⟨h1,B,h3,h4⟩
 have HPR:=fun W=>zAx W p W (bzR _ _)
 rw[hp] at HPR
 simp only[show errB true=.nilIface from rfl] at HPR
 have HRE:=fun W=>zBF a b c d e W
 rw[hr,errV_zero] at HRE
 have hh:=zGf (flatP 0 ls) a
 have ha:=zIP (flatP 0 ls) a
 have HPOST:Hid (∀W k,addE s ls p ⟨a,b,c,d,e⟩=k→¬k=0→Below w.heap.size w W→AddPost s ls p ⟨a,b,c,d,e⟩ w (.returned (.tuple #[.slice none 0 0,.iface 91 (.int .i64 k)])) W):=fun W k h1 h2 h3=>zDO h1 h2 h3
 obtain⟨z1,z2,z3,z4⟩:=zAa h0
 have HE1:Hid (¬lastAt (flatP 0 ls) a=none→addE s ls p ⟨a,b,c,d,e⟩=7):=fun h=>by unfold addE;rw[if_pos h0,if_pos hp,if_pos hr,if_pos (zEu.2 h)]
 have HE2:Hid (lastAt (flatP 0 ls) a=none→cnt ls=60→addE s ls p ⟨a,b,c,d,e⟩=4):=fun h h6=>by unfold addE;rw[if_pos h0,if_pos hp,if_pos hr,if_neg (fun hh=>zEu.1 hh h),if_pos h6]
 have HE3:Hid (lastAt (flatP 0 ls) a=none→¬cnt ls=60→addE s ls p ⟨a,b,c,d,e⟩=0):=fun h h6=>by unfold addE;rw[if_pos h0,if_pos hp,if_pos hr,if_neg (fun hh=>zEu.1 hh h),if_neg h6]
 have HFINE:Hid (∀W v',Below w.heap.size w W→addE s ls p ⟨a,b,c,d,e⟩=0→DL W w.heap.size v' (putL s p ⟨a,b,c,d,e⟩ ls)→AddPost s ls p ⟨a,b,c,d,e⟩ w (.returned (.tuple #[v',.nilIface])) W):=fun W v' h1 h2 h3=>⟨h1,v',by rw[h2];rfl,by unfold addL;rw[if_pos h2];exact h3⟩
 have hlen:=zBZ (zAh z2)
 have HWITH:Hid (∀W,Below w.heap.size w W→Calls Tryz.prog 140 #[.int .i64 s,.slice vq vm vc,.int .i64 p] W fun e w'=>WithPost s p ls W e w'):=fun W hW=>zDN s p _ ls W (HLS.out W hW) (by omega) (fun l hl=>by have:=zAt hl;omega) (fun l hl=>(zAc (zAh z2 l hl)).2.1)
 have hsn:=zGe z4
 generalize AddPost s ls p ⟨a,b,c,d,e⟩ w=POST at *
 have HLEN:Hid (∀W B,Own W B (flatP 0 ls)→W.ownsMap Tryz.prog 3 plR B (flatP 0 ls).length (mapD (flatP 0 ls))∧Maps.size (mapD (flatP 0 ls))=seenN ls):=fun W B h=>⟨h,rfl⟩
 have HZ3:Hid (∀aa zs bb,putL s p ⟨a,b,c,d,e⟩ ls=aa++(⟨p,zs++[⟨a,b,c,d,e⟩]⟩:L)::bb→zs.length≤60):=fun aa zs bb hput=>by
  have h1:=zIU s p ⟨a,b,c,d,e⟩ ls
  have h2:(⟨p,zs++[⟨a,b,c,d,e⟩]⟩:L)∈putL s p ⟨a,b,c,d,e⟩ ls:=by rw[hput];simp
  have h3:=zAt h2
  simp at h3
  omega
 clear h0 hp hr hB0 hR0 z1 z2 z3 z4 hlen
 cases hl:lastAt (flatP 0 ls) a with
 | some t=>
  have HXE:Hid (addE s ls p ⟨a,b,c,d,e⟩=7):=HE1.out (by rw[hl];simp)
  rw[hl] at hh ha
  simp only[Option.isSome_some,Option.getD_some] at hh ha
  obtain⟨t1,t2,t3⟩:=t
  simp only[] at hh ha
  clear hl HE1 HE2 HE3 HFINE HWITH hsn HZ3
  go_enter Tryz.func121,Tryz.ntmps121
  go_wp2_with fail
  rw[←hV0]
  refine hcon.mono ?_
  rintro x w1 hp
  obtain⟨h1,B,rfl,hO⟩:=HPL.out _ _ hp
  have H1:Hid (Below V0.heap.size V0 w1):=h1
  have HO:Hid (Own w1 B (flatP 0 ls)):=hO
  clear hcon HPL hp h1 hO
  go_wp2_with fail
  refine(HPR w1).mono ?_
  rintro x w2⟨rfl,h2⟩
  have H2:Hid (Below w1.heap.size w1 w2):=h2
  have y0:=keeps h2 (keeps H1.out x0)
  have y1:=keeps h2 (keeps H1.out x1)
  have y2:=keeps h2 (keeps H1.out x2)
  have y3:=keeps h2 (keeps H1.out x3)
  have y4:=keeps h2 (keeps H1.out x4)
  have hs2:w.heap.size<w2.heap.size:=Nat.lt_of_lt_of_le hsz0 (Nat.le_trans H1.out.size h2.size)
  clear HPR h2 x0 x1 x2 x3 x4
  go_wp2_with fail
  refine(HRE w2).mono ?_
  rintro x w3⟨rfl,h3⟩
  have H3:Hid (Below w.heap.size w w3):=(HB0.out.trans ((H1.out.trans ((H2.out.trans (h3.mono H2.out.size)).mono H1.out.size)).mono HB0.out.size))
  have y0':=keeps h3 y0
  have hs3:w.heap.size<w3.heap.size:=Nat.lt_of_lt_of_le hs2 h3.size
  obtain⟨hown,-⟩:=HLEN.out _ _ ((HO.out.below H2.out).below h3)
  have HXX:Hid (∀o,POST (.returned (.tuple #[.slice none 0 0,.iface 91 (.int .i64 7)])) (w3.alloc o)):=fun o=>HPOST.out _ 7 HXE.out (by omega) (H3.out.alloc H3.out.size _)
  clear HRE h3 y0 y1 y2 y3 y4 HPOST
  go_wp2_with (at_lookup;refine zAJ _ rfl _ _ 120 rfl 3 181 lawI Tryz.underlying120 (zeroPl _) B _ _ rfl hown _ _ rfl hkey _ _ _ ha hh ?_)
  exact HXX.out _
 | none=>
  rw[hl] at hh ha
  simp only[Option.isSome_none,Option.getD_none] at hh ha
  have HEa:Hid (cnt ls=60→addE s ls p ⟨a,b,c,d,e⟩=4):=fun h=>HE2.out hl h
  have HEb:Hid (¬cnt ls=60→addE s ls p ⟨a,b,c,d,e⟩=0):=fun h=>HE3.out hl h
  clear hl HE1 HE2 HE3
  generalize seenN ls=z at *
  generalize cnt ls=T at *
  go_enter Tryz.func121,Tryz.ntmps121
  go_wp2_with fail
  rw[←hV0]
  refine hcon.mono ?_
  rintro x w1 hp
  obtain⟨h1,B,rfl,hO⟩:=HPL.out _ _ hp
  have H1:Hid (Below V0.heap.size V0 w1):=h1
  have HO:Hid (Own w1 B (flatP 0 ls)):=hO
  clear hcon HPL hp h1 hO
  go_wp2_with fail
  refine(HPR w1).mono ?_
  rintro x w2⟨rfl,h2⟩
  have H2:Hid (Below w1.heap.size w1 w2):=h2
  have y0:=keeps h2 (keeps H1.out x0)
  have y1:=keeps h2 (keeps H1.out x1)
  have y2:=keeps h2 (keeps H1.out x2)
  have y3:=keeps h2 (keeps H1.out x3)
  have y4:=keeps h2 (keeps H1.out x4)
  have hs2:w.heap.size<w2.heap.size:=Nat.lt_of_lt_of_le hsz0 (Nat.le_trans H1.out.size h2.size)
  clear HPR h2 x0 x1 x2 x3 x4
  go_wp2_with fail
  refine(HRE w2).mono ?_
  rintro x w3⟨rfl,h3⟩
  have H3:Hid (Below w.heap.size w w3):=(HB0.out.trans ((H1.out.trans ((H2.out.trans (h3.mono H2.out.size)).mono H1.out.size)).mono HB0.out.size))
  have u0:=keeps h3 y0
  have u1:=keeps h3 y1
  have u2:=keeps h3 y2
  have u3:=keeps h3 y3
  have u4:=keeps h3 y4
  have hs3:w.heap.size<w3.heap.size:=Nat.lt_of_lt_of_le hs2 h3.size
  obtain⟨hown,hsz⟩:=HLEN.out _ _ ((HO.out.below H2.out).below h3)
  have hown2:=fun o=>World.ownsMap.alloc hown o
  clear HRE h3 y0 y1 y2 y3 y4
  by_cases h6:T=60
  ·have HXX:Hid (∀o,POST (.returned (.tuple #[.slice none 0 0,.iface 91 (.int .i64 4)])) (w3.alloc o)):=fun o=>HPOST.out _ 4 (HEa.out h6) (by omega) (H3.out.alloc H3.out.size _)
   have hz6:(z:Int)=60:=by omega
   have hz60:z=60:=by omega
   subst hz60
   clear HPOST hz6 h6 hsn
   go_wp2_with (first|(at_lookup;refine zAJ _ rfl _ _ 120 rfl 3 181 lawI Tryz.underlying120 (zeroPl _) B _ _ rfl hown _ _ rfl hkey _ _ _ ha hh ?_)|(at_len;refine wpList_len_own _ rfl _ 120 rfl 3 181 Tryz.underlying120 plR B _ _ rfl (hown2 _) ?_;rw[hsz]))
   exact HXX.out _
  ·have hz6:¬((z:Int)=60):=by omega
   have hz60:¬(z=60):=by omega
   have hz61:((z:Int) == 60)=false:=by simp;omega
   have HB4:Hid (∀o,Below w.heap.size w (w3.alloc o)):=fun o=>H3.out.alloc H3.out.size _
   have HE0:=HEb.out h6
   clear HPOST hsn h6 HEa HEb
   go_wp2_with (first|(at_lookup;refine zAJ _ rfl _ _ 120 rfl 3 181 lawI Tryz.underlying120 (zeroPl _) B _ _ rfl hown _ _ rfl hkey _ _ _ ha hh ?_)|(at_len;refine wpList_len_own _ rfl _ 120 rfl 3 181 Tryz.underlying120 plR B _ _ rfl (hown2 _) ?_;rw[hsz]))
   have HBA:Hid (Below w3.heap.size w3 (w3.alloc (.cells #[.int .i64 0,.int .i64 0] 181))):=(bzR _ _).alloc (nzR _) _
   have HB44:=HB4.out (.cells #[.int .i64 0,.int .i64 0] 181)
   generalize w3.alloc (.cells #[.int .i64 0,.int .i64 0] 181)=W4 at *
   refine(HWITH.out W4 HB44).mono ?_
   rintro x w5⟨v5,aa,⟨⟨xp,xq,xn,xc⟩,zs⟩,bb,rfl,hD,hxp,hput,hB5⟩
   simp only[] at hxp hput
   have hzl:zs.length≤60:=HZ3.out _ _ _ (hput _)
   have hex:=hD.each (⟨xp,xq,xn,xc⟩,zs) (by simp)
   have hxn:xn=zs.length:=by
    obtain⟨q',c',e⟩:=OwnM.form hex
    have e' : Value.slice xq xn xc=.slice q' zs.length c':=e
    simp at e'
    exact e'.2.1
   subst hxn
   subst hxp
   have ho5:=hD.own
   rw[List.append_nil,List.map_append,List.map_cons] at ho5
   rcases ho5.2 with ⟨-,hz⟩|⟨g,off,cap,cur,e5,-,-,hcap,hcm,-,-⟩
   ·simp at hz
   ·rw[show (aa.map (·.1)++(⟨xp,xq,zs.length,xc⟩:rlv.RL)::bb.map (·.1)).length=(aa++(((⟨xp,xq,zs.length,xc⟩:rlv.RL),zs):RP)::bb).length by simp] at e5 hcap
    subst e5
    have hcap2:cap≤9223372036854775807:=by simpa [maxLen] using hcm
    obtain⟨-,-,c1,hfr,hgb,hgs⟩:=zBX ho5
    rw[List.length_map] at c1
    have f1:=hfr (off+aa.length*2+1)
    have hkn:aa.length<(aa++(((⟨xp,xq,zs.length,xc⟩:rlv.RL),zs):RP)::bb).length:=by simp
    have t0:=keeps hB5 (keeps HBA.out u0)
    have t1:=keeps hB5 (keeps HBA.out u1)
    have t2:=keeps hB5 (keeps HBA.out u2)
    have t3:=keeps hB5 (keeps HBA.out u3)
    have t4:=keeps hB5 (keeps HBA.out u4)
    have hw4:w.heap.size<W4.heap.size:=Nat.lt_of_lt_of_le hs3 HBA.out.size
    have hs5:w.heap.size<w5.heap.size:=Nat.lt_of_lt_of_le hw4 hB5.size
    obtain⟨i0,hi,hz0,hz1,hz2⟩:=infoR'
    have HI:Hid (Tryz.prog.info? 54=some i0):=hi
    have OV:Hid (OwnM w5 W4.heap.size 54 5 (.slice xq zs.length xc) zs.length (flat zs)):=hex
    have HDW:Hid (∀W W' q' c',Below w5.heap.size w5 W→W.grownBy W' (Value.slice xq zs.length xc).ownBlock→OwnM W' W4.heap.size 54 5 (.slice q' (zs.length+1) c') (zs.length+1) (flat zs++[.int .i64 a,.int .i64 b,.int .i64 c,.int .i64 d,.int .i64 e])→((Value.slice q' (zs.length+1) c').ownBlock=(Value.slice xq zs.length xc).ownBlock∨(Value.slice q' (zs.length+1) c').ownBlock=some W.heap.size)→POST (.returned (.tuple #[.slice (some ⟨g,off,none⟩) (aa++(((⟨xp,xq,zs.length,xc⟩:rlv.RL),zs):RP)::bb).length cap,.nilIface])) (W'.setCell ⟨g,off+aa.length*2+1,none⟩ (.slice q' (zs.length+1) c'))):=fun W W' q' c' hW hg hO hat=>by
     have hDW:=hD.below hW
     have hO2:OwnQ W' W4.heap.size (.slice q' (zs.length+1) c') (zs++[⟨a,b,c,d,e⟩]):=by
      show OwnM _ _ _ _ _ _ _
      rw[flat_append,List.length_append];exact hO
     have hsw:=DeepT.swap hDW hg hO2 (hat.imp id (fun e=>⟨_,e,nzR _⟩))
     have hlt:∀k,(Value.slice xq zs.length xc).ownBlock=some k→W4.heap.size≤k:=fun k hk=>(OwnM.lt hex k hk).1
     have hBW:Below W4.heap.size W4 W:=hB5.trans (hW.mono hB5.size)
     have hBW' : Below W4.heap.size W4 W':=hBW.grown hg hBW.size hlt
     refine HFINE.out _ _ (HB44.trans (((hBW'.setCell hgb _)).mono HB44.size)) HE0 ?_
     rw[hput,show aa.map toL++(⟨xp,zs++[⟨a,b,c,d,e⟩]⟩:L)::bb.map toL=(aa++(((⟨xp,q',zs.length+1,c'⟩:rlv.RL),zs++[⟨a,b,c,d,e⟩]):RP)::bb).map toL by simp[toL]]
     exact⟨_,rfl,hsw.mono HB44.size⟩
    have hxlt:∀k,(Value.slice xq zs.length xc).ownBlock=some k→W4.heap.size≤k∧k<w5.heap.size:=fun k hk=>OwnM.lt hex k hk
    have hxg:(Value.slice xq zs.length xc).ownBlock≠some g:=fun e=>hD.far (⟨xp,xq,zs.length,xc⟩,zs) (by simp) g e rfl
    clear hD hput hi hex ho5 HWITH HFINE HZ3 HE0 hfr hcm hown hown2 hsz ha hh hkey HLEN u0 u1 u2 u3 u4
    generalize hkk:aa.length=k at *
    generalize hnn:(aa++(((⟨xp,xq,zs.length,xc⟩:rlv.RL),zs):RP)::bb).length=n at *
    clear hkk hnn
    have hk0:¬((k:Int)<0):=by omega
    have hk3:(k:Int)<(n:Int):=by omega
    have hk6:(0:Int)≤(k:Int):=by omega
    have HB5:Hid (Below W4.heap.size W4 w5):=hB5
    have SO:Hid (∀W,Below w5.heap.size w5 W→(Below W4.heap.size W4 W∧W.cell? ⟨g,off+k*2+1,none⟩=some (.slice xq zs.length xc)∧W.frozen? ⟨g,off+k*2+1,none⟩=false∧W.cell? ⟨w.heap.size,0,none⟩=some (.int .i64 a)∧W.cell? ⟨w.heap.size,1,none⟩=some (.int .i64 b)∧W.cell? ⟨w.heap.size,2,none⟩=some (.int .i64 c)∧W.cell? ⟨w.heap.size,3,none⟩=some (.int .i64 d)∧W.cell? ⟨w.heap.size,4,none⟩=some (.int .i64 e))):=fun W hW=>⟨HB5.out.trans (hW.mono HB5.out.size),keeps hW c1,(hW.frozen (p:=⟨g,off+k*2+1,none⟩) hgs).trans f1,keeps hW t0,keeps hW t1,keeps hW t2,keeps hW t3,keeps hW t4⟩
    have SG:Hid (∀W W',Below w5.heap.size w5 W→W.grownBy W' (Value.slice xq zs.length xc).ownBlock→(Below W4.heap.size W4 W'∧W'.cell? ⟨g,off+k*2+1,none⟩=some (.slice xq zs.length xc)∧W'.frozen? ⟨g,off+k*2+1,none⟩=false∧W'.cell? ⟨w.heap.size,0,none⟩=some (.int .i64 a)∧W'.cell? ⟨w.heap.size,1,none⟩=some (.int .i64 b)∧W'.cell? ⟨w.heap.size,2,none⟩=some (.int .i64 c)∧W'.cell? ⟨w.heap.size,3,none⟩=some (.int .i64 d)∧W'.cell? ⟨w.heap.size,4,none⟩=some (.int .i64 e))):=fun W W' hW hg=>by
     have hBW:Below W4.heap.size W4 W:=HB5.out.trans (hW.mono HB5.out.size)
     have hgW:g<W.heap.size:=Nat.lt_of_lt_of_le hgs hW.size
     have hwW:w.heap.size<W.heap.size:=Nat.lt_of_lt_of_le hs5 hW.size
     have hne:some g≠(Value.slice xq zs.length xc).ownBlock:=fun e=>hxg e.symm
     have hnw:some w.heap.size≠(Value.slice xq zs.length xc).ownBlock:=fun e=>by have:=(hxlt _ e.symm).1;omega
     refine⟨hBW.grown hg hBW.size (fun k hk=>(hxlt k hk).1),?_,?_,?_,?_,?_,?_,?_⟩
     ·rw[hg.cell_far ⟨g,off+k*2+1,none⟩ hgW hne];exact keeps hW c1
     ·rw[World.frozen?_of_block (hg.block g hgW hne)];exact(hW.frozen (p:=⟨g,off+k*2+1,none⟩) hgs).trans f1
     ·rw[hg.cell_far ⟨w.heap.size,0,none⟩ hwW hnw];exact keeps hW t0
     ·rw[hg.cell_far ⟨w.heap.size,1,none⟩ hwW hnw];exact keeps hW t1
     ·rw[hg.cell_far ⟨w.heap.size,2,none⟩ hwW hnw];exact keeps hW t2
     ·rw[hg.cell_far ⟨w.heap.size,3,none⟩ hwW hnw];exact keeps hW t3
     ·rw[hg.cell_far ⟨w.heap.size,4,none⟩ hwW hnw];exact keeps hW t4
    have hszV:W4.heap.size≤w5.heap.size:=HB5.out.size
    clear hB5 hxlt hxg
    go_upto_region 16 with fail
    go_region_law (refine step_append_mid _ rfl _ _ 50 rfl W4.heap.size 54 i0 zeroR 5 40 Tryz.underlying50 HI.out hz0 hz1 hz2 rfl (.slice xq zs.length xc) zs.length (flat zs) rfl (OwnM.below OV.out (by(with_reducible repeat' (first|assumption|refine bal ?_ _|refine Below.setCell ?_ ?_ _|refine Below.drew ?_|exact bzR _ _|exact nzR _|exact Below.size (by assumption)|refine Nat.le_succ_of_le ?_)))) _ 1 1 [.int .i64 a,.int .i64 b,.int .i64 c,.int .i64 d,.int .i64 e] rfl rfl (World.news_of_block (cs:=#[.int .i64 a,.int .i64 b,.int .i64 c,.int .i64 d,.int .i64 e]) (heap_alloc_new _ _)) (by simp[Value.oneCell']) (by unfold maxLen;omega) (by omega) (Nat.le_trans hszV (Below.size (w:=w5) (B:=w5.heap.size) (by(with_reducible repeat' (first|assumption|refine bal ?_ _|refine Below.setCell ?_ ?_ _|refine Below.drew ?_|exact bzR _ _|exact nzR _|exact Below.size (by assumption)|refine Nat.le_succ_of_le ?_))))) ?_;intro v' w' hO' hgr hat;have hS1:=SG.out _ _ (by(with_reducible repeat' (first|assumption|refine bal ?_ _|refine Below.setCell ?_ ?_ _|refine Below.drew ?_|exact bzR _ _|exact nzR _|exact Below.size (by assumption)|refine Nat.le_succ_of_le ?_))) hgr;obtain⟨q',c',rfl⟩:=OwnM.form hO';have hPX:=HDW.out _ _ _ _ (by(with_reducible repeat' (first|assumption|refine bal ?_ _|refine Below.setCell ?_ ?_ _|refine Below.drew ?_|exact bzR _ _|exact nzR _|exact Below.size (by assumption)|refine Nat.le_succ_of_le ?_))) hgr hO' hat;have hS9:=hS1;obtain⟨hS2,hS3,hS4,-⟩:=hS1)
    all_goals
     go_wp2_with fail
     exact hPX
theorem add_ok(s:Int)(vq:Option Addr)(vm vc:Nat)(ls:List L)(p:Int)(a b c d e:Int)(w V0:World)(hV0:V0=w.alloc (.cells #[.int .i64 a,.int .i64 b,.int .i64 c,.int .i64 d,.int .i64 e] 54))(h:LS w (.slice vq vm vc) ls)(h0:schk s ls=0) :
  Calls Tryz.prog 121 #[.int .i64 s,.slice vq vm vc,.int .i64 p,.agg #[.int .i64 a,.int .i64 b,.int .i64 c,.int .i64 d,.int .i64 e]] w fun x w'=>AddPost s ls p ⟨a,b,c,d,e⟩ w x w':=by
 have hB0:Below w.heap.size w V0:=by rw[hV0];exact(bzR _ _).alloc (nzR _) _
 have hR0:V0.heap[w.heap.size]?=some (.cells #[.int .i64 a,.int .i64 b,.int .i64 c,.int .i64 d,.int .i64 e] 54 (0,0)):=by rw[hV0];exact heap_alloc_new w _
 have hcon:=zAY s _ ls V0 (h.below hB0)
 have HB0:Hid (Below w.heap.size w V0):=hB0
 have HLS:Hid (∀W,Below w.heap.size w W→LS W (.slice vq vm vc) ls):=fun W hW=>h.below hW
 have x0:V0.cell? ⟨w.heap.size,0,none⟩=some (.int .i64 a):=by simp[World.cell?,hR0]
 have x1:V0.cell? ⟨w.heap.size,1,none⟩=some (.int .i64 b):=by simp[World.cell?,hR0]
 have x2:V0.cell? ⟨w.heap.size,2,none⟩=some (.int .i64 c):=by simp[World.cell?,hR0]
 have x3:V0.cell? ⟨w.heap.size,3,none⟩=some (.int .i64 d):=by simp[World.cell?,hR0]
 have x4:V0.cell? ⟨w.heap.size,4,none⟩=some (.int .i64 e):=by simp[World.cell?,hR0]
 have HPL:Hid (∀x w',PlacesPost s ls V0 x w'→Below V0.heap.size V0 w'∧∃B,x=.returned (.tuple #[.map (some B),.nilIface])∧Own w' B (flatP 0 ls)):=fun x w' hp=>by
  obtain⟨h1,⟨h2,_⟩|⟨_,B,_,h3,h4⟩⟩:=hp
  ·exact absurd h0 h2
  ·exact⟨h1,B,h3,h4⟩
 have HPR:=fun W hW=>zAx V0 p W hW
 clear hB0 hR0 h
 cases hp:priceB p
 ·rw[hp] at HPR
  simp only[show errB false=.iface 91 (.int .i64 1) from rfl] at HPR
  have HX:Hid (∀W,Below w.heap.size w W→AddPost s ls p ⟨a,b,c,d,e⟩ w (.returned (.tuple #[.slice none 0 0,.iface 91 (.int .i64 1)])) W):=fun W hW=>zDO (by unfold addE;rw[if_pos h0,if_neg (by simp[hp])]) (by omega) hW
  generalize AddPost s ls p ⟨a,b,c,d,e⟩ w=POST at *
  clear h0 hp x0 x1 x2 x3 x4
  go_enter Tryz.func121,Tryz.ntmps121
  go_wp2_with fail
  rw[←hV0]
  refine hcon.mono ?_
  rintro x w1 hp
  obtain⟨h1,B,rfl,hO⟩:=HPL.out _ _ hp
  have H1:Hid (Below V0.heap.size V0 w1):=h1
  clear hcon HPL hp h1 hO
  go_wp2_with fail
  refine(HPR w1 H1.out).mono ?_
  rintro x w2⟨rfl,h2⟩
  have HXX:=HX.out w2 (HB0.out.trans (h2.mono HB0.out.size))
  clear HPR h2 HX
  go_wp2_with fail
  exact HXX
 ·rw[hp] at HPR
  simp only[show errB true=.nilIface from rfl] at HPR
  have HRE:=fun W=>zBF a b c d e W
  by_cases hr:rchk ⟨a,b,c,d,e⟩=0
  ·rw[hr,errV_zero] at HRE
   have hkey:keyOf Tryz.prog 3 (.int .i64 a)=some (.int .i64 a):=keyOf_int_mk Tryz.underlying3 (wf_id (r:=⟨a,b,c,d,e⟩) hr)
   exact add_in s vq vm vc ls p a b c d e w V0 hV0 HLS h0 hp hr hkey
  ·rw[errV_of hr] at HRE
   have HX:Hid (∀W,Below w.heap.size w W→AddPost s ls p ⟨a,b,c,d,e⟩ w (.returned (.tuple #[.slice none 0 0,.iface 91 (.int .i64 (rchk ⟨a,b,c,d,e⟩))])) W):=fun W hW=>zDO (by unfold addE;rw[if_pos h0,if_pos hp,if_neg hr]) hr hW
   generalize AddPost s ls p ⟨a,b,c,d,e⟩ w=POST at *
   generalize rchk ⟨a,b,c,d,e⟩=k at *
   clear h0 hp hr
   go_enter Tryz.func121,Tryz.ntmps121
   go_wp2_with fail
   rw[←hV0]
   refine hcon.mono ?_
   rintro x w1 hp
   obtain⟨h1,B,rfl,hO⟩:=HPL.out _ _ hp
   have H1:Hid (Below V0.heap.size V0 w1):=h1
   clear hcon HPL hp h1 hO
   go_wp2_with fail
   refine(HPR w1 H1.out).mono ?_
   rintro x w2⟨rfl,h2⟩
   have H2:Hid (Below V0.heap.size V0 w2):=h2
   have y0:=keeps h2 x0
   have y1:=keeps h2 x1
   have y2:=keeps h2 x2
   have y3:=keeps h2 x3
   have y4:=keeps h2 x4
   clear HPR h2 x0 x1 x2 x3 x4
   go_wp2_with fail
   refine(HRE w2).mono ?_
   rintro x w3⟨rfl,h3⟩
   have HXX:=HX.out w3 (HB0.out.trans ((H2.out.trans (h3.mono H2.out.size)).mono HB0.out.size))
   clear HRE h3 HX y0 y1 y2 y3 y4
   go_wp2_with fail
   exact HXX
theorem zCc(s:Int)(v:Value)(ls:List L)(p:Int)(a b c d e:Int)(w:World)(h:LS w v ls) :
  Calls Tryz.prog 121 #[.int .i64 s,v,.int .i64 p,.agg #[.int .i64 a,.int .i64 b,.int .i64 c,.int .i64 d,.int .i64 e]] w fun x w'=>AddPost s ls p ⟨a,b,c,d,e⟩ w x w':=by
 obtain⟨V0,hV0⟩:∃V0,V0=w.alloc (.cells #[.int .i64 a,.int .i64 b,.int .i64 c,.int .i64 d,.int .i64 e] 54):=⟨_,rfl⟩
 have hB0:Below w.heap.size w V0:=by rw[hV0];exact(bzR _ _).alloc (nzR _) _
 obtain⟨vq,vm,vc,rfl⟩:=zDD h
 have hcon:=zAY s _ ls V0 (h.below hB0)
 have HB0:Hid (Below w.heap.size w V0):=hB0
 by_cases h0:schk s ls=0
 ·exact add_ok s vq vm vc ls p a b c d e w V0 hV0 h h0
 ·have HPL:Hid (∀x w',PlacesPost s ls V0 x w'→Below V0.heap.size V0 w'∧x=.returned (.tuple #[.map none,.iface 91 (.int .i64 (schk s ls))])):=fun x w' hp=>by
   obtain⟨h1,⟨_,h3⟩|⟨h2,_⟩⟩:=hp
   ·rw[errV_of h0] at h3;exact⟨h1,h3⟩
   ·exact absurd h2 h0
  have HX:Hid (∀W,Below w.heap.size w W→AddPost s ls p ⟨a,b,c,d,e⟩ w (.returned (.tuple #[.slice none 0 0,.iface 91 (.int .i64 (schk s ls))])) W):=fun W hW=>zDO (by unfold addE;rw[if_neg h0]) h0 hW
  generalize AddPost s ls p ⟨a,b,c,d,e⟩ w=POST at *
  generalize schk s ls=k at HPL HX
  clear h0 h hB0
  go_enter Tryz.func121,Tryz.ntmps121
  go_wp2_with fail
  rw[←hV0]
  refine hcon.mono ?_
  rintro x w1 hp
  obtain⟨h1,rfl⟩:=HPL.out _ _ hp
  have HXX:=HX.out w1 (HB0.out.trans (h1.mono HB0.out.size))
  clear hcon HPL hp h1 HX
  go_wp2_with fail
  exact HXX
end sid
namespace rlv
open Go.RowKit spn que sid
theorem zeroVR(w:World):(zeroValue 52).run Tryz.prog w=.ok zeroR w:=by kernel_rfl
theorem delete_own(w:World)(base g off n c i j:Nat)(xs:List Value)(ho:OwnM w base 52 2 (.slice (some ⟨g,off,none⟩) n c) n xs)(hij:i<j)(hj:j≤n)(h1x:∀u∈xs,u.oneCell'=true) :
  Calls Tryz.prog 149 #[.slice (some ⟨g,off,none⟩) n c,.int .i64 i,.int .i64 j] w fun e w'=>e=.returned (.slice (some ⟨g,off,none⟩) (i+(n - j)) c)∧OwnM w' base 52 2 (.slice (some ⟨g,off,none⟩) (i+(n - j)) c) (i+(n - j)) (xs.take (i*2)++xs.drop (j*2))∧w.grownBy w' (some g):=by
 obtain⟨hxl,hbg,⟨cur,hcur,hcs⟩,hnc,hcm,hrg,hth⟩:=own_range ho
 have hc63:c≤9223372036854775807:=by simpa [maxLen] using hcm
 obtain⟨i0,hi0,hz0,hz1,hz2⟩:=rlv.infoR'
 have hdl:(xs.drop (j*2)).length=(n - j)*2:=by rw[List.length_drop,hxl];omega
 have htl:(xs.take (i*2)).length=i*2:=by rw[List.length_take,hxl];omega
 have hx1:xs=xs.take (i*2)++xs.drop (i*2):=(List.take_append_drop _ _).symm
 have hx2:xs=xs.take (j*2)++xs.drop (j*2):=(List.take_append_drop _ _).symm
 have hr1:w.rangeAt g off (xs.take (i*2)):=by rw[hx1] at hrg;exact range_left hrg
 have hr2:w.rangeAt g (off+j*2) (xs.drop (j*2)):=by
  rw[hx2] at hrg;have:=range_right hrg;rwa [List.length_take,hxl,Nat.min_eq_left (by omega)] at this
 have hthX:∀o k,o+k≤c*2→w.there g (off+o) k:=fun o k hk q hq=>by rw[Nat.add_assoc];exact hth (o+q) (by omega)
 obtain⟨news,hnews⟩:∃news,news=xs.drop (j*2):=⟨_,rfl⟩
 obtain⟨A,hA,hsrc⟩:∃A:Addr,(if c=j then some (⟨g,off,none⟩:Addr) else some ⟨g,off+j*2,none⟩)=some A∧Hid (∀t u,news[t]?=some u→w.drew.cell? (A.add t)=some u):=by
  by_cases h:c=j
  ·refine⟨⟨g,off,none⟩,by simp[h],fun t u hu=>?_⟩
   have h0:news.length=0:=by rw[hnews,hdl];omega
   rw[List.length_eq_zero_iff.1 h0] at hu
   simp at hu
  ·refine⟨⟨g,off+j*2,none⟩,by simp[h],fun t u hu=>?_⟩
   rw[Addr.add_lit]
   rw[hnews] at hu
   exact hr2 t u hu
 have s1:Hid (news.length=(n - j)*2):=by show _=_;rw[hnews,hdl]
 have s2:Hid (∀u∈news,u.oneCell'=true):=fun u hu=>h1x u (List.mem_of_mem_drop (by rw[hnews] at hu;exact hu))
 have s3:Hid (∀t,t<news.length→(w.drew.cell? ⟨g,off+i*2+t,none⟩).isSome=true∧w.drew.frozen? ⟨g,off+i*2+t,none⟩=false):=fun t ht=>by
  have ht2:t<(n - j)*2:=by rw[hnews,hdl] at ht;exact ht
  exact hthX (i*2) ((n - j)*2) (by omega) t ht2
 obtain⟨W1,hW1⟩:∃W1,W1=w.drew.setCells g (off+i*2) news:=⟨_,rfl⟩
 have hth1:∀o k,o+k≤c*2→W1.there g (off+o) k:=fun o k hk=>by rw[hW1];exact World.there_setCells ((World.there_drew _ _ _ _).2 (hthX o k hk)) _ _ _
 have hcl:∀ty,(Builtin.clear_ #[44] ty #[.slice (some ⟨g,off+(i+(n - j))*2,none⟩) (n - (i+(n - j))) (c - (i+(n - j)))]).run Tryz.prog W1=.ok (.tuple #[]) (W1.setCells g (off+(i+(n - j))*2) (Builtin.zeroCells zeroR.cells (n - (i+(n - j)))).toList):=
  fun ty=>run_clear_wide W1 _ _ ty zeroR 2 Tryz.underlying44 zeroVR rfl (by simp[zeroR,Value.cells,Value.oneCell']) g _ _ _ (by omega) (hth1 _ _ (by omega))
 have HPOST:Hid (OwnM (W1.setCells g (off+(i+(n - j))*2) (Builtin.zeroCells zeroR.cells (n - (i+(n - j)))).toList) base 52 2 (.slice (some ⟨g,off,none⟩) (i+(n - j)) c) (i+(n - j)) (xs.take (i*2)++xs.drop (j*2))∧w.grownBy (W1.setCells g (off+(i+(n - j))*2) (Builtin.zeroCells zeroR.cells (n - (i+(n - j)))).toList) (some g)):=by
  obtain⟨cur1,hb1,hs1⟩:=setCells_blk g 52 (0,0) news (off+i*2) w.drew cur hcur
  rw[←hW1] at hb1
  obtain⟨cur2,hb2,hs2⟩:=setCells_blk g 52 (0,0) (Builtin.zeroCells zeroR.cells (n - (i+(n - j)))).toList (off+(i+(n - j))*2) W1 cur1 hb1
  refine⟨own_of ?_ hbg hb2 (by rw[hs2,hs1];exact hcs) (by omega) hcm ?_,?_⟩
  ·rw[List.length_append,htl,hdl];omega
  ·refine range_append ?_ ?_
   ·refine World.rangeAt_setCells_apart ?_ _ _ _ (.inr (.inl (by rw[htl];omega)))
    rw[hW1]
    exact World.rangeAt_setCells_apart ((World.rangeAt_drew _ _ _ _).2 hr1) _ _ _ (.inr (.inl (by rw[htl];omega)))
   ·rw[htl]
    refine World.rangeAt_setCells_apart ?_ _ _ _ (.inr (.inl (by rw[hdl];omega)))
    rw[hW1,hnews]
    exact World.rangeAt_setCells_same _ _ _ _ ((World.there_drew _ _ _ _).2 (hthX _ _ (by rw[hdl];omega)))
  ·rw[hW1]
   exact gr_trans (gr_trans (gr_drew _ _) (gr_setCells g _ _ _)) (gr_setCells g _ _ _)
 have hW:Hid (W1=w.drew.setCells g (off+i*2) news):=hW1
 obtain⟨W2,hW2⟩:∃W2,W2=W1.setCells g (off+(i+(n - j))*2) (Builtin.zeroCells zeroR.cells (n - (i+(n - j)))).toList:=⟨_,rfl⟩
 rw[←hW2] at HPOST
 simp only[←hW2] at hcl
 clear hW2
 have hic:i≤c:=by omega
 have hjc:j≤c:=by omega
 have hne:¬((i:Int)=(j:Int)):=by omega
 have hne2:¬(i=j):=by omega
 clear hW1 ho hxl hcur hcs hrg hth hdl htl hx1 hx2 hr1 hr2 hthX hth1 hnews h1x hcm hbg hz0 hz2
 go_enter Tryz.func149,Tryz.ntmps149
 go_wp2_with fail
 go_region_law (refine step_append_room rfl (.tmp 22) (.tmp 25) 44 rfl 52 i0 2 Tryz.underlying44 hi0 hz1 g off i c (by simp[Act.eval,Act.put]) A (n - j) (c - j) news (by simp[Act.eval,Act.put]) s1.out hsrc.out s2.out (by omega) s3.out ?_;rw[←hW.out])
 go_wp2
 go_ret
 exact⟨rfl,HPOST.out⟩
end rlv
namespace que
open Go.RowKit spn que sid
theorem zeroVR(w:World):(zeroValue 54).run Tryz.prog w=.ok zeroR w:=by kernel_rfl
theorem delete_own(w:World)(base g off n c i j:Nat)(xs:List Value)(ho:OwnM w base 54 5 (.slice (some ⟨g,off,none⟩) n c) n xs)(hij:i<j)(hj:j≤n)(h1x:∀u∈xs,u.oneCell'=true) :
  Calls Tryz.prog 150 #[.slice (some ⟨g,off,none⟩) n c,.int .i64 i,.int .i64 j] w fun e w'=>e=.returned (.slice (some ⟨g,off,none⟩) (i+(n - j)) c)∧OwnM w' base 54 5 (.slice (some ⟨g,off,none⟩) (i+(n - j)) c) (i+(n - j)) (xs.take (i*5)++xs.drop (j*5))∧w.grownBy w' (some g):=by
 obtain⟨hxl,hbg,⟨cur,hcur,hcs⟩,hnc,hcm,hrg,hth⟩:=own_range ho
 have hc63:c≤9223372036854775807:=by simpa [maxLen] using hcm
 obtain⟨i0,hi0,hz0,hz1,hz2⟩:=que.infoR'
 have hdl:(xs.drop (j*5)).length=(n - j)*5:=by rw[List.length_drop,hxl];omega
 have htl:(xs.take (i*5)).length=i*5:=by rw[List.length_take,hxl];omega
 have hx1:xs=xs.take (i*5)++xs.drop (i*5):=(List.take_append_drop _ _).symm
 have hx2:xs=xs.take (j*5)++xs.drop (j*5):=(List.take_append_drop _ _).symm
 have hr1:w.rangeAt g off (xs.take (i*5)):=by rw[hx1] at hrg;exact range_left hrg
 have hr2:w.rangeAt g (off+j*5) (xs.drop (j*5)):=by
  rw[hx2] at hrg;have:=range_right hrg;rwa [List.length_take,hxl,Nat.min_eq_left (by omega)] at this
 have hthX:∀o k,o+k≤c*5→w.there g (off+o) k:=fun o k hk q hq=>by rw[Nat.add_assoc];exact hth (o+q) (by omega)
 obtain⟨news,hnews⟩:∃news,news=xs.drop (j*5):=⟨_,rfl⟩
 obtain⟨A,hA,hsrc⟩:∃A:Addr,(if c=j then some (⟨g,off,none⟩:Addr) else some ⟨g,off+j*5,none⟩)=some A∧Hid (∀t u,news[t]?=some u→w.drew.cell? (A.add t)=some u):=by
  by_cases h:c=j
  ·refine⟨⟨g,off,none⟩,by simp[h],fun t u hu=>?_⟩
   have h0:news.length=0:=by rw[hnews,hdl];omega
   rw[List.length_eq_zero_iff.1 h0] at hu
   simp at hu
  ·refine⟨⟨g,off+j*5,none⟩,by simp[h],fun t u hu=>?_⟩
   rw[Addr.add_lit]
   rw[hnews] at hu
   exact hr2 t u hu
 have s1:Hid (news.length=(n - j)*5):=by show _=_;rw[hnews,hdl]
 have s2:Hid (∀u∈news,u.oneCell'=true):=fun u hu=>h1x u (List.mem_of_mem_drop (by rw[hnews] at hu;exact hu))
 have s3:Hid (∀t,t<news.length→(w.drew.cell? ⟨g,off+i*5+t,none⟩).isSome=true∧w.drew.frozen? ⟨g,off+i*5+t,none⟩=false):=fun t ht=>by
  have ht2:t<(n - j)*5:=by rw[hnews,hdl] at ht;exact ht
  exact hthX (i*5) ((n - j)*5) (by omega) t ht2
 obtain⟨W1,hW1⟩:∃W1,W1=w.drew.setCells g (off+i*5) news:=⟨_,rfl⟩
 have hth1:∀o k,o+k≤c*5→W1.there g (off+o) k:=fun o k hk=>by rw[hW1];exact World.there_setCells ((World.there_drew _ _ _ _).2 (hthX o k hk)) _ _ _
 have hcl:∀ty,(Builtin.clear_ #[50] ty #[.slice (some ⟨g,off+(i+(n - j))*5,none⟩) (n - (i+(n - j))) (c - (i+(n - j)))]).run Tryz.prog W1=.ok (.tuple #[]) (W1.setCells g (off+(i+(n - j))*5) (Builtin.zeroCells zeroR.cells (n - (i+(n - j)))).toList):=
  fun ty=>run_clear_wide W1 _ _ ty zeroR 5 Tryz.underlying50 zeroVR rfl (by simp[zeroR,Value.cells,Value.oneCell']) g _ _ _ (by omega) (hth1 _ _ (by omega))
 have HPOST:Hid (OwnM (W1.setCells g (off+(i+(n - j))*5) (Builtin.zeroCells zeroR.cells (n - (i+(n - j)))).toList) base 54 5 (.slice (some ⟨g,off,none⟩) (i+(n - j)) c) (i+(n - j)) (xs.take (i*5)++xs.drop (j*5))∧w.grownBy (W1.setCells g (off+(i+(n - j))*5) (Builtin.zeroCells zeroR.cells (n - (i+(n - j)))).toList) (some g)):=by
  obtain⟨cur1,hb1,hs1⟩:=setCells_blk g 54 (0,0) news (off+i*5) w.drew cur hcur
  rw[←hW1] at hb1
  obtain⟨cur2,hb2,hs2⟩:=setCells_blk g 54 (0,0) (Builtin.zeroCells zeroR.cells (n - (i+(n - j)))).toList (off+(i+(n - j))*5) W1 cur1 hb1
  refine⟨own_of ?_ hbg hb2 (by rw[hs2,hs1];exact hcs) (by omega) hcm ?_,?_⟩
  ·rw[List.length_append,htl,hdl];omega
  ·refine range_append ?_ ?_
   ·refine World.rangeAt_setCells_apart ?_ _ _ _ (.inr (.inl (by rw[htl];omega)))
    rw[hW1]
    exact World.rangeAt_setCells_apart ((World.rangeAt_drew _ _ _ _).2 hr1) _ _ _ (.inr (.inl (by rw[htl];omega)))
   ·rw[htl]
    refine World.rangeAt_setCells_apart ?_ _ _ _ (.inr (.inl (by rw[hdl];omega)))
    rw[hW1,hnews]
    exact World.rangeAt_setCells_same _ _ _ _ ((World.there_drew _ _ _ _).2 (hthX _ _ (by rw[hdl];omega)))
  ·rw[hW1]
   exact gr_trans (gr_trans (gr_drew _ _) (gr_setCells g _ _ _)) (gr_setCells g _ _ _)
 have hW:Hid (W1=w.drew.setCells g (off+i*5) news):=hW1
 obtain⟨W2,hW2⟩:∃W2,W2=W1.setCells g (off+(i+(n - j))*5) (Builtin.zeroCells zeroR.cells (n - (i+(n - j)))).toList:=⟨_,rfl⟩
 rw[←hW2] at HPOST
 simp only[←hW2] at hcl
 clear hW2
 have hic:i≤c:=by omega
 have hjc:j≤c:=by omega
 have hne:¬((i:Int)=(j:Int)):=by omega
 have hne2:¬(i=j):=by omega
 clear hW1 ho hxl hcur hcs hrg hth hdl htl hx1 hx2 hr1 hr2 hthX hth1 hnews h1x hcm hbg hz0 hz2
 go_enter Tryz.func150,Tryz.ntmps150
 go_wp2_with fail
 go_region_law (refine step_append_room rfl (.tmp 22) (.tmp 25) 50 rfl 54 i0 5 Tryz.underlying50 hi0 hz1 g off i c (by simp[Act.eval,Act.put]) A (n - j) (c - j) news (by simp[Act.eval,Act.put]) s1.out hsrc.out s2.out (by omega) s3.out ?_;rw[←hW.out])
 go_wp2
 go_ret
 exact⟨rfl,HPOST.out⟩
end que
namespace sid
open Go.RowKit spn que Go.Maps
theorem zHF(zs:List R)(i:Nat):flat (zs.take i)=(flat zs).take (i*5):=by
 induction zs generalizing i with
 | nil=>simp[flat]
 | cons r t ih=>
  cases i with
  | zero=>simp[flat]
  | succ i=>rw[List.take_succ_cons,flat_cons,flat_cons,ih,show (i+1)*5=(rV r).length+i*5 by show _=5+i*5;omega,List.take_length_add_append]
theorem zHG(zs:List R)(i:Nat):flat (zs.drop i)=(flat zs).drop (i*5):=by
 induction zs generalizing i with
 | nil=>simp[flat]
 | cons r t ih=>
  cases i with
  | zero=>simp
  | succ i=>rw[List.drop_succ_cons,flat_cons,ih,show (i+1)*5=(rV r).length+i*5 by show _=5+i*5;omega,List.drop_length_add_append]
theorem DeepT.delete{w w' : World}{base:Nat}{v v' : Value}{a:List RP}{x:RP}{b:List RP}(h:Deep w base v (a++x::b))(ho:rlv.OwnQ w' base v' ((a++b).map (·.1)))(hg:w.grownBy w' v.ownBlock)(hv:v'.ownBlock=v.ownBlock):Deep w' base v' (a++b):=by
 have hm:∀y∈a++b,y∈a++x::b:=fun y hy=>by
  rcases List.mem_append.1 hy with hy|hy <;>simp[hy]
 refine⟨by rw[List.append_nil];exact ho,fun y hy=>zAe (h.each y (hm y hy)) hg (fun z hz=>h.far y (hm y hy) z hz),?_,fun y hy z hz=>by rw[hv];exact h.far y (hm y hy) z hz⟩
 obtain⟨p1,p2,p3⟩:=List.pairwise_append.1 h.apart
 exact List.pairwise_append.2 ⟨p1,(List.pairwise_cons.1 p2).2,fun y hy z hz=>p3 y hy z (by simp[hz])⟩
def dropE(s:Int)(ls:List L)(id:Int):List L:=if findE s ls id=0 then dropL ls (findP s ls id).1.toNat (findP s ls id).2.toNat else []
def dropRest(s:Int)(ls:List L)(id:Int):R:=if findE s ls id=0 then ls[(findP s ls id).1.toNat]!.rests[(findP s ls id).2.toNat]! else ⟨0,0,0,0,0⟩
def dropPrice(s:Int)(ls:List L)(id:Int):Int:=if findE s ls id=0 then ls[(findP s ls id).1.toNat]!.price else 0
def DropPost(s:Int)(ls:List L)(id:Int)(w:World)(x:Ending)(w' : World):Prop:=
 Below w.heap.size w w'∧∃v',x=.returned (.tuple #[v',.agg (rV (dropRest s ls id)).toArray,.int .i64 (dropPrice s ls id),errV (findE s ls id)])∧DL w' w.heap.size v' (dropE s ls id)
theorem zMt(s:Int)(vq:Option Addr)(vm vc:Nat)(ls:List L)(id:Int)(w:World)(h:LS w (.slice vq vm vc) ls)(hid:(Lit.int .i64 id).wf=true)(h0:¬findE s ls id=0) :
  Calls Tryz.prog 130 #[.int .i64 s,.slice vq vm vc,.int .i64 id] w fun x w'=>DropPost s ls id w x w':=by
 have HC:=fun W(hW:Below w.heap.size w W)=>find_any s _ ls id W (h.below hW) hid
 have hf:findV s ls id=.tuple #[.int .i64 0,.int .i64 0,.iface 91 (.int .i64 (findE s ls id))]:=by
  unfold findV findP;rw[if_neg h0,errV_of h0]
 rw[hf] at HC
 have HP:Hid (∀W,Below w.heap.size w W→DropPost s ls id w (.returned (.tuple #[.slice none 0 0,.agg #[.int .i64 0,.int .i64 0,.int .i64 0,.int .i64 0,.int .i64 0],.int .i64 0,.iface 91 (.int .i64 (findE s ls id))])) W):=fun W hW=>by
  refine⟨hW,.slice none 0 0,?_,?_⟩
  ·unfold dropRest dropPrice;rw[if_neg h0,if_neg h0,errV_of h0];rfl
  ·unfold dropE;rw[if_neg h0];exact zDh _ _
 generalize DropPost s ls id w=POST at *
 generalize findE s ls id=k at *
 clear h hid h0 hf
 go_enter Tryz.func130,Tryz.ntmps130
 go_wp2_with fail
 refine(HC _ ((bzR _ _).alloc (nzR _) _)).mono ?_
 rintro x w1⟨rfl,hb1⟩
 have hB:Below w.heap.size w w1:=((bzR _ _).alloc (nzR _) _).trans (hb1.mono (by simp))
 have hR1:w1.heap[w.heap.size]?=some (.cells #[.int .i64 0,.int .i64 0,.int .i64 0,.int .i64 0,.int .i64 0] 54 (0,0)):=by
  rw[hb1.block w.heap.size (by simp)]
  exact heap_alloc_new w _
 clear hb1 HC
 obtain⟨c0,c1,c2,c3,c4,hf⟩:=rowFive hR1
 have f0:=hf 0
 have f1:=hf 1
 have f2:=hf 2
 have f3:=hf 3
 have f4:=hf 4
 clear hf
 have HX:=setFive hR1 (.int .i64 0) (.int .i64 0) (.int .i64 0) (.int .i64 0) (.int .i64 0)
 have HBX:Below w.heap.size w (((((w1.setCell ⟨w.heap.size,0,none⟩ (.int .i64 0)).setCell ⟨w.heap.size,1,none⟩ (.int .i64 0)).setCell ⟨w.heap.size,2,none⟩ (.int .i64 0)).setCell ⟨w.heap.size,3,none⟩ (.int .i64 0)).setCell ⟨w.heap.size,4,none⟩ (.int .i64 0)):=((((hB.setCell (nzR _) _).setCell (nzR _) _).setCell (nzR _) _).setCell (nzR _) _).setCell (nzR _) _
 go_wp2_with fail
 generalize (((((w1.setCell ⟨w.heap.size,0,none⟩ (.int .i64 0)).setCell ⟨w.heap.size,1,none⟩ (.int .i64 0)).setCell ⟨w.heap.size,2,none⟩ (.int .i64 0)).setCell ⟨w.heap.size,3,none⟩ (.int .i64 0)).setCell ⟨w.heap.size,4,none⟩ (.int .i64 0))=V at *
 obtain⟨d0,d1,d2,d3,d4,-⟩:=rowFive HX
 clear HX
 exact bodyPost_ret (v:=.tuple #[.slice none 0 0,.agg #[.int .i64 0,.int .i64 0,.int .i64 0,.int .i64 0,.int .i64 0],.int .i64 0,.iface 91 (.int .i64 k)]) (by simp[results,Tryz.results130,go_sem,d0,d1,d2,d3,d4]) rfl (HP.out V HBX)
end sid
end Go.Proofs.YtifjhlgjgnnnpaaGreat
