import Derived.Test.YtifjhlgjgnnnpaaGreatSidIns2
import Derived.Test.YtifjhlgjgnnnpaaGreatSidPut
import Derived.Test.YtifjhlgjgnnnpaaGreatQueFil
set_option maxHeartbeats 4000000
set_option maxRecDepth 100000
namespace Go.Proofs.YtifjhlgjgnnnpaaGreat
namespace sid
open Go.RowKit spn que
theorem zHj(w:World)(base g off n c i vb m vc:Nat)(xs vs:List Value)(ho:OwnM w base 52 2 (.slice (some ⟨g,off,none⟩) n c) n xs)(hi:i<n)(hm:0<m)(hml:m≤1000)(hnl:n≤10000)(hroom:c<n+m)(hbase:base≤w.heap.size)
  (hvl:vs.length=m*2) (hvs:w.rangeAt vb 0 vs) (hvw:vb<w.heap.size) (h1x:∀u∈xs,u.oneCell'=true) (h1:∀u∈vs,u.oneCell'=true) :
  Calls Tryz.prog 157 #[.slice (some ⟨g,off,none⟩) n c,.int .i64 i,.slice (some ⟨vb,0,none⟩) m vc] w fun e w'=>InsPost w base (.slice (some ⟨g,off,none⟩) n c) (n+m) (xs.take (i*2)++vs++xs.drop (i*2)) e w':=by
 obtain⟨hxl,hbg,⟨cur,hcur,hcs⟩,hnc,hcm,hrg,hth⟩:=own_range ho
 have hgw:g<w.heap.size:=(gzE.1 hcur).1
 have hdl:(xs.drop (i*2)).length=(n - i)*2:=by rw[jQ,hxl];omega
 have htl:(xs.take (i*2)).length=i*2:=by rw[jJ,hxl];omega
 have hx:xs=xs.take (i*2)++xs.drop (i*2):=(jR _ _).symm
 have hr1:w.rangeAt g off (xs.take (i*2)):=by rw[hx] at hrg;exact range_left hrg
 have hr2:w.rangeAt g (off+i*2) (xs.drop (i*2)):=by rw[hx] at hrg;have:=range_right hrg;rwa [htl] at this
 obtain⟨i0,hi0,hz0,hzs,hzb⟩:=rlv.infoR'
 have hkk:(n:Int)+(m:Int) - (i:Int)=((n+m - i:Nat):Int):=by omega
 have hik:i+(n+m - i)=n+m:=by omega
 have hold:(Builtin.firstCells i0.size i (.slice (some ⟨g,off,none⟩) i c)).run Tryz.prog w.drew=.ok (xs.take (i*2)).toArray w.drew:=by
  rw[hzs]
  exact run_firstCells_some w.drew 2 i ⟨g,off,none⟩ i c (xs.take (i*2)) htl (fun j v hj=>by rw[Addr.add_lit];exact hr1 j v hj)
 have hrz:∀ty,(Builtin.append_ #[44,3] ty #[.slice (some ⟨g,off,none⟩) i c,.int .i64 ((n:Int)+(m:Int) - (i:Int))]).run Tryz.prog w =
   .ok (.slice (some ⟨w.heap.size,0,none⟩) (n+m) (grownCap w (n+m) c 52)) (w.drew.alloc (.cells ((xs.take (i*2)).toArray++Builtin.zeroCells rlv.zeroR.cells (n+m - i)++Builtin.zeroCells rlv.zeroR.cells (grownCap w (n+m) c 52 - (n+m))) 52)):=fun ty=>by
  have h:=Lib.run_append_grow_zeros w 44 3 ty 52 i0 _ .i64 .i64 Tryz.underlying44 Tryz.underlying3 hi0 hz0 (some ⟨g,off,none⟩) i c (xs.take (i*2)) hold (n+m - i) (by omega) (by omega) (by omega) (by omega) (by rw[hzb];omega) (by rw[hzb,hik];exact growslice_fits hroom (by omega))
  rw[hik] at h
  rw[hkk]
  exact h
 obtain⟨G,hG⟩:∃G,G=grownCap w (n+m) c 52:=⟨_,rfl⟩
 obtain⟨ROW,hROW⟩:∃ROW:Array Value,ROW=(xs.take (i*2)).toArray++Builtin.zeroCells rlv.zeroR.cells (n+m - i)++Builtin.zeroCells rlv.zeroR.cells (G - (n+m)):=⟨_,rfl⟩
 rw[←hG] at hrz
 rw[←hROW] at hrz
 have hGn:n+m≤G:=by rw[hG];exact grownCap_ge w _ _ _
 have hGm:G≤maxLen:=by rw[hG];exact grownCap_le_maxLen w (n+m) c 52 (by unfold maxLen;omega)
 have hG63:G≤9223372036854775807:=by simpa [maxLen] using hGm
 have hRl:ROW.size=G*2:=by
  rw[hROW,Array.size_append,Array.size_append,size_zeroCells,size_zeroCells]
  rw[List.size_toArray,htl]
  show i*2+(n+m - i)*2+(G - (n+m))*2=_
  omega
 obtain⟨W1,hW1⟩:∃W1,W1=w.drew.alloc (.cells ROW 52):=⟨_,rfl⟩
 rw[←hW1] at hrz
 have hblk1:W1.heap[w.heap.size]?=some (.cells ROW 52 (0,0)):=by rw[hW1];exact jA w.drew _
 have hth1:∀o k,o+k≤G*2→W1.there w.heap.size o k:=fun o k hk j hj=>⟨by rw[jZ W1 w.heap.size (o+j) ROW _ (0,0) hblk1,Array.getElem?_eq_getElem (by omega)];rfl,by simp[World.frozen?,hblk1]⟩
 have hra:W1.rangeAt w.heap.size 0 (xs.take (i*2)):=fun j v hv=>by
  rw[jZ W1 w.heap.size (0+j) ROW _ (0,0) hblk1,Nat.zero_add,hROW,Array.append_assoc,Array.getElem?_append_left (by simpa using (List.getElem?_eq_some_iff.1 hv).1)]
  simpa using hv
 have hbel:Below w.heap.size w W1:=by rw[hW1];exact(bzR _ _).drew.alloc (nzR _) _
 have hvs1:W1.rangeAt vb 0 vs:=fun j v hv=>(hbel.cell (p:=⟨vb,0+j,none⟩) hvw).trans (hvs j v hv)
 have hr21:W1.rangeAt g (off+i*2) (xs.drop (i*2)):=fun j v hv=>(hbel.cell (p:=⟨g,off+i*2+j,none⟩) hgw).trans (hr2 j v hv)
 have hcpA:∀ (W:World),(∀x,W.cell? x=W1.cell? x)→(∀x,W.frozen? x=W1.frozen? x)→∀ty dc,(Builtin.copy_ #[44,44] ty #[.slice (some ⟨w.heap.size,i*2,none⟩) (n+m - i) dc,.slice (some ⟨vb,0,none⟩) m vc]).run Tryz.prog W=.ok (goInt m) (W.setCells w.heap.size (i*2) vs):=fun W hWc hWf ty dc=>by
  have:=zBz (P:=Tryz.prog) W 44 44 ty 52 2 w.heap.size (i*2) (n+m - i) dc ⟨vb,0,none⟩ m vc vs Tryz.underlying44 zNw (by rw[hvl];congr 1;simp only[Nat.min_def];split <;>omega)
   (fun j v hj=>by rw[Addr.add_lit,hWc];exact hvs1 j v hj) (fun j hj=>by rw[hWc,hWf];exact hth1 (i*2) (m*2) (by omega) j (by omega)) h1
  rw[show Nat.min m (n+m - i)=m by simp only[Nat.min_def];split <;>omega] at this
  exact this
 have hgN:g≠w.heap.size:=by omega
 have hcpB:∀ (W:World),(∀x,W.cell? x=(W1.setCells w.heap.size (i*2) vs).cell? x)→(∀x,W.frozen? x=(W1.setCells w.heap.size (i*2) vs).frozen? x)→∀ty dc sc,(Builtin.copy_ #[44,44] ty #[.slice (some ⟨w.heap.size,(i+m)*2,none⟩) (n+m - (i+m)) dc,.slice (some ⟨g,off+i*2,none⟩) (n - i) sc]).run Tryz.prog W=.ok (goInt ((n - i:Nat):Int)) (W.setCells w.heap.size ((i+m)*2) (xs.drop (i*2))):=fun W hWc hWf ty dc sc=>by
  have:=zBz (P:=Tryz.prog) W 44 44 ty 52 2 w.heap.size ((i+m)*2) (n+m - (i+m)) dc ⟨g,off+i*2,none⟩ (n - i) sc (xs.drop (i*2)) Tryz.underlying44 zNw (by rw[hdl];congr 1;simp only[Nat.min_def];split <;>omega)
   (fun j v hj=>by
    rw[Addr.add_lit,hWc]
    exact World.rangeAt_setCells_apart hr21 _ _ _ (.inl hgN) j v hj)
   (fun j hj=>by rw[hWc,hWf];exact World.there_setCells (hth1 ((i+m)*2) ((n - i)*2) (by omega)) _ _ _ j (by omega)) (fun v hv=>h1x v (List.mem_of_mem_drop hv))
  rw[show Nat.min (n - i) (n+m - (i+m))=n - i by simp only[Nat.min_def];split <;>omega] at this
  exact this
 have HPOST:Hid (∀W,W.heap=((W1.setCells w.heap.size (i*2) vs).setCells w.heap.size ((i+m)*2) (xs.drop (i*2))).heap→W.os=w.os→W.tape=w.tape→W.output=w.output→InsPost w base (.slice (some ⟨g,off,none⟩) n c) (n+m) (xs.take (i*2)++vs++xs.drop (i*2)) (.returned (.slice (some ⟨w.heap.size,0,none⟩) (n+m) G)) W):=by
  intro W hh ho1 ho2 ho3
  obtain⟨cur1,hb1,hs1⟩:=setCells_blk w.heap.size 52 (0,0) vs (i*2) W1 ROW hblk1
  obtain⟨cur2,hb2,hs2⟩:=setCells_blk w.heap.size 52 (0,0) (xs.drop (i*2)) ((i+m)*2) _ cur1 hb1
  have hgr:W1.grownBy ((W1.setCells w.heap.size (i*2) vs).setCells w.heap.size ((i+m)*2) (xs.drop (i*2))) (some w.heap.size):=gr_trans (gr_setCells _ _ _ _) (gr_setCells _ _ _ _)
  refine⟨_,rfl,own_of (cur:=cur2) ?_ hbase (by rw[hh];exact hb2) (by rw[hs2,hs1,hRl];omega) hGn hGm ?_,?_,.inr ⟨_,rfl,nzR _⟩⟩
  ·rw[jE,jE,htl,hvl,hdl];omega
  ·have hcell:∀x,W.cell? x=((W1.setCells w.heap.size (i*2) vs).setCells w.heap.size ((i+m)*2) (xs.drop (i*2))).cell? x:=fun x=>by simp only[World.cell?,hh]
   have hR:((W1.setCells w.heap.size (i*2) vs).setCells w.heap.size ((i+m)*2) (xs.drop (i*2))).rangeAt w.heap.size 0 (xs.take (i*2)++vs++xs.drop (i*2)):=by
    refine range_append (range_append ?_ ?_) ?_
    ·refine World.rangeAt_setCells_apart ?_ _ _ _ (.inr (.inl (by rw[htl];omega)))
     exact World.rangeAt_setCells_apart hra _ _ _ (.inr (.inl (by rw[htl];omega)))
    ·rw[htl,Nat.zero_add]
     refine World.rangeAt_setCells_apart ?_ _ _ _ (.inr (.inl (by rw[hvl];omega)))
     exact World.rangeAt_setCells_same _ _ _ _ (by rw[hvl];exact hth1 _ _ (by omega))
    ·rw[jE,htl,hvl,Nat.zero_add,show i*2+m*2=(i+m)*2 by omega]
     exact World.rangeAt_setCells_same _ _ _ _ (World.there_setCells (by rw[hdl];exact hth1 _ _ (by omega)) _ _ _)
   exact fun j v hv=>(hcell _).trans (hR j v hv)
  ·refine⟨ho1,ho2,ho3,?_,fun k hk _=>?_⟩
   ·rw[hh];exact jM hbel.size hgr.size
   ·rw[hh,hgr.block k (jC hk hbel.size) (fun e=>by simp at e;omega)]
    exact hbel.block k hk
 generalize InsPost w base (.slice (some ⟨g,off,none⟩) n c) (n+m) (xs.take (i*2)++vs++xs.drop (i*2))=POST at *
 have hz1:¬((m:Int)=0):=by omega
 have hz4:¬(m=0):=by omega
 have hz2:¬((i:Int)=(n:Int)):=by omega
 have hz3:(c:Int)<(n:Int)+(m:Int):=by omega
 have hGi:¬(G=i):=by omega
 have hGim:¬(G=i+m):=by omega
 have hci:¬(c=i):=by omega
 subst hW1
 have hE1:∀x,((w.alloc (.cells ROW 52)).drew).cell? x=(w.drew.alloc (.cells ROW 52)).cell? x:=fun x=>rfl
 have hE2:∀x,((w.alloc (.cells ROW 52)).drew).frozen? x=(w.drew.alloc (.cells ROW 52)).frozen? x:=fun x=>rfl
 have hF1:∀x,(((w.alloc (.cells ROW 52)).drew.setCells w.heap.size (i*2) vs).drew).cell? x=((w.drew.alloc (.cells ROW 52)).setCells w.heap.size (i*2) vs).cell? x:=fun x=>rfl
 have hF2:∀x,(((w.alloc (.cells ROW 52)).drew.setCells w.heap.size (i*2) vs).drew).frozen? x=((w.drew.alloc (.cells ROW 52)).setCells w.heap.size (i*2) vs).frozen? x:=fun x=>rfl
 have hw1:IntKind.i64.wrap ((i:Int)+(m:Int))=(i:Int)+(m:Int):=by rw[IntKind.wrap_i64];omega
 have hb1:(0:Int)≤(i:Int)+(m:Int):=by omega
 have hin:i≤n:=by omega
 have htn:((i:Int)+(m:Int)).toNat=i+m:=by omega
 have hb3:(i:Int)≤(n:Int):=by omega
 have mixed:Tryz.prog.follows Departure.mixedOrders=true:=by kernel_rfl
 clear hkk hik hold hROW hG hRl ho hxl hcur hcs hrg hth hdl htl hx hr1 hr2 hvl hvs h1 h1x hcm hbg hblk1 hth1 hra hbel hvs1 hr21 hi0 hz0 hzs hzb hGm
 go_enter Tryz.func157,Tryz.ntmps157
 go_wp2_with (first
  | (at_builtin;refine Lib.wpList_append_run _ rfl _ _ _ _ rfl _ _ rfl rfl _ _ (hrz _) ?_)
  | (at_builtin;refine wpList_copy_runI _ rfl _ _ 44 44 rfl _ _ rfl rfl (hcpA _ hE1 hE2 _ _) ?_)
  | (at_builtin;refine wpList_copy_runI _ rfl _ _ 44 44 rfl _ _ rfl rfl (hcpB _ (fun _=>rfl) (fun _=>rfl) _ _ _) ?_))
 go_region_law_o (refine step_copy_runI rfl _ _ 44 44 rfl (.slice (some ⟨w.heap.size,(i+m)*2,none⟩) (n+m - (i+m)) (G - (i+m))) (.slice (some ⟨g,off+i*2,none⟩) (n - i) (c - i)) (by simp[Act.eval,Act.put]) (by simp[Act.eval,Act.put]) (hcpB _ hF1 hF2 3 (G - (i+m)) (c - i)) ?_)
 go_wp2
 have hgz:∀ (X:World) (a b:Nat) (us ys:List Value),X.grownBy (((X.drew.setCells w.heap.size a us).drew).setCells w.heap.size b ys) (some w.heap.size):=fun X a b us ys=>gr_trans (gr_trans (gr_trans (gr_drew _ _) (gr_setCells _ _ _ _)) (gr_drew _ _)) (gr_setCells _ _ _ _)
 have hga:=hgz (w.alloc (.cells ROW 52)) (i*2) ((i+m)*2) vs (xs.drop (i*2))
 exact HPOST.out _ (by rw[show w.drew.alloc (.cells ROW 52)=(w.alloc (.cells ROW 52)).drew from rfl,←drew_setCells,←drew_setCells,←drew_setCells];rfl) hga.os hga.tape hga.output
theorem zGd(zs:List rlv.RL)(i:Nat):rlv.flat (zs.take i)=(rlv.flat zs).take (i*2):=by
 induction zs generalizing i with
 | nil=>simp[rlv.flat]
 | cons r t ih=>
  cases i with
  | zero=>simp[rlv.flat]
  | succ i=>rw[List.take_succ_cons,rlv.flat_cons,rlv.flat_cons,ih,show (i+1)*2=(rlv.rV r).length+i*2 by show _=2+i*2;omega,List.take_length_add_append]
theorem zGe(zs:List rlv.RL)(i:Nat):rlv.flat (zs.drop i)=(rlv.flat zs).drop (i*2):=by
 induction zs generalizing i with
 | nil=>simp[rlv.flat]
 | cons r t ih=>
  cases i with
  | zero=>simp
  | succ i=>rw[List.drop_succ_cons,rlv.flat_cons,ih,show (i+1)*2=(rlv.rV r).length+i*2 by show _=2+i*2;omega,List.drop_length_add_append]
theorem zIT(w:World)(base:Nat)(v:Value)(zs:List rlv.RL)(i:Nat)(p:Int)(vb vc:Nat)(ho:rlv.OwnQ w base v zs)(hbase:base≤w.heap.size)(hi:i≤zs.length)(hn:zs.length≤10000)
  (hvc:w.heap[vb]?=some (.cells #[.int .i64 p,.slice none 0 0] 52 (0,0))) (hne:v.ownBlock≠some vb) :
  Calls Tryz.prog 157 #[v,.int .i64 i,.slice (some ⟨vb,0,none⟩) 1 vc] w fun e w'=>
   ∃v',e=.returned v'∧rlv.OwnQ w' base v' (zs.take i++⟨p,none,0,0⟩::zs.drop i)∧w.grownBy w' v.ownBlock∧(v'.ownBlock=v.ownBlock∨∃k,v'.ownBlock=some k∧w.heap.size≤k):=by
 have hvs:w.rangeAt vb 0 [.int .i64 p,.slice none 0 0]:=fun j u hu=>by
  rw[jZ w vb (0+j) _ _ (0,0) hvc,Nat.zero_add];simpa using hu
 have h1:∀u∈[Value.int .i64 p,.slice none 0 0],u.oneCell'=true:=by
  intro u hu;simp at hu;rcases hu with rfl|rfl <;>rfl
 have hfl:rlv.flat (zs.take i++⟨p,none,0,0⟩::zs.drop i)=(rlv.flat zs).take (i*2)++[.int .i64 p,.slice none 0 0]++(rlv.flat zs).drop (i*2):=by
  rw[rlv.flat_append,rlv.flat_cons,zGd,zGe,jS];rfl
 have hln:(zs.take i++(⟨p,none,0,0⟩:rlv.RL)::zs.drop i).length=zs.length+1:=by simp;omega
 unfold rlv.OwnQ
 rw[hfl,hln]
 by_cases he:i=zs.length
 ·subst he
  have:=zIS w base v zs.length (rlv.flat zs) vb 1 vc [.int .i64 p,.slice none 0 0] ho hbase (by omega) (by omega) hn rfl hvs h1
  rw[List.take_of_length_le (by rw[rlv.flat_len];exact nzR _),List.drop_eq_nil_of_le (by rw[rlv.flat_len];exact nzR _),jH]
  exact this
 ·have hlt:i<zs.length:=by omega
  obtain⟨q,c,hv⟩:=OwnM.form ho
  subst hv
  rcases ho.2 with ⟨e,hz⟩|⟨g,off,cap,cur,e,hbg,hg,hcap,hcm,hcs,-⟩
  ·omega
  ·cases e
   have hvg:vb≠g:=fun e=>hne (by rw[e];rfl)
   by_cases hr:zs.length+1≤c
   ·exact zGc w base g off zs.length c i vb 1 vc (rlv.flat zs) [.int .i64 p,.slice none 0 0] _ _ ho hlt (by omega) (by omega) hr hvg rfl hvs hvc (rlv.flat_one zs) h1
   ·exact zHj w base g off zs.length c i vb 1 vc (rlv.flat zs) [.int .i64 p,.slice none 0 0] ho hlt (by omega) (by omega) hn (by omega) hbase rfl hvs (gzE.1 hvc).1 (rlv.flat_one zs) h1
end sid
namespace sid
open Go.RowKit spn que
open tickP (zAm zAz zBt betR)
theorem zKK{s p:Int}{r:R}(a b:List L)(h:∀l∈a,zAU s l.price p=true):putL s p r (a++b)=a++putL s p r b:=by
 induction a with
 | nil=>rfl
 | cons x t ih=>
  rw[List.cons_append,putL,if_pos (h x (by simp)),ih (fun l hl=>h l (by simp[hl]))];rfl
theorem zNx(s p:Int)(ps:List RP):∃a b,ps=a++b∧(∀y∈a,zAU s y.1.price p=true)∧(b=[]∨∃x t,b=x::t∧zAU s x.1.price p=false):=by
 induction ps with
 | nil=>exact⟨[],[],rfl,by simp,.inl rfl⟩
 | cons x t ih=>
  cases hl:zAU s x.1.price p
  ·exact⟨[],x::t,rfl,by simp,.inr ⟨x,t,rfl,hl⟩⟩
  ·obtain⟨a,b,e,h1,h2⟩:=ih
   refine⟨x::a,b,by rw[e];rfl,?_,h2⟩
   intro y hy
   rcases List.mem_cons.1 hy with rfl|hy
   ·exact hl
   ·exact h1 y hy
theorem zHN{α:Type}(f:α→Bool)(x:α)(a b:List α)(h:∀y∈a,f y=false):∀i,Lib.idxByFrom (fun _ y=>f y) x (a++b) i=Lib.idxByFrom (fun _ y=>f y) x b (i+a.length):=by
 induction a with
 | nil=>intro i;rfl
 | cons y t ih=>
  intro i
  show (if f y=true then (i:Int) else Lib.idxByFrom (fun _ y=>f y) x (t++b) (i+1))=_
  rw[if_neg (by rw[h y (by simp)];simp),ih (fun z hz=>h z (by simp[hz])),jG,show i+1+t.length=i+(t.length+1) by omega]
theorem zPN{α:Type}(f:α→Bool)(x:α)(a:List α)(h:∀y∈a,f y=false):Lib.idxBy (fun _ y=>f y) a x = -1:=by
 have:=zHN f x a [] h 0
 rw[jH] at this
 unfold Lib.idxBy
 rw[this];rfl
theorem zKL{α:Type}(f:α→Bool)(x:α)(a:List α)(y:α)(b:List α)(h:∀z∈a,f z=false)(hy:f y=true):Lib.idxBy (fun _ y=>f y) (a++y::b) x=a.length:=by
 have:=zHN f x a (y::b) h 0
 unfold Lib.idxBy
 rw[this]
 show (if f y=true then ((0+a.length:Nat):Int) else _)=_
 rw[if_pos hy,Nat.zero_add]
theorem zKM(s p:Int)(B1 B2:Nat)(w:World)(h1:B1<w.heap.size)(h2:B2<w.heap.size)(c1:w.cell? ⟨B1,0,none⟩=some (.int .i64 s))(c2:w.cell? ⟨B2,0,none⟩=some (.int .i64 p)) :
  PredBelow Tryz.prog 156 #[.pointer (some ⟨B1,0,none⟩),.pointer (some ⟨B2,0,none⟩)] (fun x=>.agg (rlv.rV x).toArray) (fun x=>!zAU s x.price p) w:=by
 intro W x hb
 obtain⟨pp,q,n,c⟩:=x
 show Calls Tryz.prog 156 #[.agg #[.int .i64 pp,.slice q n c],.pointer (some ⟨B1,0,none⟩),.pointer (some ⟨B2,0,none⟩)] W _
 have d1:=zAa hb c1
 have d2:=zAa hb c2
 have hz1:B1<W.heap.size:=jC h1 hb.size
 have hz2:B2<W.heap.size:=jC h2 hb.size
 have hb2:Below w.heap.size w (W.alloc (.cells #[.int .i64 pp,.slice q n c] 52)):=hb.alloc hb.size _
 have hcon:=zJO w s pp p _ hb2
 simp only[]
 generalize zAU s pp p=ld at *
 go_enter Tryz.func156,Tryz.ntmps156
 go_wp2_with fail
 refine hcon.mono ?_
 rintro e w1⟨rfl,h3⟩
 clear hcon
 go_wp2_with fail
 go_ret
 exact⟨rfl,h3⟩
theorem zKN(cl:Value)(w:World) :
  Calls Tryz.prog 155 #[.slice none 0 0,cl] w fun e w'=>e=.returned (.int .i64 (-1))∧Below w.heap.size w w':=by
 go_enter Tryz.func155,Tryz.ntmps155
 go_wp2
 go_loopg [5,8] 0 (fun _ _ s8 wr=>s8=.int .i64 0∧wr=w)
 case atStart=>exact⟨rfl,rfl⟩
 case round=>
  obtain⟨rfl,rfl⟩:=hrel
  go_wp2
  go_ret
  exact⟨rfl,bzR _ _⟩
theorem zKO(s p:Int)(B1 B2:Nat)(v:Value)(zs:List rlv.RL)(w:World)(h:rlv.SL w v zs)(h1:B1<w.heap.size)(h2:B2<w.heap.size)(c1:w.cell? ⟨B1,0,none⟩=some (.int .i64 s))(c2:w.cell? ⟨B2,0,none⟩=some (.int .i64 p)) :
  Calls Tryz.prog 155 #[v,.func (.func 156) #[] #[.pointer (some ⟨B1,0,none⟩),.pointer (some ⟨B2,0,none⟩)]] w fun e w'=>e=.returned (.int .i64 (Lib.idxBy (fun _ y=>!zAU s y.price p) zs default))∧Below w.heap.size w w':=by
 rcases h with ⟨rfl,rfl⟩|⟨b,o,c,rfl,hc,hm,hb,hl⟩
 ·exact zKN _ w
 ·have eg:∀args w,(callFunc 156 args).run Tryz.prog w=.ok (.enter 156 args) w:=enters_of Tryz.func156 (by kernel_rfl) rfl
  have hcon:=AnyQ.slices_IndexFunc Tryz.lq6l 2 Tryz.isAgg52 Tryz.sizeOf52 rlv.rV (fun x=>rfl) (fun x=>!zAU s x.price p) 156 #[.pointer (some ⟨B1,0,none⟩),.pointer (some ⟨B2,0,none⟩)] eg b o zs.length c zs
   w (zKM s p B1 B2 w h1 h2 c1 c2) (nzR _) (by omega) hb hl
  change Calls Tryz.prog 155 _ _ _ at hcon
  rw[List.take_length] at hcon
  exact hcon
theorem zKP(r:rlv.RL)(h:blkR r=none)(zs:List R)(b:RP):AP (r,zs) b∧AP b (r,zs):=
 ⟨fun x hx=>(by rw[show (r,zs).1=r from rfl,h] at hx;cases hx),fun x _ e=>(by rw[show (r,zs).1=r from rfl,h] at e;cases e)⟩
theorem DeepT.insert{w w' : World}{base:Nat}{v v' : Value}{a b:List RP}{p:Int}(h:Deep w base v (a++b))(ho:rlv.OwnQ w' base v' (a.map (·.1)++⟨p,none,0,0⟩::b.map (·.1)))
  (hg:w.grownBy w' v.ownBlock) (hv:v'.ownBlock=v.ownBlock∨∃k,v'.ownBlock=some k∧w.heap.size≤k):Deep w' base v' (a++(⟨p,none,0,0⟩,[])::b):=by
 have hk:∀y∈a++b,OwnQ w' base (sv y.1) y.2∧∀x,blkR y.1=some x→v'.ownBlock≠some x:=fun y hy=>by
  refine⟨zAj (h.each y hy) hg (fun x hx=>h.far y hy x hx),fun x hx=>?_⟩
  rcases hv with e|⟨k,e,hk⟩
  ·rw[e];exact h.far y hy x hx
  ·rw[e];intro e2
   have e3:k=x:=by simpa using e2
   have:=(OwnM.lt (h.each y hy) x hx).2
   omega
 refine⟨?_,?_,?_,?_⟩
 ·rw[jH,jF,jK];exact ho
 ·intro y hy
  rcases List.mem_append.1 hy with hy|hy
  ·exact(hk y (by simp[hy])).1
  ·rcases List.mem_cons.1 hy with rfl|hy
   ·exact⟨rfl,.inl ⟨rfl,rfl⟩⟩
   ·exact(hk y (by simp[hy])).1
 ·obtain⟨h1,h2,h3⟩:=List.pairwise_append.1 h.apart
  refine List.pairwise_append.2 ⟨h1,List.pairwise_cons.2 ⟨fun y _=>(zKP _ rfl _ y).1,h2⟩,fun y hy z hz=>?_⟩
  rcases List.mem_cons.1 hz with rfl|hz
  ·exact(zKP _ rfl _ y).2
  ·exact h3 y hy z hz
 ·intro y hy
  rcases List.mem_append.1 hy with hy|hy
  ·exact(hk y (by simp[hy])).2
  ·rcases List.mem_cons.1 hy with rfl|hy
   ·intro x hx;cases hx
   ·exact(hk y (by simp[hy])).2
theorem zEi(w2:World)(base:Nat)(v:Value)(a b:List RP)(p:Int)(nq:Nat)(hD:Deep w2 base v (a++b))(hbase:base≤w2.heap.size)(hn:(a++b).length≤1000) :
  Calls Tryz.prog 157 #[v,.int .i64 (a.length:Nat),.slice (some ⟨w2.heap.size,0,none⟩) 1 1] ((w2.drewN nq).alloc (.cells #[.int .i64 p,.slice none 0 0] 52)) fun e w'=>
   ∃v',e=.returned v'∧Deep w' base v' (a++(⟨p,none,0,0⟩,[])::b)∧Below base w2 w':=by
 have hsz:(w2.drewN nq).heap.size=w2.heap.size:=rfl
 have hBV:Below w2.heap.size w2 ((w2.drewN nq).alloc (.cells #[.int .i64 p,.slice none 0 0] 52)):=(zCN (bzR _ _) nq).alloc (nzR _) _
 have hvc:=jA (w2.drewN nq) (.cells #[.int .i64 p,.slice none 0 0] 52)
 rw[hsz] at hvc
 have hDV:=hD.below hBV
 have hB1:Below base w2 ((w2.drewN nq).alloc (.cells #[.int .i64 p,.slice none 0 0] 52)):=hBV.mono hbase
 generalize (w2.drewN nq).alloc (.cells #[.int .i64 p,.slice none 0 0] 52)=V at *
 have ho:rlv.OwnQ V base v (a.map (·.1)++b.map (·.1)):=by have:=hDV.own;rwa [jH,jF] at this
 have h:=zIT V base v (a.map (·.1)++b.map (·.1)) a.length p w2.heap.size 1 ho (jM hbase hBV.size) (by simp) (by simp at hn ⊢;omega) hvc (fun e=>by have:=(OwnM.lt hD.own _ e).2;omega)
 refine h.mono ?_
 rintro e w'⟨v',rfl,ho',hg,hv⟩
 rw[List.take_left' (by simp),List.drop_left' (by simp)] at ho'
 exact⟨v',rfl,hDV.insert ho' hg hv,hB1.grown hg (jM hbase hBV.size) (fun k hk=>(OwnM.lt hDV.own k hk).1)⟩
def WithPost(s p:Int)(ls:List L)(w:World)(e:Ending)(w' : World):Prop:=
 ∃v' a x b,e=.returned (.tuple #[v',.int .i64 (a.length:Nat)])∧Deep w' w.heap.size v' (a++x::b)∧x.1.price=p∧(∀r,putL s p r ls=a.map toL++⟨p,x.2++[r]⟩::b.map toL)∧Below w.heap.size w w'
theorem zHO{s p:Int}{a:List RP}(h:∀y∈a,zAU s y.1.price p=true):∀l∈a.map toL,zAU s l.price p=true:=by
 intro l hl
 obtain⟨y,hy,rfl⟩:=List.mem_map.1 hl
 exact h y hy
theorem zHP{s p:Int}{a:List RP}(h:∀y∈a,zAU s y.1.price p=true):∀l∈a.map (·.1),(!zAU s l.price p)=false:=by
 intro l hl
 obtain⟨y,hy,rfl⟩:=List.mem_map.1 hl
 simp[h y hy]
theorem zFm(s p:Int)(v:Value)(ls:List L)(w:World)(h:LS w v ls)(hn:ls.length≤1000)(hr:∀l∈ls,l.rests.length≤1000)(hne:∀l∈ls,l.rests≠[]) :
  Calls Tryz.prog 140 #[.int .i64 s,v,.int .i64 p] w fun e w'=>WithPost s p ls w e w':=by
 obtain⟨W0,hW0⟩:∃W0,W0=(w.alloc (.cells #[.int .i64 s] 3)).alloc (.cells #[.int .i64 p] 3):=⟨_,rfl⟩
 have hB0:Below w.heap.size w W0:=by rw[hW0];exact((bzR _ _).alloc (nzR _) _).alloc (by simp) _
 have hs0:W0.heap.size=w.heap.size+2:=by rw[hW0];simp
 have c1:W0.cell? ⟨w.heap.size,0,none⟩=some (.int .i64 s):=by rw[hW0];simp[go_sem]
 have c2:W0.cell? ⟨w.heap.size+1,0,none⟩=some (.int .i64 p):=by rw[hW0];simp[go_sem]
 have hfresh:=zBp v ls W0 (h.below hB0) hn hr hne
 obtain⟨vq,vm,vc,rfl⟩:=zFb h
 have HP:Hid (∀W v' a x b,Deep W w.heap.size v' (a++x::b)→x.1.price=p→(∀r,putL s p r ls=a.map toL++⟨p,x.2++[r]⟩::b.map toL)→Below w.heap.size w W→WithPost s p ls w (.returned (.tuple #[v',.int .i64 (a.length:Nat)])) W):=fun W v' a x b h1 h2 h3 h4=>⟨v',a,x,b,rfl,h1,h2,h3,h4⟩
 have HN:Hid (ls.length≤1000):=hn
 generalize WithPost s p ls w=POST at *
 clear h hn hr hne
 go_enter Tryz.func140,Tryz.ntmps140
 go_wp2_with fail
 rw[←hW0]
 refine hfresh.mono ?_
 rintro e w1⟨v1,ps,rfl,hps,hD0,hB1⟩
 have HW1:Hid (Below w.heap.size w w1):=hB0.trans (hB1.mono hB0.size)
 have HD:Hid (Deep w1 w.heap.size v1 ps):=hD0.mono hB0.size
 have hsz1:w.heap.size+2≤w1.heap.size:=by have:=hB1.size;omega
 have d1:=zAa hB1 c1
 have d2:=zAa hB1 c2
 have hlen:ps.length≤1000:=by have:=HN.out;rw[←hps,jP] at this;exact this
 have HPS:Hid (ps.map toL=ls):=hps
 have HIX:=zKO s p w.heap.size (w.heap.size+1) v1 (ps.map (·.1)) w1 HD.out.loose.1 (by omega) (by omega) d1 d2
 obtain⟨a,b,hab,ha,hb⟩:=zNx s p ps
 obtain⟨q1,cc1,hv1⟩:=OwnM.form HD.out.own
 rw[jH,jP] at hv1
 clear hfresh hB0 hs0 c1 c2 hW0 hD0 hB1 hps
 rcases hb with rfl|⟨x,t,rfl,hx⟩
 ·
  rw[zPN _ _ _ (by rw[hab,jH];exact zHP ha)] at HIX
  rw[jH] at hab
  subst hab
  have HPUT:Hid (∀r,putL s p r ls=ps.map toL++⟨p,[]++[r]⟩::[].map toL):=fun r=>by
   rw[←HPS.out,←jH (ps.map toL),zKK _ _ (zHO ha),jH];rfl
  clear ha
  subst hv1
  generalize hnn:ps.length=n at *
  have HNN:Hid (ps.length=n):=hnn
  clear hnn
  go_wp2_with fail
  refine HIX.mono ?_
  rintro e w2⟨rfl,hB2⟩
  have HW2:Hid (Below w.heap.size w w2):=HW1.out.trans (hB2.mono HW1.out.size)
  have HD2:Hid (Deep w2 w.heap.size (.slice q1 n cc1) ps):=HD.out.below hB2
  have e2:=zAa hB2 d2
  have hsz2:w.heap.size+2≤w2.heap.size:=jM hsz1 hB2.size
  clear HIX hB2 d1 d2
  go_upto_region 5 with fail
  go_quiet (fail)
  go_wp2_with fail
  have hin:=zEi w2 w.heap.size (.slice q1 n cc1) ps [] p nq (by rw[jH];exact HD2.out) HW2.out.size (by rw[jH,HNN.out];exact hlen)
  rw[HNN.out] at hin
  refine hin.mono ?_
  rintro e w3⟨v3,rfl,hD3,hB3⟩
  have HX:=HP.out w3 v3 ps (⟨p,none,0,0⟩,[]) [] hD3 rfl HPUT.out (HW2.out.trans hB3)
  rw[HNN.out] at HX
  clear hin hD3 hB3
  go_wp2_with fail
  exact HX
 ·rw[hab,jF,jK,zKL _ _ _ _ _ (zHP ha) (by simp[hx]),jP] at HIX
  have HPUT:Hid (∀r,putL s p r ls=a.map toL++(if x.1.price=p then ⟨p,x.2++[r]⟩::t.map toL else ⟨p,[r]⟩::toL x::t.map toL)):=fun r=>by
   rw[←HPS.out,hab,jF,zKK _ _ (zHO ha),jK,putL,if_neg (by rw[zKd,hx];simp)]
   rfl
  have HAB:Hid (ps=a++x::t):=hab
  rcases HD.out.own.2 with ⟨e,hz⟩|⟨g,off,cap,cur,e,-,-,hcap,hcm,-,-⟩
  ·rw[jH,jP,hab] at hz;simp at hz
  ·rw[jH,jP] at e hcap
   subst e
   have hcap2:cap≤9223372036854775807:=by simpa [maxLen] using hcm
   have ho:=HD.out.own
   rw[jH,hab,jF,jK] at ho
   obtain⟨-,c0,-,-,-,hgs⟩:=zDn ho
   rw[jP] at c0
   have hkn:a.length<ps.length:=by rw[hab];simp
   clear ho ha hx hab hcm hv1
   obtain⟨⟨xp,xq,xn,xc⟩,zs⟩:=x
   simp only[] at c0
   generalize hnn:ps.length=n at *
   have HNN:Hid (ps.length=n):=hnn
   generalize hkk:a.length=k at *
   have HKK:Hid (a.length=k):=hkk
   clear hnn hkk
   go_wp2_with fail
   refine HIX.mono ?_
   rintro e w2⟨rfl,hB2⟩
   have HW2:Hid (Below w.heap.size w w2):=HW1.out.trans (hB2.mono HW1.out.size)
   have HD2:Hid (Deep w2 w.heap.size (.slice (some ⟨g,off,none⟩) n cap) (a++(⟨xp,xq,xn,xc⟩,zs)::t)):=by have:=HD.out.below hB2;rwa [HAB.out] at this
   have e2:=zAa hB2 d2
   have e0:=zAa hB2 c0
   have hsz2:w.heap.size+2≤w2.heap.size:=jM hsz1 hB2.size
   have hgs2:g<w2.heap.size:=jC hgs hB2.size
   clear HIX hB2 d1 d2 c0
   have hk0:¬((k:Int)<0):=by omega
   have hk1:¬((k:Int)=(n:Int)):=by omega
   have hk2:¬(k=n):=by omega
   have hk3:(k:Int)<(n:Int):=by omega
   have hk4:decide (k=n)=false:=by simp[hk2]
   have hk5:((k:Int) == (n:Int))=false:=by simp;omega
   have hk6:(0:Int)≤(k:Int):=by omega
   by_cases hxp:xp=p
   ·subst hxp
    have HPUT2:Hid (∀r,putL s xp r ls=a.map toL++⟨xp,zs++[r]⟩::t.map toL):=fun r=>by rw[HPUT.out r,if_pos rfl]
    clear HPUT
    have HX:=fun nq=>HP.out (w2.drewN nq) _ a (⟨xp,xq,xn,xc⟩,zs) t (HD2.out.below (zCN (bzR _ _) nq)) rfl HPUT2.out (zCN HW2.out nq)
    rw[HKK.out] at HX
    have HXX:Hid (∀nq,POST (.returned (.tuple #[.slice (some ⟨g,off,none⟩) n cap,.int .i64 (k:Int)])) (w2.drewN nq)):=HX
    clear HX
    go_upto_region 5 with fail
    go_quiet (fail)
    go_wp2_with fail
    exact HXX.out _
   ·have HPUT2:Hid (∀r,putL s p r ls=a.map toL++⟨p,[]++[r]⟩::((⟨xp,xq,xn,xc⟩,zs)::t).map toL):=fun r=>by rw[HPUT.out r,if_neg hxp];rfl
    clear HPUT
    have hxp1:(xp == p)=false:=by simpa using hxp
    have hxp2:decide (xp=p)=false:=by simpa using hxp
    go_upto_region 5 with fail
    go_quiet (fail)
    go_wp2_with fail
    have hin:=zEi w2 w.heap.size (.slice (some ⟨g,off,none⟩) n cap) a ((⟨xp,xq,xn,xc⟩,zs)::t) p nq HD2.out HW2.out.size (by rw[←HAB.out,HNN.out];exact hlen)
    rw[HKK.out] at hin
    refine hin.mono ?_
    rintro e w3⟨v3,rfl,hD3,hB3⟩
    have HX:=HP.out w3 v3 a (⟨p,none,0,0⟩,[]) ((⟨xp,xq,xn,xc⟩,zs)::t) hD3 rfl HPUT2.out (HW2.out.trans hB3)
    rw[HKK.out] at HX
    clear hin hD3 hB3
    go_wp2_with fail
    exact HX
end sid
end Go.Proofs.YtifjhlgjgnnnpaaGreat
