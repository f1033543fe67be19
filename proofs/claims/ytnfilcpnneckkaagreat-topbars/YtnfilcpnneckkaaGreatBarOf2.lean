import Derived.Test.YtnfilcpnneckkaaGreatBarCh
set_option maxHeartbeats 4000000
set_option maxRecDepth 100000
namespace Go.Proofs.YtnfilcpnneckkaaGreat
open Go.Proofs.Tryz
namespace bar
open Go.RowKit mee
open spn (zAa bcell zAl zBc zAY zAK zAt zBs scheck2 zAd errV wAa wAb)
theorem qty_V(V:World)(n:Int)(w:World)(h:Bw V w) :
  Calls prog 75 #[.int .i64 n] w fun e w'=>e=.returned (.agg #[.int .i64 n,.int .i64 1,.int .i64 10000])∧Bw V w':=
 (zAK n w).mono fun _ _ h'=>⟨h'.1,h.trans (h'.2.mono h.size)⟩
theorem wAV(V:World)(n:Int)(w:World)(h:Bw V w) :
  Calls prog 74 #[.int .i64 n] w fun e w'=>e=.returned (.agg #[.int .i64 n,.int .i64 1,.int .i64 10000])∧Bw V w':=
 (zAt n w).mono fun _ _ h'=>⟨h'.1,h.trans (h'.2.mono h.size)⟩
theorem wAP(t1 t2 t3 t4 t5 t6:Int)(r:Bool)(w:World)(hr:[(t5,1,10000),(t6,1,10000)].any zAl=r) :
  Calls prog 43 #[.agg #[.int .i64 t1,.int .i64 t2,.int .i64 t3,.int .i64 t4,.int .i64 t5,.int .i64 t6]] w
   fun x w'=>x=.returned (errV (zAd r))∧Bw w w':=by
 have HR:=hidT hr;clear hr;have hV:Bw w (w.alloc (.cells #[.int .i64 t1,.int .i64 t2,.int .i64 t3,.int .i64 t4,.int .i64 t5,.int .i64 t6] 38)):=(bzR _ _).alloc (nzR _) _;have hR:=jA w (.cells #[.int .i64 t1,.int .i64 t2,.int .i64 t3,.int .i64 t4,.int .i64 t5,.int .i64 t6] 38);go_enter func43,ntmps43;go_upto_region 1 with fail
 generalize w.alloc (.cells #[.int .i64 t1,.int .i64 t2,.int .i64 t3,.int .i64 t4,.int .i64 t5,.int .i64 t6] 38)=V at *;have c4:V.cell? ⟨w.heap.size,4,none⟩=some (.int .i64 t5):=by simp[World.cell?,hR]
 have c5:V.cell? ⟨w.heap.size,5,none⟩=some (.int .i64 t6):=by simp[World.cell?,hR]
 clear hR;have SO:Hid (∀W,Bw V W→(Bw V W∧W.cell? ⟨w.heap.size,4,none⟩=some (.int .i64 t5)∧W.cell? ⟨w.heap.size,5,none⟩=some (.int .i64 t6))):=fun W hW=>⟨hW,zAa hW c4,zAa hW c5⟩
 go_region_held3 (fun W=>Below V.heap.size V W∧W.cell? ⟨w.heap.size,4,none⟩=some (.int .i64 t5)∧W.cell? ⟨w.heap.size,5,none⟩=some (.int .i64 t6))
  ((refine SO.out _ ?_;(with_reducible repeat' (first|assumption|refine bal ?_ _|refine Below.setCell ?_ ?_ _|refine Below.drew ?_|exact bzR _ _|exact nzR _|exact Below.size (by assumption)|refine jD ?_))))
  (first|(go_at_call 74;refine(wAV V _ _ ?_).mono ?_;(with_reducible repeat' (first|assumption|refine bal ?_ _|refine Below.setCell ?_ ?_ _|refine Below.drew ?_|exact bzR _ _|exact nzR _|exact Below.size (by assumption)|refine jD ?_));rintro x W ⟨rfl,Hm⟩)|(go_at_call 75;refine(qty_V V _ _ ?_).mono ?_;(with_reducible repeat' (first|assumption|refine bal ?_ _|refine Below.setCell ?_ ?_ _|refine Below.drew ?_|exact bzR _ _|exact nzR _|exact Below.size (by assumption)|refine jD ?_));rintro x W ⟨rfl,Hm⟩)|(go_at_call 11;refine(scheck2 r _ _ _ _ _ _ _ _ rfl HR.out).mono ?_;rintro x W2 ⟨rfl,GB⟩;have Hm:=Below.trans (by with_reducible assumption) (GB.mono (Below.size (by with_reducible assumption)))))
 have HW:Hid (Bw w W2):=hV.trans (Hm.mono hV.size);clear SO hV HR GB Hm c4 c5;cases r
 ·simp only[show errV (zAd false)=.nilIface from rfl]
  go_wp2_with fail;go_ret;exact⟨rfl,HW.out⟩
 ·simp only[show errV (zAd true)=.iface 90 (.int .i64 1) from rfl]
  go_wp2_with fail;go_ret;exact⟨rfl,HW.out⟩
def badT(x:T):Bool:=!(decide (1≤x.price) && decide (x.price≤10000) && decide (1≤x.qty) && decide (x.qty≤10000))
theorem wBf(p q:Int)(x:T)(hp:x.price=p)(hq:x.qty=q):[(p,1,10000),(q,1,10000)].any zAl=badT x:=by
 subst hp hq;rw[Bool.eq_iff_iff];simp[zAl,badT];omega
theorem zKn(x:T)(w:World) :
  Calls prog 43 #[.agg (tV x).toArray] w fun e w'=>e=.returned (errV (zAd (badT x)))∧Bw w w':=by
 have h:=wBf x.price x.qty x rfl rfl;obtain⟨t1,t2,t3,t4,t5,t6⟩:=x;exact wAP t1 t2 t3 t4 t5 t6 _ w h
theorem zRK(w:World):PredBelow prog 42 #[] (fun x=>.agg (tV x).toArray) badT w:=by
 intro W x hb;have hc:=hidT (fun V=>zKn x V)
 generalize badT x=r at *;obtain⟨t1,t2,t3,t4,t5,t6⟩:=x;have HC:Hid (∀V,Calls prog 43 #[.agg #[.int .i64 t1,.int .i64 t2,.int .i64 t3,.int .i64 t4,.int .i64 t5,.int .i64 t6]] V fun x w'=>x=.returned (errV (zAd r))∧Bw V w'):=hc
 clear hc;show Calls prog 42 #[.agg #[.int .i64 t1,.int .i64 t2,.int .i64 t3,.int .i64 t4,.int .i64 t5,.int .i64 t6]] W _
 have Gf:Bw w (W.alloc (.cells #[.int .i64 t1,.int .i64 t2,.int .i64 t3,.int .i64 t4,.int .i64 t5,.int .i64 t6] 38)):=hb.alloc hb.size _;cases r
 ·simp only[show errV (zAd false)=.nilIface from rfl] at HC
  go_enter func42,ntmps42;go_wp2_with fail;refine(HC.out _).mono ?_;rintro e W1⟨rfl,Hc⟩;have HW:Hid (Bw w W1):=Gf.trans (Hc.mono Gf.size);clear Hc Gf HC;go_wp2_with fail;go_ret;exact⟨rfl,HW.out⟩
 ·simp only[show errV (zAd true)=.iface 90 (.int .i64 1) from rfl] at HC
  go_enter func42,ntmps42;go_wp2_with fail;refine(HC.out _).mono ?_;rintro e W1⟨rfl,Hc⟩;have HW:Hid (Bw w W1):=Gf.trans (Hc.mono Gf.size);clear Hc Gf HC;go_wp2_with fail;go_ret;exact⟨rfl,HW.out⟩
theorem zPJ(W:World):Calls prog 73 #[.slice none 0 0,.func (.func 42) #[] #[]] W fun e w'=>e=.returned (.int .i64 (-1))∧Bw W w':=by
 go_enter func73,ntmps73
 go_wp2
 go_loopg [5,8] 0 (fun _ _ s8 wr=>s8=.int .i64 0∧wr=W)
 case atStart=>exact⟨rfl,rfl⟩
 case round=>
  obtain⟨rfl,rfl⟩:=hrel
  go_wp2
  go_ret;exact⟨rfl,bzR _ _⟩
theorem zRL(W:World):Calls prog 41 #[.slice none 0 0,.func (.func 42) #[] #[]] W fun e w'=>e=.returned (.bool false)∧Bw W w':=by
 go_enter func41,ntmps41;go_wp2_with fail;refine(zPJ W).mono ?_;rintro e w'⟨rfl,hb⟩
 go_wp2
 go_ret;exact⟨rfl,hb⟩
def bchk(zs:List T):Int:=if 400<zs.length then 4 else if zs.any badT=true then 1 else 0
theorem wAf(v:Value)(zs:List T)(w:World)(h:TL w v zs) :
  Calls prog 20 #[v] w fun x w'=>x=.returned (errV (bchk zs))∧Bw w w':=by
 have eg:∀args w,(callFunc 42 args).run prog w=.ok (.enter 42 args) w:=enters_of func42 (by kernel_rfl) rfl
 have Hf:zs.length≤400→Calls prog 41 #[v,.func (.func 42) #[] #[]] w fun e w'=>e=.returned (.bool (zs.any badT))∧Bw w w':=by
  intro hn;rcases h with ⟨rfl,rfl⟩|⟨b,o,c,rfl,h2,h3,h4,h5⟩
  ·exact zRL w
  ·have:=AnyQ.slices_ContainsFunc Tryz.lh8t 6 isAgg38 sizeOf38 tV (fun x=>rfl) badT 42 #[] eg b o zs.length c zs w (zRK w) (nzR _) (by omega) h4 h5
   rw[List.take_length] at this;exact this
 obtain⟨q,c,rfl,hn,hc9⟩:=h.form;clear h;unfold bchk;have HC:=hidT Hf;clear Hf;generalize zs.any badT=r at *;generalize zs.length=n at *;have Hh:(n:Int)≤9223372036854775807:=by omega
 by_cases h4:400<n
 ·have bq:(400:Int)<(n:Int):=by omega
  rw[if_pos h4];go_enter func20,ntmps20;go_wp2_with fail;go_ret;exact⟨rfl,bzR _ _⟩
 ·have bq:¬(400:Int)<(n:Int):=by omega
  rw[if_neg h4];have hk:=hidT (HC.out (by omega))
  clear HC;cases r
  ·go_enter func20,ntmps20;go_wp2_with fail;refine hk.out.mono ?_;rintro e w'⟨rfl,Uo⟩;go_wp2_with fail;go_ret;exact⟨rfl,Uo⟩
  ·go_enter func20,ntmps20;go_wp2_with fail;refine hk.out.mono ?_;rintro e w'⟨rfl,Uo⟩;go_wp2_with fail;go_ret;exact⟨rfl,Uo⟩
end bar
namespace bar
open Go.RowKit mee
open spn (zAa)
def sgl(t:T):B:=⟨t.price,t.price,t.price,t.price,t.qty⟩
def bhd(a b:B):B:=⟨a.o,max a.h b.h,min a.l b.l,b.c,wrap64 (a.q+b.q)⟩
def barF(a:B)(r:List T):B:=r.foldl (fun a x=>bhd a (sgl x)) a
def barZ:B:=⟨0,0,0,0,0⟩
def zDC:List T→B
 | []=>barZ
 | t::r=>barF (sgl t) r
theorem zNh{a:B}{r:List T}{k:Nat}(h:k<r.length):barF a (r.take (k+1))=bhd (barF a (r.take k)) (sgl (r[k]!)):=by
 unfold barF;rw[wAv h,List.foldl_append];rfl
theorem set5{w:World}{g:Nat}{e:TypeId}{a0 a1 a2 a3 a4 b0 b1 b2 b3 b4:Value}(h:w.heap[g]?=some (.cells #[a0,a1,a2,a3,a4] e (0,0))) :
  (((((w.setCell ⟨g,0,none⟩ b0).setCell ⟨g,1,none⟩ b1).setCell ⟨g,2,none⟩ b2).setCell ⟨g,3,none⟩ b3).setCell ⟨g,4,none⟩ b4).heap[g]?=some (.cells #[b0,b1,b2,b3,b4] e (0,0)):=by
 have h0:=jB w g 0 _ _ b0 h;have h1:=jB _ g 1 _ _ b1 h0;have h2:=jB _ g 2 _ _ b2 h1;have h3:=jB _ g 3 _ _ b3 h2;have h4:=jB _ g 4 _ _ b4 h3;simpa using h4
theorem low5{W w:World}{n g:Nat}{b0 b1 b2 b3 b4:Value}(h:Below n W w)(hg:n≤g):Below n W (((((w.setCell ⟨g,0,none⟩ b0).setCell ⟨g,1,none⟩ b1).setCell ⟨g,2,none⟩ b2).setCell ⟨g,3,none⟩ b3).setCell ⟨g,4,none⟩ b4):=
 ((((h.setCell (p:=⟨g,0,none⟩) hg b0).setCell (p:=⟨g,1,none⟩) hg b1).setCell (p:=⟨g,2,none⟩) hg b2).setCell (p:=⟨g,3,none⟩) hg b3).setCell (p:=⟨g,4,none⟩) hg b4
theorem there5{w:World}{b:Nat}{z0 z1 z2 z3 z4:Value}{t:TypeId}(h:w.heap[b]?=some (.cells #[z0,z1,z2,z3,z4] t (0,0))):w.there b 0 5:=by
 intro j hj;have hc:w.cell? ⟨b,0+j,none⟩=(#[z0,z1,z2,z3,z4])[j]?:=by rw[Nat.zero_add];simp[World.cell?,h]
 have hf:w.frozen? ⟨b,0+j,none⟩=false:=by simp[World.frozen?,h]
 rw[hc,hf];have:j=0∨j=1∨j=2∨j=3∨j=4:=by omega
 rcases this with rfl|rfl|rfl|rfl|rfl <;>exact⟨rfl,rfl⟩
theorem stored5{w:World}{b:Nat}{z0 z1 z2 z3 z4:Value}{t:TypeId}(v0 v1 v2 v3 v4:Value)(h:w.heap[b]?=some (.cells #[z0,z1,z2,z3,z4] t (0,0))) :
  (w.setCells b 0 [v0,v1,v2,v3,v4]).heap[b]?=some (.cells #[v0,v1,v2,v3,v4] t (0,0)):=by
 simp only[World.setCells];exact set5 h
theorem row5{w:World}{b:Nat}{z0 z1 z2 z3 z4:Value}{t:TypeId}(h:w.heap[b]?=some (.cells #[z0,z1,z2,z3,z4] t (0,0))):w.cell? ⟨b,0,none⟩=some z0∧w.cell? ⟨b,1,none⟩=some z1∧w.cell? ⟨b,2,none⟩=some z2∧w.cell? ⟨b,3,none⟩=some z3∧w.cell? ⟨b,4,none⟩=some z4:=
 ⟨by simp[World.cell?,h],by simp[World.cell?,h],by simp[World.cell?,h],by simp[World.cell?,h],by simp[World.cell?,h]⟩
theorem zEL(t1 t2 t3 t4 t5 t6:Int)(w:World) :
  Calls prog 45 #[.agg #[.int .i64 t1,.int .i64 t2,.int .i64 t3,.int .i64 t4,.int .i64 t5,.int .i64 t6]] w
   fun e w'=>e=.returned (.agg #[.int .i64 t5,.int .i64 t5,.int .i64 t5,.int .i64 t5,.int .i64 t6])∧Below w.heap.size w w':=by
 obtain⟨X,hX⟩:∃x,x=w.heap.size:=⟨_,rfl⟩;have HB:Hid (Below w.heap.size w ((w.alloc (.cells #[.int .i64 t1,.int .i64 t2,.int .i64 t3,.int .i64 t4,.int .i64 t5,.int .i64 t6] 38)).alloc (.cells #[.int .i64 0,.int .i64 0,.int .i64 0,.int .i64 0,.int .i64 0] 47))):=((bzR _ _).alloc (nzR _) _).alloc (by simp) _
 have HR:Hid (((w.alloc (.cells #[.int .i64 t1,.int .i64 t2,.int .i64 t3,.int .i64 t4,.int .i64 t5,.int .i64 t6] 38)).alloc (.cells #[.int .i64 0,.int .i64 0,.int .i64 0,.int .i64 0,.int .i64 0] 47)).heap[X+1]?=some (.cells #[.int .i64 0,.int .i64 0,.int .i64 0,.int .i64 0,.int .i64 0] 47 (0,0))):=by
  have:=jA (w.alloc (.cells #[.int .i64 t1,.int .i64 t2,.int .i64 t3,.int .i64 t4,.int .i64 t5,.int .i64 t6] 38)) (.cells #[.int .i64 0,.int .i64 0,.int .i64 0,.int .i64 0,.int .i64 0] 47);rw[World.size_alloc] at this;rw[hX];exact this
 have c4:((w.alloc (.cells #[.int .i64 t1,.int .i64 t2,.int .i64 t3,.int .i64 t4,.int .i64 t5,.int .i64 t6] 38)).alloc (.cells #[.int .i64 0,.int .i64 0,.int .i64 0,.int .i64 0,.int .i64 0] 47)).cell? ⟨X,4,none⟩=some (.int .i64 t5):=by subst hX;simp
 have c5:((w.alloc (.cells #[.int .i64 t1,.int .i64 t2,.int .i64 t3,.int .i64 t4,.int .i64 t5,.int .i64 t6] 38)).alloc (.cells #[.int .i64 0,.int .i64 0,.int .i64 0,.int .i64 0,.int .i64 0] 47)).cell? ⟨X,5,none⟩=some (.int .i64 t6):=by subst hX;simp
 have HX:=hidT hX;go_enter func45,ntmps45;go_upto_region 1 with fail
 simp only[←hX];clear hX;generalize (w.alloc (.cells #[.int .i64 t1,.int .i64 t2,.int .i64 t3,.int .i64 t4,.int .i64 t5,.int .i64 t6] 38)).alloc (.cells #[.int .i64 0,.int .i64 0,.int .i64 0,.int .i64 0,.int .i64 0] 47)=V at *;refine wp_region_lit ?_
 iterate 11 (refine wpList_step fun K hK=>?_;go_simp;refine hK _ _ ?_;clear hK K;try simp only[Act.put,List.setIfInBounds_toArray,List.set_cons_zero,List.set_cons_succ])
 refine wpList_store_mid rfl 47 (.tmp 2) (.tmp 13) rfl (X+1) 0 #[.int .i64 t5,.int .i64 t5,.int .i64 t5,.int .i64 t5,.int .i64 t6] rfl rfl (there5 HR.out) (by kernel_rfl) (by simp[Value.oneCell']) ?_
 have HS:=hidT (stored5 (.int .i64 t5) (.int .i64 t5) (.int .i64 t5) (.int .i64 t5) (.int .i64 t6) HR.out);have UP:Hid (Below w.heap.size w (V.setCells (X+1) 0 [.int .i64 t5,.int .i64 t5,.int .i64 t5,.int .i64 t5,.int .i64 t6])):=HB.out.grown (wak.wAh (X+1) _ _ _) HB.out.size (fun k hk=>by cases hk;rw[HX.out];omega)
 show wpList _ _ _ _ _ (V.setCells (X+1) 0 [.int .i64 t5,.int .i64 t5,.int .i64 t5,.int .i64 t5,.int .i64 t6])
 generalize V.setCells (X+1) 0 [.int .i64 t5,.int .i64 t5,.int .i64 t5,.int .i64 t5,.int .i64 t6]=W9 at HS UP ⊢;obtain⟨y0,y1,y2,y3,y4⟩:=row5 HS.out;go_wp2_with fail;exact jN (v:=.agg #[.int .i64 t5,.int .i64 t5,.int .i64 t5,.int .i64 t5,.int .i64 t6]) (by simp[results,results45,go_sem,y0,y1,y2,y3,y4]) rfl ⟨rfl,UP.out⟩
theorem zIh(a1 a2 a3 a4 a5 b1 b2 b3 b4 b5:Int)(w:World) :
  Calls prog 46 #[.agg #[.int .i64 a1,.int .i64 a2,.int .i64 a3,.int .i64 a4,.int .i64 a5],.agg #[.int .i64 b1,.int .i64 b2,.int .i64 b3,.int .i64 b4,.int .i64 b5]] w
   fun e w'=>e=.returned (.agg #[.int .i64 a1,.int .i64 (max a2 b2),.int .i64 (min a3 b3),.int .i64 b4,.int .i64 (wrap64 (a5+b5))])∧Below w.heap.size w w':=by
 obtain⟨X,hX⟩:∃x,x=w.heap.size:=⟨_,rfl⟩;obtain⟨V,hV⟩:∃V,V=((w.alloc (.cells #[.int .i64 a1,.int .i64 a2,.int .i64 a3,.int .i64 a4,.int .i64 a5] 47)).alloc (.cells #[.int .i64 b1,.int .i64 b2,.int .i64 b3,.int .i64 b4,.int .i64 b5] 47)).alloc (.cells #[.int .i64 0,.int .i64 0,.int .i64 0,.int .i64 0,.int .i64 0] 47):=⟨_,rfl⟩;have HB:Hid (Below w.heap.size w V):=by rw[hV];exact(((bzR _ _).alloc (nzR _) _).alloc (by simp) _).alloc (by simp;omega) _
 have HR:Hid (V.heap[X+2]?=some (.cells #[.int .i64 0,.int .i64 0,.int .i64 0,.int .i64 0,.int .i64 0] 47 (0,0))):=by
  have:=jA ((w.alloc (.cells #[.int .i64 a1,.int .i64 a2,.int .i64 a3,.int .i64 a4,.int .i64 a5] 47)).alloc (.cells #[.int .i64 b1,.int .i64 b2,.int .i64 b3,.int .i64 b4,.int .i64 b5] 47)) (.cells #[.int .i64 0,.int .i64 0,.int .i64 0,.int .i64 0,.int .i64 0] 47);rw[World.size_alloc,World.size_alloc] at this;rw[hX,hV];exact this
 have kA:∀o v,(#[.int .i64 a1,.int .i64 a2,.int .i64 a3,.int .i64 a4,.int .i64 a5]:Array Value)[o]?=some v→V.cell? ⟨X,o,none⟩=some v:=fun o v h=>by
  have h0:=jA w (.cells #[.int .i64 a1,.int .i64 a2,.int .i64 a3,.int .i64 a4,.int .i64 a5] 47);rw[hV,hX];exact zAa (((bzR _ (w.alloc (.cells #[.int .i64 a1,.int .i64 a2,.int .i64 a3,.int .i64 a4,.int .i64 a5] 47))).alloc (nzR _) _).alloc (by simp) _) (by simp only[World.cell?,h0];exact h)
 have kB:∀o v,(#[.int .i64 b1,.int .i64 b2,.int .i64 b3,.int .i64 b4,.int .i64 b5]:Array Value)[o]?=some v→V.cell? ⟨X+1,o,none⟩=some v:=fun o v h=>by
  have h0:=jA (w.alloc (.cells #[.int .i64 a1,.int .i64 a2,.int .i64 a3,.int .i64 a4,.int .i64 a5] 47)) (.cells #[.int .i64 b1,.int .i64 b2,.int .i64 b3,.int .i64 b4,.int .i64 b5] 47);rw[World.size_alloc] at h0;rw[hV,hX];exact zAa ((bzR _ ((w.alloc (.cells #[.int .i64 a1,.int .i64 a2,.int .i64 a3,.int .i64 a4,.int .i64 a5] 47)).alloc (.cells #[.int .i64 b1,.int .i64 b2,.int .i64 b3,.int .i64 b4,.int .i64 b5] 47))).alloc (nzR _) _) (by simp only[World.cell?,h0];exact h)
 have c0:=kA 0 _ rfl;have c1:=kA 1 _ rfl;have c2:=kA 2 _ rfl;have c4:=kA 4 _ rfl;have d1:=kB 1 _ rfl;have d2:=kB 2 _ rfl;have d3:=kB 3 _ rfl;have d4:=kB 4 _ rfl;clear kA kB;have HX:=hidT hX;go_enter func46,ntmps46;go_upto_region 1 with fail
 simp only[←hX,←hV];clear hX hV;refine wp_region_lit ?_;have EW:Hid (IntKind.i64.wrap (a5+b5)=wrap64 (a5+b5)):=IntWalk.i64_left _
 iterate 20 (refine wpList_step fun K hK=>?_;go_simp;refine hK _ _ ?_;clear hK K;try simp only[Act.put,List.setIfInBounds_toArray,List.set_cons_zero,List.set_cons_succ])
 refine wpList_store_mid rfl 47 (.tmp 4) (.tmp 24) rfl (X+2) 0 #[.int .i64 a1,.int .i64 (max a2 b2),.int .i64 (min a3 b3),.int .i64 b4,.int .i64 (IntKind.i64.wrap (a5+b5))] rfl rfl (there5 HR.out) (by kernel_rfl) (by simp[Value.oneCell']) ?_
 have HS:=hidT (stored5 (.int .i64 a1) (.int .i64 (max a2 b2)) (.int .i64 (min a3 b3)) (.int .i64 b4) (.int .i64 (IntKind.i64.wrap (a5+b5))) HR.out);have UP:Hid (Below w.heap.size w (V.setCells (X+2) 0 [.int .i64 a1,.int .i64 (max a2 b2),.int .i64 (min a3 b3),.int .i64 b4,.int .i64 (IntKind.i64.wrap (a5+b5))])):=HB.out.grown (wak.wAh (X+2) _ _ _) HB.out.size (fun k hk=>by cases hk;rw[HX.out];omega)
 show wpList _ _ _ _ _ (V.setCells (X+2) 0 [.int .i64 a1,.int .i64 (max a2 b2),.int .i64 (min a3 b3),.int .i64 b4,.int .i64 (IntKind.i64.wrap (a5+b5))])
 generalize V.setCells (X+2) 0 [.int .i64 a1,.int .i64 (max a2 b2),.int .i64 (min a3 b3),.int .i64 b4,.int .i64 (IntKind.i64.wrap (a5+b5))]=W9 at HS UP ⊢;obtain⟨y0,y1,y2,y3,y4⟩:=row5 HS.out;go_wp2_with fail;exact jN (v:=.agg #[.int .i64 a1,.int .i64 (max a2 b2),.int .i64 (min a3 b3),.int .i64 b4,.int .i64 (IntKind.i64.wrap (a5+b5))]) (by simp[results,results46,go_sem,y0,y1,y2,y3,y4]) rfl ⟨by rw[EW.out],UP.out⟩
theorem frz5{w:World}{b:Nat}{z0 z1 z2 z3 z4:Value}{t:TypeId}(h:w.heap[b]?=some (.cells #[z0,z1,z2,z3,z4] t (0,0))):w.frozen? ⟨b,0,none⟩=false∧w.frozen? ⟨b,1,none⟩=false∧w.frozen? ⟨b,2,none⟩=false∧w.frozen? ⟨b,3,none⟩=false∧w.frozen? ⟨b,4,none⟩=false:=
 ⟨by simp[World.frozen?,h],by simp[World.frozen?,h],by simp[World.frozen?,h],by simp[World.frozen?,h],by simp[World.frozen?,h]⟩
theorem zKo(g off c:Nat)(t:T)(r:List T)(w:World)(hn:r.length+1≤c)(hc:c≤9223372036854775807)
  (h0:∀i v,(tV t)[i]?=some v→w.cell? ⟨g,off+i,none⟩=some v)
  (hr:∀j,j<r.length→∀i v,(tV r[j]!)[i]?=some v→w.cell? ⟨g,off+6+j*6+i,none⟩=some v) :
  Calls prog 23 #[.slice (some ⟨g,off,none⟩) (r.length+1) c] w fun e w'=>e=.returned (.agg (bV (barF (sgl t) r)).toArray)∧Below w.heap.size w w':=by
 obtain⟨n,hN⟩:∃n,r.length=n:=⟨_,rfl⟩;have HN:=hidT hN;obtain⟨R,hR⟩:∃R,R=barF (sgl t) r:=⟨_,rfl⟩;simp only[hN,←hR] at hn ⊢;have gJ:=hidT hR;clear hR;obtain⟨X,hX⟩:∃x,x=w.heap.size:=⟨_,rfl⟩;obtain⟨V0,Gf⟩:∃V,V=w.alloc (.cells #[.int .i64 0,.int .i64 0,.int .i64 0,.int .i64 0,.int .i64 0] 47):=⟨_,rfl⟩;have Gq:Hid (Below w.heap.size w V0):=by rw[Gf];exact(bzR _ _).alloc (nzR _) _
 have en:Hid (V0.heap[X]?=some (.cells #[.int .i64 0,.int .i64 0,.int .i64 0,.int .i64 0,.int .i64 0] 47 (0,0))):=by
  rw[hX,Gf];exact jA w _
 have HXS:Hid (X=w.heap.size∧V0.heap.size=X+1):=by rw[Gf,hX];exact⟨rfl,World.size_alloc _ _⟩
 obtain⟨t1,t2,t3,t4,t5,t6⟩:=t;have c0:=zAa Gq.out (h0 0 _ rfl);have c1:=zAa Gq.out (h0 1 _ rfl);have c2:=zAa Gq.out (h0 2 _ rfl);have c3:=zAa Gq.out (h0 3 _ rfl);have c4:=zAa Gq.out (h0 4 _ rfl);have c5:=zAa Gq.out (h0 5 _ rfl);simp only[Nat.add_zero] at c0;have MX:Hid (∀W,Below w.heap.size w W→∀j,j<r.length→∀i v,(tV r[j]!)[i]?=some v→W.cell? ⟨g,off+6+j*6+i,none⟩=some v):=fun W hW j hj i v hv=>zAa hW (hr j hj i v hv)
 have hnz:¬((n+1:Nat):Int)≤0:=by omega
 have cZ:=hidT (zEL t1 t2 t3 t4 t5 t6 V0);clear hr h0;go_enter func23,ntmps23;go_upto_region 1 with fail
 simp only[←hX,←Gf];clear hX Gf;go_upto_region 2 with (go_at_call 45;refine cZ.out.mono ?_;rintro e w1 ⟨rfl,Hc⟩)
 obtain⟨Y,hY⟩:∃y,y=w1.heap.size:=⟨_,rfl⟩;obtain⟨W1,H7⟩:∃V,V=w1.alloc (.cells #[.int .i64 t5,.int .i64 t5,.int .i64 t5,.int .i64 t5,.int .i64 t6] 47):=⟨_,rfl⟩;have He:Hid (Below w.heap.size w w1):=Gq.out.trans (Hc.mono Gq.out.size);have GW:Hid (w1.heap[X]?=some (.cells #[.int .i64 0,.int .i64 0,.int .i64 0,.int .i64 0,.int .i64 0] 47 (0,0))∧X<Y):=by
  have h1:=HXS.out.2;have h2:=Hc.size;refine⟨(Hc.block X (by omega)).trans en.out,by omega⟩
 have dj:Hid (W1.heap[Y]?=some (.cells #[.int .i64 t5,.int .i64 t5,.int .i64 t5,.int .i64 t5,.int .i64 t6] 47 (0,0))∧Below Y w1 W1∧Y<W1.heap.size):=by
  rw[H7,hY];exact⟨jA w1 _,(bzR _ _).alloc (nzR _) _,by rw[World.size_alloc];omega⟩
 simp only[←hY,←H7];have HYS:=hidT hY;clear hY H7 Hc Gq en cZ c0 c1 c2 c3 c4 c5;go_cut [11,12,13] from 10 to 13 (fun s11 s12 s13 wx=>∃q' c',s11=.slice q' n c'∧s12=.int .i64 n∧s13=.int .i64 0∧(0<n→q'=some ⟨g,off+6,none⟩)∧W1=wx)
 case first=>
  have e1:((n+1:Nat):Int) - 1=(n:Int):=by omega
  by_cases Gn:c=1
  ·subst Gn;obtain rfl:n=0:=by omega
   go_wp2_with fail;go_meet;exact⟨_,_,rfl,rfl,rfl,fun h=>absurd h (by omega),rfl⟩
  ·go_wp2_with fail;go_meet;exact⟨_,_,rfl,rfl,rfl,fun h=>rfl,rfl⟩
 case rest=>
 obtain⟨q',c',rfl,rfl,rfl,EZ,rfl⟩:=hcut;have HQ:=hidT EZ;clear EZ;go_wp2_with fail;go_loopg [5,13] n (fun gg s5 s13 wr=>∃kk:Nat,kk≤n∧n - kk≤gg∧s13=.int .i64 kk∧Aside (Below Y w1 wr∧Y<wr.heap.size∧wr.heap[Y]?=some (.cells (bV (barF ⟨t5,t5,t5,t5,t6⟩ (r.take kk))).toArray 47 (0,0))))
 case atStart=>exact⟨0,jL _,by omega,rfl,dj.out.2.1,dj.out.2.2,dj.out.1⟩
 case round=>
  obtain⟨kk,gd,hg,rfl,HA⟩:=hrel;by_cases Hi:kk<n
  ·have Hp:(kk:Int)<(n:Int):=by omega
   have gR:¬((kk:Int)<0):=by omega
   have Hs:kk<r.length:=by rw[HN.out];exact Hi
   obtain rfl:=HQ.out (by omega)
   have gF:Hid (Below w.heap.size w wr):=He.out.trans (HA.out.1.mono (by rw[HYS.out];exact He.out.size))
   have gL:=MX.out wr gF.out kk Hs;have hbt:=zNh (a:=⟨t5,t5,t5,t5,t6⟩) Hs;obtain⟨x,hx⟩:∃x,r[kk]! = x:=⟨_,rfl⟩;rw[hx] at gL hbt;obtain⟨x1,x2,x3,x4,x5,x6⟩:=x;have mh:=hidT HA.out;generalize barF ⟨t5,t5,t5,t5,t6⟩ (r.take kk)=acc at *;obtain⟨o,h,l,cl,qt⟩:=acc;have C3:=hidT hbt;have Hd:wr.heap[Y]?=some (.cells #[.int .i64 o,.int .i64 h,.int .i64 l,.int .i64 cl,.int .i64 qt] 47 (0,0)):=mh.out.2.2;obtain⟨r0,r1,r2,r3,r4⟩:=row5 Hd;have c0:=gL 0 _ rfl;have c1:=gL 1 _ rfl;have c2:=gL 2 _ rfl;have c3:=gL 3 _ rfl;have c4:=gL 4 _ rfl;have c5:=gL 5 _ rfl;simp only[Nat.add_zero] at c0;have bm:=hidT (wrapSucc kk n Hi (by omega))
   have ug:Hid (kk<n∧n - kk≤gk):=⟨Hi,hg⟩;have U1:=hidT Hd;clear gL hx gd hg Hi hbt HA Hd;go_upto_region 5 with fail
   obtain⟨Z,hZ⟩:∃z,z=wr.heap.size:=⟨_,rfl⟩;obtain⟨V,hV⟩:∃V,V=wr.alloc (.cells #[.int .i64 x1,.int .i64 x2,.int .i64 x3,.int .i64 x4,.int .i64 x5,.int .i64 x6] 38):=⟨_,rfl⟩;have gc:Below wr.heap.size wr V:=by rw[hV];exact(bzR _ _).alloc (nzR _) _
   have hZR:V.heap[Z]?=some (.cells #[.int .i64 x1,.int .i64 x2,.int .i64 x3,.int .i64 x4,.int .i64 x5,.int .i64 x6] 38 (0,0)):=by rw[hV,hZ];exact jA wr _
   have Ej:V.heap[Y]?=some (.cells #[.int .i64 o,.int .i64 h,.int .i64 l,.int .i64 cl,.int .i64 qt] 47 (0,0)):=(gc.block Y mh.out.2.1).trans U1.out;have ue:Hid (Below Y w1 V∧Y<V.heap.size):=⟨mh.out.1.trans (gc.mono (jX mh.out.2.1)),jC mh.out.2.1 gc.size⟩;have SO:Hid (∀W,Below V.heap.size V W→(W.heap[Y]?=some (.cells #[.int .i64 o,.int .i64 h,.int .i64 l,.int .i64 cl,.int .i64 qt] 47 (0,0))∧W.cell? ⟨Y,0,none⟩=some (.int .i64 o)∧W.cell? ⟨Y,1,none⟩=some (.int .i64 h)∧W.cell? ⟨Y,2,none⟩=some (.int .i64 l)∧W.cell? ⟨Y,3,none⟩=some (.int .i64 cl)∧W.cell? ⟨Y,4,none⟩=some (.int .i64 qt))∧W.cell? ⟨Z,0,none⟩=some (.int .i64 x1)∧W.cell? ⟨Z,1,none⟩=some (.int .i64 x2)∧W.cell? ⟨Z,2,none⟩=some (.int .i64 x3)∧W.cell? ⟨Z,3,none⟩=some (.int .i64 x4)∧W.cell? ⟨Z,4,none⟩=some (.int .i64 x5)∧W.cell? ⟨Z,5,none⟩=some (.int .i64 x6)):=by
    intro W hW;have h1:W.heap[Y]?=_:=(hW.block Y (gzE.1 Ej).1).trans Ej;have h2:W.heap[Z]?=_:=(hW.block Z (gzE.1 hZR).1).trans hZR;exact⟨⟨h1,row5 h1⟩,by simp[World.cell?,h2],by simp[World.cell?,h2],by simp[World.cell?,h2],by simp[World.cell?,h2],by simp[World.cell?,h2],by simp[World.cell?,h2]⟩
   have Ca:Hid (∀W,Below V.heap.size V W→Calls prog 45 #[.agg #[.int .i64 x1,.int .i64 x2,.int .i64 x3,.int .i64 x4,.int .i64 x5,.int .i64 x6]] W fun e w'=>e=.returned (.agg #[.int .i64 x5,.int .i64 x5,.int .i64 x5,.int .i64 x5,.int .i64 x6])∧Below V.heap.size V w'):=fun W hW=>(zEL x1 x2 x3 x4 x5 x6 W).mono fun _ _ h'=>⟨h'.1,hW.trans (h'.2.mono hW.size)⟩
   have C1:Hid (∀W,Below V.heap.size V W→Calls prog 46 #[.agg #[.int .i64 o,.int .i64 h,.int .i64 l,.int .i64 cl,.int .i64 qt],.agg #[.int .i64 x5,.int .i64 x5,.int .i64 x5,.int .i64 x5,.int .i64 x6]] W fun e w'=>e=.returned (.agg #[.int .i64 o,.int .i64 (max h x5),.int .i64 (min l x5),.int .i64 x5,.int .i64 (wrap64 (qt+x6))])∧Below V.heap.size V w'):=fun W hW=>(zIh o h l cl qt x5 x5 x5 x5 x6 W).mono fun _ _ h'=>⟨h'.1,hW.trans (h'.2.mono hW.size)⟩
   have uE:Hid (∀W,Below V.heap.size V W→Below Y w1 (((((W.setCell ⟨Y,0,none⟩ (.int .i64 o)).setCell ⟨Y,1,none⟩ (.int .i64 (max h x5))).setCell ⟨Y,2,none⟩ (.int .i64 (min l x5))).setCell ⟨Y,3,none⟩ (.int .i64 x5)).setCell ⟨Y,4,none⟩ (.int .i64 (wrap64 (qt+x6))))∧Y<(((((W.setCell ⟨Y,0,none⟩ (.int .i64 o)).setCell ⟨Y,1,none⟩ (.int .i64 (max h x5))).setCell ⟨Y,2,none⟩ (.int .i64 (min l x5))).setCell ⟨Y,3,none⟩ (.int .i64 x5)).setCell ⟨Y,4,none⟩ (.int .i64 (wrap64 (qt+x6)))).heap.size∧(((((W.setCell ⟨Y,0,none⟩ (.int .i64 o)).setCell ⟨Y,1,none⟩ (.int .i64 (max h x5))).setCell ⟨Y,2,none⟩ (.int .i64 (min l x5))).setCell ⟨Y,3,none⟩ (.int .i64 x5)).setCell ⟨Y,4,none⟩ (.int .i64 (wrap64 (qt+x6)))).heap[Y]?=some (.cells #[.int .i64 o,.int .i64 (max h x5),.int .i64 (min l x5),.int .i64 x5,.int .i64 (wrap64 (qt+x6))] 47 (0,0))):=by
    intro W hW;have h1:W.heap[Y]?=_:=(hW.block Y (gzE.1 Ej).1).trans Ej;have h2:=set5 (b0:=.int .i64 o) (b1:=.int .i64 (max h x5)) (b2:=.int .i64 (min l x5)) (b3:=.int .i64 x5) (b4:=.int .i64 (wrap64 (qt+x6))) h1;exact⟨low5 (ue.out.1.trans (hW.mono (jX ue.out.2))) (nzR _),(gzE.1 h2).1,h2⟩
   simp only[←hZ,←hV];clear hZ hV gc hZR Ej c0 c1 c2 c3 c4 c5 r0 r1 r2 r3 r4 U1 mh gF;obtain⟨⟨-,r0,r1,r2,r3,r4⟩,c0,c1,c2,c3,c4,c5⟩:=SO.out V (bzR _ _)
   go_region_law (go_simp;go_wp2_with (first|(go_at_call 45;with_reducible refine(Ca.out _ ?_).mono ?_;(with_reducible repeat' (first|assumption|refine bal ?_ _|refine Below.drew ?_|exact bzR _ _|exact nzR _));rintro e W2 ⟨rfl,Ha⟩;obtain⟨⟨-,p0,p1,p2,p3,p4⟩,-⟩:=SO.out W2 Ha)|(go_at_call 46;with_reducible refine(C1.out _ ?_).mono ?_;(with_reducible repeat' (first|assumption|refine bal ?_ _|refine Below.drew ?_|exact bzR _ _|exact nzR _));rintro e W3 ⟨rfl,Hr⟩;obtain⟨⟨q5,q0,q1,q2,q3,q4⟩,-⟩:=SO.out W3 Hr;obtain⟨f0,f1,f2,f3,f4⟩:=frz5 q5)))
   all_goals
    obtain⟨k1,k2,k3⟩:=uE.out _ Hr;generalize (((((W3.setCell ⟨Y,0,none⟩ (.int .i64 o)).setCell ⟨Y,1,none⟩ (.int .i64 (max h x5))).setCell ⟨Y,2,none⟩ (.int .i64 (min l x5))).setCell ⟨Y,3,none⟩ (.int .i64 x5)).setCell ⟨Y,4,none⟩ (.int .i64 (wrap64 (qt+x6))))=W9 at k1 k2 k3 ⊢;have HK:Hid (Below Y w1 W9∧Y<W9.heap.size∧W9.heap[Y]?=some (.cells (bV (barF ⟨t5,t5,t5,t5,t6⟩ (r.take (kk+1)))).toArray 47 (0,0))):=(by rw[C3.out];exact⟨k1,k2,k3⟩);clear k1 k2 k3 Ha Hr p0 p1 p2 p3 p4 q0 q1 q2 q3 q4 q5 f0 f1 f2 f3 f4 uE SO C1 Ca c0 c1 c2 c3 c4 c5 r0 r1 r2 r3 r4;go_wp2_with fail;go_roundg (n - (kk+1))
    case measure=>have:=ug.out;omega
    case rel=>exact⟨kk+1,ug.out.1,nzR _,by first|exact congrArg (Value.int .i64) bm.out|go_num|simp,HK.out⟩
  ·obtain rfl:kk=n:=by omega
   have Hp:¬(kk:Int)<(kk:Int):=by omega
   have mh:=HA.out;clear HA;rw[List.take_of_length_le (by rw[HN.out];exact nzR _)] at mh
   obtain⟨k1,k2,k3⟩:=mh;have PU:Hid (wr.heap[X]?=some (.cells #[.int .i64 0,.int .i64 0,.int .i64 0,.int .i64 0,.int .i64 0] 47 (0,0))):=(k1.block X GW.out.2).trans GW.out.1;have gF:Hid (Below w.heap.size w wr):=He.out.trans (k1.mono (by rw[HYS.out];exact He.out.size))
   have HXB:Hid (w.heap.size≤X):=Nat.le_of_eq HXS.out.1.symm;rw[show barF ⟨t5,t5,t5,t5,t6⟩ r=R from gJ.out.symm] at k3
   obtain⟨o,h,l,cl,qt⟩:=R;have C7:Hid (wr.heap[Y]?=some (.cells #[.int .i64 o,.int .i64 h,.int .i64 l,.int .i64 cl,.int .i64 qt] 47 (0,0))):=k3;obtain⟨r0,r1,r2,r3,r4⟩:=row5 C7.out;clear k1 k2 k3 gd hg Hi gJ;go_upto_region 7 with fail
   refine wp_region_lit ?_
   iterate 1 (refine wpList_step fun K hK=>?_;go_simp;refine hK _ _ ?_;clear hK K;try simp only[Act.put,List.setIfInBounds_toArray,List.set_cons_zero,List.set_cons_succ])
   refine wpList_store_mid rfl 47 (.tmp 2) (.tmp 22) rfl X 0 #[.int .i64 o,.int .i64 h,.int .i64 l,.int .i64 cl,.int .i64 qt] rfl rfl (there5 PU.out) (by kernel_rfl) (by simp[Value.oneCell']) ?_
   have HS:=hidT (stored5 (.int .i64 o) (.int .i64 h) (.int .i64 l) (.int .i64 cl) (.int .i64 qt) PU.out);have UP:Hid (Below w.heap.size w (wr.setCells X 0 [.int .i64 o,.int .i64 h,.int .i64 l,.int .i64 cl,.int .i64 qt])):=gF.out.grown (wak.wAh X _ _ _) gF.out.size (fun k hk=>by cases hk;exact HXB.out)
   show wpList _ _ _ _ _ (wr.setCells X 0 [.int .i64 o,.int .i64 h,.int .i64 l,.int .i64 cl,.int .i64 qt])
   generalize wr.setCells X 0 [.int .i64 o,.int .i64 h,.int .i64 l,.int .i64 cl,.int .i64 qt]=W9 at HS UP ⊢;clear r0 r1 r2 r3 r4;obtain⟨y0,y1,y2,y3,y4⟩:=row5 HS.out;go_wp2_with fail;exact jN (v:=.agg #[.int .i64 o,.int .i64 h,.int .i64 l,.int .i64 cl,.int .i64 qt]) (by simp[results,results23,go_sem,y0,y1,y2,y3,y4]) rfl ⟨rfl,UP.out⟩
theorem zNi(v:Value)(zs:List T)(w:World)(h:TL w v zs)(h1:0<zs.length) :
  Calls prog 23 #[v] w fun e w'=>e=.returned (.agg (bV (zDC zs)).toArray)∧Bw w w':=by
 rcases h with ⟨_,rfl⟩|⟨b,o,c,rfl,h2,h3,h4,h5⟩
 ·simp at h1
 ·cases zs with
  | nil=>simp at h1
  | cons t r=>
   refine zKo b o c t r w (by simpa using h2) h3 (fun i v hv=>?_) (fun j hj i v hv=>?_)
   ·have:=h5 0 (by simp) i v (by simpa using hv)
    simpa using this
   ·have:=h5 (j+1) (by simpa using hj) i v (by simpa using hv)
    rwa [show o+(j+1)*6+i=o+6+j*6+i by omega] at this
end bar
end Go.Proofs.YtnfilcpnneckkaaGreat
