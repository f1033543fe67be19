import Derived.Test.YtnfilcpnneckkaaGreatWakPure
set_option maxHeartbeats 2000000
set_option maxRecDepth 100000
namespace Go.Proofs.YtnfilcpnneckkaaGreat
open Tryz
namespace wak
open Go.RowKit ord Go.Sort Go.Lib
open spn (zAa bcell)
theorem hidQ{P:Prop}(h:P):Hid P:=h
theorem zQU(a1 a2 a3 a4 a5 a6 a7 a8 b1 b2 b3 b4 b5 b6 b7 b8:Int)(h:¬a3=b3)(W:World):Calls prog 171 #[.agg #[.int .i64 a1,.int .i64 a2,.int .i64 a3,.int .i64 a4,.int .i64 a5,.int .i64 a6,.int .i64 a7,.int .i64 a8],.agg #[.int .i64 b1,.int .i64 b2,.int .i64 b3,.int .i64 b4,.int .i64 b5,.int .i64 b6,.int .i64 b7,.int .i64 b8]] W fun e w'=>e=.returned (.int .i64 (cf ⟨a1,a2,a3,a4,a5,a6,a7,a8⟩ ⟨b1,b2,b3,b4,b5,b6,b7,b8⟩))∧∃q os',w'=grow (W.drewN q) os':=by
 have Hf:=fun W'=>AnyG.cmp_Compare_int Tryz.lcmp a3 b3 W'
 change ∀W',Calls prog 172 _ _ _ at Hf
 have he:cf ⟨a1,a2,a3,a4,a5,a6,a7,a8⟩ ⟨b1,b2,b3,b4,b5,b6,b7,b8⟩=Lib.compareInt a3 b3:=by unfold cf;rw[if_neg h]
 rw[he];clear he;generalize Lib.compareInt a3 b3=r at Hf ⊢;have e1:(a3 != b3)=true:=by simp[h]
 go_enter func171,ntmps171;go_wp2_with (go_at_call 172;refine(Hf _).mono ?_;rintro e w' ⟨rfl,rfl⟩)
 go_ret;exact⟨rfl,0,_,by rw[alloc_eq_grow,alloc_eq_grow,grow_grow];rfl⟩
theorem zOQ(a1 a2 a3 a4 a5 a6 a7 a8 b1 b2 b3 b4 b5 b6 b7 b8:Int)(h:a3=b3)(h1:a3=1)(W:World):Calls prog 171 #[.agg #[.int .i64 a1,.int .i64 a2,.int .i64 a3,.int .i64 a4,.int .i64 a5,.int .i64 a6,.int .i64 a7,.int .i64 a8],.agg #[.int .i64 b1,.int .i64 b2,.int .i64 b3,.int .i64 b4,.int .i64 b5,.int .i64 b6,.int .i64 b7,.int .i64 b8]] W fun e w'=>e=.returned (.int .i64 (cf ⟨a1,a2,a3,a4,a5,a6,a7,a8⟩ ⟨b1,b2,b3,b4,b5,b6,b7,b8⟩))∧∃q os',w'=grow (W.drewN q) os':=by
 have Hf:=fun W'=>AnyG.cmp_Compare_int Tryz.lcmp a8 b8 W'
 change ∀W',Calls prog 172 _ _ _ at Hf
 have he:cf ⟨a1,a2,a3,a4,a5,a6,a7,a8⟩ ⟨b1,b2,b3,b4,b5,b6,b7,b8⟩=Lib.compareInt a8 b8:=by subst h1;subst h;unfold cf;rw[if_pos rfl,if_pos rfl]
 rw[he];clear he;generalize Lib.compareInt a8 b8=r at Hf ⊢;subst h1;subst h;go_enter func171,ntmps171;go_wp2_with (go_at_call 172;refine(Hf _).mono ?_;rintro e w' ⟨rfl,rfl⟩)
 go_ret;exact⟨rfl,0,_,by rw[alloc_eq_grow,alloc_eq_grow,grow_grow];rfl⟩
theorem zMc(a1 a2 a3 a4 a5 a6 a7 a8 b1 b2 b3 b4 b5 b6 b7 b8:Int)(h:a3=b3)(h1:¬a3=1)(W:World):Calls prog 171 #[.agg #[.int .i64 a1,.int .i64 a2,.int .i64 a3,.int .i64 a4,.int .i64 a5,.int .i64 a6,.int .i64 a7,.int .i64 a8],.agg #[.int .i64 b1,.int .i64 b2,.int .i64 b3,.int .i64 b4,.int .i64 b5,.int .i64 b6,.int .i64 b7,.int .i64 b8]] W fun e w'=>e=.returned (.int .i64 (cf ⟨a1,a2,a3,a4,a5,a6,a7,a8⟩ ⟨b1,b2,b3,b4,b5,b6,b7,b8⟩))∧∃q os',w'=grow (W.drewN q) os':=by
 have Hf:=fun W'=>AnyG.cmp_Compare_int Tryz.lcmp b8 a8 W'
 change ∀W',Calls prog 172 _ _ _ at Hf
 have he:cf ⟨a1,a2,a3,a4,a5,a6,a7,a8⟩ ⟨b1,b2,b3,b4,b5,b6,b7,b8⟩=Lib.compareInt b8 a8:=by subst h;unfold cf;rw[if_pos rfl,if_neg h1]
 rw[he];clear he;generalize Lib.compareInt b8 a8=r at Hf ⊢;subst h;have e1:(a3 == 1)=false:=by simp[h1]
 go_enter func171,ntmps171;go_wp2_with (go_at_call 172;refine(Hf _).mono ?_;rintro e w' ⟨rfl,rfl⟩)
 go_ret;exact⟨rfl,0,_,by rw[alloc_eq_grow,alloc_eq_grow,grow_grow];rfl⟩
theorem zOR(x y:O)(W:World):Calls prog 171 #[.agg (oL x).toArray,.agg (oL y).toArray] W fun e w'=>e=.returned (.int .i64 (cf x y))∧∃q os',w'=grow (W.drewN q) os':=by
 obtain⟨a1,a2,a3,a4,a5,a6,a7,a8⟩:=x;obtain⟨b1,b2,b3,b4,b5,b6,b7,b8⟩:=y;by_cases h:a3=b3
 ·by_cases h1:a3=1
  ·exact zOQ a1 a2 a3 a4 a5 a6 a7 a8 b1 b2 b3 b4 b5 b6 b7 b8 h h1 W
  ·exact zMc a1 a2 a3 a4 a5 a6 a7 a8 b1 b2 b3 b4 b5 b6 b7 b8 h h1 W
 ·exact zQU a1 a2 a3 a4 a5 a6 a7 a8 b1 b2 b3 b4 b5 b6 b7 b8 h W
theorem zMd(blk off size:Nat)(w:World):CmpLays prog 171 #[] oL 8 cf blk off size w:=fun _ _ _ _ x y=>zOR x y _
def ins(a b:Nat)(zs:List O):List O:=(insertionSort (ltOf cf) zs.toArray a b).toList
theorem zQV(a b:Nat)(zs:List O)(h:a≤b)(hb:b≤zs.length):(ins a b zs).length=zs.length:=by
 have:=((insertionSort_holds (lt:=ltOf cf)) cf_swo zs.toArray a b h (by simpa using hb)).1.1
 unfold ins;simpa using this
theorem zFj(zs:List O)(t:Nat)(h:t<zs.length*8):(flat zs)[t]?=some (flatK oL 8 zs.toArray)[t]!:=by
 rw[get_flatK oL 8 zs.toArray t (by simpa using h)]
 have e:t=t / 8*8+t % 8:=by omega
 have h8:t % 8<8:=by omega
 conv=>lhs;rw[e]
 rw[wAA zs (t / 8) (by omega) (t % 8) h8]
 have hl:(oL zs[t / 8]!).length=8:=rfl;rw[List.getElem?_eq_getElem (by rw[hl];exact h8)]
 have hs:zs.toArray[t / 8]! = zs[t / 8]!:=by simp
 rw[hs]
 congr 1
 exact(getElem!_pos (oL zs[t / 8]!) (t % 8) (by rw[hl];exact h8)).symm
theorem zGT{w:World}{base g off cap:Nat}{zs:List O}(h:OwnQ w base (.slice (some ⟨g,off,none⟩) zs.length cap) zs):HoldsK oL 8 w g off zs.toArray:=by
 obtain⟨h1,h2,-,h4,h5,h6,h7⟩:=wAk h;intro j hj;have hj' : j<zs.length*8:=by simpa using hj
 refine⟨?_,(h7 j (jC hj' (Nat.mul_le_mul_right 8 h4))).2⟩;exact h6 j _ (zFj zs j hj')
theorem zJS{w:World}{base g off cap n:Nat}{os:Array Obj}{zs ys:List O}(h:OwnQ w base (.slice (some ⟨g,off,none⟩) zs.length cap) zs)(hl:ys.length=zs.length) :
  OwnQ (sortWorldK oL 8 w g off n ys.toArray os) base (.slice (some ⟨g,off,none⟩) zs.length cap) ys∧w.grownBy (sortWorldK oL 8 w g off n ys.toArray os) (some g):=by
 obtain⟨h1,h2,⟨cur,h3,h3'⟩,h4,h5,h6,h7⟩:=wAk h;have hg:g<w.heap.size:=(gzE.1 h3).1;have hH:=holdsK_sortWorldK_c oL 8 w g off zs.toArray ys.toArray n os (zGT h) hg (by simpa using hl)
 have hb:(sortWorldK oL 8 w g off n ys.toArray os).heap[g]?=some (.cells (putCells id off (flatK oL 8 ys.toArray) cur) 34 (0,0)):=by
  unfold sortWorldK putRowK;rw[heap_grow_old _ _ (by simpa [Sort.ahead] using hg)]
  simp[putRow,mapBlock,Sort.ahead,Array.getElem?_modify,h3,onCells]
 refine⟨?_,rfl,rfl,rfl,by unfold sortWorldK putRowK;simp[Sort.ahead],fun k hk H8=>?_⟩
 ·show OwnM _ _ _ _ _ _ _
  rw[hl];refine wAO (by rw[wAl,hl]) h2 hb (by simpa [putCells] using h3') h4 h5 fun j u hu=>?_
  have hj:j<ys.length*8:=by rw[←wAl];exact(List.getElem?_eq_some_iff.1 hu).1
  rw[zFj ys j hj] at hu;cases hu;exact(hH j (by simpa using hj)).1
 ·unfold sortWorldK putRowK;rw[heap_grow_old _ _ (by simpa [Sort.ahead] using hk)]
  have:g≠k:=fun e=>H8 (by rw[e])
  simp[putRow,mapBlock,Sort.ahead,Array.getElem?_modify,this]
theorem zHS(w:World)(base g off cap a b:Nat)(zs:List O)(h:OwnQ w base (.slice (some ⟨g,off,none⟩) zs.length cap) zs)(uQ:a≤b)(hb:b≤zs.length)(hz:zs.length≤1000) :
  Calls prog 179 #[.slice (some ⟨g,off,none⟩) zs.length cap,.int .i64 a,.int .i64 b,.func (.func 171) #[] #[]] w fun e w'=>e=.returned (.tuple #[])∧OwnQ w' base (.slice (some ⟨g,off,none⟩) zs.length cap) (ins a b zs)∧w.grownBy w' (some g):=by
 have eg:∀args w,(callFunc 171 args).run prog w=.ok (.enter 171 args) w:=enters_of func171 (by kernel_rfl) rfl
 obtain⟨-,-,⟨cur,h3,-⟩,h4,h5,-,-⟩:=wAk h;have Hf:=AnyQ.insertionSortCmpFunc Tryz.lins 8 isAgg34 sizeOf34 oL (fun _=>rfl) (fun x v hv=>by
   simp only[oL,List.mem_cons,List.not_mem_nil,or_false] at hv;rcases hv with rfl|rfl|rfl|rfl|rfl|rfl|rfl|rfl <;>rfl) cf 171 #[] g off cap a b zs.toArray w eg (zMd g off _ w) (zGT h) (gzE.1 h3).1 uQ (by simpa using hb) (by rw[List.size_toArray];omega)
 change Calls prog 179 _ _ _ at Hf
 rw[List.size_toArray] at Hf;refine Hf.mono ?_;rintro e w'⟨rfl,n,os,rfl⟩;refine⟨rfl,?_⟩;have:=zJS (n:=n) (os:=os) h (zQV a b zs uQ hb);unfold ins at this ⊢;simpa using this
theorem zQW(w:World):Calls prog 179 #[.slice none 0 0,.int .i64 0,.int .i64 0,.func (.func 171) #[] #[]] w fun e w'=>e=.returned (.tuple #[])∧w'=w:=by
 go_enter func179,ntmps179
 go_wp2
 go_loopg [8] 0 (fun _ s8 wr=>s8=.int .i64 1∧wr=w)
 case atStart=>exact⟨rfl,rfl⟩
 case round=>
  obtain⟨rfl,rfl⟩:=hrel
  go_wp2
  go_end0
  exact⟨rfl,rfl⟩
theorem zMe(zs:List O):ins 0 zs.length zs=isort (ltOf cf) zs:=by unfold ins;rw[zLZ]
theorem zOS(n:Nat)(zs:List O):ins n n zs=zs:=by
 unfold ins insertionSort insOuter;rw[if_neg (by omega)]
def SrtPost(base:Nat)(v:Value)(zs:List O)(w w' : World):Prop:=OwnQ w' base v (isort (ltOf cf) zs)∧w.grownBy w' v.ownBlock
theorem zFk(n:Nat)(v:Value)(zs:List O)(base:Nat)(w:World)(hn:n<20)(hI:Calls prog 179 #[v,.int .i64 0,.int .i64 n,.func (.func 171) #[] #[]] w fun e w'=>e=.returned (.tuple #[])∧SrtPost base v zs w w') :
  Calls prog 175 #[v,.int .i64 n,.func (.func 171) #[] #[]] w fun e w'=>e=.returned (.tuple #[])∧SrtPost base v zs w w':=by
 have HI:=hidQ hI;have h1:¬(20:Int)≤(n:Int):=by omega
 have h2:¬(20:Int)<(n:Int):=by omega
 clear hI hn;go_enter func175,ntmps175;go_wp2_with fail;go_loopg [7,8] 0 (fun _ s7 s8 wr=>s7=.int .i64 0∧s8=.int .i64 20∧wr=w)
 case atStart=>exact⟨rfl,rfl,rfl⟩
 case round=>
  obtain⟨rfl,rfl,rfl⟩:=hrel;go_wp2_with fail;refine HI.out.mono ?_;rintro e w1⟨rfl,hp⟩;have HP:=hidQ hp;clear hp HI;go_wp2_with fail;go_loopg [6,7,8,9] 0 (fun _ s6 _ _ _ wr2=>s6=.int .i64 20∧wr2=w1)
  case atStart=>exact⟨rfl,rfl⟩
  case round=>
   obtain⟨rfl,rfl⟩:=hrel;go_wp2_with fail;go_end0
   exact⟨rfl,HP.out⟩
theorem zFR(v:Value)(zs:List O)(base:Nat)(w:World)(hI:Calls prog 179 #[v,.int .i64 0,.int .i64 20,.func (.func 171) #[] #[]] w fun e w'=>e=.returned (.tuple #[])∧SrtPost base v zs w w')
  (hJ:∀w1,SrtPost base v zs w w1→Calls prog 179 #[v,.int .i64 20,.int .i64 20,.func (.func 171) #[] #[]] w1 fun e w'=>e=.returned (.tuple #[])∧SrtPost base v zs w w') :
  Calls prog 175 #[v,.int .i64 20,.func (.func 171) #[] #[]] w fun e w'=>e=.returned (.tuple #[])∧SrtPost base v zs w w':=by
 have HI:=hidQ hI;have HJ:=hidQ hJ;clear hI hJ;go_enter func175,ntmps175;go_wp2_with fail;go_loopg [7,8] 1 (fun gg s7 s8 wr=>(s7=.int .i64 0∧s8=.int .i64 20∧wr=w∧1≤gg)∨(s7=.int .i64 20∧s8=.int .i64 40∧Aside (SrtPost base v zs w wr)))
 case atStart=>exact .inl ⟨rfl,rfl,rfl,nzR _⟩
 case round=>
  rcases hrel with ⟨rfl,rfl,rfl,hg⟩|⟨rfl,rfl,hp⟩
  ·go_wp2_with fail;refine HI.out.mono ?_;rintro e w1⟨rfl,hp⟩;have HP:=hidQ hp;clear hp HI;go_wp2_with fail;go_roundg 0
   case measure=>omega
   case rel=>exact .inr ⟨rfl,rfl,HP.out⟩
  ·go_wp2_with fail;refine(HJ.out _ hp.out).mono ?_;rintro e w1⟨rfl,hp⟩;have HP:=hidQ hp;clear hp HI HJ;go_wp2_with fail;go_loopg [6,7,8,9] 0 (fun _ s6 _ _ _ wr2=>s6=.int .i64 20∧wr2=w1)
   case atStart=>exact⟨rfl,rfl⟩
   case round=>
    obtain⟨rfl,rfl⟩:=hrel;go_wp2_with fail;go_end0
    exact⟨rfl,HP.out⟩
theorem zJT(v:Value)(zs:List O)(base:Nat)(w:World)(h:OwnQ w base v zs)(hl:zs.length≤20) :
  Calls prog 175 #[v,.int .i64 zs.length,.func (.func 171) #[] #[]] w fun e w'=>e=.returned (.tuple #[])∧SrtPost base v zs w w':=by
 have h0:=h;rcases h.2 with ⟨hv,hn⟩|⟨g,off,cap,cur,hv,-⟩
 ·subst hv;have:zs=[]:=List.eq_nil_of_length_eq_zero hn;subst this;exact zFk 0 _ [] base w (by omega) ((zQW w).mono fun e w' he=>⟨he.1,by rw[he.2];exact⟨h0,rfl,rfl,rfl,nzR _,fun _ _ _=>rfl⟩⟩)
 ·subst hv;by_cases h20:zs.length=20
  ·have hA:=zHS w base g off cap 0 zs.length zs h0 (by omega) (nzR _) (by omega)
   rw[zMe] at hA;rw[h20] at hA ⊢;refine zFR _ zs base w hA fun w1 hp=>?_
   have uM:(isort (ltOf cf) zs).length=20:=by rw[zGS,h20]
   have hq:=hp.1;have hB:=zHS w1 base g off cap 20 20 (isort (ltOf cf) zs) (by rw[uM];exact hq) (nzR _) (by omega) (by omega)
   rw[uM,zOS] at hB;exact hB.mono fun e w' he=>⟨he.1,he.2.1,wAd hp.2 he.2.2⟩
  ·have hA:=zHS w base g off cap 0 zs.length zs h0 (by omega) (nzR _) (by omega)
   rw[zMe] at hA;exact zFk zs.length _ zs base w (by omega) hA
theorem zJU(q:Option Addr)(n c:Nat)(zs:List O)(base:Nat)(w:World)(hn:n=zs.length)(h:OwnQ w base (.slice q n c) zs)(hl:n≤20) :
  Calls prog 157 #[.slice q n c] w fun e w'=>e=.returned (.tuple #[])∧SrtPost base (.slice q n c) zs w w':=by
 have HC:=hidQ (zJT _ zs base w h (by omega))
 rw[←hn] at HC;clear h hn hl;have HD:Hid (Calls prog 170 #[.slice q n c,.func (.func 171) #[] #[]] w fun e w'=>e=.returned (.tuple #[])∧SrtPost base (.slice q n c) zs w w'):=by
  show Calls _ _ _ _ _
  go_enter func170,ntmps170;go_wp2_with fail;refine HC.out.mono ?_;rintro e w1⟨rfl,hp⟩;have HP:=hidQ hp;clear hp HC;go_wp2_with fail;go_end0
  exact⟨rfl,HP.out⟩
 go_enter func157,ntmps157;go_wp2_with fail;refine HD.out.mono ?_;rintro e w1⟨rfl,hp⟩;have HP:=hidQ hp;clear hp HC HD;go_wp2_with fail;go_end0
 exact⟨rfl,HP.out⟩
end wak
namespace wak
open Go.RowKit ord
open spn (zAa bcell)
theorem hidP{P:Prop}(h:P):Hid P:=h
theorem zGU(o:O)(x:Int)(W:World):Calls prog 155 #[oV o,.int .i64 x] W fun e w'=>e=.returned (.bool (wkB x o))∧Bw W w':=by
 obtain⟨a1,a2,a3,a4,a5,a6,a7,a8⟩:=o;show Calls prog 155 #[.agg #[.int .i64 a1,.int .i64 a2,.int .i64 a3,.int .i64 a4,.int .i64 a5,.int .i64 a6,.int .i64 a7,.int .i64 a8],.int .i64 x] W _
 by_cases h:a3=1
 ·subst h;have e:wkB x ⟨a1,a2,1,a4,a5,a6,a7,a8⟩=decide (a8≤x):=by unfold wkB;rw[if_pos rfl]
  rw[e];clear e;go_enter func155,ntmps155
  go_wp2
  go_ret;exact⟨rfl,(bzR _ _).alloc (nzR _) _⟩
 ·have e:wkB x ⟨a1,a2,a3,a4,a5,a6,a7,a8⟩=decide (x≤a8):=by unfold wkB;rw[if_neg h]
  have e1:(a3 == 1)=false:=by simp[h]
  rw[e];clear e h;go_enter func155,ntmps155
  go_wp2
  go_ret;exact⟨rfl,(bzR _ _).alloc (nzR _) _⟩
theorem pred_1(x:Int)(o:O)(B:Nat)(W:World)(hB:B<W.heap.size)(hc:W.cell? ⟨B,0,none⟩=some (.int .i64 x)) :
  Calls prog 154 #[.agg (oL o).toArray,.pointer (some ⟨B,0,none⟩)] W fun e w'=>e=.returned (.bool (wkB x o))∧Bw W w':=by
 have hw:=fun W=>zGU o x W
 obtain⟨a1,a2,a3,a4,a5,a6,a7,a8⟩:=o;show Calls prog 154 #[.agg #[.int .i64 a1,.int .i64 a2,.int .i64 a3,.int .i64 a4,.int .i64 a5,.int .i64 a6,.int .i64 a7,.int .i64 a8],.pointer (some ⟨B,0,none⟩)] W _
 have HW:Hid (∀W,Calls prog 155 #[.agg #[.int .i64 a1,.int .i64 a2,.int .i64 a3,.int .i64 a4,.int .i64 a5,.int .i64 a6,.int .i64 a7,.int .i64 a8],.int .i64 x] W fun e w'=>e=.returned (.bool (wkB x ⟨a1,a2,a3,a4,a5,a6,a7,a8⟩))∧Bw W w'):=hw
 clear hw;generalize wkB x ⟨a1,a2,a3,a4,a5,a6,a7,a8⟩=r at *;go_enter func154,ntmps154;go_wp2_with fail;refine(HW.out _).mono ?_;rintro e w1⟨rfl,Hc⟩;have HB:=hidP (((bzR _ W).alloc (nzR _) _).trans (Hc.mono (by simp)))
 clear Hc hc;go_wp2_with fail;go_ret;exact⟨rfl,HB.out⟩
theorem pred_2(x:Int)(o:O)(B:Nat)(W:World)(hB:B<W.heap.size)(hc:W.cell? ⟨B,0,none⟩=some (.int .i64 x)) :
  Calls prog 156 #[.agg (oL o).toArray,.pointer (some ⟨B,0,none⟩)] W fun e w'=>e=.returned (.bool (!wkB x o))∧Bw W w':=by
 have hw:=fun W=>zGU o x W
 obtain⟨a1,a2,a3,a4,a5,a6,a7,a8⟩:=o;show Calls prog 156 #[.agg #[.int .i64 a1,.int .i64 a2,.int .i64 a3,.int .i64 a4,.int .i64 a5,.int .i64 a6,.int .i64 a7,.int .i64 a8],.pointer (some ⟨B,0,none⟩)] W _
 have HW:Hid (∀W,Calls prog 155 #[.agg #[.int .i64 a1,.int .i64 a2,.int .i64 a3,.int .i64 a4,.int .i64 a5,.int .i64 a6,.int .i64 a7,.int .i64 a8],.int .i64 x] W fun e w'=>e=.returned (.bool (wkB x ⟨a1,a2,a3,a4,a5,a6,a7,a8⟩))∧Bw W w'):=hw
 clear hw;generalize wkB x ⟨a1,a2,a3,a4,a5,a6,a7,a8⟩=r at *;go_enter func156,ntmps156;go_wp2_with fail;refine(HW.out _).mono ?_;rintro e w1⟨rfl,Hc⟩;have HB:=hidP (((bzR _ W).alloc (nzR _) _).trans (Hc.mono (by simp)))
 clear Hc hc;go_wp2_with fail;go_ret;exact⟨rfl,HB.out⟩
theorem part_1(x:Int)(B b p:Nat)(vq:Option Addr)(n vc:Nat)(os:List O)(w:World)(hn:n=os.length)(h:St w b p (.slice vq n vc) os)(hB:B<w.heap.size)(hc:w.cell? ⟨B,0,none⟩=some (.int .i64 x))(hl:n≤1000) :
  Calls prog 153 #[.pointer (some ⟨p,0,none⟩),.func (.func 154) #[] #[.pointer (some ⟨B,0,none⟩)]] w fun e w'=>∃q m c,e=.returned (.slice q m c)∧m=(os.filter (wkB x)).length∧OwnQ w' w.heap.size (.slice q m c) (os.filter (wkB x))∧Bw w w':=by
 have hpc:=h.cell;have HS:=hidP h;have HN:=hidP hn;have uX:Hid (∀W o,Bw w W→Calls prog 154 #[.agg (oL o).toArray,.pointer (some ⟨B,0,none⟩)] W fun e w'=>e=.returned (.bool (wkB x o))∧Bw W w'):=fun W o hW=>pred_1 x o B W (jC hB hW.size) (zAa hW hc)
 obtain⟨i0,gY,gE,gu,gA⟩:=infoR';have HI:=hidP gY;have HL:=hidP hl;have HX:Hid (0<n→∃g off,vq=some ⟨g,off,none⟩∧Lies w g off os):=fun hp=>by
  rcases h.own.sl with ⟨h1,h2⟩|⟨g,off,c,h1,h2,h3,h4,h5⟩
  ·cases h1;omega
  ·cases h1;exact⟨g,off,rfl,h5⟩
 clear h hn gY hl hB hc;go_enter func153,ntmps153;go_wp2_with fail;go_loopg [5,7,13] n (fun gg s5 _ s13 wr=>∃ (kk m:Nat) (q:Option Addr) (c:Nat),kk≤n∧n - kk≤gg∧s13=.int .i64 kk∧s5=.slice q m c∧Aside (m=((os.take kk).filter (wkB x)).length∧OwnQ wr w.heap.size (.slice q m c) ((os.take kk).filter (wkB x))∧Below w.heap.size w wr))
 case atStart=>exact⟨0,0,none,0,jL _,by omega,rfl,rfl,rfl,⟨rfl,.inl ⟨rfl,rfl⟩⟩,bzR _ _⟩
 case round=>
  obtain⟨kk,m,q,c,gd,hg,rfl,rfl,HA⟩:=hrel;by_cases Hi:kk<n
  ·have Hp:(kk:Int)<(n:Int):=by omega
   have gR:¬((kk:Int)<0):=by omega
   have Hs:kk<os.length:=by have:=HN.out;omega
   obtain⟨g,off,rfl,Pk⟩:=HX.out (by omega)
   obtain⟨o,ho⟩:∃o,os[kk]! = o:=⟨_,rfl⟩;have Hz:=hidP (fun W hW=>uX.out W o hW)
   have pl:Hid ((os.take (kk+1)).filter (wkB x)=(os.take kk).filter (wkB x)++(if (wkB x o)=true then [o] else [])):=by
    show _=_
    rw[←ho,getE _ _ Hs,List.take_succ_eq_append_getElem Hs,List.filter_append]
    congr 1
    rw[List.filter_cons,List.filter_nil]
   have HOL:=hidP (show oL o=oL o from rfl)
   obtain⟨y,hy⟩:∃y,(wkB x o)=y:=⟨_,rfl⟩;rw[hy] at Hz pl;have cel:∀i v,(oL o)[i]?=some v→wr.cell? ⟨g,off+kk*8+i,none⟩=some v:=fun i v hv=>zAa HA.out.2.2 (Pk kk Hs i v (by rw[ho];exact hv))
   clear hy ho Pk;obtain⟨a1,a2,a3,a4,a5,a6,a7,a8⟩:=o;have t0:=cel 0 _ rfl;have t1:=cel 1 _ rfl;have t2:=cel 2 _ rfl;have t3:=cel 3 _ rfl;have t4:=cel 4 _ rfl;have t5:=cel 5 _ rfl;have t6:=cel 6 _ rfl;have t7:=cel 7 _ rfl;simp only[Nat.add_zero] at t0;have pB:Hid (∀W,Bw w W→Calls prog 154 #[.agg #[.int .i64 a1,.int .i64 a2,.int .i64 a3,.int .i64 a4,.int .i64 a5,.int .i64 a6,.int .i64 a7,.int .i64 a8],.pointer (some ⟨B,0,none⟩)] W fun e w'=>e=.returned (.bool y)∧Bw W w'):=Hz.out
   have uD:=hidP (HA.out.2.2.alloc HA.out.2.2.size (.cells #[.int .i64 a1,.int .i64 a2,.int .i64 a3,.int .i64 a4,.int .i64 a5,.int .i64 a6,.int .i64 a7,.int .i64 a8] 34));have hR:=jA wr (.cells #[.int .i64 a1,.int .i64 a2,.int .i64 a3,.int .i64 a4,.int .i64 a5,.int .i64 a6,.int .i64 a7,.int .i64 a8] 34);have Br:=hidP (show ∀ (m:Nat),m≤kk→kk<n→n≤1000→m+1≤maxLen∧(m+1)*64≤140737488355328 from fun m h1 h2 h3=>by unfold maxLen;omega)
   have Uy:Hid (m≤kk∧kk<n∧n≤1000):=⟨by
    rw[HA.out.1];exact jM (List.length_filter_le _ _) (by rw[jJ];omega),Hi,HL.out⟩
   clear cel Hz uX HOL HX;go_wp2_with fail;refine(pB.out _ uD.out).mono ?_;rintro e w2⟨rfl,Ha⟩;have Hg:=hidP (uD.out.trans (Ha.mono uD.out.size));have gw:w2.heap[wr.heap.size]?=some (.cells #[.int .i64 a1,.int .i64 a2,.int .i64 a3,.int .i64 a4,.int .i64 a5,.int .i64 a6,.int .i64 a7,.int .i64 a8] 34 (0,0)):=(Ha.block _ (by simp)).trans hR
   have Gv:=hidP (OwnM.below HA.out.2.1 (((bzR _ wr).alloc (nzR _) _).trans (Ha.mono (by simp))))
   have HQ:=hidP HA.out.1;have hwl:wr.heap.size<w2.heap.size:=(gzE.1 gw).1;have cel:∀i,w2.cell? ⟨wr.heap.size,i,none⟩=(#[.int .i64 a1,.int .i64 a2,.int .i64 a3,.int .i64 a4,.int .i64 a5,.int .i64 a6,.int .i64 a7,.int .i64 a8]:Array Value)[i]?:=fun i=>by simp[World.cell?,gw]
   have u0:=cel 0;have u1:=cel 1;have u2:=cel 2;have u3:=cel 3;have u4:=cel 4;have u5:=cel 5;have u6:=cel 6;have u7:=cel 7;simp only[List.getElem?_toArray,List.getElem?_cons_zero,List.getElem?_cons_succ] at u0 u1 u2 u3 u4 u5 u6 u7;have es:wrap64 ((kk:Int)+1)=((kk+1:Nat):Int):=by have:=Uy.out;unfold wrap64;omega
   have cF:=hidP es;clear cel hR gw Ha t0 t1 t2 t3 t4 t5 t6 t7 HA uD pB es;cases y
   ·have CD:=cF.out;go_wp2_with fail;go_roundg (n - (kk+1))
    case measure=>clear CD;omega
    case rel=>exact⟨kk+1,m,q,c,Hi,nzR _,by go_num,rfl,by rw[pl.out];simpa using HQ.out,by rw[pl.out];simpa using Gv.out,Hg.out⟩
   ·have HFT:Hid ((os.take (kk+1)).filter (wkB x)=(os.take kk).filter (wkB x)++[(⟨a1,a2,a3,a4,a5,a6,a7,a8⟩:O)]):=by
     show _=_
     rw[pl.out];rfl
    clear pl;go_wp2_with (at_builtin;(refine wAe _ rfl _ _ 91 rfl w.heap.size 34 i0 zeroR 8 64 underlying91 HI.out gE gu gA rfl (.slice q m c) m (flat ((os.take kk).filter (wkB x))) rfl ?p0 ⟨w2.heap.size,0,none⟩ 1 1 (oL ⟨a1,a2,a3,a4,a5,a6,a7,a8⟩) rfl rfl (World.news_of_block (cs:=#[.int .i64 a1,.int .i64 a2,.int .i64 a3,.int .i64 a4,.int .i64 a5,.int .i64 a6,.int .i64 a7,.int .i64 a8]) (jA _ _)) (by simp[Value.oneCell',oL]) ?p1 ?p2 ?p3 ?_))
    case p0=>
     have:=OwnM.below Gv.out ((bzR _ w2).alloc (nzR _) (.cells #[.int .i64 a1,.int .i64 a2,.int .i64 a3,.int .i64 a4,.int .i64 a5,.int .i64 a6,.int .i64 a7,.int .i64 a8] 34))
     rwa [←HQ.out] at this
    case p1=>exact(Br.out m Uy.out.1 Uy.out.2.1 Uy.out.2.2).1
    case p2=>exact(Br.out m Uy.out.1 Uy.out.2.1 Uy.out.2.2).2
    case p3=>have:=Hg.out.size;simp;omega
    intro v' w' gy Hy Gm;have HU:Hid (Bw w w'):=(Hg.out.alloc Hg.out.size (.cells #[.int .i64 a1,.int .i64 a2,.int .i64 a3,.int .i64 a4,.int .i64 a5,.int .i64 a6,.int .i64 a7,.int .i64 a8] 34)).grown Hy (by have:=Hg.out.size;simp;omega) (fun k hk=>(OwnM.lt Gv.out k hk).1)
    have cO:Hid (OwnQ w' w.heap.size v' ((os.take (kk+1)).filter (wkB x))∧m+1=((os.take (kk+1)).filter (wkB x)).length):=by
     rw[HFT.out];have e1:m+1=((os.take kk).filter (wkB x)++[(⟨a1,a2,a3,a4,a5,a6,a7,a8⟩:O)]).length:=by
      rw[jE,←HQ.out];rfl
     refine⟨?_,e1⟩;show OwnM _ _ _ _ _ _ _
     rw[←e1,wAg];exact gy
    obtain⟨q',c',rfl⟩:=OwnM.form gy;have CD:=cF.out;clear gy Hy Gm u0 u1 u2 u3 u4 u5 u6 u7;go_wp2_with fail;go_roundg (n - (kk+1))
    case measure=>clear CD;omega
    case rel=>exact⟨kk+1,m+1,q',c',Hi,nzR _,by go_num,rfl,cO.out.2,cO.out.1,HU.out⟩
  ·have Hp:¬(kk:Int)<(n:Int):=by omega
   have hk:os.take kk=os:=List.take_of_length_le (by have:=HN.out;omega)
   rw[hk] at HA;go_wp2_with fail;go_ret;exact⟨q,m,c,rfl,HA.out.1,HA.out.2.1,HA.out.2.2⟩
theorem part_2(x:Int)(B b p:Nat)(vq:Option Addr)(n vc:Nat)(os:List O)(w:World)(hn:n=os.length)(h:St w b p (.slice vq n vc) os)(hB:B<w.heap.size)(hc:w.cell? ⟨B,0,none⟩=some (.int .i64 x))(hl:n≤1000) :
  Calls prog 153 #[.pointer (some ⟨p,0,none⟩),.func (.func 156) #[] #[.pointer (some ⟨B,0,none⟩)]] w fun e w'=>∃q m c,e=.returned (.slice q m c)∧m=(os.filter (fun o=>!wkB x o)).length∧OwnQ w' w.heap.size (.slice q m c) (os.filter (fun o=>!wkB x o))∧Bw w w':=by
 have hpc:=h.cell;have HS:=hidP h;have HN:=hidP hn;have uX:Hid (∀W o,Bw w W→Calls prog 156 #[.agg (oL o).toArray,.pointer (some ⟨B,0,none⟩)] W fun e w'=>e=.returned (.bool (!wkB x o))∧Bw W w'):=fun W o hW=>pred_2 x o B W (jC hB hW.size) (zAa hW hc)
 obtain⟨i0,gY,gE,gu,gA⟩:=infoR';have HI:=hidP gY;have HL:=hidP hl;have HX:Hid (0<n→∃g off,vq=some ⟨g,off,none⟩∧Lies w g off os):=fun hp=>by
  rcases h.own.sl with ⟨h1,h2⟩|⟨g,off,c,h1,h2,h3,h4,h5⟩
  ·cases h1;omega
  ·cases h1;exact⟨g,off,rfl,h5⟩
 clear h hn gY hl hB hc;go_enter func153,ntmps153;go_wp2_with fail;go_loopg [5,7,13] n (fun gg s5 _ s13 wr=>∃ (kk m:Nat) (q:Option Addr) (c:Nat),kk≤n∧n - kk≤gg∧s13=.int .i64 kk∧s5=.slice q m c∧Aside (m=((os.take kk).filter (fun o=>!wkB x o)).length∧OwnQ wr w.heap.size (.slice q m c) ((os.take kk).filter (fun o=>!wkB x o))∧Below w.heap.size w wr))
 case atStart=>exact⟨0,0,none,0,jL _,by omega,rfl,rfl,rfl,⟨rfl,.inl ⟨rfl,rfl⟩⟩,bzR _ _⟩
 case round=>
  obtain⟨kk,m,q,c,gd,hg,rfl,rfl,HA⟩:=hrel;by_cases Hi:kk<n
  ·have Hp:(kk:Int)<(n:Int):=by omega
   have gR:¬((kk:Int)<0):=by omega
   have Hs:kk<os.length:=by have:=HN.out;omega
   obtain⟨g,off,rfl,Pk⟩:=HX.out (by omega)
   obtain⟨o,ho⟩:∃o,os[kk]! = o:=⟨_,rfl⟩;have Hz:=hidP (fun W hW=>uX.out W o hW)
   have pl:Hid ((os.take (kk+1)).filter (fun o=>!wkB x o)=(os.take kk).filter (fun o=>!wkB x o)++(if (!wkB x o)=true then [o] else [])):=by
    show _=_
    rw[←ho,getE _ _ Hs,List.take_succ_eq_append_getElem Hs,List.filter_append]
    congr 1
    rw[List.filter_cons,List.filter_nil]
   have HOL:=hidP (show oL o=oL o from rfl)
   obtain⟨y,hy⟩:∃y,(!wkB x o)=y:=⟨_,rfl⟩;rw[hy] at Hz pl;have cel:∀i v,(oL o)[i]?=some v→wr.cell? ⟨g,off+kk*8+i,none⟩=some v:=fun i v hv=>zAa HA.out.2.2 (Pk kk Hs i v (by rw[ho];exact hv))
   clear hy ho Pk;obtain⟨a1,a2,a3,a4,a5,a6,a7,a8⟩:=o;have t0:=cel 0 _ rfl;have t1:=cel 1 _ rfl;have t2:=cel 2 _ rfl;have t3:=cel 3 _ rfl;have t4:=cel 4 _ rfl;have t5:=cel 5 _ rfl;have t6:=cel 6 _ rfl;have t7:=cel 7 _ rfl;simp only[Nat.add_zero] at t0;have pB:Hid (∀W,Bw w W→Calls prog 156 #[.agg #[.int .i64 a1,.int .i64 a2,.int .i64 a3,.int .i64 a4,.int .i64 a5,.int .i64 a6,.int .i64 a7,.int .i64 a8],.pointer (some ⟨B,0,none⟩)] W fun e w'=>e=.returned (.bool y)∧Bw W w'):=Hz.out
   have uD:=hidP (HA.out.2.2.alloc HA.out.2.2.size (.cells #[.int .i64 a1,.int .i64 a2,.int .i64 a3,.int .i64 a4,.int .i64 a5,.int .i64 a6,.int .i64 a7,.int .i64 a8] 34));have hR:=jA wr (.cells #[.int .i64 a1,.int .i64 a2,.int .i64 a3,.int .i64 a4,.int .i64 a5,.int .i64 a6,.int .i64 a7,.int .i64 a8] 34);have Br:=hidP (show ∀ (m:Nat),m≤kk→kk<n→n≤1000→m+1≤maxLen∧(m+1)*64≤140737488355328 from fun m h1 h2 h3=>by unfold maxLen;omega)
   have Uy:Hid (m≤kk∧kk<n∧n≤1000):=⟨by
    rw[HA.out.1];exact jM (List.length_filter_le _ _) (by rw[jJ];omega),Hi,HL.out⟩
   clear cel Hz uX HOL HX;go_wp2_with fail;refine(pB.out _ uD.out).mono ?_;rintro e w2⟨rfl,Ha⟩;have Hg:=hidP (uD.out.trans (Ha.mono uD.out.size));have gw:w2.heap[wr.heap.size]?=some (.cells #[.int .i64 a1,.int .i64 a2,.int .i64 a3,.int .i64 a4,.int .i64 a5,.int .i64 a6,.int .i64 a7,.int .i64 a8] 34 (0,0)):=(Ha.block _ (by simp)).trans hR
   have Gv:=hidP (OwnM.below HA.out.2.1 (((bzR _ wr).alloc (nzR _) _).trans (Ha.mono (by simp))))
   have HQ:=hidP HA.out.1;have hwl:wr.heap.size<w2.heap.size:=(gzE.1 gw).1;have cel:∀i,w2.cell? ⟨wr.heap.size,i,none⟩=(#[.int .i64 a1,.int .i64 a2,.int .i64 a3,.int .i64 a4,.int .i64 a5,.int .i64 a6,.int .i64 a7,.int .i64 a8]:Array Value)[i]?:=fun i=>by simp[World.cell?,gw]
   have u0:=cel 0;have u1:=cel 1;have u2:=cel 2;have u3:=cel 3;have u4:=cel 4;have u5:=cel 5;have u6:=cel 6;have u7:=cel 7;simp only[List.getElem?_toArray,List.getElem?_cons_zero,List.getElem?_cons_succ] at u0 u1 u2 u3 u4 u5 u6 u7;have es:wrap64 ((kk:Int)+1)=((kk+1:Nat):Int):=by have:=Uy.out;unfold wrap64;omega
   have cF:=hidP es;clear cel hR gw Ha t0 t1 t2 t3 t4 t5 t6 t7 HA uD pB es;cases y
   ·have CD:=cF.out;go_wp2_with fail;go_roundg (n - (kk+1))
    case measure=>clear CD;omega
    case rel=>exact⟨kk+1,m,q,c,Hi,nzR _,by go_num,rfl,by rw[pl.out];simpa using HQ.out,by rw[pl.out];simpa using Gv.out,Hg.out⟩
   ·have HFT:Hid ((os.take (kk+1)).filter (fun o=>!wkB x o)=(os.take kk).filter (fun o=>!wkB x o)++[(⟨a1,a2,a3,a4,a5,a6,a7,a8⟩:O)]):=by
     show _=_
     rw[pl.out];rfl
    clear pl;go_wp2_with (at_builtin;(refine wAe _ rfl _ _ 91 rfl w.heap.size 34 i0 zeroR 8 64 underlying91 HI.out gE gu gA rfl (.slice q m c) m (flat ((os.take kk).filter (fun o=>!wkB x o))) rfl ?p0 ⟨w2.heap.size,0,none⟩ 1 1 (oL ⟨a1,a2,a3,a4,a5,a6,a7,a8⟩) rfl rfl (World.news_of_block (cs:=#[.int .i64 a1,.int .i64 a2,.int .i64 a3,.int .i64 a4,.int .i64 a5,.int .i64 a6,.int .i64 a7,.int .i64 a8]) (jA _ _)) (by simp[Value.oneCell',oL]) ?p1 ?p2 ?p3 ?_))
    case p0=>
     have:=OwnM.below Gv.out ((bzR _ w2).alloc (nzR _) (.cells #[.int .i64 a1,.int .i64 a2,.int .i64 a3,.int .i64 a4,.int .i64 a5,.int .i64 a6,.int .i64 a7,.int .i64 a8] 34))
     rwa [←HQ.out] at this
    case p1=>exact(Br.out m Uy.out.1 Uy.out.2.1 Uy.out.2.2).1
    case p2=>exact(Br.out m Uy.out.1 Uy.out.2.1 Uy.out.2.2).2
    case p3=>have:=Hg.out.size;simp;omega
    intro v' w' gy Hy Gm;have HU:Hid (Bw w w'):=(Hg.out.alloc Hg.out.size (.cells #[.int .i64 a1,.int .i64 a2,.int .i64 a3,.int .i64 a4,.int .i64 a5,.int .i64 a6,.int .i64 a7,.int .i64 a8] 34)).grown Hy (by have:=Hg.out.size;simp;omega) (fun k hk=>(OwnM.lt Gv.out k hk).1)
    have cO:Hid (OwnQ w' w.heap.size v' ((os.take (kk+1)).filter (fun o=>!wkB x o))∧m+1=((os.take (kk+1)).filter (fun o=>!wkB x o)).length):=by
     rw[HFT.out];have e1:m+1=((os.take kk).filter (fun o=>!wkB x o)++[(⟨a1,a2,a3,a4,a5,a6,a7,a8⟩:O)]).length:=by
      rw[jE,←HQ.out];rfl
     refine⟨?_,e1⟩;show OwnM _ _ _ _ _ _ _
     rw[←e1,wAg];exact gy
    obtain⟨q',c',rfl⟩:=OwnM.form gy;have CD:=cF.out;clear gy Hy Gm u0 u1 u2 u3 u4 u5 u6 u7;go_wp2_with fail;go_roundg (n - (kk+1))
    case measure=>clear CD;omega
    case rel=>exact⟨kk+1,m+1,q',c',Hi,nzR _,by go_num,rfl,cO.out.2,cO.out.1,HU.out⟩
  ·have Hp:¬(kk:Int)<(n:Int):=by omega
   have hk:os.take kk=os:=List.take_of_length_le (by have:=HN.out;omega)
   rw[hk] at HA;go_wp2_with fail;go_ret;exact⟨q,m,c,rfl,HA.out.1,HA.out.2.1,HA.out.2.2⟩
end wak
end Go.Proofs.YtnfilcpnneckkaaGreat
