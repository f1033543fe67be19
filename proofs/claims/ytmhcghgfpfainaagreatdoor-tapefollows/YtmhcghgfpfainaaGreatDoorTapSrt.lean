import Derived.Test.YtmhcghgfpfainaaGreatDoorTapTrd
import Derived.Maps.Ext
import Derived.Shelf.SlSortCmp.WholeK
import Derived.Shelf.SlSortCmp.NoneTotal
set_option maxHeartbeats 1000000
set_option maxRecDepth 100000
namespace Go.Proofs.YtmhcghgfpfainaaGreatDoor.tap
open Go.RowKit mee flr Go.Maps
open spn (zAa zAg errV wAa wAb)
abbrev Am:Type:=Int × Int
abbrev Fm:Type:=Int→Option Am
def setF(f:Fm)(id:Int)(a:Am):Fm:=fun k=>if k=id then (if a.1≤0 then none else some a) else f k
def delF(f:Fm)(id:Int):Fm:=fun k=>if k=id then none else f k
def zEW(f:Fm)(e:Ev):Fm:=
 if e.what=1 then setF f e.id (e.qty,e.price)
 else if e.what=2 then setF f e.tr.maker (((f e.tr.maker).getD (0,0)).1 - e.tr.qty,((f e.tr.maker).getD (0,0)).2)
 else if e.what=3 then delF f e.id else f
def zBP(l:List Ev):Fm:=l.foldl zEW fun _=>none
theorem zEN{l:List Ev}{k:Nat}(h:k<l.length):zBP (l.take (k+1))=zEW (zBP (l.take k)) l[k]!:=by
 unfold zBP;rw[zAT h,List.foldl_append];rfl
def FOk(f:Fm):Prop:=∀id a,f id=some a→1≤id∧id≤9999∧1≤a.1∧a.1≤10000∧0≤a.2∧a.2≤10000
theorem FOk.none:FOk fun _=>none:=fun _ _ h=>by cases h
theorem FOk.set{f:Fm}(h:FOk f){id:Int}{a:Am}(h1:1≤id∧id≤9999)(h2:a.1≤10000)(h3:0≤a.2∧a.2≤10000):FOk (setF f id a):=by
 intro k b hb;unfold setF at hb;split at hb
 ·split at hb
  ·cases hb
  ·cases hb;subst k;omega
 ·exact h k b hb
theorem FOk.del{f:Fm}(h:FOk f)(id:Int):FOk (delF f id):=by
 intro k b hb;unfold delF at hb;split at hb
 ·cases hb
 ·exact h k b hb
theorem FOk.get{f:Fm}(h:FOk f)(id:Int):0≤((f id).getD (0,0)).1∧((f id).getD (0,0)).1≤10000∧0≤((f id).getD (0,0)).2∧((f id).getD (0,0)).2≤10000:=by
 cases hq:f id with
 | none=>simp
 | some a=>have:=h id a hq;simp;omega
theorem FOk.hear{f:Fm}(h:FOk f){e:Ev}(he:evB e=true):FOk (zEW f e):=by
 unfold evB at he;unfold zEW;by_cases h2:e.what=2
 ·rw[if_pos h2] at he;rw[if_neg (by omega),if_pos h2]
  simp[tdB] at he;have hg:=h.get e.tr.maker;exact h.set (by omega) (by simp only;omega) (by simp only;omega)
 ·rw[if_neg h2] at he;rw[if_neg h2];simp[otB] at he;split
  ·exact h.set (by omega) (by simp only;omega) (by simp only;omega)
  ·split
   ·exact h.del _
   ·exact h
theorem FOk.heard{l:List Ev}(h:∀e∈l,evB e=true):∀k,FOk (zBP (l.take k)):=by
 intro k;induction k with
 | zero=>exact FOk.none
 | succ k ih=>
  by_cases hk:k<l.length
  ·rw[zEN hk];exact ih.hear (h _ (by rw[getE _ _ hk];exact jT hk))
  ·rw[List.take_of_length_le (by omega)]
   rw[List.take_of_length_le (by omega)] at ih
   exact ih
def amD(a:Am):DataW Unit:=.agg [.lit (.int .i64 a.1),.lit (.int .i64 a.2)]
theorem zIl{a b:Am}(h:amD a=amD b):a=b:=by
 unfold amD at h;simp at h;exact Prod.ext h.1 h.2
def amR(v:Value):Option (DataW Unit × List MemPlace):=
 match v with
 | .agg a=>match a.toList with
  | [.int .i64 x0,.int .i64 x1]=>some (amD (x0,x1),[])
  | _=>none
 | _=>none
theorem zQz(a b:Int):amR (.agg #[.int .i64 a,.int .i64 b])=some (amD (a,b),[]):=rfl
theorem zIm{v:Value}{y:DataW Unit × List MemPlace}(h:amR v=some y):∃a b:Int,v=.agg #[.int .i64 a,.int .i64 b]∧y=(amD (a,b),[]):=by
 unfold amR at h;split at h
 ·rename_i a
  split at h
  ·rename_i x0 x1 hl
   refine⟨x0,x1,?_,by cases h;rfl⟩
   congr 1
   exact Array.toList_inj.1 hl
  ·cases h
 ·cases h
theorem lawI:Keyed Tryz.prog 3:=int_keyed Tryz.underlying3
theorem zGo{n:Int}(h0:0≤n)(h1:n≤99999):(Lit.int .i64 n).wf=true:=by
 have a1:IntKind.i64.min = -9223372036854775808:=rfl;have a2:IntKind.i64.max=9223372036854775807:=rfl;show (decide (IntKind.i64.min≤n) && decide (n≤IntKind.i64.max))=true
 rw[a1,a2];simp;omega
structure MapIs (D:DataW Unit) (f:Fm):Prop where
 tidy:Tidy D
 at_:∀id zd,D.atKey (.int .i64 id) zd=match f id with
  | some a=>amD a
  | none=>zd
 has_:∀id,Maps.has D (.int .i64 id)=(f id).isSome
theorem MapIs.empty:MapIs (.map []) fun _=>none:=⟨tidy_empty,fun _ _=>rfl,fun _=>rfl⟩
theorem zHz{k id:Int}(h:k≠id):(Lit.int .i64 k)≠.int .i64 id:=fun e=>h (by cases e;rfl)
theorem zNm(n:Int):WideAt.IsKeyLit (.int .i64 n):=trivial
theorem MapIs.put{D:DataW Unit}{f:Fm}(h:MapIs D f){id:Int}{a:Am}(h0:¬a.1≤0):MapIs (D.put (.int .i64 id) (amD a)) (setF f id a):=by
 refine⟨h.tidy.put (zNm _) _,fun k zd=>?_,fun k=>?_⟩
 ·unfold setF;by_cases hk:k=id
  ·subst hk;rw[atKey_put_same h.tidy.isMap (zNm _),if_pos rfl,if_neg h0]
  ·rw[atKey_put_other (zHz hk),if_neg hk];exact h.at_ k zd
 ·unfold setF;by_cases hk:k=id
  ·subst hk;rw[has_put_same h.tidy.isMap (zNm _),if_pos rfl,if_neg h0];rfl
  ·rw[has_put_other (zHz hk),if_neg hk];exact h.has_ k
theorem MapIs.del{D:DataW Unit}{f:Fm}(h:MapIs D f)(id:Int):MapIs (D.del (.int .i64 id)) (delF f id):=by
 refine⟨h.tidy.del _,fun k zd=>?_,fun k=>?_⟩
 ·unfold delF;by_cases hk:k=id
  ·subst hk;rw[atKey_del_same,if_pos rfl]
  ·rw[atKey_del_other (zHz hk),if_neg hk];exact h.at_ k zd
 ·unfold delF;by_cases hk:k=id
  ·subst hk;rw[has_del_same,if_pos rfl];rfl
  ·rw[has_del_other (zHz hk),if_neg hk];exact h.has_ k
theorem zNn{f:Fm}{id:Int}{a:Am}(h:a.1≤0):setF f id a=delF f id:=by
 funext k
 unfold setF delF;rw[if_pos h]
def HM(w:World)(b n:Nat)(f:Fm):Prop:=∃D,w.ownsMap Tryz.prog 3 amR b n D∧MapIs D f
theorem HM.alloc{w:World}{b n:Nat}{f:Fm}(h:HM w b n f)(o:Obj):HM (w.alloc o) b n f:=by
 obtain⟨D,h1,h2⟩:=h;exact⟨D,h1.alloc o,h2⟩
theorem HM.mono{w:World}{b n m:Nat}{f:Fm}(h:HM w b n f)(hm:n≤m):HM w b m f:=by
 obtain⟨D,h1,h2⟩:=h;exact⟨D,h1.mono hm,h2⟩
theorem HM.lt{w:World}{b n:Nat}{f:Fm}(h:HM w b n f):b<w.heap.size:=by
 obtain⟨D,h1,-⟩:=h;exact h1.lt
theorem HM.made(w:World):HM (w.alloc (.map #[] 0)) w.heap.size 0 fun _=>none:=⟨.map [],World.ownsMap_made _ _ _ _,MapIs.empty⟩
theorem zNo(b n:Nat)(f:Fm)(id q p:Int)(w:World)(h:HM w b n f)(hn:n<1000)(hi:1≤id∧id≤9999) :
  Calls Tryz.prog 34 #[.map (some b),.int .i64 id,.agg #[.int .i64 q,.int .i64 p]] w fun e w'=>e=.returned (.tuple #[])∧HM w' b (n+1) (setF f id (q,p))∧w.grownBy w' (some b):=by
 obtain⟨D,Hh,hD⟩:=h;have gJ:keyOf Tryz.prog 3 (.int .i64 id)=some (.int .i64 id):=keyOf_int_mk Tryz.underlying3 (zGo (by omega) (by omega))
 have HO:Hid ((w.alloc (.cells #[.int .i64 q,.int .i64 p] 97)).ownsMap Tryz.prog 3 amR b n D):=Hh.alloc _;have HG:Hid (w.grownBy (w.alloc (.cells #[.int .i64 q,.int .i64 p] 97)) (some b)):=wak.zCF _ _ _;have HN:Hid (n<maxLen):=by show n<maxLen;unfold maxLen;omega
 clear Hh hi hn;by_cases hq:q≤0
 ·have HD:Hid (MapIs (D.del (.int .i64 id)) (setF f id (q,p))):=by
   rw[show Hid (MapIs (D.del (.int .i64 id)) (setF f id (q,p)))=MapIs (D.del (.int .i64 id)) (setF f id (q,p)) from rfl,zNn (show (q,p).1≤0 from hq)]
   exact hD.del id
  clear hD;go_enter Tryz.func34,Tryz.ntmps34;go_wp2_with (at_delete;refine wpList_delete_own _ rfl _ _ 61 3 rfl 97 lawI Tryz.underlying61 amR b n D rfl HO.out _ _ rfl gJ ?_;intro w1 gV PE)
  go_wp2_with fail;refine jN (results_none rfl _ _ _) rfl ?_;exact⟨rfl,⟨_,gV.mono (Nat.le_succ _),HD.out⟩,wak.wAe HG.out PE.grown⟩
 ·have HD:Hid (MapIs (D.put (.int .i64 id) (amD (q,p))) (setF f id (q,p))):=hD.put hq;clear hD;go_enter Tryz.func34,Tryz.ntmps34;go_wp2_with (at_mapUpdate;refine wpList_mapUpdate_own _ rfl _ _ _ 61 rfl 3 97 lawI Tryz.underlying61 amR b n D rfl HO.out HN.out _ _ _ rfl rfl gJ _ [] (zQz _ _) ?_;intro w1 gV G2)
  go_end0
  exact⟨rfl,⟨_,gV,HD.out⟩,wak.wAe HG.out G2⟩
theorem zPR(b n:Nat)(f:Fm)(e2 e3 e4 t1 t2 t3 t4 t5 t6:Int)(w:World)(h:HM w b n f)(hn:n<1000)(hi:1≤e2∧e2≤9999) :
  Calls Tryz.prog 15 #[.map (some b),.agg #[.int .i64 1,.int .i64 e2,.int .i64 e3,.int .i64 e4,.int .i64 t1,.int .i64 t2,.int .i64 t3,.int .i64 t4,.int .i64 t5,.int .i64 t6]] w fun e w'=>e=.returned (.tuple #[])∧HM w' b (n+1) (setF f e2 (e3,e4))∧w.grownBy w' (some b):=by
 have HS:=hidT (zNo b n f e2 e3 e4 _ (h.alloc (.cells #[.int .i64 1,.int .i64 e2,.int .i64 e3,.int .i64 e4,.int .i64 t1,.int .i64 t2,.int .i64 t3,.int .i64 t4,.int .i64 t5,.int .i64 t6] 31)) hn hi);have HG:Hid (w.grownBy (w.alloc (.cells #[.int .i64 1,.int .i64 e2,.int .i64 e3,.int .i64 e4,.int .i64 t1,.int .i64 t2,.int .i64 t3,.int .i64 t4,.int .i64 t5,.int .i64 t6] 31)) (some b)):=wak.zCF _ _ _;clear h hn hi;go_enter Tryz.func15,Tryz.ntmps15;go_wp2_with fail;refine HS.out.mono ?_;rintro e w1⟨rfl,hm,hg⟩;have HR:=hidT (wak.wAe HG.out hg);have uJ:=hidT hm;clear hm hg;go_wp2_with fail;first|go_end0|refine jN (results_none rfl _ _ _) rfl ?_
 exact⟨rfl,uJ.out,HR.out⟩
theorem zNp(b n:Nat)(f:Fm)(e2 e3 e4 t1 t2 t3 t4 t5 t6:Int)(w:World)(h:HM w b n f)(hi:1≤e2∧e2≤9999) :
  Calls Tryz.prog 15 #[.map (some b),.agg #[.int .i64 3,.int .i64 e2,.int .i64 e3,.int .i64 e4,.int .i64 t1,.int .i64 t2,.int .i64 t3,.int .i64 t4,.int .i64 t5,.int .i64 t6]] w fun e w'=>e=.returned (.tuple #[])∧HM w' b (n+1) (delF f e2)∧w.grownBy w' (some b):=by
 obtain⟨D,Hh,hD⟩:=h;have gJ:keyOf Tryz.prog 3 (.int .i64 e2)=some (.int .i64 e2):=keyOf_int_mk Tryz.underlying3 (zGo (by omega) (by omega))
 have HO:Hid ((w.alloc (.cells #[.int .i64 3,.int .i64 e2,.int .i64 e3,.int .i64 e4,.int .i64 t1,.int .i64 t2,.int .i64 t3,.int .i64 t4,.int .i64 t5,.int .i64 t6] 31)).ownsMap Tryz.prog 3 amR b n D):=Hh.alloc _;have HG:Hid (w.grownBy (w.alloc (.cells #[.int .i64 3,.int .i64 e2,.int .i64 e3,.int .i64 e4,.int .i64 t1,.int .i64 t2,.int .i64 t3,.int .i64 t4,.int .i64 t5,.int .i64 t6] 31)) (some b)):=wak.zCF _ _ _;have HD:=hidT (hD.del e2);clear Hh hD hi;go_enter Tryz.func15,Tryz.ntmps15;go_wp2_with (at_delete;refine wpList_delete_own _ rfl _ _ 61 3 rfl 97 lawI Tryz.underlying61 amR b n D rfl HO.out _ _ rfl gJ ?_;intro w1 gV PE)
 go_wp2_with fail;first|go_end0|refine jN (results_none rfl _ _ _) rfl ?_
 exact⟨rfl,⟨_,gV.mono (Nat.le_succ _),HD.out⟩,wak.wAe HG.out PE.grown⟩
theorem zKv(b n:Nat)(f:Fm)(e1 e2 e3 e4 t1 t2 t3 t4 t5 t6:Int)(w:World)(h:HM w b n f)(h1:(e1 == 1)=false)(h2:(e1 == 2)=false)(h3:(e1 == 3)=false) :
  Calls Tryz.prog 15 #[.map (some b),.agg #[.int .i64 e1,.int .i64 e2,.int .i64 e3,.int .i64 e4,.int .i64 t1,.int .i64 t2,.int .i64 t3,.int .i64 t4,.int .i64 t5,.int .i64 t6]] w fun e w'=>e=.returned (.tuple #[])∧HM w' b (n+1) (f)∧w.grownBy w' (some b):=by
 have HS:=hidT (h.alloc (.cells #[.int .i64 e1,.int .i64 e2,.int .i64 e3,.int .i64 e4,.int .i64 t1,.int .i64 t2,.int .i64 t3,.int .i64 t4,.int .i64 t5,.int .i64 t6] 31));have HG:Hid (w.grownBy (w.alloc (.cells #[.int .i64 e1,.int .i64 e2,.int .i64 e3,.int .i64 e4,.int .i64 t1,.int .i64 t2,.int .i64 t3,.int .i64 t4,.int .i64 t5,.int .i64 t6] 31)) (some b)):=wak.zCF _ _ _;clear h;go_enter Tryz.func15,Tryz.ntmps15;go_wp2_with fail;first|go_end0|refine jN (results_none rfl _ _ _) rfl ?_
 exact⟨rfl,HS.out.mono (Nat.le_succ _),HG.out⟩
theorem zPS(b n:Nat)(f:Fm)(e2 e3 e4 t1 t2 t3 t4 t5 t6:Int)(w:World)(h:HM w b n f)(hf:FOk f)(hn:n<1000)(hi:1≤t1∧t1≤9999)(hq:1≤t6∧t6≤10000) :
  Calls Tryz.prog 15 #[.map (some b),.agg #[.int .i64 2,.int .i64 e2,.int .i64 e3,.int .i64 e4,.int .i64 t1,.int .i64 t2,.int .i64 t3,.int .i64 t4,.int .i64 t5,.int .i64 t6]] w fun e w'=>e=.returned (.tuple #[])∧HM w' b (n+1) (setF f t1 (((f t1).getD (0,0)).1 - t6,((f t1).getD (0,0)).2))∧w.grownBy w' (some b):=by
 have gJ:keyOf Tryz.prog 3 (.int .i64 t1)=some (.int .i64 t1):=keyOf_int_mk Tryz.underlying3 (zGo (by omega) (by omega))
 have hgt:=hf.get t1;obtain⟨⟨qa,qc⟩,hA⟩:∃A:Am,(f t1).getD (0,0)=A:=⟨_,rfl⟩;rw[hA] at hgt ⊢;simp only at hgt ⊢;have HH:=hidT h;have HG:Hid (w.grownBy (w.alloc (.cells #[.int .i64 2,.int .i64 e2,.int .i64 e3,.int .i64 e4,.int .i64 t1,.int .i64 t2,.int .i64 t3,.int .i64 t4,.int .i64 t5,.int .i64 t6] 31)) (some b)):=wak.zCF _ _ _;have hR:=jA w (.cells #[.int .i64 2,.int .i64 e2,.int .i64 e3,.int .i64 e4,.int .i64 t1,.int .i64 t2,.int .i64 t3,.int .i64 t4,.int .i64 t5,.int .i64 t6] 31);have hb:b<w.heap.size:=h.lt;go_enter Tryz.func15,Tryz.ntmps15;go_upto_region 5 with fail
 have hm:=h.alloc (.cells #[.int .i64 2,.int .i64 e2,.int .i64 e3,.int .i64 e4,.int .i64 t1,.int .i64 t2,.int .i64 t3,.int .i64 t4,.int .i64 t5,.int .i64 t6] 31);have hz:w.heap.size<(w.alloc (.cells #[.int .i64 2,.int .i64 e2,.int .i64 e3,.int .i64 e4,.int .i64 t1,.int .i64 t2,.int .i64 t3,.int .i64 t4,.int .i64 t5,.int .i64 t6] 31)).heap.size:=by simp
 clear h;generalize w.alloc (.cells #[.int .i64 2,.int .i64 e2,.int .i64 e3,.int .i64 e4,.int .i64 t1,.int .i64 t2,.int .i64 t3,.int .i64 t4,.int .i64 t5,.int .i64 t6] 31)=V at *;obtain⟨D,Hh,hD⟩:=hm;obtain⟨v,ps,hrun,hv⟩:=Hh.lookup lawI Tryz.underlying61 (z:=.agg #[.int .i64 0,.int .i64 0]) (by simp[Tryz.zeroValue97]) (zQz 0 0) gJ
 obtain⟨a,c,rfl,hac⟩:=zIm hv;have Ph:(f t1).getD (0,0)=(a,c):=by
  have h1:=congrArg Prod.fst hac;simp only at h1;rw[hD.at_] at h1;cases bY:f t1 with
  | none=>rw[bY] at h1;exact zIl h1
  | some x=>rw[bY] at h1;exact zIl h1
 rw[hA] at Ph;obtain⟨rfl,rfl⟩:=Prod.mk.inj Ph;have HW:Hid (wrap64 (qa - t6)=qa - t6):=by show _=_;unfold wrap64;omega
 have c0:V.cell? ⟨w.heap.size,4,none⟩=some (.int .i64 t1):=by simp[World.cell?,hR]
 have c1:V.cell? ⟨w.heap.size,9,none⟩=some (.int .i64 t6):=by simp[World.cell?,hR]
 have Gx:=hidT (HM.alloc (show HM V b n f from⟨D,Hh,hD⟩) (.cells #[.int .i64 qa,.int .i64 qc] 97))
 have HS:=hidT (zNo b n f t1 (qa - t6) qc _ Gx.out hn hi);have HG2:Hid (w.grownBy (V.alloc (.cells #[.int .i64 qa,.int .i64 qc] 97)) (some b)):=wak.wAe HG.out (wak.zCF _ _ _);clear hac hv Ph hgt hA Hh hD hR hn hi hq HH Gx hb hf gJ;have cD:=HW.out;go_wp2_with fail;refine HS.out.mono ?_;rintro e w1⟨rfl,hm,hg⟩;have HR:=hidT (wak.wAe HG2.out hg);have uJ:=hidT hm;clear hm hg cD HS;go_wp2_with fail;first|go_end0|refine jN (results_none rfl _ _ _) rfl ?_
 exact⟨rfl,uJ.out,HR.out⟩
theorem zPT(b n:Nat)(f:Fm)(x:Ev)(w:World)(h:HM w b n f)(hf:FOk f)(hn:n<1000)(he:evB x=true) :
  Calls Tryz.prog 15 #[.map (some b),.agg (evL x).toArray] w fun e w'=>e=.returned (.tuple #[])∧HM w' b (n+1) (zEW f x)∧w.grownBy w' (some b):=by
 obtain⟨e1,e2,e3,e4,⟨t1,t2,t3,t4,t5,t6⟩⟩:=x;unfold evB at he;unfold zEW;by_cases h2:e1=2
 ·subst h2;simp[tdB] at he;exact zPS b n f e2 e3 e4 t1 t2 t3 t4 t5 t6 w h hf hn (by omega) (by omega)
 ·simp only at he ⊢;rw[if_neg h2] at he;rw[if_neg h2];simp[otB] at he;by_cases h1:e1=1
  ·subst h1;rw[if_pos rfl];exact zPR b n f e2 e3 e4 t1 t2 t3 t4 t5 t6 w h hn (by omega)
  ·rw[if_neg h1];by_cases h3:e1=3
   ·subst h3;rw[if_pos rfl];exact zNp b n f e2 e3 e4 t1 t2 t3 t4 t5 t6 w h (by omega)
   ·rw[if_neg h3];exact zKv b n f e1 e2 e3 e4 t1 t2 t3 t4 t5 t6 w h (by simp[h1]) (by simp[h2]) (by simp[h3])
end Go.Proofs.YtmhcghgfpfainaaGreatDoor.tap
namespace Go.Proofs
open Go.Shelf
def Tryz.lsrt3_ren:Go.Shelf.Ren:=⟨fun|6=>35|15=>60|14=>59|28=>102|29=>103|20=>94|21=>95|22=>96|23=>97|24=>98|25=>99|26=>100|27=>101|46=>135|47=>136|48=>137|49=>138|50=>139|57=>160|n=>n,fun|22=>23|24=>33|25=>100|3=>3|39=>137|0=>0|53=>186|55=>188|4=>4|46=>179|45=>178|50=>183|5=>5|9=>9|66=>231|70=>154|76=>259|77=>190|n=>n,fun|n=>n⟩
theorem Tryz.lsrt3:Go.Proofs.SlLaysF0.n6 Tryz.prog Tryz.lsrt3_ren:={
 mixed:=by kernel_rfl
 f6:=⟨Tryz.f35.name,by decide,Tryz.func35.trans (congrArg some (by kernel_rfl))⟩
 f14:=⟨Tryz.f59.name,by decide,Tryz.func59.trans (congrArg some (by kernel_rfl))⟩
 f15:=Tryz.func60.trans (congrArg some (by kernel_rfl))
 f20:=⟨Tryz.f94.name,by decide,Tryz.func94.trans (congrArg some (by kernel_rfl))⟩
 f21:=⟨Tryz.f95.name,by decide,Tryz.func95.trans (congrArg some (by kernel_rfl))⟩
 f22:=⟨Tryz.f96.name,by decide,Tryz.func96.trans (congrArg some (by kernel_rfl))⟩
 f23:=⟨Tryz.f97.name,by decide,Tryz.func97.trans (congrArg some (by kernel_rfl))⟩
 f24:=⟨Tryz.f98.name,by decide,Tryz.func98.trans (congrArg some (by kernel_rfl))⟩
 f25:=⟨Tryz.f99.name,by decide,Tryz.func99.trans (congrArg some (by kernel_rfl))⟩
 f26:=⟨Tryz.f100.name,by decide,Tryz.func100.trans (congrArg some (by kernel_rfl))⟩
 f27:=⟨Tryz.f101.name,by decide,Tryz.func101.trans (congrArg some (by kernel_rfl))⟩
 f28:=Tryz.func102.trans (congrArg some (by kernel_rfl))
 f29:=Tryz.func103.trans (congrArg some (by kernel_rfl))
 f46:=⟨Tryz.f135.name,by decide,Tryz.func135.trans (congrArg some (by kernel_rfl))⟩
 f47:=Tryz.func136.trans (congrArg some (by kernel_rfl))
 f48:=Tryz.func137.trans (congrArg some (by kernel_rfl))
 f49:=⟨Tryz.f138.name,by decide,Tryz.func138.trans (congrArg some (by kernel_rfl))⟩
 f50:=⟨Tryz.f139.name,by decide,Tryz.func139.trans (congrArg some (by kernel_rfl))⟩
 f57:=⟨Tryz.f160.name,by decide,Tryz.func160.trans (congrArg some (by kernel_rfl))⟩
 t0:=Tryz.underlying0
 a0:=Tryz.isAgg0
 z0:=Tryz.sizeOf0
 v0:=Tryz.zeroValue0
 t3:=Tryz.underlying3
 a3:=Tryz.isAgg3
 z3:=Tryz.sizeOf3
 v3:=Tryz.zeroValue3
 t4:=Tryz.underlying4
 a4:=Tryz.isAgg4
 z4:=Tryz.sizeOf4
 v4:=Tryz.zeroValue4
 t5:=Tryz.underlying5
 a5:=Tryz.isAgg5
 z5:=Tryz.sizeOf5
 v5:=Tryz.zeroValue5
 t9:=Tryz.underlying9
 a9:=Tryz.isAgg9
 z9:=Tryz.sizeOf9
 v9:=Tryz.zeroValue9
 t22:=Tryz.underlying23
 a22:=Tryz.isAgg23
 z22:=Tryz.sizeOf23
 v22:=Tryz.zeroValue23
 t25:=Tryz.underlying100
 a25:=Tryz.isAgg100
 z25:=Tryz.sizeOf100
 v25:=Tryz.zeroValue100
 t39:=Tryz.underlying137
 a39:=Tryz.isAgg137
 z39:=Tryz.sizeOf137
 v39:=Tryz.zeroValue137
 t45:=Tryz.underlying178
 a45:=Tryz.isAgg178
 z45:=Tryz.sizeOf178
 v45:=Tryz.zeroValue178
 t46:=Tryz.underlying179
 a46:=Tryz.isAgg179
 z46:=Tryz.sizeOf179
 v46:=Tryz.zeroValue179
 t50:=Tryz.underlying183
 a50:=Tryz.isAgg183
 z50:=Tryz.sizeOf183
 v50:=Tryz.zeroValue183
 t53:=Tryz.underlying186
 a53:=Tryz.isAgg186
 z53:=Tryz.sizeOf186
 v53:=Tryz.zeroValue186
 t55:=Tryz.underlying188
 a55:=Tryz.isAgg188
 z55:=Tryz.sizeOf188
 v55:=Tryz.zeroValue188
 t66:=Tryz.underlying231
 a66:=Tryz.isAgg231
 z66:=Tryz.sizeOf231
 v66:=Tryz.zeroValue231
 t70:=Tryz.underlying154
 a70:=Tryz.isAgg154
 z70:=Tryz.sizeOf154
 v70:=Tryz.zeroValue154
 t76:=Tryz.underlying259
 a76:=Tryz.isAgg259
 z76:=Tryz.sizeOf259
 v76:=Tryz.zeroValue259
 t77:=Tryz.underlying190
 a77:=Tryz.isAgg190
 z77:=Tryz.sizeOf190
 v77:=Tryz.zeroValue190 }
def Tryz.lcmp3_ren:Go.Shelf.Ren:=⟨fun|5=>37|7=>61|n=>n,fun|22=>3|3=>3|4=>4|n=>n,fun|n=>n⟩
theorem Tryz.lcmp3:Go.Proofs.SlLaysC2.n5 Tryz.prog Tryz.lcmp3_ren:={
 mixed:=by kernel_rfl
 f5:=⟨Tryz.f37.name,by decide,Tryz.func37.trans (congrArg some (by kernel_rfl))⟩
 f7:=⟨Tryz.f61.name,by decide,Tryz.func61.trans (congrArg some (by kernel_rfl))⟩
 t3:=Tryz.underlying3
 a3:=Tryz.isAgg3
 z3:=Tryz.sizeOf3
 v3:=Tryz.zeroValue3
 t4:=Tryz.underlying4
 a4:=Tryz.isAgg4
 z4:=Tryz.sizeOf4
 v4:=Tryz.zeroValue4
 t22:=Tryz.underlying3
 a22:=Tryz.isAgg3
 z22:=Tryz.sizeOf3
 v22:=Tryz.zeroValue3 }
end Go.Proofs
namespace Go.Proofs.YtmhcghgfpfainaaGreatDoor.tap
open Go.RowKit Go.Sort Go.Lib
open spn (zAa)
open wak (OwnM wAd wAy wAh)
abbrev X3:Type:=Int × Int × Int
def xL(x:X3):List Value:=[.int .i64 x.1,.int .i64 x.2.1,.int .i64 x.2.2]
def zDi(l:List X3):List Value:=l.flatMap xL
theorem zFr(e:X3)(t:List X3):zDi (e::t)=xL e++zDi t:=by simp[zDi]
theorem zHA(a b:List X3):zDi (a++b)=zDi a++zDi b:=by unfold zDi;rw[List.flatMap_append]
theorem zNq(e:X3):zDi [e]=xL e:=by simp[zDi]
theorem zHB(l:List X3):(zDi l).length=l.length*3:=by
 induction l with
 | nil=>rfl
 | cons r t ih=>
  rw[zFr,jE,ih,jG];show 3+t.length*3=_
  omega
theorem zHC(l:List X3):∀j,j<l.length→∀i,i<3→(zDi l)[j*3+i]?=(xL l[j]!)[i]?:=by
 induction l with
 | nil=>intro j hj;simp at hj
 | cons r t ih=>
  intro j hj i hi;have e3:(xL r).length=3:=rfl;rw[zFr];cases j with
  | zero=>rw[Nat.zero_mul,Nat.zero_add,List.getElem?_append_left (by rw[e3];exact hi)];rfl
  | succ j=>
   rw[jV (by rw[e3];omega)]
   have:(j+1)*3+i - (xL r).length=j*3+i:=by rw[e3];omega
   rw[this,ih j (by simpa using hj) i hi]
   rfl
abbrev Own3(w:World)(base:Nat)(v:Value)(l:List X3):Prop:=OwnM w base 33 3 v l.length (zDi l)
def cf3(x y:X3):Int:=Lib.compareInt x.1 y.1
theorem lt3(x y:X3):ltOf cf3 x y=decide (x.1<y.1):=by
 unfold ltOf cf3 Lib.compareInt;by_cases h1:x.1<y.1
 ·simp[h1]
 ·by_cases h2:y.1<x.1 <;>simp[h1,h2]
theorem swo3:SWO (ltOf cf3) where
 irrefl x:=by rw[lt3];simp
 trans x y z h1 h2:=by rw[lt3] at *;simp at *;omega
 ntrans x y z h1 h2:=by rw[lt3] at *;simp at *;omega
theorem cl3(a1 a2 a3 b1 b2 b3:Int)(W:World):Calls Tryz.prog 36 #[.agg #[.int .i64 a1,.int .i64 a2,.int .i64 a3],.agg #[.int .i64 b1,.int .i64 b2,.int .i64 b3]] W fun e w'=>e=.returned (.int .i64 (Lib.compareInt a1 b1))∧∃q os',w'=grow (W.drewN q) os':=by
 have Hf:=fun W'=>AnyG.cmp_Compare_int Tryz.lcmp3 a1 b1 W'
 change ∀W',Calls Tryz.prog 37 _ _ _ at Hf
 generalize Lib.compareInt a1 b1=r at Hf ⊢;go_enter Tryz.func36,Tryz.ntmps36;go_wp2_with (go_at_call 37;refine(Hf _).mono ?_;rintro e w' ⟨rfl,rfl⟩)
 go_ret;exact⟨rfl,0,_,by rw[alloc_eq_grow,alloc_eq_grow,grow_grow];rfl⟩
theorem lays3(blk off size:Nat)(w:World):CmpLays Tryz.prog 36 #[] xL 3 cf3 blk off size w:=fun _ _ _ _ x y=>cl3 x.1 x.2.1 x.2.2 y.1 y.2.1 y.2.2 _
theorem zNr(zs:List X3)(t:Nat)(h:t<zs.length*3):(zDi zs)[t]?=some (Go.Sort.flatK xL 3 zs.toArray)[t]!:=by
 rw[get_flatK xL 3 zs.toArray t (by simpa using h)]
 have e:t=t / 3*3+t % 3:=by omega
 have h8:t % 3<3:=by omega
 conv=>lhs;rw[e]
 rw[zHC zs (t / 3) (by omega) (t % 3) h8]
 have hl:(xL zs[t / 3]!).length=3:=rfl;rw[List.getElem?_eq_getElem (by rw[hl];exact h8)]
 have hs:zs.toArray[t / 3]! = zs[t / 3]!:=by simp
 rw[hs]
 congr 1
 exact(getElem!_pos (xL zs[t / 3]!) (t % 3) (by rw[hl];exact h8)).symm
theorem holds3{w:World}{base g off cap:Nat}{zs:List X3}(h:Own3 w base (.slice (some ⟨g,off,none⟩) zs.length cap) zs):HoldsK xL 3 w g off zs.toArray:=by
 obtain⟨h1,h2,-,h4,h5,h6,h7⟩:=wAh h;intro j hj;have CR : j<zs.length*3:=by simpa using hj
 refine⟨?_,(h7 j (jC CR (Nat.mul_le_mul_right 3 h4))).2⟩;exact h6 j _ (zNr zs j CR)
theorem sorted3{w:World}{base g off cap n:Nat}{os:Array Obj}{zs ys:List X3}(h:Own3 w base (.slice (some ⟨g,off,none⟩) zs.length cap) zs)(hl:ys.length=zs.length) :
  Own3 (sortWorldK xL 3 w g off n ys.toArray os) base (.slice (some ⟨g,off,none⟩) zs.length cap) ys∧w.grownBy (sortWorldK xL 3 w g off n ys.toArray os) (some g):=by
 obtain⟨h1,h2,⟨cur,h3,ek⟩,h4,h5,h6,h7⟩:=wAh h;have hg:g<w.heap.size:=(gzE.1 h3).1;have hH:=holdsK_sortWorldK_c xL 3 w g off zs.toArray ys.toArray n os (holds3 h) hg (by simpa using hl)
 have hb:(sortWorldK xL 3 w g off n ys.toArray os).heap[g]?=some (.cells (putCells id off (Go.Sort.flatK xL 3 ys.toArray) cur) 33 (0,0)):=by
  unfold sortWorldK putRowK;rw[heap_grow_old _ _ (by simpa [Sort.ahead] using hg)]
  simp[putRow,mapBlock,Sort.ahead,Array.getElem?_modify,h3,onCells]
 refine⟨?_,rfl,rfl,rfl,by unfold sortWorldK putRowK;simp[Sort.ahead],fun k hk H7=>?_⟩
 ·show OwnM _ _ _ _ _ _ _
  rw[hl];refine wAy (by rw[zHB,hl]) h2 hb (by simpa [putCells] using ek) h4 h5 fun j u hu=>?_
  have hj:j<ys.length*3:=by rw[←zHB];exact(List.getElem?_eq_some_iff.1 hu).1
  rw[zNr ys j hj] at hu;cases hu;exact(hH j (by simpa using hj)).1
 ·unfold sortWorldK putRowK;rw[heap_grow_old _ _ (by simpa [Sort.ahead] using hk)]
  have:g≠k:=fun e=>H7 (by rw[e])
  simp[putRow,mapBlock,Sort.ahead,Array.getElem?_modify,this]
theorem zNs(w:World)(base:Nat)(v:Value)(zs:List X3)(h:Own3 w base v zs)(hz:zs.length≤1000) :
  Calls Tryz.prog 35 #[v,.func (.func 36) #[] #[]] w fun e w'=>e=.returned (.tuple #[])∧∃ys,ys.Perm zs∧ys.Pairwise (fun a b=>a.1≤b.1)∧Own3 w' base v ys∧w.grownBy w' v.ownBlock:=by
 have eg:∀args w,(callFunc 36 args).run Tryz.prog w=.ok (.enter 36 args) w:=enters_of Tryz.func36 (by kernel_rfl) rfl
 rcases h.2 with ⟨hv,hn⟩|⟨g,off,cap,cur,hv,hb,h3,-⟩
 ·have CX:zs=[]:=List.eq_nil_of_length_eq_zero hn;subst CX hv;have Hf:=AnyF.slices_SortFunc_none { Tryz.lsrt3 with } none 0 (.func (.func 36) #[] #[]) w
  change Calls Tryz.prog 35 _ _ _ at Hf
  refine Hf.mono ?_;rintro e w'⟨rfl,rfl⟩;exact⟨rfl,[],List.Perm.refl _,List.Pairwise.nil,h,⟨rfl,rfl,rfl,nzR _,fun _ _ _=>rfl⟩⟩
 ·subst hv;have Hf:=AnyQ.slices_SortFunc Tryz.lsrt3 3 Tryz.isAgg33 Tryz.sizeOf33 xL (fun _=>rfl) (fun x v hv=>by
   simp only[xL,List.mem_cons,List.not_mem_nil,or_false] at hv;rcases hv with rfl|rfl|rfl <;>rfl) cf3 swo3 36 #[] g off cap zs.toArray w eg (lays3 g off _ w) (holds3 h) (gzE.1 h3).1 (by rw[List.size_toArray];omega)
  change Calls Tryz.prog 35 _ _ _ at Hf
  rw[List.size_toArray] at Hf;refine Hf.mono ?_;rintro e w'⟨rfl,d',n,os,hp,hs,rfl⟩;have hl:d'.toList.length=zs.length:=by have:=hp.1;simpa using this
  have ho:=sorted3 (n:=n) (os:=os) (ys:=d'.toList) h hl;rw[Array.toArray_toList] at ho;refine⟨rfl,d'.toList,?_,?_,ho.1,ho.2⟩
  ·have h2:=hp.2.2;have e1:d'.extract 0 zs.length=d':=by
    have:zs.length=d'.size:=(by have:=hp.1;simpa using this.symm);rw[this];simp
   have e2:zs.toArray.extract 0 zs.length=zs.toArray:=by simp
   rw[e1,e2] at h2;simpa using h2
  ·rw[List.pairwise_iff_getElem];intro i j hi hj hij;have:=hs i j (jL _) hij (by rw[←hl];exact hj)
   rw[lt3] at this;simp at hi hj;rw[getElem!_pos d' i hi,getElem!_pos d' j hj] at this;simp at this ⊢;exact this
end Go.Proofs.YtmhcghgfpfainaaGreatDoor.tap
