import Derived.Test.YtnfilcpnneckkaaGreatTickP
import Derived.Deep.QuietTactic
set_option maxHeartbeats 2000000
namespace Go.Proofs.YtnfilcpnneckkaaGreat
open Tryz
namespace pur
open Go.RowKit spn
structure Pz where
 who:Int
 cash:Int
 held:Int
 stock:Int
 hs:Int
def zeroP:Pz:=⟨0,0,0,0,0⟩
instance:Inhabited Pz:=⟨zeroP⟩
def pL(x:Pz):List Value:=[.int .i64 x.who,.int .i64 x.cash,.int .i64 x.held,.int .i64 x.stock,.int .i64 x.hs]
def flatP(ps:List Pz):List Value:=ps.flatMap pL
theorem hidU{p:Prop}(h:p):Hid p:=h
theorem getP{α:Type}[Inhabited α](l:List α)(j:Nat)(h:j<l.length):l[j]! = l[j]:=by simp[h]
theorem zCH(r:Pz)(t:List Pz):flatP (r::t)=pL r++flatP t:=rfl
theorem zDD(a b:List Pz):flatP (a++b)=flatP a++flatP b:=by unfold flatP;rw[List.flatMap_append]
theorem wAD(zs:List Pz):(flatP zs).length=zs.length*5:=by
 induction zs with
 | nil=>rfl
 | cons r t ih=>rw[zCH,jE,ih,jG];show 5+t.length*5=_;omega
theorem zMi(zs:List Pz):∀j,j<zs.length→∀i,i<5→(flatP zs)[j*5+i]?=(pL zs[j]!)[i]?:=by
 induction zs with
 | nil=>intro j hj;simp at hj
 | cons r t ih=>
  intro j hj i hi;rw[zCH];cases j with
  | zero=>rw[Nat.zero_mul,Nat.zero_add,List.getElem?_append_left (by show i<5;exact hi)];rfl
  | succ j=>
   rw[jV (by show 5≤_;omega)]
   have:(j+1)*5+i - (pL r).length=j*5+i:=by show (j+1)*5+i - 5=_;omega
   rw[this,ih j (by simpa using hj) i hi]
   rfl
theorem zMj(ps:List Pz)(k f:Nat)(v:Value)(z:Pz)(hk:k<ps.length)(hf:f<5)(h:(pL ps[k]!).set f v=pL z):(flatP ps).set (k*5+f) v=flatP (ps.set k z):=by
 rw[getP ps k hk] at h;have e1:ps=ps.take k++ps[k]::ps.drop (k+1):=by
  conv=>lhs;rw[←jR k ps,List.drop_eq_getElem_cons hk]
 have hl:(flatP (ps.take k)).length=k*5:=by rw[wAD,jJ,Nat.min_eq_left (by omega)]
 have e2:ps.set k z=ps.take k++z::ps.drop (k+1):=by
  rw[List.set_eq_take_append_cons_drop,if_pos hk]
 have e3:flatP ps=flatP (ps.take k)++(pL ps[k]++flatP (ps.drop (k+1))):=by rw[←zCH,←zDD,←e1]
 rw[e2,e3,zDD,zCH,List.set_append_right _ _ (by omega),hl,show k*5+f - k*5=f by omega,List.set_append_left _ _ (by show f<5;exact hf),h]
def Pu(t:TypeId)(n:Nat)(w:World)(P:Nat)(ps:List Pz):Prop:=ps.length=n∧w.heap[P]?=some (.cells (flatP ps).toArray t (0,0))
section
variable {t:TypeId}{n:Nat}{w w' : World}{P:Nat}{ps:List Pz}
theorem Pu.lt(h:Pu t n w P ps):P<w.heap.size:=(gzE.1 h.2).1
theorem Pu.cell(h:Pu t n w P ps)(k:Nat)(hk:k<n):∀f v,(pL ps[k]!)[f]?=some v→w.cell? ⟨P,k*5+f,none⟩=some v:=by
 intro f v hv;have hf:f<5:=(List.getElem?_eq_some_iff.1 hv).1;rw[jZ w P (k*5+f) _ _ (0,0) h.2];rw[List.getElem?_toArray,zMi ps k (by rw[h.1];exact hk) f hf]
 exact hv
theorem Pu.froz(h:Pu t n w P ps)(j:Nat):w.frozen? ⟨P,j,none⟩=false:=frozen_of_row w _ j _ _ h.2
theorem Pu.put(h:Pu t n w P ps)(k f:Nat)(v:Value)(z:Pz)(hk:k<n)(hf:f<5)(hz:(pL ps[k]!).set f v=pL z):Pu t n (w.setCell ⟨P,k*5+f,none⟩ v) P (ps.set k z):=by
 refine⟨by rw[List.length_set];exact h.1,?_⟩
 rw[jB w P (k*5+f) _ _ v h.2,←zMj ps k f v z (by rw[h.1];exact hk) hf hz]
 simp
theorem Pu.same(h:Pu t n w P ps)(e:w'.heap[P]?=w.heap[P]?):Pu t n w' P ps:=⟨h.1,e.trans h.2⟩
theorem Pu.below(h:Pu t n w P ps)(hb:Bw w w'):Pu t n w' P ps:=h.same (hb.block P h.lt)
end
theorem grB{w w' : World}(h:Bw w w')(row:Option Nat):w.grownBy w' row:=⟨h.os,h.tape,h.output,h.size,fun k hk _=>h.block k hk⟩
theorem grT{a b c:World}{row:Option Nat}(h:a.grownBy b row)(k:b.grownBy c row):a.grownBy c row:=
 ⟨k.os.trans h.os,k.tape.trans h.tape,k.output.trans h.output,jM h.size k.size,fun i hi hn=>(k.block i (jC hi h.size) hn).trans (h.block i hi hn)⟩
theorem grC(w:World)(g o:Nat)(u:Value):w.grownBy (w.setCell ⟨g,o,none⟩ u) (some g):=
 ⟨rfl,rfl,rfl,by simp,fun k _ hk=>heap_setCell_other w ⟨g,o,none⟩ k u (fun e=>hk (by rw[e]))⟩
theorem grD(w:World)(row:Option Nat):w.grownBy w.drew row:=⟨rfl,rfl,rfl,nzR _,fun _ _ _=>rfl⟩
theorem grDN(w:World)(q:Nat)(row:Option Nat):w.grownBy (w.drewN q) row:=⟨rfl,rfl,rfl,nzR _,fun _ _ _=>rfl⟩
theorem belG{B P:Nat}{a w w' : World}(h:Below B a w)(hg:w.grownBy w' (some P))(hB:B≤w.heap.size)(hP:B≤P):Below B a w':=h.grown hg hB (fun k hk=>by cases hk;exact hP)
theorem zAN(x:Int)(h1 : -9000000000000000000≤x)(h2:x≤9000000000000000000):wrap64 x=x:=by unfold wrap64;omega
theorem of_at(P k:Nat)(who:Int)(w:World)(hw:who=(k:Int)+1)(hk:k<9) :
  Calls prog 69 #[.pointer (some ⟨P,0,none⟩),.int .i64 who] w fun e w'=>e=.returned (.pointer (some ⟨P,k*5,none⟩))∧w'=w:=by
 have e1:wrap64 (who - 1)=(k:Int):=by rw[hw,show (k:Int)+1 - 1=(k:Int) by omega];exact zAN _ (by omega) (by omega)
 have h9:(k:Int)<9:=by omega
 have h0:(0:Int)≤(k:Int):=by omega
 clear hw;go_enter func69,ntmps69;go_wp2_with fail;go_ret;exact⟨by simp,rfl⟩
theorem zDS(a b:Int)(w:World)(h:wrap64 (a+b)=a+b) :
  Calls prog 107 #[.int .i64 a,.int .i64 b] w fun e w'=>e=.returned (.bool (decide (1000000000<a+b)))∧w'=w:=by
 go_enter func107,ntmps107;go_wp2_with fail;go_ret;exact⟨rfl,rfl⟩
theorem zIK(P o:Nat)(x n:Int)(w:World)(hc:w.cell? ⟨P,o,none⟩=some (.int .i64 x))(h:wrap64 (x+n)=x+n)(hf:1000000000<x+n) :
  Calls prog 68 #[.pointer (some ⟨P,o,none⟩),.int .i64 n] w fun e w'=>e=.returned (errV 4)∧w'=w:=by
 have HO:Hid (Calls prog 107 #[.int .i64 x,.int .i64 n] w fun e w'=>e=.returned (.bool true)∧w'=w):=by
  have:=zDS x n w h;rw[decide_eq_true hf] at this;exact this
 clear hf h;go_enter func68,ntmps68;go_wp2_with fail;refine HO.out.mono ?_;rintro e w1⟨rfl,rfl⟩;go_wp2_with fail;go_ret;exact⟨rfl,rfl⟩
theorem wBh(P o:Nat)(x n:Int)(w:World)(hc:w.cell? ⟨P,o,none⟩=some (.int .i64 x))(hz:w.frozen? ⟨P,o,none⟩=false)(h:wrap64 (x+n)=x+n)(hf:¬1000000000<x+n) :
  Calls prog 68 #[.pointer (some ⟨P,o,none⟩),.int .i64 n] w fun e w'=>e=.returned (errV 0)∧w'=w.setCell ⟨P,o,none⟩ (.int .i64 (x+n)):=by
 have HO:Hid (Calls prog 107 #[.int .i64 x,.int .i64 n] w fun e w'=>e=.returned (.bool false)∧w'=w):=by
  have:=zDS x n w h;rw[decide_eq_false hf] at this;exact this
 clear hf;go_enter func68,ntmps68;go_wp2_with fail;refine HO.out.mono ?_;rintro e w1⟨rfl,rfl⟩;go_wp2_with fail;go_ret;exact⟨rfl,rfl⟩
def badG(who n:Int):Bool:=[(who,1,9),(n,1,1000000000)].any zAl
def badH(who c s:Int):Bool:=[(who,1,9),(c,0,1000000000),(s,0,1000000000)].any zAl
theorem zFS{who n:Int}(h:badG who n=false):1≤who∧who≤9∧1≤n∧n≤1000000000:=by
 simp[badG,zAl] at h;omega
theorem zFT{who c s:Int}(h:badH who c s=false):1≤who∧who≤9∧0≤c∧c≤1000000000∧0≤s∧s≤1000000000:=by
 simp[badH,zAl] at h;omega
theorem zGV(who n:Int)(w:World) :
  Calls prog 67 #[.int .i64 who,.int .i64 n] w fun e w'=>e=.returned (errV (zAd (badG who n)))∧Bw w w':=by
 have HR:Hid ([(who,1,9),(n,1,1000000000)].any zAl=badG who n):=rfl;generalize badG who n=r at *;go_enter func67,ntmps67;go_wp2_with fail;refine(zCl who _).mono ?_;rintro e w1⟨rfl,Hc⟩;have He:=hidU Hc;clear Hc;go_wp2_with fail;refine(zAY n 1 1000000000 _).mono ?_;rintro e w2⟨rfl,Ha⟩;have Hg:=hidU (He.out.trans (Ha.mono He.out.size));clear Ha;go_wp2_with fail;refine(scheck2 r _ _ _ _ _ _ _ _ rfl HR.out).mono ?_;rintro e w3⟨rfl,Hr⟩;have HU:=hidU (Hg.out.trans (Hr.mono Hg.out.size));clear Hr;go_wp2_with fail;go_ret;exact⟨rfl,HU.out⟩
theorem zIL(who c s:Int)(w:World) :
  Calls prog 88 #[.int .i64 who,.int .i64 c,.int .i64 s] w fun e w'=>e=.returned (errV (zAd (badH who c s)))∧Bw w w':=by
 have HR:Hid ([(who,1,9),(c,0,1000000000),(s,0,1000000000)].any zAl=badH who c s):=rfl;generalize badH who c s=r at *;go_enter func88,ntmps88;go_wp2_with fail;refine(zCl who _).mono ?_;rintro e w1⟨rfl,Hc⟩;have He:=hidU Hc;clear Hc;go_wp2_with fail;refine(zAY c 0 1000000000 _).mono ?_;rintro e w2⟨rfl,Ha⟩;have Hg:=hidU (He.out.trans (Ha.mono He.out.size));clear Ha;go_wp2_with fail;refine(zAY s 0 1000000000 _).mono ?_;rintro e w3⟨rfl,Hr⟩;have HU:=hidU (Hg.out.trans (Hr.mono Hg.out.size));clear Hr;go_wp2_with fail;refine(scheck3 r _ _ _ _ _ _ _ _ _ _ _ rfl HR.out).mono ?_;rintro e w4⟨rfl,Gj⟩;have Gi:=hidU (HU.out.trans (Gj.mono HU.out.size));clear Gj;go_wp2_with fail;go_ret;exact⟨rfl,Gi.out⟩
def ix(who:Int):Nat:=(who - 1).toNat
theorem ix_of{who:Int}(h1:1≤who)(h2:who≤9):∃k:Nat,who=(k:Int)+1∧k<9∧ix who=k:=⟨(who - 1).toNat,by omega,by omega,rfl⟩
def adC(d:Int)(z:Pz):Pz:={ z with cash:=z.cash+d }
def adH(d:Int)(z:Pz):Pz:={ z with held:=z.held+d }
def adS(d:Int)(z:Pz):Pz:={ z with stock:=z.stock+d }
def adT(d:Int)(z:Pz):Pz:={ z with hs:=z.hs+d }
def on(f:Pz→Pz)(k:Nat)(ps:List Pz):List Pz:=ps.set k (f ps[k]!)
theorem zEr(f:Pz→Pz)(k:Nat)(ps:List Pz):(on f k ps).length=ps.length:=by unfold on;rw[List.length_set]
theorem on_at(f:Pz→Pz)(k:Nat)(ps:List Pz)(i:Nat)(hi:i<ps.length):(on f k ps)[i]! = if i=k then f ps[i]! else ps[i]!:=by
 unfold on;rw[getP _ i (by rw[List.length_set];exact hi),getP ps i hi]
 by_cases h:i=k
 ·subst h;rw[if_pos rfl,List.getElem_set_self,getP ps i hi]
 ·rw[if_neg h,List.getElem_set_ne (fun e=>h e.symm)]
theorem ext9{a b:List Pz}{n:Nat}(ha:a.length=n)(hb:b.length=n)(h:∀i,i<n→a[i]! = b[i]!):a=b:=by
 refine List.ext_getElem (by omega) (fun i h1 h2=>?_)
 have:=h i (by omega)
 rwa [getP a i h1,getP b i h2] at this
structure Fz (i:Nat) (z:Pz):Prop where
 who:z.who=(i:Int)+1
 h0:0≤z.held
 hc:z.held≤z.cash
 cm:z.cash≤1000000000
 t0:0≤z.hs
 ts:z.hs≤z.stock
 sm:z.stock≤1000000000
structure Ok (ps:List Pz):Prop where
 len:ps.length=9
 all:∀i,i<9→Fz i ps[i]!
theorem Ok.on{ps:List Pz}(h:Ok ps){f:Pz→Pz}{k:Nat}(hf:k<9→Fz k (f ps[k]!)):Ok (on f k ps):=by
 refine⟨(zEr f k ps).trans h.len,fun i hi=>?_⟩
 rw[on_at f k ps i (by rw[h.len];exact hi)]
 by_cases e:i=k
 ·subst e;rw[if_pos rfl];exact hf hi
 ·rw[if_neg e];exact h.all i hi
def payE(ps:List Pz)(who n:Int):Int:=if badG who n=true then 1 else if 1000000000<(ps[ix who]!).cash+n then 4 else 0
def zDf(ps:List Pz)(who n:Int):Int:=if badG who n=true then 1 else if 1000000000<(ps[ix who]!).stock+n then 4 else 0
def payP(ps:List Pz)(who n:Int):List Pz:=if payE ps who n=0 then on (adC n) (ix who) ps else ps
def zDv(ps:List Pz)(who n:Int):List Pz:=if zDf ps who n=0 then on (adS n) (ix who) ps else ps
def zCu(ps:List Pz)(who c s:Int):Int:=if badH who c s=true then 1 else if (ps[ix who]!).cash - (ps[ix who]!).held<c∨(ps[ix who]!).stock - (ps[ix who]!).hs<s then 9 else 0
def zCv(ps:List Pz)(who c s:Int):Int:=if badH who c s=true then 1 else if (ps[ix who]!).held<c∨(ps[ix who]!).hs<s then 9 else 0
def zCP(ps:List Pz)(who c s:Int):List Pz:=if zCu ps who c s=0 then on (adT s) (ix who) (on (adH c) (ix who) ps) else ps
def zCK(ps:List Pz)(who c s:Int):List Pz:=if zCv ps who c s=0 then on (adT (-s)) (ix who) (on (adH (-c)) (ix who) ps) else ps
def badT(f t p q:Int):Bool:=[(f,1,9),(t,1,9),(p,1,10000),(q,1,10000)].any zAl
theorem zHU{f t p q:Int}(h:badT f t p q=false):1≤f∧f≤9∧1≤t∧t≤9∧1≤p∧p≤10000∧1≤q∧q≤10000:=by
 simp[badT,zAl] at h;omega
def zAS(ps:List Pz)(f t p q:Int):Int:=
 if badT f t p q=true then 1 else if (ps[ix f]!).hs<q∨(ps[ix t]!).held<p*q then 9
 else if ¬f=t∧(1000000000<(ps[ix f]!).cash+p*q∨1000000000<(ps[ix t]!).stock+q) then 4 else 0
def zGW(a b:Nat)(c q:Int)(ps:List Pz):List Pz:=on (adC c) a (on (adC (-c)) b (on (adH (-c)) b (on (adS q) b (on (adS (-q)) a (on (adT (-q)) a ps)))))
def zBm(ps:List Pz)(f t p q:Int):List Pz:=if zAS ps f t p q=0 then zGW (ix f) (ix t) (p*q) q ps else ps
theorem zDw{f:Pz→Pz}{k:Nat}{ps:List Pz}(h:ps.length=9):(on f k ps).length=9:=(zEr f k ps).trans h
theorem zMk{a b:Nat}{c q:Int}{ps:List Pz}(h:ps.length=9)(i:Nat)(hi:i<9) :
  (zGW a b c q ps)[i]! = ⟨(ps[i]!).who,(ps[i]!).cash+(if i=b then -c else 0)+(if i=a then c else 0),(ps[i]!).held+(if i=b then -c else 0),(ps[i]!).stock+(if i=a then -q else 0)+(if i=b then q else 0),(ps[i]!).hs+(if i=a then -q else 0)⟩:=by
 have h1:=zDw (f:=adT (-q)) (k:=a) h;have h2:=zDw (f:=adS (-q)) (k:=a) h1;have h3:=zDw (f:=adS q) (k:=b) h2;have h4:=zDw (f:=adH (-c)) (k:=b) h3;have h5:=zDw (f:=adC (-c)) (k:=b) h4;unfold zGW;rw[on_at _ _ _ i (by omega),on_at _ _ _ i (by omega),on_at _ _ _ i (by omega),on_at _ _ _ i (by omega),on_at _ _ _ i (by omega),on_at _ _ _ i (by omega)]
 by_cases ea:i=a
 ·by_cases eb:i=b
  ·simp only[if_pos ea,if_pos eb,adC,adH,adS,adT]
  ·simp only[if_pos ea,if_neg eb,adC,adH,adS,adT,Int.add_zero]
 ·by_cases eb:i=b
  ·simp only[if_neg ea,if_pos eb,adC,adH,adS,adT,Int.add_zero]
  ·simp only[if_neg ea,if_neg eb,Int.add_zero]
theorem pay_ok{ps:List Pz}(h:Ok ps)(who n:Int):Ok (payP ps who n):=by
 unfold payP;by_cases e:payE ps who n=0
 ·rw[if_pos e];unfold payE at e;by_cases hb:badG who n=true
  ·rw[if_pos hb] at e;omega
  ·rw[if_neg hb] at e;have Uo:=zFS (by simpa using hb)
   by_cases hf:1000000000<(ps[ix who]!).cash+n
   ·rw[if_pos hf] at e;omega
   ·refine h.on (fun hk=>?_)
    have z:=h.all _ hk;exact⟨z.who,z.h0,by have:=z.hc;simp only[adC];omega,by simp only[adC];omega,z.t0,z.ts,z.sm⟩
 ·rw[if_neg e];exact h
theorem zRa{ps:List Pz}(h:Ok ps)(who n:Int):Ok (zDv ps who n):=by
 unfold zDv;by_cases e:zDf ps who n=0
 ·rw[if_pos e];unfold zDf at e;by_cases hb:badG who n=true
  ·rw[if_pos hb] at e;omega
  ·rw[if_neg hb] at e;have Uo:=zFS (by simpa using hb)
   by_cases hf:1000000000<(ps[ix who]!).stock+n
   ·rw[if_pos hf] at e;omega
   ·refine h.on (fun hk=>?_)
    have z:=h.all _ hk;exact⟨z.who,z.h0,z.hc,z.cm,z.t0,by have:=z.ts;simp only[adS];omega,by simp only[adS];omega⟩
 ·rw[if_neg e];exact h
theorem wBb{ps:List Pz}(h:Ok ps)(who c s:Int):Ok (zCP ps who c s):=by
 unfold zCP;by_cases e:zCu ps who c s=0
 ·rw[if_pos e];unfold zCu at e;by_cases hb:badH who c s=true
  ·rw[if_pos hb] at e;omega
  ·rw[if_neg hb] at e;have Uo:=zFT (by simpa using hb)
   by_cases hf:(ps[ix who]!).cash - (ps[ix who]!).held<c∨(ps[ix who]!).stock - (ps[ix who]!).hs<s
   ·rw[if_pos hf] at e;omega
   ·have h1:Ok (on (adH c) (ix who) ps):=h.on (fun hk=>by
     have z:=h.all _ hk;exact⟨z.who,by have:=z.h0;simp only[adH];omega,by simp only[adH];omega,z.cm,z.t0,z.ts,z.sm⟩)
    refine h1.on (fun hk=>?_)
    have z:=h1.all _ hk;have z0:=h.all _ hk;rw[on_at (adH c) (ix who) ps _ (by rw[h.len];exact hk),if_pos rfl] at z ⊢
    exact⟨z.who,z.h0,z.hc,z.cm,by have:=z0.t0;show 0≤(ps[ix who]!).hs+s;omega,by show (ps[ix who]!).hs+s≤(ps[ix who]!).stock;omega,z.sm⟩
 ·rw[if_neg e];exact h
theorem wBa{ps:List Pz}(h:Ok ps)(who c s:Int):Ok (zCK ps who c s):=by
 unfold zCK;by_cases e:zCv ps who c s=0
 ·rw[if_pos e];unfold zCv at e;by_cases hb:badH who c s=true
  ·rw[if_pos hb] at e;omega
  ·rw[if_neg hb] at e;have Uo:=zFT (by simpa using hb)
   by_cases hf:(ps[ix who]!).held<c∨(ps[ix who]!).hs<s
   ·rw[if_pos hf] at e;omega
   ·have h1:Ok (on (adH (-c)) (ix who) ps):=h.on (fun hk=>by
     have z:=h.all _ hk;exact⟨z.who,by simp only[adH];omega,by have:=z.hc;simp only[adH];omega,z.cm,z.t0,z.ts,z.sm⟩)
    refine h1.on (fun hk=>?_)
    have z:=h1.all _ hk;have z0:=h.all _ hk;rw[on_at (adH (-c)) (ix who) ps _ (by rw[h.len];exact hk),if_pos rfl] at z ⊢
    exact⟨z.who,z.h0,z.hc,z.cm,by show 0≤(ps[ix who]!).hs + -s;omega,by have:=z0.ts;show (ps[ix who]!).hs + -s≤(ps[ix who]!).stock;omega,z.sm⟩
 ·rw[if_neg e];exact h
theorem zGX{p q:Int}(h1:1≤p)(h2:p≤10000)(h3:1≤q)(h4:q≤10000):1≤p*q∧p*q≤100000000:=by
 have a:1*1≤p*q:=Int.mul_le_mul h1 h3 (by omega) (by omega)
 have b:p*q≤10000*10000:=Int.mul_le_mul h2 h4 (by omega) (by omega)
 omega
theorem zEs{ps:List Pz}{f t p q:Int}(e:zAS ps f t p q=0):badT f t p q=false∧¬(ps[ix f]!).hs<q∧¬(ps[ix t]!).held<p*q∧(¬f=t→¬1000000000<(ps[ix f]!).cash+p*q∧¬1000000000<(ps[ix t]!).stock+q):=by
 unfold zAS at e;by_cases hb:badT f t p q=true
 ·rw[if_pos hb] at e;omega
 ·rw[if_neg hb] at e;by_cases h1:(ps[ix f]!).hs<q∨(ps[ix t]!).held<p*q
  ·rw[if_pos h1] at e;omega
  ·rw[if_neg h1] at e;by_cases h2:¬f=t∧(1000000000<(ps[ix f]!).cash+p*q∨1000000000<(ps[ix t]!).stock+q)
   ·rw[if_pos h2] at e;omega
   ·exact⟨by simpa using hb,fun h=>h1 (.inl h),fun h=>h1 (.inr h),fun H8=>⟨fun h=>h2 ⟨H8,.inl h⟩,fun h=>h2 ⟨H8,.inr h⟩⟩⟩
theorem zIM{ps:List Pz}(h:Ok ps)(f t p q:Int):Ok (zBm ps f t p q):=by
 unfold zBm;by_cases e:zAS ps f t p q=0
 ·rw[if_pos e];obtain⟨hb,h1,h2,h3⟩:=zEs e;obtain⟨b1,b2,b3,b4,b5,b6,b7,b8⟩:=zHU hb;have hm:=zGX b5 b6 b7 b8;generalize p*q=c at *;have PW:ix f=ix t→f=t:=by unfold ix;omega
  refine⟨by unfold zGW;simp only[zEr];exact h.len,fun i hi=>?_⟩
  rw[zMk h.len i hi];have z:=h.all i hi;by_cases ea:i=ix f
  ·by_cases eb:i=ix t
   ·rw[←ea] at h1 h3;rw[←eb] at h2;simp only[if_pos ea,if_pos eb];exact⟨z.who,by dsimp only;omega,by have:=z.hc;dsimp only;omega,by have:=z.cm;dsimp only;omega,by dsimp only;omega,by have:=z.ts;dsimp only;omega,by have:=z.sm;dsimp only;omega⟩
   ·have h4:=h3 (fun e=>eb (by rw[ea,e]))
    rw[←ea] at h1 h4;simp only[if_pos ea,if_neg eb,Int.add_zero];exact⟨z.who,z.h0,by have:=z.hc;dsimp only;omega,by dsimp only;omega,by dsimp only;omega,by have:=z.ts;dsimp only;omega,by have:=z.sm;dsimp only;omega⟩
  ·by_cases eb:i=ix t
   ·have h4:=h3 (fun e=>ea (by rw[eb,e]))
    rw[←eb] at h2 h4;simp only[if_neg ea,if_pos eb,Int.add_zero];exact⟨z.who,by dsimp only;omega,by have:=z.hc;dsimp only;omega,by have:=z.cm;dsimp only;omega,z.t0,by have:=z.ts;dsimp only;omega,by dsimp only;omega⟩
   ·simp only[if_neg ea,if_neg eb,Int.add_zero];exact z
 ·rw[if_neg e];exact h
def sumC(ps:List Pz):Int:=(ps.map (·.cash)).sum
def sumS(ps:List Pz):Int:=(ps.map (·.stock)).sum
theorem belD{w w1:World}(h:Bw w w1)(n:Nat):Bw w (w1.drewN n):=⟨h.os,h.tape,h.output,h.size,h.block⟩
theorem zOX(P:Nat)(ps:List Pz)(who c s:Int)(w:World)(h:Pu 98 9 w P ps)(ho:Ok ps) :
  Calls prog 56 #[.pointer (some ⟨P,0,none⟩),.int .i64 who,.int .i64 c,.int .i64 s] w fun e w'=>e=.returned (errV (zCu ps who c s))∧Pu 98 9 w' P (zCP ps who c s)∧w.grownBy w' (some P):=by
 have HG:=hidU (zIL who c s w);have HP:=hidU h;cases hb:badH who c s with
 | true=>
  rw[hb] at HG;have HE:Hid (zCu ps who c s=1):=by show _=_;unfold zCu;rw[hb];rfl
  have HF:Hid (zCP ps who c s=ps):=by show _=_;unfold zCP;rw[HE.out];rfl
  rw[HE.out,HF.out];clear h ho hb HE HF;simp only[show errV (zAd true)=.iface 90 (.int .i64 1) from rfl] at HG
  go_enter func56,ntmps56;go_wp2_with fail;refine HG.out.mono ?_;rintro e w1⟨rfl,Hc⟩;have He:=hidU Hc;clear Hc;go_wp2_with fail;go_ret;exact⟨rfl,HP.out.below He.out,grB He.out _⟩
 | false=>
  rw[hb] at HG;simp only[show errV (zAd false)=.nilIface from rfl] at HG
  obtain⟨b1,b2,b3,b4,b5,b6⟩:=zFT hb;obtain⟨k,hw,hk,Ud⟩:=ix_of b1 b2;obtain⟨-,z1,z2,z3,z4,z5,z6⟩:=ho.all k hk;have Ui:Hid (∀W,Calls prog 69 #[.pointer (some ⟨P,0,none⟩),.int .i64 who] W fun e w'=>e=.returned (.pointer (some ⟨P,k*5,none⟩))∧w'=W):=fun W=>of_at P k who W hw hk
  have HX:Hid (∀W,Pu 98 9 W P ps→W.cell? ⟨P,k*5+1,none⟩=some (.int .i64 (ps[k]!).cash)∧W.cell? ⟨P,k*5+2,none⟩=some (.int .i64 (ps[k]!).held)∧W.cell? ⟨P,k*5+3,none⟩=some (.int .i64 (ps[k]!).stock)∧W.cell? ⟨P,k*5+4,none⟩=some (.int .i64 (ps[k]!).hs)):=fun W hW=>⟨hW.cell k hk 1 _ rfl,hW.cell k hk 2 _ rfl,hW.cell k hk 3 _ rfl,hW.cell k hk 4 _ rfl⟩
  have HE:Hid (zCu ps who c s=if (ps[k]!).cash - (ps[k]!).held<c∨(ps[k]!).stock - (ps[k]!).hs<s then 9 else 0):=by show _=_;unfold zCu;rw[hb,Ud];rfl
  have HN:Hid (∀W,Pu 98 9 W P ps→zCu ps who c s=0→W.frozen? ⟨P,k*5+2,none⟩=false∧(∀V,V=W.setCell ⟨P,k*5+2,none⟩ (.int .i64 ((ps[k]!).held+c))→V.cell? ⟨P,k*5+4,none⟩=some (.int .i64 (ps[k]!).hs)∧V.frozen? ⟨P,k*5+4,none⟩=false∧Pu 98 9 (V.setCell ⟨P,k*5+4,none⟩ (.int .i64 ((ps[k]!).hs+s))) P (zCP ps who c s))):=fun W hW hf=>by
   refine⟨hW.froz _,fun V hV=>?_⟩
   have Hh:k<ps.length:=by rw[ho.len];exact hk
   have p1:Pu 98 9 V P (on (adH (c)) k ps):=by rw[hV];exact hW.put k 2 _ _ hk (by omega) rfl
   have e1:=on_at (adH (c)) k ps k Hh;rw[if_pos rfl] at e1;refine⟨?_,p1.froz _,?_⟩
   ·have:=p1.cell k hk 4 (.int .i64 (ps[k]!).hs) (by rw[e1];rfl)
    exact this
   ·unfold zCP;rw[hf,if_pos rfl,Ud];exact p1.put k 4 _ _ hk (by omega) (by rw[e1];rfl)
  generalize (ps[k]!).cash=C at *;generalize (ps[k]!).held=H at *;generalize (ps[k]!).stock=S at *;generalize (ps[k]!).hs=T at *;have MV:wrap64 (C - H)=C - H:=zAN _ (by omega) (by omega)
  have uC:wrap64 (S - T)=S - T:=zAN _ (by omega) (by omega)
  have CX:IntKind.i64.wrap (C - H)=C - H:=(IntWalk.i64_left _).trans MV;have mA:IntKind.i64.wrap (S - T)=S - T:=(IntWalk.i64_left _).trans uC;have Hl:wrap64 (H+c)=H+c:=zAN _ (by omega) (by omega)
  have H9:wrap64 (T+s)=T+s:=zAN _ (by omega) (by omega)
  clear h ho hb hw hk Ud b1 b2 b3 b4 b5 b6 z1 z2 z3 z4 z5 z6;by_cases hf:C - H<c
  ·have Gs:Hid (zCu ps who c s=9):=by show _=_;rw[HE.out,if_pos (.inl hf)]
   have HF:Hid (zCP ps who c s=ps):=by show _=_;unfold zCP;rw[Gs.out];rfl
   have d1:decide (C - H<c)=true:=decide_eq_true hf;rw[Gs.out,HF.out];clear Hl H9 HE HN HF Gs;go_enter func56,ntmps56;go_wp2_with fail;refine HG.out.mono ?_;rintro e w1⟨rfl,Hc⟩;have He:=hidU Hc;clear Hc;go_wp2_with fail;refine(Ui.out _).mono ?_;rintro e w2⟨rfl,rfl⟩;obtain⟨c1,c2,c3,c4⟩:=HX.out _ (HP.out.below He.out);go_wp2_with fail;go_quiet (fail)
   go_wp2_with fail;go_ret;exact⟨rfl,HP.out.below (belD He.out _),grB (belD He.out _) _⟩
  by_cases hg:S - T<s
  ·have Gs:Hid (zCu ps who c s=9):=by show _=_;rw[HE.out,if_pos (.inr hg)]
   have HF:Hid (zCP ps who c s=ps):=by show _=_;unfold zCP;rw[Gs.out];rfl
   have d1:decide (C - H<c)=false:=decide_eq_false hf;have d2:decide (S - T<s)=true:=decide_eq_true hg;rw[Gs.out,HF.out];clear Hl H9 HE HN HF Gs;go_enter func56,ntmps56;go_wp2_with fail;refine HG.out.mono ?_;rintro e w1⟨rfl,Hc⟩;have He:=hidU Hc;clear Hc;go_wp2_with fail;refine(Ui.out _).mono ?_;rintro e w2⟨rfl,rfl⟩;obtain⟨c1,c2,c3,c4⟩:=HX.out _ (HP.out.below He.out);go_wp2_with fail;go_quiet (fail)
   go_wp2_with fail;go_ret;exact⟨rfl,HP.out.below (belD He.out _),grB (belD He.out _) _⟩
  ·have Gs:Hid (zCu ps who c s=0):=by show _=_;rw[HE.out,if_neg (fun x=>x.elim hf hg)]
   have d1:decide (C - H<c)=false:=decide_eq_false hf;have d2:decide (S - T<s)=false:=decide_eq_false hg;have Ug:=hidU (fun W hW=>HN.out W hW Gs.out)
   rw[Gs.out];clear HE HN Gs;go_enter func56,ntmps56;go_wp2_with fail;refine HG.out.mono ?_;rintro e w1⟨rfl,Hc⟩;have He:=hidU Hc;clear Hc;go_wp2_with fail;refine(Ui.out _).mono ?_;rintro e w2⟨rfl,rfl⟩;obtain⟨c1,c2,c3,c4⟩:=HX.out _ (HP.out.below He.out);go_wp2_with fail;go_quiet (fail)
   have Hg:=hidU (belD He.out nq);generalize w2.drewN nq=w3 at *;clear c1 c2 c3 c4 He hf hg;obtain⟨fz,HV⟩:=Ug.out _ (HP.out.below Hg.out);obtain⟨c1,c2,c3,c4⟩:=HX.out _ (HP.out.below Hg.out);have ul:=hidU (HV _ rfl);have cI:=hidU (grT (grT (grB Hg.out (some P)) (grC w3 P (k*5+2) (.int .i64 (H+c)))) (grC (w3.setCell ⟨P,k*5+2,none⟩ (.int .i64 (H+c))) P (k*5+4) (.int .i64 (T+s))));clear Ug HV HX;go_upto_region 8 with fail
   generalize w3.setCell ⟨P,k*5+2,none⟩ (.int .i64 (H+c))=w4 at *;clear c1 c2 c3 c4 fz;obtain⟨x1,x2,x3⟩:=ul.out;have HL:=hidU x3;clear ul x3;go_upto_region 9 with fail
   generalize w4.setCell ⟨P,k*5+4,none⟩ (.int .i64 (T+s))=w5 at *;clear x1 x2;go_wp2_with fail;go_ret;exact⟨rfl,HL.out,cI.out⟩
theorem wAZ(P:Nat)(ps:List Pz)(who c s:Int)(w:World)(h:Pu 98 9 w P ps)(ho:Ok ps) :
  Calls prog 93 #[.pointer (some ⟨P,0,none⟩),.int .i64 who,.int .i64 c,.int .i64 s] w fun e w'=>e=.returned (errV (zCv ps who c s))∧Pu 98 9 w' P (zCK ps who c s)∧w.grownBy w' (some P):=by
 have HG:=hidU (zIL who c s w);have HP:=hidU h;cases hb:badH who c s with
 | true=>
  rw[hb] at HG;have HE:Hid (zCv ps who c s=1):=by show _=_;unfold zCv;rw[hb];rfl
  have HF:Hid (zCK ps who c s=ps):=by show _=_;unfold zCK;rw[HE.out];rfl
  rw[HE.out,HF.out];clear h ho hb HE HF;simp only[show errV (zAd true)=.iface 90 (.int .i64 1) from rfl] at HG
  go_enter func93,ntmps93;go_wp2_with fail;refine HG.out.mono ?_;rintro e w1⟨rfl,Hc⟩;have He:=hidU Hc;clear Hc;go_wp2_with fail;go_ret;exact⟨rfl,HP.out.below He.out,grB He.out _⟩
 | false=>
  rw[hb] at HG;simp only[show errV (zAd false)=.nilIface from rfl] at HG
  obtain⟨b1,b2,b3,b4,b5,b6⟩:=zFT hb;obtain⟨k,hw,hk,Ud⟩:=ix_of b1 b2;obtain⟨-,z1,z2,z3,z4,z5,z6⟩:=ho.all k hk;have Ui:Hid (∀W,Calls prog 69 #[.pointer (some ⟨P,0,none⟩),.int .i64 who] W fun e w'=>e=.returned (.pointer (some ⟨P,k*5,none⟩))∧w'=W):=fun W=>of_at P k who W hw hk
  have HX:Hid (∀W,Pu 98 9 W P ps→W.cell? ⟨P,k*5+1,none⟩=some (.int .i64 (ps[k]!).cash)∧W.cell? ⟨P,k*5+2,none⟩=some (.int .i64 (ps[k]!).held)∧W.cell? ⟨P,k*5+3,none⟩=some (.int .i64 (ps[k]!).stock)∧W.cell? ⟨P,k*5+4,none⟩=some (.int .i64 (ps[k]!).hs)):=fun W hW=>⟨hW.cell k hk 1 _ rfl,hW.cell k hk 2 _ rfl,hW.cell k hk 3 _ rfl,hW.cell k hk 4 _ rfl⟩
  have HE:Hid (zCv ps who c s=if (ps[k]!).held<c∨(ps[k]!).hs<s then 9 else 0):=by show _=_;unfold zCv;rw[hb,Ud];rfl
  have HN:Hid (∀W,Pu 98 9 W P ps→zCv ps who c s=0→W.frozen? ⟨P,k*5+2,none⟩=false∧(∀V,V=W.setCell ⟨P,k*5+2,none⟩ (.int .i64 ((ps[k]!).held - c))→V.cell? ⟨P,k*5+4,none⟩=some (.int .i64 (ps[k]!).hs)∧V.frozen? ⟨P,k*5+4,none⟩=false∧Pu 98 9 (V.setCell ⟨P,k*5+4,none⟩ (.int .i64 ((ps[k]!).hs - s))) P (zCK ps who c s))):=fun W hW hf=>by
   refine⟨hW.froz _,fun V hV=>?_⟩
   have Hh:k<ps.length:=by rw[ho.len];exact hk
   have p1:Pu 98 9 V P (on (adH (-c)) k ps):=by rw[hV];exact hW.put k 2 _ _ hk (by omega) rfl
   have e1:=on_at (adH (-c)) k ps k Hh;rw[if_pos rfl] at e1;refine⟨?_,p1.froz _,?_⟩
   ·have:=p1.cell k hk 4 (.int .i64 (ps[k]!).hs) (by rw[e1];rfl)
    exact this
   ·unfold zCK;rw[hf,if_pos rfl,Ud];exact p1.put k 4 _ _ hk (by omega) (by rw[e1];rfl)
  generalize (ps[k]!).cash=C at *;generalize (ps[k]!).held=H at *;generalize (ps[k]!).stock=S at *;generalize (ps[k]!).hs=T at *;have Hl:wrap64 (H - c)=H - c:=zAN _ (by omega) (by omega)
  have H9:wrap64 (T - s)=T - s:=zAN _ (by omega) (by omega)
  clear h ho hb hw hk Ud b1 b2 b3 b4 b5 b6 z1 z2 z3 z4 z5 z6;by_cases hf:H<c
  ·have Gs:Hid (zCv ps who c s=9):=by show _=_;rw[HE.out,if_pos (.inl hf)]
   have HF:Hid (zCK ps who c s=ps):=by show _=_;unfold zCK;rw[Gs.out];rfl
   have d1:decide (H<c)=true:=decide_eq_true hf;rw[Gs.out,HF.out];clear Hl H9 HE HN HF Gs;go_enter func93,ntmps93;go_wp2_with fail;refine HG.out.mono ?_;rintro e w1⟨rfl,Hc⟩;have He:=hidU Hc;clear Hc;go_wp2_with fail;refine(Ui.out _).mono ?_;rintro e w2⟨rfl,rfl⟩;obtain⟨c1,c2,c3,c4⟩:=HX.out _ (HP.out.below He.out);go_wp2_with fail;go_ret;exact⟨rfl,HP.out.below He.out,grB He.out _⟩
  by_cases hg:T<s
  ·have Gs:Hid (zCv ps who c s=9):=by show _=_;rw[HE.out,if_pos (.inr hg)]
   have HF:Hid (zCK ps who c s=ps):=by show _=_;unfold zCK;rw[Gs.out];rfl
   have d1:decide (H<c)=false:=decide_eq_false hf;have d2:decide (T<s)=true:=decide_eq_true hg;rw[Gs.out,HF.out];clear Hl H9 HE HN HF Gs;go_enter func93,ntmps93;go_wp2_with fail;refine HG.out.mono ?_;rintro e w1⟨rfl,Hc⟩;have He:=hidU Hc;clear Hc;go_wp2_with fail;refine(Ui.out _).mono ?_;rintro e w2⟨rfl,rfl⟩;obtain⟨c1,c2,c3,c4⟩:=HX.out _ (HP.out.below He.out);go_wp2_with fail;go_ret;exact⟨rfl,HP.out.below He.out,grB He.out _⟩
  ·have Gs:Hid (zCv ps who c s=0):=by show _=_;rw[HE.out,if_neg (fun x=>x.elim hf hg)]
   have d1:decide (H<c)=false:=decide_eq_false hf;have d2:decide (T<s)=false:=decide_eq_false hg;have Ug:=hidU (fun W hW=>HN.out W hW Gs.out)
   rw[Gs.out];clear HE HN Gs;go_enter func93,ntmps93;go_wp2_with fail;refine HG.out.mono ?_;rintro e w1⟨rfl,Hc⟩;have He:=hidU Hc;clear Hc;go_wp2_with fail;refine(Ui.out _).mono ?_;rintro e w2⟨rfl,rfl⟩;obtain⟨c1,c2,c3,c4⟩:=HX.out _ (HP.out.below He.out);have Hg:=hidU He.out;clear c1 c2 c3 c4 He hf hg;obtain⟨fz,HV⟩:=Ug.out _ (HP.out.below Hg.out);obtain⟨c1,c2,c3,c4⟩:=HX.out _ (HP.out.below Hg.out);have ul:=hidU (HV _ rfl);have cI:=hidU (grT (grT (grB Hg.out (some P)) (grC w2 P (k*5+2) (.int .i64 (H - c)))) (grC (w2.setCell ⟨P,k*5+2,none⟩ (.int .i64 (H - c))) P (k*5+4) (.int .i64 (T - s))));clear Ug HV HX;go_upto_region 8 with fail
   generalize w2.setCell ⟨P,k*5+2,none⟩ (.int .i64 (H - c))=w4 at *;clear c1 c2 c3 c4 fz;obtain⟨x1,x2,x3⟩:=ul.out;have HL:=hidU x3;clear ul x3;go_upto_region 9 with fail
   generalize w4.setCell ⟨P,k*5+4,none⟩ (.int .i64 (T - s))=w5 at *;clear x1 x2;go_wp2_with fail;go_ret;exact⟨rfl,HL.out,cI.out⟩
end pur
end Go.Proofs.YtnfilcpnneckkaaGreat
