import Derived.Test.YtnfilcpnneckkaaGreatMeeStep
namespace Go.Proofs.YtnfilcpnneckkaaGreat
open Tryz
namespace slf
open Go.RowKit spn que sid bok mee
open ord (O mB chk)
open tickP (zAo zAB zBA betR)
structure V where
 ls:List L
 ts:List T
 left:Int
 ends:Bool
 ids:List Int
inductive Fine (m:Int) (o:O):List L→Int→V→Prop
 | done {ls:List L}{k:Int}:k≤0→Fine m o ls k ⟨ls,[],k,false,[]⟩
 | stop {ls:List L}{k:Int}:(∀l t,ls=l::t→mB o l.price=false)→Fine m o ls k ⟨ls,[],k,false,[]⟩
 | taker {p:Int}{r:R}{rs:List R}{t:List L}{k:Int}:0<k→mB o p=true→r.who=o.who→m=1→Fine m o (⟨p,r::rs⟩::t) k ⟨⟨p,r::rs⟩::t,[],k,true,[]⟩
 | maker {p:Int}{r:R}{rs:List R}{t:List L}{k:Int}{v:V}:0<k→mB o p=true→r.who=o.who→m=2→Fine m o (zAw p rs t) k v→Fine m o (⟨p,r::rs⟩::t) k ⟨v.ls,v.ts,v.left,v.ends,r.id::v.ids⟩
 | both {p:Int}{r:R}{rs:List R}{t:List L}{k:Int}:0<k→mB o p=true→r.who=o.who→m=3→Fine m o (⟨p,r::rs⟩::t) k ⟨zAw p rs t,[],k,true,[r.id]⟩
 | fill {p:Int}{r:R}{rs:List R}{t:List L}{k:Int}{v:V}:0<k→mB o p=true→¬r.who=o.who→Fine m o (zAw p (tk1 (min k r.qty) r rs) t) (k - min k r.qty) v→Fine m o (⟨p,r::rs⟩::t) k ⟨v.ls,trd o p ⟨r.id,r.who,min k r.qty⟩::v.ts,v.left,v.ends,v.ids⟩
theorem zBr{m:Int}{o:O}{ls:List L}{k:Int}{v:V}(h:Fine m o ls k v):∀v',Fine m o ls k v'→v'=v:=by
 induction h with
 | done h0=>
  intro v' h';cases h' with
  | done=>rfl
  | stop=>rfl
  | taker h=>omega
  | maker h=>omega
  | both h=>omega
  | fill h=>omega
 | stop h0=>
  intro v' h';cases h' with
  | done=>rfl
  | stop=>rfl
  | taker _ h=>have:=h0 _ _ rfl;simp only[] at this;rw[h] at this;cases this
  | maker _ h=>have:=h0 _ _ rfl;simp only[] at this;rw[h] at this;cases this
  | both _ h=>have:=h0 _ _ rfl;simp only[] at this;rw[h] at this;cases this
  | fill _ h=>have:=h0 _ _ rfl;simp only[] at this;rw[h] at this;cases this
 | taker h0 h1 h2 h3=>
  intro v' h';cases h' with
  | done h=>omega
  | stop h=>have:=h _ _ rfl;simp only[] at this;rw[h1] at this;cases this
  | taker=>rfl
  | maker _ _ _ h=>omega
  | both _ _ _ h=>omega
  | fill _ _ h=>exact absurd h2 h
 | maker h0 h1 h2 h3 _ ih=>
  intro v' h';cases h' with
  | done h=>omega
  | stop h=>have:=h _ _ rfl;simp only[] at this;rw[h1] at this;cases this
  | taker _ _ _ h=>omega
  | maker _ _ _ _ h=>rw[ih _ h]
  | both _ _ _ h=>omega
  | fill _ _ h=>exact absurd h2 h
 | both h0 h1 h2 h3=>
  intro v' h';cases h' with
  | done h=>omega
  | stop h=>have:=h _ _ rfl;simp only[] at this;rw[h1] at this;cases this
  | taker _ _ _ h=>omega
  | maker _ _ _ h=>omega
  | both=>rfl
  | fill _ _ h=>exact absurd h2 h
 | fill h0 h1 h2 _ ih=>
  intro v' h';cases h' with
  | done h=>omega
  | stop h=>have:=h _ _ rfl;simp only[] at this;rw[h1] at this;cases this
  | taker _ _ h=>exact absurd h h2
  | maker _ _ h=>exact absurd h h2
  | both _ _ h=>exact absurd h h2
  | fill _ _ _ h=>rw[ih _ h]
theorem zAR{p:Int}{r:R}{rs:List R}{t:List L}(hl:∀l∈(⟨p,r::rs⟩::t:List L),lchk l=0):∀l∈zAw p rs t,lchk l=0:=by
 have h1:lchk ⟨p,r::rs⟩=0:=hl _ (by simp)
 obtain⟨hp,-,hq⟩:=zAf h1;obtain⟨GF,hg⟩:=(zAn _).1 hq;intro l hm;unfold zAw at hm;by_cases e:rs=[]
 ·rw[if_pos e] at hm;exact hl l (by simp[hm])
 ·rw[if_neg e] at hm;rcases List.mem_cons.1 hm with rfl|hm
  ·exact zCM (zDa h1) e ((zAn _).2 ⟨by simp at GF;omega,zGr hg⟩)
  ·exact hl l (by simp[hm])
theorem zBX{p:Int}{z:List R}{t:List L}:(allR (zAw p z t)).length=z.length+(allR t).length:=by
 unfold zAw;by_cases e:z=[]
 ·rw[if_pos e,e];simp
 ·rw[if_neg e,zAp,jE]
theorem zJv{m:Int}{o:O}(hm:m=1∨m=2∨m=3):∀ (n:Nat) (ls:List L) (k:Int),k.toNat+(allR ls).length≤n→(∀l∈ls,lchk l=0)→∃v,Fine m o ls k v:=by
 intro n;induction n with
 | zero=>
  intro ls k hn _;exact⟨_,.done (by omega)⟩
 | succ n ih=>
  intro ls k hn hl;by_cases h0:k≤0
  ·exact⟨_,.done h0⟩
  cases ls with
  | nil=>exact⟨_,.stop (fun l t e=>by cases e)⟩
  | cons l t=>
   obtain⟨p,zs⟩:=l;cases hb:mB o p with
   | false=>exact⟨_,.stop (fun l' t' e=>by cases e;exact hb)⟩
   | true=>
    obtain⟨-,H8,hq⟩:=zAf (hl ⟨p,zs⟩ (by simp))
    cases zs with
    | nil=>exact absurd rfl H8
    | cons r rs=>
     rw[zAp,jE] at hn;simp only[jG] at hn;by_cases hw:r.who=o.who
     ·rcases hm with h|h|h
      ·exact⟨_,.taker (by omega) hb hw h⟩
      ·obtain⟨v,hv⟩:=ih (zAw p rs t) k (by rw[zBX];omega) (zAR hl)
       exact⟨_,.maker (by omega) hb hw h hv⟩
      ·exact⟨_,.both (by omega) hb hw h⟩
     ·have hr:=zBi hq;have Hh:=(zBN (k:=min k r.qty) ((zAn _).1 hq).2 (by omega) (by omega)).2.2
      simp only[jG] at Hh;obtain⟨v,hv⟩:=ih (zAw p (tk1 (min k r.qty) r rs) t) (k - min k r.qty) (by rw[zBX];omega) (zBj (by omega) hl)
      exact⟨_,.fill (by omega) hb hw hv⟩
theorem zEk{m:Int}{o:O}{ls:List L}{k:Int}(hm:m=1∨m=2∨m=3)(hl:∀l∈ls,lchk l=0):∃v,Fine m o ls k v:=zJv hm _ ls k (nzR _) hl
def idxW(u:Int):List R→Int
 | []=>-1
 | r::t=>if r.who=u then 0 else if idxW u t<0 then -1 else idxW u t+1
theorem zLs(u:Int)(zs:List R) : -1≤idxW u zs:=by
 induction zs with
 | nil=>simp[idxW]
 | cons r t ih=>unfold idxW;split;omega;split <;>omega
theorem zLt(u:Int)(zs:List R):idxW u zs<zs.length:=by
 induction zs with
 | nil=>simp[idxW]
 | cons r t ih=>unfold idxW;simp only[jG];split;omega;split <;>omega
theorem zCp(u:Int)(r:R)(t:List R):idxW u (r::t)=if r.who=u then 0 else if idxW u t<0 then -1 else idxW u t+1:=rfl
theorem zLu{u:Int}{y:R}(hy:¬y.who=u):∀ (zs:List R),idxW u (zs++[y])=idxW u zs:=by
 intro zs;induction zs with
 | nil=>simp[idxW,hy]
 | cons r t ih=>rw[List.cons_append,zCp,zCp,ih]
def shq:List R→Int
 | []=>0
 | r::t=>r.qty+shq t
theorem zJw(a b:List R):shq (a++b)=shq a+shq b:=by
 induction a with
 | nil=>simp[shq]
 | cons x t ih=>simp only[List.cons_append,shq,ih];omega
theorem zPV(zs:List R)(h:∀r∈zs,rchk r=0):0≤shq zs∧shq zs≤10000*(zs.length:Int):=by
 induction zs with
 | nil=>simp[shq]
 | cons x t ih=>
  have h1:=(zAq (h x (by simp))).1
  have h2:=ih (fun l hl=>h l (by simp[hl]))
  simp only[shq,jG];omega
def zAj(o:O):List L→Int × Int
 | []=>(0,0)
 | l::t=>if mB o l.price=false then (0,0) else if 0≤idxW o.who l.rests then (shq (l.rests.take (idxW o.who l.rests).toNat),(l.rests[(idxW o.who l.rests).toNat]!).id) else (tot l.rests+(zAj o t).1,(zAj o t).2)
theorem zDr{o:O}{l:L}{t:List L}(h:mB o l.price=false):zAj o (l::t)=(0,0):=by unfold zAj;rw[if_pos h]
theorem zCq{o:O}{l:L}{t:List L}(h:mB o l.price=true)(hi:0≤idxW o.who l.rests):zAj o (l::t)=(shq (l.rests.take (idxW o.who l.rests).toNat),(l.rests[(idxW o.who l.rests).toNat]!).id):=by
 unfold zAj;rw[if_neg (by rw[h];decide),if_pos hi]
theorem zDP{o:O}{l:L}{t:List L}(h:mB o l.price=true)(hi:¬0≤idxW o.who l.rests):zAj o (l::t)=(tot l.rests+(zAj o t).1,(zAj o t).2):=by
 rw[zAj,if_neg (by rw[h];decide),if_neg hi]
theorem zDQ{o:O}:∀ (ls:List L),(∀l∈ls,lchk l=0)→0≤(zAj o ls).1∧(zAj o ls).1≤20000*cnt ls:=by
 intro ls;induction ls with
 | nil=>intro _;simp[zAj,cnt]
 | cons l t ih=>
  intro hl;obtain⟨-,-,hq⟩:=zAf (hl l (by simp))
  obtain⟨GF,hg⟩:=(zAn _).1 hq;have hi:=ih (fun x hx=>hl x (by simp[hx]))
  have ht:=zKC l.rests hg.1;have hc:cnt (l::t)=(l.rests.length:Int)+cnt t:=rfl;have hc0:0≤cnt t:=by rw[zAQ];omega
  cases hb:mB o l.price with
  | false=>rw[zDr hb,hc];simp only[];omega
  | true=>
   by_cases hx:0≤idxW o.who l.rests
   ·rw[zCq hb hx,hc];have hs:=zPV (l.rests.take (idxW o.who l.rests).toNat) (fun r hr=>hg.1 r (List.mem_of_mem_take hr))
    rw[jJ] at hs;simp only[];omega
   ·rw[zDP hb hx,hc];simp only[];omega
theorem zJx{o:O}{p:Int}{r:R}{rs:List R}{t:List L}(hb:mB o p=true)(hw:¬r.who=o.who)(hg:qchk (r::rs)=0) :
  zAj o (⟨p,r::rs⟩::t)=(r.qty+(zAj o (zAw p (tk1 r.qty r rs) t)).1,(zAj o (zAw p (tk1 r.qty r rs) t)).2):=by
 have hp:=zBi hg;have Hu:=((zAn _).1 hg).2;have bW:=(zBN (k:=r.qty) Hu (by omega) (by omega)).2.1
 have CG:idxW o.who (r::rs)=if idxW o.who rs<0 then -1 else idxW o.who rs+1:=by rw[zCp,if_neg hw]
 have my:tk1 r.qty r rs=if r.hid=0 then rs else rs++[{ r with qty:=min r.shw r.hid,hid:=r.hid - min r.shw r.hid }]:=by
  unfold tk1;rw[if_neg (by omega)]
 have md:idxW o.who (tk1 r.qty r rs)=idxW o.who rs:=by
  rw[my];split
  ·rfl
  ·exact zLu (y:={ r with qty:=min r.shw r.hid,hid:=r.hid - min r.shw r.hid }) hw rs
 by_cases hi:idxW o.who rs<0
 ·rw[if_pos hi] at CG;rw[zDP (l:=⟨p,r::rs⟩) hb (by simp only[];omega)]
  unfold zAw;by_cases hz:tk1 r.qty r rs=[]
  ·rw[hz] at bW;rw[if_pos hz];simp only[tot] at bW ⊢;rw[show r.qty+r.hid+tot rs=r.qty by omega]
  ·rw[if_neg hz,zDP (l:=⟨p,tk1 r.qty r rs⟩) hb (by simp only[];omega)]
   simp only[] at bW ⊢;rw[bW];exact Prod.ext (by simp only[];omega) rfl
 ·rw[if_neg hi] at CG;have H8:¬tk1 r.qty r rs=[]:=fun e=>by rw[e] at md;simp[idxW] at md;omega
  have Hi:=zLt o.who rs;rw[zCq (l:=⟨p,r::rs⟩) hb (by simp only[];omega)]
  unfold zAw;rw[if_neg H8,zCq (l:=⟨p,tk1 r.qty r rs⟩) hb (by simp only[];omega)]
  simp only[CG,md];rw[show (idxW o.who rs+1).toNat=(idxW o.who rs).toNat+1 by omega]
  generalize hn:(idxW o.who rs).toNat=n at *;have P2:n<rs.length:=by omega
  have e1:(tk1 r.qty r rs).take n=rs.take n:=by
   rw[my];split
   ·rfl
   ·exact List.take_append_of_le_length (by omega)
  have e2:(tk1 r.qty r rs)[n]! = rs[n]!:=by
   have:n<(tk1 r.qty r rs).length:=by rw[my];split;omega;simp;omega
   rw[getE _ _ this,getE _ _ P2];simp only[my];split
   ·rfl
   ·exact List.getElem_append_left P2
  rw[e1,e2];simp only[List.take_succ_cons,shq];refine Prod.ext rfl ?_;show ((r::rs)[n+1]!).id=_
  rw[getE _ _ (by simp;omega),getE _ _ P2]
  rfl
theorem coarse{m:Int}{o:O}:∀ (n:Nat) (ls:List L) (k:Int),k≤n→0<k→(∀l∈ls,lchk l=0)→
  (tkl o ls (min (zAj o ls).1 k)).2.2=0∧
  (∀v,Fine m o (tkl o ls (min (zAj o ls).1 k)).1 (k - min (zAj o ls).1 k) v→Fine m o ls k ⟨v.ls,(tkl o ls (min (zAj o ls).1 k)).2.1++v.ts,v.left,v.ends,v.ids⟩)∧
  (0<k - min (zAj o ls).1 k→((zAj o ls).2=0→∀l t,(tkl o ls (min (zAj o ls).1 k)).1=l::t→mB o l.price=false)∧
   (¬(zAj o ls).2=0→∃p r rs t,(tkl o ls (min (zAj o ls).1 k)).1=⟨p,r::rs⟩::t∧mB o p=true∧r.who=o.who∧r.id=(zAj o ls).2)):=by
 intro n;induction n with
 | zero=>intro ls k h1 h2;omega
 | succ n ih=>
  intro ls k hn hk hl;cases ls with
  | nil=>
   have e:zAj o []=(0,0):=rfl;rw[e];simp only[];rw[Int.min_eq_left (by omega:(0:Int)≤k),zBa (jY 0)]
   refine⟨rfl,fun v hv=>?_,fun _=>⟨fun _ l t e=>by simp at e,fun h=>absurd trivial h⟩⟩
   simpa using hv
  | cons l t=>
   obtain⟨p,zs⟩:=l;cases hb:mB o p with
   | false=>
    rw[zDr (l:=⟨p,zs⟩) hb];simp only[];rw[Int.min_eq_left (by omega:(0:Int)≤k),zBa (jY 0)]
    refine⟨rfl,fun v hv=>?_,fun _=>⟨fun _ l' t' e=>by cases e;exact hb,fun h=>absurd trivial h⟩⟩
    simpa using hv
   | true=>
    obtain⟨-,H8,hq⟩:=zAf (hl ⟨p,zs⟩ (by simp))
    cases zs with
    | nil=>exact absurd rfl H8
    | cons r rs=>
     have hr:=zBi hq;by_cases hw:r.who=o.who
     ·have hid:idxW o.who (r::rs)=0:=(by rw[zCp,if_pos hw]);have e:zAj o (⟨p,r::rs⟩::t)=(0,r.id):=by
       rw[zCq (l:=⟨p,r::rs⟩) hb (by simp only[hid];omega)]
       simp only[hid];rfl
      rw[e];simp only[];rw[Int.min_eq_left (by omega:(0:Int)≤k),zBa (jY 0)]
      have hri:=(zAq (((zAn _).1 hq).2.1 r (by simp))).2.2.2.2.2.1
      refine⟨rfl,fun v hv=>?_,fun _=>⟨fun h=>by omega,fun _=>⟨p,r,rs,t,rfl,hb,hw,rfl⟩⟩⟩
      simpa using hv
     ·have e:=zJx (t:=t) hb hw hq;have hA:=(zDQ (o:=o) (zAw p (tk1 r.qty r rs) t) (by
       have h:=zBj (q:=r.qty) (by omega) hl
       rw[Int.min_self] at h;exact h)).1
      rw[e];simp only[];generalize hQ:(zAj o (zAw p (tk1 r.qty r rs) t)).1=Q at *;have Po:min (min (r.qty+Q) k) r.qty=min k r.qty:=(by omega);have uz:0<min (r.qty+Q) k:=(by omega);have hf:=zFH (t:=t) uz hb hq;rw[Po] at hf;by_cases dH:k≤r.qty
      ·have Pn:min (r.qty+Q) k=k:=(by omega);have Mh:min k r.qty=k:=(by omega);rw[Pn] at hf ⊢;rw[Mh] at hf;rw[show k - k=0 by omega,zBa (jY 0)] at hf
       rw[hf];refine⟨rfl,fun v hv=>?_,fun h=>by omega⟩
       have h:=Fine.fill (m:=m) (o:=o) (p:=p) (r:=r) (rs:=rs) (t:=t) (k:=k) (v:=v) hk hb hw (by rw[Mh];exact hv)
       rw[Mh] at h;exact h
      ·have Mh:min k r.qty=r.qty:=(by omega);have hm3:min (r.qty+Q) k - r.qty=min Q (k - r.qty):=(by omega);rw[Mh,hm3] at hf;obtain⟨i1,i2,i3⟩:=ih (zAw p (tk1 r.qty r rs) t) (k - r.qty) (by omega) (by omega) (by
        have h:=zBj (q:=r.qty) (by omega) hl
        rw[Int.min_self] at h;exact h)
       rw[hQ] at i1 i2 i3;rw[hf];have Gg:k - min (r.qty+Q) k=k - r.qty - min Q (k - r.qty):=(by omega);rw[Gg];refine⟨i1,fun v hv=>?_,fun h=>i3 h⟩
       have h:=Fine.fill (m:=m) (o:=o) (p:=p) (r:=r) (rs:=rs) (t:=t) (k:=k) hk hb hw (by rw[Mh];exact i2 v hv)
       rw[Mh] at h;exact h
def part(o:O)(k:Int):O:=⟨o.id,o.who,o.side,o.kind,o.price,k,0,o.stop⟩
theorem zOe(o:O)(k:Int):∀ (ls:List L) (q:Int),tkl (part o k) ls q=tkl o ls q:=by
 intro ls;induction ls with
 | nil=>intro q;rfl
 | cons l t ih=>
  intro q;have e1:trd (part o k) l.price=trd o l.price:=rfl;have e2:mB (part o k) l.price=mB o l.price:=rfl;rw[tkl,tkl,e1,e2,ih]
theorem zOf{o:O}{k:Int}(h:chk o=0)(h1:1≤k)(h2:k≤o.qty):chk (part o k)=0:=by
 obtain⟨a,b,c,d,e⟩:=ord.zBC h;have a' : ord.zCJ (part o k)=true:=a;have b' : ord.zAL (part o k)=true:=b;have e' : ord.zFr (part o k)=true:=e;have c' : ord.qtyB (part o k)=true:=by
  simp[ord.qtyB] at c;obtain⟨⟨⟨c1,c2⟩,c3⟩,c4⟩:=c;show (decide (1≤k) && decide (k≤10000) && decide ((0:Int)≤0) && decide ((0:Int)≤k))=true
  simp only[Bool.and_eq_true,decide_eq_true_eq];omega
 have d' : ord.shapeB (part o k)=true:=by simp[ord.shapeB,part]
 unfold chk;rw[a',b',c',d',e'];rfl
def repB(o:O)(bs X:List L):List L:=if o.side=1 then bs else X
def repS(o:O)(ss X:List L):List L:=if o.side=1 then X else ss
structure Less (ls X:List L):Prop where
 ids:∀i∈(allR X).map (·.id),i∈(allR ls).map (·.id)
 two:((allR ls).map (·.id)).Nodup→((allR X).map (·.id)).Nodup
 len:(allR X).length≤(allR ls).length
 price:∀x∈X,∃l∈ls,l.price=x.price
 sgo:∀s prev,zAB s=true→sid.sgo s prev ls=0→sid.sgo s prev X=0
theorem Less.refl(ls:List L):Less ls ls:=⟨fun _ h=>h,fun h=>h,nzR _,fun x hx=>⟨x,hx,rfl⟩,fun _ _ _ h=>h⟩
theorem Less.trans{a b c:List L}(h:Less a b)(k:Less b c):Less a c:=
 ⟨fun i hi=>h.ids i (k.ids i hi),fun x=>k.two (h.two x),jM k.len h.len,fun x hx=>by
  obtain⟨y,hy,e⟩:=k.price x hx;obtain⟨z,hz,e2⟩:=h.price y hy;exact⟨z,hz,e2.trans e⟩,fun s prev hs hp=>k.sgo s prev hs (h.sgo s prev hs hp)⟩
theorem zDR{o:O}{ls:List L}{q:Int}(hq:0≤q)(hl:∀l∈ls,lchk l=0):Less ls (tkl o ls q).1:=by
 obtain⟨i1,i2,i3,i4⟩:=zFG (o:=o) ls q hq hl;exact⟨i1,i2,i3,i4,fun s prev hs h=>zLr hs ls q prev hq h⟩
theorem zIv{o:O}{q:Int}(hq:0≤q):∀ {ls:List L},(∀l∈ls,lchk l=0)→∀l∈(tkl o ls q).1,lchk l=0:=by
 intro ls;induction ls generalizing q with
 | nil=>intro _ l hl;simp[tkl] at hl
 | cons x t ih=>
  intro hg l hl;by_cases hc:0<q∧mB o x.price=true
  ·have hx:=hg x (by simp)
   obtain⟨f1,f2,f3,f4,f5,f6,f7⟩:=zCC (zAf hx).2.2 (q:=q) (by omega)
   rcases zDM (t:=t) hc.1 hc.2 hx with ⟨he,e⟩|⟨he,hz,e⟩
   ·rw[e] at hl;exact ih (by omega) (fun y hy=>hg y (by simp[hy])) l hl
   ·rw[e] at hl;rcases List.mem_cons.1 hl with rfl|hl
    ·exact zCM (zDa hx) he f4
    ·exact hg l (by simp[hl])
  ·rw[zDN hc] at hl;exact hg l hl
theorem zDc{p:Int}{r:R}{rs:List R}{t:List L}(hl:∀l∈(⟨p,r::rs⟩::t:List L),lchk l=0):Less (⟨p,r::rs⟩::t) (zAw p rs t):=by
 have ha:allR (zAw p rs t)=rs++allR t:=by
  unfold zAw;by_cases e:rs=[]
  ·rw[if_pos e,e];rfl
  ·rw[if_neg e,zAp]
 have hb:allR (⟨p,r::rs⟩::t)=r::(rs++allR t):=by rw[zAp];rfl
 refine⟨fun i hi=>?_,fun h=>?_,?_,fun x hx=>?_,fun s prev hs h=>?_⟩
 ·rw[ha] at hi;rw[hb,jK];exact List.mem_cons_of_mem _ hi
 ·rw[hb,jK] at h;rw[ha];exact(List.nodup_cons.1 h).2
 ·rw[ha,hb,jG];omega
 ·unfold zAw at hx;by_cases e:rs=[]
  ·rw[if_pos e] at hx;exact⟨x,by simp[hx],rfl⟩
  ·rw[if_neg e] at hx;rcases List.mem_cons.1 hx with rfl|hx
   ·exact⟨⟨p,r::rs⟩,by simp,rfl⟩
   ·exact⟨x,by simp[hx],rfl⟩
 ·obtain⟨h1,h2,h3⟩:=zBb h;have hg:=zAR hl;unfold zAw at hg ⊢;by_cases e:rs=[]
  ·rw[if_pos e];exact zFF hs h3 h2
  ·rw[if_neg e] at hg ⊢;exact zFa (hg _ (by simp)) h2 h3
theorem zGG{s:Int}{ls X:List L}(h:schk s ls=0)(hl:Less ls X):schk s X=0:=by
 obtain⟨z1,z2,z3,z4⟩:=zAe h;have Hh:=hl.len;refine zEa z1 (hl.sgo s none z1 z2) ?_ (by rw[zBf] at *;exact hl.two z4)
 rw[zAQ] at *;omega
theorem zCf{bs ss X:List L}{o:O}(hb:zAc bs ss=0)(hl:Less (zAr bs ss o) X):zAc (repB o bs X) (repS o ss X)=0:=by
 obtain⟨e1,e2,e3,e4,e5⟩:=zAh hb;have hp1:=(zFE (zAe e1).1 bs none (zAe e1).2.1).1;have hp2:=(zFE (zAe e2).1 ss none (zAe e2).2.1).1;unfold zAM at e4;simp only[decide_eq_false_iff_not,Classical.not_not] at e4;rw[jF] at e4;obtain⟨n1,n2,n3⟩:=List.nodup_append.1 e4;rw[jE] at e5;unfold repB repS;unfold zAr at hl;by_cases hs:o.side=1
 ·simp only[if_pos hs] at hl ⊢;have k2:=zGG e2 hl;have Hh:=hl.len;unfold zAc;rw[if_pos e1,if_pos k2,if_neg,if_neg,if_neg]
  ·rw[jE];omega
  ·unfold zAM;simp only[decide_eq_true_eq,Classical.not_not];rw[jF];exact List.nodup_append.2 ⟨n1,hl.two n2,fun a ha b hb=>n3 a ha b (hl.ids b hb)⟩
  ·intro hx;unfold zBv at hx e3;simp only[Bool.and_eq_true,Bool.not_eq_true',List.isEmpty_eq_false_iff,decide_eq_true_eq] at hx;obtain⟨x1,x2,x3⟩:=hx;obtain⟨l',BP,e'⟩:=zDO x2;obtain⟨l,uM,el⟩:=hl.price l' BP;have H8:ss≠[]:=fun e=>by rw[e] at uM;cases uM
   have Ha:=zCF hp2 uM;simp only[Bool.and_eq_false_iff,Bool.not_eq_false',List.isEmpty_iff,decide_eq_false_iff_not] at e3;rcases e3 with e|e|e
   ·exact x1 e
   ·exact H8 e
   ·unfold ahd at Ha;simp at Ha;omega
 ·simp only[if_neg hs] at hl ⊢;have k1:=zGG e1 hl;have Hh:=hl.len;unfold zAc;rw[if_pos k1,if_pos e2,if_neg,if_neg,if_neg]
  ·rw[jE];omega
  ·unfold zAM;simp only[decide_eq_true_eq,Classical.not_not];rw[jF];exact List.nodup_append.2 ⟨hl.two n1,n2,fun a ha b hb=>n3 a (hl.ids a ha) b hb⟩
  ·intro hx;unfold zBv at hx e3;simp only[Bool.and_eq_true,Bool.not_eq_true',List.isEmpty_eq_false_iff,decide_eq_true_eq] at hx;obtain⟨x1,x2,x3⟩:=hx;obtain⟨l',BP,e'⟩:=zDO x1;obtain⟨l,uM,el⟩:=hl.price l' BP;have H8:bs≠[]:=fun e=>by rw[e] at uM;cases uM
   have Ha:=zCF hp1 uM;simp only[Bool.and_eq_false_iff,Bool.not_eq_false',List.isEmpty_iff,decide_eq_false_iff_not] at e3;rcases e3 with e|e|e
   ·exact H8 e
   ·exact x2 e
   ·unfold ahd at Ha;simp at Ha;omega
theorem zOg{bs ss X:List L}{o:O}{k:Int}(h:zAu bs ss o=0)(hl:Less (zAr bs ss o) X)(h1:1≤k)(h2:k≤o.qty):zAu (repB o bs X) (repS o ss X) (part o k)=0:=by
 obtain⟨hb,hc,Gb,Hv⟩:=zAG h;have hk:=zCf hb hl;unfold zAu;rw[if_pos hk,if_pos (zOf hc h1 h2),if_pos (show (part o k).stop=0 from Gb),if_neg]
 intro hx;unfold zAg at hx Hv;simp only[decide_eq_true_eq,decide_eq_false_iff_not] at hx Hv;apply Hv;rw[zBf,zBf] at hx ⊢;have hid:(part o k).id=o.id:=rfl;rw[hid] at hx;unfold repB repS at hx;unfold zAr at hl;by_cases hs:o.side=1
 ·simp only[if_pos hs] at hx hl;rcases hx with hx|hx
  ·exact .inl hx
  ·exact .inr (hl.ids _ hx)
 ·simp only[if_neg hs] at hx hl;rcases hx with hx|hx
  ·exact .inl (hl.ids _ hx)
  ·exact .inr hx
theorem zLv(o:O)(bs ss X:List L)(k:Int):zAr (repB o bs X) (repS o ss X) (part o k)=X:=by
 unfold zAr repB repS;have e:(part o k).side=o.side:=rfl;rw[e];by_cases hs:o.side=1
 ·rw[if_pos hs,if_pos hs]
 ·rw[if_neg hs,if_neg hs]
theorem zFI(o:O)(bs ss X:List L)(k:Int):metR (repB o bs X) (repS o ss X) (part o k)=tkl o X k:=by
 unfold metR;rw[zLv,zOe];rfl
theorem zOh(o:O)(bs ss X:List L)(k:Int):metB (repB o bs X) (repS o ss X) (part o k)=repB o bs (tkl o X k).1:=by
 unfold metB;rw[zFI];have e:(part o k).side=o.side:=rfl;rw[e];unfold repB;by_cases hs:o.side=1
 ·simp only[if_pos hs]
 ·simp only[if_neg hs]
theorem zOi(o:O)(bs ss X:List L)(k:Int):metS (repB o bs X) (repS o ss X) (part o k)=repS o ss (tkl o X k).1:=by
 unfold metS;rw[zFI];have e:(part o k).side=o.side:=rfl;rw[e];unfold repS;by_cases hs:o.side=1
 ·simp only[if_pos hs]
 ·simp only[if_neg hs]
theorem zOj(o:O)(bs ss:List L):repB o bs (zAr bs ss o)=bs∧repS o ss (zAr bs ss o)=ss:=by
 unfold repB repS zAr;by_cases hs:o.side=1
 ·rw[if_pos hs,if_pos hs,if_pos hs];exact⟨rfl,rfl⟩
 ·rw[if_neg hs,if_neg hs,if_neg hs];exact⟨rfl,rfl⟩
theorem zFg{s:Int}{p:Int}{r:R}{rs:List R}{t:List L}(h:schk s (⟨p,r::rs⟩::t)=0):zAF s (⟨p,r::rs⟩::t) r.id=0∧zBn s (⟨p,r::rs⟩::t) r.id=(((0:Nat):Int),((0:Nat):Int)):=by
 have hn:=(zAe h).2.2.2;have h1:=zQx hn (i:=0) (k:=0) (by simp) (by simp)
 have h2:zAC (flatP 0 (⟨p,r::rs⟩::t)) r.id=some (r.id,((0:Nat):Int),((0:Nat):Int)):=h1;have hE:zAF s (⟨p,r::rs⟩::t) r.id=0:=by
  unfold zAF;rw[if_pos h,h2];rfl
 refine⟨hE,?_⟩;unfold zBn;rw[if_pos hE,h2];rfl
theorem zFh{p:Int}{r:R}{rs:List R}{t:List L}:zBo (⟨p,r::rs⟩::t) 0 0=zAw p rs t:=by
 unfold zBo zAw;show (if (r::rs).length=1 then _ else _)=_
 by_cases e:rs=[]
 ·subst e;rw[if_pos (show [r].length=1 from rfl),if_pos rfl]
  rfl
 ·have hl:¬(r::rs).length=1:=fun h=>e (List.length_eq_zero_iff.1 (by simp at h;exact congrArg List.length h))
  rw[if_neg hl,if_neg e];rfl
theorem zLw{bs ss:List L}{p:Int}{r:R}{rs:List R}{t:List L}(h:zAc bs ss=0)(hs:ss=⟨p,r::rs⟩::t):zAF 1 bs r.id=5:=by
 obtain⟨h1,-,-,ht,-⟩:=zAh h;unfold zAM at ht;simp only[decide_eq_false_iff_not,Classical.not_not] at ht;rw[jF,List.nodup_append] at ht;have hm:r∈allR ss:=by rw[hs,zAp];simp
 have hn:r.id ∉ ids bs:=fun e=>by
  rw[zBf] at e;exact ht.2.2 _ e _ (List.mem_map.2 ⟨_,hm,rfl⟩) rfl
 exact zBh h1 hn
end slf
namespace mee
open Go.RowKit spn que sid
theorem wAQ(ts:List T):∀j,j<ts.length→∀i,i<6→(flatT ts)[j*6+i]?=(tV ts[j]!)[i]?:=by
 induction ts with
 | nil=>intro j hj;simp at hj
 | cons r t ih=>
  intro j hj i hi;have e:flatT (r::t)=tV r++flatT t:=rfl;rw[e];cases j with
  | zero=>rw[Nat.zero_mul,Nat.zero_add,List.getElem?_append_left (by show i<6;exact hi)];rfl
  | succ j=>
   rw[jV (by show 6≤_;omega)]
   have:(j+1)*6+i - (tV r).length=j*6+i:=by show (j+1)*6+i - 6=_;omega
   rw[this,ih j (by simpa using hj) i hi]
   rfl
theorem OwnT.at{w:World}{base:Nat}{q:Option Addr}{n c:Nat}{ts:List T}(h:OwnT w base (.slice q n c) ts){k:Nat}(hk:k<ts.length):∃g off,q=some ⟨g,off,none⟩∧g<w.heap.size∧w.cell? ⟨g,off+k*6,none⟩=some (.int .i64 ts[k]!.maker)∧w.cell? ⟨g,off+k*6+1,none⟩=some (.int .i64 ts[k]!.taker)∧w.cell? ⟨g,off+k*6+2,none⟩=some (.int .i64 ts[k]!.frm)∧w.cell? ⟨g,off+k*6+3,none⟩=some (.int .i64 ts[k]!.into)∧w.cell? ⟨g,off+k*6+4,none⟩=some (.int .i64 ts[k]!.price)∧w.cell? ⟨g,off+k*6+5,none⟩=some (.int .i64 ts[k]!.qty):=by
 have hn:n=ts.length:=by obtain⟨q',c',e⟩:=OwnM.form h;cases e;rfl
 subst hn;cases q with
 | none=>
  rcases h.2 with ⟨e,hn⟩|⟨g,off,cap,cur,e,_⟩
  ·rw[hn] at hk;exact absurd hk (Nat.not_lt_zero _)
  ·cases e
 | some a=>
  rcases h.2 with ⟨e,hn⟩|⟨g,off,cap,cur,e,_⟩
  ·cases e
  ·cases e;obtain⟨hc,-,-,Hi⟩:=OwnM.cells h;have hh:∀i u,i<6→(tV ts[k]!)[i]?=some u→w.cell? ⟨g,off+(k*6+i),none⟩=some u:=fun i u hi hu=>hc (k*6+i) u (by rw[wAQ ts k hk i hi];exact hu)
   exact⟨g,off,rfl,Hi,hh 0 _ (by omega) rfl,hh 1 _ (by omega) rfl,hh 2 _ (by omega) rfl,hh 3 _ (by omega) rfl,hh 4 _ (by omega) rfl,hh 5 _ (by omega) rfl⟩
end mee
namespace slf
open Go.RowKit spn que sid bok mee
structure FarV (w w' : World) (base VB:Nat):Prop where
 os:w'.os=w.os
 tape:w'.tape=w.tape
 output:w'.output=w.output
 size:w.heap.size≤w'.heap.size
 block:∀j,j<base→j≠VB→w'.heap[j]?=w.heap[j]?
theorem FarV.refl(w:World)(base VB:Nat):FarV w w base VB:=⟨rfl,rfl,rfl,nzR _,fun _ _ _=>rfl⟩
theorem FarV.trans{a b c:World}{base VB:Nat}(h:FarV a b base VB)(k:FarV b c base VB):FarV a c base VB:=
 ⟨k.os.trans h.os,k.tape.trans h.tape,k.output.trans h.output,jM h.size k.size,fun j h1 h2=>(k.block j h1 h2).trans (h.block j h1 h2)⟩
theorem FarV.below{w w' : World}{base VB:Nat}(h:Bw w w')(hb:base≤w.heap.size):FarV w w' base VB:=
 ⟨h.os,h.tape,h.output,h.size,fun j h1 _=>h.block j (by omega)⟩
theorem FarV.grown{w w' : World}{base VB:Nat}{row:Option Nat}(h:w.grownBy w' row)(hb:base≤w.heap.size)(hr:∀k,row=some k→k=VB∨base≤k):FarV w w' base VB:=
 ⟨h.os,h.tape,h.output,h.size,fun j h1 h2=>h.block j (by omega) (fun e=>by rcases hr j e.symm with h|h <;>omega)⟩
theorem FarV.ahead{w W W' : World}{base VB:Nat}(hB:Bw w W)(h:FarV W W' base VB)(h1:w.heap.size≤VB)(h2:w.heap.size≤base):Bw w W':=
 ⟨h.os.trans hB.os,h.tape.trans hB.tape,h.output.trans hB.output,jM hB.size h.size,fun k hk=>(h.block k (by omega) (by omega)).trans (hB.block k hk)⟩
theorem rowV{w:World}{B:Nat}{x0 x1 x2 x3 x4 x5:Value}{t:TypeId}(h:w.heap[B]?=some (.cells #[x0,x1,x2,x3,x4,x5] t (0,0))) :
  w.cell? ⟨B,0,none⟩=some x0∧w.cell? ⟨B,1,none⟩=some x1∧w.cell? ⟨B,2,none⟩=some x2∧w.cell? ⟨B,3,none⟩=some x3∧w.cell? ⟨B,4,none⟩=some x4∧w.cell? ⟨B,5,none⟩=some x5∧∀j,w.frozen? ⟨B,j,none⟩=false:=
 ⟨by simp[World.cell?,h],by simp[World.cell?,h],by simp[World.cell?,h],by simp[World.cell?,h],by simp[World.cell?,h],by simp[World.cell?,h],fun j=>frozen_of_row w _ j _ _ h⟩
theorem rowO{w:World}{B:Nat}{x0 x1 x2 x3 x4 x5 x6 x7:Value}{t:TypeId}(h:w.heap[B]?=some (.cells #[x0,x1,x2,x3,x4,x5,x6,x7] t (0,0))) :
  w.cell? ⟨B,0,none⟩=some x0∧w.cell? ⟨B,1,none⟩=some x1∧w.cell? ⟨B,2,none⟩=some x2∧w.cell? ⟨B,3,none⟩=some x3∧w.cell? ⟨B,4,none⟩=some x4∧w.cell? ⟨B,5,none⟩=some x5∧w.cell? ⟨B,6,none⟩=some x6∧w.cell? ⟨B,7,none⟩=some x7∧∀j,w.frozen? ⟨B,j,none⟩=false:=
 ⟨by simp[World.cell?,h],by simp[World.cell?,h],by simp[World.cell?,h],by simp[World.cell?,h],by simp[World.cell?,h],by simp[World.cell?,h],by simp[World.cell?,h],by simp[World.cell?,h],fun j=>frozen_of_row w _ j _ _ h⟩
section
variable {w:World}{B:Nat}{y0 y1 y2 y3 y4 y5 y6 y7:Value}{t:TypeId}
theorem v_at0(h:w.heap[B]?=some (.cells #[y0,y1,y2,y3,y4,y5] t (0,0)))(x:Value):(w.setCell ⟨B,0,none⟩ x).heap[B]?=some (.cells #[x,y1,y2,y3,y4,y5] t (0,0)):=by
 have h0:=jB _ B 0 _ _ x h;simp only[List.setIfInBounds_toArray,List.set_cons_zero] at h0;exact h0
theorem v_at1(h:w.heap[B]?=some (.cells #[y0,y1,y2,y3,y4,y5] t (0,0)))(x:Value):(w.setCell ⟨B,1,none⟩ x).heap[B]?=some (.cells #[y0,x,y2,y3,y4,y5] t (0,0)):=by
 have h0:=jB _ B 1 _ _ x h;simp only[List.setIfInBounds_toArray,List.set_cons_zero,List.set_cons_succ] at h0;exact h0
theorem v_at2(h:w.heap[B]?=some (.cells #[y0,y1,y2,y3,y4,y5] t (0,0)))(x:Value):(w.setCell ⟨B,2,none⟩ x).heap[B]?=some (.cells #[y0,y1,x,y3,y4,y5] t (0,0)):=by
 have h0:=jB _ B 2 _ _ x h;simp only[List.setIfInBounds_toArray,List.set_cons_zero,List.set_cons_succ] at h0;exact h0
theorem v_at3(h:w.heap[B]?=some (.cells #[y0,y1,y2,y3,y4,y5] t (0,0)))(x:Value):(w.setCell ⟨B,3,none⟩ x).heap[B]?=some (.cells #[y0,y1,y2,x,y4,y5] t (0,0)):=by
 have h0:=jB _ B 3 _ _ x h;simp only[List.setIfInBounds_toArray,List.set_cons_zero,List.set_cons_succ] at h0;exact h0
theorem v_at4(h:w.heap[B]?=some (.cells #[y0,y1,y2,y3,y4,y5] t (0,0)))(x:Value):(w.setCell ⟨B,4,none⟩ x).heap[B]?=some (.cells #[y0,y1,y2,y3,x,y5] t (0,0)):=by
 have h0:=jB _ B 4 _ _ x h;simp only[List.setIfInBounds_toArray,List.set_cons_zero,List.set_cons_succ] at h0;exact h0
theorem v_at5(h:w.heap[B]?=some (.cells #[y0,y1,y2,y3,y4,y5] t (0,0)))(x:Value):(w.setCell ⟨B,5,none⟩ x).heap[B]?=some (.cells #[y0,y1,y2,y3,y4,x] t (0,0)):=by
 have h0:=jB _ B 5 _ _ x h;simp only[List.setIfInBounds_toArray,List.set_cons_zero,List.set_cons_succ] at h0;exact h0
end
theorem zPW(w:World)(B:Nat)(x0 x1 x2 x3 x4 x5:Value):w.grownBy ((((((w.setCell ⟨B,0,none⟩ x0).setCell ⟨B,1,none⟩ x1).setCell ⟨B,2,none⟩ x2).setCell ⟨B,3,none⟩ x3).setCell ⟨B,4,none⟩ x4).setCell ⟨B,5,none⟩ x5) (some B):=
 wAd (wAd (wAd (wAd (wAd (wAc _ _ _ _) (wAc _ _ _ _)) (wAc _ _ _ _)) (wAc _ _ _ _)) (wAc _ _ _ _)) (wAc _ _ _ _)
theorem zLx{w:World}{B:Nat}{y0 y1 y2 y3 y4 y5:Value}{t:TypeId}(h:w.heap[B]?=some (.cells #[y0,y1,y2,y3,y4,y5] t (0,0)))(x0 x1 x2 x3 x4 x5:Value) :
  ((((((w.setCell ⟨B,0,none⟩ x0).setCell ⟨B,1,none⟩ x1).setCell ⟨B,2,none⟩ x2).setCell ⟨B,3,none⟩ x3).setCell ⟨B,4,none⟩ x4).setCell ⟨B,5,none⟩ x5).heap[B]?=some (.cells #[x0,x1,x2,x3,x4,x5] t (0,0)):=
 v_at5 (v_at4 (v_at3 (v_at2 (v_at1 (v_at0 h x0) x1) x2) x3) x4) x5
theorem zIw{w w' : World}{base:Nat}{v:Value}{ls:List L}{row:Option Nat}(h:DL w base v ls)(hg:w.grownBy w' row)(hr:∀k,row=some k→k<base):DL w' base v ls:=by
 cases row with
 | none=>exact h.below ⟨hg.os,hg.tape,hg.output,hg.size,fun k hk=>hg.block k hk (by simp)⟩
 | some k=>exact h.other hg (hr k rfl)
def SafeS(w0 w:World)(base:Nat)(v:Value)(ls:List L):Prop:=LS w0 v ls∨DL w base v ls
theorem SafeS.ls{w0 w:World}{base:Nat}{v:Value}{ls:List L}(h:SafeS w0 w base v ls)(hB:Bw w0 w):LS w v ls:=h.elim (fun h=>h.below hB) (fun h=>h.ls)
theorem SafeS.row{w0 w w' : World}{base VB:Nat}{v:Value}{ls:List L}(h:SafeS w0 w base v ls)(hg:w.grownBy w' (some VB))(hV:VB<base):SafeS w0 w' base v ls:=h.imp id (fun h=>h.other hg hV)
theorem SafeS.below{w0 w w' : World}{base:Nat}{v:Value}{ls:List L}(h:SafeS w0 w base v ls)(hB:Bw w w'):SafeS w0 w' base v ls:=h.imp id (fun h=>h.below hB)
def zHM(l:List Int):List Value:=l.map (fun x=>.int .i64 x)
abbrev OwnI(w:World)(base:Nat)(v:Value)(l:List Int):Prop:=OwnM w base 3 1 v l.length (zHM l)
theorem infoN:((prog.info? 3).map (fun i=>(i.zero,i.size,i.bytes)))=some (some (.int .i64 0),1,8):=by kernel_rfl
theorem infoN' : ∃i,prog.info? 3=some i∧i.zero=some (.int .i64 0)∧i.size=1∧i.bytes=8:=by
 have h:=infoN;cases hq:prog.info? 3 with
 | none=>rw[hq] at h;simp at h
 | some i=>
  rw[hq] at h;simp at h;exact⟨i,rfl,h.1,h.2.1,h.2.2⟩
theorem zOk{w:World}{base:Nat}{e:TypeId}{sz:Nat}{ad:Addr}{n c:Nat}{xs:List Value}(h:OwnM w base e sz (.slice (some ad) n c) n xs):∀j u,xs[j]?=some u→w.cell? (ad.add j)=some u:=by
 intro j u hu;rcases h.2 with ⟨e,-⟩|⟨g,off,cap,cur,he,-,hg,-,-,-,ga⟩
 ·simp at e
 ·simp only[Value.slice.injEq,Option.some.injEq] at he;obtain⟨rfl,-,-⟩:=he;rw[Addr.add_lit,jZ w g (off+j) cur e (0,0) hg];rw[←ga,List.getElem?_take] at hu;split at hu
  ·rw[List.getElem?_drop] at hu;simpa using hu
  ·cases hu
theorem zLy(ts:List T):∀u∈flatT ts,u.oneCell'=true:=by
 intro u hu;obtain⟨x,-,hx⟩:=List.mem_flatMap.1 hu;simp only[tV,List.mem_cons,List.not_mem_nil,or_false] at hx;rcases hx with rfl|rfl|rfl|rfl|rfl|rfl <;>rfl
theorem zLz(ts:List T):(flatT ts).length=ts.length*6:=by
 induction ts with
 | nil=>rfl
 | cons x t ih=>
  have:flatT (x::t)=tV x++flatT t:=by simp[flatT]
  rw[this,jE,ih,jG];have h6:(tV x).length=6:=rfl;omega
theorem zPX{w:World}{b1 b2:Nat}{e1 e2:TypeId}{s1 s2:Nat}{v1 v2:Value}{n1 n2:Nat}{x1 x2:List Value}(h1:OwnM w b1 e1 s1 v1 n1 x1)(h2:OwnM w b2 e2 s2 v2 n2 x2)(he:e1≠e2):∀x,v1.ownBlock=some x→v2.ownBlock≠some x:=by
 intro x hx hy;rcases h1.2 with ⟨rfl,_⟩|⟨g,off,cap,cur,rfl,-,hg,-⟩
 ·simp[Value.ownBlock] at hx
 ·simp[Value.ownBlock] at hx;subst hx;rcases h2.2 with ⟨rfl,_⟩|⟨g2,off2,cap2,cur2,rfl,-,Ge,-⟩
  ·simp[Value.ownBlock] at hy
  ·simp[Value.ownBlock] at hy;subst hy;rw[hg] at Ge;simp at Ge;exact he Ge.2
theorem zJy{base:Nat}{W:World}{tv uv:Value}{ts us:List T}{b2:Nat}(h:OwnT W base tv ts)(hu:OwnT W b2 uv us)(hb:base≤W.heap.size)(H8:us≠[])(hl:ts.length+us.length≤1000000) :
  ∃tq tc w1,(Builtin.append_ #[30,30] 30 #[tv,uv]).run prog W=.ok (.slice tq (ts++us).length tc) w1∧OwnT w1 base (.slice tq (ts++us).length tc) (ts++us)∧W.grownBy w1 tv.ownBlock:=by
 obtain⟨i0,gY,gE,gu,gA⟩:=infoT';obtain⟨ad,c,rfl⟩:∃ad c,uv=.slice (some ad) us.length c:=by
  rcases hu.2 with ⟨-,e⟩|⟨g,off,cap,cur,rfl,-⟩
  ·exact absurd (List.length_eq_zero_iff.1 e) H8
  ·exact⟨_,_,rfl⟩
 obtain⟨v',w',e1,e2,e3,e4⟩:=wAo (P:=prog) W base 30 30 38 i0 zeroT 6 48 underlying30 gY gE gu gA rfl tv ts.length (flatT ts) h ad us.length c (flatT us) (zLz us) (zOk hu) (zLy us) (by unfold maxLen;omega) (by omega) hb
 have e2' : OwnT w' base v' (ts++us):=by
  show OwnM _ _ _ _ _ _ _
  rw[wAz,jE];exact e2
 obtain⟨q',c',hf⟩:=OwnM.form e2';subst hf;exact⟨q',c',w',e1,e2',e3⟩
theorem lay_id{base:Nat}{W:World}{iv:Value}{l:List Int}(x:Int)(h:OwnI W base iv l)(hb:base≤W.heap.size)(hl:l.length≤1000000) :
  ∃tq tc w1,(Builtin.append_ #[125,125] 125 #[iv,.slice (some ⟨W.heap.size,0,none⟩) 1 1]).run prog (W.alloc (.cells #[.int .i64 x] 3))=.ok (.slice tq (l++[x]).length tc) w1∧OwnI w1 base (.slice tq (l++[x]).length tc) (l++[x])∧W.grownBy w1 iv.ownBlock:=by
 obtain⟨i0,gY,gE,gu,gA⟩:=infoN';obtain⟨U,hU⟩:∃U,U=W.alloc (.cells #[.int .i64 x] 3):=⟨_,rfl⟩;have hB:Bw W U:=by rw[hU];exact(bzR _ _).alloc (nzR _) _
 have Hk:OwnI U base iv l:=OwnM.below h hB;obtain⟨v',w',e1,e2,e3,e4⟩:=wAo (P:=prog) U base 125 125 3 i0 (.int .i64 0) 1 8 underlying125 gY gE gu gA rfl iv l.length (zHM l) Hk ⟨W.heap.size,0,none⟩ 1 1 [.int .i64 x] rfl (fun j u hu=>by
  rw[hU,Addr.add_lit,World.cell?_alloc_at _ _ _ _ rfl];simpa using hu) (fun u hu=>by simp only[List.mem_cons,List.not_mem_nil,or_false] at hu;rw[hu];rfl) (by unfold maxLen;omega) (by omega) (jM hb hB.size)
 have e2' : OwnI w' base v' (l++[x]):=by
  show OwnM _ _ _ _ _ _ _
  unfold zHM at e2 ⊢;rw[jF,jE];exact e2
 obtain⟨q',c',hf⟩:=OwnM.form e2';subst hf;rw[hU] at e1;exact⟨q',c',w',e1,e2',wAd (wAw hB _) e3⟩
end slf
end Go.Proofs.YtnfilcpnneckkaaGreat
