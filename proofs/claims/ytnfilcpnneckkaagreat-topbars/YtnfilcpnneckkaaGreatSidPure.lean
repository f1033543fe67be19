import Derived.Test.YtnfilcpnneckkaaGreatQueChk
import Derived.Test.YtnfilcpnneckkaaGreatMeeOrd
import Derived.Maps.OwnSet
set_option maxHeartbeats 2000000
set_option maxRecDepth 100000
namespace Go.Proofs.YtnfilcpnneckkaaGreat
open Tryz
namespace sid
open Go.RowKit spn que
open tickP (errB zAo zAB zBA betR zAU zIi)
structure L where
 price:Int
 rests:List R
deriving Inhabited
def zAX(s a b:Int):Bool:=betR (wrap64 (3 - s)) a b
def lchk(l:L):Int:=if zAo l.price=true then (if l.rests=[] then 3 else qchk l.rests) else 1
def cnt:List L→Int
 | []=>0
 | l::t=>l.rests.length+cnt t
theorem zKG{s a b:Int}(h:zBA s a b=false):betR s a b=false:=by unfold betR;rw[h];rfl
theorem zKH(V:World)(s a b:Int)(w:World)(hV:Bw V w) :
  Calls prog 144 #[.int .i64 s,.int .i64 a,.int .i64 b] w fun e w'=>e=.returned (.bool (zAX s a b))∧Bw V w':=by
 unfold zAX;have Hf:=zIi V (wrap64 (3 - s)) a b w hV;cases hk:zBA (wrap64 (3 - s)) a b
 ·rw[zKG hk,hk] at Hf;rw[zKG hk];simp only[show errB false=.iface 90 (.int .i64 1) from rfl] at Hf
  clear hk hV;go_enter func144,ntmps144;go_wp2_with fail;refine Hf.mono ?_;rintro e w1⟨rfl,h1⟩;clear Hf;go_wp2_with fail;go_ret;exact⟨rfl,h1⟩
 ·rw[hk] at Hf;simp only[show errB true=.nilIface from rfl] at Hf
  generalize betR (wrap64 (3 - s)) a b=r at *;clear hk hV;go_enter func144,ntmps144;go_wp2_with fail;refine Hf.mono ?_;rintro e w1⟨rfl,h1⟩;clear Hf;go_wp2_with fail;go_ret;exact⟨rfl,h1⟩
def SLe(w:World)(v:Value)(zs:List R):Prop:=SL w v zs∨(zs=[]∧∃q c,v=.slice q 0 c)
theorem SLe.below{w w' : World}{v:Value}{zs:List R}(h:SLe w v zs)(hB:Bw w w'):SLe w' v zs:=h.imp (fun h=>h.below hB) id
theorem SLe.sl{w:World}{v:Value}{zs:List R}(h:SLe w v zs)(H8:¬zs=[]):SL w v zs:=h.elim id (fun h=>absurd h.1 H8)
theorem zFv{w:World}{v:Value}{zs:List R}(h:SLe w v zs):∃p c,v=.slice p zs.length c:=by
 rcases h with (⟨rfl,rfl⟩|⟨b,o,c,h1,_⟩)|⟨rfl,q,c,h1⟩
 ·exact⟨none,0,rfl⟩
 ·exact⟨_,c,h1⟩
 ·exact⟨q,c,h1⟩
theorem zQm{zs:List R}(h:¬zs=[]):¬zs.length=0:=fun e=>h (List.length_eq_zero_iff.1 e)
theorem zEP(p:Int)(v:Value)(zs:List R)(w:World)(h:SLe w v zs) :
  Calls prog 143 #[.agg #[.int .i64 p,v]] w fun e w'=>e=.returned (errV (lchk ⟨p,zs⟩))∧Bw w w':=by
 obtain⟨q,c,hv⟩:=zFv h;have HS:Hid (SLe w v zs):=h;clear h;cases hk:zAo p
 ·have e:lchk ⟨p,zs⟩=1:=by unfold lchk;simp[hk]
  rw[e];subst hv;have HC:=fun V W h=>zAU V p W h
  rw[hk] at HC;simp only[show errB false=.iface 90 (.int .i64 1) from rfl] at HC
  clear hk e;generalize zs.length=n at *;go_enter func143,ntmps143;go_wp2_with fail;have hR:=jA w (.cells #[.int .i64 p,.slice q n c] 54);have hV:Bw w (w.alloc (.cells #[.int .i64 p,.slice q n c] 54)):=(bzR _ _).alloc (nzR _) _;generalize w.alloc (.cells #[.int .i64 p,.slice q n c] 54)=V at *;have d1:V.cell? ⟨w.heap.size,1,none⟩=some (.slice q n c):=by simp[World.cell?,hR]
  refine(HC V _ (bzR _ _)).mono ?_;rintro e w1⟨rfl,h1⟩;have e1:=zAa h1 d1;have h2:=hV.trans (h1.mono hV.size);clear HC hR d1;go_wp2_with fail;go_ret;exact⟨rfl,h2⟩
 ·have HC:=fun V W h=>zAU V p W h
  rw[hk] at HC;simp only[show errB true=.nilIface from rfl] at HC
  by_cases hz:zs=[]
  ·have e:lchk ⟨p,zs⟩=3:=by unfold lchk;simp[hk,hz]
   rw[e];subst hv;subst hz;clear hk e;go_enter func143,ntmps143;go_wp2_with fail;have hR:=jA w (.cells #[.int .i64 p,.slice q (List.length ([]:List R)) c] 54);have hV:Bw w (w.alloc (.cells #[.int .i64 p,.slice q (List.length ([]:List R)) c] 54)):=(bzR _ _).alloc (nzR _) _;generalize w.alloc (.cells #[.int .i64 p,.slice q (List.length ([]:List R)) c] 54)=V at *;have d1:V.cell? ⟨w.heap.size,1,none⟩=some (.slice q (List.length ([]:List R)) c):=by simp[World.cell?,hR]
   refine(HC V _ (bzR _ _)).mono ?_;rintro e w1⟨rfl,h1⟩;have e1:=zAa h1 d1;have h2:=hV.trans (h1.mono hV.size);clear HC hR d1;go_wp2_with fail;go_ret;exact⟨rfl,h2⟩
  ·have e:lchk ⟨p,zs⟩=qchk zs:=by unfold lchk;simp[hk,hz]
   rw[e];have HQ:Hid (∀W,SL W v zs→Calls prog 138 #[v] W fun e w'=>e=.returned (errV (qchk zs))∧Bw W w'):=fun W h=>zEX v zs W h
   generalize errV (qchk zs)=E at *;have hp:=zQm hz;have HSB:Hid (∀W,Bw w W→SL W v zs):=fun W hW=>(HS.out.below hW).sl hz
   subst hv;clear hk e hz HS;go_enter func143,ntmps143;go_wp2_with fail;have hR:=jA w (.cells #[.int .i64 p,.slice q zs.length c] 54);have hV:Bw w (w.alloc (.cells #[.int .i64 p,.slice q zs.length c] 54)):=(bzR _ _).alloc (nzR _) _;generalize w.alloc (.cells #[.int .i64 p,.slice q zs.length c] 54)=V at *;have d1:V.cell? ⟨w.heap.size,1,none⟩=some (.slice q zs.length c):=by simp[World.cell?,hR]
   refine(HC V _ (bzR _ _)).mono ?_;rintro e w1⟨rfl,h1⟩;have e1:=zAa h1 d1;have h2:=hV.trans (h1.mono hV.size);clear HC hR d1;go_wp2_with fail;refine(HQ.out w1 (HSB.out w1 h2)).mono ?_;rintro e w2⟨rfl,h3⟩;have h4:=h2.trans (h3.mono h2.size);go_wp2_with fail;go_ret;exact⟨rfl,h4⟩
end sid
namespace mee
open Go.RowKit spn que sid
open ord (O mB chk)
def trd(o:O)(p:Int)(f:F):T:=if o.side=1 then ⟨f.id,o.id,f.who,o.who,p,f.qty⟩ else ⟨f.id,o.id,o.who,f.who,p,f.qty⟩
def tkl(o:O):List L→Int→List L × List T × Int
 | [],q=>([],[],q)
 | l::t,q=>if q≤0 then (l::t,[],q) else if mB o l.price=false then (l::t,[],q) else
   if (take q l.rests).2=[] then ((tkl o t (q - sum (take q l.rests).1)).1,(take q l.rests).1.map (trd o l.price)++(tkl o t (q - sum (take q l.rests).1)).2.1,(tkl o t (q - sum (take q l.rests).1)).2.2)
   else (⟨l.price,(take q l.rests).2⟩::t,(take q l.rests).1.map (trd o l.price),q - sum (take q l.rests).1)
theorem zBa{o:O}{ls:List L}{q:Int}(h:q≤0):tkl o ls q=(ls,[],q):=by
 cases ls with
 | nil=>rfl
 | cons l t=>unfold tkl;rw[if_pos h]
theorem zFw{o:O}{l:L}{t:List L}{q:Int}(h:mB o l.price=false):tkl o (l::t) q=(l::t,[],q):=by
 unfold tkl;by_cases h0:q≤0
 ·rw[if_pos h0]
 ·rw[if_neg h0,if_pos h]
theorem zCW{o:O}{l:L}{t:List L}{q:Int}(h:0<q)(hm:mB o l.price=true)(he:(take q l.rests).2=[]) :
  tkl o (l::t) q=((tkl o t (q - sum (take q l.rests).1)).1,(take q l.rests).1.map (trd o l.price)++(tkl o t (q - sum (take q l.rests).1)).2.1,(tkl o t (q - sum (take q l.rests).1)).2.2):=by
 rw[tkl,if_neg (by omega),if_neg (by rw[hm];decide),if_pos he]
theorem zCX{o:O}{l:L}{t:List L}{q:Int}(h:0<q)(hm:mB o l.price=true)(he:¬(take q l.rests).2=[]) :
  tkl o (l::t) q=(⟨l.price,(take q l.rests).2⟩::t,(take q l.rests).1.map (trd o l.price),q - sum (take q l.rests).1):=by
 rw[tkl,if_neg (by omega),if_neg (by rw[hm];decide),if_neg he]
theorem zEY(a b:List F):sum (a++b)=sum a+sum b:=by
 induction a with
 | nil=>simp[sum]
 | cons x t ih=>simp only[List.cons_append,sum,ih];omega
theorem wAN(fs:List F)(k:Nat)(hk:k<fs.length):sum (fs.take (k+1))=sum (fs.take k)+fs[k]!.qty:=by
 rw[List.take_succ_eq_append_getElem hk,zEY,getE _ _ hk];simp only[sum];omega
theorem zKI(fs:List F)(h:∀f∈fs,1≤f.qty):(fs.length:Int)≤sum fs:=by
 induction fs with
 | nil=>simp[sum]
 | cons x t ih=>
  have h1:=h x (by simp)
  have h2:=ih (fun f hf=>h f (by simp[hf]))
  simp only[sum,jG];omega
theorem zKJ(fs:List F)(h:∀f∈fs,1≤f.qty):0≤sum fs:=by have:=zKI fs h;omega
theorem zHG(fs:List F)(k:Nat)(h:∀f∈fs,1≤f.qty):0≤sum (fs.take k)∧sum (fs.take k)≤sum fs:=by
 have h1:=zKJ (fs.take k) (fun f hf=>h f (List.mem_of_mem_take hf))
 have h2:=zKJ (fs.drop k) (fun f hf=>h f (List.mem_of_mem_drop hf))
 have h3:=zEY (fs.take k) (fs.drop k);rw[jR] at h3;omega
theorem zCC{q:Int}{zs:List R}(h0:qchk zs=0)(h1:1≤q):sum (take q zs).1≤q∧0≤sum (take q zs).1∧((take q zs).1.length:Int)≤sum (take q zs).1∧qchk (take q zs).2=0∧(sum (take q zs).1<q→(take q zs).2=[])∧
  (∀f∈(take q zs).1,1≤f.qty∧f.qty≤q)∧sum (take q zs).1+tot (take q zs).2=tot zs:=by
 obtain⟨GF,hg⟩:=(zAn zs).1 h0;obtain⟨f1,f2,f3,f4,f5,f6,f7,f8⟩:=zEW q.toNat q zs (by omega) hg (by omega)
 exact⟨f4,f8,zKI _ (fun f hf=>(f5 f hf).1),(zAn _).2 ⟨by omega,f1⟩,f6,f5,f3⟩
theorem zGt{q:Int}{zs:List R}(h0:qchk zs=0)(h1:1≤q)(he:¬(take q zs).2=[]):q - sum (take q zs).1=0:=by
 obtain⟨a,b,c,d,e,f⟩:=zCC h0 h1;by_cases h:sum (take q zs).1<q
 ·exact absurd (e h) he
 ·omega
end mee
namespace sid
open Go.RowKit spn que
def LL(w:World)(b o:Nat)(ls:List L):Prop:=∀k,k<ls.length→w.cell? ⟨b,o+k*2,none⟩=some (.int .i64 ls[k]!.price)∧∃v,w.cell? ⟨b,o+k*2+1,none⟩=some v∧SLe w v ls[k]!.rests
def LS(w:World)(v:Value)(ls:List L):Prop:=
 (v=.slice none 0 0∧ls=[])∨∃b o c,v=.slice (some ⟨b,o,none⟩) ls.length c∧ls.length≤c∧c≤9223372036854775807∧b<w.heap.size∧LL w b o ls
theorem LL.below{w w' : World}{b o:Nat}{ls:List L}(h:LL w b o ls)(hb:b<w.heap.size)(hB:Bw w w'):LL w' b o ls:=by
 intro k hk;obtain⟨h1,v,h2,h3⟩:=h k hk;exact⟨(hB.cell (p:=⟨b,o+k*2,none⟩) hb).trans h1,v,(hB.cell (p:=⟨b,o+k*2+1,none⟩) hb).trans h2,h3.below hB⟩
theorem LS.below{w w' : World}{v:Value}{ls:List L}(h:LS w v ls)(hB:Bw w w'):LS w' v ls:=by
 rcases h with h|⟨b,o,c,h1,h2,h3,h4,h5⟩
 ·exact .inl h
 ·exact .inr ⟨b,o,c,h1,h2,h3,jC h4 hB.size,h5.below h4 hB⟩
theorem LL.at{w:World}{b o k:Nat}{ls:List L}(h:LL w b o ls)(hk:k<ls.length){p:Int}{zs:List R}(he:ls[k]! = ⟨p,zs⟩) :
  ∃q c,w.cell? ⟨b,o+k*2,none⟩=some (.int .i64 p)∧w.cell? ⟨b,o+k*2+1,none⟩=some (.slice q zs.length c)∧SLe w (.slice q zs.length c) zs:=by
 obtain⟨h1,v,h2,h3⟩:=h k hk;rw[he] at h1 h3;obtain⟨q,c,hv⟩:=zFv h3;subst hv;exact⟨q,c,h1,h2,h3⟩
theorem zNB{ls:List L}{k:Nat}(hk:k<ls.length):ls.drop k=ls[k]!::ls.drop (k+1):=by
 rw[List.drop_eq_getElem_cons hk,getE _ _ hk]
theorem zDL{ls:List L}{k:Nat}(hk:k<ls.length):ls.take (k+1)=ls.take k++[ls[k]!]:=by
 rw[List.take_succ_eq_append_getElem hk,getE _ _ hk]
theorem zEZ(a b:List L):cnt (a++b)=cnt a+cnt b:=by
 induction a with
 | nil=>simp[cnt]
 | cons x t ih=>simp only[List.cons_append,cnt,ih];omega
theorem zNC(ls:List L)(k:Nat)(hk:k<ls.length):cnt (ls.take (k+1))=cnt (ls.take k)+(ls[k]!.rests.length:Int):=by
 rw[zDL hk,zEZ];simp only[cnt];omega
theorem zPR(ls:List L)(h:∀l∈ls,l.rests.length≤60):0≤cnt ls∧cnt ls≤60*(ls.length:Int):=by
 induction ls with
 | nil=>simp[cnt]
 | cons x t ih=>
  have h1:=h x (by simp)
  have h2:=ih (fun l hl=>h l (by simp[hl]))
  simp only[cnt,jG];omega
theorem zJk(b o c:Nat)(ls:List L)(w:World)(hb:b<w.heap.size)(hc:ls.length≤c)(hl:LL w b o ls)(GF:∀l∈ls,l.rests.length≤60)(pN:ls.length≤10000) :
  Calls prog 145 #[.slice (some ⟨b,o,none⟩) ls.length c] w fun e w'=>e=.returned (.int .i64 (cnt ls))∧Bw w w':=by
 have HG:Hid (∀l∈ls,l.rests.length≤60):=GF;have HL:Hid (LL w b o ls):=hl;clear hl GF;generalize hT:cnt ls=T;have HT:Hid (cnt ls=T):=hT;clear hT;generalize hn:ls.length=n at *;have HN:Hid (ls.length=n):=hn;clear hn;go_enter func145,ntmps145;go_wp2_with fail;go_loopg [3,5,8] n (fun gg s5 _ s15 wr=>∃kk:Nat,kk≤n∧n - kk≤gg∧s15=.int .i64 kk∧s5=.int .i64 (cnt (ls.take kk))∧Aside (Below w.heap.size w wr))
 case atStart=>exact⟨0,jL _,by omega,rfl,rfl,bzR _ _⟩
 case round=>
  obtain⟨kk,gd,hg,rfl,rfl,BW⟩:=hrel;have hA:Hid (0≤cnt (ls.take kk)∧cnt (ls.take kk)≤60*(kk:Int)):=by
   have:=zPR (ls.take kk) (fun r hr=>HG.out r (List.mem_of_mem_take hr))
   rw[jJ,HN.out,Nat.min_eq_left gd] at this;exact this
  by_cases Hi:kk<n
  ·have Hp:(kk:Int)<(n:Int):=by omega
   have Hs:kk<ls.length:=by rw[HN.out];exact Hi
   have LW:Hid (LL wr b o ls):=HL.out.below hb BW.out;obtain⟨r,hr⟩:∃r,ls[kk]! = r:=⟨_,rfl⟩;obtain⟨p,zs⟩:=r;obtain⟨q,cc,c0,c1,hs⟩:=LW.out.at Hs hr;have hq:=HG.out ls[kk]! (by rw[getE _ _ Hs];exact jT Hs)
   rw[hr] at hq;simp only[] at hq;have mQ:Hid (cnt (ls.take (kk+1))=cnt (ls.take kk)+(zs.length:Int)):=by
    have:=zNC ls kk Hs;rw[hr] at this;exact this
   clear hr hs;obtain⟨t1,t2⟩:=hA.out;clear hA;generalize cnt (ls.take kk)=t at *;generalize zs.length=m at *;have MI:b<wr.heap.size:=jC hb BW.out.size;have gR:¬((kk:Int)<0):=by omega
   have e2:wrap64 (t+(m:Int))=t+(m:Int):=by unfold wrap64;omega
   go_wp2_with fail;go_roundg (n - (kk+1))
   case measure=>omega
   case rel=>exact⟨kk+1,by omega,by omega,by go_num,by rw[mQ.out],BW.out.alloc BW.out.size _⟩
  ·have Hp:¬(kk:Int)<(n:Int):=by omega
   have hk:kk=n:=by omega
   subst hk;have pW:cnt (ls.take kk)=T:=by rw[←HT.out,List.take_of_length_le (by rw[HN.out];exact nzR _)]
   rw[pW];go_wp2_with fail;go_ret;exact⟨rfl,BW.out⟩
theorem zGu(w:World) :
  Calls prog 145 #[.slice none 0 0] w fun e w'=>e=.returned (.int .i64 0)∧Bw w w':=by
 go_enter func145,ntmps145;go_wp2_with fail;go_loopg [3,5,8] 0 (fun _ s5 _ s15 wr=>s15=.int .i64 0∧s5=.int .i64 0∧wr=w)
 case atStart=>exact⟨rfl,rfl,rfl⟩
 case round=>
  obtain⟨rfl,rfl,rfl⟩:=hrel;go_wp2_with fail;go_ret;exact⟨rfl,bzR _ _⟩
theorem zKK(v:Value)(ls:List L)(w:World)(h:LS w v ls)(GF:∀l∈ls,l.rests.length≤60)(pN:ls.length≤10000) :
  Calls prog 145 #[v] w fun e w'=>e=.returned (.int .i64 (cnt ls))∧Bw w w':=by
 rcases h with ⟨rfl,rfl⟩|⟨b,o,c,rfl,h2,h3,h4,h5⟩
 ·exact zGu w
 ·exact zJk b o c ls w h4 h2 h5 GF pN
end sid
namespace sid
open Go.RowKit spn que Go.Maps
theorem zCb{α:Type}{p:List α→Prop}(nil:p [])(snoc:∀l x,p l→p (l++[x]))(l:List α):p l:=by
 have h:∀r:List α,p r.reverse:=by
  intro r;induction r with
  | nil=>exact nil
  | cons x t ih=>rw[List.reverse_cons];exact snoc _ _ ih
 have:=h l.reverse
 rwa [List.reverse_reverse] at this
def plD(i k:Int):DataW Unit:=.agg [.lit (.int .i64 i),.lit (.int .i64 k)]
def plR(v:Value):Option (DataW Unit × List MemPlace):=
 match v with
 | .agg a=>match a.toList with
  | [.int .i64 x,.int .i64 y]=>some (plD x y,[])
  | _=>none
 | _=>none
theorem zPS(i k:Int):plR (.agg #[.int .i64 i,.int .i64 k])=some (plD i k,[]):=rfl
theorem zQn{v:Value}{i k:Int}{ps:List MemPlace}(h:plR v=some (plD i k,ps)):v=.agg #[.int .i64 i,.int .i64 k]:=by
 unfold plR at h;split at h
 ·rename_i a
  split at h
  ·rename_i x y e
   simp only[plD,Option.some.injEq,Prod.mk.injEq,DataW.agg.injEq,List.cons.injEq,DataW.lit.injEq,Lit.int.injEq,true_and,and_true] at h;obtain⟨⟨rfl,rfl⟩,-⟩:=h;rw[show a=#[.int .i64 x,.int .i64 y] from by rw[←Array.toArray_toList (xs:=a),e]]
  ·cases h
 ·cases h
abbrev P3:=Int × Int × Int
def mapD(ps:List P3):DataW Unit:=ps.foldl (fun D x=>D.put (.int .i64 x.1) (plD x.2.1 x.2.2)) (.map [])
theorem zBU(ps:List P3)(x:P3):mapD (ps++[x])=(mapD ps).put (.int .i64 x.1) (plD x.2.1 x.2.2):=by
 unfold mapD;rw[List.foldl_append];rfl
theorem zKL(n:Int):WideAt.IsKeyLit (.int .i64 n):=by simp[WideAt.IsKeyLit]
theorem zCY(ps:List P3):Tidy (mapD ps):=by
 induction ps using zCb with
 | nil=>exact tidy_empty
 | snoc ps x ih=>rw[zBU];exact ih.put (zKL _) _
theorem zIj(ps:List P3)(id:Int):Maps.has (mapD ps) (.int .i64 id)=ps.any (fun x=>decide (x.1=id)):=by
 induction ps using zCb with
 | nil=>rfl
 | snoc ps x ih=>
  rw[zBU,List.any_append];by_cases h:x.1=id
  ·rw[←h,has_put_same (zCY ps).isMap (zKL _)];simp
  ·rw[has_put_other (by simp;exact fun e=>h e.symm),ih];simp[h]
def zAC(ps:List P3)(id:Int):Option P3:=ps.reverse.find? (fun x=>decide (x.1=id))
theorem zQo(ps:List P3)(id:Int)(z:DataW Unit):(mapD ps).atKey (.int .i64 id) z=match zAC ps id with|some x=>plD x.2.1 x.2.2|none=>z:=by
 induction ps using zCb with
 | nil=>rfl
 | snoc ps x ih=>
  rw[zBU];unfold zAC;rw[List.reverse_append];by_cases h:x.1=id
  ·rw[←h,atKey_put_same (zCY ps).isMap (zKL _)];simp
  ·rw[atKey_put_other (by simp;exact fun e=>h e.symm),ih];simp[h,zAC]
theorem zKM(ps:List P3):Maps.size (mapD ps)≤ps.length:=by
 induction ps using zCb with
 | nil=>exact nzR _
 | snoc ps x ih=>rw[zBU,size_put (zCY ps)];simp;split <;>omega
theorem zGv(ps:List P3):Maps.size (mapD ps)=ps.length↔(ps.map (·.1)).Nodup:=by
 induction ps using zCb with
 | nil=>simp[mapD,Maps.size]
 | snoc ps x ih=>
  rw[zBU,size_put (zCY ps),zIj];have Gh:=zKM ps;rw[jF,List.nodup_append,jE];by_cases h:ps.any (fun y=>decide (y.1=x.1))=true
  ·rw[if_pos h];constructor
   ·intro e;simp at e;omega
   ·rintro⟨-,-,h3⟩;obtain⟨y,hy,e⟩:=List.any_eq_true.1 h;exact absurd (of_decide_eq_true e) (h3 y.1 (List.mem_map.2 ⟨y,hy,rfl⟩) x.1 (by simp))
  ·rw[if_neg h];constructor
   ·intro e;refine⟨ih.1 (by simp at e;omega),by simp,?_⟩
    intro a ha b hb e2;obtain⟨y,hy,rfl⟩:=List.mem_map.1 ha;simp at hb;exact h (List.any_eq_true.2 ⟨y,hy,by simp[e2,hb]⟩)
   ·rintro⟨h1,-,-⟩;rw[ih.2 h1];simp
def rowP(i:Int)(k:Int):List R→List P3
 | []=>[]
 | r::t=>(r.id,i,k)::rowP i (k+1) t
def flatP(i:Int):List L→List P3
 | []=>[]
 | l::t=>rowP i 0 l.rests++flatP (i+1) t
theorem zKN(i k:Int)(zs:List R)(r:R):rowP i k (zs++[r])=rowP i k zs++[(r.id,i,k+zs.length)]:=by
 induction zs generalizing k with
 | nil=>simp[rowP]
 | cons x t ih=>
  simp only[List.cons_append,rowP,ih,jG];rw[show k+1+(t.length:Int)=k+((t.length+1:Nat):Int) by omega]
theorem zJl(i:Int)(ls:List L)(l:L):flatP i (ls++[l])=flatP i ls++rowP (i+ls.length) 0 l.rests:=by
 induction ls generalizing i with
 | nil=>simp[flatP]
 | cons x t ih=>
  simp only[List.cons_append,flatP,ih,jG,jS];rw[show i+1+(t.length:Int)=i+((t.length+1:Nat):Int) by omega]
theorem zIk(i k:Int)(zs:List R):(rowP i k zs).length=zs.length:=by
 induction zs generalizing k with
 | nil=>rfl
 | cons x t ih=>simp[rowP,ih]
theorem wAD(i:Int)(ls:List L):((flatP i ls).length:Int)=cnt ls:=by
 induction ls generalizing i with
 | nil=>rfl
 | cons x t ih=>simp only[flatP,jE,zIk,cnt,←ih (i+1)];omega
theorem zND(i k:Int)(zs:List R):(rowP i k zs).map (·.1)=zs.map (·.id):=by
 induction zs generalizing k with
 | nil=>rfl
 | cons x t ih=>simp[rowP,ih]
theorem zKO(i:Int)(ls:List L):(flatP i ls).map (·.1)=(ls.flatMap (·.rests)).map (·.id):=by
 induction ls generalizing i with
 | nil=>rfl
 | cons x t ih=>simp only[flatP,jF,zND,ih,List.flatMap_cons]
theorem lawI:Keyed prog 3:=int_keyed underlying3
def Own(W:World)(B:Nat)(ps:List P3):Prop:=W.ownsMap prog 3 plR B ps.length (mapD ps)
theorem Own.alloc{W:World}{B:Nat}{ps:List P3}(h:Own W B ps)(o:Obj):Own (W.alloc o) B ps:=World.ownsMap.alloc h o
theorem Own.snoc{W:World}{B:Nat}{ps:List P3}{x:P3}(h:W.ownsMap prog 3 plR B (ps.length+1) ((mapD ps).put (.int .i64 x.1) (plD x.2.1 x.2.2))):Own W B (ps++[x]):=by
 unfold Own;rw[zBU,jE];exact h
theorem id_wf{zs:List R}(h:qchk zs=0){r:R}(hr:r∈zs):(Lit.int .i64 r.id).wf=true:=by
 have:=(zAq (((zAn zs).1 h).2.1 r hr)).2.2.2.2.2.1;have e:wrap64 r.id=r.id:=by unfold wrap64;omega
 rw[←e];exact wrap64_wf _
theorem zFx{W:World}{q:Option Addr}{m cc:Nat}{zs:List R}(h:SLe W (.slice q m cc) zs){j:Nat}(hj:j<zs.length):∃b o,q=some ⟨b,o,none⟩∧m=zs.length∧b<W.heap.size∧Lies W b o zs:=by
 rcases h.sl (fun e=>by rw[e] at hj;cases hj) with ⟨_,h2⟩|⟨b,o,c,h1,_,_,h4,h5⟩
 ·rw[h2] at hj;cases hj
 ·injection h1 with h6 h7 h8
  exact⟨b,o,h6,h7,h4,h5⟩
theorem zQp(ls:List L)(hq:∀l∈ls,qchk l.rests=0)(i:Int):(flatP i ls).length≤60*ls.length:=by
 have h:=zPR ls (fun l hl=>((zAn _).1 (hq l hl)).1)
 have:=wAD i ls;omega
theorem zNE(b o c:Nat)(ls:List L)(w:World)(hb:b<w.heap.size)(hc:ls.length≤c)(hl:LL w b o ls)(hq:∀l∈ls,qchk l.rests=0)(pN:ls.length≤10000) :
  Calls prog 146 #[.slice (some ⟨b,o,none⟩) ls.length c] w fun e w'=>e=.returned (.map (some w.heap.size))∧Own w' w.heap.size (flatP 0 ls)∧Bw w w':=by
 have mz:=@run_makeMap prog;have HG:Hid (∀l∈ls,qchk l.rests=0):=hq;have HL:Hid (LL w b o ls):=hl;clear hl hq;generalize hn:ls.length=n at *;have HN:Hid (ls.length=n):=hn;clear hn;go_enter func146,ntmps146;go_wp2_with fail;go_loopg [4,5,6,7,11] n (fun gg _ _ _ _ s11 wr=>∃kk:Nat,kk≤n∧n - kk≤gg∧s11=.int .i64 kk∧Aside (Below w.heap.size w wr)∧Aside (Own wr w.heap.size (flatP 0 (ls.take kk))))
 case atStart=>exact⟨0,jL _,by omega,rfl,(bzR _ _).alloc (nzR _) _,World.ownsMap_made _ _ _ _⟩
 case round=>
  obtain⟨kk,gd,hg,rfl,BW,OW⟩:=hrel;by_cases Hi:kk<n
  ·have Hp:(kk:Int)<(n:Int):=by omega
   have Hs:kk<ls.length:=by rw[HN.out];exact Hi
   obtain⟨r,hr⟩:∃r,ls[kk]! = r:=⟨_,rfl⟩;obtain⟨p,zs⟩:=r;obtain⟨q,cc,a0,a1,hs⟩:=HL.out.at Hs hr;have c0:=zAa BW.out a0;have c1:=zAa BW.out a1;have MI:b<wr.heap.size:=jC hb BW.out.size;have gR:¬((kk:Int)<0):=by omega
   have HT:Hid (flatP 0 (ls.take (kk+1))=flatP 0 (ls.take kk)++rowP kk 0 zs):=by
    have:=zJl 0 (ls.take kk) ls[kk]!;rw[←zDL Hs,jJ,HN.out,Nat.min_eq_left gd,hr,Int.zero_add] at this;exact this
   have CS:=HG.out ls[kk]! (by rw[getE _ _ Hs];exact jT Hs)
   rw[hr] at CS;have HQ:Hid (qchk zs=0):=CS;have HF:Hid ((flatP 0 (ls.take kk)).length≤60*kk):=by
    have:=zQp (ls.take kk) (fun l hl=>HG.out l (List.mem_of_mem_take hl)) 0
    rw[jJ,HN.out,Nat.min_eq_left gd] at this;exact this
   have GF:zs.length≤60:=((zAn zs).1 CS).1;have HV:Hid (Bw w (wr.alloc (.cells #[.int .i64 p,.slice q zs.length cc] 54))):=BW.out.alloc BW.out.size _;have OV:Hid (Own (wr.alloc (.cells #[.int .i64 p,.slice q zs.length cc] 54)) w.heap.size (flatP 0 (ls.take kk))):=Own.alloc OW.out _;have SV:Hid (SLe w (.slice q zs.length cc) zs):=hs;generalize hm:zs.length=m at *;have HM:Hid (zs.length=m):=hm;generalize Pe:flatP 0 (ls.take kk)=FP at *;clear hr hs CS hm Pe OW BW a0 a1;go_wp2_with fail;generalize wr.alloc (.cells #[.int .i64 p,.slice q m cc] 54)=V at *;go_loopg [6,7,19] m (fun g2 _ _ s19 wi=>∃jj:Nat,jj≤m∧m - jj≤g2∧s19=.int .i64 jj∧Aside (Below w.heap.size w wi)∧Aside (Own wi w.heap.size (FP++rowP kk 0 (zs.take jj))))
   case atStart=>exact⟨0,jL _,by omega,rfl,HV.out,by rw[List.take_zero,rowP,jH];exact OV.out⟩
   case round=>
    obtain⟨jj,bL,Ge,rfl,BI,OI⟩:=hrel;by_cases hlt2:jj<m
    ·have uT:(jj:Int)<(m:Int):=(by omega);have Pm:jj<zs.length:=(by rw[HM.out];exact hlt2);obtain⟨b2,o2,rfl,-,Ha,uM⟩:=zFx SV.out Pm;have L2:=uM.below Ha BI.out;obtain⟨r,hr⟩:∃r,zs[jj]! = r:=⟨_,rfl⟩;obtain⟨r1,r2,r3,r4,r5⟩:=r;obtain⟨d0,d1,d2,d3,d4⟩:=zCn L2 Pm hr;have CH:¬((jj:Int)<0):=(by omega);have GT:(Lit.int .i64 r1).wf=true:=by
      have:=id_wf HQ.out (r:=zs[jj]!) (by rw[getE _ _ Pm];exact jT Pm)
      rw[hr] at this;exact this
     have G6:keyOf prog 3 (.int .i64 r1)=some (.int .i64 r1):=keyOf_int_mk underlying3 GT;have HP:Hid (rowP kk 0 (zs.take (jj+1))=rowP kk 0 (zs.take jj)++[(r1,(kk:Int),(jj:Int))]):=by
      have:=zKN kk 0 (zs.take jj) zs[jj]!;rw[←zDX Pm,jJ,HM.out,Nat.min_eq_left bL,hr,Int.zero_add] at this;exact this
     have Ug:(FP++rowP kk 0 (zs.take jj)).length<maxLen:=by
      have h1:=HF.out;rw[jE,zIk,jJ];unfold maxLen;omega
     generalize GC:FP++rowP kk 0 (zs.take jj)=PS at *;clear hr L2 uM GT;have Hg:Hid (Bw w (wr.alloc (.cells #[.int .i64 r1,.int .i64 r2,.int .i64 r3,.int .i64 r4,.int .i64 r5] 51))):=BI.out.alloc BI.out.size _;have Gv:Hid (Own (wr.alloc (.cells #[.int .i64 r1,.int .i64 r2,.int .i64 r3,.int .i64 r4,.int .i64 r5] 51)) w.heap.size PS):=Own.alloc OI.out _;go_wp2_with (at_mapUpdate;refine wpList_mapUpdate_own _ rfl _ _ _ 189 rfl 3 194 lawI underlying189 plR w.heap.size PS.length (mapD PS) rfl Gv.out Ug _ _ _ rfl rfl G6 _ [] (zPS _ _) ?_;intro w1 uj uR)
     have H1:Hid (Own w1 w.heap.size (FP++rowP kk 0 (zs.take (jj+1)))):=by
      rw[HP.out,←jS,GC];exact Own.snoc uj
     have H2:Hid (Bw w w1):=Hg.out.grown uR Hg.out.size (fun k hk=>by cases hk;exact nzR _)
     clear uj uR Hg Gv;go_wp2_with fail;go_roundg (m - (jj+1))
     case measure=>omega
     case rel=>exact⟨jj+1,by omega,by omega,by go_num,H2.out,H1.out⟩
    ·have uT:¬(jj:Int)<(m:Int):=(by omega);have hj:jj=m:=(by omega);subst hj;have H1:Hid (Own wr w.heap.size (flatP 0 (ls.take (kk+1)))):=by
      rw[HT.out];have:=OI.out
      rwa [List.take_of_length_le (by rw[HM.out];exact nzR _)] at this
     go_wp2_with fail;go_roundg (n - (kk+1))
     case measure=>omega
     case rel=>exact⟨kk+1,by omega,by omega,by go_num,BI.out,H1.out⟩
  ·have Hp:¬(kk:Int)<(n:Int):=by omega
   have hk:kk=n:=by omega
   subst hk;have pW:ls.take kk=ls:=List.take_of_length_le (by rw[HN.out];exact nzR _)
   rw[pW] at OW;go_wp2_with fail;go_ret;exact⟨rfl,OW.out,BW.out⟩
theorem zKP(w:World) :
  Calls prog 146 #[.slice none 0 0] w fun e w'=>e=.returned (.map (some w.heap.size))∧Own w' w.heap.size []∧Bw w w':=by
 have mz:=@run_makeMap prog;go_enter func146,ntmps146;go_wp2_with fail;go_loopg [4,5,6,7,11] 0 (fun _ _ _ _ _ s11 wr=>s11=.int .i64 0∧Aside (Below w.heap.size w wr)∧Aside (Own wr w.heap.size []))
 case atStart=>exact⟨rfl,(bzR _ _).alloc (nzR _) _,World.ownsMap_made _ _ _ _⟩
 case round=>
  obtain⟨rfl,BW,OW⟩:=hrel;go_wp2_with fail;go_ret;exact⟨rfl,OW.out,BW.out⟩
theorem zQq(v:Value)(ls:List L)(w:World)(h:LS w v ls)(hq:∀l∈ls,qchk l.rests=0)(pN:ls.length≤10000) :
  Calls prog 146 #[v] w fun e w'=>e=.returned (.map (some w.heap.size))∧Own w' w.heap.size (flatP 0 ls)∧Bw w w':=by
 rcases h with ⟨rfl,rfl⟩|⟨b,o,c,rfl,h2,h3,h4,h5⟩
 ·exact zKP w
 ·exact zNE b o c ls w h4 h2 h5 hq pN
end sid
namespace sid
open Go.RowKit que
open tickP (zAo zAB zBA betR)
def zCc(s:Int)(prev:Option Int)(b:Int):Bool:=match prev with|some p=>zAX s p b|none=>true
def sgo(s:Int):Option Int→List L→Int
 | _,[]=>0
 | prev,l::t=>if lchk l=0 then (if zCc s prev l.price=true then sgo s (some l.price) t else 7) else lchk l
def ids(ls:List L):List Int:=(flatP 0 ls).map (·.1)
def schk(s:Int)(ls:List L):Int:=
 if zAB s=true then (if sgo s none ls=0 then (if 60<cnt ls then 4 else if (ids ls).Nodup then 0 else 7) else sgo s none ls) else 1
theorem zNF{a b:Int}(h:zAX 1 a b=true):b<a:=by
 have e:wrap64 (3 - 1)=2:=by unfold wrap64;omega
 unfold zAX betR at h;rw[e] at h;simp at h;exact h.2
theorem zKQ{a b:Int}(h:zAX 2 a b=true):a<b:=by
 have e:wrap64 (3 - 2)=1:=by unfold wrap64;omega
 unfold zAX betR at h;rw[e] at h;simp at h;exact h.2
theorem zAf{l:L}(h:lchk l=0):(1≤l.price∧l.price≤10000)∧l.rests≠[]∧qchk l.rests=0:=by
 unfold lchk at h;by_cases hp:zAo l.price=true
 ·rw[if_pos hp] at h;by_cases hz:l.rests=[]
  ·rw[if_pos hz] at h;cases h
  ·rw[if_neg hz] at h;refine⟨?_,hz,h⟩;simp[zAo] at hp;exact hp
 ·rw[if_neg hp] at h;cases h
theorem zBb{s:Int}{prev:Option Int}{l:L}{t:List L}(h:sgo s prev (l::t)=0):lchk l=0∧zCc s prev l.price=true∧sgo s (some l.price) t=0:=by
 unfold sgo at h;by_cases h1:lchk l=0
 ·rw[if_pos h1] at h;by_cases h2:zCc s prev l.price=true
  ·rw[if_pos h2] at h;exact⟨h1,h2,h⟩
  ·rw[if_neg h2] at h;cases h
 ·rw[if_neg h1] at h;exact absurd h h1
theorem zAs{s:Int}{prev:Option Int}{ls:List L}(h:sgo s prev ls=0):∀l∈ls,lchk l=0:=by
 induction ls generalizing prev with
 | nil=>intro l hl;cases hl
 | cons x t ih=>
  obtain⟨h1,-,h3⟩:=zBb h;intro l hl;rcases List.mem_cons.1 hl with e|e
  ·rw[e];exact h1
  ·exact ih h3 l e
theorem zQr{p:Int}{ls:List L}(h:sgo 1 (some p) ls=0)(hp:1≤p):(ls.length:Int)≤p - 1:=by
 induction ls generalizing p with
 | nil=>simp;omega
 | cons x t ih=>
  obtain⟨h1,h2,h3⟩:=zBb h;have:=zNF h2;have hx:=(zAf h1).1;have:=ih h3 hx.1;simp only[jG];omega
theorem zNG{p:Int}{ls:List L}(h:sgo 2 (some p) ls=0)(hp:p≤10000):(ls.length:Int)≤10000 - p:=by
 induction ls generalizing p with
 | nil=>simp;omega
 | cons x t ih=>
  obtain⟨h1,h2,h3⟩:=zBb h;have:=zKQ h2;have hx:=(zAf h1).1;have:=ih h3 hx.2;simp only[jG];omega
theorem zQs{s:Int}{ls:List L}(hs:zAB s=true)(h:sgo s none ls=0):ls.length≤10000:=by
 cases ls with
 | nil=>simp
 | cons x t=>
  obtain⟨h1,-,h3⟩:=zBb h;have hx:=(zAf h1).1;simp[zAB] at hs;rcases hs with rfl|rfl
  ·have:=zQr h3 hx.1;simp only[jG];omega
  ·have:=zNG h3 hx.2;simp only[jG];omega
def zCZ(ls:List L)(k:Nat):Option Int:=if k=0 then none else some ls[k - 1]!.price
theorem zDZ(ls:List L)(k:Nat):zCZ ls (k+1)=some ls[k]!.price:=rfl
theorem sgo_at{s:Int}{ls:List L}{k:Nat}(hk:k<ls.length):sgo s (zCZ ls k) (ls.drop k) =
  if lchk ls[k]! = 0 then (if zCc s (zCZ ls k) ls[k]!.price=true then sgo s (zCZ ls (k+1)) (ls.drop (k+1)) else 7) else lchk ls[k]!:=by
 rw[zNB hk,zDZ];rfl
theorem zGw{s:Int}{ls:List L}(h:zAB s=false):schk s ls=1:=by unfold schk;rw[if_neg (by simp[h])]
theorem zQt{s:Int}{ls:List L}(h:zAB s=true)(h2:¬sgo s none ls=0):schk s ls=sgo s none ls:=by unfold schk;rw[if_pos h,if_neg h2]
theorem zKR{s:Int}{ls:List L}(h:zAB s=true)(h2:sgo s none ls=0)(h3:60<cnt ls):schk s ls=4:=by unfold schk;rw[if_pos h,if_pos h2,if_pos h3]
theorem zNH{s:Int}{ls:List L}(h:zAB s=true)(h2:sgo s none ls=0)(h3:¬60<cnt ls)(h4:¬(ids ls).Nodup):schk s ls=7:=by unfold schk;rw[if_pos h,if_pos h2,if_neg h3,if_neg h4]
theorem zEa{s:Int}{ls:List L}(h:zAB s=true)(h2:sgo s none ls=0)(h3:¬60<cnt ls)(h4:(ids ls).Nodup):schk s ls=0:=by unfold schk;rw[if_pos h,if_pos h2,if_neg h3,if_pos h4]
theorem zAe{s:Int}{ls:List L}(h:schk s ls=0):zAB s=true∧sgo s none ls=0∧cnt ls≤60∧(ids ls).Nodup:=by
 unfold schk at h;by_cases h1:zAB s=true
 ·rw[if_pos h1] at h;by_cases h2:sgo s none ls=0
  ·rw[if_pos h2] at h;by_cases h3:60<cnt ls
   ·rw[if_pos h3] at h;cases h
   ·rw[if_neg h3] at h;by_cases h4:(ids ls).Nodup
    ·exact⟨h1,h2,by omega,h4⟩
    ·rw[if_neg h4] at h;cases h
  ·rw[if_neg h2] at h;exact absurd h h2
 ·rw[if_neg h1] at h;cases h
end sid
end Go.Proofs.YtnfilcpnneckkaaGreat
