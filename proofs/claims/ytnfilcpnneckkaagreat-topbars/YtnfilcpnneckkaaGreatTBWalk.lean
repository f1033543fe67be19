import Derived.Test.YtnfilcpnneckkaaGreatBarBars
set_option maxHeartbeats 16000000
set_option maxRecDepth 100000
namespace Go.Proofs.YtnfilcpnneckkaaGreat
open Go.Proofs.Tryz
namespace tap
open Go.RowKit flr
open mee (T tV)
open wak (OwnM)
open bar (B bV zDC zAH zAZ zCj cnt badT bchk zGm barF bhd sgl getE)
theorem zJe{l:List Ev}(hb:∀e∈l,EvB e):(trs l).any badT=false:=by
 rw[List.any_eq_false];intro t ht;unfold trs at ht;rw[List.mem_filterMap] at ht;obtain⟨e,he,hh⟩:=ht;split at hh
 ·cases hh
  rename_i h2
  rcases hb e he with ⟨-,-,-,-,-,⟨h5,h6⟩,h7,h8⟩|⟨h1,-⟩
  ·unfold badT;rw[decide_eq_true h5,decide_eq_true h6,decide_eq_true h7,decide_eq_true h8];simp
  ·omega
 ·cases hh
theorem zRM{l:List Ev}(h:l.length≤400)(hb:∀e∈l,EvB e):bchk (trs l)=0:=by
 have h2:=zCT l;unfold bchk;rw[if_neg (by omega),zJe hb]
 rfl
theorem zNn{l:List Ev}(n:Int)(h:l.length≤400)(hb:∀e∈l,EvB e):zGm (trs l) n=if 1≤n∧n≤400 then 0 else 1:=by
 unfold zGm;rw[if_pos (zRM h hb)]
def sumB:List B→Int
 | []=>0
 | b::r=>b.q+sumB r
theorem zEM(a b:List B):sumB (a++b)=sumB a+sumB b:=by
 induction a with
 | nil=>simp[sumB]
 | cons x r ih=>rw[List.cons_append,sumB,sumB,ih];omega
theorem goodT{ts:List T}(h:ts.any badT=false){t:T}(ht:t∈ts):1≤t.qty∧t.qty≤10000:=by
 rw[List.any_eq_false] at h;have:=h t ht;unfold badT at this;simp at this;omega
theorem zQh:∀ (r:List T) (a:B),r.any badT=false→0≤a.q→a.q+10000*r.length≤5000000→(barF a r).q=a.q+sumQ r
 | [],a,_,_,_=>by simp[barF,sumQ]
 | t::r,a,h,h0,h1=>by
  have ht:=goodT h (List.mem_cons_self:t∈t::r);have hr' : r.any badT=false:=by
   rw[List.any_cons] at h;cases hq:badT t <;>simp_all
  rw[jG] at h1;have hw:wrap64 (a.q+t.qty)=a.q+t.qty:=by unfold wrap64;omega
  have e:(bhd a (sgl t)).q=a.q+t.qty:=hw;show (barF (bhd a (sgl t)) r).q=_
  rw[zQh r (bhd a (sgl t)) hr' (by rw[e];omega) (by rw[e];omega),e,sumQ]
  omega
theorem zRN{zs:List T}(h:zs.any badT=false)(h0:zs≠[])(h4:zs.length≤400):(zDC zs).q=sumQ zs:=by
 cases zs with
 | nil=>exact absurd rfl h0
 | cons t r=>
  have ht:=goodT h (List.mem_cons_self:t∈t::r);have hr' : r.any badT=false:=by
   rw[List.any_cons] at h;cases hq:badT t <;>simp_all
  rw[jG] at h4;show (barF (sgl t) r).q=_
  rw[zQh r (sgl t) hr' (by simp only[sgl];omega) (by simp only[sgl];omega),sumQ]
  rfl
theorem wAT{zs:List T}(h:zs.any badT=false)(n o:Nat):(zCj n zs o).any badT=false:=by
 rw[List.any_eq_false] at h ⊢;exact fun t ht=>h t (List.mem_of_mem_drop (List.mem_of_mem_take ht))
theorem cntlt{n k j:Nat}(hn:1≤n)(h:j<cnt n k):j*n<k:=by
 unfold cnt at h;have h1:(j+1)*n≤k+n - 1:=(Nat.le_div_iff_mul_le (by omega)).1 (show j+1≤(k+n - 1) / n from h)
 rw[Nat.add_mul] at h1;omega
theorem cntge{n k:Nat}(hn:1≤n):k≤cnt n k*n:=by
 unfold cnt;have h:=Nat.div_add_mod (k+n - 1) n;have h2:=Nat.mod_lt (k+n - 1) (show 0<n by omega)
 rw[Nat.mul_comm] at h;omega
theorem cntle{n k:Nat}(hn:1≤n):cnt n k≤k:=by
 unfold cnt;rcases Nat.eq_zero_or_pos k with rfl|h
 ·rw[Nat.div_eq_of_lt (by omega)];exact nzR _
 ·refine Nat.le_of_lt_succ ((Nat.div_lt_iff_lt_mul (by omega)).2 ?_)
  have:k*1≤k*n:=Nat.mul_le_mul_left _ hn;rw[show k.succ*n=k*n+n by rw[Nat.succ_mul]]
  omega
theorem zNo{zs:List T}{n o:Nat}(hn:1≤n)(h:o<zs.length):zCj n zs o≠[]:=by
 intro h0;have:=congrArg List.length h0;simp[zCj] at this;omega
theorem zRO(n k:Nat):bar.parts n (k+1)=bar.parts n k++[k*n]:=by simp[bar.parts,List.range_succ]
theorem wAN{zs:List T}(h:zs.any badT=false)(h4:zs.length≤400){n:Nat}(hn:1≤n):∀k,k≤cnt n zs.length→sumB (zAZ n zs (bar.parts n k))=sumQ (zs.take (k*n))
 | 0,_=>by simp[bar.parts,zAZ,sumB,sumQ]
 | k+1,hk=>by
  have ih:=wAN h h4 hn k (by omega)
  have Hi:=cntlt hn (show k<cnt n zs.length by omega)
  rw[zRO];have e:zAZ n zs (bar.parts n k++[k*n])=zAZ n zs (bar.parts n k)++[zDC (zCj n zs (k*n))]:=by simp[zAZ]
  rw[e,zEM,ih,sumB,sumB,zRN (wAT h n _) (zNo hn Hi) (by simp[zCj];omega),Int.add_zero,←zEJ]
  unfold zCj;rw[←List.take_add,show (k+1)*n=k*n+n by rw[Nat.add_mul];omega]
theorem zPL{zs:List T}(h:zs.any badT=false)(h4:zs.length≤400){n:Nat}(hn:1≤n):sumB (zAH zs n)=sumQ zs:=by
 unfold zAH;rw[wAN h h4 hn _ (nzR _),List.take_of_length_le (cntge hn)]
theorem zEN(zs:List T)(n:Nat):(zAH zs n).length=cnt n zs.length:=by simp[zAH,zAZ,bar.parts]
theorem zQi:∀ (r:List T) (a:B),(barF a r).c=(match r.getLast? with|none=>a.c|some t=>t.price)
 | [],a=>rfl
 | t::r,a=>by
  show (barF (bhd a (sgl t)) r).c=_
  rw[zQi r (bhd a (sgl t)),List.getLast?_cons];cases r.getLast? <;>rfl
theorem zRP{zs:List T}(h:zs≠[]):(zDC zs).c=(match zs.getLast? with|none=>0|some t=>t.price):=by
 cases zs with
 | nil=>exact absurd rfl h
 | cons u r=>
  show (barF (sgl u) r).c=_
  rw[zQi,List.getLast?_cons];cases r.getLast? <;>rfl
theorem bars_c{zs:List T}{n:Nat}(hn:1≤n){k:Nat}(h:cnt n zs.length=k+1):((zAH zs n)[k]!).c=(match zs.getLast? with|none=>0|some t=>t.price):=by
 have Hi:=cntlt hn (show k<cnt n zs.length by omega)
 have bH:=cntge (k:=zs.length) hn;rw[h,Nat.add_mul] at bH;have e:(zAH zs n)[k]! = zDC (zCj n zs (k*n)):=by
  rw[getE _ _ (by rw[zEN];omega)]
  simp[zAH,zAZ,bar.parts]
 rw[e,zRP (zNo hn Hi)];have e2:zCj n zs (k*n)=zs.drop (k*n):=by
  unfold zCj;exact List.take_of_length_le (by simp;omega)
 rw[e2,List.getLast?_drop,if_neg (by omega)]
theorem zEO:∀ (l:List Ev) (p:Int),zEG p l=(match (trs l).getLast? with|none=>p|some t=>t.price)
 | [],p=>rfl
 | e::r,p=>by
  show zEG (if e.what=2 then e.tr.price else p) r=_
  rw[zEO r];by_cases h:e.what=2
  ·have:trs (e::r)=e.tr::trs r:=by simp[trs,h]
   rw[this,if_pos h,List.getLast?_cons];cases (trs r).getLast? <;>rfl
  ·have:trs (e::r)=trs r:=by simp[trs,h]
   rw[this,if_neg h]
theorem own_tl{w:World}{base:Nat}{v:Value}{l:List T}(h:OwnM w base 38 6 v l.length (flatT l)):bar.TL w v l:=by
 rcases h.2 with ⟨hv,hn⟩|⟨g,off,cap,cur,hv,hb,hg,GH,gi,Gy,-⟩
 ·exact .inl ⟨hv,List.eq_nil_of_length_eq_zero hn⟩
 ·subst hv;obtain⟨hc,-,-,hl⟩:=OwnM.cells h;refine .inr ⟨g,off,cap,rfl,GH,by have:=gi;unfold maxLen at this;omega,hl,fun j hj i v hv=>?_⟩
  have hi:i<6:=(List.getElem?_eq_some_iff.1 hv).1;have:=hc (j*6+i) v (by rw[wAQ l j hj i hi];exact hv)
  rw[←Nat.add_assoc] at this;exact this
def TBI(w wr:World)(F:Nat)(q:Option Addr)(c mm:Nat)(qt:Option Addr)(ct tt:Nat)(all:List Ev)(f:FS)(k:Nat):Prop:=
 mm=all.length∧tt=(trs all).length∧TapL w wr F (.slice q mm c) all f k∧OwnTs wr w.heap.size (.slice qt tt ct) (trs all)
def TBJ(w wr:World)(F:Nat)(q:Option Addr)(c mm:Nat)(qt:Option Addr)(ct tt:Nat)(xq:Option Addr)(ne xc:Nat)(all evs:List Ev)(f:FS)(k j:Nat):Prop:=
 mm=(all++evs).length∧tt=(trs (all++evs.take j)).length∧TapL w wr F (.slice q mm c) (all++evs) f (k+1)∧OwnTs wr w.heap.size (.slice qt tt ct) (trs (all++evs.take j))∧ne=evs.length∧OwnM wr w.heap.size 40 10 (.slice xq ne xc) ne (zAD evs)
theorem zKq(l:List Ev):∀u∈zAD l,u.oneCell'=true:=by
 intro u hu;unfold zAD at hu;obtain⟨e,-,he⟩:=List.mem_flatMap.1 hu;simp only[evL,tV,List.cons_append,jU,List.mem_cons,List.not_mem_nil,or_false] at he;rcases he with rfl|rfl|rfl|rfl|rfl|rfl|rfl|rfl|rfl|rfl <;>rfl
theorem zPM(t:T):∀u∈tV t,u.oneCell'=true:=by
 intro u hu;simp only[tV,List.mem_cons,List.not_mem_nil,or_false] at hu;rcases hu with rfl|rfl|rfl|rfl|rfl|rfl <;>rfl
theorem zPN{w:World}{a b:Nat}{e:TypeId}{sz:Nat}{v:Value}{n:Nat}{xs:List Value}(h:OwnM w b e sz v n xs)(uQ:a≤b):OwnM w a e sz v n xs:=by
 refine⟨h.1,?_⟩;rcases h.2 with hn|⟨g,off,cap,cur,hv,hb,rest⟩
 ·exact .inl hn
 ·exact .inr ⟨g,off,cap,cur,hv,jM uQ hb,rest⟩
theorem zPO{w w6:World}{F:Nat}{q xq qt:Option Addr}{c mm ct tt xc k:Nat}{all evs:List Ev}{f:FS}(he:evs=[])(hM:TapM w w6 F (.slice q mm c) all evs f k)(hm:mm=all.length)(ht:tt=(trs all).length)(hT:OwnTs w6 w.heap.size (.slice qt tt ct) (trs all))(hE:OwnM w6 w.heap.size 40 10 (.slice xq evs.length xc) evs.length (zAD evs)) :
  TBJ w w6 F q c (mm+evs.length) qt ct tt xq evs.length xc all evs f k 0:=by
 have h2:=hM.none he;subst he;refine⟨?_,?_,?_,?_,rfl,hE⟩
 ·simp[hm]
 ·simp[ht]
 ·rw[jH];exact h2
 ·simpa using hT
theorem zRQ{w w6 w7:World}{F:Nat}{q q2 xq qt:Option Addr}{c c2 mm ct tt xc ne k:Nat}{all evs:List Ev}{f:FS}(hM:TapM w w6 F (.slice q mm c) all evs f k)(hm:mm=all.length)(hn:ne=evs.length)(ht:tt=(trs all).length)(hT:OwnTs w6 w.heap.size (.slice qt tt ct) (trs all))(hE:OwnM w6 w.heap.size 40 10 (.slice xq ne xc) ne (zAD evs))
  (hx:(Value.slice xq ne xc).ownBlock=none∨(Value.slice xq ne xc).ownBlock≠(Value.slice q mm c).ownBlock)
  (ho:OwnM w7 w.heap.size 40 10 (.slice q2 (mm+ne) c2) (mm+ne) (zAD all++zAD evs)) (hg:w6.grownBy w7 (Value.slice q mm c).ownBlock) :
  TBJ w w7 F q2 c2 (mm+ne) qt ct tt xq ne xc all evs f k 0:=by
 have hl:mm+ne=(all++evs).length:=by rw[jE,hm,hn]
 have h2:TapL w w7 F (.slice q2 (mm+ne) c2) (all++evs) f (k+1):=hM.app (by rw[←hm,←hn];exact ho) hg
 refine⟨hl,?_,h2,?_,hn,OwnM.kept hE hg hx⟩
 ·simp[ht]
 ·have:=zHz hT (zQf hM.ow hg) (by decide)
  simpa using this
theorem tbj_no{w wr:World}{F:Nat}{q xq qt:Option Addr}{c mm ct tt xc ne k j:Nat}{all evs:List Ev}{f:FS}(h:TBJ w wr F q c mm qt ct tt xq ne xc all evs f k j)(hj:j<evs.length)(h2:¬(evs[j]!).what=2):TBJ w wr F q c mm qt ct tt xq ne xc all evs f k (j+1):=by
 obtain⟨a,b,c1,d,e,g⟩:=h;have e1:trs (all++evs.take (j+1))=trs (all++evs.take j):=by rw[zBG,zBG,zQe hj h2]
 exact⟨a,by rw[e1];exact b,c1,by rw[e1];exact d,e,g⟩
theorem zRR{w wr w7:World}{F:Nat}{q xq qt q3:Option Addr}{c mm ct tt xc ne k j c3:Nat}{all evs:List Ev}{f:FS}{x:Obj}(h:TBJ w wr F q c mm qt ct tt xq ne xc all evs f k j)(hj:j<evs.length)(h2:(evs[j]!).what=2)
  (ho:OwnM w7 w.heap.size 38 6 (.slice q3 (tt+1) c3) (tt+1) (flatT (trs (all++evs.take j))++tV (evs[j]!).tr)) (hg:(wr.alloc x).grownBy w7 (Value.slice qt tt ct).ownBlock) :
  TBJ w w7 F q c mm q3 c3 (tt+1) xq ne xc all evs f k (j+1):=by
 obtain⟨a,b,c1,d,e,g⟩:=h;have e1:trs (all++evs.take (j+1))=trs (all++evs.take j)++[(evs[j]!).tr]:=by rw[zBG,zBG,zNc hj h2,jS]
 have hB:Bw wr (wr.alloc x):=(bzR _ _).alloc (nzR _) _;have dV:OwnM (wr.alloc x) w.heap.size 38 6 (.slice qt tt ct) (trs (all++evs.take j)).length (flatT (trs (all++evs.take j))):=OwnM.below d hB;have hK:Kp [38] wr w7:=(zJc hB).trans (zQf dV hg);have hs:=c1.fl.bel.size;have gG:Below w.heap.size wr w7:=((bzR _ _).alloc hs x).grown hg (jM hs hB.size) (fun k hk=>(OwnM.lt dV k hk).1)
 have el:tt+1=(trs (all++evs.take (j+1))).length:=by rw[e1,jE,←b];rfl
 refine⟨a,el,c1.trd hK gG,?_,e,zHz g hK (by decide)⟩
 unfold OwnTs;rw[←el,e1,wAz,zHx];exact ho
theorem zRS{w wr:World}{F:Nat}{q xq qt:Option Addr}{c mm ct tt xc ne k j:Nat}{all evs:List Ev}{f:FS}(h:TBJ w wr F q c mm qt ct tt xq ne xc all evs f k j)(hj:ne≤j):TBI w wr F q c mm qt ct tt (all++evs) f (k+1):=by
 obtain⟨a,b,c1,d,e,g⟩:=h;rw[List.take_of_length_le (by omega)] at b d
 exact⟨a,b,c1,d⟩
theorem zHC{zs:List T}{n k:Nat}(hk:k≤cnt n zs.length):(zAH zs n).take k=zAZ n zs (bar.parts n k):=by
 unfold zAH zAZ bar.parts;rw[←List.map_take,←List.map_take,List.take_range,Nat.min_eq_left hk]
theorem zNp{zs:List T}(h:zs.any badT=false)(h4:zs.length≤400)(hs:0≤sumQ zs∧∀k,0≤sumQ (zs.take k)∧sumQ (zs.take k)≤4000000){n:Nat}(hn:1≤n){k:Nat}(hk:k<(zAH zs n).length) :
  sumB ((zAH zs n).take (k+1))=sumB ((zAH zs n).take k)+((zAH zs n)[k]!).q∧0≤sumB ((zAH zs n).take k)∧sumB ((zAH zs n).take k)≤4000000∧0≤sumB ((zAH zs n).take (k+1))∧sumB ((zAH zs n).take (k+1))≤4000000:=by
 have Gg:=hk;rw[zEN] at Gg;have e1:sumB ((zAH zs n).take k)=sumQ (zs.take (k*n)):=by rw[zHC (by omega),wAN h h4 hn k (by omega)]
 have e2:sumB ((zAH zs n).take (k+1))=sumQ (zs.take ((k+1)*n)):=by rw[zHC (by omega),wAN h h4 hn (k+1) (by omega)]
 refine⟨?_,e1 ▸ (hs.2 _).1,e1 ▸ (hs.2 _).2,e2 ▸ (hs.2 _).1,e2 ▸ (hs.2 _).2⟩
 rw[wAv hk,zEM,sumB,sumB,Int.add_zero]
theorem zPP{l:List Ev}(h:l.length≤400)(hb:∀e∈l,EvB e):∀k,0≤sumQ ((trs l).take k)∧sumQ ((trs l).take k)≤4000000:=by
 intro k;have h1:=zCI ((trs l).take k) (fun t ht=>zHy (fun e he=>zNf (hb e he)) t (List.mem_of_mem_take ht))
 have h2:=zCT l;have h3:((trs l).take k).length≤400:=by rw[jJ];omega
 refine⟨h1.1,?_⟩;have:=h1.2;omega
end tap
namespace tap
open Go.RowKit flr
open mee (T tV)
open bar (B bV zDC zAH zAZ zCj cnt badT bchk zGm barF bhd sgl getE)
structure FinB (BS:List B) (S L:Int):Prop where
 sS:0≤S∧S≤4000000
 step:∀j,j<BS.length→∃D E:Int,S - sumB (BS.take j)=D∧S - sumB (BS.take (j+1))=E∧wrap64 (D - (BS[j]!).q)=E
 start:S=S - sumB (BS.take 0)
 fin:S - sumB (BS.take BS.length)=0
 zero:BS.length=0→L=0
 last:∀k,BS.length=k+1→(BS[k]!).c=L
 len:BS.length≤400
theorem finB{all:List Ev}{n:Nat}{L:Int}(h4:all.length≤400)(hb:∀e∈all,EvB e)(hl:L=zEG 0 all)(hn:1≤n):FinB (zAH (trs all) n) (sumQ (trs all)) L:=by
 have hg:=zJe hb;have ht:=zCT all;have ht4:(trs all).length≤400:=by omega
 have hs:=zPP h4 hb;have hS:0≤sumQ (trs all)∧sumQ (trs all)≤4000000:=by
  have:=hs (trs all).length
  rwa [List.take_length] at this
 refine⟨hS,?_,?_,?_,?_,?_,?_⟩
 ·intro j hj;obtain⟨e,b1,b2,b3,b4⟩:=zNp hg ht4 ⟨hS.1,hs⟩ hn hj;refine⟨_,_,rfl,rfl,?_⟩;rw[e] at b3 b4 ⊢;unfold wrap64;omega
 ·simp[sumB]
 ·rw[List.take_length,zPL hg ht4 hn];omega
 ·intro hz;rw[zEN] at hz;have h0:=cntge (k:=(trs all).length) hn;rw[hz] at h0;have h1:trs all=[]:=List.eq_nil_of_length_eq_zero (by omega)
  rw[hl,zEO,h1];rfl
 ·intro k hk;rw[zEN] at hk;rw[hl,zEO];exact bars_c hn hk
 ·rw[zEN];have:=cntle (k:=(trs all).length) hn;omega
end tap
namespace tcw
open Go.RowKit spn que sid bok mee kin
theorem hidK{P:Prop}(h:P):Hid P:=h
theorem zRT(w:World):LS ((w.alloc (.cells #[.int .i64 1,.int .i64 1,.int .i64 5,.int .i64 0,.int .i64 0] 51)).alloc (.cells #[.int .i64 100,.slice (some ⟨w.heap.size,0,none⟩) 1 1] 54)) (.slice (some ⟨w.heap.size+1,0,none⟩) 1 1) [⟨100,[⟨1,1,5,0,0⟩]⟩]:=by
 obtain⟨w1,h1⟩:∃w1,w1=w.alloc (.cells #[.int .i64 1,.int .i64 1,.int .i64 5,.int .i64 0,.int .i64 0] 51):=⟨_,rfl⟩;have Hl:w1.heap.size=w.heap.size+1:=by rw[h1];simp
 have gq:=jA w (.cells #[.int .i64 1,.int .i64 1,.int .i64 5,.int .i64 0,.int .i64 0] 51);rw[←h1] at gq ⊢;obtain⟨w2,h2⟩:∃w2,w2=w1.alloc (.cells #[.int .i64 100,.slice (some ⟨w.heap.size,0,none⟩) 1 1] 54):=⟨_,rfl⟩;have H5:=jA w1 (.cells #[.int .i64 100,.slice (some ⟨w.heap.size,0,none⟩) 1 1] 54);have gG:Below w1.heap.size w1 w2:=by rw[h2];exact(bzR _ _).alloc (nzR _) _
 rw[←h2] at H5 ⊢;have hr1':=(gG.block w.heap.size (by omega)).trans gq
 rw[Hl] at H5;have hQ:que.OwnQ w2 0 (.slice (some ⟨w.heap.size,0,none⟩) 1 1) [⟨1,1,5,0,0⟩]:=⟨rfl,.inr ⟨w.heap.size,0,1,_,rfl,jL _,hr1',nzR _,by unfold maxLen;omega,by simp,rfl⟩⟩
 have hLv:rlv.OwnQ w2 0 (.slice (some ⟨w.heap.size+1,0,none⟩) 1 1) [⟨100,some ⟨w.heap.size,0,none⟩,1,1⟩]:=⟨rfl,.inr ⟨w.heap.size+1,0,1,_,rfl,jL _,H5,nzR _,by unfold maxLen;omega,by simp,rfl⟩⟩
 have h:LS w2 (.slice (some ⟨w.heap.size+1,0,none⟩) 1 1) (([(⟨100,some ⟨w.heap.size,0,none⟩,1,1⟩,[⟨1,1,5,0,0⟩])]:List RP).map toL):=
  Loose.ls ⟨rlv.OwnQ.sl hLv,fun p hp=>by simp only[List.mem_singleton] at hp;subst hp;exact .inl (que.OwnQ.sl hQ)⟩
 exact h
theorem one_E:kdoE [] [⟨100,[⟨1,1,5,0,0⟩]⟩] ⟨2,2,1,3,101,7,0,0⟩=0:=by decide
theorem one_G:kdoG [] [⟨100,[⟨1,1,5,0,0⟩]⟩] ⟨2,2,1,3,101,7,0,0⟩=2:=by decide
theorem one_T:(metR [] [⟨100,[⟨1,1,5,0,0⟩]⟩] ⟨2,2,1,3,101,7,0,0⟩).2.1=[⟨1,2,1,2,100,5⟩]:=by decide
theorem wBk(w:World):Calls prog 4 #[] w fun e w'=>e=.returned (.bool true)∧Bw w w':=by
 have hl:=zRT w;obtain⟨V,hV⟩:∃V,V=((w.alloc (.cells #[.int .i64 1,.int .i64 1,.int .i64 5,.int .i64 0,.int .i64 0] 51)).alloc (.cells #[.int .i64 100,.slice (some ⟨w.heap.size,0,none⟩) 1 1] 54)).alloc (.cells #[.slice none 0 0,.slice (some ⟨w.heap.size+1,0,none⟩) 1 1] 57):=⟨_,rfl⟩;have Gd:Bw w ((w.alloc (.cells #[.int .i64 1,.int .i64 1,.int .i64 5,.int .i64 0,.int .i64 0] 51)).alloc (.cells #[.int .i64 100,.slice (some ⟨w.heap.size,0,none⟩) 1 1] 54)):=((bzR _ _).alloc (nzR _) _).alloc (by simp) _
 have gG:Bw w V:=by rw[hV];exact Gd.alloc Gd.size _
 have uM:LS V (.slice (some ⟨w.heap.size+1,0,none⟩) 1 1) [⟨100,[⟨1,1,5,0,0⟩]⟩]:=by rw[hV];exact hl.below ((bzR _ _).alloc (nzR _) _)
 have hK:=zLP none (some ⟨w.heap.size+1,0,none⟩) 0 1 0 1 [] [⟨100,[⟨1,1,5,0,0⟩]⟩] 2 2 1 3 101 7 0 0 V (ls_nil V) uM;have HK:=hidK hK;have Hg:=hidK gG;clear hl Gd gG uM hK;go_enter func4,ntmps4;go_wp2_with fail;rw[←hV];refine HK.out.mono ?_;rintro e w1⟨hp,-,hb⟩;obtain⟨q1,q2,n1,n2,c1,c2,tv,rfl,-,-,hT⟩:=hp one_E;rw[one_G];rw[one_T] at hT;have HU:=hidK (Hg.out.trans (hb.mono Hg.out.size));obtain⟨g,off,cap,rfl,hc⟩:∃g off cap,tv=.slice (some ⟨g,off,none⟩) 1 cap∧g<w1.heap.size∧w1.cell? ⟨g,off+5,none⟩=some (.int .i64 5):=by
  rcases hT.2 with ⟨h1,h2⟩|⟨g,off,cap,cur,h1,-,h3,h4,h5,h6,h7⟩
  ·simp at h2
  ·refine⟨g,off,cap,h1,(gzE.1 h3).1,?_⟩;rw[jZ w1 g (off+5) cur _ (0,0) h3];have e:((cur.toList.drop off).take (1*6))[5]?=some (.int .i64 5):=by
    have h7' : (cur.toList.drop off).take (1*6)=mee.flatT [⟨1,2,1,2,100,5⟩]:=h7;rw[h7'];rfl
   rw[List.getElem?_take,if_pos (by decide),List.getElem?_drop] at e
   simpa using e
 have hg:=hc.1;have hc5:=hc.2;have Gi:Hid (Bw w (w1.alloc (.cells #[.slice q1 n1 c1,.slice q2 n2 c2] 57))):=HU.out.alloc HU.out.size _;clear hc hp hb hT HK Hg HU hV;go_wp2_with fail;go_ret;exact⟨rfl,Gi.out⟩
end tcw
namespace tap
open Go.RowKit flr
open mee (T tV)
open spn (zAa zAd errV wAa wAb)
open wak (OwnM wAe)
open bar (B bV zDC zAH cnt badT bchk zGm TL BL zJd)
theorem zNq(m bn:Int)(sq:Option Addr)(n sc:Nat)(w:World)(hm:¬(0≤m∧m≤3)) :
  Calls prog 3 #[.int .i64 m,.slice sq n sc,.int .i64 bn] w fun e w'=>e=.returned (.bool true)∧Bw w w':=by
 have mI:=hidT (fun W=>zRE m hm W)
 by_cases h0:m<0;all_goals
  have h3:m<0∨3<m:=by omega
  try have h3b:3<m:=by omega
  clear hm h3;go_enter func3,ntmps3;go_wp2_with fail;refine(tcw.wBk _).mono ?_;rintro e w1⟨rfl,Hc⟩;have He:=hidT Hc;clear Hc;go_wp2_with fail;refine(mI.out w1).mono ?_;rintro e w2⟨rfl,Ha⟩;have Hg:=hidT (He.out.trans (Ha.mono He.out.size));clear Ha;go_wp2_with fail;go_ret;exact⟨by simp[*],Hg.out⟩
theorem zKr(m bn:Int)(sq:Option Addr)(n sc:Nat)(zs:List Cm)(w:World)(hS:CL w (.slice sq n sc) zs)(h0:0≤m)(h3:m≤3) :
  Calls prog 3 #[.int .i64 m,.slice sq n sc,.int .i64 bn] w fun e w'=>e=.returned (.bool true)∧Bw w w':=by
 obtain⟨i0,gY,gE,gu,gA⟩:=infoE';have HI:=hidT gY;obtain⟨j0,hj0,hy0,hy1,hy2⟩:=infoT';have HJ:=hidT hj0;have HNG:=hidT (fun W(hW:Bw w W)=>zPH (w:=w) m h0 h3 hW)
 have HS:=hidT hS;obtain⟨sq',sc',Mg,Hh⟩:=hS.form;have hn:n=zs.length:=by cases Mg;rfl
 have HN:=hidT hn;have bP:(n:Int)≤9223372036854775807:=by omega
 clear hS Mg Hh hn h0 h3 gY hj0;go_enter func3,ntmps3;go_wp2_with fail;refine(tcw.wBk _).mono ?_;rintro e w1⟨rfl,Hc⟩;have He:=hidT Hc;clear Hc;go_wp2_with fail;refine(HNG.out w1 He.out).mono ?_;rintro e w2⟨F,f0,rfl,hT⟩;have HT:Hid (TBI w w2 F none 0 0 none 0 0 [] f0 0):=⟨rfl,rfl,hT,⟨rfl,.inl ⟨rfl,rfl⟩⟩⟩;clear hT HNG He;go_wp2_with fail;go_loopg [10,11,12,13,14,15] 40 (fun gg s10 s11 s12 _ _ _ wr=>∃ (kk:Nat) (q' : Option Addr) (c' mm:Nat) (qt:Option Addr) (ct tt:Nat) (all:List Ev) (f:FS),kk≤n∧kk≤40∧40 - kk≤gg∧s10=.slice q' mm c'∧s11=.slice qt tt ct∧s12=.int .i64 kk∧Aside (TBI w wr F q' c' mm qt ct tt all f kk))
 case atStart=>exact⟨0,none,0,0,none,0,0,[],f0,jL _,by omega,by omega,rfl,rfl,rfl,HT.out⟩
 case round=>
  clear HT;obtain⟨kk,q',c',mm,qt,ct,tt,all,f,gd,CI,hg,rfl,rfl,rfl,HA⟩:=hrel;by_cases Hi:kk<n∧kk<40
  ·
   have h1z:(kk:Int)<(n:Int):=by omega
   have h2z:(kk:Int)<40:=by omega
   obtain⟨g,off,rfl,UE,hx,GT⟩:=HS.out.at (k:=kk) (by rw[←HN.out];exact Hi.1)
   rcases gi:zs[kk]! with ⟨what,⟨a1,a2,a3,a4,a5,a6,a7,a8⟩,who,num⟩
   rw[gi] at hx GT;have hb:=HA.out.2.2.1.fl.bel;have x0:=(hb.cell (p:=⟨g,off+kk*11+0,none⟩) UE).trans (hx 0 _ rfl);have x1:=(hb.cell (p:=⟨g,off+kk*11+1,none⟩) UE).trans (hx 1 _ rfl);have x2:=(hb.cell (p:=⟨g,off+kk*11+2,none⟩) UE).trans (hx 2 _ rfl);have x3:=(hb.cell (p:=⟨g,off+kk*11+3,none⟩) UE).trans (hx 3 _ rfl);have x4:=(hb.cell (p:=⟨g,off+kk*11+4,none⟩) UE).trans (hx 4 _ rfl);have x5:=(hb.cell (p:=⟨g,off+kk*11+5,none⟩) UE).trans (hx 5 _ rfl);have x6:=(hb.cell (p:=⟨g,off+kk*11+6,none⟩) UE).trans (hx 6 _ rfl);have x7:=(hb.cell (p:=⟨g,off+kk*11+7,none⟩) UE).trans (hx 7 _ rfl);have x8:=(hb.cell (p:=⟨g,off+kk*11+8,none⟩) UE).trans (hx 8 _ rfl);have x9:=(hb.cell (p:=⟨g,off+kk*11+9,none⟩) UE).trans (hx 9 _ rfl);have x10:=(hb.cell (p:=⟨g,off+kk*11+10,none⟩) UE).trans (hx 10 _ rfl);simp only[Nat.add_zero] at x0;have Pq:¬((kk:Int)<0):=by omega
   have ei:wrap64 ((kk:Int)+1)=((kk+1:Nat):Int):=by unfold wrap64;omega
   have HK:Hid (kk<n∧kk<40∧40 - kk≤gk):=⟨Hi.1,Hi.2,hg⟩;have Mq:=hidT (do_tf what a1 a2 a3 a4 a5 a6 a7 a8 who num HA.out.2.2.1 GT);have pw:=hidT HA.out.1;have PT:=hidT HA.out.2.1;have PO:=hidT HA.out.2.2.1.ow;have mJ:=hidT HA.out.2.2.2;have HWR:=hidT HA.out.2.2.1.fl.bel.size;clear gi hx GT Hi gd CI hg hb HA;go_wp2_with fail;refine Mq.out.mono ?_;rintro e w6 Mj;clear x0 x1 x2 x3 x4 x5 x6 x7 x8 x9 x10 Mq UE;rcases Mj with ⟨qv,evs,cv,fg,rfl,ho,hM,M7⟩|⟨j,fg,rfl,hM,M7⟩
   ·have HM:=hidT hM;have UA:Hid (OwnTs w6 w.heap.size (.slice qt tt ct) (trs all)):=by
     have:=zHz mJ.out M7 (by decide)
     rw[←PT.out] at this;show OwnM _ _ _ _ _ _ _
     rw[←PT.out];exact this
    have MY:Hid (OwnM w6 w.heap.size 40 10 (.slice qv evs.length cv) evs.length (zAD evs)):=zPN ho HWR.out;have bo:Hid ((Value.slice qv evs.length cv).ownBlock=none∨(Value.slice qv evs.length cv).ownBlock≠(Value.slice q' mm c').ownBlock):=by
     cases hq:(Value.slice qv evs.length cv).ownBlock with
     | none=>exact .inl rfl
     | some a=>
      right;intro h;have h1:=(OwnM.lt ho a hq).1;have h2:=(OwnM.lt PO.out a h.symm).2;omega
    have mL:=hidT hM.fl.bel.size;have Mz:=hidT hM.sm;have uL:=hM.ow;rw[←pw.out] at uL;have Gv:=hidT uL;obtain⟨ne,H8⟩:∃ne,evs.length=ne:=⟨_,rfl⟩;have uh:=hidT H8;have P2:(ne:Int)≤9223372036854775807:=by
     have h2:=Mz.out;have h3:=HK.out;clear ei;rw[jE] at h2;omega
    simp only[H8] at MY bo ⊢;clear hM ho M7 uL mJ PO;go_upto_region 14 with fail
    go_cut [10] from 58 to 60 (fun s10 wx=>∃q2 c2,s10=.slice q2 (mm+ne) c2∧Aside (TBJ w wx F q2 c2 (mm+ne) qt ct tt qv ne cv all evs fg kk 0))
    case first=>
     by_cases he:evs=[]
     ·have hmz:ne=0:=(by rw[←uh.out,he];rfl);subst hmz;have HX:Hid (TBJ w w6 F q' c' (mm+0) qt ct tt qv 0 cv all evs fg kk 0):=by
       have:=zPO he HM.out pw.out PT.out UA.out (by rw[uh.out];exact MY.out)
       rw[uh.out] at this;exact this
      clear he UA MY bo mL Mz HM;go_wp2_with (at_builtin;(refine zDl _ rfl _ _ 29 rfl w.heap.size 40 i0 10 underlying29 HI.out (.slice q' mm c') mm (zAD all) rfl Gv.out qv cv rfl ?_))
      go_wp2_with fail;go_meet
      case rel=>exact⟨q',c',rfl,HX.out⟩
     ·obtain⟨g2,off2,hqv,Pb⟩:∃g2 off2,qv=some ⟨g2,off2,none⟩∧∀j u,(zAD evs)[j]?=some u→w6.cell? ((⟨g2,off2,none⟩:Addr).add j)=some u:=by
       rcases MY.out.2 with ⟨hv,hl⟩|⟨g2,off2,cap2,cur2,hv,-,-,-⟩
       ·exact absurd (List.eq_nil_of_length_eq_zero (uh.out.trans hl)) he
       ·cases hv;refine⟨g2,off2,rfl,fun j u hu=>?_⟩
        rw[Addr.add_lit];exact(OwnM.cells MY.out).1 j u hu
      subst hqv;have C5:=hidT Pb;have EM:(zAD evs).length=ne*10:=(by rw[zKs,uh.out]);have HNL:=hidT EM;clear Pb he EM;go_wp2_with (at_builtin;(refine wAe _ rfl _ _ 29 rfl w.heap.size 40 i0 zMs 10 80 underlying29 HI.out gE gu gA rfl (.slice q' mm c') mm (zAD all) rfl Gv.out ⟨g2,off2,none⟩ ne cv (zAD evs) rfl HNL.out C5.out (zKq evs) ?c3 ?c4 ?c5 ?_))
      case c3=>have h1:=pw.out;have h2:=Mz.out;have h3:=HK.out;have h4:=uh.out;rw[jE] at h2;clear ei;unfold maxLen;omega
      case c4=>have h1:=pw.out;have h2:=Mz.out;have h3:=HK.out;have h4:=uh.out;rw[jE] at h2;clear ei;omega
      case c5=>exact mL.out
      intro v' w' gy Hy Gm;obtain⟨q2,c2,gU⟩:=OwnM.form gy;subst gU;have HX:Hid (TBJ w w' F q2 c2 (mm+ne) qt ct tt (some ⟨g2,off2,none⟩) ne cv all evs fg kk 0):=zRQ HM.out pw.out uh.out.symm PT.out UA.out MY.out bo.out gy Hy;clear gy Hy Gm UA MY bo mL Mz HM Gv C5 HNL;go_wp2_with fail;go_meet
      case rel=>exact⟨q2,c2,rfl,HX.out⟩
    case rest=>
    obtain⟨q2,c2,rfl,HX⟩:=hcut;obtain⟨M,hM⟩:∃M,mm+ne=M:=⟨_,rfl⟩;simp only[hM] at HX ⊢;have hMs:(M:Int)≤900000:=by
     have h1:=pw.out;have h2:=Mz.out;have h3:=HK.out;have h4:=uh.out;rw[jE] at h2;clear ei;omega
    have Bl:=hidT hMs;have HNS:Hid (ne≤M∧ne=evs.length):=⟨by omega,uh.out.symm⟩
    clear HM UA MY bo mL Mz Gv hM pw PT HWR uh hMs;have MZ:=hidT ei;clear ei bP Pq h1z h2z;go_wp2_with fail;go_loopg [11,15] ne (fun gg s11 s15 wr2=>∃ (jj:Nat) (qu:Option Addr) (cu uu:Nat),jj≤ne∧ne - jj≤gg∧s11=.slice qu uu cu∧s15=.int .i64 jj∧Aside (TBJ w wr2 F q2 c2 M qu cu uu qv ne cv all evs fg kk jj))
    case atStart=>exact⟨0,qt,ct,tt,jL _,by omega,rfl,rfl,HX.out⟩
    case round=>
     clear HX;obtain⟨jj,qu,cu,uu,bL,Ge,rfl,rfl,HY⟩:=hrel;have HZ:=hidT HY.out;clear HY;by_cases hlt2:jj<ne
     ·
      have h1y:(jj:Int)<(ne:Int):=(by omega);have h2y:¬((jj:Int)<0):=(by omega);have Gh:jj<evs.length:=(by rw[←HNS.out.2];exact hlt2);have hEL:EL wr (.slice qv ne cv) evs:=zQg (by rw[←HNS.out.2];exact HZ.out.2.2.2.2.2)
      obtain⟨g3,off3,rfl,M6,gL⟩:=hEL.at Gh;have Ux:=hidT Gh;obtain⟨x,hx⟩:∃x,evs[jj]! = x:=⟨_,rfl⟩;rw[hx] at gL;obtain⟨e1,e2,e3,e4,⟨t1,t2,t3,t4,t5,t6⟩⟩:=x;have Gl:=hidT hx;have c0:wr.cell? ⟨g3,off3+jj*10+0,none⟩=some (.int .i64 e1):=gL 0 _ rfl;have c4:wr.cell? ⟨g3,off3+jj*10+4,none⟩=some (.int .i64 t1):=gL 4 _ rfl;have c5:wr.cell? ⟨g3,off3+jj*10+5,none⟩=some (.int .i64 t2):=gL 5 _ rfl;have c6:wr.cell? ⟨g3,off3+jj*10+6,none⟩=some (.int .i64 t3):=gL 6 _ rfl;have c7:wr.cell? ⟨g3,off3+jj*10+7,none⟩=some (.int .i64 t4):=gL 7 _ rfl;have c8:wr.cell? ⟨g3,off3+jj*10+8,none⟩=some (.int .i64 t5):=gL 8 _ rfl;have c9:wr.cell? ⟨g3,off3+jj*10+9,none⟩=some (.int .i64 t6):=gL 9 _ rfl;simp only[Nat.add_zero] at c0;have HEJ:=hidT (zDk jj ne hlt2 (by have:=HNS.out.1;have:=Bl.out;omega))
      have cJ:Hid (jj<ne∧ne - jj≤gk):=⟨hlt2,Ge⟩;have HUU:Hid (uu≤900000):=by
       have a1:=HZ.out.1;have a2:=HZ.out.2.1;have a3:=zCT (all++evs.take jj);have a4:=Bl.out;show _≤_
       rw[jE] at a1;rw[jE,jJ] at a3;omega
      clear gL hx bL Ge hlt2 hEL Gh;by_cases h2:e1=2
      ·subst h2;have PO:Hid (OwnM (wr.alloc (.cells #[.int .i64 t1,.int .i64 t2,.int .i64 t3,.int .i64 t4,.int .i64 t5,.int .i64 t6] 38)) w.heap.size 38 6 (.slice qu uu cu) uu (flatT (trs (all++evs.take jj)))):=by
        have:=OwnM.below HZ.out.2.2.2.1 ((bzR _ _).alloc (nzR _) (.cells #[.int .i64 t1,.int .i64 t2,.int .i64 t3,.int .i64 t4,.int .i64 t5,.int .i64 t6] 38));rw[←HZ.out.2.1] at this;exact this
       have pA:Hid (∀j u,([.int .i64 t1,.int .i64 t2,.int .i64 t3,.int .i64 t4,.int .i64 t5,.int .i64 t6]:List Value)[j]?=some u→(wr.alloc (.cells #[.int .i64 t1,.int .i64 t2,.int .i64 t3,.int .i64 t4,.int .i64 t5,.int .i64 t6] 38)).cell? ((⟨wr.heap.size,0,none⟩:Addr).add j)=some u):=by
        intro j u hu;rw[Addr.add_lit,Nat.zero_add,World.cell?_alloc_at _ _ _ _ rfl];simpa using hu
       have M2:Hid (w.heap.size≤(wr.alloc (.cells #[.int .i64 t1,.int .i64 t2,.int .i64 t3,.int .i64 t4,.int .i64 t5,.int .i64 t6] 38)).heap.size):=jM HZ.out.2.2.1.fl.bel.size (Below.size (B:=wr.heap.size) ((bzR _ _).alloc (nzR _) _));go_wp2_with (at_builtin;(refine wAe _ rfl _ _ 30 rfl w.heap.size 38 j0 zPG 6 48 underlying30 HJ.out hy0 hy1 hy2 rfl (.slice qu uu cu) _ _ rfl PO.out ⟨wr.heap.size,0,none⟩ 1 1 [.int .i64 t1,.int .i64 t2,.int .i64 t3,.int .i64 t4,.int .i64 t5,.int .i64 t6] rfl rfl pA.out (zPM ⟨t1,t2,t3,t4,t5,t6⟩) ?c3 ?c4 ?c5 ?_))
       case c3=>have:=HUU.out;unfold maxLen;omega
       case c4=>have:=HUU.out;omega
       case c5=>have:=M2.out;simpa using this
       intro v' w' gy Hy Gm;obtain⟨q3,c3,gU⟩:=OwnM.form gy;subst gU;have Uh:Hid (TBJ w w' F q2 c2 M q3 c3 (uu+1) (some ⟨g3,off3,none⟩) ne cv all evs fg kk (jj+1)):=zRR HZ.out Ux.out (by rw[Gl.out]) (by rw[Gl.out];exact gy) Hy
       clear gy Hy Gm PO pA M2 HZ;go_wp2_with fail;go_roundg (ne - (jj+1))
       case measure=>have:=cJ.out;omega
       case rel=>exact⟨jj+1,q3,c3,uu+1,cJ.out.1,nzR _,rfl,by first|exact congrArg (Value.int .i64) HEJ.out|go_num,Uh.out⟩
      ·have h2b:(e1 == 2)=false:=(by simp[h2]);have Uh:Hid (TBJ w wr F q2 c2 M qu cu uu (some ⟨g3,off3,none⟩) ne cv all evs fg kk (jj+1)):=tbj_no HZ.out Ux.out (by rw[Gl.out];exact h2)
       clear HZ h2 c4 c5 c6 c7 c8 c9;go_wp2_with fail;go_roundg (ne - (jj+1))
       case measure=>have:=cJ.out;omega
       case rel=>exact⟨jj+1,qu,cu,uu,cJ.out.1,nzR _,rfl,by first|exact congrArg (Value.int .i64) HEJ.out|go_num,Uh.out⟩
     ·have h1y:¬(jj:Int)<(ne:Int):=(by omega);have Uh:Hid (TBI w wr F q2 c2 M qu cu uu (all++evs) fg (kk+1)):=zRS HZ.out (by omega)
      clear bL Ge hlt2 HZ;go_wp2_with fail;go_roundg (40 - (kk+1))
      case measure=>have:=HK.out;omega
      case rel=>exact⟨kk+1,q2,c2,M,qu,cu,uu,all++evs,fg,HK.out.1,HK.out.2.1,nzR _,rfl,rfl,by first|go_num|exact congrArg (Value.int .i64) MZ.out,Uh.out⟩
   ·have Uh:Hid (TBI w w6 F q' c' mm qt ct tt all fg (kk+1)):=⟨pw.out,PT.out,hM.mono (Nat.le_succ kk),zHz mJ.out M7 (by decide)⟩
    clear hM M7 mJ PO;go_wp2_with fail;go_roundg (40 - (kk+1))
    case measure=>have:=HK.out;clear ei;omega
    case rel=>exact⟨kk+1,q',c',mm,qt,ct,tt,all,fg,HK.out.1,HK.out.2.1,nzR _,rfl,rfl,by first|go_num|exact congrArg (Value.int .i64) ei,Uh.out⟩
  ·have Ew:Hid (((kk:Int)<(n:Int)∧¬(kk:Int)<40)∨¬(kk:Int)<(n:Int)):=by
    by_cases h1:kk<n
    ·exact .inl ⟨by omega,by omega⟩
    ·exact .inr (by omega)
   have Ut:=hidT HA.out;have Dt:=hidT CI;clear Hi gd hg CI HA;go_upto_region 10 with fail
   go_cut [44] from 37 to 44 (fun s44 wx=>s44=.bool false∧wx=wr)
   case first=>
    clear Ut Dt;rcases Ew.out with ⟨e1,e2⟩|e1
    ·go_wp2_with fail;go_meet
     case rel=>exact⟨rfl,rfl⟩
    ·go_wp2_with fail;go_meet
     case rel=>exact⟨rfl,rfl⟩
   case rest=>
   obtain⟨rfl,rfl⟩:=hcut;clear Ew;generalize wc=W at *;obtain⟨cc,gL⟩:∃cc,c'=cc:=⟨_,rfl⟩;subst gL;have EJ:(mm:Int)≤900000:=by
    have h1:=Ut.out.1;have h2:=Ut.out.2.2.1.sm;have h3:=Dt.out;omega
   have HEL:Hid (EL W (.slice q' mm c') all):=by
    exact zQg Ut.out.2.2.1.ow
   have G0:Hid (bar.TL W (.slice qt tt ct) (trs all)):=by
    exact own_tl Ut.out.2.2.2
   have Uy:=hidT EJ;clear EJ;by_cases h4:400<mm
   ·have bq:(400:Int)<(mm:Int):=(by omega);have MI:=Ut.out.2.2.1.fl.bel;have gF:=hidT MI;clear MI Ut HEL G0 h4;go_wp2_with fail;go_ret;exact⟨rfl,gF.out⟩
   have bq:¬(400:Int)<(mm:Int):=by omega
   have h4m:all.length≤400:=by have:=Ut.out.1;omega
   have V:=vol_of (l:=all) h4m Ut.out.2.2.1.eb;have dD:=zNn bn h4m Ut.out.2.2.1.eb;have HV:=hidT (zKl _ all W HEL.out);rw[V.1,V.2.1,V.2.2.1,wAa] at HV;have uD:=hidT (fun(U:World) (hU:Bw W U)=>zJd _ (trs all) bn U (G0.out.below hU))
   have bg:=hidT (fun(k:Nat) (hk:1≤k)=>finB h4m Ut.out.2.2.1.eb Ut.out.2.2.1.la hk)
   obtain⟨fv,Uq⟩:=Ut.out.2.2.1.fl.fm;have Uf:=hidT (fun U(hU:Bw W U)=>flr.zPD F f fv U (Uq.below hU))
   have gF:=hidT Ut.out.2.2.1.fl.bel;have PT:=hidT Ut.out.2.1;have gW:=V.2.2.2.2.2;rw[←PT.out] at HV gW;obtain⟨S,hS⟩:∃S,sumQ (trs all)=S:=⟨_,rfl⟩;rw[hS] at HV bg;obtain⟨L,hL⟩:∃L,f.last=L:=⟨_,rfl⟩;rw[hL] at Uf bg;clear Ut HEL G0 V Uq Uy h4m h4;by_cases Hm:1≤bn∧bn≤400
   ·rw[if_pos Hm] at dD;obtain⟨k,rfl⟩:∃k:Nat,bn=(k:Int):=⟨bn.toNat,by omega⟩
    rw[dD,wAa,if_pos (rfl:(0:Int)=0),Int.toNat_natCast] at uD;have HF:=hidT (bg.out k (by omega))
    generalize zAH (trs all) k=BS at *;have Uu:=hidT Hm;clear bg dD Hm;go_wp2_with fail;refine HV.out.mono ?_;rintro e w3⟨rfl,Hr⟩;have B3:=hidT Hr;clear Hr HV;go_wp2_with fail;refine(uD.out w3 B3.out).mono ?_;rintro e w4⟨v',rfl,Er,Gj⟩;have B4:=hidT (B3.out.trans (Gj.mono B3.out.size));obtain⟨q2,c2,rfl,-,-⟩:=Er.form;have UW:=hidT Er;obtain⟨N,hN⟩:∃N,BS.length=N:=⟨_,rfl⟩;have py:=hidT hN;have BZ:N≤400:=(by rw[←hN];exact HF.out.len);simp only[hN] at UW ⊢;clear Gj Er uD B3 hN gW;go_wp2_with fail;go_loopg [16,20] N (fun gg s16 s20 wr=>∃ (jj:Nat) (A:Int),jj≤N∧N - jj≤gg∧s16=.int .i64 A∧s20=.int .i64 jj∧Aside (A=S - sumB (BS.take jj)∧Below w4.heap.size w4 wr))
    case atStart=>exact⟨0,S,jL _,by omega,rfl,rfl,HF.out.start,bzR _ _⟩
    case round=>
     obtain⟨jj,A,bL,hg,rfl,rfl,HA⟩:=hrel;have HW:=hidT HA.out;clear HA;by_cases Hi:jj<N
     ·have Hp:(jj:Int)<(N:Int):=(by omega);have gR:¬((jj:Int)<0):=(by omega);have Hs:jj<BS.length:=(by rw[py.out];exact Hi);obtain⟨g,off,rfl,M6,gL⟩:=(UW.out.below HW.out.2).at Hs;have c4:wr.cell? ⟨g,off+jj*5+4,none⟩=some (.int .i64 (BS[jj]!).q):=gL 4 _ rfl;obtain⟨D,E,hD,hE,mD⟩:=HF.out.step jj Hs;have hAD:=HW.out.1.trans hD;subst hAD;have HE:=hidT hE;have GX:=hidT HW.out.2;have HEJ:=hidT (zDk jj N Hi (by omega))
      have cJ:Hid (jj<N∧N - jj≤gk):=⟨Hi,hg⟩;generalize (BS[jj]!).q=qq at *;have HWR:=hidT mD;clear gL hD hE bL hg Hi Hs HW mD BZ;go_wp2_with fail;go_roundg (N - (jj+1))
      case measure=>have:=cJ.out;omega
      case rel=>exact⟨jj+1,E,cJ.out.1,nzR _,(by first|rfl|exact congrArg (Value.int .i64) HWR.out),(by first|exact congrArg (Value.int .i64) HEJ.out|go_num),HE.out.symm,GX.out⟩
     ·have hje:jj=N:=(by omega);subst hje;have Hp:¬(jj:Int)<(jj:Int):=(by omega);have G2:A=0:=by
       have h1:=HF.out.fin;rw[py.out] at h1;exact HW.out.1.trans h1
      subst G2;have GX:=hidT HW.out.2;have C6:Hid (∀n,Bw W (wr.drewN n)):=fun n=>by
       have hb:=B4.out.trans (GX.out.mono B4.out.size);exact⟨hb.os,hb.tape,hb.output,hb.size,hb.block⟩
      have Dy:=hidT (fun n=>Uf.out (wr.drewN n) (C6.out n))
      have D8:=hidT (fun n=>gF.out.trans ((C6.out n).mono gF.out.size))
      rcases Nat.eq_zero_or_pos jj with hz|hz
      ·have pP:L=0:=HF.out.zero (py.out.trans hz);subst hz pP;clear HW C6 bL hg Hi;go_upto_region 32 with fail
       go_quiet ((go_at_call 9;exact Calls.quiet_of_same (Dy.out _)))
       go_wp2_with fail;go_ret;exact⟨rfl,D8.out _⟩
      ·obtain⟨k2,Gg⟩:∃k2,jj=k2+1:=⟨jj - 1,by omega⟩
       have Hs:k2<BS.length:=(by rw[py.out];omega);obtain⟨g,off,rfl,M6,gL⟩:=(UW.out.below HW.out.2).at Hs;have c3:wr.cell? ⟨g,off+k2*5+3,none⟩=some (.int .i64 (BS[k2]!).c):=gL 3 _ rfl;rw[HF.out.last k2 (py.out.trans Gg)] at c3;have z1:¬((jj:Int)=0):=(by omega);have z2:(0:Int)<(jj:Int):=(by omega);have z3:wrap64 ((jj:Int) - 1)=(k2:Int):=(by unfold wrap64;omega);have z3b:IntKind.i64.wrap ((jj:Int) - 1)=(k2:Int):=(by rw[IntKind.wrap_i64];omega);have z4:¬((k2:Int)<0):=(by omega);have z5:(k2:Int)<(jj:Int):=(by omega);have y1:((jj:Int) == 0)=false:=(by simp;omega);have y2:(jj == 0)=false:=(by simp;omega);have y3:decide (jj=0)=false:=decide_eq_false (by omega)
       have y4:decide ((jj:Int)=0)=false:=decide_eq_false (by omega)
       have y5:decide (0<(jj:Int))=true:=decide_eq_true z2;have y6:decide (0<jj)=true:=decide_eq_true (by omega)
       clear HW C6 bL hg Hi gL Hs hz Gg;go_upto_region 32 with fail
       go_quiet ((go_at_call 9;exact Calls.quiet_of_same (Dy.out _)))
       go_wp2_with fail;go_ret;exact⟨by simp[*],D8.out _⟩
   ·rw[if_neg Hm] at dD;rw[dD,wAb (by decide),if_neg (by decide:¬(1:Int)=0)] at uD
    have hbn2:Hid (bn<1∨¬bn<1∧400<bn):=(by show _∨_;omega);clear bg dD Hm Uf;go_wp2_with fail;refine HV.out.mono ?_;rintro e w3⟨rfl,Hr⟩;have B3:=hidT Hr;clear Hr HV;go_wp2_with fail;refine(uD.out w3 B3.out).mono ?_;rintro e w4⟨v',rfl,-,Gj⟩;have B4:=hidT (gF.out.trans ((B3.out.trans (Gj.mono B3.out.size)).mono gF.out.size));clear Gj uD B3 gF gW;rcases hbn2.out with e1|⟨e1,e2⟩
    ·go_wp2_with fail;go_ret;exact⟨rfl,B4.out⟩
    ·go_wp2_with fail;go_ret;exact⟨by simp[*],B4.out⟩
theorem zNr(m bn:Int)(sq:Option Addr)(n sc:Nat)(zs:List Cm)(w:World)(hS:CL w (.slice sq n sc) zs) :
  Calls prog 3 #[.int .i64 m,.slice sq n sc,.int .i64 bn] w fun e w'=>e=.returned (.bool true)∧Bw w w':=by
 by_cases hm:0≤m∧m≤3
 ·exact zKr m bn sq n sc zs w hS hm.1 hm.2
 ·exact zNq m bn sq n sc w hm
end tap
end Go.Proofs.YtnfilcpnneckkaaGreat
