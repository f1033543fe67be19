import Derived.Test.YtnfilcpnneckkaaGreatOwnGen
set_option maxHeartbeats 4000000
set_option maxRecDepth 100000
namespace Go.Proofs.YtnfilcpnneckkaaGreat
open Tryz
namespace wak
open Go.RowKit spn ord
instance:Inhabited O:=⟨zeroO⟩
def oL(o:O):List Value:=[.int .i64 o.id,.int .i64 o.who,.int .i64 o.side,.int .i64 o.kind,.int .i64 o.price,.int .i64 o.qty,.int .i64 o.shw,.int .i64 o.stop]
def Lies(w:World)(b o:Nat)(zs:List O):Prop:=∀j,j<zs.length→∀i v,(oL zs[j]!)[i]?=some v→w.cell? ⟨b,o+j*8+i,none⟩=some v
def SL(w:World)(v:Value)(zs:List O):Prop:=
 (v=.slice none 0 0∧zs=[])∨∃b o c,v=.slice (some ⟨b,o,none⟩) zs.length c∧zs.length≤c∧c≤9223372036854775807∧b<w.heap.size∧Lies w b o zs
theorem Lies.below{w w' : World}{b o:Nat}{zs:List O}(h:Lies w b o zs)(hb:b<w.heap.size)(hB:Bw w w'):Lies w' b o zs:=
 fun j hj i v hv=>(hB.cell (p:=⟨b,o+j*8+i,none⟩) hb).trans (h j hj i v hv)
theorem SL.below{w w' : World}{v:Value}{zs:List O}(h:SL w v zs)(hB:Bw w w'):SL w' v zs:=by
 rcases h with h|⟨b,o,c,h1,h2,h3,h4,h5⟩
 ·exact .inl h
 ·exact .inr ⟨b,o,c,h1,h2,h3,jC h4 hB.size,h5.below h4 hB⟩
theorem getE{α:Type}[Inhabited α](l:List α)(j:Nat)(h:j<l.length):l[j]! = l[j]:=by simp[h]
def flat(zs:List O):List Value:=zs.flatMap oL
theorem wAm(r:O)(t:List O):flat (r::t)=oL r++flat t:=rfl
theorem wAg(a b:List O):flat (a++b)=flat a++flat b:=by unfold flat;rw[List.flatMap_append]
theorem wAl(zs:List O):(flat zs).length=zs.length*8:=by
 induction zs with
 | nil=>rfl
 | cons r t ih=>rw[wAm,jE,ih,jG];show 8+t.length*8=_;omega
theorem wAA(zs:List O):∀j,j<zs.length→∀i,i<8→(flat zs)[j*8+i]?=(oL zs[j]!)[i]?:=by
 induction zs with
 | nil=>intro j hj;simp at hj
 | cons r t ih=>
  intro j hj i hi;rw[wAm];cases j with
  | zero=>rw[Nat.zero_mul,Nat.zero_add,List.getElem?_append_left (by show i<8;exact hi)];rfl
  | succ j=>
   rw[jV (by show 8≤_;omega)]
   have:(j+1)*8+i - (oL r).length=j*8+i:=by show (j+1)*8+i - 8=_;omega
   rw[this,ih j (by simpa using hj) i hi]
   rfl
theorem wAB(zs:List O):∀u∈flat zs,u.oneCell'=true:=by
 intro u hu;obtain⟨r,_,hr⟩:=List.mem_flatMap.1 hu;simp only[oL,List.mem_cons,List.not_mem_nil,or_false] at hr;rcases hr with rfl|rfl|rfl|rfl|rfl|rfl|rfl|rfl <;>rfl
theorem wAE{w:World}{b o:Nat}{zs:List O}(h:Lies w b o zs):∀j u,(flat zs)[j]?=some u→w.cell? ((⟨b,o,none⟩:Addr).add j)=some u:=by
 intro j u hu;have hj:j<zs.length*8:=by rw[←wAl];exact(List.getElem?_eq_some_iff.1 hu).1
 rw[Addr.add_lit];have e:j=j / 8*8+j % 8:=by omega
 rw[e,wAA zs (j / 8) (by omega) (j % 8) (by omega)] at hu
 have:=h (j / 8) (by omega) (j % 8) u hu
 rw[←this]
 congr 2
 omega
theorem wAI{w:World}{b o:Nat}{zs:List O}(h:∀j u,(flat zs)[j]?=some u→w.cell? ⟨b,o+j,none⟩=some u):Lies w b o zs:=by
 intro j hj i v hv;have hi:i<8:=(List.getElem?_eq_some_iff.1 hv).1;have:=h (j*8+i) v (by rw[wAA zs j hj i hi];exact hv)
 rw[←this,Nat.add_assoc]
abbrev OwnQ(w:World)(base:Nat)(v:Value)(zs:List O):Prop:=OwnM w base 34 8 v zs.length (flat zs)
theorem OwnQ.sl{w:World}{base:Nat}{v:Value}{zs:List O}(h:OwnQ w base v zs):SL w v zs:=by
 rcases h.2 with ⟨rfl,hn⟩|⟨g,off,cap,cur,rfl,hb,hg,GH,gi,Gy,ga⟩
 ·exact .inl ⟨rfl,List.eq_nil_of_length_eq_zero hn⟩
 ·refine .inr ⟨g,off,cap,rfl,GH,by simpa [maxLen] using gi,(gzE.1 hg).1,wAI ?_⟩
  intro j u hu;rw[jZ w g (off+j) cur _ (0,0) hg];rw[←ga,List.getElem?_take] at hu;split at hu
  ·rw[List.getElem?_drop] at hu;simpa using hu
  ·cases hu
def zeroR:Value:=.agg #[.int .i64 0,.int .i64 0,.int .i64 0,.int .i64 0,.int .i64 0,.int .i64 0,.int .i64 0,.int .i64 0]
theorem infoR:(prog.info? 34).map (fun i=>(i.zero,i.size,i.bytes))=some (some zeroR,8,64):=by kernel_rfl
theorem infoR' : ∃i,prog.info? 34=some i∧i.zero=some zeroR∧i.size=8∧i.bytes=64:=by
 have h:=infoR;cases hq:prog.info? 34 with
 | none=>rw[hq] at h;simp at h
 | some i=>
  rw[hq] at h;simp only[Option.map_some,Option.some.injEq,Prod.mk.injEq] at h;exact⟨i,rfl,h.1,h.2.1,h.2.2⟩
theorem zeroVR(w:World):(zeroValue 34).run prog w=.ok zeroR w:=by kernel_rfl
theorem wAS(w:World)(base g off n c i j:Nat)(xs:List Value)(ho:OwnM w base 34 8 (.slice (some ⟨g,off,none⟩) n c) n xs)(hij:i<j)(hj:j≤n)(Mb:∀u∈xs,u.oneCell'=true) :
  Calls prog 100 #[.slice (some ⟨g,off,none⟩) n c,.int .i64 i,.int .i64 j] w fun e w'=>e=.returned (.slice (some ⟨g,off,none⟩) (i+(n - j)) c)∧OwnM w' base 34 8 (.slice (some ⟨g,off,none⟩) (i+(n - j)) c) (i+(n - j)) (xs.take (i*8)++xs.drop (j*8))∧w.grownBy w' (some g):=by
 obtain⟨G7,ud,⟨cur,G5,Gy⟩,GH,gi,uk,uO⟩:=wAk ho;have CC:c≤9223372036854775807:=by simpa [maxLen] using gi
 obtain⟨i0,gY,gE,gu,gA⟩:=infoR';have GS:(xs.drop (j*8)).length=(n - j)*8:=by rw[jQ,G7];omega
 have gW:(xs.take (i*8)).length=i*8:=by rw[jJ,G7];omega
 have gM:xs=xs.take (i*8)++xs.drop (i*8):=(jR _ _).symm;have mF:xs=xs.take (j*8)++xs.drop (j*8):=(jR _ _).symm;have gq:w.rangeAt g off (xs.take (i*8)):=by rw[gM] at uk;exact wAC uk
 have H5:w.rangeAt g (off+j*8) (xs.drop (j*8)):=by
  rw[mF] at uk;have:=wAx uk;rwa [jJ,G7,Nat.min_eq_left (by omega)] at this
 have Gz:∀o k,o+k≤c*8→w.there g (off+o) k:=fun o k hk q hq=>by rw[Nat.add_assoc];exact uO (o+q) (by omega)
 obtain⟨news,Hn⟩:∃news,news=xs.drop (j*8):=⟨_,rfl⟩;obtain⟨A,hA,m6⟩:∃A:Addr,(if c=j then some (⟨g,off,none⟩:Addr) else some ⟨g,off+j*8,none⟩)=some A∧Hid (∀t u,news[t]?=some u→w.drew.cell? (A.add t)=some u):=by
  by_cases h:c=j
  ·refine⟨⟨g,off,none⟩,by simp[h],fun t u hu=>?_⟩
   have h0:news.length=0:=by rw[Hn,GS];omega
   rw[List.length_eq_zero_iff.1 h0] at hu;simp at hu
  ·refine⟨⟨g,off+j*8,none⟩,by simp[h],fun t u hu=>?_⟩
   rw[Addr.add_lit];rw[Hn] at hu;exact H5 t u hu
 have s1:Hid (news.length=(n - j)*8):=by show _=_;rw[Hn,GS]
 have s2:Hid (∀u∈news,u.oneCell'=true):=fun u hu=>Mb u (List.mem_of_mem_drop (by rw[Hn] at hu;exact hu))
 have s3:Hid (∀t,t<news.length→(w.drew.cell? ⟨g,off+i*8+t,none⟩).isSome=true∧w.drew.frozen? ⟨g,off+i*8+t,none⟩=false):=fun t ht=>by
  have PB:t<(n - j)*8:=by rw[Hn,GS] at ht;exact ht
  exact Gz (i*8) ((n - j)*8) (by omega) t PB
 obtain⟨W1,H7⟩:∃W1,W1=w.drew.setCells g (off+i*8) news:=⟨_,rfl⟩;have GI:∀o k,o+k≤c*8→W1.there g (off+o) k:=fun o k hk=>by rw[H7];exact World.there_setCells ((World.there_drew _ _ _ _).2 (Gz o k hk)) _ _ _
 have U8:∀ty,(Builtin.clear_ #[91] ty #[.slice (some ⟨g,off+(i+(n - j))*8,none⟩) (n - (i+(n - j))) (c - (i+(n - j)))]).run prog W1=.ok (.tuple #[]) (W1.setCells g (off+(i+(n - j))*8) (Builtin.zeroCells zeroR.cells (n - (i+(n - j)))).toList):=
  fun ty=>wAy W1 _ _ ty zeroR 8 underlying91 zeroVR rfl (by simp[zeroR,Value.cells,Value.oneCell']) g _ _ _ (by omega) (GI _ _ (by omega))
 have Hw:Hid (OwnM (W1.setCells g (off+(i+(n - j))*8) (Builtin.zeroCells zeroR.cells (n - (i+(n - j)))).toList) base 34 8 (.slice (some ⟨g,off,none⟩) (i+(n - j)) c) (i+(n - j)) (xs.take (i*8)++xs.drop (j*8))∧w.grownBy (W1.setCells g (off+(i+(n - j))*8) (Builtin.zeroCells zeroR.cells (n - (i+(n - j)))).toList) (some g)):=by
  obtain⟨cur1,Hc,Hl⟩:=wAi g 34 (0,0) news (off+i*8) w.drew cur G5;rw[←H7] at Hc;obtain⟨cur2,Ha,H9⟩:=wAi g 34 (0,0) (Builtin.zeroCells zeroR.cells (n - (i+(n - j)))).toList (off+(i+(n - j))*8) W1 cur1 Hc;refine⟨wAO ?_ ud Ha (by rw[H9,Hl];exact Gy) (by omega) gi ?_,?_⟩
  ·rw[jE,gW,GS];omega
  ·refine wAq ?_ ?_
   ·refine World.rangeAt_setCells_apart ?_ _ _ _ (.inr (.inl (by rw[gW];omega)))
    rw[H7];exact World.rangeAt_setCells_apart ((World.rangeAt_drew _ _ _ _).2 gq) _ _ _ (.inr (.inl (by rw[gW];omega)))
   ·rw[gW];refine World.rangeAt_setCells_apart ?_ _ _ _ (.inr (.inl (by rw[GS];omega)))
    rw[H7,Hn];exact World.rangeAt_setCells_same _ _ _ _ ((World.there_drew _ _ _ _).2 (Gz _ _ (by rw[GS];omega)))
  ·rw[H7];exact wAd (wAd (wAH _ _) (wAh g _ _ _)) (wAh g _ _ _)
 have hW:Hid (W1=w.drew.setCells g (off+i*8) news):=H7;obtain⟨W2,gb⟩:∃W2,W2=W1.setCells g (off+(i+(n - j))*8) (Builtin.zeroCells zeroR.cells (n - (i+(n - j)))).toList:=⟨_,rfl⟩;rw[←gb] at Hw;simp only[←gb] at U8;clear gb;have hic:i≤c:=by omega
 have hjc:j≤c:=by omega
 have H8:¬((i:Int)=(j:Int)):=by omega
 have MP:¬(i=j):=by omega
 clear H7 ho G7 G5 Gy uk uO GS gW gM mF gq H5 Gz GI Hn Mb gi ud gE gA;go_enter func100,ntmps100;go_wp2_with fail
 go_region_law (refine step_append_room rfl (.tmp 22) (.tmp 25) 91 rfl 34 i0 8 underlying91 gY gu g off i c (by simp[Act.eval,Act.put]) A (n - j) (c - j) news (by simp[Act.eval,Act.put]) s1.out m6.out s2.out (by omega) s3.out ?_;rw[←hW.out])
 go_wp2
 go_ret;exact⟨rfl,Hw.out⟩
def idx(id:Int):List O→Int
 | []=>-1
 | r::t=>if r.id=id then 0 else if idx id t<0 then -1 else idx id t+1
def has(id:Int)(zs:List O):Bool:=zs.any (fun r=>decide (r.id=id))
theorem wAX(id:Int)(zs:List O) : -1≤idx id zs:=by
 induction zs with
 | nil=>simp[idx]
 | cons r t ih=>unfold idx;split;omega;split <;>omega
theorem wBj(id:Int)(zs:List O):idx id zs<zs.length:=by
 induction zs with
 | nil=>simp[idx]
 | cons r t ih=>unfold idx;rw[jG];split;omega;split <;>omega
theorem wAL(id:Int)(r:O)(t:List O):idx id (r::t)=if r.id=id then 0 else if idx id t<0 then -1 else idx id t+1:=rfl
theorem idxFrom(id:Int)(x:O)(zs:List O):∀i,Lib.idxByFrom (fun _ y=>decide (y.id=id)) x zs i=if idx id zs<0 then -1 else (i:Int)+idx id zs:=by
 induction zs with
 | nil=>intro i;rfl
 | cons r t ih=>
  intro i;have:=wAX id t;show (if decide (r.id=id)=true then (i:Int) else Lib.idxByFrom (fun _ y=>decide (y.id=id)) x t (i+1))=_
  rw[ih,wAL];by_cases h:r.id=id
  ·rw[if_pos (decide_eq_true h),if_pos h,if_neg (by omega),Int.add_zero]
  ·rw[if_neg (by simpa using h),if_neg h]
   by_cases h2:idx id t<0
   ·rw[if_pos h2,if_pos h2,if_pos (by omega)]
   ·rw[if_neg h2,if_neg h2,if_neg (by omega)];omega
theorem wAK(id:Int)(x:O)(zs:List O):Lib.idxBy (fun _ y=>decide (y.id=id)) zs x=idx id zs:=by
 have:=wAX id zs;unfold Lib.idxBy;rw[idxFrom];split <;>omega
theorem wAU(id:Int)(B:Nat)(w:World)(hB:B<w.heap.size)(hc:w.cell? ⟨B,0,none⟩=some (.int .i64 id)) :
  PredBelow prog 134 #[.pointer (some ⟨B,0,none⟩)] (fun x=>.agg (oL x).toArray) (fun x=>decide (x.id=id)) w:=by
 intro W x hb;obtain⟨a,b,c,d,e,f,g,h⟩:=x;show Calls prog 134 #[.agg #[.int .i64 a,.int .i64 b,.int .i64 c,.int .i64 d,.int .i64 e,.int .i64 f,.int .i64 g,.int .i64 h],.pointer (some ⟨B,0,none⟩)] W _
 have mT:=zAa hb hc;have hz:B<W.heap.size:=jC hB hb.size;go_enter func134,ntmps134
 go_wp2
 go_ret;exact⟨rfl,hb.alloc hb.size _⟩
structure St (w:World) (b p:Nat) (v:Value) (os:List O):Prop where
 blk:w.heap[p]?=some (.cells #[v] 93 (0,0))
 le:b≤p
 own:OwnQ w b v os
theorem St.lt{w:World}{b p:Nat}{v:Value}{os:List O}(h:St w b p v os):p<w.heap.size:=(gzE.1 h.blk).1
theorem St.cell{w:World}{b p:Nat}{v:Value}{os:List O}(h:St w b p v os):w.cell? ⟨p,0,none⟩=some v:=by simp[World.cell?,h.blk]
theorem St.below{w w' : World}{b p:Nat}{v:Value}{os:List O}(h:St w b p v os)(hB:Bw w w'):St w' b p v os:=
 ⟨(hB.block p h.lt).trans h.blk,h.le,h.own.below hB⟩
theorem zOL(B:Nat)(W:World):Calls prog 133 #[.slice none 0 0,.func (.func 134) #[] #[.pointer (some ⟨B,0,none⟩)]] W fun e w'=>e=.returned (.int .i64 (-1))∧Bw W w':=by
 go_enter func133,ntmps133
 go_wp2
 go_loopg [5,8] 0 (fun _ _ s8 wr=>s8=.int .i64 0∧wr=W)
 case atStart=>exact⟨rfl,rfl⟩
 case round=>
  obtain⟨rfl,rfl⟩:=hrel
  go_wp2
  go_ret;exact⟨rfl,bzR _ _⟩
theorem zOM(id:Int)(v:Value)(zs:List O)(w:World)(B:Nat)(hB:B<w.heap.size)(hc:w.cell? ⟨B,0,none⟩=some (.int .i64 id))(h:SL w v zs) :
  Calls prog 133 #[v,.func (.func 134) #[] #[.pointer (some ⟨B,0,none⟩)]] w fun e w'=>e=.returned (.int .i64 (idx id zs))∧Bw w w':=by
 rcases h with ⟨rfl,rfl⟩|⟨b,o,c,rfl,h2,h3,h4,h5⟩
 ·exact zOL B w
 ·have eg:∀args w,(callFunc 134 args).run prog w=.ok (.enter 134 args) w:=enters_of func134 (by kernel_rfl) rfl
  have Hf:=AnyQ.slices_IndexFunc Tryz.lq6o 8 isAgg34 sizeOf34 oL (fun x=>rfl) (fun x=>decide (x.id=id)) 134 #[.pointer (some ⟨B,0,none⟩)] eg b o zs.length c zs
   w (wAU id B w hB hc) (nzR _) (by omega) h4 h5
  change Calls prog 133 _ _ _ at Hf
  rw[List.take_length,wAK] at Hf;exact Hf
theorem wAr(id:Int)(b p:Nat)(v:Value)(os:List O)(w:World)(h:St w b p v os) :
  Calls prog 99 #[.pointer (some ⟨p,0,none⟩),.int .i64 id] w fun e w'=>e=.returned (.int .i64 (idx id os))∧Bw w w':=by
 have hB:Bw w (w.alloc (.cells #[.int .i64 id] 3)):=(bzR _ _).alloc (nzR _) _;have hs:=h.below hB;have Hf:=zOM id v os _ w.heap.size (by simp) (by simp[go_sem]) (hs.own.sl)
 have hc:=hs.cell;have hp:p<w.heap.size+1:=by have:=h.lt;omega
 generalize idx id os=k at *;clear h hs;go_enter func99,ntmps99;go_wp2_with (go_at_call 133;refine Hf.mono ?_;rintro e w' ⟨rfl,Uo⟩)
 go_ret;exact⟨rfl,hB.trans (Uo.mono (by simp))⟩
end wak
namespace wak
open ord Go.Sort
section
variable {α:Type}(lt:α→α→Bool)
def insR(x:α):List α→List α
 | []=>[x]
 | y::t=>if lt x y=true then y::insR x t else x::y::t
def isort(l:List α):List α:=(l.foldl (fun a x=>insR lt x a) []).reverse
theorem zON(x:α)(l:List α):(insR lt x l).length=l.length+1:=by
 induction l with
 | nil=>rfl
 | cons y t ih=>
  unfold insR;split
  ·simp[ih]
  ·simp
theorem zLX(x:α)(l:List α):(insR lt x l).Perm (x::l):=by
 induction l with
 | nil=>exact List.Perm.refl _
 | cons y t ih=>
  unfold insR;split
  ·exact(ih.cons y).trans (List.Perm.swap x y t)
  ·exact List.Perm.refl _
theorem zLY(q acc:List α):(q.foldl (fun a x=>insR lt x a) acc).Perm (acc++q):=by
 induction q generalizing acc with
 | nil=>simp
 | cons x q ih=>
  rw[List.foldl_cons];refine(ih _).trans ?_;refine((zLX lt x acc).append_right q).trans ?_;exact List.perm_middle.symm
theorem zDu(l:List α):(isort lt l).Perm l:=by
 unfold isort;refine(List.reverse_perm _).trans ?_;simpa using zLY lt l []
theorem zGS(l:List α):(isort lt l).length=l.length:=(zDu lt l).length_eq
section
variable [Inhabited α]
theorem zPY(p:List α)(y:α)(q:List α):(p++y::q).toArray[p.length]! = y:=by simp
theorem zII(p:List α)(y x:α)(q:List α):(p++y::x::q).toArray[p.length+1]! = x:=by
 simp
theorem zOO(p:List α)(y x:α)(q:List α):swp (p++y::x::q).toArray (p.length+1) p.length=(p++x::y::q).toArray:=by
 unfold swp;rw[zPY,zII];apply Array.toList_inj.1;simp only[Array.toList_setIfInBounds];rw[List.set_append_right _ _ (by omega),List.set_append_right _ _ (by omega)]
 simp
theorem zJQ(acc:List α)(x:α)(q:List α):insInner lt 0 acc.length (acc.reverse++x::q).toArray=((insR lt x acc).reverse++q).toArray:=by
 induction acc generalizing q with
 | nil=>simp[insInner,insR]
 | cons y t ih=>
  have e:((y::t).reverse++x::q)=t.reverse++y::x::q:=by simp
  rw[e,jG];unfold insInner;have h1:=zII t.reverse y x q;have h2:=zPY t.reverse y (x::q);have h3:=zOO t.reverse y x q;rw[List.length_reverse] at h1 h2 h3;rw[h1,h2,h3];unfold insR;by_cases h:lt x y=true
  ·have hd:(decide (t.length+1>0) && lt x y)=true:=by simp[h]
   rw[if_pos hd,if_pos h,ih];simp
  ·have hd:¬(decide (t.length+1>0) && lt x y)=true:=by simpa using h
   rw[if_neg hd,if_neg h];simp
theorem zJR(q acc:List α):insOuter lt 0 (acc.length+q.length) acc.length (acc.reverse++q).toArray=((q.foldl (fun a x=>insR lt x a) acc).reverse).toArray:=by
 induction q generalizing acc with
 | nil=>unfold insOuter;simp
 | cons x q ih=>
  unfold insOuter;rw[if_pos (by simp),zJQ,List.foldl_cons]
  have:=ih (insR lt x acc);rw[zON] at this;rw[jG,show acc.length+(q.length+1)=acc.length+1+q.length by omega]
  exact this
theorem zLZ(l:List α):insertionSort lt l.toArray 0 l.length=(isort lt l).toArray:=by
 unfold insertionSort isort;cases l with
 | nil=>unfold insOuter;simp
 | cons x q=>
  have:=zJR lt q [x];simp only[jG,List.length_nil,Nat.zero_add,List.reverse_cons,List.reverse_nil,jU,List.cons_append] at this;rw[List.foldl_cons,jG,show q.length+1=1+q.length by omega]
  exact this
end
variable {lt}
end
def cf(a b:O):Int:=if a.side=b.side then (if a.side=1 then Lib.compareInt a.stop b.stop else Lib.compareInt b.stop a.stop) else Lib.compareInt a.side b.side
theorem zMa(x y:Int):Lib.compareInt x y<0↔x<y:=by unfold Lib.compareInt;split <;>(try split) <;>omega
theorem zPZ(a b:O):ltOf cf a b=true↔(a.side<b.side∨(a.side=b.side∧((a.side=1∧a.stop<b.stop)∨(a.side≠1∧b.stop<a.stop)))):=by
 unfold ltOf cf;rw[decide_eq_true_iff];by_cases h:a.side=b.side
 ·rw[if_pos h];by_cases h1:a.side=1
  ·rw[if_pos h1,zMa];omega
  ·rw[if_neg h1,zMa];omega
 ·rw[if_neg h,zMa];omega
theorem lt_no(a b:O):ltOf cf a b=false↔¬(a.side<b.side∨(a.side=b.side∧((a.side=1∧a.stop<b.stop)∨(a.side≠1∧b.stop<a.stop)))):=by
 rw[←zPZ];simp
theorem cf_swo:SWO (ltOf cf):=by
 refine⟨fun x=>?_,fun x y z h1 h2=>?_,fun x y z h1 h2=>?_⟩
 ·rw[lt_no];omega
 ·rw[zPZ] at *;omega
 ·rw[lt_no] at *;omega
def wkB(p:Int)(o:O):Bool:=if o.side=1 then decide (o.stop≤p) else decide (p≤o.stop)
def zst(o:O):O:={ o with stop:=0 }
def srt(p:Int)(os:List O):List O:=isort (ltOf cf) (os.filter (wkB p))
def woke(p:Int)(os:List O):List O:=(srt p os).map zst
def left(p:Int)(os:List O):List O:=os.filter (fun o=>!wkB p o)
theorem zMb(p:Int)(os:List O):(srt p os).length=(os.filter (wkB p)).length:=zGS _ _
theorem zOP(p:Int)(os:List O):(woke p os).length=(os.filter (wkB p)).length:=by unfold woke;rw[jP,zMb]
theorem zIJ(p:Int)(os:List O):(woke p os).length+(left p os).length=os.length:=by
 rw[zOP,left];induction os with
 | nil=>rfl
 | cons o t ih=>
  cases h:wkB p o
  ·rw[List.filter_cons_of_neg (by simp[h]),List.filter_cons_of_pos (by simp[h]),jG,jG];omega
  ·rw[List.filter_cons_of_pos (by simp[h]),List.filter_cons_of_neg (by simp[h]),jG,jG];omega
end wak
end Go.Proofs.YtnfilcpnneckkaaGreat
