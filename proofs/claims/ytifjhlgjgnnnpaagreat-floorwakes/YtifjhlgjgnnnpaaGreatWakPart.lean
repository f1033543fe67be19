import Derived.Test.YtifjhlgjgnnnpaaGreatOwnGen
import Derived.Deep.RegionLaw
set_option maxHeartbeats 4000000
set_option maxRecDepth 100000
namespace Go.Proofs.YtifjhlgjgnnnpaaGreat
namespace wak
open Go.RowKit spn ord
instance:Inhabited O:=⟨zeroO⟩
def oL(o:O):List Value:=[.int .i64 o.id,.int .i64 o.who,.int .i64 o.side,.int .i64 o.kind,.int .i64 o.price,.int .i64 o.qty,.int .i64 o.shw,.int .i64 o.stop]
def Lies(w:World)(b o:Nat)(zs:List O):Prop:=∀j,j<zs.length→∀i v,(oL zs[j]!)[i]?=some v→w.cell? ⟨b,o+j*8+i,none⟩=some v
def SL(w:World)(v:Value)(zs:List O):Prop:=
 (v=.slice none 0 0∧zs=[])∨∃b o c,v=.slice (some ⟨b,o,none⟩) zs.length c∧zs.length≤c∧c≤9223372036854775807∧b<w.heap.size∧Lies w b o zs
theorem Lies.below{w w' : World}{b o:Nat}{zs:List O}(h:Lies w b o zs)(hb:b<w.heap.size)(hB:Below w.heap.size w w'):Lies w' b o zs:=
 fun j hj i v hv=>(hB.cell (p:=⟨b,o+j*8+i,none⟩) hb).trans (h j hj i v hv)
theorem SL.below{w w' : World}{v:Value}{zs:List O}(h:SL w v zs)(hB:Below w.heap.size w w'):SL w' v zs:=by
 rcases h with h|⟨b,o,c,h1,h2,h3,h4,h5⟩
 ·exact .inl h
 ·exact .inr ⟨b,o,c,h1,h2,h3,Nat.lt_of_lt_of_le h4 hB.size,h5.below h4 hB⟩
theorem getE{α:Type}[Inhabited α](l:List α)(j:Nat)(h:j<l.length):l[j]! = l[j]:=by simp[h]
def flat(zs:List O):List Value:=zs.flatMap oL
theorem flat_cons(r:O)(t:List O):flat (r::t)=oL r++flat t:=rfl
theorem flat_append(a b:List O):flat (a++b)=flat a++flat b:=by unfold flat;rw[List.flatMap_append]
theorem flat_len(zs:List O):(flat zs).length=zs.length*8:=by
 induction zs with
 | nil=>rfl
 | cons r t ih=>rw[flat_cons,List.length_append,ih,List.length_cons];show 8+t.length*8=_;omega
theorem flat_get(zs:List O):∀j,j<zs.length→∀i,i<8→(flat zs)[j*8+i]?=(oL zs[j]!)[i]?:=by
 induction zs with
 | nil=>intro j hj;simp at hj
 | cons r t ih=>
  intro j hj i hi
  rw[flat_cons]
  cases j with
  | zero=>rw[Nat.zero_mul,Nat.zero_add,List.getElem?_append_left (by show i<8;exact hi)];rfl
  | succ j=>
   rw[List.getElem?_append_right (by show 8≤_;omega)]
   have:(j+1)*8+i - (oL r).length=j*8+i:=by show (j+1)*8+i - 8=_;omega
   rw[this,ih j (by simpa using hj) i hi]
   rfl
theorem flat_one(zs:List O):∀u∈flat zs,u.oneCell'=true:=by
 intro u hu
 obtain⟨r,_,hr⟩:=List.mem_flatMap.1 hu
 simp only[oL,List.mem_cons,List.not_mem_nil,or_false] at hr
 rcases hr with rfl|rfl|rfl|rfl|rfl|rfl|rfl|rfl <;>rfl
theorem lies_flat{w:World}{b o:Nat}{zs:List O}(h:Lies w b o zs):∀j u,(flat zs)[j]?=some u→w.cell? ((⟨b,o,none⟩:Addr).add j)=some u:=by
 intro j u hu
 have hj:j<zs.length*8:=by rw[←flat_len];exact(List.getElem?_eq_some_iff.1 hu).1
 rw[Addr.add_lit]
 have e:j=j / 8*8+j % 8:=by omega
 rw[e,flat_get zs (j / 8) (by omega) (j % 8) (by omega)] at hu
 have:=h (j / 8) (by omega) (j % 8) u hu
 rw[←this]
 congr 2
 omega
theorem flat_lies{w:World}{b o:Nat}{zs:List O}(h:∀j u,(flat zs)[j]?=some u→w.cell? ⟨b,o+j,none⟩=some u):Lies w b o zs:=by
 intro j hj i v hv
 have hi:i<8:=(List.getElem?_eq_some_iff.1 hv).1
 have:=h (j*8+i) v (by rw[flat_get zs j hj i hi];exact hv)
 rw[←this,Nat.add_assoc]
abbrev OwnQ(w:World)(base:Nat)(v:Value)(zs:List O):Prop:=OwnM w base 32 8 v zs.length (flat zs)
theorem OwnQ.sl{w:World}{base:Nat}{v:Value}{zs:List O}(h:OwnQ w base v zs):SL w v zs:=by
 rcases h.2 with ⟨rfl,hn⟩|⟨g,off,cap,cur,rfl,hb,hg,hnc,hcm,hcs,htake⟩
 ·exact .inl ⟨rfl,List.eq_nil_of_length_eq_zero hn⟩
 ·refine .inr ⟨g,off,cap,rfl,hnc,by simpa [maxLen] using hcm,(gzE.1 hg).1,flat_lies ?_⟩
  intro j u hu
  rw[cell_of_row w g (off+j) cur _ (0,0) hg]
  rw[←htake,List.getElem?_take] at hu
  split at hu
  ·rw[List.getElem?_drop] at hu;simpa using hu
  ·cases hu
def zeroR:Value:=.agg #[.int .i64 0,.int .i64 0,.int .i64 0,.int .i64 0,.int .i64 0,.int .i64 0,.int .i64 0,.int .i64 0]
theorem infoR:(Tryz.prog.info? 32).map (fun i=>(i.zero,i.size,i.bytes))=some (some zeroR,8,64):=by kernel_rfl
theorem infoR' : ∃i,Tryz.prog.info? 32=some i∧i.zero=some zeroR∧i.size=8∧i.bytes=64:=by
 have h:=infoR
 cases hq:Tryz.prog.info? 32 with
 | none=>rw[hq] at h;simp at h
 | some i=>
  rw[hq] at h
  simp only[Option.map_some,Option.some.injEq,Prod.mk.injEq] at h
  exact⟨i,rfl,h.1,h.2.1,h.2.2⟩
theorem zeroVR(w:World):(zeroValue 32).run Tryz.prog w=.ok zeroR w:=by kernel_rfl
theorem delete_own(w:World)(base g off n c i j:Nat)(xs:List Value)(ho:OwnM w base 32 8 (.slice (some ⟨g,off,none⟩) n c) n xs)(hij:i<j)(hj:j≤n)(h1x:∀u∈xs,u.oneCell'=true) :
  Calls Tryz.prog 108 #[.slice (some ⟨g,off,none⟩) n c,.int .i64 i,.int .i64 j] w fun e w'=>e=.returned (.slice (some ⟨g,off,none⟩) (i+(n - j)) c)∧OwnM w' base 32 8 (.slice (some ⟨g,off,none⟩) (i+(n - j)) c) (i+(n - j)) (xs.take (i*8)++xs.drop (j*8))∧w.grownBy w' (some g):=by
 obtain⟨hxl,hbg,⟨cur,hcur,hcs⟩,hnc,hcm,hrg,hth⟩:=own_range ho
 have hc63:c≤9223372036854775807:=by simpa [maxLen] using hcm
 obtain⟨i0,hi0,hz0,hz1,hz2⟩:=infoR'
 have hdl:(xs.drop (j*8)).length=(n - j)*8:=by rw[List.length_drop,hxl];omega
 have htl:(xs.take (i*8)).length=i*8:=by rw[List.length_take,hxl];omega
 have hx1:xs=xs.take (i*8)++xs.drop (i*8):=(List.take_append_drop _ _).symm
 have hx2:xs=xs.take (j*8)++xs.drop (j*8):=(List.take_append_drop _ _).symm
 have hr1:w.rangeAt g off (xs.take (i*8)):=by rw[hx1] at hrg;exact range_left hrg
 have hr2:w.rangeAt g (off+j*8) (xs.drop (j*8)):=by
  rw[hx2] at hrg;have:=range_right hrg;rwa [List.length_take,hxl,Nat.min_eq_left (by omega)] at this
 have hthX:∀o k,o+k≤c*8→w.there g (off+o) k:=fun o k hk q hq=>by rw[Nat.add_assoc];exact hth (o+q) (by omega)
 obtain⟨news,hnews⟩:∃news,news=xs.drop (j*8):=⟨_,rfl⟩
 obtain⟨A,hA,hsrc⟩:∃A:Addr,(if c=j then some (⟨g,off,none⟩:Addr) else some ⟨g,off+j*8,none⟩)=some A∧Hid (∀t u,news[t]?=some u→w.drew.cell? (A.add t)=some u):=by
  by_cases h:c=j
  ·refine⟨⟨g,off,none⟩,by simp[h],fun t u hu=>?_⟩
   have h0:news.length=0:=by rw[hnews,hdl];omega
   rw[List.length_eq_zero_iff.1 h0] at hu
   simp at hu
  ·refine⟨⟨g,off+j*8,none⟩,by simp[h],fun t u hu=>?_⟩
   rw[Addr.add_lit]
   rw[hnews] at hu
   exact hr2 t u hu
 have s1:Hid (news.length=(n - j)*8):=by show _=_;rw[hnews,hdl]
 have s2:Hid (∀u∈news,u.oneCell'=true):=fun u hu=>h1x u (List.mem_of_mem_drop (by rw[hnews] at hu;exact hu))
 have s3:Hid (∀t,t<news.length→(w.drew.cell? ⟨g,off+i*8+t,none⟩).isSome=true∧w.drew.frozen? ⟨g,off+i*8+t,none⟩=false):=fun t ht=>by
  have ht2:t<(n - j)*8:=by rw[hnews,hdl] at ht;exact ht
  exact hthX (i*8) ((n - j)*8) (by omega) t ht2
 obtain⟨W1,hW1⟩:∃W1,W1=w.drew.setCells g (off+i*8) news:=⟨_,rfl⟩
 have hth1:∀o k,o+k≤c*8→W1.there g (off+o) k:=fun o k hk=>by rw[hW1];exact World.there_setCells ((World.there_drew _ _ _ _).2 (hthX o k hk)) _ _ _
 have hcl:∀ty,(Builtin.clear_ #[57] ty #[.slice (some ⟨g,off+(i+(n - j))*8,none⟩) (n - (i+(n - j))) (c - (i+(n - j)))]).run Tryz.prog W1=.ok (.tuple #[]) (W1.setCells g (off+(i+(n - j))*8) (Builtin.zeroCells zeroR.cells (n - (i+(n - j)))).toList):=
  fun ty=>run_clear_wide W1 _ _ ty zeroR 8 Tryz.underlying57 zeroVR rfl (by simp[zeroR,Value.cells,Value.oneCell']) g _ _ _ (by omega) (hth1 _ _ (by omega))
 have HPOST:Hid (OwnM (W1.setCells g (off+(i+(n - j))*8) (Builtin.zeroCells zeroR.cells (n - (i+(n - j)))).toList) base 32 8 (.slice (some ⟨g,off,none⟩) (i+(n - j)) c) (i+(n - j)) (xs.take (i*8)++xs.drop (j*8))∧w.grownBy (W1.setCells g (off+(i+(n - j))*8) (Builtin.zeroCells zeroR.cells (n - (i+(n - j)))).toList) (some g)):=by
  obtain⟨cur1,hb1,hs1⟩:=setCells_blk g 32 (0,0) news (off+i*8) w.drew cur hcur
  rw[←hW1] at hb1
  obtain⟨cur2,hb2,hs2⟩:=setCells_blk g 32 (0,0) (Builtin.zeroCells zeroR.cells (n - (i+(n - j)))).toList (off+(i+(n - j))*8) W1 cur1 hb1
  refine⟨own_of ?_ hbg hb2 (by rw[hs2,hs1];exact hcs) (by omega) hcm ?_,?_⟩
  ·rw[List.length_append,htl,hdl];omega
  ·refine range_append ?_ ?_
   ·refine World.rangeAt_setCells_apart ?_ _ _ _ (.inr (.inl (by rw[htl];omega)))
    rw[hW1]
    exact World.rangeAt_setCells_apart ((World.rangeAt_drew _ _ _ _).2 hr1) _ _ _ (.inr (.inl (by rw[htl];omega)))
   ·rw[htl]
    refine World.rangeAt_setCells_apart ?_ _ _ _ (.inr (.inl (by rw[hdl];omega)))
    rw[hW1,hnews]
    exact World.rangeAt_setCells_same _ _ _ _ ((World.there_drew _ _ _ _).2 (hthX _ _ (by rw[hdl];omega)))
  ·rw[hW1]
   exact gr_trans (gr_trans (gr_drew _ _) (gr_setCells g _ _ _)) (gr_setCells g _ _ _)
 have hW:Hid (W1=w.drew.setCells g (off+i*8) news):=hW1
 obtain⟨W2,hW2⟩:∃W2,W2=W1.setCells g (off+(i+(n - j))*8) (Builtin.zeroCells zeroR.cells (n - (i+(n - j)))).toList:=⟨_,rfl⟩
 rw[←hW2] at HPOST
 simp only[←hW2] at hcl
 clear hW2
 have hic:i≤c:=by omega
 have hjc:j≤c:=by omega
 have hne:¬((i:Int)=(j:Int)):=by omega
 have hne2:¬(i=j):=by omega
 clear hW1 ho hxl hcur hcs hrg hth hdl htl hx1 hx2 hr1 hr2 hthX hth1 hnews h1x hcm hbg hz0 hz2
 go_enter Tryz.func108,Tryz.ntmps108
 go_wp2_with fail
 go_region_law (refine step_append_room rfl (.tmp 22) (.tmp 25) 57 rfl 32 i0 8 Tryz.underlying57 hi0 hz1 g off i c (by simp[Act.eval,Act.put]) A (n - j) (c - j) news (by simp[Act.eval,Act.put]) s1.out hsrc.out s2.out (by omega) s3.out ?_;rw[←hW.out])
 go_wp2
 go_ret
 exact⟨rfl,HPOST.out⟩
def idx(id:Int):List O→Int
 | []=>-1
 | r::t=>if r.id=id then 0 else if idx id t<0 then -1 else idx id t+1
def has(id:Int)(zs:List O):Bool:=zs.any (fun r=>decide (r.id=id))
theorem idx_ge(id:Int)(zs:List O) : -1≤idx id zs:=by
 induction zs with
 | nil=>simp[idx]
 | cons r t ih=>unfold idx;split;omega;split <;>omega
theorem idx_lt(id:Int)(zs:List O):idx id zs<zs.length:=by
 induction zs with
 | nil=>simp[idx]
 | cons r t ih=>unfold idx;rw[List.length_cons];split;omega;split <;>omega
theorem idx_cons(id:Int)(r:O)(t:List O):idx id (r::t)=if r.id=id then 0 else if idx id t<0 then -1 else idx id t+1:=rfl
theorem idxFrom(id:Int)(x:O)(zs:List O):∀i,Lib.idxByFrom (fun _ y=>decide (y.id=id)) x zs i=if idx id zs<0 then -1 else (i:Int)+idx id zs:=by
 induction zs with
 | nil=>intro i;rfl
 | cons r t ih=>
  intro i
  have:=idx_ge id t
  show (if decide (r.id=id)=true then (i:Int) else Lib.idxByFrom (fun _ y=>decide (y.id=id)) x t (i+1))=_
  rw[ih,idx_cons]
  by_cases h:r.id=id
  ·rw[if_pos (decide_eq_true h),if_pos h,if_neg (by omega),Int.add_zero]
  ·rw[if_neg (by simpa using h),if_neg h]
   by_cases h2:idx id t<0
   ·rw[if_pos h2,if_pos h2,if_pos (by omega)]
   ·rw[if_neg h2,if_neg h2,if_neg (by omega)];omega
theorem idxBy_is(id:Int)(x:O)(zs:List O):Lib.idxBy (fun _ y=>decide (y.id=id)) zs x=idx id zs:=by
 have:=idx_ge id zs
 unfold Lib.idxBy
 rw[idxFrom]
 split <;>omega
theorem find_pred(id:Int)(B:Nat)(w:World)(hB:B<w.heap.size)(hc:w.cell? ⟨B,0,none⟩=some (.int .i64 id)) :
  PredBelow Tryz.prog 132 #[.pointer (some ⟨B,0,none⟩)] (fun x=>.agg (oL x).toArray) (fun x=>decide (x.id=id)) w:=by
 intro W x hb
 obtain⟨a,b,c,d,e,f,g,h⟩:=x
 show Calls Tryz.prog 132 #[.agg #[.int .i64 a,.int .i64 b,.int .i64 c,.int .i64 d,.int .i64 e,.int .i64 f,.int .i64 g,.int .i64 h],.pointer (some ⟨B,0,none⟩)] W _
 have hc2:=keeps hb hc
 have hz:B<W.heap.size:=Nat.lt_of_lt_of_le hB hb.size
 go_enter Tryz.func132,Tryz.ntmps132
 go_wp2
 go_ret
 exact⟨rfl,hb.alloc hb.size _⟩
structure St (w:World) (b p:Nat) (v:Value) (os:List O):Prop where
 blk:w.heap[p]?=some (.cells #[v] 107 (0,0))
 le:b≤p
 own:OwnQ w b v os
theorem St.lt{w:World}{b p:Nat}{v:Value}{os:List O}(h:St w b p v os):p<w.heap.size:=(gzE.1 h.blk).1
theorem St.cell{w:World}{b p:Nat}{v:Value}{os:List O}(h:St w b p v os):w.cell? ⟨p,0,none⟩=some v:=by simp[World.cell?,h.blk]
theorem St.below{w w' : World}{b p:Nat}{v:Value}{os:List O}(h:St w b p v os)(hB:Below w.heap.size w w'):St w' b p v os:=
 ⟨(hB.block p h.lt).trans h.blk,h.le,h.own.below hB⟩
theorem zMO(B:Nat)(W:World):Calls Tryz.prog 131 #[.slice none 0 0,.func (.func 132) #[] #[.pointer (some ⟨B,0,none⟩)]] W fun e w'=>e=.returned (.int .i64 (-1))∧Below W.heap.size W w':=by
 go_enter Tryz.func131,Tryz.ntmps131
 go_wp2
 go_loopg [5,8] 0 (fun _ _ s8 wr=>s8=.int .i64 0∧wr=W)
 case atStart=>exact⟨rfl,rfl⟩
 case round=>
  obtain⟨rfl,rfl⟩:=hrel
  go_wp2
  go_ret
  exact⟨rfl,bzR _ _⟩
theorem zMP(id:Int)(v:Value)(zs:List O)(w:World)(B:Nat)(hB:B<w.heap.size)(hc:w.cell? ⟨B,0,none⟩=some (.int .i64 id))(h:SL w v zs) :
  Calls Tryz.prog 131 #[v,.func (.func 132) #[] #[.pointer (some ⟨B,0,none⟩)]] w fun e w'=>e=.returned (.int .i64 (idx id zs))∧Below w.heap.size w w':=by
 rcases h with ⟨rfl,rfl⟩|⟨b,o,c,rfl,h2,h3,h4,h5⟩
 ·exact zMO B w
 ·have eg:∀args w,(callFunc 132 args).run Tryz.prog w=.ok (.enter 132 args) w:=enters_of Tryz.func132 (by kernel_rfl) rfl
  have hcon:=AnyQ.slices_IndexFunc Tryz.lq6o 8 Tryz.isAgg32 Tryz.sizeOf32 oL (fun x=>rfl) (fun x=>decide (x.id=id)) 132 #[.pointer (some ⟨B,0,none⟩)] eg b o zs.length c zs
   w (find_pred id B w hB hc) (nzR _) (by omega) h4 h5
  change Calls Tryz.prog 131 _ _ _ at hcon
  rw[List.take_length,idxBy_is] at hcon
  exact hcon
theorem find_any(id:Int)(b p:Nat)(v:Value)(os:List O)(w:World)(h:St w b p v os) :
  Calls Tryz.prog 107 #[.pointer (some ⟨p,0,none⟩),.int .i64 id] w fun e w'=>e=.returned (.int .i64 (idx id os))∧Below w.heap.size w w':=by
 have hB:Below w.heap.size w (w.alloc (.cells #[.int .i64 id] 3)):=(bzR _ _).alloc (nzR _) _
 have hs:=h.below hB
 have hcon:=zMP id v os _ w.heap.size (by simp) (by simp[go_sem]) (hs.own.sl)
 have hc:=hs.cell
 have hp:p<w.heap.size+1:=by have:=h.lt;omega
 generalize idx id os=k at *
 clear h hs
 go_enter Tryz.func107,Tryz.ntmps107
 go_wp2_with (go_at_call 131;refine hcon.mono ?_;rintro e w' ⟨rfl,hb'⟩)
 go_ret
 exact⟨rfl,hB.trans (hb'.mono (by simp))⟩
end wak
namespace wak
open ord Go.Sort
section
variable {α:Type}(lt:α→α→Bool)
def insR(x:α):List α→List α
 | []=>[x]
 | y::t=>if lt x y=true then y::insR x t else x::y::t
def isort(l:List α):List α:=(l.foldl (fun a x=>insR lt x a) []).reverse
theorem zMQ(x:α)(l:List α):(insR lt x l).length=l.length+1:=by
 induction l with
 | nil=>rfl
 | cons y t ih=>
  unfold insR
  split
  ·simp[ih]
  ·simp
theorem zJS(x:α)(l:List α):(insR lt x l).Perm (x::l):=by
 induction l with
 | nil=>exact List.Perm.refl _
 | cons y t ih=>
  unfold insR
  split
  ·exact(ih.cons y).trans (List.Perm.swap x y t)
  ·exact List.Perm.refl _
theorem zJT(q acc:List α):(q.foldl (fun a x=>insR lt x a) acc).Perm (acc++q):=by
 induction q generalizing acc with
 | nil=>simp
 | cons x q ih=>
  rw[List.foldl_cons]
  refine(ih _).trans ?_
  refine((zJS lt x acc).append_right q).trans ?_
  exact List.perm_middle.symm
theorem zCd(l:List α):(isort lt l).Perm l:=by
 unfold isort
 refine(List.reverse_perm _).trans ?_
 simpa using zJT lt l []
theorem zEM(l:List α):(isort lt l).length=l.length:=(zCd lt l).length_eq
section
variable [Inhabited α]
theorem get_at(p:List α)(y:α)(q:List α):(p++y::q).toArray[p.length]! = y:=by simp
theorem zGD(p:List α)(y x:α)(q:List α):(p++y::x::q).toArray[p.length+1]! = x:=by
 simp
theorem zMR(p:List α)(y x:α)(q:List α):swp (p++y::x::q).toArray (p.length+1) p.length=(p++x::y::q).toArray:=by
 unfold swp
 rw[get_at,zGD]
 apply Array.toList_inj.1
 simp only[Array.toList_setIfInBounds]
 rw[List.set_append_right _ _ (by omega),List.set_append_right _ _ (by omega)]
 simp
theorem zHQ(acc:List α)(x:α)(q:List α):insInner lt 0 acc.length (acc.reverse++x::q).toArray=((insR lt x acc).reverse++q).toArray:=by
 induction acc generalizing q with
 | nil=>simp[insInner,insR]
 | cons y t ih=>
  have e:((y::t).reverse++x::q)=t.reverse++y::x::q:=by simp
  rw[e,List.length_cons]
  unfold insInner
  have h1:=zGD t.reverse y x q
  have h2:=get_at t.reverse y (x::q)
  have h3:=zMR t.reverse y x q
  rw[List.length_reverse] at h1 h2 h3
  rw[h1,h2,h3]
  unfold insR
  by_cases h:lt x y=true
  ·have hd:(decide (t.length+1>0) && lt x y)=true:=by simp[h]
   rw[if_pos hd,if_pos h,ih]
   simp
  ·have hd:¬(decide (t.length+1>0) && lt x y)=true:=by simpa using h
   rw[if_neg hd,if_neg h]
   simp
theorem zHR(q acc:List α):insOuter lt 0 (acc.length+q.length) acc.length (acc.reverse++q).toArray=((q.foldl (fun a x=>insR lt x a) acc).reverse).toArray:=by
 induction q generalizing acc with
 | nil=>unfold insOuter;simp
 | cons x q ih=>
  unfold insOuter
  rw[if_pos (by simp),zHQ,List.foldl_cons]
  have:=ih (insR lt x acc)
  rw[zMQ] at this
  rw[List.length_cons,show acc.length+(q.length+1)=acc.length+1+q.length by omega]
  exact this
theorem zJU(l:List α):insertionSort lt l.toArray 0 l.length=(isort lt l).toArray:=by
 unfold insertionSort isort
 cases l with
 | nil=>unfold insOuter;simp
 | cons x q=>
  have:=zHR lt q [x]
  simp only[List.length_cons,List.length_nil,Nat.zero_add,List.reverse_cons,List.reverse_nil,List.nil_append,List.cons_append] at this
  rw[List.foldl_cons,List.length_cons,show q.length+1=1+q.length by omega]
  exact this
end
variable {lt}
end
def cf(a b:O):Int:=if a.side=b.side then (if a.side=1 then Lib.compareInt a.stop b.stop else Lib.compareInt b.stop a.stop) else Lib.compareInt a.side b.side
theorem zJV(x y:Int):Lib.compareInt x y<0↔x<y:=by unfold Lib.compareInt;split <;>(try split) <;>omega
theorem lt_iff(a b:O):ltOf cf a b=true↔(a.side<b.side∨(a.side=b.side∧((a.side=1∧a.stop<b.stop)∨(a.side≠1∧b.stop<a.stop)))):=by
 unfold ltOf cf
 rw[decide_eq_true_iff]
 by_cases h:a.side=b.side
 ·rw[if_pos h]
  by_cases h1:a.side=1
  ·rw[if_pos h1,zJV];omega
  ·rw[if_neg h1,zJV];omega
 ·rw[if_neg h,zJV];omega
theorem lt_no(a b:O):ltOf cf a b=false↔¬(a.side<b.side∨(a.side=b.side∧((a.side=1∧a.stop<b.stop)∨(a.side≠1∧b.stop<a.stop)))):=by
 rw[←lt_iff];simp
theorem cf_swo:SWO (ltOf cf):=by
 refine⟨fun x=>?_,fun x y z h1 h2=>?_,fun x y z h1 h2=>?_⟩
 ·rw[lt_no];omega
 ·rw[lt_iff] at *;omega
 ·rw[lt_no] at *;omega
def wkB(p:Int)(o:O):Bool:=if o.side=1 then decide (o.stop≤p) else decide (p≤o.stop)
def zst(o:O):O:={ o with stop:=0 }
def srt(p:Int)(os:List O):List O:=isort (ltOf cf) (os.filter (wkB p))
def woke(p:Int)(os:List O):List O:=(srt p os).map zst
def left(p:Int)(os:List O):List O:=os.filter (fun o=>!wkB p o)
theorem zJW(p:Int)(os:List O):(srt p os).length=(os.filter (wkB p)).length:=zEM _ _
theorem zMS(p:Int)(os:List O):(woke p os).length=(os.filter (wkB p)).length:=by unfold woke;rw[List.length_map,zJW]
theorem zGE(p:Int)(os:List O):(woke p os).length+(left p os).length=os.length:=by
 rw[zMS,left]
 induction os with
 | nil=>rfl
 | cons o t ih=>
  cases h:wkB p o
  ·rw[List.filter_cons_of_neg (by simp[h]),List.filter_cons_of_pos (by simp[h]),List.length_cons,List.length_cons];omega
  ·rw[List.filter_cons_of_pos (by simp[h]),List.filter_cons_of_neg (by simp[h]),List.length_cons,List.length_cons];omega
end wak
namespace wak
open Go.RowKit ord Go.Sort Go.Lib
open spn (keeps bcell)
theorem hidQ{P:Prop}(h:P):Hid P:=h
theorem line_ne(a1 a2 a3 a4 a5 a6 a7 a8 b1 b2 b3 b4 b5 b6 b7 b8:Int)(h:¬a3=b3)(W:World):Calls Tryz.prog 163 #[.agg #[.int .i64 a1,.int .i64 a2,.int .i64 a3,.int .i64 a4,.int .i64 a5,.int .i64 a6,.int .i64 a7,.int .i64 a8],.agg #[.int .i64 b1,.int .i64 b2,.int .i64 b3,.int .i64 b4,.int .i64 b5,.int .i64 b6,.int .i64 b7,.int .i64 b8]] W fun e w'=>e=.returned (.int .i64 (cf ⟨a1,a2,a3,a4,a5,a6,a7,a8⟩ ⟨b1,b2,b3,b4,b5,b6,b7,b8⟩))∧∃q os',w'=grow (W.drewN q) os':=by
 have hcon:=fun W'=>AnyG.cmp_Compare_int Tryz.lcmp a3 b3 W'
 change ∀W',Calls Tryz.prog 164 _ _ _ at hcon
 have he:cf ⟨a1,a2,a3,a4,a5,a6,a7,a8⟩ ⟨b1,b2,b3,b4,b5,b6,b7,b8⟩=Lib.compareInt a3 b3:=by unfold cf;rw[if_neg h]
 rw[he]
 clear he
 generalize Lib.compareInt a3 b3=r at hcon ⊢
 have e1:(a3 != b3)=true:=by simp[h]
 go_enter Tryz.func163,Tryz.ntmps163
 go_wp2_with (go_at_call 164;refine(hcon _).mono ?_;rintro e w' ⟨rfl,rfl⟩)
 go_ret
 exact⟨rfl,0,_,by rw[alloc_eq_grow,alloc_eq_grow,grow_grow];rfl⟩
theorem zMT(a1 a2 a3 a4 a5 a6 a7 a8 b1 b2 b3 b4 b5 b6 b7 b8:Int)(h:a3=b3)(h1:a3=1)(W:World):Calls Tryz.prog 163 #[.agg #[.int .i64 a1,.int .i64 a2,.int .i64 a3,.int .i64 a4,.int .i64 a5,.int .i64 a6,.int .i64 a7,.int .i64 a8],.agg #[.int .i64 b1,.int .i64 b2,.int .i64 b3,.int .i64 b4,.int .i64 b5,.int .i64 b6,.int .i64 b7,.int .i64 b8]] W fun e w'=>e=.returned (.int .i64 (cf ⟨a1,a2,a3,a4,a5,a6,a7,a8⟩ ⟨b1,b2,b3,b4,b5,b6,b7,b8⟩))∧∃q os',w'=grow (W.drewN q) os':=by
 have hcon:=fun W'=>AnyG.cmp_Compare_int Tryz.lcmp a8 b8 W'
 change ∀W',Calls Tryz.prog 164 _ _ _ at hcon
 have he:cf ⟨a1,a2,a3,a4,a5,a6,a7,a8⟩ ⟨b1,b2,b3,b4,b5,b6,b7,b8⟩=Lib.compareInt a8 b8:=by subst h1;subst h;unfold cf;rw[if_pos rfl,if_pos rfl]
 rw[he]
 clear he
 generalize Lib.compareInt a8 b8=r at hcon ⊢
 subst h1;subst h
 go_enter Tryz.func163,Tryz.ntmps163
 go_wp2_with (go_at_call 164;refine(hcon _).mono ?_;rintro e w' ⟨rfl,rfl⟩)
 go_ret
 exact⟨rfl,0,_,by rw[alloc_eq_grow,alloc_eq_grow,grow_grow];rfl⟩
theorem zJX(a1 a2 a3 a4 a5 a6 a7 a8 b1 b2 b3 b4 b5 b6 b7 b8:Int)(h:a3=b3)(h1:¬a3=1)(W:World):Calls Tryz.prog 163 #[.agg #[.int .i64 a1,.int .i64 a2,.int .i64 a3,.int .i64 a4,.int .i64 a5,.int .i64 a6,.int .i64 a7,.int .i64 a8],.agg #[.int .i64 b1,.int .i64 b2,.int .i64 b3,.int .i64 b4,.int .i64 b5,.int .i64 b6,.int .i64 b7,.int .i64 b8]] W fun e w'=>e=.returned (.int .i64 (cf ⟨a1,a2,a3,a4,a5,a6,a7,a8⟩ ⟨b1,b2,b3,b4,b5,b6,b7,b8⟩))∧∃q os',w'=grow (W.drewN q) os':=by
 have hcon:=fun W'=>AnyG.cmp_Compare_int Tryz.lcmp b8 a8 W'
 change ∀W',Calls Tryz.prog 164 _ _ _ at hcon
 have he:cf ⟨a1,a2,a3,a4,a5,a6,a7,a8⟩ ⟨b1,b2,b3,b4,b5,b6,b7,b8⟩=Lib.compareInt b8 a8:=by subst h;unfold cf;rw[if_pos rfl,if_neg h1]
 rw[he]
 clear he
 generalize Lib.compareInt b8 a8=r at hcon ⊢
 subst h;have e1:(a3 == 1)=false:=by simp[h1]
 go_enter Tryz.func163,Tryz.ntmps163
 go_wp2_with (go_at_call 164;refine(hcon _).mono ?_;rintro e w' ⟨rfl,rfl⟩)
 go_ret
 exact⟨rfl,0,_,by rw[alloc_eq_grow,alloc_eq_grow,grow_grow];rfl⟩
theorem zMU(x y:O)(W:World):Calls Tryz.prog 163 #[.agg (oL x).toArray,.agg (oL y).toArray] W fun e w'=>e=.returned (.int .i64 (cf x y))∧∃q os',w'=grow (W.drewN q) os':=by
 obtain⟨a1,a2,a3,a4,a5,a6,a7,a8⟩:=x
 obtain⟨b1,b2,b3,b4,b5,b6,b7,b8⟩:=y
 by_cases h:a3=b3
 ·by_cases h1:a3=1
  ·exact zMT a1 a2 a3 a4 a5 a6 a7 a8 b1 b2 b3 b4 b5 b6 b7 b8 h h1 W
  ·exact zJX a1 a2 a3 a4 a5 a6 a7 a8 b1 b2 b3 b4 b5 b6 b7 b8 h h1 W
 ·exact line_ne a1 a2 a3 a4 a5 a6 a7 a8 b1 b2 b3 b4 b5 b6 b7 b8 h W
theorem zJY(blk off size:Nat)(w:World):CmpLays Tryz.prog 163 #[] oL 8 cf blk off size w:=fun _ _ _ _ x y=>zMU x y _
def ins(a b:Nat)(zs:List O):List O:=(insertionSort (ltOf cf) zs.toArray a b).toList
theorem ins_len(a b:Nat)(zs:List O)(h:a≤b)(hb:b≤zs.length):(ins a b zs).length=zs.length:=by
 have:=((insertionSort_holds (lt:=ltOf cf)) cf_swo zs.toArray a b h (by simpa using hb)).1.1
 unfold ins
 simpa using this
theorem zDo(zs:List O)(t:Nat)(h:t<zs.length*8):(flat zs)[t]?=some (flatK oL 8 zs.toArray)[t]!:=by
 rw[get_flatK oL 8 zs.toArray t (by simpa using h)]
 have e:t=t / 8*8+t % 8:=by omega
 have h8:t % 8<8:=by omega
 conv=>lhs;rw[e]
 rw[flat_get zs (t / 8) (by omega) (t % 8) h8]
 have hl:(oL zs[t / 8]!).length=8:=rfl
 rw[List.getElem?_eq_getElem (by rw[hl];exact h8)]
 have hs:zs.toArray[t / 8]! = zs[t / 8]!:=by simp
 rw[hs]
 congr 1
 exact(getElem!_pos (oL zs[t / 8]!) (t % 8) (by rw[hl];exact h8)).symm
theorem zEN{w:World}{base g off cap:Nat}{zs:List O}(h:OwnQ w base (.slice (some ⟨g,off,none⟩) zs.length cap) zs):HoldsK oL 8 w g off zs.toArray:=by
 obtain⟨h1,h2,-,h4,h5,h6,h7⟩:=own_range h
 intro j hj
 have hj' : j<zs.length*8:=by simpa using hj
 refine⟨?_,(h7 j (Nat.lt_of_lt_of_le hj' (Nat.mul_le_mul_right 8 h4))).2⟩
 exact h6 j _ (zDo zs j hj')
theorem zHS{w:World}{base g off cap n:Nat}{os:Array Obj}{zs ys:List O}(h:OwnQ w base (.slice (some ⟨g,off,none⟩) zs.length cap) zs)(hl:ys.length=zs.length) :
  OwnQ (sortWorldK oL 8 w g off n ys.toArray os) base (.slice (some ⟨g,off,none⟩) zs.length cap) ys∧w.grownBy (sortWorldK oL 8 w g off n ys.toArray os) (some g):=by
 obtain⟨h1,h2,⟨cur,h3,h3'⟩,h4,h5,h6,h7⟩:=own_range h
 have hg:g<w.heap.size:=(gzE.1 h3).1
 have hH:=holdsK_sortWorldK_c oL 8 w g off zs.toArray ys.toArray n os (zEN h) hg (by simpa using hl)
 have hb:(sortWorldK oL 8 w g off n ys.toArray os).heap[g]?=some (.cells (putCells id off (flatK oL 8 ys.toArray) cur) 32 (0,0)):=by
  unfold sortWorldK putRowK
  rw[heap_grow_old _ _ (by simpa [Sort.ahead] using hg)]
  simp[putRow,mapBlock,Sort.ahead,Array.getElem?_modify,h3,onCells]
 refine⟨?_,rfl,rfl,rfl,by unfold sortWorldK putRowK;simp[Sort.ahead],fun k hk hne=>?_⟩
 ·show OwnM _ _ _ _ _ _ _
  rw[hl]
  refine own_of (by rw[flat_len,hl]) h2 hb (by simpa [putCells] using h3') h4 h5 fun j u hu=>?_
  have hj:j<ys.length*8:=by rw[←flat_len];exact(List.getElem?_eq_some_iff.1 hu).1
  rw[zDo ys j hj] at hu
  cases hu
  exact(hH j (by simpa using hj)).1
 ·unfold sortWorldK putRowK
  rw[heap_grow_old _ _ (by simpa [Sort.ahead] using hk)]
  have:g≠k:=fun e=>hne (by rw[e])
  simp[putRow,mapBlock,Sort.ahead,Array.getElem?_modify,this]
theorem zFP(w:World)(base g off cap a b:Nat)(zs:List O)(h:OwnQ w base (.slice (some ⟨g,off,none⟩) zs.length cap) zs)(hab:a≤b)(hb:b≤zs.length)(hz:zs.length≤1000) :
  Calls Tryz.prog 171 #[.slice (some ⟨g,off,none⟩) zs.length cap,.int .i64 a,.int .i64 b,.func (.func 163) #[] #[]] w fun e w'=>e=.returned (.tuple #[])∧OwnQ w' base (.slice (some ⟨g,off,none⟩) zs.length cap) (ins a b zs)∧w.grownBy w' (some g):=by
 have eg:∀args w,(callFunc 163 args).run Tryz.prog w=.ok (.enter 163 args) w:=enters_of Tryz.func163 (by kernel_rfl) rfl
 obtain⟨-,-,⟨cur,h3,-⟩,h4,h5,-,-⟩:=own_range h
 have hcon:=AnyQ.insertionSortCmpFunc Tryz.lins 8 Tryz.isAgg32 Tryz.sizeOf32 oL (fun _=>rfl) (fun x v hv=>by
   simp only[oL,List.mem_cons,List.not_mem_nil,or_false] at hv
   rcases hv with rfl|rfl|rfl|rfl|rfl|rfl|rfl|rfl <;>rfl) cf 163 #[] g off cap a b zs.toArray w eg (zJY g off _ w) (zEN h) (gzE.1 h3).1 hab (by simpa using hb) (by rw[List.size_toArray];omega)
 change Calls Tryz.prog 171 _ _ _ at hcon
 rw[List.size_toArray] at hcon
 refine hcon.mono ?_
 rintro e w'⟨rfl,n,os,rfl⟩
 refine⟨rfl,?_⟩
 have:=zHS (n:=n) (os:=os) h (ins_len a b zs hab hb)
 unfold ins at this ⊢
 simpa using this
theorem ins_nil(w:World):Calls Tryz.prog 171 #[.slice none 0 0,.int .i64 0,.int .i64 0,.func (.func 163) #[] #[]] w fun e w'=>e=.returned (.tuple #[])∧w'=w:=by
 go_enter Tryz.func171,Tryz.ntmps171
 go_wp2
 go_loopg [8] 0 (fun _ s8 wr=>s8=.int .i64 1∧wr=w)
 case atStart=>exact⟨rfl,rfl⟩
 case round=>
  obtain⟨rfl,rfl⟩:=hrel
  go_wp2
  go_end0
  exact⟨rfl,rfl⟩
theorem zJZ(zs:List O):ins 0 zs.length zs=isort (ltOf cf) zs:=by unfold ins;rw[zJU]
theorem zMV(n:Nat)(zs:List O):ins n n zs=zs:=by
 unfold ins insertionSort insOuter
 rw[if_neg (by omega)]
def SrtPost(base:Nat)(v:Value)(zs:List O)(w w' : World):Prop:=OwnQ w' base v (isort (ltOf cf) zs)∧w.grownBy w' v.ownBlock
theorem zDp(n:Nat)(v:Value)(zs:List O)(base:Nat)(w:World)(hn:n<20)(hI:Calls Tryz.prog 171 #[v,.int .i64 0,.int .i64 n,.func (.func 163) #[] #[]] w fun e w'=>e=.returned (.tuple #[])∧SrtPost base v zs w w') :
  Calls Tryz.prog 168 #[v,.int .i64 n,.func (.func 163) #[] #[]] w fun e w'=>e=.returned (.tuple #[])∧SrtPost base v zs w w':=by
 have HI:=hidQ hI
 have h1:¬(20:Int)≤(n:Int):=by omega
 have h2:¬(20:Int)<(n:Int):=by omega
 clear hI hn
 go_enter Tryz.func168,Tryz.ntmps168
 go_wp2_with fail
 go_loopg [7,8] 0 (fun _ s7 s8 wr=>s7=.int .i64 0∧s8=.int .i64 20∧wr=w)
 case atStart=>exact⟨rfl,rfl,rfl⟩
 case round=>
  obtain⟨rfl,rfl,rfl⟩:=hrel
  go_wp2_with fail
  refine HI.out.mono ?_
  rintro e w1⟨rfl,hp⟩
  have HP:=hidQ hp
  clear hp HI
  go_wp2_with fail
  go_loopg [6,7,8,9] 0 (fun _ s6 _ _ _ wr2=>s6=.int .i64 20∧wr2=w1)
  case atStart=>exact⟨rfl,rfl⟩
  case round=>
   obtain⟨rfl,rfl⟩:=hrel
   go_wp2_with fail
   go_end0
   exact⟨rfl,HP.out⟩
theorem zDS(v:Value)(zs:List O)(base:Nat)(w:World)(hI:Calls Tryz.prog 171 #[v,.int .i64 0,.int .i64 20,.func (.func 163) #[] #[]] w fun e w'=>e=.returned (.tuple #[])∧SrtPost base v zs w w')
  (hJ:∀w1,SrtPost base v zs w w1→Calls Tryz.prog 171 #[v,.int .i64 20,.int .i64 20,.func (.func 163) #[] #[]] w1 fun e w'=>e=.returned (.tuple #[])∧SrtPost base v zs w w') :
  Calls Tryz.prog 168 #[v,.int .i64 20,.func (.func 163) #[] #[]] w fun e w'=>e=.returned (.tuple #[])∧SrtPost base v zs w w':=by
 have HI:=hidQ hI
 have HJ:=hidQ hJ
 clear hI hJ
 go_enter Tryz.func168,Tryz.ntmps168
 go_wp2_with fail
 go_loopg [7,8] 1 (fun gg s7 s8 wr=>(s7=.int .i64 0∧s8=.int .i64 20∧wr=w∧1≤gg)∨(s7=.int .i64 20∧s8=.int .i64 40∧Aside (SrtPost base v zs w wr)))
 case atStart=>exact .inl ⟨rfl,rfl,rfl,nzR _⟩
 case round=>
  rcases hrel with ⟨rfl,rfl,rfl,hg⟩|⟨rfl,rfl,hp⟩
  ·go_wp2_with fail
   refine HI.out.mono ?_
   rintro e w1⟨rfl,hp⟩
   have HP:=hidQ hp
   clear hp HI
   go_wp2_with fail
   go_roundg 0
   case measure=>omega
   case rel=>exact .inr ⟨rfl,rfl,HP.out⟩
  ·go_wp2_with fail
   refine(HJ.out _ hp.out).mono ?_
   rintro e w1⟨rfl,hp⟩
   have HP:=hidQ hp
   clear hp HI HJ
   go_wp2_with fail
   go_loopg [6,7,8,9] 0 (fun _ s6 _ _ _ wr2=>s6=.int .i64 20∧wr2=w1)
   case atStart=>exact⟨rfl,rfl⟩
   case round=>
    obtain⟨rfl,rfl⟩:=hrel
    go_wp2_with fail
    go_end0
    exact⟨rfl,HP.out⟩
theorem zHT(v:Value)(zs:List O)(base:Nat)(w:World)(h:OwnQ w base v zs)(hl:zs.length≤20) :
  Calls Tryz.prog 168 #[v,.int .i64 zs.length,.func (.func 163) #[] #[]] w fun e w'=>e=.returned (.tuple #[])∧SrtPost base v zs w w':=by
 have h0:=h
 rcases h.2 with ⟨hv,hn⟩|⟨g,off,cap,cur,hv,-⟩
 ·subst hv
  have:zs=[]:=List.eq_nil_of_length_eq_zero hn
  subst this
  exact zDp 0 _ [] base w (by omega) ((ins_nil w).mono fun e w' he=>⟨he.1,by rw[he.2];exact⟨h0,rfl,rfl,rfl,nzR _,fun _ _ _=>rfl⟩⟩)
 ·subst hv
  by_cases h20:zs.length=20
  ·have hA:=zFP w base g off cap 0 zs.length zs h0 (by omega) (nzR _) (by omega)
   rw[zJZ] at hA
   rw[h20] at hA ⊢
   refine zDS _ zs base w hA fun w1 hp=>?_
   have hl2:(isort (ltOf cf) zs).length=20:=by rw[zEM,h20]
   have hq:=hp.1
   have hB:=zFP w1 base g off cap 20 20 (isort (ltOf cf) zs) (by rw[hl2];exact hq) (nzR _) (by omega) (by omega)
   rw[hl2,zMV] at hB
   exact hB.mono fun e w' he=>⟨he.1,he.2.1,gr_trans hp.2 he.2.2⟩
  ·have hA:=zFP w base g off cap 0 zs.length zs h0 (by omega) (nzR _) (by omega)
   rw[zJZ] at hA
   exact zDp zs.length _ zs base w (by omega) hA
theorem zHU(q:Option Addr)(n c:Nat)(zs:List O)(base:Nat)(w:World)(hn:n=zs.length)(h:OwnQ w base (.slice q n c) zs)(hl:n≤20) :
  Calls Tryz.prog 148 #[.slice q n c] w fun e w'=>e=.returned (.tuple #[])∧SrtPost base (.slice q n c) zs w w':=by
 have HC:=hidQ (zHT _ zs base w h (by omega))
 rw[←hn] at HC
 clear h hn hl
 have HD:Hid (Calls Tryz.prog 162 #[.slice q n c,.func (.func 163) #[] #[]] w fun e w'=>e=.returned (.tuple #[])∧SrtPost base (.slice q n c) zs w w'):=by
  show Calls _ _ _ _ _
  go_enter Tryz.func162,Tryz.ntmps162
  go_wp2_with fail
  refine HC.out.mono ?_
  rintro e w1⟨rfl,hp⟩
  have HP:=hidQ hp
  clear hp HC
  go_wp2_with fail
  go_end0
  exact⟨rfl,HP.out⟩
 go_enter Tryz.func148,Tryz.ntmps148
 go_wp2_with fail
 refine HD.out.mono ?_
 rintro e w1⟨rfl,hp⟩
 have HP:=hidQ hp
 clear hp HC HD
 go_wp2_with fail
 go_end0
 exact⟨rfl,HP.out⟩
end wak
namespace wak
open Go.RowKit ord
open spn (keeps bcell)
theorem hidP{P:Prop}(h:P):Hid P:=h
theorem zEO(o:O)(x:Int)(W:World):Calls Tryz.prog 146 #[oV o,.int .i64 x] W fun e w'=>e=.returned (.bool (wkB x o))∧Below W.heap.size W w':=by
 obtain⟨a1,a2,a3,a4,a5,a6,a7,a8⟩:=o
 show Calls Tryz.prog 146 #[.agg #[.int .i64 a1,.int .i64 a2,.int .i64 a3,.int .i64 a4,.int .i64 a5,.int .i64 a6,.int .i64 a7,.int .i64 a8],.int .i64 x] W _
 by_cases h:a3=1
 ·subst h
  have e:wkB x ⟨a1,a2,1,a4,a5,a6,a7,a8⟩=decide (a8≤x):=by unfold wkB;rw[if_pos rfl]
  rw[e]
  clear e
  go_enter Tryz.func146,Tryz.ntmps146
  go_wp2
  go_ret
  exact⟨rfl,(bzR _ _).alloc (nzR _) _⟩
 ·have e:wkB x ⟨a1,a2,a3,a4,a5,a6,a7,a8⟩=decide (x≤a8):=by unfold wkB;rw[if_neg h]
  have e1:(a3 == 1)=false:=by simp[h]
  rw[e]
  clear e h
  go_enter Tryz.func146,Tryz.ntmps146
  go_wp2
  go_ret
  exact⟨rfl,(bzR _ _).alloc (nzR _) _⟩
theorem pred_1(x:Int)(o:O)(B:Nat)(W:World)(hB:B<W.heap.size)(hc:W.cell? ⟨B,0,none⟩=some (.int .i64 x)) :
  Calls Tryz.prog 145 #[.agg (oL o).toArray,.pointer (some ⟨B,0,none⟩)] W fun e w'=>e=.returned (.bool (wkB x o))∧Below W.heap.size W w':=by
 have hw:=fun W=>zEO o x W
 obtain⟨a1,a2,a3,a4,a5,a6,a7,a8⟩:=o
 show Calls Tryz.prog 145 #[.agg #[.int .i64 a1,.int .i64 a2,.int .i64 a3,.int .i64 a4,.int .i64 a5,.int .i64 a6,.int .i64 a7,.int .i64 a8],.pointer (some ⟨B,0,none⟩)] W _
 have HW:Hid (∀W,Calls Tryz.prog 146 #[.agg #[.int .i64 a1,.int .i64 a2,.int .i64 a3,.int .i64 a4,.int .i64 a5,.int .i64 a6,.int .i64 a7,.int .i64 a8],.int .i64 x] W fun e w'=>e=.returned (.bool (wkB x ⟨a1,a2,a3,a4,a5,a6,a7,a8⟩))∧Below W.heap.size W w'):=hw
 clear hw
 generalize wkB x ⟨a1,a2,a3,a4,a5,a6,a7,a8⟩=r at *
 go_enter Tryz.func145,Tryz.ntmps145
 go_wp2_with fail
 refine(HW.out _).mono ?_
 rintro e w1⟨rfl,hb1⟩
 have HB:=hidP (((bzR _ W).alloc (nzR _) _).trans (hb1.mono (by simp)))
 clear hb1 hc
 go_wp2_with fail
 go_ret
 exact⟨rfl,HB.out⟩
theorem pred_2(x:Int)(o:O)(B:Nat)(W:World)(hB:B<W.heap.size)(hc:W.cell? ⟨B,0,none⟩=some (.int .i64 x)) :
  Calls Tryz.prog 147 #[.agg (oL o).toArray,.pointer (some ⟨B,0,none⟩)] W fun e w'=>e=.returned (.bool (!wkB x o))∧Below W.heap.size W w':=by
 have hw:=fun W=>zEO o x W
 obtain⟨a1,a2,a3,a4,a5,a6,a7,a8⟩:=o
 show Calls Tryz.prog 147 #[.agg #[.int .i64 a1,.int .i64 a2,.int .i64 a3,.int .i64 a4,.int .i64 a5,.int .i64 a6,.int .i64 a7,.int .i64 a8],.pointer (some ⟨B,0,none⟩)] W _
 have HW:Hid (∀W,Calls Tryz.prog 146 #[.agg #[.int .i64 a1,.int .i64 a2,.int .i64 a3,.int .i64 a4,.int .i64 a5,.int .i64 a6,.int .i64 a7,.int .i64 a8],.int .i64 x] W fun e w'=>e=.returned (.bool (wkB x ⟨a1,a2,a3,a4,a5,a6,a7,a8⟩))∧Below W.heap.size W w'):=hw
 clear hw
 generalize wkB x ⟨a1,a2,a3,a4,a5,a6,a7,a8⟩=r at *
 go_enter Tryz.func147,Tryz.ntmps147
 go_wp2_with fail
 refine(HW.out _).mono ?_
 rintro e w1⟨rfl,hb1⟩
 have HB:=hidP (((bzR _ W).alloc (nzR _) _).trans (hb1.mono (by simp)))
 clear hb1 hc
 go_wp2_with fail
 go_ret
 exact⟨rfl,HB.out⟩
theorem part_1(x:Int)(B b p:Nat)(vq:Option Addr)(n vc:Nat)(os:List O)(w:World)(hn:n=os.length)(h:St w b p (.slice vq n vc) os)(hB:B<w.heap.size)(hc:w.cell? ⟨B,0,none⟩=some (.int .i64 x))(hl:n≤1000) :
  Calls Tryz.prog 144 #[.pointer (some ⟨p,0,none⟩),.func (.func 145) #[] #[.pointer (some ⟨B,0,none⟩)]] w fun e w'=>∃q m c,e=.returned (.slice q m c)∧m=(os.filter (wkB x)).length∧OwnQ w' w.heap.size (.slice q m c) (os.filter (wkB x))∧Below w.heap.size w w':=by
 have hpc:=h.cell
 have HS:=hidP h
 have HN:=hidP hn
 have HPR:Hid (∀W o,Below w.heap.size w W→Calls Tryz.prog 145 #[.agg (oL o).toArray,.pointer (some ⟨B,0,none⟩)] W fun e w'=>e=.returned (.bool (wkB x o))∧Below W.heap.size W w'):=fun W o hW=>pred_1 x o B W (Nat.lt_of_lt_of_le hB hW.size) (keeps hW hc)
 obtain⟨i0,hi0,hz0,hz1,hz2⟩:=infoR'
 have HI:=hidP hi0
 have HL:=hidP hl
 have HX:Hid (0<n→∃g off,vq=some ⟨g,off,none⟩∧Lies w g off os):=fun hp=>by
  rcases h.own.sl with ⟨h1,h2⟩|⟨g,off,c,h1,h2,h3,h4,h5⟩
  ·cases h1;omega
  ·cases h1;exact⟨g,off,rfl,h5⟩
 clear h hn hi0 hl hB hc
 go_enter Tryz.func144,Tryz.ntmps144
 go_wp2_with fail
 go_loopg [5,7,13] n (fun gg s5 _ s13 wr=>∃ (kk m:Nat) (q:Option Addr) (c:Nat),kk≤n∧n - kk≤gg∧s13=.int .i64 kk∧s5=.slice q m c∧Aside (m=((os.take kk).filter (wkB x)).length∧OwnQ wr w.heap.size (.slice q m c) ((os.take kk).filter (wkB x))∧Below w.heap.size w wr))
 case atStart=>exact⟨0,0,none,0,Nat.zero_le _,by omega,rfl,rfl,rfl,⟨rfl,.inl ⟨rfl,rfl⟩⟩,bzR _ _⟩
 case round=>
  obtain⟨kk,m,q,c,hkk,hg,rfl,rfl,HA⟩:=hrel
  by_cases hlt:kk<n
  ·have hltz:(kk:Int)<(n:Int):=by omega
   have hin1:¬((kk:Int)<0):=by omega
   have hlz:kk<os.length:=by have:=HN.out;omega
   obtain⟨g,off,rfl,hlie⟩:=HX.out (by omega)
   obtain⟨o,ho⟩:∃o,os[kk]! = o:=⟨_,rfl⟩
   have HPO:=hidP (fun W hW=>HPR.out W o hW)
   have HFL:Hid ((os.take (kk+1)).filter (wkB x)=(os.take kk).filter (wkB x)++(if (wkB x o)=true then [o] else [])):=by
    show _=_
    rw[←ho,getE _ _ hlz,List.take_succ_eq_append_getElem hlz,List.filter_append]
    congr 1
    rw[List.filter_cons,List.filter_nil]
   have HOL:=hidP (show oL o=oL o from rfl)
   obtain⟨y,hy⟩:∃y,(wkB x o)=y:=⟨_,rfl⟩
   rw[hy] at HPO HFL
   have cel:∀i v,(oL o)[i]?=some v→wr.cell? ⟨g,off+kk*8+i,none⟩=some v:=fun i v hv=>keeps HA.out.2.2 (hlie kk hlz i v (by rw[ho];exact hv))
   clear hy ho hlie
   obtain⟨a1,a2,a3,a4,a5,a6,a7,a8⟩:=o
   have t0:=cel 0 _ rfl
   have t1:=cel 1 _ rfl
   have t2:=cel 2 _ rfl
   have t3:=cel 3 _ rfl
   have t4:=cel 4 _ rfl
   have t5:=cel 5 _ rfl
   have t6:=cel 6 _ rfl
   have t7:=cel 7 _ rfl
   simp only[Nat.add_zero] at t0
   have HPO2:Hid (∀W,Below w.heap.size w W→Calls Tryz.prog 145 #[.agg #[.int .i64 a1,.int .i64 a2,.int .i64 a3,.int .i64 a4,.int .i64 a5,.int .i64 a6,.int .i64 a7,.int .i64 a8],.pointer (some ⟨B,0,none⟩)] W fun e w'=>e=.returned (.bool y)∧Below W.heap.size W w'):=HPO.out
   have HBA:=hidP (HA.out.2.2.alloc HA.out.2.2.size (.cells #[.int .i64 a1,.int .i64 a2,.int .i64 a3,.int .i64 a4,.int .i64 a5,.int .i64 a6,.int .i64 a7,.int .i64 a8] 32))
   have hR:=heap_alloc_new wr (.cells #[.int .i64 a1,.int .i64 a2,.int .i64 a3,.int .i64 a4,.int .i64 a5,.int .i64 a6,.int .i64 a7,.int .i64 a8] 32)
   have HZ1:=hidP (show ∀ (m:Nat),m≤kk→kk<n→n≤1000→m+1≤maxLen∧(m+1)*64≤140737488355328 from fun m h1 h2 h3=>by unfold maxLen;omega)
   have HML:Hid (m≤kk∧kk<n∧n≤1000):=⟨by
    rw[HA.out.1]
    exact Nat.le_trans (List.length_filter_le _ _) (by rw[List.length_take];omega),hlt,HL.out⟩
   clear cel HPO HPR HOL HX
   go_wp2_with fail
   refine(HPO2.out _ HBA.out).mono ?_
   rintro e w2⟨rfl,hb2⟩
   have HB2:=hidP (HBA.out.trans (hb2.mono HBA.out.size))
   have hR2:w2.heap[wr.heap.size]?=some (.cells #[.int .i64 a1,.int .i64 a2,.int .i64 a3,.int .i64 a4,.int .i64 a5,.int .i64 a6,.int .i64 a7,.int .i64 a8] 32 (0,0)):=(hb2.block _ (by simp)).trans hR
   have HO2:=hidP (OwnM.below HA.out.2.1 (((bzR _ wr).alloc (nzR _) _).trans (hb2.mono (by simp))))
   have HQ:=hidP HA.out.1
   have hwl:wr.heap.size<w2.heap.size:=(gzE.1 hR2).1
   have cel:∀i,w2.cell? ⟨wr.heap.size,i,none⟩=(#[.int .i64 a1,.int .i64 a2,.int .i64 a3,.int .i64 a4,.int .i64 a5,.int .i64 a6,.int .i64 a7,.int .i64 a8]:Array Value)[i]?:=fun i=>by simp[World.cell?,hR2]
   have u0:=cel 0
   have u1:=cel 1
   have u2:=cel 2
   have u3:=cel 3
   have u4:=cel 4
   have u5:=cel 5
   have u6:=cel 6
   have u7:=cel 7
   simp only[List.getElem?_toArray,List.getElem?_cons_zero,List.getElem?_cons_succ] at u0 u1 u2 u3 u4 u5 u6 u7
   have es:wrap64 ((kk:Int)+1)=((kk+1:Nat):Int):=by have:=HML.out;unfold wrap64;omega
   have HES:=hidP es
   clear cel hR hR2 hb2 t0 t1 t2 t3 t4 t5 t6 t7 HA HBA HPO2 es
   cases y
   ·have hes:=HES.out
    go_wp2_with fail
    go_roundg (n - (kk+1))
    case measure=>clear hes;omega
    case rel=>exact⟨kk+1,m,q,c,hlt,nzR _,by go_num,rfl,by rw[HFL.out];simpa using HQ.out,by rw[HFL.out];simpa using HO2.out,HB2.out⟩
   ·have HFT:Hid ((os.take (kk+1)).filter (wkB x)=(os.take kk).filter (wkB x)++[(⟨a1,a2,a3,a4,a5,a6,a7,a8⟩:O)]):=by
     show _=_
     rw[HFL.out]
     rfl
    clear HFL
    go_wp2_with (at_builtin;(refine wpList_append_mid _ rfl _ _ 57 rfl w.heap.size 32 i0 zeroR 8 64 Tryz.underlying57 HI.out hz0 hz1 hz2 rfl (.slice q m c) m (flat ((os.take kk).filter (wkB x))) rfl ?p0 ⟨w2.heap.size,0,none⟩ 1 1 (oL ⟨a1,a2,a3,a4,a5,a6,a7,a8⟩) rfl rfl (World.news_of_block (cs:=#[.int .i64 a1,.int .i64 a2,.int .i64 a3,.int .i64 a4,.int .i64 a5,.int .i64 a6,.int .i64 a7,.int .i64 a8]) (heap_alloc_new _ _)) (by simp[Value.oneCell',oL]) ?p1 ?p2 ?p3 ?_))
    case p0=>
     have:=OwnM.below HO2.out ((bzR _ w2).alloc (nzR _) (.cells #[.int .i64 a1,.int .i64 a2,.int .i64 a3,.int .i64 a4,.int .i64 a5,.int .i64 a6,.int .i64 a7,.int .i64 a8] 32))
     rwa [←HQ.out] at this
    case p1=>exact(HZ1.out m HML.out.1 HML.out.2.1 HML.out.2.2).1
    case p2=>exact(HZ1.out m HML.out.1 HML.out.2.1 HML.out.2.2).2
    case p3=>have:=HB2.out.size;simp;omega
    intro v' w' hO' hgr hat
    have HB3:Hid (Below w.heap.size w w'):=(HB2.out.alloc HB2.out.size (.cells #[.int .i64 a1,.int .i64 a2,.int .i64 a3,.int .i64 a4,.int .i64 a5,.int .i64 a6,.int .i64 a7,.int .i64 a8] 32)).grown hgr (by have:=HB2.out.size;simp;omega) (fun k hk=>(OwnM.lt HO2.out k hk).1)
    have HO3:Hid (OwnQ w' w.heap.size v' ((os.take (kk+1)).filter (wkB x))∧m+1=((os.take (kk+1)).filter (wkB x)).length):=by
     rw[HFT.out]
     have e1:m+1=((os.take kk).filter (wkB x)++[(⟨a1,a2,a3,a4,a5,a6,a7,a8⟩:O)]).length:=by
      rw[List.length_append,←HQ.out];rfl
     refine⟨?_,e1⟩
     show OwnM _ _ _ _ _ _ _
     rw[←e1,flat_append]
     exact hO'
    obtain⟨q',c',rfl⟩:=OwnM.form hO'
    have hes:=HES.out
    clear hO' hgr hat u0 u1 u2 u3 u4 u5 u6 u7
    go_wp2_with fail
    go_roundg (n - (kk+1))
    case measure=>clear hes;omega
    case rel=>exact⟨kk+1,m+1,q',c',hlt,nzR _,by go_num,rfl,HO3.out.2,HO3.out.1,HB3.out⟩
  ·have hltz:¬(kk:Int)<(n:Int):=by omega
   have hk:os.take kk=os:=List.take_of_length_le (by have:=HN.out;omega)
   rw[hk] at HA
   go_wp2_with fail
   go_ret
   exact⟨q,m,c,rfl,HA.out.1,HA.out.2.1,HA.out.2.2⟩
theorem part_2(x:Int)(B b p:Nat)(vq:Option Addr)(n vc:Nat)(os:List O)(w:World)(hn:n=os.length)(h:St w b p (.slice vq n vc) os)(hB:B<w.heap.size)(hc:w.cell? ⟨B,0,none⟩=some (.int .i64 x))(hl:n≤1000) :
  Calls Tryz.prog 144 #[.pointer (some ⟨p,0,none⟩),.func (.func 147) #[] #[.pointer (some ⟨B,0,none⟩)]] w fun e w'=>∃q m c,e=.returned (.slice q m c)∧m=(os.filter (fun o=>!wkB x o)).length∧OwnQ w' w.heap.size (.slice q m c) (os.filter (fun o=>!wkB x o))∧Below w.heap.size w w':=by
 have hpc:=h.cell
 have HS:=hidP h
 have HN:=hidP hn
 have HPR:Hid (∀W o,Below w.heap.size w W→Calls Tryz.prog 147 #[.agg (oL o).toArray,.pointer (some ⟨B,0,none⟩)] W fun e w'=>e=.returned (.bool (!wkB x o))∧Below W.heap.size W w'):=fun W o hW=>pred_2 x o B W (Nat.lt_of_lt_of_le hB hW.size) (keeps hW hc)
 obtain⟨i0,hi0,hz0,hz1,hz2⟩:=infoR'
 have HI:=hidP hi0
 have HL:=hidP hl
 have HX:Hid (0<n→∃g off,vq=some ⟨g,off,none⟩∧Lies w g off os):=fun hp=>by
  rcases h.own.sl with ⟨h1,h2⟩|⟨g,off,c,h1,h2,h3,h4,h5⟩
  ·cases h1;omega
  ·cases h1;exact⟨g,off,rfl,h5⟩
 clear h hn hi0 hl hB hc
 go_enter Tryz.func144,Tryz.ntmps144
 go_wp2_with fail
 go_loopg [5,7,13] n (fun gg s5 _ s13 wr=>∃ (kk m:Nat) (q:Option Addr) (c:Nat),kk≤n∧n - kk≤gg∧s13=.int .i64 kk∧s5=.slice q m c∧Aside (m=((os.take kk).filter (fun o=>!wkB x o)).length∧OwnQ wr w.heap.size (.slice q m c) ((os.take kk).filter (fun o=>!wkB x o))∧Below w.heap.size w wr))
 case atStart=>exact⟨0,0,none,0,Nat.zero_le _,by omega,rfl,rfl,rfl,⟨rfl,.inl ⟨rfl,rfl⟩⟩,bzR _ _⟩
 case round=>
  obtain⟨kk,m,q,c,hkk,hg,rfl,rfl,HA⟩:=hrel
  by_cases hlt:kk<n
  ·have hltz:(kk:Int)<(n:Int):=by omega
   have hin1:¬((kk:Int)<0):=by omega
   have hlz:kk<os.length:=by have:=HN.out;omega
   obtain⟨g,off,rfl,hlie⟩:=HX.out (by omega)
   obtain⟨o,ho⟩:∃o,os[kk]! = o:=⟨_,rfl⟩
   have HPO:=hidP (fun W hW=>HPR.out W o hW)
   have HFL:Hid ((os.take (kk+1)).filter (fun o=>!wkB x o)=(os.take kk).filter (fun o=>!wkB x o)++(if (!wkB x o)=true then [o] else [])):=by
    show _=_
    rw[←ho,getE _ _ hlz,List.take_succ_eq_append_getElem hlz,List.filter_append]
    congr 1
    rw[List.filter_cons,List.filter_nil]
   have HOL:=hidP (show oL o=oL o from rfl)
   obtain⟨y,hy⟩:∃y,(!wkB x o)=y:=⟨_,rfl⟩
   rw[hy] at HPO HFL
   have cel:∀i v,(oL o)[i]?=some v→wr.cell? ⟨g,off+kk*8+i,none⟩=some v:=fun i v hv=>keeps HA.out.2.2 (hlie kk hlz i v (by rw[ho];exact hv))
   clear hy ho hlie
   obtain⟨a1,a2,a3,a4,a5,a6,a7,a8⟩:=o
   have t0:=cel 0 _ rfl
   have t1:=cel 1 _ rfl
   have t2:=cel 2 _ rfl
   have t3:=cel 3 _ rfl
   have t4:=cel 4 _ rfl
   have t5:=cel 5 _ rfl
   have t6:=cel 6 _ rfl
   have t7:=cel 7 _ rfl
   simp only[Nat.add_zero] at t0
   have HPO2:Hid (∀W,Below w.heap.size w W→Calls Tryz.prog 147 #[.agg #[.int .i64 a1,.int .i64 a2,.int .i64 a3,.int .i64 a4,.int .i64 a5,.int .i64 a6,.int .i64 a7,.int .i64 a8],.pointer (some ⟨B,0,none⟩)] W fun e w'=>e=.returned (.bool y)∧Below W.heap.size W w'):=HPO.out
   have HBA:=hidP (HA.out.2.2.alloc HA.out.2.2.size (.cells #[.int .i64 a1,.int .i64 a2,.int .i64 a3,.int .i64 a4,.int .i64 a5,.int .i64 a6,.int .i64 a7,.int .i64 a8] 32))
   have hR:=heap_alloc_new wr (.cells #[.int .i64 a1,.int .i64 a2,.int .i64 a3,.int .i64 a4,.int .i64 a5,.int .i64 a6,.int .i64 a7,.int .i64 a8] 32)
   have HZ1:=hidP (show ∀ (m:Nat),m≤kk→kk<n→n≤1000→m+1≤maxLen∧(m+1)*64≤140737488355328 from fun m h1 h2 h3=>by unfold maxLen;omega)
   have HML:Hid (m≤kk∧kk<n∧n≤1000):=⟨by
    rw[HA.out.1]
    exact Nat.le_trans (List.length_filter_le _ _) (by rw[List.length_take];omega),hlt,HL.out⟩
   clear cel HPO HPR HOL HX
   go_wp2_with fail
   refine(HPO2.out _ HBA.out).mono ?_
   rintro e w2⟨rfl,hb2⟩
   have HB2:=hidP (HBA.out.trans (hb2.mono HBA.out.size))
   have hR2:w2.heap[wr.heap.size]?=some (.cells #[.int .i64 a1,.int .i64 a2,.int .i64 a3,.int .i64 a4,.int .i64 a5,.int .i64 a6,.int .i64 a7,.int .i64 a8] 32 (0,0)):=(hb2.block _ (by simp)).trans hR
   have HO2:=hidP (OwnM.below HA.out.2.1 (((bzR _ wr).alloc (nzR _) _).trans (hb2.mono (by simp))))
   have HQ:=hidP HA.out.1
   have hwl:wr.heap.size<w2.heap.size:=(gzE.1 hR2).1
   have cel:∀i,w2.cell? ⟨wr.heap.size,i,none⟩=(#[.int .i64 a1,.int .i64 a2,.int .i64 a3,.int .i64 a4,.int .i64 a5,.int .i64 a6,.int .i64 a7,.int .i64 a8]:Array Value)[i]?:=fun i=>by simp[World.cell?,hR2]
   have u0:=cel 0
   have u1:=cel 1
   have u2:=cel 2
   have u3:=cel 3
   have u4:=cel 4
   have u5:=cel 5
   have u6:=cel 6
   have u7:=cel 7
   simp only[List.getElem?_toArray,List.getElem?_cons_zero,List.getElem?_cons_succ] at u0 u1 u2 u3 u4 u5 u6 u7
   have es:wrap64 ((kk:Int)+1)=((kk+1:Nat):Int):=by have:=HML.out;unfold wrap64;omega
   have HES:=hidP es
   clear cel hR hR2 hb2 t0 t1 t2 t3 t4 t5 t6 t7 HA HBA HPO2 es
   cases y
   ·have hes:=HES.out
    go_wp2_with fail
    go_roundg (n - (kk+1))
    case measure=>clear hes;omega
    case rel=>exact⟨kk+1,m,q,c,hlt,nzR _,by go_num,rfl,by rw[HFL.out];simpa using HQ.out,by rw[HFL.out];simpa using HO2.out,HB2.out⟩
   ·have HFT:Hid ((os.take (kk+1)).filter (fun o=>!wkB x o)=(os.take kk).filter (fun o=>!wkB x o)++[(⟨a1,a2,a3,a4,a5,a6,a7,a8⟩:O)]):=by
     show _=_
     rw[HFL.out]
     rfl
    clear HFL
    go_wp2_with (at_builtin;(refine wpList_append_mid _ rfl _ _ 57 rfl w.heap.size 32 i0 zeroR 8 64 Tryz.underlying57 HI.out hz0 hz1 hz2 rfl (.slice q m c) m (flat ((os.take kk).filter (fun o=>!wkB x o))) rfl ?p0 ⟨w2.heap.size,0,none⟩ 1 1 (oL ⟨a1,a2,a3,a4,a5,a6,a7,a8⟩) rfl rfl (World.news_of_block (cs:=#[.int .i64 a1,.int .i64 a2,.int .i64 a3,.int .i64 a4,.int .i64 a5,.int .i64 a6,.int .i64 a7,.int .i64 a8]) (heap_alloc_new _ _)) (by simp[Value.oneCell',oL]) ?p1 ?p2 ?p3 ?_))
    case p0=>
     have:=OwnM.below HO2.out ((bzR _ w2).alloc (nzR _) (.cells #[.int .i64 a1,.int .i64 a2,.int .i64 a3,.int .i64 a4,.int .i64 a5,.int .i64 a6,.int .i64 a7,.int .i64 a8] 32))
     rwa [←HQ.out] at this
    case p1=>exact(HZ1.out m HML.out.1 HML.out.2.1 HML.out.2.2).1
    case p2=>exact(HZ1.out m HML.out.1 HML.out.2.1 HML.out.2.2).2
    case p3=>have:=HB2.out.size;simp;omega
    intro v' w' hO' hgr hat
    have HB3:Hid (Below w.heap.size w w'):=(HB2.out.alloc HB2.out.size (.cells #[.int .i64 a1,.int .i64 a2,.int .i64 a3,.int .i64 a4,.int .i64 a5,.int .i64 a6,.int .i64 a7,.int .i64 a8] 32)).grown hgr (by have:=HB2.out.size;simp;omega) (fun k hk=>(OwnM.lt HO2.out k hk).1)
    have HO3:Hid (OwnQ w' w.heap.size v' ((os.take (kk+1)).filter (fun o=>!wkB x o))∧m+1=((os.take (kk+1)).filter (fun o=>!wkB x o)).length):=by
     rw[HFT.out]
     have e1:m+1=((os.take kk).filter (fun o=>!wkB x o)++[(⟨a1,a2,a3,a4,a5,a6,a7,a8⟩:O)]).length:=by
      rw[List.length_append,←HQ.out];rfl
     refine⟨?_,e1⟩
     show OwnM _ _ _ _ _ _ _
     rw[←e1,flat_append]
     exact hO'
    obtain⟨q',c',rfl⟩:=OwnM.form hO'
    have hes:=HES.out
    clear hO' hgr hat u0 u1 u2 u3 u4 u5 u6 u7
    go_wp2_with fail
    go_roundg (n - (kk+1))
    case measure=>clear hes;omega
    case rel=>exact⟨kk+1,m+1,q',c',hlt,nzR _,by go_num,rfl,HO3.out.2,HO3.out.1,HB3.out⟩
  ·have hltz:¬(kk:Int)<(n:Int):=by omega
   have hk:os.take kk=os:=List.take_of_length_le (by have:=HN.out;omega)
   rw[hk] at HA
   go_wp2_with fail
   go_ret
   exact⟨q,m,c,rfl,HA.out.1,HA.out.2.1,HA.out.2.2⟩
end wak
end Go.Proofs.YtifjhlgjgnnnpaaGreat
