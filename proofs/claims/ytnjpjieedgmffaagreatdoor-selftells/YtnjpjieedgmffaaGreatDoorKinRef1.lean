import Derived.Test.YtnjpjieedgmffaaGreatDoorMeeOwn
import Derived.Test.YtnjpjieedgmffaaGreatDoorMeeFact2
import Derived.Test.YtnjpjieedgmffaaGreatDoorSidLay
import Derived.Test.YtnjpjieedgmffaaGreatDoorQueTake1
import Derived.Test.YtnjpjieedgmffaaGreatDoorBokFind
import Derived.Test.YtnjpjieedgmffaaGreatDoorKinRest
import Derived.Test.YtnjpjieedgmffaaGreatDoorSidRef9
namespace Go.Proofs.YtnjpjieedgmffaaGreatDoor.mee
open Go.RowKit spn que sid bok
open ord (O mB chk)
def secB (o:Obj):Bool:=match o with
 | .cells _ t _=>decide (t=31) || decide (t=74)
 | _=>false
def hid1 (b0 k:Nat) (o:Obj):Obj:=if b0≤k∧secB o=true then .cells #[] 0 (0,0) else o
def hide (b0:Nat) (w:World):World:={ w with heap:=w.heap.mapIdx (fun k o=>hid1 b0 k o) }
theorem hide_size (b0:Nat) (w:World):(hide b0 w).heap.size=w.heap.size:=by simp[hide]
theorem hide_at (b0:Nat) (w:World) (k:Nat):(hide b0 w).heap[k]?=(w.heap[k]?).map (hid1 b0 k):=by simp[hide]
theorem hide_cell {b0:Nat}{w:World}{g i:Nat}{x:Value}(h:(hide b0 w).cell? ⟨g,i,none⟩=some x):w.cell? ⟨g,i,none⟩=some x:=by
 unfold World.cell? at *
 rw[hide_at] at h
 cases hq:w.heap[g]? with
 | none=>rw[hq] at h;simp at h
 | some o=>
  rw[hq] at h
  simp only[Option.map_some] at h
  by_cases hc:b0≤g∧secB o=true
  ·rw[show hid1 b0 g o=.cells #[] 0 (0,0) from if_pos hc] at h
   simp at h
  ·rw[show hid1 b0 g o=o from if_neg hc] at h
   exact h
theorem hide_lies {b0:Nat}{w:World}{b o:Nat}{zs:List R}(h:que.Lies (hide b0 w) b o zs):que.Lies w b o zs:=fun j hj i v hv=>hide_cell (h j hj i v hv)
theorem hide_sl {b0:Nat}{w:World}{v:Value}{zs:List R}(h:que.SL (hide b0 w) v zs):que.SL w v zs:=by
 rcases h with h|⟨b,o,c,h1,h2,h3,h4,h5⟩
 ·exact .inl h
 ·exact .inr ⟨b,o,c,h1,h2,h3,by rw[hide_size] at h4;exact h4,hide_lies h5⟩
theorem hide_sle {b0:Nat}{w:World}{v:Value}{zs:List R}(h:SLe (hide b0 w) v zs):SLe w v zs:=h.imp hide_sl id
theorem hide_ls {b0:Nat}{w:World}{v:Value}{ls:List L}(h:LS (hide b0 w) v ls):LS w v ls:=by
 rcases h with h|⟨b,o,c,h1,h2,h3,h4,h5⟩
 ·exact .inl h
 ·refine .inr ⟨b,o,c,h1,h2,h3,by rw[hide_size] at h4;exact h4,fun k hk=>?_⟩
  obtain⟨a0,u,a1,a2⟩:=h5 k hk
  exact⟨hide_cell a0,u,hide_cell a1,hide_sle a2⟩
theorem hide_rsl {b0:Nat}{w:World}{v:Value}{zs:List rlv.RL}(h:rlv.SL (hide b0 w) v zs):rlv.SL w v zs:=by
 rcases h with h|⟨b,o,c,h1,h2,h3,h4,h5⟩
 ·exact .inl h
 ·exact .inr ⟨b,o,c,h1,h2,h3,by rw[hide_size] at h4;exact h4,fun j hj i v hv=>hide_cell (h5 j hj i v hv)⟩
theorem hide_below {b0:Nat}{w w' : World}(h:Below w.heap.size w w'):Below (hide b0 w).heap.size (hide b0 w) (hide b0 w'):=by
 refine⟨h.os,h.tape,h.output,by rw[hide_size,hide_size];exact h.size,fun k hk=>?_⟩
 rw[hide_size] at hk
 rw[hide_at,hide_at,h.block k hk]
theorem hide_put {b0:Nat}{w w' : World}{k:Nat}(h:w.grownBy w' (some k)) (hb:b0≤k) (s1:∃o,w.heap[k]?=some o∧secB o=true) (s2:∃o,w'.heap[k]?=some o∧secB o=true):Below (hide b0 w).heap.size (hide b0 w) (hide b0 w'):=by
 obtain⟨g1,g2,g3,g4,g5⟩:=h
 obtain⟨o1,e1,p1⟩:=s1
 obtain⟨o2,e2,p2⟩:=s2
 refine⟨g1,g2,g3,by rw[hide_size,hide_size];exact g4,fun j hj=>?_⟩
 rw[hide_size] at hj
 rw[hide_at,hide_at]
 by_cases e:j=k
 ·subst e
  rw[e1,e2]
  simp only[Option.map_some]
  rw[show hid1 b0 j o1=.cells #[] 0 (0,0) from if_pos ⟨hb,p1⟩,show hid1 b0 j o2=.cells #[] 0 (0,0) from if_pos ⟨hb,p2⟩]
 ·rw[g5 j hj (fun e2=>e (by cases e2;rfl))]
theorem hide_first {w V:World}(h:Below w.heap.size w V):Below w.heap.size w (hide w.heap.size V):=by
 refine⟨h.os,h.tape,h.output,by rw[hide_size];exact h.size,fun k hk=>?_⟩
 rw[hide_at,h.block k hk]
 cases w.heap[k]? with
 | none=>rfl
 | some o=>
  simp only[Option.map_some]
  rw[show hid1 w.heap.size k o=o from if_neg (by omega)]
theorem hide_own {b0:Nat}{w:World}{base:Nat}{e:TypeId}{sz:Nat}{v:Value}{n:Nat}{xs:List Value}(h:OwnM w base e sz v n xs) (he:e≠31∧e≠74):OwnM (hide b0 w) base e sz v n xs:=by
 refine⟨h.1,?_⟩
 rcases h.2 with hn|⟨g,off,cap,cur,rfl,hb,hgg,rest⟩
 ·exact .inl hn
 ·refine .inr ⟨g,off,cap,cur,rfl,hb,?_,rest⟩
  rw[hide_at,hgg]
  simp only[Option.map_some]
  rw[show hid1 b0 g (.cells cur e (0,0))=.cells cur e (0,0) from if_neg (by simp[secB,he.1,he.2])]
theorem ownQ_hide {b0:Nat}{w:World}{base:Nat}{v:Value}{zs:List R}(h:OwnQ w base v zs):OwnQ (hide b0 w) base v zs:=hide_own h (by decide)
theorem ownL_hide {b0:Nat}{w:World}{base:Nat}{v:Value}{zs:List rlv.RL}(h:rlv.OwnQ w base v zs):rlv.OwnQ (hide b0 w) base v zs:=hide_own h (by decide)
section
variable {P:Program}(w:World)
theorem run_append_midT (base:Nat) (t ty e:TypeId) (i:TypeInfo) (z:Value) (size bytes:Nat) (ht:P.underlying t=some (.slice e)) (hi:P.info? e=some i) (hz:i.zero=some z)
  (hsize:i.size=size) (hby:i.bytes=bytes) (hzs:z.cells.size=size)
  (v:Value) (n:Nat) (xs:List Value) (hown:OwnM w base e size v n xs)
  (a:Addr) (m c:Nat) (news:List Value) (hl:news.length=m * size) (hnews:∀j u,news[j]?=some u→w.cell? (a.add j)=some u) (h1:∀u∈news,u.oneCell'=true)
  (h63:n+m≤maxLen) (hbytes:(n+m) * bytes≤140737488355328) (hbase:base≤w.heap.size) :
  ∃v' w',(Builtin.append_ #[t,t] ty #[v,.slice (some a) m c]).run P w=.ok v' w'∧OwnM w' base e size v' (n+m) (xs++news)∧w.grownBy w' v.ownBlock∧(v'.ownBlock=v.ownBlock∨v'.ownBlock=some w.heap.size)∧(∀k,v.ownBlock=some k→∃cs,w'.heap[k]?=some (.cells cs e (0,0))):=by
 subst hsize
 subst hby
 have hsmall:n+m≤9223372036854775807:=by simp only[maxLen] at h63;omega
 have hlen:(xs++news).length=(n+m) * i.size:=by rw[List.length_append,hown.1,hl,Nat.add_mul]
 have grown:∀ (old:Nat),old < n+m→∀ (row:Option Nat),
   OwnM (w.drew.alloc (.cells (xs.toArray++news.toArray++Builtin.zeroCells z.cells (grownCap w (n+m) old e - (n+m))) e)) base e i.size
    (.slice (some ⟨w.heap.size,0,none⟩) (n+m) (grownCap w (n+m) old e)) (n+m) (xs++news)∧
   w.grownBy (w.drew.alloc (.cells (xs.toArray++news.toArray++Builtin.zeroCells z.cells (grownCap w (n+m) old e - (n+m))) e)) row:=by
  intro old ho row
  have hge:=grownCap_ge w (n+m) old e
  have hcm:grownCap w (n+m) old e≤maxLen:=grownCap_le_maxLen w (n+m) old e h63
  refine⟨⟨hlen,.inr ⟨w.heap.size,0,_,_,rfl,hbase,heap_alloc_new w.drew _,hge,hcm,?_,?_⟩⟩,⟨rfl,rfl,rfl,by simp,fun k hk _=>Below.heap_alloc w.drew _ k hk⟩⟩
  ·simp only[Array.size_append,List.size_toArray,size_zeroCells,hzs,hown.1,hl,←Nat.add_mul,Nat.zero_add]
   exact Nat.mul_le_mul_right _ (by omega)
  ·simp only[Array.toList_append,List.drop_zero]
   rw[←hlen]
   exact List.take_left
 rcases hown.2 with ⟨rfl,rfl⟩|⟨g,off,cap,cur,rfl,hbg,hg,hnc,hcm,hcs,htake⟩
 ·have hx:xs=[]:=List.eq_nil_of_length_eq_zero (by simpa using hown.1)
  subst hx
  by_cases hm:m=0
  ·subst hm
   have hn:news=[]:=List.eq_nil_of_length_eq_zero (by simpa using hl)
   subst hn
   refine⟨.slice none 0 0,w,?_,⟨by simp,.inl ⟨rfl,rfl⟩⟩,⟨rfl,rfl,rfl,nzR _,fun _ _ _=>rfl⟩,.inl rfl,fun k hk=>by simp[Value.ownBlock] at hk⟩
   simp[Builtin.append_,run_underlying ht,sizeOf,typeInfo,hi,Builtin.lenOf,Builtin.firstCells,loadCells,loadCellsFrom]
  ·have hr:=run_append_nil (P:=P) w t ty e i z ht hi hz a m c news hl hnews (by omega) (by omega) (by have hb:=hbytes;simp only[Nat.zero_add] at hb;omega)
   have hgr:=grown 0 (by omega) (Value.ownBlock (.slice none 0 0))
   simp only[Nat.zero_add,List.nil_append,Array.empty_append] at hgr ⊢
   exact⟨_,_,hr,hgr.1,hgr.2,.inr rfl,fun k hk=>by simp[Value.ownBlock] at hk⟩
 ·by_cases hroom:n+m≤cap
  ·have hle:(n+m) * i.size≤cap * i.size:=Nat.mul_le_mul_right _ hroom
   have hfit:off+n * i.size+news.length≤cur.size:=by rw[hl];rw[Nat.add_mul] at hle;omega
   have hr:=run_append_room_mid (P:=P) w t ty e i ht hi g off n cap cur hg a m c news hl hnews h1 hroom hfit
   refine⟨_,_,hr,⟨hlen,.inr ⟨g,off,cap,_,rfl,hbg,setRow_heap w g cur _ e _ hg,hroom,hcm,?_,?_⟩⟩,⟨rfl,rfl,rfl,by simp,fun k _ hk=>setRow_other w g k _ (fun e=>hk (by simp[Value.ownBlock,e]))⟩,.inl rfl,fun k hk=>by simp[Value.ownBlock] at hk;subst hk;exact⟨_,setRow_heap w g cur _ e _ hg⟩⟩
   ·simp only[List.size_toArray,List.length_append,List.length_take,List.length_drop,Array.length_toList]
    omega
   ·have hx:xs.length=n * i.size:=hown.1
    have hcl:off+n * i.size≤cur.toList.length:=by rw[Array.length_toList];omega
    have e1:cur.toList.take (off+n * i.size)=cur.toList.take off++xs:=by
     rw[←htake,←List.take_add]
    rw[e1,List.append_assoc,List.append_assoc,List.drop_append_of_le_length (by rw[List.length_take];omega),List.drop_eq_nil_of_le (by rw[List.length_take];omega),List.nil_append,←List.append_assoc,←hlen]
    exact List.take_left
  ·have holds:∀j u,xs[j]?=some u→w.cell? ((⟨g,off,none⟩:Addr).add j)=some u:=by
    intro j u hu
    rw[Addr.add_lit,cell_of_row w g (off+j) cur e (0,0) hg]
    rw[←htake,List.getElem?_take] at hu
    split at hu
    ·rw[List.getElem?_drop] at hu;simpa using hu
    ·cases hu
   have hr:=run_append_grow (P:=P) w t ty e i z ht hi hz ⟨g,off,none⟩ n cap xs hown.1 holds a m c news hl hnews (by omega) (by omega) (growslice_fits (by omega) hbytes)
   have hgr:=grown cap (by omega) (Value.ownBlock (.slice (some ⟨g,off,none⟩) n cap))
   exact⟨_,_,hr,hgr.1,hgr.2,.inr rfl,fun k hk=>by simp[Value.ownBlock] at hk;subst hk;exact⟨cur,((grown cap (by omega) none).2.block g (gzE.1 hg).1 (by simp)).trans hg⟩⟩
end
theorem step_append_eq {P:Program}{w:World}{ops:Array Oper}{o:Oper}{a:Act}{K:Act→World→Prop}{Q:Exit→Act→World→Prop}{E:Prop}(hgd:o.guard=none) (s x:Operand) (t:TypeId)
  (ho:o.op=.call { callee:=.builtin .append,args:=#[s,x],argTypes:=#[t,t] }) (vs vx:Value) (hs:a.eval s=vs) (hx:a.eval x=vx)
  (v' : Value) (w' : World) (hr:(Builtin.append_ #[t,t] o.type #[vs,vx]).run P w=.ok v' w') (h:K (a.put o.dst v') w') :
  if Region.wanted o (yielded ops a.tmps)=true then Oper.wp P o a w K Q else E:=by
 have hw:Region.wanted o (yielded ops a.tmps)=true:=by simp[Region.wanted,hgd]
 rw[if_pos hw]
 exact Lib.wp_append_run w s x t t ho vs vx hs hx v' w' hr h
abbrev appT:Value→Value→World→Value→World→Prop:=fun v x w v' w'=>(Builtin.append_ #[28,28] 28 #[v,x]).run Tryz.prog w=.ok v' w'
theorem one_tr (w:World) (a b c d e f:Int):∀j u,([.int .i64 a,.int .i64 b,.int .i64 c,.int .i64 d,.int .i64 e,.int .i64 f]:List Value)[j]?=some u→(w.alloc (.cells #[.int .i64 a,.int .i64 b,.int .i64 c,.int .i64 d,.int .i64 e,.int .i64 f] 74)).cell? ((⟨w.heap.size,0,none⟩:Addr).add j)=some u:=by
 intro j u hu
 rw[Addr.add_lit,World.cell?_alloc_at _ _ _ _ rfl]
 simpa using hu
theorem lay_trade {b0:Nat}{V W:World}{tv:Value}{ts:List T}(h:OwnT W V.heap.size tv ts) (hV:V.heap.size≤W.heap.size) (hb:b0≤V.heap.size) (hl:ts.length≤10000) (x:T) :
  ∃tq tn tc w1,appT tv (.slice (some ⟨W.heap.size,0,none⟩) 1 1) (W.alloc (.cells #[.int .i64 x.maker,.int .i64 x.taker,.int .i64 x.frm,.int .i64 x.into,.int .i64 x.price,.int .i64 x.qty] 74)) (.slice tq tn tc) w1∧OwnT w1 V.heap.size (.slice tq tn tc) (ts++[x])∧tn=ts.length+1∧Below V.heap.size W w1∧(∀v ls,LS (hide b0 W) v ls→LS (hide b0 w1) v ls):=by
 obtain⟨i0,hi0,hz0,hz1,hz2⟩:=infoT'
 obtain⟨U,hU⟩:∃U,U=W.alloc (.cells #[.int .i64 x.maker,.int .i64 x.taker,.int .i64 x.frm,.int .i64 x.into,.int .i64 x.price,.int .i64 x.qty] 74):=⟨_,rfl⟩
 have hB:Below W.heap.size W U:=by rw[hU];exact(bzR _ _).alloc (nzR _) _
 have hown:OwnT U V.heap.size tv ts:=OwnM.below h hB
 obtain⟨v',w',e1,e2,e3,e4,e5⟩:=run_append_midT (P:=Tryz.prog) U V.heap.size 28 28 74 i0 zeroT 6 48 Tryz.underlying28 hi0 hz0 hz1 hz2 rfl tv ts.length (flatT ts) hown ⟨W.heap.size,0,none⟩ 1 1 [.int .i64 x.maker,.int .i64 x.taker,.int .i64 x.frm,.int .i64 x.into,.int .i64 x.price,.int .i64 x.qty] rfl (by rw[hU];exact one_tr W _ _ _ _ _ _) (fun u hu=>by simp only[List.mem_cons,List.not_mem_nil,or_false] at hu;rcases hu with rfl|rfl|rfl|rfl|rfl|rfl <;> rfl) (by unfold maxLen;omega) (by omega) (Nat.le_trans hV hB.size)
 have e2' : OwnT w' V.heap.size v' (ts++[x]):=by
  show OwnM _ _ _ _ _ _ _
  rw[flatT_append,List.length_append]
  exact e2
 obtain⟨q',c',hf⟩:=OwnM.form e2'
 subst hf
 have hBV:Below V.heap.size W w':=(hB.mono hV).grown e3 (Nat.le_trans hV hB.size) (fun k hk=>(OwnM.lt h k hk).1)
 rw[hU] at e1
 refine⟨q',_,c',w',e1,e2',by simp,hBV,fun v ls hl=>?_⟩
 have h1:=hl.below (hide_below hB)
 cases hk:tv.ownBlock with
 | none=>
  rw[hk] at e3
  refine h1.below (hide_below ?_)
  exact⟨e3.os,e3.tape,e3.output,e3.size,fun k hk=>e3.block k hk (by simp)⟩
 | some k=>
  rw[hk] at e3
  obtain⟨cs,hcs⟩:=e5 k hk
  have hkb:=(OwnM.lt h k hk).1
  refine h1.below (hide_put e3 (by omega) ?_ ⟨_,hcs,by simp[secB]⟩)
  rcases hown.2 with ⟨e,-⟩|⟨g,off,cap,cur,e,-,hg,-⟩
  ·rw[e] at hk;simp[Value.ownBlock] at hk
  ·rw[e] at hk;simp[Value.ownBlock] at hk
   subst hk
   exact⟨_,hg,by simp[secB]⟩
structure MtK (b0:Nat) (V wr:World) (P:Nat) (o:O) (M:List L × List T × Int) (x tv:Value) (ls:List L) (ts:List T) (left:Int):Prop where
 grown:V.grownBy wr (some P)
 side:LS (hide b0 wr) x ls
 trades:OwnT wr V.heap.size tv ts
 good:∀l∈ls,lchk l=0
 left0:0≤left
 left1:left≤10000
 met:M=((tkl o ls left).1,ts++(tkl o ls left).2.1,(tkl o ls left).2.2)
theorem mk_start {b0:Nat}{w V:World}{P:Nat}{o:O}{x:Value}{ls:List L}{q:Int}(hB:Below w.heap.size w V) (h:LS (hide b0 w) x ls) (hg:∀l∈ls,lchk l=0) (h0:0≤q) (h1:q≤10000):MtK b0 V V P o (tkl o ls q) x (.slice none 0 0) ls [] q where
 grown:=⟨rfl,rfl,rfl,nzR _,fun _ _ _=>rfl⟩
 side:=h.below (hide_below hB)
 trades:=⟨rfl,.inl ⟨rfl,rfl⟩⟩
 good:=hg
 left0:=h0
 left1:=h1
 met:=rfl
theorem mk_below {b0:Nat}{V wr w' : World}{P:Nat}{o:O}{M:List L × List T × Int}{x tv:Value}{ls:List L}{ts:List T}{left:Int}(H:MtK b0 V wr P o M x tv ls ts left) (hB:Below wr.heap.size wr w'):MtK b0 V w' P o M x tv ls ts left where
 grown:=gr_trans H.grown (gr_below hB (some P))
 side:=H.side.below (hide_below hB)
 trades:=OwnM.below H.trades hB
 good:=H.good
 left0:=H.left0
 left1:=H.left1
 met:=H.met
theorem step_len (p:Int) (z:List R) (t:List L):(stepL p z t).length≤t.length+1:=by
 unfold stepL;split <;> simp
theorem setSeven {w:World}{B:Nat}{y0 y1 y2 y3 y4 y5 y6:Value}{t:TypeId}(h:w.heap[B]?=some (.cells #[y0,y1,y2,y3,y4,y5,y6] t (0,0))) (x0 x1 x2 x3 x4 x5 x6:Value) :
  (((((((w.setCell ⟨B,0,none⟩ x0).setCell ⟨B,1,none⟩ x1).setCell ⟨B,2,none⟩ x2).setCell ⟨B,3,none⟩ x3).setCell ⟨B,4,none⟩ x4).setCell ⟨B,5,none⟩ x5).setCell ⟨B,6,none⟩ x6).heap[B]?=some (.cells #[x0,x1,x2,x3,x4,x5,x6] t (0,0)):=by
 have h0:=heap_setCell_same _ B 0 _ _ x0 h
 simp only[List.setIfInBounds_toArray,List.set_cons_zero] at h0
 have h1:=heap_setCell_same _ B 1 _ _ x1 h0
 simp only[List.setIfInBounds_toArray,List.set_cons_zero,List.set_cons_succ] at h1
 have h2:=heap_setCell_same _ B 2 _ _ x2 h1
 simp only[List.setIfInBounds_toArray,List.set_cons_zero,List.set_cons_succ] at h2
 have h3:=heap_setCell_same _ B 3 _ _ x3 h2
 simp only[List.setIfInBounds_toArray,List.set_cons_zero,List.set_cons_succ] at h3
 have h4:=heap_setCell_same _ B 4 _ _ x4 h3
 simp only[List.setIfInBounds_toArray,List.set_cons_zero,List.set_cons_succ] at h4
 have h5:=heap_setCell_same _ B 5 _ _ x5 h4
 simp only[List.setIfInBounds_toArray,List.set_cons_zero,List.set_cons_succ] at h5
 have h6:=heap_setCell_same _ B 6 _ _ x6 h5
 simp only[List.setIfInBounds_toArray,List.set_cons_zero,List.set_cons_succ] at h6
 exact h6
theorem rowSeven {w:World}{B:Nat}{x0 x1 x2 x3 x4 x5 x6:Value}{t:TypeId}(h:w.heap[B]?=some (.cells #[x0,x1,x2,x3,x4,x5,x6] t (0,0))) :
  w.cell? ⟨B,0,none⟩=some x0∧w.cell? ⟨B,1,none⟩=some x1∧w.cell? ⟨B,2,none⟩=some x2∧w.cell? ⟨B,3,none⟩=some x3∧w.cell? ⟨B,4,none⟩=some x4∧w.cell? ⟨B,5,none⟩=some x5∧w.cell? ⟨B,6,none⟩=some x6∧∀j,w.frozen? ⟨B,j,none⟩=false:=
 ⟨by simp[World.cell?,h],by simp[World.cell?,h],by simp[World.cell?,h],by simp[World.cell?,h],by simp[World.cell?,h],by simp[World.cell?,h],by simp[World.cell?,h],fun j=>frozen_of_row w _ j _ _ h⟩
theorem grSeven (w:World) (B:Nat) (x0 x1 x2 x3 x4 x5 x6:Value):w.grownBy (((((((w.setCell ⟨B,0,none⟩ x0).setCell ⟨B,1,none⟩ x1).setCell ⟨B,2,none⟩ x2).setCell ⟨B,3,none⟩ x3).setCell ⟨B,4,none⟩ x4).setCell ⟨B,5,none⟩ x5).setCell ⟨B,6,none⟩ x6) (some B):=
 gr_trans (gr_trans (gr_trans (gr_trans (gr_trans (gr_trans (gr_setCell _ _ _ _) (gr_setCell _ _ _ _)) (gr_setCell _ _ _ _)) (gr_setCell _ _ _ _)) (gr_setCell _ _ _ _)) (gr_setCell _ _ _ _)) (gr_setCell _ _ _ _)
theorem seven_two {w:World}{B:Nat}{y0 y1 y2 y3 y4 y5 y6:Value}{t:TypeId}(h:w.heap[B]?=some (.cells #[y0,y1,y2,y3,y4,y5,y6] t (0,0))) (x0 x1:Value) :
  ((w.setCell ⟨B,0,none⟩ x0).setCell ⟨B,1,none⟩ x1).heap[B]?=some (.cells #[x0,x1,y2,y3,y4,y5,y6] t (0,0)):=by
 have h0:=heap_setCell_same _ B 0 _ _ x0 h
 simp only[List.setIfInBounds_toArray,List.set_cons_zero] at h0
 have h1:=heap_setCell_same _ B 1 _ _ x1 h0
 simp only[List.setIfInBounds_toArray,List.set_cons_zero,List.set_cons_succ] at h1
 exact h1
theorem seven_at2 {w:World}{B:Nat}{y0 y1 y2 y3 y4 y5 y6:Value}{t:TypeId}(h:w.heap[B]?=some (.cells #[y0,y1,y2,y3,y4,y5,y6] t (0,0))) (x:Value) :
  (w.setCell ⟨B,2,none⟩ x).heap[B]?=some (.cells #[y0,y1,x,y3,y4,y5,y6] t (0,0)):=by
 have h0:=heap_setCell_same _ B 2 _ _ x h
 simp only[List.setIfInBounds_toArray,List.set_cons_zero,List.set_cons_succ] at h0
 exact h0
theorem seven_at3 {w:World}{B:Nat}{y0 y1 y2 y3 y4 y5 y6:Value}{t:TypeId}(h:w.heap[B]?=some (.cells #[y0,y1,y2,y3,y4,y5,y6] t (0,0))) (x:Value) :
  (w.setCell ⟨B,3,none⟩ x).heap[B]?=some (.cells #[y0,y1,y2,x,y4,y5,y6] t (0,0)):=by
 have h0:=heap_setCell_same _ B 3 _ _ x h
 simp only[List.setIfInBounds_toArray,List.set_cons_zero,List.set_cons_succ] at h0
 exact h0
theorem rowSix {w:World}{B:Nat}{x0 x1 x2 x3 x4 x5:Value}{t:TypeId}(h:w.heap[B]?=some (.cells #[x0,x1,x2,x3,x4,x5] t (0,0))) :
  w.cell? ⟨B,0,none⟩=some x0∧w.cell? ⟨B,1,none⟩=some x1∧w.cell? ⟨B,2,none⟩=some x2∧w.cell? ⟨B,3,none⟩=some x3∧w.cell? ⟨B,4,none⟩=some x4∧w.cell? ⟨B,5,none⟩=some x5:=
 ⟨by simp[World.cell?,h],by simp[World.cell?,h],by simp[World.cell?,h],by simp[World.cell?,h],by simp[World.cell?,h],by simp[World.cell?,h]⟩
theorem mk_next {b0:Nat}{V wr w' : World}{P:Nat}{o:O}{M:List L × List T × Int}{x tv x' tv' : Value}{p left:Int}{r:R}{rs:List R}{t:List L}{ts:List T}(H:MtK b0 V wr P o M x tv (⟨p,r::rs⟩::t) ts left) (hl:0 < left) (hm:mB o p=true)
  (hg:V.grownBy w' (some P)) (hs:LS (hide b0 w') x' (stepL p (tk1 (min left r.qty) r rs) t)) (ht:OwnT w' V.heap.size tv' (ts++[trd o p ⟨r.id,r.who,min left r.qty⟩])) :
  MtK b0 V w' P o M x' tv' (stepL p (tk1 (min left r.qty) r rs) t) (ts++[trd o p ⟨r.id,r.who,min left r.qty⟩]) (left - min left r.qty)∧left - min left r.qty < left:=by
 have hq:qchk (r::rs)=0:=(lchk_zero (H.good ⟨p,r::rs⟩ (by simp))).2.2
 have hp:=rest_pos hq
 have hL:=H.left1
 refine⟨⟨hg,hs,ht,step_good hl H.good,by omega,by omega,?_⟩,by omega⟩
 have h:=H.met
 rw[tkl_fill hl hm hq] at h
 rw[h]
 simp
theorem mk_end {b0:Nat}{V wr:World}{P:Nat}{o:O}{M:List L × List T × Int}{x tv:Value}{ls:List L}{ts:List T}{left:Int}(H:MtK b0 V wr P o M x tv ls ts left) (h:tkl o ls left=(ls,[],left)):M=(ls,ts,left):=by
 have hm:=H.met
 rw[h] at hm
 simpa using hm
theorem mk_stop {o:O}{ls:List L}{left:Int}(h:left≤0∨ls=[]∨∃l t,ls=l::t∧mB o l.price=false):tkl o ls left=(ls,[],left):=by
 rcases h with h|h|⟨l,t,h,hm⟩
 ·exact tkl_zero h
 ·rw[h];rfl
 ·rw[h];exact tkl_stop hm
theorem mk_long {b0:Nat}{V wr:World}{P:Nat}{o:O}{M:List L × List T × Int}{x tv:Value}{ls:List L}{ts:List T}{left:Int}(H:MtK b0 V wr P o M x tv ls ts left):ts.length≤M.2.1.length:=by
 rw[H.met];simp
theorem mk_first {b0:Nat}{w:World}{q:Option Addr}{n c:Nat}{p:Int}{zs:List R}{t:List L}(h:LS (hide b0 w) (.slice q n c) (⟨p,zs⟩::t)) :
  n=t.length+1∧n≤c∧c≤9223372036854775807∧∃b o,q=some ⟨b,o,none⟩∧b < w.heap.size∧w.cell? ⟨b,o,none⟩=some (.int .i64 p)∧∃rq rc,w.cell? ⟨b,o+1,none⟩=some (.slice rq zs.length rc)∧SLe w (.slice rq zs.length rc) zs∧
   ∃xr:List RP,xr.map toL=t∧(∀y∈xr,SLe (hide b0 w) (sv y.1) y.2)∧rlv.SL w (.slice (some ⟨b,rlv.offK o 1 c,none⟩) (n - 1) (c - 1)) (xr.map (·.1)):=by
 have hn:=ls_len h
 obtain⟨ps,e1,e2,e3⟩:=ls_loose h
 rcases h with ⟨-,e⟩|⟨b,o,c',e,hc,hm,hb,hl⟩
 ·cases e
 ·cases e
  rw[hide_size] at hb
  obtain⟨rq,rc,c0,c1,hsl⟩:=LL.at hl (k:=0) (by simp) rfl
  simp only[Nat.zero_mul,Nat.add_zero] at c0 c1
  have hlen:ps.length=t.length+1:=by
   have:=congrArg List.length e1
   simpa using this
  have hdt:(ps.drop 1).map toL=t:=by
   rw[List.map_drop,e1]
   rfl
  refine⟨by simp at hn ⊢,hc,hm,b,o,rfl,hb,hide_cell c0,rq,rc,hide_cell c1,hide_sle hsl,ps.drop 1,hdt,fun y hy=>e3 y (List.mem_of_mem_drop hy),?_⟩
  have hr:=hide_rsl e2
  rcases hr with ⟨e,-⟩|⟨b',o',c'',e,-,-,-,h5⟩
  ·cases e
  ·simp only[Value.slice.injEq,Option.some.injEq,Addr.mk.injEq] at e
   obtain⟨⟨rfl,rfl,-⟩,-,rfl⟩:=e
   have hcl:(ps.map (·.1)).length≤c:=by rw[List.length_map,hlen];simpa using hc
   have:=rlv.sl_drop (w:=w) (b:=b) (o:=o) (c:=c) (k:=1) (zs:=ps.map (·.1)) (by rw[List.length_map];omega) hcl hm hb h5
   rw[List.length_map,hlen] at this
   rw[List.map_drop]
   simpa using this
theorem mk_lay {b0:Nat}{w W W1:World}{p:Int}{vq:Option Addr}{vn vc:Nat}{z:List R}{t:List L}{xr:List RP}{xt v4:Value}(ht:xr.map toL=t) (hx:∀y∈xr,SLe (hide b0 w) (sv y.1) y.2) (hs:rlv.SL w xt (xr.map (·.1))) (hl:t.length≤100)
  (hB:Below w.heap.size w W) (hv:SLe (hide b0 W) (.slice vq vn vc) z) (hB1:Below W.heap.size W W1) (ho:rlv.OwnQ W1 W.heap.size v4 (if z=[] then [] else [⟨p,vq,vn,vc⟩])) :
  ∃xq xn xc w2,appL v4 xt W1.drew (.slice xq xn xc) w2∧LS (hide b0 w2) (.slice xq xn xc) (stepL p z t)∧Below W.heap.size W w2:=by
 have hd:Below W1.heap.size W1 W1.drew:=(bzR _ _).drew
 have hWd:Below W.heap.size W W1.drew:=hB1.trans (hd.mono hB1.size)
 have hwd:Below w.heap.size w W1.drew:=hB.trans (hWd.mono hB.size)
 have hlen:(if z=[] then ([]:List rlv.RL) else [⟨p,vq,vn,vc⟩]).length≤1:=by split <;> simp
 have hxl:(xr.map (·.1)).length=t.length:=by rw[←ht];simp
 obtain⟨v5,w5,e1,o5,g5,-⟩:=rlv.run_append_r W1.drew W.heap.size v4 xt _ (xr.map (·.1)) (OwnM.below ho hd) (hs.below hwd) (by omega) hWd.size
 have hB5:Below W.heap.size W w5:=hWd.grown g5 hWd.size (fun k hk=>(OwnM.lt ho k hk).1)
 have hx5:∀y∈xr,SLe (hide b0 w5) (sv y.1) y.2:=fun y hy=>(hx y hy).below (hide_below (hB.trans (hB5.mono hB.size)))
 have ho5:=ownL_hide (b0:=b0) o5
 have key:LS (hide b0 w5) v5 (stepL p z t):=by
  unfold stepL
  by_cases hz:z=[]
  ·rw[if_pos hz] at ho5 ⊢
   have h:Loose (hide b0 w5) v5 xr:=⟨rlv.OwnQ.sl ho5,hx5⟩
   rw[←ht]
   exact h.ls
  ·rw[if_neg hz] at ho5 ⊢
   have h:Loose (hide b0 w5) v5 ((⟨p,vq,vn,vc⟩,z)::xr):=by
    refine⟨rlv.OwnQ.sl ho5,fun y hy=>?_⟩
    rcases List.mem_cons.1 hy with rfl|hy
    ·exact hv.below (hide_below hB5)
    ·exact hx5 y hy
   rw[←ht]
   exact h.ls
 obtain⟨q5,c5,hf⟩:=OwnM.form o5
 rw[hf] at e1 key
 exact⟨q5,_,c5,w5,e1,key,hB5⟩
def MeetPost (b0:Nat) (bs ss:List L) (o:O) (w:World) (e:Ending) (w' : World):Prop:=
 ((metR bs ss o).2.1.length≤400→∃q1 q2 n1 n2 c1 c2 tv,e=.returned (.tuple #[.agg #[.slice q1 n1 c1,.slice q2 n2 c2,tv,.int .i64 (metR bs ss o).2.2,.int .i64 0,.slice none 0 0,.bool false],.int .i64 0])∧LS (hide b0 w') (.slice q1 n1 c1) (metB bs ss o)∧LS (hide b0 w') (.slice q2 n2 c2) (metS bs ss o)∧OwnT w' w.heap.size tv (metR bs ss o).2.1)∧
 (¬(metR bs ss o).2.1.length≤400→e=.returned (.tuple #[.agg #[.slice none 0 0,.slice none 0 0,.slice none 0 0,.int .i64 0,.int .i64 0,.slice none 0 0,.bool false],.int .i64 4]))∧Below w.heap.size w w'
end Go.Proofs.YtnjpjieedgmffaaGreatDoor.mee
namespace Go.Proofs.YtnjpjieedgmffaaGreatDoor.kin
open Go.RowKit spn que sid bok
theorem hidKo {P:Prop}(h:P):Hid P:=h
theorem gr_atK {w w' : World}{P g i:Nat}{x:Value}(h:w.cell? ⟨g,i,none⟩=some x) (hg:w.grownBy w' (some P)) (hne:g≠P):w'.cell? ⟨g,i,none⟩=some x:=by
 have hlt:g < w.heap.size:=World.block_lt_of_cell? w ⟨g,i,none⟩ h
 rw[hg.cell_far ⟨g,i,none⟩ hlt (fun e=>hne (by cases e;rfl))];exact h
def NoL (w:World) (X:Nat):Prop:=∀j p q n c,w.cell? ⟨X,j,none⟩=some (.int .i64 p)→w.cell? ⟨X,j+1,none⟩=some (.slice q n c)→p < 1
def NoR (w:World) (X:Nat):Prop:=∀j a b c,w.cell? ⟨X,j,none⟩=some (.int .i64 a)→w.cell? ⟨X,j+1,none⟩=some (.int .i64 b)→w.cell? ⟨X,j+2,none⟩=some (.int .i64 c)→False
theorem two_no {w:World}{X:Nat}{q1 q2:Option Addr}{n1 n2 c1 c2:Nat}{t:TypeId}(h:w.heap[X]?=some (.cells #[.slice q1 n1 c1,.slice q2 n2 c2] t (0,0))):NoL w X∧NoR w X:=by
 have e:∀j,w.cell? ⟨X,j,none⟩=(#[.slice q1 n1 c1,.slice q2 n2 c2]:Array Value)[j]?:=fun j=>by simp[World.cell?,h]
 refine⟨fun j p q n c h1 _=>?_,fun j a b c h1 _ _=>?_⟩
 ·rw[e] at h1
  match j,h1 with
  | 0,h1=>simp at h1
  | 1,h1=>simp at h1
  | j+2,h1=>simp at h1
 ·rw[e] at h1
  match j,h1 with
  | 0,h1=>simp at h1
  | 1,h1=>simp at h1
  | j+2,h1=>simp at h1
theorem met_no {w:World}{X:Nat}{q1 q2 q3 q4:Option Addr}{n1 n2 n3 n4 c1 c2 c3 c4:Nat}{l:Int}{b:Bool}{t:TypeId}(h:w.heap[X]?=some (.cells #[.slice q1 n1 c1,.slice q2 n2 c2,.slice q3 n3 c3,.int .i64 l,.int .i64 0,.slice q4 n4 c4,.bool b] t (0,0))):NoL w X∧NoR w X:=by
 have e:∀j,w.cell? ⟨X,j,none⟩=(#[.slice q1 n1 c1,.slice q2 n2 c2,.slice q3 n3 c3,.int .i64 l,.int .i64 0,.slice q4 n4 c4,.bool b]:Array Value)[j]?:=fun j=>by simp[World.cell?,h]
 refine⟨fun j p q n c h1 h2=>?_,fun j a b c h1 h2 h3=>?_⟩
 ·rw[e] at h1 h2
  match j,h1,h2 with
  | 0,h1,_=>simp at h1
  | 1,h1,_=>simp at h1
  | 2,h1,_=>simp at h1
  | 3,_,h2=>simp at h2
  | 4,h1,_=>simp at h1;omega
  | 5,h1,_=>simp at h1
  | 6,h1,_=>simp at h1
  | j+7,h1,_=>simp at h1
 ·rw[e] at h1 h2 h3
  match j,h1,h2,h3 with
  | 0,h1,_,_=>simp at h1
  | 1,h1,_,_=>simp at h1
  | 2,h1,_,_=>simp at h1
  | 3,_,_,h3=>simp at h3
  | 4,_,h2,_=>simp at h2
  | 5,h1,_,_=>simp at h1
  | 6,h1,_,_=>simp at h1
  | j+7,h1,_,_=>simp at h1
theorem ls_off {w w' : World}{X:Nat}{v:Value}{ls:List L}(h:LS w v ls) (hg:w.grownBy w' (some X)) (hn:NoL w X∧NoR w X) (hl:∀l∈ls,lchk l=0):LS w' v ls:=by
 rcases h with h|⟨b,o,c,h1,h2,h3,h4,h5⟩
 ·exact .inl h
 ·refine .inr ⟨b,o,c,h1,h2,h3,Nat.lt_of_lt_of_le h4 hg.size,fun k hk=>?_⟩
  obtain⟨a0,u,a1,a2⟩:=h5 k hk
  have hlk:=hl ls[k]! (by rw[getE _ _ hk];exact List.getElem_mem hk)
  obtain⟨hp,hne,hqk⟩:=lchk_zero hlk
  have hb:b≠X:=by
   intro e
   subst e
   obtain⟨q,n,hv⟩:=sl_form a2
   subst hv
   have:=hn.1 _ _ _ _ _ a0 a1
   omega
  refine⟨gr_atK a0 hg hb,u,gr_atK a1 hg hb,?_⟩
  rcases a2 with (a2|⟨b2,o2,c2,g1,g2,g3,g4,g5⟩)|a2
  ·exact .inl (.inl a2)
  ·refine .inl (.inr ⟨b2,o2,c2,g1,g2,g3,Nat.lt_of_lt_of_le g4 hg.size,fun j hj i x hx=>?_⟩)
   have hb2:b2≠X:=by
    intro e
    subst e
    have e0:=g5 j hj 0 _ rfl
    have e1:=g5 j hj 1 _ rfl
    have e2:=g5 j hj 2 _ rfl
    exact hn.2 _ _ _ _ e0 e1 e2
   exact gr_atK (g5 j hj i x hx) hg hb2
  ·exact .inr a2
theorem book_lv {bs ss:List L}(h:bookE bs ss=0):(∀l∈bs,lchk l=0)∧(∀l∈ss,lchk l=0):=by
 obtain⟨e1,e2,-⟩:=book_zero h
 exact⟨sgo_each (schk_zero e1).2.1,sgo_each (schk_zero e2).2.1⟩
end Go.Proofs.YtnjpjieedgmffaaGreatDoor.kin
namespace Go.Proofs.YtnjpjieedgmffaaGreatDoor.kin
open Go.RowKit spn que sid bok mee
open ord (O oV mB mE chk meets_any)
open tickP (priceB sideB betOk betR)
set_option maxRecDepth 100000 in
set_option maxHeartbeats 2000000 in
theorem rkept_any (a b c d p q s t k:Int) (w:World) (hs:0≤s) (hs2:s≤10000) (hk:1≤k) (hk2:k≤10000) :
  Calls Tryz.prog 18 #[.agg #[.int .i64 a,.int .i64 b,.int .i64 c,.int .i64 d,.int .i64 p,.int .i64 q,.int .i64 s,.int .i64 t],.int .i64 k] w fun e w'=>e=.returned (rB (keptR ⟨a,b,c,d,p,q,s,t⟩ k))∧Below w.heap.size w w':=by
 obtain⟨V2,hV2⟩:∃V2,V2=w.alloc (.cells #[.int .i64 a,.int .i64 b,.int .i64 c,.int .i64 d,.int .i64 p,.int .i64 q,.int .i64 s,.int .i64 t] 26):=⟨_,rfl⟩
 have hs2' : V2.heap.size=w.heap.size+1:=by rw[hV2];simp
 have hB2:Below w.heap.size w V2:=by rw[hV2];exact(bzR _ _).alloc (nzR _) _
 have hO2:V2.heap[w.heap.size]?=some (.cells #[.int .i64 a,.int .i64 b,.int .i64 c,.int .i64 d,.int .i64 p,.int .i64 q,.int .i64 s,.int .i64 t] 26 (0,0)):=by rw[hV2];exact heap_alloc_new w _
 obtain⟨V3,hV3⟩:∃V3,V3=V2.alloc (.cells #[.int .i64 0,.int .i64 0,.int .i64 0,.int .i64 0,.int .i64 0] 55):=⟨_,rfl⟩
 have hs3:V3.heap.size=w.heap.size+2:=by rw[hV3];simp[hs2']
 have hB3:Below V2.heap.size V2 V3:=by rw[hV3];exact(bzR _ _).alloc (nzR _) _
 have hR3:V3.heap[w.heap.size+1]?=some (.cells #[.int .i64 0,.int .i64 0,.int .i64 0,.int .i64 0,.int .i64 0] 55 (0,0)):=by rw[←hs2',hV3];exact heap_alloc_new V2 _
 obtain⟨V,hV⟩:∃V,V=V3.alloc (.cells #[.int .i64 a,.int .i64 b,.int .i64 k,.int .i64 0,.int .i64 s] 55):=⟨_,rfl⟩
 have hBV:Below V3.heap.size V3 V:=by rw[hV];exact(bzR _ _).alloc (nzR _) _
 have hRV:V.heap[w.heap.size+2]?=some (.cells #[.int .i64 a,.int .i64 b,.int .i64 k,.int .i64 0,.int .i64 s] 55 (0,0)):=by rw[←hs3,hV];exact heap_alloc_new V3 _
 have hR0:=(hBV.block (w.heap.size+1) (by omega)).trans hR3
 have hO0:V.heap[w.heap.size]?=some (.cells #[.int .i64 a,.int .i64 b,.int .i64 c,.int .i64 d,.int .i64 p,.int .i64 q,.int .i64 s,.int .i64 t] 26 (0,0)):=by rw[hBV.block _ (by omega),hB3.block _ (by omega)];exact hO2
 have HB:Hid (Below w.heap.size w V):=by
  have h:=hB2.trans (hB3.mono hB2.size)
  exact h.trans (hBV.mono h.size)
 obtain⟨P,hP⟩:∃P,P=w.heap.size+1:=⟨_,rfl⟩
 obtain⟨Q,hQ⟩:∃Q,Q=w.heap.size+2:=⟨_,rfl⟩
 rw[←hP] at hR0
 rw[←hQ] at hRV
 have HP:=hidK (show P=w.heap.size+1∧Q=w.heap.size+2 from⟨hP,hQ⟩)
 have cel:∀i,V.cell? ⟨w.heap.size,i,none⟩=(#[.int .i64 a,.int .i64 b,.int .i64 c,.int .i64 d,.int .i64 p,.int .i64 q,.int .i64 s,.int .i64 t]:Array Value)[i]?:=fun i=>by simp[World.cell?,hO0]
 have c6:=cel 6
 simp only[List.getElem?_toArray,List.getElem?_cons_zero,List.getElem?_cons_succ] at c6
 clear hs2' hB2 hO2 hs3 hB3 hR3 hBV hO0 cel
 obtain⟨d0,d1,d2,d3,d4,df⟩:=rowFive hRV
 have df2:=df 2
 have df3:=df 3
 by_cases hbig:0 < s∧s < k
 ·have h1:0 < s:=hbig.1
  have h2:s < k:=hbig.2
  obtain⟨y,hy⟩:∃y,k - s=y:=⟨_,rfl⟩
  have E1:Hid (wrap64 (k - s)=y):=by show _=_;rw[←hy];unfold wrap64;omega
  have hkr:Hid (rB (keptR ⟨a,b,c,d,p,q,s,t⟩ k)=.agg #[.int .i64 a,.int .i64 b,.int .i64 s,.int .i64 y,.int .i64 s]):=by
   show _=_
   have e:shownK ⟨a,b,c,d,p,q,s,t⟩ k=s:=by unfold shownK;rw[if_neg (show ¬s=0 by omega)];show min s k=s;omega
   unfold keptR rB
   rw[e,hy]
  clear hbig hs hs2 hk hk2 hy df
  go_enter Tryz.func18,Tryz.ntmps18
  go_upto_region 2 with fail
  rw[←hV2,←hV3,←hV]
  simp only[←hQ]
  simp only[←hP]
  clear hV2 hV3 hV hP hQ
  have x1:=E1.out
  go_upto_region 5 with fail
  have hg1:V.grownBy ((V.setCell ⟨Q,2,none⟩ (.int .i64 s)).setCell ⟨Q,3,none⟩ (.int .i64 y)) (some Q):=gr_trans (gr_setCell _ _ _ _) (gr_setCell _ _ _ _)
  have hRW:((V.setCell ⟨Q,2,none⟩ (.int .i64 s)).setCell ⟨Q,3,none⟩ (.int .i64 y)).heap[Q]?=some (.cells #[.int .i64 a,.int .i64 b,.int .i64 s,.int .i64 y,.int .i64 s] 55 (0,0)):=by
   have h0:=heap_setCell_same _ Q 2 _ _ (.int .i64 s) hRV
   simp only[List.setIfInBounds_toArray,List.set_cons_zero,List.set_cons_succ] at h0
   have h1:=heap_setCell_same _ Q 3 _ _ (.int .i64 y) h0
   simp only[List.setIfInBounds_toArray,List.set_cons_zero,List.set_cons_succ] at h1
   exact h1
  have hRP:=(hg1.block P (gzE.1 hR0).1 (fun e=>by cases e;have:=HP.out;omega)).trans hR0
  have HBW:=hidK (HB.out.grown hg1 HB.out.size (fun k hk=>by cases hk;have:=HP.out;omega))
  clear hg1 d0 d1 d2 d3 d4 df2 df3 c6 x1 hR0 hRV HB
  generalize (V.setCell ⟨Q,2,none⟩ (.int .i64 s)).setCell ⟨Q,3,none⟩ (.int .i64 y)=W at *
  obtain⟨d0,d1,d2,d3,d4,-⟩:=rowFive hRW
  obtain⟨z0,z1,z2,z3,z4,zf⟩:=rowFive hRP
  have f0:=zf 0
  have f1:=zf 1
  have f2:=zf 2
  have f3:=zf 3
  have f4:=zf 4
  have HHX:=hidK (setFive hRP (.int .i64 a) (.int .i64 b) (.int .i64 s) (.int .i64 y) (.int .i64 s))
  have hg:=grFive W P (.int .i64 a) (.int .i64 b) (.int .i64 s) (.int .i64 y) (.int .i64 s)
  have HPO:=hidK (HBW.out.grown hg HBW.out.size (fun k hk=>by cases hk;have:=HP.out;omega))
  clear hg zf hRP hRW
  go_wp2_with fail
  generalize (((((W.setCell ⟨P,0,none⟩ (.int .i64 a)).setCell ⟨P,1,none⟩ (.int .i64 b)).setCell ⟨P,2,none⟩ (.int .i64 s)).setCell ⟨P,3,none⟩ (.int .i64 y)).setCell ⟨P,4,none⟩ (.int .i64 s))=X at *
  obtain⟨y0,y1,y2,y3,y4,-⟩:=rowFive HHX.out
  exact bodyPost_ret (v:=.agg #[.int .i64 a,.int .i64 b,.int .i64 s,.int .i64 y,.int .i64 s]) (by simp[results,Tryz.results18,go_sem,y0,y1,y2,y3,y4]) rfl ⟨by rw[hkr.out],HPO.out⟩
 ·have hkr:Hid (rB (keptR ⟨a,b,c,d,p,q,s,t⟩ k)=.agg #[.int .i64 a,.int .i64 b,.int .i64 k,.int .i64 0,.int .i64 s]):=by
   show _=_
   have e:shownK ⟨a,b,c,d,p,q,s,t⟩ k=k:=by
    unfold shownK
    by_cases h0:s=0
    ·rw[if_pos h0]
    ·rw[if_neg h0];show min s k=k;omega
   unfold keptR rB
   rw[e,show k - k=0 by omega]
  have HHX:=hidK (setFive hR0 (.int .i64 a) (.int .i64 b) (.int .i64 k) (.int .i64 0) (.int .i64 s))
  have hg:=grFive V P (.int .i64 a) (.int .i64 b) (.int .i64 k) (.int .i64 0) (.int .i64 s)
  have HPO:=hidK (HB.out.grown hg HB.out.size (fun k hk=>by cases hk;have:=HP.out;omega))
  obtain⟨z0,z1,z2,z3,z4,zf⟩:=rowFive hR0
  have f0:=zf 0
  have f1:=zf 1
  have f2:=zf 2
  have f3:=zf 3
  have f4:=zf 4
  by_cases h1:0 < s
  ·have h2:¬s < k:=fun h=>hbig ⟨h1,h⟩
   clear hbig hs hs2 hk hk2 df zf hg hR0 hRV df2 df3
   go_enter Tryz.func18,Tryz.ntmps18
   go_upto_region 2 with fail
   rw[←hV2,←hV3,←hV]
   simp only[←hQ]
   simp only[←hP]
   clear hV2 hV3 hV hP hQ
   go_wp2_with fail
   generalize (((((V.setCell ⟨P,0,none⟩ (.int .i64 a)).setCell ⟨P,1,none⟩ (.int .i64 b)).setCell ⟨P,2,none⟩ (.int .i64 k)).setCell ⟨P,3,none⟩ (.int .i64 0)).setCell ⟨P,4,none⟩ (.int .i64 s))=X at *
   obtain⟨y0,y1,y2,y3,y4,-⟩:=rowFive HHX.out
   exact bodyPost_ret (v:=.agg #[.int .i64 a,.int .i64 b,.int .i64 k,.int .i64 0,.int .i64 s]) (by simp[results,Tryz.results18,go_sem,y0,y1,y2,y3,y4]) rfl ⟨by rw[hkr.out],HPO.out⟩
  ·clear hbig hs hs2 hk hk2 df zf hg hR0 hRV df2 df3
   go_enter Tryz.func18,Tryz.ntmps18
   go_upto_region 2 with fail
   rw[←hV2,←hV3,←hV]
   simp only[←hQ]
   simp only[←hP]
   clear hV2 hV3 hV hP hQ
   go_wp2_with fail
   generalize (((((V.setCell ⟨P,0,none⟩ (.int .i64 a)).setCell ⟨P,1,none⟩ (.int .i64 b)).setCell ⟨P,2,none⟩ (.int .i64 k)).setCell ⟨P,3,none⟩ (.int .i64 0)).setCell ⟨P,4,none⟩ (.int .i64 s))=X at *
   obtain⟨y0,y1,y2,y3,y4,-⟩:=rowFive HHX.out
   exact bodyPost_ret (v:=.agg #[.int .i64 a,.int .i64 b,.int .i64 k,.int .i64 0,.int .i64 s]) (by simp[results,Tryz.results18,go_sem,y0,y1,y2,y3,y4]) rfl ⟨by rw[hkr.out],HPO.out⟩
end Go.Proofs.YtnjpjieedgmffaaGreatDoor.kin
