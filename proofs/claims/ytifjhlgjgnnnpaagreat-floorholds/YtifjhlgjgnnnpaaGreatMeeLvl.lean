import Derived.Test.YtifjhlgjgnnnpaaGreatQueFil
namespace Go.Proofs.YtifjhlgjgnnnpaaGreat
namespace mee
open Go.RowKit spn que sid
open ord (O oV mB mE chk zAx)
def zCp(ts:List T):List Value:=ts.flatMap tV
theorem zDA(a b:List T):zCp (a++b)=zCp a++zCp b:=by unfold zCp;rw[List.flatMap_append]
abbrev OwnT(w:World)(base:Nat)(v:Value)(ts:List T):Prop:=OwnM w base 40 6 v ts.length (zCp ts)
def zeroT:Value:=.agg #[.int .i64 0,.int .i64 0,.int .i64 0,.int .i64 0,.int .i64 0,.int .i64 0]
theorem infoT:(Tryz.prog.info? 40).map (fun i=>(i.zero,i.size,i.bytes))=some (some zeroT,6,48):=by kernel_rfl
theorem infoT' : ∃i,Tryz.prog.info? 40=some i∧i.zero=some zeroT∧i.size=6∧i.bytes=48:=by
 have h:=infoT
 cases hq:Tryz.prog.info? 40 with
 | none=>rw[hq] at h;simp at h
 | some i=>
  rw[hq] at h
  simp only[Option.map_some,Option.some.injEq,Prod.mk.injEq] at h
  exact⟨i,rfl,h.1,h.2.1,h.2.2⟩
theorem zNe(a b c d p q s t f1 f2 f3 x t1 t2 t3 t4 t5 t6:Int)(w:World)(h:trd ⟨a,b,c,d,p,q,s,t⟩ x ⟨f1,f2,f3⟩=⟨t1,t2,t3,t4,t5,t6⟩) :
  Calls Tryz.prog 138 #[.agg #[.int .i64 a,.int .i64 b,.int .i64 c,.int .i64 d,.int .i64 p,.int .i64 q,.int .i64 s,.int .i64 t],.agg #[.int .i64 f1,.int .i64 f2,.int .i64 f3],.int .i64 x] w fun e w'=>e=.returned (.agg #[.int .i64 t1,.int .i64 t2,.int .i64 t3,.int .i64 t4,.int .i64 t5,.int .i64 t6])∧Below w.heap.size w w':=by
 unfold trd at h
 by_cases hc:c=1
 ·rw[if_pos hc] at h
  simp only[T.mk.injEq] at h
  obtain⟨rfl,rfl,rfl,rfl,rfl,rfl⟩:=h
  subst hc
  exact zKm a b d p q s t f1 f2 f3 x w
 ·rw[if_neg hc] at h
  simp only[T.mk.injEq] at h
  obtain⟨rfl,rfl,rfl,rfl,rfl,rfl⟩:=h
  exact zIE a b c d p q s t f1 f2 f3 x w hc
theorem gr_up{a b c:World}{row row' : Option Nat}(h:a.grownBy b row)(k:b.grownBy c row')(hn:∀x,row'=some x→a.heap.size≤x):a.grownBy c row:=
 ⟨k.os.trans h.os,k.tape.trans h.tape,k.output.trans h.output,jM h.size k.size,fun i hi hr=>(k.block i (jC hi h.size) (fun e=>by have:=hn i e.symm;omega)).trans (h.block i hi hr)⟩
theorem zKo{w w' : World}{base:Nat}{v:Value}{ps:List RP}{row:Option Nat}(h:Deep w base v ps)(hg:w.grownBy w' row)(h1:∀x,v.ownBlock=some x→row≠some x)(h2:∀p∈ps,∀x,blkR p.1=some x→row≠some x):Deep w' base v ps:=
 ⟨zAj h.own hg h1,fun p hp=>zAj (h.each p hp) hg (h2 p hp),h.apart,h.far⟩
theorem zAF{w w' : World}{row:Option Nat}(hg:w.grownBy w' row){b o:Nat}{u:Value}(hc:w.cell? ⟨b,o,none⟩=some u)(hne:row≠some b):w'.cell? ⟨b,o,none⟩=some u:=by
 have hb:b<w.heap.size:=World.block_lt_of_cell? w ⟨b,o,none⟩ hc
 rw[hg.cell_far ⟨b,o,none⟩ hb (fun e=>hne e.symm)];exact hc
theorem zIF{W:World}{base g off n cap:Nat}{x:RP}{pt:List RP}{q:Option Addr}{m c:Nat}{zs:List R}(h:Deep W base (.slice (some ⟨g,off,none⟩) n cap) (x::pt))(ho:OwnQ W base (.slice q m c) zs)(h1:(Value.slice q m c).ownBlock≠some g)
  (h2:∀y∈pt,∀z,blkR y.1=some z→(Value.slice q m c).ownBlock≠some z):Deep (W.setCell ⟨g,off+1,none⟩ (.slice q m c)) base (.slice (some ⟨g,off,none⟩) n cap) ((⟨x.1.price,q,m,c⟩,zs)::pt):=by
 have hgs:=gr_setCell W g (off+1) (.slice q m c)
 obtain⟨p1,p2⟩:=List.pairwise_cons.1 h.apart
 have hn:n=pt.length+1:=by
  obtain⟨q',c',e⟩:=OwnM.form h.own;rw[jH,jP] at e;cases e;rfl
 refine⟨?_,fun y hy=>?_,List.pairwise_cons.2 ⟨fun y hy z hz e=>h2 y hy z e hz,p2⟩,fun y hy z hz=>?_⟩
 ·have hn2:n=(x.1::pt.map (·.1)).length:=by simp[hn]
  have hn3:n=((⟨x.1.price,q,m,c⟩:rlv.RL)::pt.map (·.1)).length:=by simp[hn]
  have h1' : OwnM W base 52 2 (.slice (some ⟨g,off,none⟩) n cap) (x.1::pt.map (·.1)).length (rlv.flat (x.1::pt.map (·.1))):=by
   have h':=h.own
   rw[jH,jK] at h'
   exact h'
  rw[←hn2] at h1'
  have h2':=OwnM.set h1' 1 (.slice q m c)
  have e:=zFa (a:=[]) (r:=x.1) (b:=pt.map (·.1)) q m c
  simp only[jU,List.length_nil,Nat.zero_mul,Nat.zero_add] at e
  rw[e] at h2'
  rw[jH,jK]
  show OwnM _ _ _ _ _ (List.length ((⟨x.1.price,q,m,c⟩:rlv.RL)::pt.map (·.1))) _
  rw[←hn3]
  exact h2'
 ·rcases List.mem_cons.1 hy with rfl|hy
  ·exact zAj ho hgs (fun z hz e=>h1 (by rw[show (Value.slice q m c).ownBlock=some z from hz];exact e.symm))
  ·exact zAj (h.each y (by simp[hy])) hgs (fun z hz=>h.far y (by simp[hy]) z hz)
 ·rcases List.mem_cons.1 hy with rfl|hy
  ·intro e
   exact h1 (by rw[show (Value.slice q m c).ownBlock=some z from hz];exact e.symm)
  ·exact h.far y (by simp[hy]) z hz
def mes(ls:List L)(q:Int):Nat:=if q≤0 then 0 else ls.length+1
structure LvH (V:World) (base:Nat) (OB:Option Nat) (o:O) (ls0:List L) (wr:World) (s0 s8:Value) (q:Int) (ps:List RP) (ts:List T):Prop where
 q0:0≤q
 q1:q+ts.length≤10000
 deep:Deep wr base s0 ps
 good:∀l∈ps.map toL,lchk l=0
 own:OwnT wr V.heap.size s8 ts
 eq:tkl o ls0 o.qty=((tkl o (ps.map toL) q).1,ts++(tkl o (ps.map toL) q).2.1,(tkl o (ps.map toL) q).2.2)
 far:V.grownBy wr OB
 blk:s0.ownBlock=OB
 dis:∀k,s8.ownBlock=some k→∀p∈ps,blkR p.1≠some k
structure FiH (V w2:World) (s80:Value) (wr:World) (s8:Value) (ts:List T):Prop where
 own:OwnT wr V.heap.size s8 ts
 far:w2.grownBy wr s80.ownBlock
 blk:s8.ownBlock=s80.ownBlock∨∃k,s8.ownBlock=some k∧w2.heap.size≤k
theorem zPD{V w2 wr W w' : World}{s80 s8 v' : Value}{ts:List T}{tt:T}(h:FiH V w2 s80 wr s8 ts)(hB:Below wr.heap.size wr W)(hO:OwnM w' V.heap.size 40 6 v' (ts.length+1) (zCp ts++tV tt))(hg:W.grownBy w' s8.ownBlock)(hv:v'.ownBlock=s8.ownBlock∨v'.ownBlock=some W.heap.size):FiH V w2 s80 w' v' (ts++[tt]):=by
 have hs:=h.far.size
 have hs2:=hB.size
 refine⟨?_,?_,?_⟩
 ·show OwnM _ _ _ _ _ _ _
  rw[zDA,jE]
  have e:zCp [tt]=tV tt:=by simp[zCp]
  rw[e]
  exact hO
 ·have h1:=gr_trans h.far (gr_below hB _)
  rcases h.blk with e|⟨k,e,hk⟩
  ·rw[e] at hg;exact gr_trans h1 hg
  ·exact gr_up h1 hg (fun x hx=>by rw[e] at hx;cases hx;exact hk)
 ·rcases hv with e|e
  ·rw[e];exact h.blk
  ·exact .inr ⟨_,e,by omega⟩
theorem zHe{V wo w2 wr:World}{base:Nat}{OB:Option Nat}{o:O}{ls0:List L}{s0 S8 u8:Value}{qq:Int}{ps:List RP}{ts ts' : List T}(H:LvH V base OB o ls0 wo s0 S8 qq ps ts)(hOB:∀k,OB=some k→k<V.heap.size)(hB:Below wo.heap.size wo w2)(F:FiH V w2 S8 wr u8 ts'):Deep wr base s0 ps:=by
 refine zKo (H.deep.below hB) F.far (fun x hx e=>?_) (fun p hp x hx e=>H.dis x e p hp hx)
 have h1:=(OwnM.lt H.own x e).1
 rw[H.blk] at hx
 have:=hOB x hx
 omega
theorem zOZ{V wo w2 wr:World}{base:Nat}{OB:Option Nat}{o:O}{ls0:List L}{s0 S8 u8:Value}{qq:Int}{ps:List RP}{ts ts' : List T}(H:LvH V base OB o ls0 wo s0 S8 qq ps ts)(hB:Below wo.heap.size wo w2)(F:FiH V w2 S8 wr u8 ts'):V.grownBy wr OB:=
 gr_up (gr_trans H.far (gr_below hB _)) F.far (fun x hx=>(OwnM.lt H.own x hx).1)
theorem zPE{V wo w2 wr:World}{base g off n cap:Nat}{OB:Option Nat}{o:O}{ls0:List L}{S8 u8:Value}{qq:Int}{x:RP}{pt:List RP}{ts:List T}{fs:List F}(H:LvH V base OB o ls0 wo (.slice (some ⟨g,off,none⟩) n cap) S8 qq (x::pt) ts)(hOB:∀k,OB=some k→k<V.heap.size)(hB:Below wo.heap.size wo w2)
  (F:FiH V w2 S8 wr u8 (ts++fs.map (trd o x.1.price))) (h1:sum fs≤qq) (h2:(fs.length:Int)≤sum fs)
  (hgo:tkl o (toL x::pt.map toL) qq=((tkl o (pt.map toL) (qq - sum fs)).1,fs.map (trd o x.1.price)++(tkl o (pt.map toL) (qq - sum fs)).2.1,(tkl o (pt.map toL) (qq - sum fs)).2.2)) :
  LvH V base OB o ls0 wr (.slice (some ⟨g,offT off cap,none⟩) pt.length (cap - 1)) u8 (qq - sum fs) pt (ts++fs.map (trd o x.1.price)):=by
 have hd:=zHe H hOB hB F
 have hsz:=hB.size
 refine⟨by omega,by have:=H.q1;simp;omega,(zFW hd).2.2.2,fun l hl=>H.good l (by simp[hl]),F.own,?_,zOZ H hB F,H.blk,fun k hk p hp e=>?_⟩
 ·have he:=H.eq
  rw[jK,hgo] at he
  rw[he,jS]
 ·rcases F.blk with e2|⟨k',e2,hk'⟩
  ·exact H.dis k (by rw[←e2];exact hk) p (by simp[hp]) e
  ·rw[e2] at hk
   cases hk
   have:=(OwnM.lt (H.deep.each p (by simp[hp])) k e).2
   omega
theorem zPF{V wo w1 w2 wr:World}{base g off n cap ln lc:Nat}{lq:Option Addr}{OB:Option Nat}{o:O}{ls0:List L}{S8 u8:Value}{qq:Int}{x:RP}{pt:List RP}{ts:List T}{fs:List F}{rs:List R}(H:LvH V base OB o ls0 wo (.slice (some ⟨g,off,none⟩) n cap) S8 qq (x::pt) ts)(hOB:∀k,OB=some k→k<V.heap.size)
  (hB1:Below wo.heap.size wo w1) (hB:Below wo.heap.size wo w2) (F:FiH V w2 S8 wr u8 (ts++fs.map (trd o x.1.price))) (hq:OwnQ w2 w1.heap.size (.slice lq ln lc) rs) (h2:(fs.length:Int)≤sum fs) (h3:qq - sum fs=0) (h4:qchk rs=0) (h5:¬rs=[])
  (hgo:tkl o (toL x::pt.map toL) qq=(⟨x.1.price,rs⟩::pt.map toL,fs.map (trd o x.1.price),qq - sum fs)) :
  LvH V base OB o ls0 (wr.setCell ⟨g,off+1,none⟩ (.slice lq ln lc)) (.slice (some ⟨g,off,none⟩) n cap) u8 (qq - sum fs) ((⟨x.1.price,lq,ln,lc⟩,rs)::pt) (ts++fs.map (trd o x.1.price)):=by
 have hd:=zHe H hOB hB F
 have hsz:=hB.size
 have hsz1:=hB1.size
 have hg0:OB=some g:=H.blk.symm
 have hgV:=hOB g hg0
 obtain⟨hbg,hgo2⟩:=OwnM.lt H.deep.own g rfl
 have hgs:=gr_setCell wr g (off+1) (.slice lq ln lc)
 have hlt:∀z,(Value.slice lq ln lc).ownBlock=some z→w1.heap.size≤z∧z<w2.heap.size:=fun z hz=>OwnM.lt hq z hz
 have hqr:OwnQ wr base (.slice lq ln lc) rs:=zAj (OwnM.mono hq (by omega)) F.far (fun z hz e=>by
  have:=(hlt z hz).1
  have:=(OwnM.lt H.own z e).2
  omega)
 refine⟨by omega,by have:=H.q1;simp;omega,?_,?_,?_,?_,?_,H.blk,?_⟩
 ·exact zIF hd hqr (fun e=>by have:=(hlt g e).1;omega) (fun y hy z hz e=>by
   have:=(hlt z e).1
   have:=(OwnM.lt (H.deep.each y (by simp[hy])) z hz).2
   omega)
 ·intro l hl
  rw[jK] at hl
  rcases List.mem_cons.1 hl with rfl|hl
  ·exact zCP (zDc (H.good (toL x) (by simp))) h5 h4
  ·exact H.good l (by simp[hl])
 ·exact zAj F.own hgs (fun z hz e=>by
   cases e
   have:=(OwnM.lt F.own g hz).1
   omega)
 ·have he:=H.eq
  rw[jK,hgo] at he
  have e0:tkl o (((⟨x.1.price,lq,ln,lc⟩,rs)::pt:List RP).map toL) (qq - sum fs)=(((⟨x.1.price,lq,ln,lc⟩,rs)::pt:List RP).map toL,[],qq - sum fs):=zAZ (by omega)
  rw[he,e0,jH]
  rfl
 ·have h:=zOZ H hB F
  rw[hg0] at h ⊢
  exact gr_trans h hgs
 ·intro k hk p hp e
  rcases List.mem_cons.1 hp with rfl|hp
  ·have h6:=hlt k e
   rcases F.blk with e2|⟨k',e2,hk'⟩
   ·have:=(OwnM.lt H.own k (by rw[←e2];exact hk)).2
    omega
   ·rw[e2] at hk
    cases hk
    omega
  ·rcases F.blk with e2|⟨k',e2,hk'⟩
   ·exact H.dis k (by rw[←e2];exact hk) p (by simp[hp]) e
   ·rw[e2] at hk
    cases hk
    have:=(OwnM.lt (H.deep.each p (by simp[hp])) k e).2
    omega
set_option maxRecDepth 100000 in
set_option maxHeartbeats 4000000 in
theorem zEe(a b c d p q s t:Int)(v:Value)(ps0:List RP)(base:Nat)(w:World)(hD:Deep w base v ps0)(hk:chk ⟨a,b,c,d,p,q,s,t⟩=0)(hq:∀l∈ps0.map toL,lchk l=0) :
  Calls Tryz.prog 120 #[v,.agg #[.int .i64 a,.int .i64 b,.int .i64 c,.int .i64 d,.int .i64 p,.int .i64 q,.int .i64 s,.int .i64 t]] w fun e w'=>∃v' tv,e=.returned (.tuple #[v',tv,.int .i64 (tkl ⟨a,b,c,d,p,q,s,t⟩ (ps0.map toL) q).2.2,.nilIface])∧DL w' base v' (tkl ⟨a,b,c,d,p,q,s,t⟩ (ps0.map toL) q).1∧OwnT w' w.heap.size tv (tkl ⟨a,b,c,d,p,q,s,t⟩ (ps0.map toL) q).2.1∧w.grownBy w' v.ownBlock:=by
 obtain⟨vq,vn,vc,hv⟩:∃vq vn vc,v=.slice vq vn vc:=by obtain⟨x,y,z⟩:=OwnM.form hD.own;exact⟨x,_,y,z⟩
 subst hv
 generalize hOB:(Value.slice vq vn vc).ownBlock=OB
 have HOB:Hid ((Value.slice vq vn vc).ownBlock=OB):=hOB
 clear hOB
 obtain⟨V,hV⟩:∃V,V=w.alloc (.cells #[.int .i64 a,.int .i64 b,.int .i64 c,.int .i64 d,.int .i64 p,.int .i64 q,.int .i64 s,.int .i64 t] 32):=⟨_,rfl⟩
 have HBV:Hid (Below w.heap.size w V):=by rw[hV];exact(bzR _ _).alloc (nzR _) _
 have hRV:V.heap[w.heap.size]?=some (.cells #[.int .i64 a,.int .i64 b,.int .i64 c,.int .i64 d,.int .i64 p,.int .i64 q,.int .i64 s,.int .i64 t] 32 (0,0)):=by rw[hV];exact jA w _
 have hVs:w.heap.size<V.heap.size:=(gzE.1 hRV).1
 have cel:∀i,V.cell? ⟨w.heap.size,i,none⟩=(#[.int .i64 a,.int .i64 b,.int .i64 c,.int .i64 d,.int .i64 p,.int .i64 q,.int .i64 s,.int .i64 t]:Array Value)[i]?:=fun i=>by simp[World.cell?,hRV]
 have HNB:Hid (OB≠some w.heap.size):=fun e=>by have:=(OwnM.lt hD.own _ (HOB.out.trans e)).2;omega
 have HOBV:Hid (∀k,OB=some k→k<V.heap.size):=fun k e=>by have:=(OwnM.lt hD.own _ (HOB.out.trans e)).2;omega
 have HQ:Hid (1≤q∧q≤10000):=by
  obtain⟨-,-,h3,-,-⟩:=ord.zBx hk
  simp[ord.qtyB] at h3
  exact⟨h3.1.1.1,h3.1.1.2⟩
 have HK:Hid (chk ⟨a,b,c,d,p,q,s,t⟩=0):=hk
 have HD:Hid (Deep V base (.slice vq vn vc) ps0):=hD.below HBV.out
 have HG:Hid (∀l∈ps0.map toL,lchk l=0):=hq
 have HP:Hid (∀wr v' tv q' ps ts,LvH V base OB ⟨a,b,c,d,p,q,s,t⟩ (ps0.map toL) wr v' tv q' ps ts→(tkl ⟨a,b,c,d,p,q,s,t⟩ (ps.map toL) q')=(ps.map toL,[],q')→∀w',Below wr.heap.size wr w'→
   (q'=(tkl ⟨a,b,c,d,p,q,s,t⟩ (ps0.map toL) q).2.2∧DL w' base v' (tkl ⟨a,b,c,d,p,q,s,t⟩ (ps0.map toL) q).1∧OwnT w' w.heap.size tv (tkl ⟨a,b,c,d,p,q,s,t⟩ (ps0.map toL) q).2.1∧w.grownBy w' OB)):=by
  intro wr v' tv q' ps ts h e w' hB
  have he:=h.eq
  rw[e] at he
  show _∧_
  rw[he]
  refine⟨rfl,⟨ps,rfl,h.deep.below hB⟩,?_,?_⟩
  ·rw[jH]
   exact OwnM.mono (OwnM.below h.own hB) (jX hVs)
  ·exact gr_trans (gr_trans (gr_below HBV.out _) h.far) (gr_below hB _)
 generalize hR:(tkl ⟨a,b,c,d,p,q,s,t⟩ (ps0.map toL) q)=RR at HP
 have HR:Hid (tkl ⟨a,b,c,d,p,q,s,t⟩ (ps0.map toL) q=RR):=hR
 clear hR hD hk hq hRV
 obtain⟨R1,R2,R3⟩:=RR
 simp only[] at HP ⊢
 have HCE:Hid (∀wr,V.grownBy wr OB→wr.cell? ⟨w.heap.size,0,none⟩=some (.int .i64 a)∧wr.cell? ⟨w.heap.size,1,none⟩=some (.int .i64 b)∧wr.cell? ⟨w.heap.size,2,none⟩=some (.int .i64 c)∧wr.cell? ⟨w.heap.size,3,none⟩=some (.int .i64 d)∧wr.cell? ⟨w.heap.size,4,none⟩=some (.int .i64 p)∧wr.cell? ⟨w.heap.size,5,none⟩=some (.int .i64 q)∧wr.cell? ⟨w.heap.size,6,none⟩=some (.int .i64 s)∧wr.cell? ⟨w.heap.size,7,none⟩=some (.int .i64 t)):=fun wr hg=>
  ⟨zAF hg (cel 0) HNB.out,zAF hg (cel 1) HNB.out,zAF hg (cel 2) HNB.out,zAF hg (cel 3) HNB.out,zAF hg (cel 4) HNB.out,zAF hg (cel 5) HNB.out,zAF hg (cel 6) HNB.out,zAF hg (cel 7) HNB.out⟩
 have c5:V.cell? ⟨w.heap.size,5,none⟩=some (.int .i64 q):=cel 5
 clear cel
 obtain⟨i0,hi0,hz0,hz1,hz2⟩:=infoT'
 have HI:Hid (Tryz.prog.info? 40=some i0):=hi0
 clear hi0
 go_enter Tryz.func120,Tryz.ntmps120
 go_wp2_with fail
 rw[←hV]
 clear hV
 go_wp2_with fail
 go_loopg [0,8,9,10,11,12,13,14,16] (ps0.length+1) (fun gg s0 s8 s9 _ _ _ _ _ _ wr=>∃ (qq:Int) (ps:List RP) (ts:List T),s9=.int .i64 qq∧mes (ps.map toL) qq≤gg∧Aside (LvH V base OB ⟨a,b,c,d,p,q,s,t⟩ (ps0.map toL) wr s0 s8 qq ps ts))
 case atStart=>
  refine⟨q,ps0,[],rfl,?_,?_⟩
  ·unfold mes;rw[jP];split <;>omega
  ·refine⟨by have:=HQ.out;omega,by have:=HQ.out;simp;omega,HD.out,HG.out,⟨rfl,.inl ⟨rfl,rfl⟩⟩,by rw[HR.out];simp,⟨rfl,rfl,rfl,nzR _,fun _ _ _=>rfl⟩,HOB.out,fun k hk=>by simp[Value.ownBlock] at hk⟩
 case round=>
  obtain⟨qq,ps,ts,rfl,hmes,hH⟩:=hrel
  have HH:Hid (LvH V base OB ⟨a,b,c,d,p,q,s,t⟩ (ps0.map toL) wr u0 u8 qq ps ts):=hH.out
  clear hH
  obtain⟨d0,d1,d2,d3,d4,d5,d6,d7⟩:=HCE.out wr HH.out.far
  by_cases hpos:0<qq
  rotate_left
  ·obtain⟨e1,e2,e3,e4⟩:=HP.out _ _ _ _ _ _ HH.out (zAZ (by omega)) wr (bzR _ _)
   subst e1
   have HE:Hid (DL wr base u0 R1∧OwnT wr w.heap.size u8 R2∧w.grownBy wr OB):=⟨e2,e3,e4⟩
   clear e2 e3 e4 hmes
   go_wp2_with fail
   go_returns
   exact⟨_,_,rfl,HE.out⟩
  have HM:Hid (mes (ps.map toL) qq≤gk):=hmes
  clear hmes
  cases ps with
  | nil=>
   obtain⟨e1,e2,e3,e4⟩:=HP.out _ _ _ _ _ _ HH.out rfl wr (bzR _ _)
   obtain⟨uq,uc,hu⟩:=OwnM.form HH.out.deep.own
   rw[jH,List.map_nil,List.length_nil] at hu
   subst e1
   have HE:Hid (DL wr base u0 R1∧OwnT wr w.heap.size u8 R2∧w.grownBy wr OB):=⟨e2,e3,e4⟩
   subst hu
   clear e2 e3 e4
   go_wp2_with fail
   go_returns
   exact⟨_,_,rfl,HE.out⟩
  | cons x pt=>
   obtain⟨g,off,cap,hu0,e0,e1,hfz,hbg,hgw⟩:=zFX HH.out.deep
   subst hu0
   have HLX:Hid (lchk (toL x)=0):=HH.out.good (toL x) (by simp)
   have HOX:Hid (OwnQ wr base (sv x.1) x.2):=HH.out.deep.each x (by simp)
   obtain⟨⟨xp,xq,xn,xc⟩,zs⟩:=x
   simp only[] at e0 e1
   have hQZ:qchk zs=0:=(zAg HLX.out).2.2
   have hPX:ord.prB xp=true:=by have h:=(zAg HLX.out).1;simp only[toL] at h;simp[ord.prB,h]
   have HMT:Hid (∀W,Calls Tryz.prog 136 #[.agg #[.int .i64 a,.int .i64 b,.int .i64 c,.int .i64 d,.int .i64 p,.int .i64 q,.int .i64 s,.int .i64 t],.int .i64 xp] W fun e w'=>e=.returned (.tuple #[.bool (mB ⟨a,b,c,d,p,q,s,t⟩ xp),.nilIface])∧Below W.heap.size W w'):=fun W=>by
    have h:=zAx ⟨a,b,c,d,p,q,s,t⟩ xp W
    have e:mE ⟨a,b,c,d,p,q,s,t⟩ xp=0:=by unfold mE;rw[if_pos HK.out,hPX];rfl
    rw[e,if_pos rfl] at h
    exact h
   have HTK:Hid (∀W,Below wr.heap.size wr W→Calls Tryz.prog 137 #[.slice xq xn xc,.int .i64 qq] W fun e w'=>∃fv lv,e=.returned (.tuple #[fv,lv,.nilIface])∧OwnF w' W.heap.size fv (take qq zs).1∧OwnQ w' W.heap.size lv (take qq zs).2∧Below W.heap.size W w'):=fun W hW=>
    zKl _ zs qq W ((OwnQ.sl HOX.out).below hW) hQZ (by omega) (by have:=HH.out.q1;omega)
   have hz:pt.length+1≠0:=by omega
   have hzi:(0:Int)<((pt.length+1:Nat):Int):=by omega
   generalize hMB:mB ⟨a,b,c,d,p,q,s,t⟩ xp=M at HMT
   have HMB:Hid (mB ⟨a,b,c,d,p,q,s,t⟩ xp=M):=hMB
   clear hMB
   cases M
   ·go_wp2_with fail
    refine(HMT.out _).mono ?_
    rintro e w1⟨rfl,b1⟩
    obtain⟨e1',e2',e3',e4'⟩:=HP.out _ _ _ _ _ _ HH.out (zEY HMB.out) w1 b1
    subst e1'
    have HE:Hid (DL w1 base (.slice (some ⟨g,off,none⟩) (pt.length+1) cap) R1∧OwnT w1 w.heap.size u8 R2∧w.grownBy w1 OB):=⟨e2',e3',e4'⟩
    clear e2' e3' e4' b1
    go_wp2_with fail
    go_returns
    exact⟨_,_,rfl,HE.out⟩
   go_wp2_with fail
   refine(HMT.out _).mono ?_
   rintro e w1⟨rfl,b1⟩
   have x1:=zAa b1 e1
   have HB1:Hid (Below wr.heap.size wr w1):=b1
   clear b1
   go_wp2_with fail
   refine(HTK.out w1 HB1.out).mono ?_
   rintro e w2⟨fv,lv,rfl,OF,OQ,b2⟩
   have HB2:Hid (Below wr.heap.size wr w2∧Below w1.heap.size w1 w2):=⟨HB1.out.trans (b2.mono HB1.out.size),b2⟩
   obtain⟨fq,fc,hfv⟩:=OwnM.form OF
   obtain⟨lq,lc,hlv⟩:=OwnM.form OQ
   subst hfv
   subst hlv
   have HOF:Hid (OwnF w2 w1.heap.size (.slice fq (take qq zs).1.length fc) (take qq zs).1):=OF
   have HOQ:Hid (OwnQ w2 w1.heap.size (.slice lq (take qq zs).2.length lc) (take qq zs).2):=OQ
   have HTA:Hid (sum (take qq zs).1≤qq∧0≤sum (take qq zs).1∧((take qq zs).1.length:Int)≤sum (take qq zs).1∧qchk (take qq zs).2=0∧(¬(take qq zs).2=[]→qq - sum (take qq zs).1=0)∧∀f∈(take qq zs).1,1≤f.qty∧f.qty≤qq):=by
    obtain⟨f1,f2,f3,f4,f5,f6,f7⟩:=zCF hQZ (q:=qq) (by omega)
    exact⟨f1,f2,f3,f4,zFN hQZ (by omega),f6⟩
   have HGO:Hid (((take qq zs).2=[]→tkl ⟨a,b,c,d,p,q,s,t⟩ ((⟨xp,zs⟩:L)::pt.map toL) qq=((tkl ⟨a,b,c,d,p,q,s,t⟩ (pt.map toL) (qq - sum (take qq zs).1)).1,(take qq zs).1.map (trd ⟨a,b,c,d,p,q,s,t⟩ xp)++(tkl ⟨a,b,c,d,p,q,s,t⟩ (pt.map toL) (qq - sum (take qq zs).1)).2.1,(tkl ⟨a,b,c,d,p,q,s,t⟩ (pt.map toL) (qq - sum (take qq zs).1)).2.2))∧
     (¬(take qq zs).2=[]→tkl ⟨a,b,c,d,p,q,s,t⟩ ((⟨xp,zs⟩:L)::pt.map toL) qq=(⟨xp,(take qq zs).2⟩::pt.map toL,(take qq zs).1.map (trd ⟨a,b,c,d,p,q,s,t⟩ xp),qq - sum (take qq zs).1))):=
    ⟨fun h=>zCY hpos HMB.out h,fun h=>zCZ hpos HMB.out h⟩
   clear OF OQ b2 e0 e1 x1 HMT HTK hfz
   generalize (take qq zs).1=fs at *
   generalize (take qq zs).2=rs at *
   generalize u8=S8 at *
   generalize hm:fs.length=m at *
   have HFM:Hid (fs.length=m):=hm
   clear hm
   obtain⟨GK,hGK⟩:∃GK:Nat,gk=GK:=⟨_,rfl⟩
   have HGK:Hid (gk=GK∧pt.length+2≤GK):=⟨hGK,by
    have h:=HM.out
    unfold mes at h
    rw[if_neg (by omega),hGK] at h
    simp at h
    omega⟩
   clear hGK
   have HS8:Hid (OwnT wr V.heap.size S8 ts):=HH.out.own
   have HS8b:Hid (∀k,S8.ownBlock=some k→V.heap.size≤k∧k<wr.heap.size):=fun k hk=>OwnM.lt HS8.out k hk
   have HS82:Hid (OwnT w2 V.heap.size S8 ts):=OwnM.below HS8.out HB2.out.1
   have HVw:Hid (V.heap.size≤w2.heap.size):=jM HH.out.far.size HB2.out.1.size
   have HC2:Hid (w2.cell? ⟨w.heap.size,0,none⟩=some (.int .i64 a)∧w2.cell? ⟨w.heap.size,1,none⟩=some (.int .i64 b)∧w2.cell? ⟨w.heap.size,2,none⟩=some (.int .i64 c)∧w2.cell? ⟨w.heap.size,3,none⟩=some (.int .i64 d)∧w2.cell? ⟨w.heap.size,4,none⟩=some (.int .i64 p)∧w2.cell? ⟨w.heap.size,5,none⟩=some (.int .i64 q)∧w2.cell? ⟨w.heap.size,6,none⟩=some (.int .i64 s)∧w2.cell? ⟨w.heap.size,7,none⟩=some (.int .i64 t)):=
    ⟨zAa HB2.out.1 d0,zAa HB2.out.1 d1,zAa HB2.out.1 d2,zAa HB2.out.1 d3,zAa HB2.out.1 d4,zAa HB2.out.1 d5,zAa HB2.out.1 d6,zAa HB2.out.1 d7⟩
   clear d0 d1 d2 d3 d4 d5 d6 d7
   have hm64:(m:Int)≤10000:=by have:=HTA.out.2.2.1;have:=HTA.out.1;have:=HH.out.q1;omega
   go_wp2_with fail
   go_loopg [8,9,16,56] m (fun gg s8 s9 _ s56 wy=>∃kk:Nat,kk≤m∧m - kk≤gg∧s56=.int .i64 kk∧s9=.int .i64 (qq - sum (fs.take kk))∧Aside (FiH V w2 S8 wy s8 (ts++(fs.take kk).map (trd ⟨a,b,c,d,p,q,s,t⟩ xp))))
   case atStart=>exact⟨0,jL _,by omega,rfl,by simp[sum],⟨by simpa using HS82.out,⟨rfl,rfl,rfl,nzR _,fun _ _ _=>rfl⟩,.inl rfl⟩⟩
   case round=>
    obtain⟨kk,hkk,hg,rfl,rfl,hF⟩:=hrel
    have HF:Hid (FiH V w2 S8 wr u8 (ts++(fs.take kk).map (trd ⟨a,b,c,d,p,q,s,t⟩ xp))):=hF.out
    clear hF
    have HFB:Hid (fs.length=m):=HFM.out
    by_cases hlt:kk<m
    ·have hltz:(kk:Int)<(m:Int):=by omega
     have hlz:kk<fs.length:=by rw[HFM.out];exact hlt
     obtain⟨f,hf⟩:∃f,fs[kk]! = f:=⟨_,rfl⟩
     obtain⟨f1,f2,f3⟩:=f
     obtain⟨fb,fo,hfq,hfbl,hfbh,g0,g1,g2⟩:∃fb fo,fq=some ⟨fb,fo,none⟩∧w1.heap.size≤fb∧fb<w2.heap.size∧w2.cell? ⟨fb,fo+kk*3,none⟩=some (.int .i64 f1)∧w2.cell? ⟨fb,fo+kk*3+1,none⟩=some (.int .i64 f2)∧w2.cell? ⟨fb,fo+kk*3+2,none⟩=some (.int .i64 f3):=by
      rcases OwnF.sf HOF.out with ⟨e,e2⟩|⟨fb,fo,fc',e,-,h3,h4⟩
      ·rw[e2] at hlz;simp at hlz
      ·cases e
       obtain⟨g0,g1,g2⟩:=zNd h4 hlz hf
       exact⟨fb,fo,rfl,(OwnM.lt HOF.out fb rfl).1,h3,g0,g1,g2⟩
     subst hfq
     have HNF:Hid (S8.ownBlock≠some fb):=fun e=>by have:=(HS8b.out fb e).2;have:=HB1.out.size;omega
     have HNO:Hid (S8.ownBlock≠some w.heap.size):=fun e=>by have:=(HS8b.out _ e).1;omega
     have x0:=zAF HF.out.far g0 HNF.out
     have x1:=zAF HF.out.far g1 HNF.out
     have x2:=zAF HF.out.far g2 HNF.out
     obtain⟨d0,d1,d2,d3,d4,d5,d6,d7⟩:=HC2.out
     have k0:=zAF HF.out.far d0 HNO.out
     have k1:=zAF HF.out.far d1 HNO.out
     have k2:=zAF HF.out.far d2 HNO.out
     have k3:=zAF HF.out.far d3 HNO.out
     have k4:=zAF HF.out.far d4 HNO.out
     have k5:=zAF HF.out.far d5 HNO.out
     have k6:=zAF HF.out.far d6 HNO.out
     have k7:=zAF HF.out.far d7 HNO.out
     obtain⟨tt,htt⟩:∃tt,trd ⟨a,b,c,d,p,q,s,t⟩ xp ⟨f1,f2,f3⟩=tt:=⟨_,rfl⟩
     obtain⟨t1,t2,t3,t4,t5,t6⟩:=tt
     have HTR:Hid (∀W,Calls Tryz.prog 138 #[.agg #[.int .i64 a,.int .i64 b,.int .i64 c,.int .i64 d,.int .i64 p,.int .i64 q,.int .i64 s,.int .i64 t],.agg #[.int .i64 f1,.int .i64 f2,.int .i64 f3],.int .i64 xp] W fun e w'=>e=.returned (.agg #[.int .i64 t1,.int .i64 t2,.int .i64 t3,.int .i64 t4,.int .i64 t5,.int .i64 t6])∧Below W.heap.size W w'):=fun W=>zNe a b c d p q s t f1 f2 f3 xp t1 t2 t3 t4 t5 t6 W htt
     have HTS:Hid ((ts++(fs.take (kk+1)).map (trd ⟨a,b,c,d,p,q,s,t⟩ xp))=(ts++(fs.take kk).map (trd ⟨a,b,c,d,p,q,s,t⟩ xp))++[⟨t1,t2,t3,t4,t5,t6⟩]):=by
      show _=_
      rw[List.take_succ_eq_append_getElem hlz,jF,←jS,←getE _ _ hlz,hf]
      simp[htt]
     have HSU:Hid (sum (fs.take (kk+1))=sum (fs.take kk)+f3):=by
      have h:=zMK fs kk hlz
      rw[hf] at h
      exact h
     have HFQ:Hid (1≤f3∧f3≤10000):=by
      have h:=HTA.out.2.2.2.2.2 ⟨f1,f2,f3⟩ (by rw[←hf,getE _ _ hlz];exact jT hlz)
      have h2:=HH.out.q1
      simp only[] at h
      exact⟨h.1,by omega⟩
     have hNL:(ts++(fs.take kk).map (trd ⟨a,b,c,d,p,q,s,t⟩ xp)).length≤10000:=by
      have h:=HH.out.q1
      have h2:=HTA.out
      rw[jE,jP,jJ,HFM.out]
      have:=HFM.out
      omega
     have hin1:¬((kk:Int)<0):=Int.not_lt.2 (Int.natCast_nonneg _)
     have e56:wrap64 ((kk:Int)+1)=((kk+1:Nat):Int):=by unfold wrap64;omega
     have e9:wrap64 (qq - sum (fs.take kk) - f3)=qq - sum (fs.take (kk+1)):=by
      have h:=zHc fs kk (fun f hf=>(HTA.out.2.2.2.2.2 f hf).1)
      have h2:=HSU.out
      have h3:=HFQ.out
      have h4:=HTA.out.1
      have h5:=HH.out.q1
      have h6:=HTA.out.2.1
      clear e56
      unfold wrap64
      omega
     have HWA:Hid (Below wr.heap.size wr (wr.alloc (.cells #[.int .i64 f1,.int .i64 f2,.int .i64 f3] 211))):=(bzR _ _).alloc (nzR _) _
     have HFA:Hid ((wr.alloc (.cells #[.int .i64 f1,.int .i64 f2,.int .i64 f3] 211)).heap[wr.heap.size]?=some (.cells #[.int .i64 f1,.int .i64 f2,.int .i64 f3] 211 (0,0))):=jA wr _
     generalize (ts++(fs.take kk).map (trd ⟨a,b,c,d,p,q,s,t⟩ xp))=TK at HF HTS hNL
     have hwl:w.heap.size<wr.heap.size:=jC hVs (jM HVw.out HF.out.far.size)
     have hfl:fb<wr.heap.size:=jC hfbh HF.out.far.size
     clear d0 d1 d2 d3 d4 d5 d6 d7 g0 g1 g2 hf htt
     go_wp2_with fail
     refine(HTR.out _).mono ?_
     rintro e w3⟨rfl,b3⟩
     have HB3:Hid (Below wr.heap.size wr w3):=HWA.out.trans (b3.mono HWA.out.size)
     have HF3:Hid (w3.heap[wr.heap.size]?=some (.cells #[.int .i64 f1,.int .i64 f2,.int .i64 f3] 211 (0,0))):=(b3.block _ (gzE.1 HFA.out).1).trans HFA.out
     clear b3 x0 x1 x2 k0 k1 k2 k3 k4 k5 k6 k7
     have HBW:Hid (Below wr.heap.size wr (w3.alloc (.cells #[.int .i64 t1,.int .i64 t2,.int .i64 t3,.int .i64 t4,.int .i64 t5,.int .i64 t6] 40))):=HB3.out.alloc HB3.out.size _
     have HO3:Hid (OwnT (w3.alloc (.cells #[.int .i64 t1,.int .i64 t2,.int .i64 t3,.int .i64 t4,.int .i64 t5,.int .i64 t6] 40)) V.heap.size u8 TK):=OwnM.below HF.out.own HBW.out
     have HNW:Hid (∀j u,([.int .i64 t1,.int .i64 t2,.int .i64 t3,.int .i64 t4,.int .i64 t5,.int .i64 t6]:List Value)[j]?=some u→(w3.alloc (.cells #[.int .i64 t1,.int .i64 t2,.int .i64 t3,.int .i64 t4,.int .i64 t5,.int .i64 t6] 40)).cell? ((⟨w3.heap.size,0,none⟩:Addr).add j)=some u):=by
      intro j u hu
      rw[Addr.add_lit,Nat.zero_add,World.cell?_alloc_at _ _ _ _ rfl]
      simpa using hu
     have HVS:Hid (V.heap.size≤(w3.alloc (.cells #[.int .i64 t1,.int .i64 t2,.int .i64 t3,.int .i64 t4,.int .i64 t5,.int .i64 t6] 40)).heap.size):=jM HVw.out (jM HF.out.far.size HBW.out.size)
     have HF4:Hid ((w3.alloc (.cells #[.int .i64 t1,.int .i64 t2,.int .i64 t3,.int .i64 t4,.int .i64 t5,.int .i64 t6] 40)).cell? ⟨wr.heap.size,2,none⟩=some (.int .i64 f3)):=by
      have h0:w3.cell? ⟨wr.heap.size,2,none⟩=some (.int .i64 f3):=by simp[World.cell?,HF3.out]
      exact zAa ((bzR _ _).alloc (nzR _) _) h0
     have HU8:Hid (u8.ownBlock≠some wr.heap.size):=fun e=>by have:=(OwnM.lt HF.out.own _ e).2;omega
     go_wp2_with (at_builtin;(refine wpList_append_mid _ rfl _ _ 99 rfl V.heap.size 40 i0 zeroT 6 48 Tryz.underlying99 HI.out hz0 hz1 hz2 rfl u8 _ _ rfl HO3.out ⟨w3.heap.size,0,none⟩ 1 1 [.int .i64 t1,.int .i64 t2,.int .i64 t3,.int .i64 t4,.int .i64 t5,.int .i64 t6] rfl rfl HNW.out (fun u hu=>by simp only[List.mem_cons,List.not_mem_nil,or_false] at hu;rcases hu with rfl|rfl|rfl|rfl|rfl|rfl <;>rfl) ?c3 ?c4 ?c5 ?_))
     case c3=>unfold maxLen;omega
     case c4=>omega
     case c5=>exact HVS.out
     intro v' w' hO' hgr hat
     have HFN:Aside (FiH V w2 S8 w' v' (ts++(fs.take (kk+1)).map (trd ⟨a,b,c,d,p,q,s,t⟩ xp))):=by
      show FiH _ _ _ _ _ _
      rw[HTS.out]
      exact zPD (tt:=⟨t1,t2,t3,t4,t5,t6⟩) HF.out HBW.out hO' hgr (hat.imp id (fun h=>by rw[h];simp))
     have y2:=zAF hgr HF4.out HU8.out
     clear hO' hgr hat
     go_wp2_with fail
     go_roundg (m - (kk+1))
     case measure=>clear e9 e56;omega
     case rel=>exact⟨kk+1,hlt,nzR _,by go_num,by first|rfl|rw[e9],HFN⟩
    ·have hltz:¬(kk:Int)<(m:Int):=by omega
     obtain rfl:kk=m:=by omega
     have HF2:Hid (FiH V w2 S8 wr u8 (ts++fs.map (trd ⟨a,b,c,d,p,q,s,t⟩ xp))):=by
      have h:=HF.out
      rw[List.take_of_length_le (by rw[HFM.out];exact nzR _)] at h
      exact h
     rw[List.take_of_length_le (by rw[HFM.out];exact nzR _)]
     have hDT:=zFW HH.out.deep
     by_cases hrs:rs=[]
     ·have hLV:=zPE HH.out HOBV.out HB2.out.1 HF2.out HTA.out.1 (by rw[HFM.out];exact HTA.out.2.2.1) (HGO.out.1 hrs)
      have HLV:Aside (LvH V base OB ⟨a,b,c,d,p,q,s,t⟩ (ps0.map toL) wr (.slice (some ⟨g,offT off cap,none⟩) pt.length (cap - 1)) u8 (qq - sum fs) pt (ts++fs.map (trd ⟨a,b,c,d,p,q,s,t⟩ xp))):=hLV
      have hMS:mes (pt.map toL) (qq - sum fs)<GK:=by
       have h:=HGK.out.2
       unfold mes
       rw[jP]
       split <;>omega
      have HMS:Hid (mes (pt.map toL) (qq - sum fs)<GK):=hMS
      have hL0:rs.length=0:=by rw[hrs];rfl
      rw[hL0] at HOQ ⊢
      clear hMS hLV hrs
      have HFN:Hid (∀W,Calls Tryz.prog 139 #[.slice (some ⟨g,off,none⟩) (pt.length+1) cap,.slice lq 0 lc] W fun e w'=>e=.returned (.slice (some ⟨g,offT off cap,none⟩) pt.length (cap - 1))∧w'=W):=fun W=>zIC g off pt.length cap lq lc W (by have:=hDT.2.1;omega) hDT.2.2.1
      clear hDT
      go_wp2_with fail
      refine(HFN.out _).mono ?_
      rintro e wz⟨rfl,rfl⟩
      go_wp2_with fail
      go_roundg (mes (pt.map toL) (qq - sum fs))
      case measure=>rw[HGK.out.1];exact HMS.out
      case rel=>exact⟨qq - sum fs,pt,_,rfl,nzR _,HLV⟩
     ·have hLV:=zPF HH.out HOBV.out HB1.out HB2.out.1 HF2.out HOQ.out (by rw[HFM.out];exact HTA.out.2.2.1) (HTA.out.2.2.2.2.1 hrs) HTA.out.2.2.2.1 hrs (HGO.out.2 hrs)
      have HLV:Aside (LvH V base OB ⟨a,b,c,d,p,q,s,t⟩ (ps0.map toL) (wr.setCell ⟨g,off+1,none⟩ (.slice lq rs.length lc)) (.slice (some ⟨g,off,none⟩) (pt.length+1) cap) u8 (qq - sum fs) ((⟨xp,lq,rs.length,lc⟩,rs)::pt) (ts++fs.map (trd ⟨a,b,c,d,p,q,s,t⟩ xp))):=hLV
      have hMS:mes (((⟨xp,lq,rs.length,lc⟩,rs)::pt:List RP).map toL) (qq - sum fs)<GK:=by
       have h:=HGK.out.2
       have h2:=HTA.out.2.2.2.2.1 hrs
       unfold mes
       rw[if_pos (by omega)]
       omega
      have HMS:Hid (mes (((⟨xp,lq,rs.length,lc⟩,rs)::pt:List RP).map toL) (qq - sum fs)<GK):=hMS
      have hdw:=zHe HH.out HOBV.out HB2.out.1 HF2.out
      obtain⟨g',off',cap',hu0,-,e1,hfz,-,-⟩:=zFX hdw
      have hrl:0<rs.length:=by
       have:rs.length≠0:=fun e=>hrs (List.length_eq_zero_iff.1 e)
       omega
      cases hu0
      have HFS:Hid (Calls Tryz.prog 139 #[.slice (some ⟨g,off,none⟩) (pt.length+1) cap,.slice lq rs.length lc] wr fun e w'=>e=.returned (.slice (some ⟨g,off,none⟩) (pt.length+1) cap)∧w'=wr.setCell ⟨g,off+1,none⟩ (.slice lq rs.length lc)):=zID g off pt.length cap lq rs.length lc _ wr hrl e1 (hfz _)
      clear hdw e1 hfz hMS hLV hDT hrs
      go_wp2_with fail
      refine HFS.out.mono ?_
      rintro e wz⟨rfl,rfl⟩
      go_wp2_with fail
      go_roundg (mes (((⟨xp,lq,rs.length,lc⟩,rs)::pt:List RP).map toL) (qq - sum fs))
      case measure=>rw[HGK.out.1];exact HMS.out
      case rel=>exact⟨qq - sum fs,_,_,rfl,nzR _,HLV⟩
end mee
end Go.Proofs.YtifjhlgjgnnnpaaGreat
