import Derived.Test.YtmhcghgfpfainaaGreatDoorQueFil
namespace Go.Proofs.YtmhcghgfpfainaaGreatDoor
open Tryz
namespace mee
open Go.RowKit spn que sid
open ord (O oV mB mE chk zAz)
def flatT(ts:List T):List Value:=ts.flatMap tV
theorem wAE(a b:List T):flatT (a++b)=flatT a++flatT b:=by unfold flatT;rw[List.flatMap_append]
abbrev OwnT(w:World)(base:Nat)(v:Value)(ts:List T):Prop:=OwnM w base 29 6 v ts.length (flatT ts)
def zeroT:Value:=.agg #[.int .i64 0,.int .i64 0,.int .i64 0,.int .i64 0,.int .i64 0,.int .i64 0]
theorem infoT:(prog.info? 29).map (fun i=>(i.zero,i.size,i.bytes))=some (some zeroT,6,48):=by kernel_rfl
theorem infoT' : ∃i,prog.info? 29=some i∧i.zero=some zeroT∧i.size=6∧i.bytes=48:=by
 have h:=infoT;cases hq:prog.info? 29 with
 | none=>rw[hq] at h;simp at h
 | some i=>
  rw[hq] at h;simp only[Option.map_some,Option.some.injEq,Prod.mk.injEq] at h;exact⟨i,rfl,h.1,h.2.1,h.2.2⟩
theorem zOp(a b c d p q s t f1 f2 f3 x t1 t2 t3 t4 t5 t6:Int)(w:World)(h:trd ⟨a,b,c,d,p,q,s,t⟩ x ⟨f1,f2,f3⟩=⟨t1,t2,t3,t4,t5,t6⟩) :
  Calls prog 194 #[.agg #[.int .i64 a,.int .i64 b,.int .i64 c,.int .i64 d,.int .i64 p,.int .i64 q,.int .i64 s,.int .i64 t],.agg #[.int .i64 f1,.int .i64 f2,.int .i64 f3],.int .i64 x] w fun e w'=>e=.returned (.agg #[.int .i64 t1,.int .i64 t2,.int .i64 t3,.int .i64 t4,.int .i64 t5,.int .i64 t6])∧Bw w w':=by
 unfold trd at h;by_cases hc:c=1
 ·rw[if_pos hc] at h;simp only[T.mk.injEq] at h;obtain⟨rfl,rfl,rfl,rfl,rfl,rfl⟩:=h;subst hc;exact zLy a b d p q s t f1 f2 f3 x w
 ·rw[if_neg hc] at h;simp only[T.mk.injEq] at h;obtain⟨rfl,rfl,rfl,rfl,rfl,rfl⟩:=h;exact zJH a b c d p q s t f1 f2 f3 x w hc
theorem gr_up{a b c:World}{row row' : Option Nat}(h:a.grownBy b row)(k:b.grownBy c row')(hn:∀x,row'=some x→a.heap.size≤x):a.grownBy c row:=
 ⟨k.os.trans h.os,k.tape.trans h.tape,k.output.trans h.output,jM h.size k.size,fun i hi hr=>(k.block i (jC hi h.size) (fun e=>by have:=hn i e.symm;omega)).trans (h.block i hi hr)⟩
theorem zLA{w w' : World}{base:Nat}{v:Value}{ps:List RP}{row:Option Nat}(h:Deep w base v ps)(hg:w.grownBy w' row)(h1:∀x,v.ownBlock=some x→row≠some x)(h2:∀p∈ps,∀x,blkR p.1=some x→row≠some x):Deep w' base v ps:=
 ⟨zAl h.own hg h1,fun p hp=>zAl (h.each p hp) hg (h2 p hp),h.apart,h.far⟩
theorem zAI{w w' : World}{row:Option Nat}(hg:w.grownBy w' row){b o:Nat}{u:Value}(hc:w.cell? ⟨b,o,none⟩=some u)(H7:row≠some b):w'.cell? ⟨b,o,none⟩=some u:=by
 have hb:b<w.heap.size:=World.block_lt_of_cell? w ⟨b,o,none⟩ hc;rw[hg.cell_far ⟨b,o,none⟩ hb (fun e=>H7 e.symm)];exact hc
theorem zJI{W:World}{base g off n cap:Nat}{x:RP}{pt:List RP}{q:Option Addr}{m c:Nat}{zs:List R}(h:Deep W base (.slice (some ⟨g,off,none⟩) n cap) (x::pt))(ho:OwnQ W base (.slice q m c) zs)(h1:(Value.slice q m c).ownBlock≠some g)
  (h2:∀y∈pt,∀z,blkR y.1=some z→(Value.slice q m c).ownBlock≠some z):Deep (W.setCell ⟨g,off+1,none⟩ (.slice q m c)) base (.slice (some ⟨g,off,none⟩) n cap) ((⟨x.1.price,q,m,c⟩,zs)::pt):=by
 have Up:=wAc W g (off+1) (.slice q m c);obtain⟨p1,p2⟩:=List.pairwise_cons.1 h.apart;have hn:n=pt.length+1:=by
  obtain⟨q',c',e⟩:=OwnM.form h.own;rw[jH,jP] at e;cases e;rfl
 refine⟨?_,fun y hy=>?_,List.pairwise_cons.2 ⟨fun y hy z hz e=>h2 y hy z e hz,p2⟩,fun y hy z hz=>?_⟩
 ·have be:n=(x.1::pt.map (·.1)).length:=by simp[hn]
  have hn3:n=((⟨x.1.price,q,m,c⟩:rlv.RL)::pt.map (·.1)).length:=by simp[hn]
  have h1' : OwnM W base 94 2 (.slice (some ⟨g,off,none⟩) n cap) (x.1::pt.map (·.1)).length (rlv.flat (x.1::pt.map (·.1))):=by
   have h':=h.own;rw[jH,jK] at h';exact h'
  rw[←be] at h1';have h2':=OwnM.set h1' 1 (.slice q m c);have e:=zFC (a:=[]) (r:=x.1) (b:=pt.map (·.1)) q m c;simp only[jU,List.length_nil,Nat.zero_mul,Nat.zero_add] at e;rw[e] at h2';rw[jH,jK];show OwnM _ _ _ _ _ (List.length ((⟨x.1.price,q,m,c⟩:rlv.RL)::pt.map (·.1))) _
  rw[←hn3];exact h2'
 ·rcases List.mem_cons.1 hy with rfl|hy
  ·exact zAl ho Up (fun z hz e=>h1 (by rw[show (Value.slice q m c).ownBlock=some z from hz];exact e.symm))
  ·exact zAl (h.each y (by simp[hy])) Up (fun z hz=>h.far y (by simp[hy]) z hz)
 ·rcases List.mem_cons.1 hy with rfl|hy
  ·intro e;exact h1 (by rw[show (Value.slice q m c).ownBlock=some z from hz];exact e.symm)
  ·exact h.far y (by simp[hy]) z hz
def mes(ls:List L)(q:Int):Nat:=if q≤0 then 0 else ls.length+1
structure LvH (V:World) (base:Nat) (OB:Option Nat) (o:O) (ls0:List L) (wr:World) (s0 s8:Value) (q:Int) (ps:List RP) (ts:List T):Prop where
 q0:0≤q
 q1:q+ts.length≤10000
 deep:Deep wr base s0 ps
 good:∀l∈ps.map toL,lchk l=0
 own:OwnT wr V.heap.size s8 ts
 eq:tkl o ls0 o.qty=((tkl o (ps.map toL) q).1,ts++(tkl o (ps.map toL) q).2.1,(tkl o (ps.map toL) q).2.2)
 far:V.grownBy wr OB
 blk:s0.ownBlock=OB
 dis:∀k,s8.ownBlock=some k→∀p∈ps,blkR p.1≠some k
structure FiH (V w2:World) (s80:Value) (wr:World) (s8:Value) (ts:List T):Prop where
 own:OwnT wr V.heap.size s8 ts
 far:w2.grownBy wr s80.ownBlock
 blk:s8.ownBlock=s80.ownBlock∨∃k,s8.ownBlock=some k∧w2.heap.size≤k
theorem zQT{V w2 wr W w' : World}{s80 s8 v' : Value}{ts:List T}{tt:T}(h:FiH V w2 s80 wr s8 ts)(hB:Bw wr W)(hO:OwnM w' V.heap.size 29 6 v' (ts.length+1) (flatT ts++tV tt))(hg:W.grownBy w' s8.ownBlock)(hv:v'.ownBlock=s8.ownBlock∨v'.ownBlock=some W.heap.size):FiH V w2 s80 w' v' (ts++[tt]):=by
 have hs:=h.far.size;have gd:=hB.size;refine⟨?_,?_,?_⟩
 ·show OwnM _ _ _ _ _ _ _
  rw[wAE,jE];have e:flatT [tt]=tV tt:=by simp[flatT]
  rw[e];exact hO
 ·have h1:=wAe h.far (wAu hB _);rcases h.blk with e|⟨k,e,hk⟩
  ·rw[e] at hg;exact wAe h1 hg
  ·exact gr_up h1 hg (fun x hx=>by rw[e] at hx;cases hx;exact hk)
 ·rcases hv with e|e
  ·rw[e];exact h.blk
  ·exact .inr ⟨_,e,by omega⟩
theorem zHQ{V wo w2 wr:World}{base:Nat}{OB:Option Nat}{o:O}{ls0:List L}{s0 S8 u8:Value}{qq:Int}{ps:List RP}{ts ts' : List T}(H:LvH V base OB o ls0 wo s0 S8 qq ps ts)(bC:∀k,OB=some k→k<V.heap.size)(hB:Bw wo w2)(F:FiH V w2 S8 wr u8 ts'):Deep wr base s0 ps:=by
 refine zLA (H.deep.below hB) F.far (fun x hx e=>?_) (fun p hp x hx e=>H.dis x e p hp hx)
 have h1:=(OwnM.lt H.own x e).1;rw[H.blk] at hx;have:=bC x hx;omega
theorem zQn{V wo w2 wr:World}{base:Nat}{OB:Option Nat}{o:O}{ls0:List L}{s0 S8 u8:Value}{qq:Int}{ps:List RP}{ts ts' : List T}(H:LvH V base OB o ls0 wo s0 S8 qq ps ts)(hB:Bw wo w2)(F:FiH V w2 S8 wr u8 ts'):V.grownBy wr OB:=
 gr_up (wAe H.far (wAu hB _)) F.far (fun x hx=>(OwnM.lt H.own x hx).1)
theorem zQU{V wo w2 wr:World}{base g off n cap:Nat}{OB:Option Nat}{o:O}{ls0:List L}{S8 u8:Value}{qq:Int}{x:RP}{pt:List RP}{ts:List T}{fs:List F}(H:LvH V base OB o ls0 wo (.slice (some ⟨g,off,none⟩) n cap) S8 qq (x::pt) ts)(bC:∀k,OB=some k→k<V.heap.size)(hB:Bw wo w2)
  (F:FiH V w2 S8 wr u8 (ts++fs.map (trd o x.1.price))) (h1:sum fs≤qq) (h2:(fs.length:Int)≤sum fs)
  (BZ:tkl o (toL x::pt.map toL) qq=((tkl o (pt.map toL) (qq - sum fs)).1,fs.map (trd o x.1.price)++(tkl o (pt.map toL) (qq - sum fs)).2.1,(tkl o (pt.map toL) (qq - sum fs)).2.2)) :
  LvH V base OB o ls0 wr (.slice (some ⟨g,offT off cap,none⟩) pt.length (cap - 1)) u8 (qq - sum fs) pt (ts++fs.map (trd o x.1.price)):=by
 have hd:=zHQ H bC hB F;have G4:=hB.size;refine⟨by omega,by have:=H.q1;simp;omega,(zGI hd).2.2.2,fun l hl=>H.good l (by simp[hl]),F.own,?_,zQn H hB F,H.blk,fun k hk p hp e=>?_⟩
 ·have he:=H.eq;rw[jK,BZ] at he;rw[he,jS]
 ·rcases F.blk with e2|⟨k',e2,dG⟩
  ·exact H.dis k (by rw[←e2];exact hk) p (by simp[hp]) e
  ·rw[e2] at hk;cases hk;have:=(OwnM.lt (H.deep.each p (by simp[hp])) k e).2
   omega
theorem zQV{V wo w1 w2 wr:World}{base g off n cap ln lc:Nat}{lq:Option Addr}{OB:Option Nat}{o:O}{ls0:List L}{S8 u8:Value}{qq:Int}{x:RP}{pt:List RP}{ts:List T}{fs:List F}{rs:List R}(H:LvH V base OB o ls0 wo (.slice (some ⟨g,off,none⟩) n cap) S8 qq (x::pt) ts)(bC:∀k,OB=some k→k<V.heap.size)
  (Gt:Bw wo w1) (hB:Bw wo w2) (F:FiH V w2 S8 wr u8 (ts++fs.map (trd o x.1.price))) (hq:OwnQ w2 w1.heap.size (.slice lq ln lc) rs) (h2:(fs.length:Int)≤sum fs) (h3:qq - sum fs=0) (h4:qchk rs=0) (h5:¬rs=[])
  (BZ:tkl o (toL x::pt.map toL) qq=(⟨x.1.price,rs⟩::pt.map toL,fs.map (trd o x.1.price),qq - sum fs)) :
  LvH V base OB o ls0 (wr.setCell ⟨g,off+1,none⟩ (.slice lq ln lc)) (.slice (some ⟨g,off,none⟩) n cap) u8 (qq - sum fs) ((⟨x.1.price,lq,ln,lc⟩,rs)::pt) (ts++fs.map (trd o x.1.price)):=by
 have hd:=zHQ H bC hB F;have G4:=hB.size;have C5:=Gt.size;have BV:OB=some g:=H.blk.symm;have hgV:=bC g BV;obtain⟨G7,hgo2⟩:=OwnM.lt H.deep.own g rfl;have Up:=wAc wr g (off+1) (.slice lq ln lc);have Hj:∀z,(Value.slice lq ln lc).ownBlock=some z→w1.heap.size≤z∧z<w2.heap.size:=fun z hz=>OwnM.lt hq z hz
 have hqr:OwnQ wr base (.slice lq ln lc) rs:=zAl (OwnM.mono hq (by omega)) F.far (fun z hz e=>by
  have:=(Hj z hz).1;have:=(OwnM.lt H.own z e).2;omega)
 refine⟨by omega,by have:=H.q1;simp;omega,?_,?_,?_,?_,?_,H.blk,?_⟩
 ·exact zJI hd hqr (fun e=>by have:=(Hj g e).1;omega) (fun y hy z hz e=>by
   have:=(Hj z e).1;have:=(OwnM.lt (H.deep.each y (by simp[hy])) z hz).2
   omega)
 ·intro l hl;rw[jK] at hl;rcases List.mem_cons.1 hl with rfl|hl
  ·exact zCL (zCY (H.good (toL x) (by simp))) h5 h4
  ·exact H.good l (by simp[hl])
 ·exact zAl F.own Up (fun z hz e=>by
   cases e;have:=(OwnM.lt F.own g hz).1;omega)
 ·have he:=H.eq;rw[jK,BZ] at he;have e0:tkl o (((⟨x.1.price,lq,ln,lc⟩,rs)::pt:List RP).map toL) (qq - sum fs)=(((⟨x.1.price,lq,ln,lc⟩,rs)::pt:List RP).map toL,[],qq - sum fs):=zAZ (by omega)
  rw[he,e0,jH];rfl
 ·have h:=zQn H hB F;rw[BV] at h ⊢;exact wAe h Up
 ·intro k hk p hp e;rcases List.mem_cons.1 hp with rfl|hp
  ·have h6:=Hj k e;rcases F.blk with e2|⟨k',e2,dG⟩
   ·have:=(OwnM.lt H.own k (by rw[←e2];exact hk)).2
    omega
   ·rw[e2] at hk;cases hk;omega
  ·rcases F.blk with e2|⟨k',e2,dG⟩
   ·exact H.dis k (by rw[←e2];exact hk) p (by simp[hp]) e
   ·rw[e2] at hk;cases hk;have:=(OwnM.lt (H.deep.each p (by simp[hp])) k e).2
    omega
set_option maxRecDepth 100000 in
set_option maxHeartbeats 4000000 in
theorem zEk(a b c d p q s t:Int)(v:Value)(ps0:List RP)(base:Nat)(w:World)(hD:Deep w base v ps0)(hk:chk ⟨a,b,c,d,p,q,s,t⟩=0)(hq:∀l∈ps0.map toL,lchk l=0) :
  Calls prog 190 #[v,.agg #[.int .i64 a,.int .i64 b,.int .i64 c,.int .i64 d,.int .i64 p,.int .i64 q,.int .i64 s,.int .i64 t]] w fun e w'=>∃v' tv,e=.returned (.tuple #[v',tv,.int .i64 (tkl ⟨a,b,c,d,p,q,s,t⟩ (ps0.map toL) q).2.2,.nilIface])∧DL w' base v' (tkl ⟨a,b,c,d,p,q,s,t⟩ (ps0.map toL) q).1∧OwnT w' w.heap.size tv (tkl ⟨a,b,c,d,p,q,s,t⟩ (ps0.map toL) q).2.1∧w.grownBy w' v.ownBlock:=by
 obtain⟨vq,vn,vc,hv⟩:∃vq vn vc,v=.slice vq vn vc:=by obtain⟨x,y,z⟩:=OwnM.form hD.own;exact⟨x,_,y,z⟩
 subst hv;generalize bC:(Value.slice vq vn vc).ownBlock=OB;have HOB:Hid ((Value.slice vq vn vc).ownBlock=OB):=bC;clear bC;obtain⟨V,hV⟩:∃V,V=w.alloc (.cells #[.int .i64 a,.int .i64 b,.int .i64 c,.int .i64 d,.int .i64 p,.int .i64 q,.int .i64 s,.int .i64 t] 40):=⟨_,rfl⟩;have uB:Hid (Bw w V):=by rw[hV];exact(bzR _ _).alloc (nzR _) _
 have mV:V.heap[w.heap.size]?=some (.cells #[.int .i64 a,.int .i64 b,.int .i64 c,.int .i64 d,.int .i64 p,.int .i64 q,.int .i64 s,.int .i64 t] 40 (0,0)):=by rw[hV];exact jA w _
 have gp:w.heap.size<V.heap.size:=(gzE.1 mV).1;have cel:∀i,V.cell? ⟨w.heap.size,i,none⟩=(#[.int .i64 a,.int .i64 b,.int .i64 c,.int .i64 d,.int .i64 p,.int .i64 q,.int .i64 s,.int .i64 t]:Array Value)[i]?:=fun i=>by simp[World.cell?,mV]
 have mP:Hid (OB≠some w.heap.size):=fun e=>by have:=(OwnM.lt hD.own _ (HOB.out.trans e)).2;omega
 have cZ:Hid (∀k,OB=some k→k<V.heap.size):=fun k e=>by have:=(OwnM.lt hD.own _ (HOB.out.trans e)).2;omega
 have HQ:Hid (1≤q∧q≤10000):=by
  obtain⟨-,-,h3,-,-⟩:=ord.zBB hk;simp[ord.qtyB] at h3;exact⟨h3.1.1.1,h3.1.1.2⟩
 have HK:Hid (chk ⟨a,b,c,d,p,q,s,t⟩=0):=hk;have HD:Hid (Deep V base (.slice vq vn vc) ps0):=hD.below uB.out;have HG:Hid (∀l∈ps0.map toL,lchk l=0):=hq;have HP:Hid (∀wr v' tv q' ps ts,LvH V base OB ⟨a,b,c,d,p,q,s,t⟩ (ps0.map toL) wr v' tv q' ps ts→(tkl ⟨a,b,c,d,p,q,s,t⟩ (ps.map toL) q')=(ps.map toL,[],q')→∀w',Bw wr w'→
   (q'=(tkl ⟨a,b,c,d,p,q,s,t⟩ (ps0.map toL) q).2.2∧DL w' base v' (tkl ⟨a,b,c,d,p,q,s,t⟩ (ps0.map toL) q).1∧OwnT w' w.heap.size tv (tkl ⟨a,b,c,d,p,q,s,t⟩ (ps0.map toL) q).2.1∧w.grownBy w' OB)):=by
  intro wr v' tv q' ps ts h e w' hB;have he:=h.eq;rw[e] at he;show _∧_
  rw[he];refine⟨rfl,⟨ps,rfl,h.deep.below hB⟩,?_,?_⟩
  ·rw[jH];exact OwnM.mono (OwnM.below h.own hB) (jX gp)
  ·exact wAe (wAe (wAu uB.out _) h.far) (wAu hB _)
 generalize hR:(tkl ⟨a,b,c,d,p,q,s,t⟩ (ps0.map toL) q)=RR at HP;have HR:Hid (tkl ⟨a,b,c,d,p,q,s,t⟩ (ps0.map toL) q=RR):=hR;clear hR hD hk hq mV;obtain⟨R1,R2,R3⟩:=RR;simp only[] at HP ⊢;have dd:Hid (∀wr,V.grownBy wr OB→wr.cell? ⟨w.heap.size,0,none⟩=some (.int .i64 a)∧wr.cell? ⟨w.heap.size,1,none⟩=some (.int .i64 b)∧wr.cell? ⟨w.heap.size,2,none⟩=some (.int .i64 c)∧wr.cell? ⟨w.heap.size,3,none⟩=some (.int .i64 d)∧wr.cell? ⟨w.heap.size,4,none⟩=some (.int .i64 p)∧wr.cell? ⟨w.heap.size,5,none⟩=some (.int .i64 q)∧wr.cell? ⟨w.heap.size,6,none⟩=some (.int .i64 s)∧wr.cell? ⟨w.heap.size,7,none⟩=some (.int .i64 t)):=fun wr hg=>
  ⟨zAI hg (cel 0) mP.out,zAI hg (cel 1) mP.out,zAI hg (cel 2) mP.out,zAI hg (cel 3) mP.out,zAI hg (cel 4) mP.out,zAI hg (cel 5) mP.out,zAI hg (cel 6) mP.out,zAI hg (cel 7) mP.out⟩
 have c5:V.cell? ⟨w.heap.size,5,none⟩=some (.int .i64 q):=cel 5;clear cel;obtain⟨i0,Gg,gH,gw,gD⟩:=infoT';have HI:Hid (prog.info? 29=some i0):=Gg;clear Gg;go_enter func190,ntmps190;go_wp2_with fail;rw[←hV];clear hV;go_wp2_with fail;go_loopg [0,8,9,10,11,12,13,14,16] (ps0.length+1) (fun gg s0 s8 s9 _ _ _ _ _ _ wr=>∃ (qq:Int) (ps:List RP) (ts:List T),s9=.int .i64 qq∧mes (ps.map toL) qq≤gg∧Aside (LvH V base OB ⟨a,b,c,d,p,q,s,t⟩ (ps0.map toL) wr s0 s8 qq ps ts))
 case atStart=>
  refine⟨q,ps0,[],rfl,?_,?_⟩
  ·unfold mes;rw[jP];split <;>omega
  ·refine⟨by have:=HQ.out;omega,by have:=HQ.out;simp;omega,HD.out,HG.out,⟨rfl,.inl ⟨rfl,rfl⟩⟩,by rw[HR.out];simp,⟨rfl,rfl,rfl,nzR _,fun _ _ _=>rfl⟩,HOB.out,fun k hk=>by simp[Value.ownBlock] at hk⟩
 case round=>
  obtain⟨qq,ps,ts,rfl,MW,hH⟩:=hrel;have HH:Hid (LvH V base OB ⟨a,b,c,d,p,q,s,t⟩ (ps0.map toL) wr u0 u8 qq ps ts):=hH.out;clear hH;obtain⟨d0,d1,d2,d3,d4,d5,d6,d7⟩:=dd.out wr HH.out.far;by_cases uA:0<qq
  rotate_left
  ·obtain⟨e1,e2,e3,e4⟩:=HP.out _ _ _ _ _ _ HH.out (zAZ (by omega)) wr (bzR _ _)
   subst e1;have HE:Hid (DL wr base u0 R1∧OwnT wr w.heap.size u8 R2∧w.grownBy wr OB):=⟨e2,e3,e4⟩;clear e2 e3 e4 MW;go_wp2_with fail
   go_returns
   exact⟨_,_,rfl,HE.out⟩
  have HM:Hid (mes (ps.map toL) qq≤gk):=MW;clear MW;cases ps with
  | nil=>
   obtain⟨e1,e2,e3,e4⟩:=HP.out _ _ _ _ _ _ HH.out rfl wr (bzR _ _);obtain⟨uq,uc,hu⟩:=OwnM.form HH.out.deep.own;rw[jH,List.map_nil,List.length_nil] at hu;subst e1;have HE:Hid (DL wr base u0 R1∧OwnT wr w.heap.size u8 R2∧w.grownBy wr OB):=⟨e2,e3,e4⟩;subst hu;clear e2 e3 e4;go_wp2_with fail
   go_returns
   exact⟨_,_,rfl,HE.out⟩
  | cons x pt=>
   obtain⟨g,off,cap,hu0,e0,e1,Pn,G7,Uq⟩:=zGJ HH.out.deep;subst hu0;have HLX:Hid (lchk (toL x)=0):=HH.out.good (toL x) (by simp)
   have HOX:Hid (OwnQ wr base (sv x.1) x.2):=HH.out.deep.each x (by simp)
   obtain⟨⟨xp,xq,xn,xc⟩,zs⟩:=x;simp only[] at e0 e1;have hQZ:qchk zs=0:=(zAh HLX.out).2.2;have md:ord.prB xp=true:=by have h:=(zAh HLX.out).1;simp only[toL] at h;simp[ord.prB,h]
   have dh:Hid (∀W,Calls prog 169 #[.agg #[.int .i64 a,.int .i64 b,.int .i64 c,.int .i64 d,.int .i64 p,.int .i64 q,.int .i64 s,.int .i64 t],.int .i64 xp] W fun e w'=>e=.returned (.tuple #[.bool (mB ⟨a,b,c,d,p,q,s,t⟩ xp),.nilIface])∧Bw W w'):=fun W=>by
    have h:=zAz ⟨a,b,c,d,p,q,s,t⟩ xp W;have e:mE ⟨a,b,c,d,p,q,s,t⟩ xp=0:=(by unfold mE;rw[if_pos HK.out,md];rfl);rw[e,if_pos rfl] at h;exact h
   have Ua:Hid (∀W,Bw wr W→Calls prog 193 #[.slice xq xn xc,.int .i64 qq] W fun e w'=>∃fv lv,e=.returned (.tuple #[fv,lv,.nilIface])∧OwnF w' W.heap.size fv (take qq zs).1∧OwnQ w' W.heap.size lv (take qq zs).2∧Bw W w'):=fun W hW=>
    zLx _ zs qq W ((OwnQ.sl HOX.out).below hW) hQZ (by omega) (by have:=HH.out.q1;omega)
   have hz:pt.length+1≠0:=by omega
   have hzi:(0:Int)<((pt.length+1:Nat):Int):=by omega
   generalize hMB:mB ⟨a,b,c,d,p,q,s,t⟩ xp=M at dh;have HMB:Hid (mB ⟨a,b,c,d,p,q,s,t⟩ xp=M):=hMB;clear hMB;cases M
   ·go_wp2_with fail;refine(dh.out _).mono ?_;rintro e w1⟨rfl,b1⟩;obtain⟨e1',e2',e3',e4'⟩:=HP.out _ _ _ _ _ _ HH.out (zFA HMB.out) w1 b1;subst e1';have HE:Hid (DL w1 base (.slice (some ⟨g,off,none⟩) (pt.length+1) cap) R1∧OwnT w1 w.heap.size u8 R2∧w.grownBy w1 OB):=⟨e2',e3',e4'⟩;clear e2' e3' e4' b1;go_wp2_with fail
    go_returns
    exact⟨_,_,rfl,HE.out⟩
   go_wp2_with fail;refine(dh.out _).mono ?_;rintro e w1⟨rfl,b1⟩;have x1:=zAa b1 e1;have He:Hid (Bw wr w1):=b1;clear b1;go_wp2_with fail;refine(Ua.out w1 He.out).mono ?_;rintro e w2⟨fv,lv,rfl,OF,OQ,b2⟩;have Hg:Hid (Bw wr w2∧Bw w1 w2):=⟨He.out.trans (b2.mono He.out.size),b2⟩;obtain⟨fq,fc,uR⟩:=OwnM.form OF;obtain⟨lq,lc,hlv⟩:=OwnM.form OQ;subst uR;subst hlv;have mv:Hid (OwnF w2 w1.heap.size (.slice fq (take qq zs).1.length fc) (take qq zs).1):=OF;have HOQ:Hid (OwnQ w2 w1.heap.size (.slice lq (take qq zs).2.length lc) (take qq zs).2):=OQ;have my:Hid (sum (take qq zs).1≤qq∧0≤sum (take qq zs).1∧((take qq zs).1.length:Int)≤sum (take qq zs).1∧qchk (take qq zs).2=0∧(¬(take qq zs).2=[]→qq - sum (take qq zs).1=0)∧∀f∈(take qq zs).1,1≤f.qty∧f.qty≤qq):=by
    obtain⟨f1,f2,f3,f4,f5,f6,f7⟩:=zCA hQZ (q:=qq) (by omega)
    exact⟨f1,f2,f3,f4,zGz hQZ (by omega),f6⟩
   have PT:Hid (((take qq zs).2=[]→tkl ⟨a,b,c,d,p,q,s,t⟩ ((⟨xp,zs⟩:L)::pt.map toL) qq=((tkl ⟨a,b,c,d,p,q,s,t⟩ (pt.map toL) (qq - sum (take qq zs).1)).1,(take qq zs).1.map (trd ⟨a,b,c,d,p,q,s,t⟩ xp)++(tkl ⟨a,b,c,d,p,q,s,t⟩ (pt.map toL) (qq - sum (take qq zs).1)).2.1,(tkl ⟨a,b,c,d,p,q,s,t⟩ (pt.map toL) (qq - sum (take qq zs).1)).2.2))∧
     (¬(take qq zs).2=[]→tkl ⟨a,b,c,d,p,q,s,t⟩ ((⟨xp,zs⟩:L)::pt.map toL) qq=(⟨xp,(take qq zs).2⟩::pt.map toL,(take qq zs).1.map (trd ⟨a,b,c,d,p,q,s,t⟩ xp),qq - sum (take qq zs).1))):=
    ⟨fun h=>zCU uA HMB.out h,fun h=>zCV uA HMB.out h⟩
   clear OF OQ b2 e0 e1 x1 dh Ua Pn;generalize (take qq zs).1=fs at *;generalize (take qq zs).2=rs at *;generalize u8=S8 at *;generalize hm:fs.length=m at *;have mu:Hid (fs.length=m):=hm;clear hm;obtain⟨GK,hGK⟩:∃GK:Nat,gk=GK:=⟨_,rfl⟩;have HGK:Hid (gk=GK∧pt.length+2≤GK):=⟨hGK,by
    have h:=HM.out;unfold mes at h;rw[if_neg (by omega),hGK] at h
    simp at h;omega⟩
   clear hGK;have HS8:Hid (OwnT wr V.heap.size S8 ts):=HH.out.own;have D0:Hid (∀k,S8.ownBlock=some k→V.heap.size≤k∧k<wr.heap.size):=fun k hk=>OwnM.lt HS8.out k hk
   have HS82:Hid (OwnT w2 V.heap.size S8 ts):=OwnM.below HS8.out Hg.out.1;have HVw:Hid (V.heap.size≤w2.heap.size):=jM HH.out.far.size Hg.out.1.size;have GX:Hid (w2.cell? ⟨w.heap.size,0,none⟩=some (.int .i64 a)∧w2.cell? ⟨w.heap.size,1,none⟩=some (.int .i64 b)∧w2.cell? ⟨w.heap.size,2,none⟩=some (.int .i64 c)∧w2.cell? ⟨w.heap.size,3,none⟩=some (.int .i64 d)∧w2.cell? ⟨w.heap.size,4,none⟩=some (.int .i64 p)∧w2.cell? ⟨w.heap.size,5,none⟩=some (.int .i64 q)∧w2.cell? ⟨w.heap.size,6,none⟩=some (.int .i64 s)∧w2.cell? ⟨w.heap.size,7,none⟩=some (.int .i64 t)):=
    ⟨zAa Hg.out.1 d0,zAa Hg.out.1 d1,zAa Hg.out.1 d2,zAa Hg.out.1 d3,zAa Hg.out.1 d4,zAa Hg.out.1 d5,zAa Hg.out.1 d6,zAa Hg.out.1 d7⟩
   clear d0 d1 d2 d3 d4 d5 d6 d7;have hm64:(m:Int)≤10000:=by have:=my.out.2.2.1;have:=my.out.1;have:=HH.out.q1;omega
   go_wp2_with fail;go_loopg [8,9,16,56] m (fun gg s8 s9 _ s56 wy=>∃kk:Nat,kk≤m∧m - kk≤gg∧s56=.int .i64 kk∧s9=.int .i64 (qq - sum (fs.take kk))∧Aside (FiH V w2 S8 wy s8 (ts++(fs.take kk).map (trd ⟨a,b,c,d,p,q,s,t⟩ xp))))
   case atStart=>exact⟨0,jL _,by omega,rfl,by simp[sum],⟨by simpa using HS82.out,⟨rfl,rfl,rfl,nzR _,fun _ _ _=>rfl⟩,.inl rfl⟩⟩
   case round=>
    obtain⟨kk,gh,hg,rfl,rfl,hF⟩:=hrel;have HF:Hid (FiH V w2 S8 wr u8 (ts++(fs.take kk).map (trd ⟨a,b,c,d,p,q,s,t⟩ xp))):=hF.out;clear hF;have mJ:Hid (fs.length=m):=mu.out;by_cases Hj:kk<m
    ·have Hq:(kk:Int)<(m:Int):=(by omega);have Hv:kk<fs.length:=(by rw[mu.out];exact Hj);obtain⟨f,hf⟩:∃f,fs[kk]! = f:=⟨_,rfl⟩;obtain⟨f1,f2,f3⟩:=f;obtain⟨fb,fo,hfq,hfbl,hfbh,g0,g1,g2⟩:∃fb fo,fq=some ⟨fb,fo,none⟩∧w1.heap.size≤fb∧fb<w2.heap.size∧w2.cell? ⟨fb,fo+kk*3,none⟩=some (.int .i64 f1)∧w2.cell? ⟨fb,fo+kk*3+1,none⟩=some (.int .i64 f2)∧w2.cell? ⟨fb,fo+kk*3+2,none⟩=some (.int .i64 f3):=by
      rcases OwnF.sf mv.out with ⟨e,e2⟩|⟨fb,fo,fc',e,-,h3,h4⟩
      ·rw[e2] at Hv;simp at Hv
      ·cases e;obtain⟨g0,g1,g2⟩:=zOo h4 Hv hf;exact⟨fb,fo,rfl,(OwnM.lt mv.out fb rfl).1,h3,g0,g1,g2⟩
     subst hfq;have HNF:Hid (S8.ownBlock≠some fb):=fun e=>by have:=(D0.out fb e).2;have:=He.out.size;omega
     have Mg:Hid (S8.ownBlock≠some w.heap.size):=fun e=>by have:=(D0.out _ e).1;omega
     have x0:=zAI HF.out.far g0 HNF.out;have x1:=zAI HF.out.far g1 HNF.out;have x2:=zAI HF.out.far g2 HNF.out;obtain⟨d0,d1,d2,d3,d4,d5,d6,d7⟩:=GX.out;have k0:=zAI HF.out.far d0 Mg.out;have k1:=zAI HF.out.far d1 Mg.out;have k2:=zAI HF.out.far d2 Mg.out;have k3:=zAI HF.out.far d3 Mg.out;have k4:=zAI HF.out.far d4 Mg.out;have k5:=zAI HF.out.far d5 Mg.out;have k6:=zAI HF.out.far d6 Mg.out;have k7:=zAI HF.out.far d7 Mg.out;obtain⟨tt,htt⟩:∃tt,trd ⟨a,b,c,d,p,q,s,t⟩ xp ⟨f1,f2,f3⟩=tt:=⟨_,rfl⟩;obtain⟨t1,t2,t3,t4,t5,t6⟩:=tt
     have Mi:Hid (∀W,Calls prog 194 #[.agg #[.int .i64 a,.int .i64 b,.int .i64 c,.int .i64 d,.int .i64 p,.int .i64 q,.int .i64 s,.int .i64 t],.agg #[.int .i64 f1,.int .i64 f2,.int .i64 f3],.int .i64 xp] W fun e w'=>e=.returned (.agg #[.int .i64 t1,.int .i64 t2,.int .i64 t3,.int .i64 t4,.int .i64 t5,.int .i64 t6])∧Bw W w'):=fun W=>zOp a b c d p q s t f1 f2 f3 xp t1 t2 t3 t4 t5 t6 W htt
     have HTS:Hid ((ts++(fs.take (kk+1)).map (trd ⟨a,b,c,d,p,q,s,t⟩ xp))=(ts++(fs.take kk).map (trd ⟨a,b,c,d,p,q,s,t⟩ xp))++[⟨t1,t2,t3,t4,t5,t6⟩]):=by
      show _=_
      rw[List.take_succ_eq_append_getElem Hv,jF,←jS,←getE _ _ Hv,hf];simp[htt]
     have HSU:Hid (sum (fs.take (kk+1))=sum (fs.take kk)+f3):=by
      have h:=zNV fs kk Hv;rw[hf] at h;exact h
     have HFQ:Hid (1≤f3∧f3≤10000):=by
      have h:=my.out.2.2.2.2.2 ⟨f1,f2,f3⟩ (by rw[←hf,getE _ _ Hv];exact jT Hv)
      have h2:=HH.out.q1;simp only[] at h;exact⟨h.1,by omega⟩
     have hNL:(ts++(fs.take kk).map (trd ⟨a,b,c,d,p,q,s,t⟩ xp)).length≤10000:=by
      have h:=HH.out.q1;have h2:=my.out;rw[jE,jP,jJ,mu.out];have:=mu.out;omega
     have gU:¬((kk:Int)<0):=Int.not_lt.2 (Int.natCast_nonneg _);have e56:wrap64 ((kk:Int)+1)=((kk+1:Nat):Int):=(by unfold wrap64;omega);have e9:wrap64 (qq - sum (fs.take kk) - f3)=qq - sum (fs.take (kk+1)):=by
      have h:=zHO fs kk (fun f hf=>(my.out.2.2.2.2.2 f hf).1)
      have h2:=HSU.out;have h3:=HFQ.out;have h4:=my.out.1;have h5:=HH.out.q1;have h6:=my.out.2.1;clear e56;unfold wrap64;omega
     have BF:Hid (Bw wr (wr.alloc (.cells #[.int .i64 f1,.int .i64 f2,.int .i64 f3] 294))):=(bzR _ _).alloc (nzR _) _;have cQ:Hid ((wr.alloc (.cells #[.int .i64 f1,.int .i64 f2,.int .i64 f3] 294)).heap[wr.heap.size]?=some (.cells #[.int .i64 f1,.int .i64 f2,.int .i64 f3] 294 (0,0))):=jA wr _;generalize (ts++(fs.take kk).map (trd ⟨a,b,c,d,p,q,s,t⟩ xp))=TK at HF HTS hNL;have hwl:w.heap.size<wr.heap.size:=jC gp (jM HVw.out HF.out.far.size);have hfl:fb<wr.heap.size:=jC hfbh HF.out.far.size;clear d0 d1 d2 d3 d4 d5 d6 d7 g0 g1 g2 hf htt;go_wp2_with fail;refine(Mi.out _).mono ?_;rintro e w3⟨rfl,b3⟩;have HU:Hid (Bw wr w3):=BF.out.trans (b3.mono BF.out.size);have PR:Hid (w3.heap[wr.heap.size]?=some (.cells #[.int .i64 f1,.int .i64 f2,.int .i64 f3] 294 (0,0))):=(b3.block _ (gzE.1 cQ.out).1).trans cQ.out;clear b3 x0 x1 x2 k0 k1 k2 k3 k4 k5 k6 k7
     have gI:Hid (Bw wr (w3.alloc (.cells #[.int .i64 t1,.int .i64 t2,.int .i64 t3,.int .i64 t4,.int .i64 t5,.int .i64 t6] 29))):=HU.out.alloc HU.out.size _;have pF:Hid (OwnT (w3.alloc (.cells #[.int .i64 t1,.int .i64 t2,.int .i64 t3,.int .i64 t4,.int .i64 t5,.int .i64 t6] 29)) V.heap.size u8 TK):=OwnM.below HF.out.own gI.out;have pE:Hid (∀j u,([.int .i64 t1,.int .i64 t2,.int .i64 t3,.int .i64 t4,.int .i64 t5,.int .i64 t6]:List Value)[j]?=some u→(w3.alloc (.cells #[.int .i64 t1,.int .i64 t2,.int .i64 t3,.int .i64 t4,.int .i64 t5,.int .i64 t6] 29)).cell? ((⟨w3.heap.size,0,none⟩:Addr).add j)=some u):=by
      intro j u hu;rw[Addr.add_lit,Nat.zero_add,World.cell?_alloc_at _ _ _ _ rfl];simpa using hu
     have HVS:Hid (V.heap.size≤(w3.alloc (.cells #[.int .i64 t1,.int .i64 t2,.int .i64 t3,.int .i64 t4,.int .i64 t5,.int .i64 t6] 29)).heap.size):=jM HVw.out (jM HF.out.far.size gI.out.size);have HF4:Hid ((w3.alloc (.cells #[.int .i64 t1,.int .i64 t2,.int .i64 t3,.int .i64 t4,.int .i64 t5,.int .i64 t6] 29)).cell? ⟨wr.heap.size,2,none⟩=some (.int .i64 f3)):=by
      have h0:w3.cell? ⟨wr.heap.size,2,none⟩=some (.int .i64 f3):=(by simp[World.cell?,PR.out]);exact zAa ((bzR _ _).alloc (nzR _) _) h0
     have HU8:Hid (u8.ownBlock≠some wr.heap.size):=fun e=>by have:=(OwnM.lt HF.out.own _ e).2;omega
     go_wp2_with (at_builtin;(refine wAd _ rfl _ _ 85 rfl V.heap.size 29 i0 zeroT 6 48 underlying85 HI.out gH gw gD rfl u8 _ _ rfl pF.out ⟨w3.heap.size,0,none⟩ 1 1 [.int .i64 t1,.int .i64 t2,.int .i64 t3,.int .i64 t4,.int .i64 t5,.int .i64 t6] rfl rfl pE.out (fun u hu=>by simp only[List.mem_cons,List.not_mem_nil,or_false] at hu;rcases hu with rfl|rfl|rfl|rfl|rfl|rfl <;>rfl) ?c3 ?c4 ?c5 ?_))
     case c3=>unfold maxLen;omega
     case c4=>omega
     case c5=>exact HVS.out
     intro v' w' gA Hw Gk;have HFN:Aside (FiH V w2 S8 w' v' (ts++(fs.take (kk+1)).map (trd ⟨a,b,c,d,p,q,s,t⟩ xp))):=by
      show FiH _ _ _ _ _ _
      rw[HTS.out];exact zQT (tt:=⟨t1,t2,t3,t4,t5,t6⟩) HF.out gI.out gA Hw (Gk.imp id (fun h=>by rw[h];simp))
     have y2:=zAI Hw HF4.out HU8.out;clear gA Hw Gk;go_wp2_with fail;go_roundg (m - (kk+1))
     case measure=>clear e9 e56;omega
     case rel=>exact⟨kk+1,Hj,nzR _,by go_num,by first|rfl|rw[e9],HFN⟩
    ·have Hq:¬(kk:Int)<(m:Int):=(by omega);obtain rfl:kk=m:=(by omega);have uV:Hid (FiH V w2 S8 wr u8 (ts++fs.map (trd ⟨a,b,c,d,p,q,s,t⟩ xp))):=by
      have h:=HF.out;rw[List.take_of_length_le (by rw[mu.out];exact nzR _)] at h
      exact h
     rw[List.take_of_length_le (by rw[mu.out];exact nzR _)]
     have hDT:=zGI HH.out.deep;by_cases Md:rs=[]
     ·have eN:=zQU HH.out cZ.out Hg.out.1 uV.out my.out.1 (by rw[mu.out];exact my.out.2.2.1) (PT.out.1 Md)
      have GD:Aside (LvH V base OB ⟨a,b,c,d,p,q,s,t⟩ (ps0.map toL) wr (.slice (some ⟨g,offT off cap,none⟩) pt.length (cap - 1)) u8 (qq - sum fs) pt (ts++fs.map (trd ⟨a,b,c,d,p,q,s,t⟩ xp))):=eN;have eR:mes (pt.map toL) (qq - sum fs)<GK:=by
       have h:=HGK.out.2;unfold mes;rw[jP];split <;>omega
      have Dy:Hid (mes (pt.map toL) (qq - sum fs)<GK):=eR;have bA:rs.length=0:=(by rw[Md];rfl);rw[bA] at HOQ ⊢;clear eR eN Md;have HFN:Hid (∀W,Calls prog 195 #[.slice (some ⟨g,off,none⟩) (pt.length+1) cap,.slice lq 0 lc] W fun e w'=>e=.returned (.slice (some ⟨g,offT off cap,none⟩) pt.length (cap - 1))∧w'=W):=fun W=>zJF g off pt.length cap lq lc W (by have:=hDT.2.1;omega) hDT.2.2.1
      clear hDT;go_wp2_with fail;refine(HFN.out _).mono ?_;rintro e wz⟨rfl,rfl⟩;go_wp2_with fail;go_roundg (mes (pt.map toL) (qq - sum fs))
      case measure=>rw[HGK.out.1];exact Dy.out
      case rel=>exact⟨qq - sum fs,pt,_,rfl,nzR _,GD⟩
     ·have eN:=zQV HH.out cZ.out He.out Hg.out.1 uV.out HOQ.out (by rw[mu.out];exact my.out.2.2.1) (my.out.2.2.2.2.1 Md) my.out.2.2.2.1 Md (PT.out.2 Md)
      have GD:Aside (LvH V base OB ⟨a,b,c,d,p,q,s,t⟩ (ps0.map toL) (wr.setCell ⟨g,off+1,none⟩ (.slice lq rs.length lc)) (.slice (some ⟨g,off,none⟩) (pt.length+1) cap) u8 (qq - sum fs) ((⟨xp,lq,rs.length,lc⟩,rs)::pt) (ts++fs.map (trd ⟨a,b,c,d,p,q,s,t⟩ xp))):=eN;have eR:mes (((⟨xp,lq,rs.length,lc⟩,rs)::pt:List RP).map toL) (qq - sum fs)<GK:=by
       have h:=HGK.out.2;have h2:=my.out.2.2.2.2.1 Md;unfold mes;rw[if_pos (by omega)]
       omega
      have Dy:Hid (mes (((⟨xp,lq,rs.length,lc⟩,rs)::pt:List RP).map toL) (qq - sum fs)<GK):=eR;have hdw:=zHQ HH.out cZ.out Hg.out.1 uV.out;obtain⟨g',off',cap',hu0,-,e1,Pn,-,-⟩:=zGJ hdw;have UW:0<rs.length:=by
       have:rs.length≠0:=fun e=>Md (List.length_eq_zero_iff.1 e)
       omega
      cases hu0;have HFS:Hid (Calls prog 195 #[.slice (some ⟨g,off,none⟩) (pt.length+1) cap,.slice lq rs.length lc] wr fun e w'=>e=.returned (.slice (some ⟨g,off,none⟩) (pt.length+1) cap)∧w'=wr.setCell ⟨g,off+1,none⟩ (.slice lq rs.length lc)):=zJG g off pt.length cap lq rs.length lc _ wr UW e1 (Pn _)
      clear hdw e1 Pn eR eN hDT Md;go_wp2_with fail;refine HFS.out.mono ?_;rintro e wz⟨rfl,rfl⟩;go_wp2_with fail;go_roundg (mes (((⟨xp,lq,rs.length,lc⟩,rs)::pt:List RP).map toL) (qq - sum fs))
      case measure=>rw[HGK.out.1];exact Dy.out
      case rel=>exact⟨qq - sum fs,_,_,rfl,nzR _,GD⟩
end mee
end Go.Proofs.YtmhcghgfpfainaaGreatDoor
