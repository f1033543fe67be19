import Derived.Test.YtnfilcpnneckkaaGreatQueFil
namespace Go.Proofs.YtnfilcpnneckkaaGreat
open Tryz
namespace mee
open Go.RowKit spn que sid
open ord (O oV mB mE chk zAy)
def flatT(ts:List T):List Value:=ts.flatMap tV
theorem wAz(a b:List T):flatT (a++b)=flatT a++flatT b:=by unfold flatT;rw[List.flatMap_append]
abbrev OwnT(w:World)(base:Nat)(v:Value)(ts:List T):Prop:=OwnM w base 38 6 v ts.length (flatT ts)
def zeroT:Value:=.agg #[.int .i64 0,.int .i64 0,.int .i64 0,.int .i64 0,.int .i64 0,.int .i64 0]
theorem infoT:(prog.info? 38).map (fun i=>(i.zero,i.size,i.bytes))=some (some zeroT,6,48):=by kernel_rfl
theorem infoT' : ∃i,prog.info? 38=some i∧i.zero=some zeroT∧i.size=6∧i.bytes=48:=by
 have h:=infoT;cases hq:prog.info? 38 with
 | none=>rw[hq] at h;simp at h
 | some i=>
  rw[hq] at h;simp only[Option.map_some,Option.some.injEq,Prod.mk.injEq] at h;exact⟨i,rfl,h.1,h.2.1,h.2.2⟩
theorem zNU(a b c d p q s t f1 f2 f3 x t1 t2 t3 t4 t5 t6:Int)(w:World)(h:trd ⟨a,b,c,d,p,q,s,t⟩ x ⟨f1,f2,f3⟩=⟨t1,t2,t3,t4,t5,t6⟩) :
  Calls prog 110 #[.agg #[.int .i64 a,.int .i64 b,.int .i64 c,.int .i64 d,.int .i64 p,.int .i64 q,.int .i64 s,.int .i64 t],.agg #[.int .i64 f1,.int .i64 f2,.int .i64 f3],.int .i64 x] w fun e w'=>e=.returned (.agg #[.int .i64 t1,.int .i64 t2,.int .i64 t3,.int .i64 t4,.int .i64 t5,.int .i64 t6])∧Bw w w':=by
 unfold trd at h;by_cases hc:c=1
 ·rw[if_pos hc] at h;simp only[T.mk.injEq] at h;obtain⟨rfl,rfl,rfl,rfl,rfl,rfl⟩:=h;subst hc;exact zLf a b d p q s t f1 f2 f3 x w
 ·rw[if_neg hc] at h;simp only[T.mk.injEq] at h;obtain⟨rfl,rfl,rfl,rfl,rfl,rfl⟩:=h;exact zJp a b c d p q s t f1 f2 f3 x w hc
theorem gr_up{a b c:World}{row row' : Option Nat}(h:a.grownBy b row)(k:b.grownBy c row')(hn:∀x,row'=some x→a.heap.size≤x):a.grownBy c row:=
 ⟨k.os.trans h.os,k.tape.trans h.tape,k.output.trans h.output,jM h.size k.size,fun i hi hr=>(k.block i (jC hi h.size) (fun e=>by have:=hn i e.symm;omega)).trans (h.block i hi hr)⟩
theorem zLh{w w' : World}{base:Nat}{v:Value}{ps:List RP}{row:Option Nat}(h:Deep w base v ps)(hg:w.grownBy w' row)(h1:∀x,v.ownBlock=some x→row≠some x)(h2:∀p∈ps,∀x,blkR p.1=some x→row≠some x):Deep w' base v ps:=
 ⟨zAm h.own hg h1,fun p hp=>zAm (h.each p hp) hg (h2 p hp),h.apart,h.far⟩
theorem zAJ{w w' : World}{row:Option Nat}(hg:w.grownBy w' row){b o:Nat}{u:Value}(hc:w.cell? ⟨b,o,none⟩=some u)(H8:row≠some b):w'.cell? ⟨b,o,none⟩=some u:=by
 have hb:b<w.heap.size:=World.block_lt_of_cell? w ⟨b,o,none⟩ hc;rw[hg.cell_far ⟨b,o,none⟩ hb (fun e=>H8 e.symm)];exact hc
theorem zJq{W:World}{base g off n cap:Nat}{x:RP}{pt:List RP}{q:Option Addr}{m c:Nat}{zs:List R}(h:Deep W base (.slice (some ⟨g,off,none⟩) n cap) (x::pt))(ho:OwnQ W base (.slice q m c) zs)(h1:(Value.slice q m c).ownBlock≠some g)
  (h2:∀y∈pt,∀z,blkR y.1=some z→(Value.slice q m c).ownBlock≠some z):Deep (W.setCell ⟨g,off+1,none⟩ (.slice q m c)) base (.slice (some ⟨g,off,none⟩) n cap) ((⟨x.1.price,q,m,c⟩,zs)::pt):=by
 have Ur:=wAc W g (off+1) (.slice q m c);obtain⟨p1,p2⟩:=List.pairwise_cons.1 h.apart;have hn:n=pt.length+1:=by
  obtain⟨q',c',e⟩:=OwnM.form h.own;rw[jH,jP] at e;cases e;rfl
 refine⟨?_,fun y hy=>?_,List.pairwise_cons.2 ⟨fun y hy z hz e=>h2 y hy z e hz,p2⟩,fun y hy z hz=>?_⟩
 ·have BV:n=(x.1::pt.map (·.1)).length:=by simp[hn]
  have hn3:n=((⟨x.1.price,q,m,c⟩:rlv.RL)::pt.map (·.1)).length:=by simp[hn]
  have h1' : OwnM W base 54 2 (.slice (some ⟨g,off,none⟩) n cap) (x.1::pt.map (·.1)).length (rlv.flat (x.1::pt.map (·.1))):=by
   have h':=h.own;rw[jH,jK] at h';exact h'
  rw[←BV] at h1';have h2':=OwnM.set h1' 1 (.slice q m c);have e:=zFy (a:=[]) (r:=x.1) (b:=pt.map (·.1)) q m c;simp only[jU,List.length_nil,Nat.zero_mul,Nat.zero_add] at e;rw[e] at h2';rw[jH,jK];show OwnM _ _ _ _ _ (List.length ((⟨x.1.price,q,m,c⟩:rlv.RL)::pt.map (·.1))) _
  rw[←hn3];exact h2'
 ·rcases List.mem_cons.1 hy with rfl|hy
  ·exact zAm ho Ur (fun z hz e=>h1 (by rw[show (Value.slice q m c).ownBlock=some z from hz];exact e.symm))
  ·exact zAm (h.each y (by simp[hy])) Ur (fun z hz=>h.far y (by simp[hy]) z hz)
 ·rcases List.mem_cons.1 hy with rfl|hy
  ·intro e;exact h1 (by rw[show (Value.slice q m c).ownBlock=some z from hz];exact e.symm)
  ·exact h.far y (by simp[hy]) z hz
def mes(ls:List L)(q:Int):Nat:=if q≤0 then 0 else ls.length+1
structure LvH (V:World) (base:Nat) (OB:Option Nat) (o:O) (ls0:List L) (wr:World) (s0 s8:Value) (q:Int) (ps:List RP) (ts:List T):Prop where
 q0:0≤q
 q1:q+ts.length≤10000
 deep:Deep wr base s0 ps
 good:∀l∈ps.map toL,lchk l=0
 own:OwnT wr V.heap.size s8 ts
 eq:tkl o ls0 o.qty=((tkl o (ps.map toL) q).1,ts++(tkl o (ps.map toL) q).2.1,(tkl o (ps.map toL) q).2.2)
 far:V.grownBy wr OB
 blk:s0.ownBlock=OB
 dis:∀k,s8.ownBlock=some k→∀p∈ps,blkR p.1≠some k
structure FiH (V w2:World) (s80:Value) (wr:World) (s8:Value) (ts:List T):Prop where
 own:OwnT wr V.heap.size s8 ts
 far:w2.grownBy wr s80.ownBlock
 blk:s8.ownBlock=s80.ownBlock∨∃k,s8.ownBlock=some k∧w2.heap.size≤k
theorem zQA{V w2 wr W w' : World}{s80 s8 v' : Value}{ts:List T}{tt:T}(h:FiH V w2 s80 wr s8 ts)(hB:Bw wr W)(hO:OwnM w' V.heap.size 38 6 v' (ts.length+1) (flatT ts++tV tt))(hg:W.grownBy w' s8.ownBlock)(hv:v'.ownBlock=s8.ownBlock∨v'.ownBlock=some W.heap.size):FiH V w2 s80 w' v' (ts++[tt]):=by
 have hs:=h.far.size;have H9:=hB.size;refine⟨?_,?_,?_⟩
 ·show OwnM _ _ _ _ _ _ _
  rw[wAz,jE];have e:flatT [tt]=tV tt:=by simp[flatT]
  rw[e];exact hO
 ·have h1:=wAd h.far (wAw hB _);rcases h.blk with e|⟨k,e,hk⟩
  ·rw[e] at hg;exact wAd h1 hg
  ·exact gr_up h1 hg (fun x hx=>by rw[e] at hx;cases hx;exact hk)
 ·rcases hv with e|e
  ·rw[e];exact h.blk
  ·exact .inr ⟨_,e,by omega⟩
theorem zHI{V wo w2 wr:World}{base:Nat}{OB:Option Nat}{o:O}{ls0:List L}{s0 S8 u8:Value}{qq:Int}{ps:List RP}{ts ts' : List T}(H:LvH V base OB o ls0 wo s0 S8 qq ps ts)(bt:∀k,OB=some k→k<V.heap.size)(hB:Bw wo w2)(F:FiH V w2 S8 wr u8 ts'):Deep wr base s0 ps:=by
 refine zLh (H.deep.below hB) F.far (fun x hx e=>?_) (fun p hp x hx e=>H.dis x e p hp hx)
 have h1:=(OwnM.lt H.own x e).1;rw[H.blk] at hx;have:=bt x hx;omega
theorem zPT{V wo w2 wr:World}{base:Nat}{OB:Option Nat}{o:O}{ls0:List L}{s0 S8 u8:Value}{qq:Int}{ps:List RP}{ts ts' : List T}(H:LvH V base OB o ls0 wo s0 S8 qq ps ts)(hB:Bw wo w2)(F:FiH V w2 S8 wr u8 ts'):V.grownBy wr OB:=
 gr_up (wAd H.far (wAw hB _)) F.far (fun x hx=>(OwnM.lt H.own x hx).1)
theorem zQB{V wo w2 wr:World}{base g off n cap:Nat}{OB:Option Nat}{o:O}{ls0:List L}{S8 u8:Value}{qq:Int}{x:RP}{pt:List RP}{ts:List T}{fs:List F}(H:LvH V base OB o ls0 wo (.slice (some ⟨g,off,none⟩) n cap) S8 qq (x::pt) ts)(bt:∀k,OB=some k→k<V.heap.size)(hB:Bw wo w2)
  (F:FiH V w2 S8 wr u8 (ts++fs.map (trd o x.1.price))) (h1:sum fs≤qq) (h2:(fs.length:Int)≤sum fs)
  (BJ:tkl o (toL x::pt.map toL) qq=((tkl o (pt.map toL) (qq - sum fs)).1,fs.map (trd o x.1.price)++(tkl o (pt.map toL) (qq - sum fs)).2.1,(tkl o (pt.map toL) (qq - sum fs)).2.2)) :
  LvH V base OB o ls0 wr (.slice (some ⟨g,offT off cap,none⟩) pt.length (cap - 1)) u8 (qq - sum fs) pt (ts++fs.map (trd o x.1.price)):=by
 have hd:=zHI H bt hB F;have ur:=hB.size;refine⟨by omega,by have:=H.q1;simp;omega,(zGC hd).2.2.2,fun l hl=>H.good l (by simp[hl]),F.own,?_,zPT H hB F,H.blk,fun k hk p hp e=>?_⟩
 ·have he:=H.eq;rw[jK,BJ] at he;rw[he,jS]
 ·rcases F.blk with e2|⟨k',e2,dG⟩
  ·exact H.dis k (by rw[←e2];exact hk) p (by simp[hp]) e
  ·rw[e2] at hk;cases hk;have:=(OwnM.lt (H.deep.each p (by simp[hp])) k e).2
   omega
theorem zQC{V wo w1 w2 wr:World}{base g off n cap ln lc:Nat}{lq:Option Addr}{OB:Option Nat}{o:O}{ls0:List L}{S8 u8:Value}{qq:Int}{x:RP}{pt:List RP}{ts:List T}{fs:List F}{rs:List R}(H:LvH V base OB o ls0 wo (.slice (some ⟨g,off,none⟩) n cap) S8 qq (x::pt) ts)(bt:∀k,OB=some k→k<V.heap.size)
  (Gd:Bw wo w1) (hB:Bw wo w2) (F:FiH V w2 S8 wr u8 (ts++fs.map (trd o x.1.price))) (hq:OwnQ w2 w1.heap.size (.slice lq ln lc) rs) (h2:(fs.length:Int)≤sum fs) (h3:qq - sum fs=0) (h4:qchk rs=0) (h5:¬rs=[])
  (BJ:tkl o (toL x::pt.map toL) qq=(⟨x.1.price,rs⟩::pt.map toL,fs.map (trd o x.1.price),qq - sum fs)) :
  LvH V base OB o ls0 (wr.setCell ⟨g,off+1,none⟩ (.slice lq ln lc)) (.slice (some ⟨g,off,none⟩) n cap) u8 (qq - sum fs) ((⟨x.1.price,lq,ln,lc⟩,rs)::pt) (ts++fs.map (trd o x.1.price)):=by
 have hd:=zHI H bt hB F;have ur:=hB.size;have CW:=Gd.size;have Ex:OB=some g:=H.blk.symm;have hgV:=bt g Ex;obtain⟨ud,hgo2⟩:=OwnM.lt H.deep.own g rfl;have Ur:=wAc wr g (off+1) (.slice lq ln lc);have Hi:∀z,(Value.slice lq ln lc).ownBlock=some z→w1.heap.size≤z∧z<w2.heap.size:=fun z hz=>OwnM.lt hq z hz
 have hqr:OwnQ wr base (.slice lq ln lc) rs:=zAm (OwnM.mono hq (by omega)) F.far (fun z hz e=>by
  have:=(Hi z hz).1;have:=(OwnM.lt H.own z e).2;omega)
 refine⟨by omega,by have:=H.q1;simp;omega,?_,?_,?_,?_,?_,H.blk,?_⟩
 ·exact zJq hd hqr (fun e=>by have:=(Hi g e).1;omega) (fun y hy z hz e=>by
   have:=(Hi z e).1;have:=(OwnM.lt (H.deep.each y (by simp[hy])) z hz).2
   omega)
 ·intro l hl;rw[jK] at hl;rcases List.mem_cons.1 hl with rfl|hl
  ·exact zCM (zDa (H.good (toL x) (by simp))) h5 h4
  ·exact H.good l (by simp[hl])
 ·exact zAm F.own Ur (fun z hz e=>by
   cases e;have:=(OwnM.lt F.own g hz).1;omega)
 ·have he:=H.eq;rw[jK,BJ] at he;have e0:tkl o (((⟨x.1.price,lq,ln,lc⟩,rs)::pt:List RP).map toL) (qq - sum fs)=(((⟨x.1.price,lq,ln,lc⟩,rs)::pt:List RP).map toL,[],qq - sum fs):=zBa (by omega)
  rw[he,e0,jH];rfl
 ·have h:=zPT H hB F;rw[Ex] at h ⊢;exact wAd h Ur
 ·intro k hk p hp e;rcases List.mem_cons.1 hp with rfl|hp
  ·have h6:=Hi k e;rcases F.blk with e2|⟨k',e2,dG⟩
   ·have:=(OwnM.lt H.own k (by rw[←e2];exact hk)).2
    omega
   ·rw[e2] at hk;cases hk;omega
  ·rcases F.blk with e2|⟨k',e2,dG⟩
   ·exact H.dis k (by rw[←e2];exact hk) p (by simp[hp]) e
   ·rw[e2] at hk;cases hk;have:=(OwnM.lt (H.deep.each p (by simp[hp])) k e).2
    omega
set_option maxRecDepth 100000 in
set_option maxHeartbeats 4000000 in
theorem zEh(a b c d p q s t:Int)(v:Value)(ps0:List RP)(base:Nat)(w:World)(hD:Deep w base v ps0)(hk:chk ⟨a,b,c,d,p,q,s,t⟩=0)(hq:∀l∈ps0.map toL,lchk l=0) :
  Calls prog 77 #[v,.agg #[.int .i64 a,.int .i64 b,.int .i64 c,.int .i64 d,.int .i64 p,.int .i64 q,.int .i64 s,.int .i64 t]] w fun e w'=>∃v' tv,e=.returned (.tuple #[v',tv,.int .i64 (tkl ⟨a,b,c,d,p,q,s,t⟩ (ps0.map toL) q).2.2,.nilIface])∧DL w' base v' (tkl ⟨a,b,c,d,p,q,s,t⟩ (ps0.map toL) q).1∧OwnT w' w.heap.size tv (tkl ⟨a,b,c,d,p,q,s,t⟩ (ps0.map toL) q).2.1∧w.grownBy w' v.ownBlock:=by
 obtain⟨vq,vn,vc,hv⟩:∃vq vn vc,v=.slice vq vn vc:=by obtain⟨x,y,z⟩:=OwnM.form hD.own;exact⟨x,_,y,z⟩
 subst hv;generalize bt:(Value.slice vq vn vc).ownBlock=OB;have HOB:Hid ((Value.slice vq vn vc).ownBlock=OB):=bt;clear bt;obtain⟨V,hV⟩:∃V,V=w.alloc (.cells #[.int .i64 a,.int .i64 b,.int .i64 c,.int .i64 d,.int .i64 p,.int .i64 q,.int .i64 s,.int .i64 t] 34):=⟨_,rfl⟩;have ue:Hid (Bw w V):=by rw[hV];exact(bzR _ _).alloc (nzR _) _
 have mP:V.heap[w.heap.size]?=some (.cells #[.int .i64 a,.int .i64 b,.int .i64 c,.int .i64 d,.int .i64 p,.int .i64 q,.int .i64 s,.int .i64 t] 34 (0,0)):=by rw[hV];exact jA w _
 have gp:w.heap.size<V.heap.size:=(gzE.1 mP).1;have cel:∀i,V.cell? ⟨w.heap.size,i,none⟩=(#[.int .i64 a,.int .i64 b,.int .i64 c,.int .i64 d,.int .i64 p,.int .i64 q,.int .i64 s,.int .i64 t]:Array Value)[i]?:=fun i=>by simp[World.cell?,mP]
 have mI:Hid (OB≠some w.heap.size):=fun e=>by have:=(OwnM.lt hD.own _ (HOB.out.trans e)).2;omega
 have cP:Hid (∀k,OB=some k→k<V.heap.size):=fun k e=>by have:=(OwnM.lt hD.own _ (HOB.out.trans e)).2;omega
 have HQ:Hid (1≤q∧q≤10000):=by
  obtain⟨-,-,h3,-,-⟩:=ord.zBC hk;simp[ord.qtyB] at h3;exact⟨h3.1.1.1,h3.1.1.2⟩
 have HK:Hid (chk ⟨a,b,c,d,p,q,s,t⟩=0):=hk;have HD:Hid (Deep V base (.slice vq vn vc) ps0):=hD.below ue.out;have HG:Hid (∀l∈ps0.map toL,lchk l=0):=hq;have HP:Hid (∀wr v' tv q' ps ts,LvH V base OB ⟨a,b,c,d,p,q,s,t⟩ (ps0.map toL) wr v' tv q' ps ts→(tkl ⟨a,b,c,d,p,q,s,t⟩ (ps.map toL) q')=(ps.map toL,[],q')→∀w',Bw wr w'→
   (q'=(tkl ⟨a,b,c,d,p,q,s,t⟩ (ps0.map toL) q).2.2∧DL w' base v' (tkl ⟨a,b,c,d,p,q,s,t⟩ (ps0.map toL) q).1∧OwnT w' w.heap.size tv (tkl ⟨a,b,c,d,p,q,s,t⟩ (ps0.map toL) q).2.1∧w.grownBy w' OB)):=by
  intro wr v' tv q' ps ts h e w' hB;have he:=h.eq;rw[e] at he;show _∧_
  rw[he];refine⟨rfl,⟨ps,rfl,h.deep.below hB⟩,?_,?_⟩
  ·rw[jH];exact OwnM.mono (OwnM.below h.own hB) (jX gp)
  ·exact wAd (wAd (wAw ue.out _) h.far) (wAw hB _)
 generalize hR:(tkl ⟨a,b,c,d,p,q,s,t⟩ (ps0.map toL) q)=RR at HP;have HR:Hid (tkl ⟨a,b,c,d,p,q,s,t⟩ (ps0.map toL) q=RR):=hR;clear hR hD hk hq mP;obtain⟨R1,R2,R3⟩:=RR;simp only[] at HP ⊢;have C5:Hid (∀wr,V.grownBy wr OB→wr.cell? ⟨w.heap.size,0,none⟩=some (.int .i64 a)∧wr.cell? ⟨w.heap.size,1,none⟩=some (.int .i64 b)∧wr.cell? ⟨w.heap.size,2,none⟩=some (.int .i64 c)∧wr.cell? ⟨w.heap.size,3,none⟩=some (.int .i64 d)∧wr.cell? ⟨w.heap.size,4,none⟩=some (.int .i64 p)∧wr.cell? ⟨w.heap.size,5,none⟩=some (.int .i64 q)∧wr.cell? ⟨w.heap.size,6,none⟩=some (.int .i64 s)∧wr.cell? ⟨w.heap.size,7,none⟩=some (.int .i64 t)):=fun wr hg=>
  ⟨zAJ hg (cel 0) mI.out,zAJ hg (cel 1) mI.out,zAJ hg (cel 2) mI.out,zAJ hg (cel 3) mI.out,zAJ hg (cel 4) mI.out,zAJ hg (cel 5) mI.out,zAJ hg (cel 6) mI.out,zAJ hg (cel 7) mI.out⟩
 have c5:V.cell? ⟨w.heap.size,5,none⟩=some (.int .i64 q):=cel 5;clear cel;obtain⟨i0,gY,gE,gu,gA⟩:=infoT';have HI:Hid (prog.info? 38=some i0):=gY;clear gY;go_enter func77,ntmps77;go_wp2_with fail;rw[←hV];clear hV;go_wp2_with fail;go_loopg [0,8,9,10,11,12,13,14,16] (ps0.length+1) (fun gg s0 s8 s9 _ _ _ _ _ _ wr=>∃ (qq:Int) (ps:List RP) (ts:List T),s9=.int .i64 qq∧mes (ps.map toL) qq≤gg∧Aside (LvH V base OB ⟨a,b,c,d,p,q,s,t⟩ (ps0.map toL) wr s0 s8 qq ps ts))
 case atStart=>
  refine⟨q,ps0,[],rfl,?_,?_⟩
  ·unfold mes;rw[jP];split <;>omega
  ·refine⟨by have:=HQ.out;omega,by have:=HQ.out;simp;omega,HD.out,HG.out,⟨rfl,.inl ⟨rfl,rfl⟩⟩,by rw[HR.out];simp,⟨rfl,rfl,rfl,nzR _,fun _ _ _=>rfl⟩,HOB.out,fun k hk=>by simp[Value.ownBlock] at hk⟩
 case round=>
  obtain⟨qq,ps,ts,rfl,MO,hH⟩:=hrel;have HH:Hid (LvH V base OB ⟨a,b,c,d,p,q,s,t⟩ (ps0.map toL) wr u0 u8 qq ps ts):=hH.out;clear hH;obtain⟨d0,d1,d2,d3,d4,d5,d6,d7⟩:=C5.out wr HH.out.far;by_cases uz:0<qq
  rotate_left
  ·obtain⟨e1,e2,e3,e4⟩:=HP.out _ _ _ _ _ _ HH.out (zBa (by omega)) wr (bzR _ _)
   subst e1;have HE:Hid (DL wr base u0 R1∧OwnT wr w.heap.size u8 R2∧w.grownBy wr OB):=⟨e2,e3,e4⟩;clear e2 e3 e4 MO;go_wp2_with fail
   go_returns
   exact⟨_,_,rfl,HE.out⟩
  have HM:Hid (mes (ps.map toL) qq≤gk):=MO;clear MO;cases ps with
  | nil=>
   obtain⟨e1,e2,e3,e4⟩:=HP.out _ _ _ _ _ _ HH.out rfl wr (bzR _ _);obtain⟨uq,uc,hu⟩:=OwnM.form HH.out.deep.own;rw[jH,List.map_nil,List.length_nil] at hu;subst e1;have HE:Hid (DL wr base u0 R1∧OwnT wr w.heap.size u8 R2∧w.grownBy wr OB):=⟨e2,e3,e4⟩;subst hu;clear e2 e3 e4;go_wp2_with fail
   go_returns
   exact⟨_,_,rfl,HE.out⟩
  | cons x pt=>
   obtain⟨g,off,cap,hu0,e0,e1,Pg,ud,UE⟩:=zGD HH.out.deep;subst hu0;have HLX:Hid (lchk (toL x)=0):=HH.out.good (toL x) (by simp)
   have HOX:Hid (OwnQ wr base (sv x.1) x.2):=HH.out.deep.each x (by simp)
   obtain⟨⟨xp,xq,xn,xc⟩,zs⟩:=x;simp only[] at e0 e1;have hQZ:qchk zs=0:=(zAf HLX.out).2.2;have U6:ord.prB xp=true:=by have h:=(zAf HLX.out).1;simp only[toL] at h;simp[ord.prB,h]
   have db:Hid (∀W,Calls prog 108 #[.agg #[.int .i64 a,.int .i64 b,.int .i64 c,.int .i64 d,.int .i64 p,.int .i64 q,.int .i64 s,.int .i64 t],.int .i64 xp] W fun e w'=>e=.returned (.tuple #[.bool (mB ⟨a,b,c,d,p,q,s,t⟩ xp),.nilIface])∧Bw W w'):=fun W=>by
    have h:=zAy ⟨a,b,c,d,p,q,s,t⟩ xp W;have e:mE ⟨a,b,c,d,p,q,s,t⟩ xp=0:=(by unfold mE;rw[if_pos HK.out,U6];rfl);rw[e,if_pos rfl] at h;exact h
   have Ua:Hid (∀W,Bw wr W→Calls prog 109 #[.slice xq xn xc,.int .i64 qq] W fun e w'=>∃fv lv,e=.returned (.tuple #[fv,lv,.nilIface])∧OwnF w' W.heap.size fv (take qq zs).1∧OwnQ w' W.heap.size lv (take qq zs).2∧Bw W w'):=fun W hW=>
    zLe _ zs qq W ((OwnQ.sl HOX.out).below hW) hQZ (by omega) (by have:=HH.out.q1;omega)
   have hz:pt.length+1≠0:=by omega
   have hzi:(0:Int)<((pt.length+1:Nat):Int):=by omega
   generalize hMB:mB ⟨a,b,c,d,p,q,s,t⟩ xp=M at db;have HMB:Hid (mB ⟨a,b,c,d,p,q,s,t⟩ xp=M):=hMB;clear hMB;cases M
   ·go_wp2_with fail;refine(db.out _).mono ?_;rintro e w1⟨rfl,b1⟩;obtain⟨e1',e2',e3',e4'⟩:=HP.out _ _ _ _ _ _ HH.out (zFw HMB.out) w1 b1;subst e1';have HE:Hid (DL w1 base (.slice (some ⟨g,off,none⟩) (pt.length+1) cap) R1∧OwnT w1 w.heap.size u8 R2∧w.grownBy w1 OB):=⟨e2',e3',e4'⟩;clear e2' e3' e4' b1;go_wp2_with fail
    go_returns
    exact⟨_,_,rfl,HE.out⟩
   go_wp2_with fail;refine(db.out _).mono ?_;rintro e w1⟨rfl,b1⟩;have x1:=zAa b1 e1;have He:Hid (Bw wr w1):=b1;clear b1;go_wp2_with fail;refine(Ua.out w1 He.out).mono ?_;rintro e w2⟨fv,lv,rfl,OF,OQ,b2⟩;have Hg:Hid (Bw wr w2∧Bw w1 w2):=⟨He.out.trans (b2.mono He.out.size),b2⟩;obtain⟨fq,fc,Uq⟩:=OwnM.form OF;obtain⟨lq,lc,hlv⟩:=OwnM.form OQ;subst Uq;subst hlv;have Ui:Hid (OwnF w2 w1.heap.size (.slice fq (take qq zs).1.length fc) (take qq zs).1):=OF;have HOQ:Hid (OwnQ w2 w1.heap.size (.slice lq (take qq zs).2.length lc) (take qq zs).2):=OQ;have mo:Hid (sum (take qq zs).1≤qq∧0≤sum (take qq zs).1∧((take qq zs).1.length:Int)≤sum (take qq zs).1∧qchk (take qq zs).2=0∧(¬(take qq zs).2=[]→qq - sum (take qq zs).1=0)∧∀f∈(take qq zs).1,1≤f.qty∧f.qty≤qq):=by
    obtain⟨f1,f2,f3,f4,f5,f6,f7⟩:=zCC hQZ (q:=qq) (by omega)
    exact⟨f1,f2,f3,f4,zGt hQZ (by omega),f6⟩
   have PL:Hid (((take qq zs).2=[]→tkl ⟨a,b,c,d,p,q,s,t⟩ ((⟨xp,zs⟩:L)::pt.map toL) qq=((tkl ⟨a,b,c,d,p,q,s,t⟩ (pt.map toL) (qq - sum (take qq zs).1)).1,(take qq zs).1.map (trd ⟨a,b,c,d,p,q,s,t⟩ xp)++(tkl ⟨a,b,c,d,p,q,s,t⟩ (pt.map toL) (qq - sum (take qq zs).1)).2.1,(tkl ⟨a,b,c,d,p,q,s,t⟩ (pt.map toL) (qq - sum (take qq zs).1)).2.2))∧
     (¬(take qq zs).2=[]→tkl ⟨a,b,c,d,p,q,s,t⟩ ((⟨xp,zs⟩:L)::pt.map toL) qq=(⟨xp,(take qq zs).2⟩::pt.map toL,(take qq zs).1.map (trd ⟨a,b,c,d,p,q,s,t⟩ xp),qq - sum (take qq zs).1))):=
    ⟨fun h=>zCW uz HMB.out h,fun h=>zCX uz HMB.out h⟩
   clear OF OQ b2 e0 e1 x1 db Ua Pg;generalize (take qq zs).1=fs at *;generalize (take qq zs).2=rs at *;generalize u8=S8 at *;generalize hm:fs.length=m at *;have m8:Hid (fs.length=m):=hm;clear hm;obtain⟨GK,hGK⟩:∃GK:Nat,gk=GK:=⟨_,rfl⟩;have HGK:Hid (gk=GK∧pt.length+2≤GK):=⟨hGK,by
    have h:=HM.out;unfold mes at h;rw[if_neg (by omega),hGK] at h
    simp at h;omega⟩
   clear hGK;have HS8:Hid (OwnT wr V.heap.size S8 ts):=HH.out.own;have D5:Hid (∀k,S8.ownBlock=some k→V.heap.size≤k∧k<wr.heap.size):=fun k hk=>OwnM.lt HS8.out k hk
   have HS82:Hid (OwnT w2 V.heap.size S8 ts):=OwnM.below HS8.out Hg.out.1;have HVw:Hid (V.heap.size≤w2.heap.size):=jM HH.out.far.size Hg.out.1.size;have GY:Hid (w2.cell? ⟨w.heap.size,0,none⟩=some (.int .i64 a)∧w2.cell? ⟨w.heap.size,1,none⟩=some (.int .i64 b)∧w2.cell? ⟨w.heap.size,2,none⟩=some (.int .i64 c)∧w2.cell? ⟨w.heap.size,3,none⟩=some (.int .i64 d)∧w2.cell? ⟨w.heap.size,4,none⟩=some (.int .i64 p)∧w2.cell? ⟨w.heap.size,5,none⟩=some (.int .i64 q)∧w2.cell? ⟨w.heap.size,6,none⟩=some (.int .i64 s)∧w2.cell? ⟨w.heap.size,7,none⟩=some (.int .i64 t)):=
    ⟨zAa Hg.out.1 d0,zAa Hg.out.1 d1,zAa Hg.out.1 d2,zAa Hg.out.1 d3,zAa Hg.out.1 d4,zAa Hg.out.1 d5,zAa Hg.out.1 d6,zAa Hg.out.1 d7⟩
   clear d0 d1 d2 d3 d4 d5 d6 d7;have hm64:(m:Int)≤10000:=by have:=mo.out.2.2.1;have:=mo.out.1;have:=HH.out.q1;omega
   go_wp2_with fail;go_loopg [8,9,16,56] m (fun gg s8 s9 _ s56 wy=>∃kk:Nat,kk≤m∧m - kk≤gg∧s56=.int .i64 kk∧s9=.int .i64 (qq - sum (fs.take kk))∧Aside (FiH V w2 S8 wy s8 (ts++(fs.take kk).map (trd ⟨a,b,c,d,p,q,s,t⟩ xp))))
   case atStart=>exact⟨0,jL _,by omega,rfl,by simp[sum],⟨by simpa using HS82.out,⟨rfl,rfl,rfl,nzR _,fun _ _ _=>rfl⟩,.inl rfl⟩⟩
   case round=>
    obtain⟨kk,gd,hg,rfl,rfl,hF⟩:=hrel;have HF:Hid (FiH V w2 S8 wr u8 (ts++(fs.take kk).map (trd ⟨a,b,c,d,p,q,s,t⟩ xp))):=hF.out;clear hF;have HFB:Hid (fs.length=m):=m8.out;by_cases Hi:kk<m
    ·have Hp:(kk:Int)<(m:Int):=(by omega);have Hs:kk<fs.length:=(by rw[m8.out];exact Hi);obtain⟨f,hf⟩:∃f,fs[kk]! = f:=⟨_,rfl⟩;obtain⟨f1,f2,f3⟩:=f;obtain⟨fb,fo,hfq,hfbl,hfbh,g0,g1,g2⟩:∃fb fo,fq=some ⟨fb,fo,none⟩∧w1.heap.size≤fb∧fb<w2.heap.size∧w2.cell? ⟨fb,fo+kk*3,none⟩=some (.int .i64 f1)∧w2.cell? ⟨fb,fo+kk*3+1,none⟩=some (.int .i64 f2)∧w2.cell? ⟨fb,fo+kk*3+2,none⟩=some (.int .i64 f3):=by
      rcases OwnF.sf Ui.out with ⟨e,e2⟩|⟨fb,fo,fc',e,-,h3,h4⟩
      ·rw[e2] at Hs;simp at Hs
      ·cases e;obtain⟨g0,g1,g2⟩:=zNT h4 Hs hf;exact⟨fb,fo,rfl,(OwnM.lt Ui.out fb rfl).1,h3,g0,g1,g2⟩
     subst hfq;have HNF:Hid (S8.ownBlock≠some fb):=fun e=>by have:=(D5.out fb e).2;have:=He.out.size;omega
     have m9:Hid (S8.ownBlock≠some w.heap.size):=fun e=>by have:=(D5.out _ e).1;omega
     have x0:=zAJ HF.out.far g0 HNF.out;have x1:=zAJ HF.out.far g1 HNF.out;have x2:=zAJ HF.out.far g2 HNF.out;obtain⟨d0,d1,d2,d3,d4,d5,d6,d7⟩:=GY.out;have k0:=zAJ HF.out.far d0 m9.out;have k1:=zAJ HF.out.far d1 m9.out;have k2:=zAJ HF.out.far d2 m9.out;have k3:=zAJ HF.out.far d3 m9.out;have k4:=zAJ HF.out.far d4 m9.out;have k5:=zAJ HF.out.far d5 m9.out;have k6:=zAJ HF.out.far d6 m9.out;have k7:=zAJ HF.out.far d7 m9.out;obtain⟨tt,htt⟩:∃tt,trd ⟨a,b,c,d,p,q,s,t⟩ xp ⟨f1,f2,f3⟩=tt:=⟨_,rfl⟩;obtain⟨t1,t2,t3,t4,t5,t6⟩:=tt
     have pH:Hid (∀W,Calls prog 110 #[.agg #[.int .i64 a,.int .i64 b,.int .i64 c,.int .i64 d,.int .i64 p,.int .i64 q,.int .i64 s,.int .i64 t],.agg #[.int .i64 f1,.int .i64 f2,.int .i64 f3],.int .i64 xp] W fun e w'=>e=.returned (.agg #[.int .i64 t1,.int .i64 t2,.int .i64 t3,.int .i64 t4,.int .i64 t5,.int .i64 t6])∧Bw W w'):=fun W=>zNU a b c d p q s t f1 f2 f3 xp t1 t2 t3 t4 t5 t6 W htt
     have HTS:Hid ((ts++(fs.take (kk+1)).map (trd ⟨a,b,c,d,p,q,s,t⟩ xp))=(ts++(fs.take kk).map (trd ⟨a,b,c,d,p,q,s,t⟩ xp))++[⟨t1,t2,t3,t4,t5,t6⟩]):=by
      show _=_
      rw[List.take_succ_eq_append_getElem Hs,jF,←jS,←getE _ _ Hs,hf];simp[htt]
     have HSU:Hid (sum (fs.take (kk+1))=sum (fs.take kk)+f3):=by
      have h:=wAN fs kk Hs;rw[hf] at h;exact h
     have HFQ:Hid (1≤f3∧f3≤10000):=by
      have h:=mo.out.2.2.2.2.2 ⟨f1,f2,f3⟩ (by rw[←hf,getE _ _ Hs];exact jT Hs)
      have h2:=HH.out.q1;simp only[] at h;exact⟨h.1,by omega⟩
     have hNL:(ts++(fs.take kk).map (trd ⟨a,b,c,d,p,q,s,t⟩ xp)).length≤10000:=by
      have h:=HH.out.q1;have h2:=mo.out;rw[jE,jP,jJ,m8.out];have:=m8.out;omega
     have gR:¬((kk:Int)<0):=Int.not_lt.2 (Int.natCast_nonneg _);have e56:wrap64 ((kk:Int)+1)=((kk+1:Nat):Int):=(by unfold wrap64;omega);have e9:wrap64 (qq - sum (fs.take kk) - f3)=qq - sum (fs.take (kk+1)):=by
      have h:=zHG fs kk (fun f hf=>(mo.out.2.2.2.2.2 f hf).1)
      have h2:=HSU.out;have h3:=HFQ.out;have h4:=mo.out.1;have h5:=HH.out.q1;have h6:=mo.out.2.1;clear e56;unfold wrap64;omega
     have Bp:Hid (Bw wr (wr.alloc (.cells #[.int .i64 f1,.int .i64 f2,.int .i64 f3] 180))):=(bzR _ _).alloc (nzR _) _;have cG:Hid ((wr.alloc (.cells #[.int .i64 f1,.int .i64 f2,.int .i64 f3] 180)).heap[wr.heap.size]?=some (.cells #[.int .i64 f1,.int .i64 f2,.int .i64 f3] 180 (0,0))):=jA wr _;generalize (ts++(fs.take kk).map (trd ⟨a,b,c,d,p,q,s,t⟩ xp))=TK at HF HTS hNL;have hwl:w.heap.size<wr.heap.size:=jC gp (jM HVw.out HF.out.far.size);have hfl:fb<wr.heap.size:=jC hfbh HF.out.far.size;clear d0 d1 d2 d3 d4 d5 d6 d7 g0 g1 g2 hf htt;go_wp2_with fail;refine(pH.out _).mono ?_;rintro e w3⟨rfl,b3⟩;have HU:Hid (Bw wr w3):=Bp.out.trans (b3.mono Bp.out.size);have PK:Hid (w3.heap[wr.heap.size]?=some (.cells #[.int .i64 f1,.int .i64 f2,.int .i64 f3] 180 (0,0))):=(b3.block _ (gzE.1 cG.out).1).trans cG.out;clear b3 x0 x1 x2 k0 k1 k2 k3 k4 k5 k6 k7
     have gF:Hid (Bw wr (w3.alloc (.cells #[.int .i64 t1,.int .i64 t2,.int .i64 t3,.int .i64 t4,.int .i64 t5,.int .i64 t6] 38))):=HU.out.alloc HU.out.size _;have cO:Hid (OwnT (w3.alloc (.cells #[.int .i64 t1,.int .i64 t2,.int .i64 t3,.int .i64 t4,.int .i64 t5,.int .i64 t6] 38)) V.heap.size u8 TK):=OwnM.below HF.out.own gF.out;have pA:Hid (∀j u,([.int .i64 t1,.int .i64 t2,.int .i64 t3,.int .i64 t4,.int .i64 t5,.int .i64 t6]:List Value)[j]?=some u→(w3.alloc (.cells #[.int .i64 t1,.int .i64 t2,.int .i64 t3,.int .i64 t4,.int .i64 t5,.int .i64 t6] 38)).cell? ((⟨w3.heap.size,0,none⟩:Addr).add j)=some u):=by
      intro j u hu;rw[Addr.add_lit,Nat.zero_add,World.cell?_alloc_at _ _ _ _ rfl];simpa using hu
     have HVS:Hid (V.heap.size≤(w3.alloc (.cells #[.int .i64 t1,.int .i64 t2,.int .i64 t3,.int .i64 t4,.int .i64 t5,.int .i64 t6] 38)).heap.size):=jM HVw.out (jM HF.out.far.size gF.out.size);have HF4:Hid ((w3.alloc (.cells #[.int .i64 t1,.int .i64 t2,.int .i64 t3,.int .i64 t4,.int .i64 t5,.int .i64 t6] 38)).cell? ⟨wr.heap.size,2,none⟩=some (.int .i64 f3)):=by
      have h0:w3.cell? ⟨wr.heap.size,2,none⟩=some (.int .i64 f3):=(by simp[World.cell?,PK.out]);exact zAa ((bzR _ _).alloc (nzR _) _) h0
     have HU8:Hid (u8.ownBlock≠some wr.heap.size):=fun e=>by have:=(OwnM.lt HF.out.own _ e).2;omega
     go_wp2_with (at_builtin;(refine wAe _ rfl _ _ 30 rfl V.heap.size 38 i0 zeroT 6 48 underlying30 HI.out gE gu gA rfl u8 _ _ rfl cO.out ⟨w3.heap.size,0,none⟩ 1 1 [.int .i64 t1,.int .i64 t2,.int .i64 t3,.int .i64 t4,.int .i64 t5,.int .i64 t6] rfl rfl pA.out (fun u hu=>by simp only[List.mem_cons,List.not_mem_nil,or_false] at hu;rcases hu with rfl|rfl|rfl|rfl|rfl|rfl <;>rfl) ?c3 ?c4 ?c5 ?_))
     case c3=>unfold maxLen;omega
     case c4=>omega
     case c5=>exact HVS.out
     intro v' w' gy Hy Gm;have bg:Aside (FiH V w2 S8 w' v' (ts++(fs.take (kk+1)).map (trd ⟨a,b,c,d,p,q,s,t⟩ xp))):=by
      show FiH _ _ _ _ _ _
      rw[HTS.out];exact zQA (tt:=⟨t1,t2,t3,t4,t5,t6⟩) HF.out gF.out gy Hy (Gm.imp id (fun h=>by rw[h];simp))
     have y2:=zAJ Hy HF4.out HU8.out;clear gy Hy Gm;go_wp2_with fail;go_roundg (m - (kk+1))
     case measure=>clear e9 e56;omega
     case rel=>exact⟨kk+1,Hi,nzR _,by go_num,by first|rfl|rw[e9],bg⟩
    ·have Hp:¬(kk:Int)<(m:Int):=(by omega);obtain rfl:kk=m:=(by omega);have uW:Hid (FiH V w2 S8 wr u8 (ts++fs.map (trd ⟨a,b,c,d,p,q,s,t⟩ xp))):=by
      have h:=HF.out;rw[List.take_of_length_le (by rw[m8.out];exact nzR _)] at h
      exact h
     rw[List.take_of_length_le (by rw[m8.out];exact nzR _)]
     have hDT:=zGC HH.out.deep;by_cases mZ:rs=[]
     ·have eO:=zQB HH.out cP.out Hg.out.1 uW.out mo.out.1 (by rw[m8.out];exact mo.out.2.2.1) (PL.out.1 mZ)
      have GJ:Aside (LvH V base OB ⟨a,b,c,d,p,q,s,t⟩ (ps0.map toL) wr (.slice (some ⟨g,offT off cap,none⟩) pt.length (cap - 1)) u8 (qq - sum fs) pt (ts++fs.map (trd ⟨a,b,c,d,p,q,s,t⟩ xp))):=eO;have eR:mes (pt.map toL) (qq - sum fs)<GK:=by
       have h:=HGK.out.2;unfold mes;rw[jP];split <;>omega
      have Bl:Hid (mes (pt.map toL) (qq - sum fs)<GK):=eR;have pP:rs.length=0:=(by rw[mZ];rfl);rw[pP] at HOQ ⊢;clear eR eO mZ;have bg:Hid (∀W,Calls prog 111 #[.slice (some ⟨g,off,none⟩) (pt.length+1) cap,.slice lq 0 lc] W fun e w'=>e=.returned (.slice (some ⟨g,offT off cap,none⟩) pt.length (cap - 1))∧w'=W):=fun W=>zJn g off pt.length cap lq lc W (by have:=hDT.2.1;omega) hDT.2.2.1
      clear hDT;go_wp2_with fail;refine(bg.out _).mono ?_;rintro e wz⟨rfl,rfl⟩;go_wp2_with fail;go_roundg (mes (pt.map toL) (qq - sum fs))
      case measure=>rw[HGK.out.1];exact Bl.out
      case rel=>exact⟨qq - sum fs,pt,_,rfl,nzR _,GJ⟩
     ·have eO:=zQC HH.out cP.out He.out Hg.out.1 uW.out HOQ.out (by rw[m8.out];exact mo.out.2.2.1) (mo.out.2.2.2.2.1 mZ) mo.out.2.2.2.1 mZ (PL.out.2 mZ)
      have GJ:Aside (LvH V base OB ⟨a,b,c,d,p,q,s,t⟩ (ps0.map toL) (wr.setCell ⟨g,off+1,none⟩ (.slice lq rs.length lc)) (.slice (some ⟨g,off,none⟩) (pt.length+1) cap) u8 (qq - sum fs) ((⟨xp,lq,rs.length,lc⟩,rs)::pt) (ts++fs.map (trd ⟨a,b,c,d,p,q,s,t⟩ xp))):=eO;have eR:mes (((⟨xp,lq,rs.length,lc⟩,rs)::pt:List RP).map toL) (qq - sum fs)<GK:=by
       have h:=HGK.out.2;have h2:=mo.out.2.2.2.2.1 mZ;unfold mes;rw[if_pos (by omega)]
       omega
      have Bl:Hid (mes (((⟨xp,lq,rs.length,lc⟩,rs)::pt:List RP).map toL) (qq - sum fs)<GK):=eR;have hdw:=zHI HH.out cP.out Hg.out.1 uW.out;obtain⟨g',off',cap',hu0,-,e1,Pg,-,-⟩:=zGD hdw;have MT:0<rs.length:=by
       have:rs.length≠0:=fun e=>mZ (List.length_eq_zero_iff.1 e)
       omega
      cases hu0;have HFS:Hid (Calls prog 111 #[.slice (some ⟨g,off,none⟩) (pt.length+1) cap,.slice lq rs.length lc] wr fun e w'=>e=.returned (.slice (some ⟨g,off,none⟩) (pt.length+1) cap)∧w'=wr.setCell ⟨g,off+1,none⟩ (.slice lq rs.length lc)):=zJo g off pt.length cap lq rs.length lc _ wr MT e1 (Pg _)
      clear hdw e1 Pg eR eO hDT mZ;go_wp2_with fail;refine HFS.out.mono ?_;rintro e wz⟨rfl,rfl⟩;go_wp2_with fail;go_roundg (mes (((⟨xp,lq,rs.length,lc⟩,rs)::pt:List RP).map toL) (qq - sum fs))
      case measure=>rw[HGK.out.1];exact Bl.out
      case rel=>exact⟨qq - sum fs,_,_,rfl,nzR _,GJ⟩
end mee
end Go.Proofs.YtnfilcpnneckkaaGreat
