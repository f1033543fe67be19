import Derived.Test.YtnfilcpnneckkaaGreatSidCat
namespace Go.Proofs.YtnfilcpnneckkaaGreat
open Tryz
namespace sid
open Go.RowKit spn que
abbrev RP:=rlv.RL × List R
def sv(r:rlv.RL):Value:=.slice r.q r.n r.c
def toL(p:RP):L:=⟨p.1.price,p.2⟩
def blkR(r:rlv.RL):Option Nat:=(sv r).ownBlock
def AP(a b:RP):Prop:=∀x,blkR a.1=some x→blkR b.1≠some x
theorem zKW(p:RP):(toL p).price=p.1.price:=rfl
theorem zGy(p:RP):(toL p).rests=p.2:=rfl
def Loose(w:World)(v:Value)(ps:List RP):Prop:=rlv.SL w v (ps.map (·.1))∧∀p∈ps,SLe w (sv p.1) p.2
theorem Loose.below{w w' : World}{v:Value}{ps:List RP}(h:Loose w v ps)(hB:Bw w w'):Loose w' v ps:=
 ⟨h.1.below hB,fun p hp=>(h.2 p hp).below hB⟩
theorem mget{α β:Type}[Inhabited α][Inhabited β](f:α→β)(l:List α)(k:Nat)(h:k<l.length):(l.map f)[k]! = f l[k]!:=by
 rw[getE _ _ (by simpa using h),getE _ _ h,List.getElem_map]
theorem zNJ{w:World}{b o:Nat}{ps:List RP}(h:rlv.Lies w b o (ps.map (·.1)))(he:∀p∈ps,SLe w (sv p.1) p.2):LL w b o (ps.map toL):=by
 intro k hk;have Gg:k<ps.length:=by simpa using hk
 have h0:=h k (by simpa using Gg) 0 _ (show (rlv.rV (ps.map (·.1))[k]!)[0]?=some _ from rfl)
 have h1:=h k (by simpa using Gg) 1 _ (show (rlv.rV (ps.map (·.1))[k]!)[1]?=some _ from rfl)
 rw[mget _ _ _ Gg] at h0 h1;rw[mget _ _ _ Gg];exact⟨h0,sv ps[k]!.1,h1,he _ (by rw[getE _ _ Gg];exact jT Gg)⟩
theorem Loose.ls{w:World}{v:Value}{ps:List RP}(h:Loose w v ps):LS w v (ps.map toL):=by
 obtain⟨h1,h2⟩:=h;rcases h1 with ⟨rfl,hn⟩|⟨b,o,c,rfl,hc,hm,hb,hl⟩
 ·have:ps=[]:=by simpa using hn
  subst this;exact .inl ⟨rfl,rfl⟩
 ·exact .inr ⟨b,o,c,by simp,by simpa using hc,hm,hb,zNJ hl h2⟩
theorem zQu{w:World}{b o:Nat}{l:L}{t:List L}(h:LL w b o (l::t)):LL w b (o+2) t:=by
 intro k hk;have:=h (k+1) (by simpa using hk)
 rw[show o+(k+1)*2=o+2+k*2 by omega] at this
 simpa using this
theorem zKX{w:World}{b o:Nat}{r:rlv.RL}{t:List rlv.RL}(h0:w.cell? ⟨b,o,none⟩=some (.int .i64 r.price))(h1:w.cell? ⟨b,o+1,none⟩=some (sv r))(h:rlv.Lies w b (o+2) t):rlv.Lies w b o (r::t):=by
 intro j hj i v hv;cases j with
 | zero=>
  simp only[List.getElem!_cons_zero,rlv.rV] at hv
  match i,hv with
  | 0,hv=>simp at hv;subst hv;simpa using h0
  | 1,hv=>simp at hv;subst hv;simpa [sv] using h1
  | i+2,hv=>simp at hv
 | succ j=>
  simp only[List.getElem!_cons_succ] at hv;have:=h j (by simpa using hj) i v hv
  rw[show o+(j+1)*2+i=o+2+j*2+i by omega]
  exact this
theorem zNK{w:World}{b:Nat}(ls:List L):∀o,LL w b o ls→∃ps:List RP,ps.map toL=ls∧rlv.Lies w b o (ps.map (·.1))∧∀p∈ps,SLe w (sv p.1) p.2:=by
 induction ls with
 | nil=>intro o _;exact⟨[],rfl,fun j hj=>by simp at hj,fun p hp=>by cases hp⟩
 | cons l t ih=>
  intro o h;obtain⟨ps,e1,e2,e3⟩:=ih _ (zQu h);obtain⟨h0,v,h1,hs⟩:=h 0 (by simp)
  simp only[List.getElem!_cons_zero,Nat.zero_mul,Nat.add_zero] at h0 h1 hs;obtain⟨q,c,hv⟩:=zFv hs;subst hv;refine⟨(⟨l.price,q,l.rests.length,c⟩,l.rests)::ps,by rw[jK,e1];rfl,zKX h0 h1 e2,?_⟩
  intro p hp;rcases List.mem_cons.1 hp with rfl|hp
  ·exact hs
  ·exact e3 p hp
theorem zNL{w:World}{v:Value}{ls:List L}(h:LS w v ls):∃ps:List RP,ps.map toL=ls∧Loose w v ps:=by
 rcases h with ⟨rfl,rfl⟩|⟨b,o,c,rfl,hc,hm,hb,hl⟩
 ·exact⟨[],rfl,.inl ⟨rfl,rfl⟩,fun p hp=>by cases hp⟩
 ·obtain⟨ps,e1,e2,e3⟩:=zNK ls o hl;have e4:ps.length=ls.length:=by rw[←e1,jP]
  exact⟨ps,e1,.inr ⟨b,o,c,by simp[e4],by simpa [e4] using hc,hm,hb,e2⟩,e3⟩
structure DeepT (w:World) (base:Nat) (v:Value) (ps:List RP) (tl:List rlv.RL):Prop where
 own:rlv.OwnQ w base v (ps.map (·.1)++tl)
 each:∀p∈ps,OwnQ w base (sv p.1) p.2
 apart:ps.Pairwise AP
 far:∀p∈ps,∀x,blkR p.1=some x→v.ownBlock≠some x
abbrev Deep(w:World)(base:Nat)(v:Value)(ps:List RP):Prop:=DeepT w base v ps []
theorem DeepT.loose{w:World}{base:Nat}{v:Value}{ps:List RP}(h:Deep w base v ps):Loose w v ps:=
 ⟨by have:=rlv.OwnQ.sl h.own;rwa [jH] at this,fun p hp=>.inl (OwnQ.sl (h.each p hp))⟩
theorem DeepT.ls{w:World}{base:Nat}{v:Value}{ps:List RP}(h:Deep w base v ps):LS w v (ps.map toL):=h.loose.ls
theorem wAc(w:World)(g o:Nat)(u:Value):w.grownBy (w.setCell ⟨g,o,none⟩ u) (some g):=
 ⟨rfl,rfl,rfl,by simp,fun k _ hk=>heap_setCell_other w ⟨g,o,none⟩ k u (fun e=>hk (by rw[e]))⟩
theorem wAw{w w' : World}(h:Bw w w')(row:Option Nat):w.grownBy w' row:=⟨h.os,h.tape,h.output,h.size,fun k hk _=>h.block k hk⟩
theorem wAd{a b c:World}{row:Option Nat}(h:a.grownBy b row)(k:b.grownBy c row):a.grownBy c row:=
 ⟨k.os.trans h.os,k.tape.trans h.tape,k.output.trans h.output,jM h.size k.size,fun i hi hn=>(k.block i (jC hi h.size) hn).trans (h.block i hi hn)⟩
theorem OwnM.mono{w:World}{base base' : Nat}{e:TypeId}{sz:Nat}{v:Value}{n:Nat}{xs:List Value}(h:OwnM w base e sz v n xs)(hb:base'≤base):OwnM w base' e sz v n xs:=by
 refine⟨h.1,?_⟩;rcases h.2 with hn|⟨g,off,cap,cur,h1,h2,h3⟩
 ·exact .inl hn
 ·exact .inr ⟨g,off,cap,cur,h1,jM hb h2,h3⟩
theorem OwnM.form{w:World}{base:Nat}{e:TypeId}{sz:Nat}{v:Value}{n:Nat}{xs:List Value}(h:OwnM w base e sz v n xs):∃q c,v=.slice q n c:=by
 rcases h.2 with ⟨h1,h2⟩|⟨g,off,cap,cur,h1,_⟩
 ·subst h2;exact⟨_,_,h1⟩
 ·exact⟨_,_,h1⟩
theorem OwnM.set{w:World}{base:Nat}{e:TypeId}{sz:Nat}{g off n cap:Nat}{xs:List Value}(h:OwnM w base e sz (.slice (some ⟨g,off,none⟩) n cap) n xs)(j:Nat)(u:Value) :
  OwnM (w.setCell ⟨g,off+j,none⟩ u) base e sz (.slice (some ⟨g,off,none⟩) n cap) n (xs.set j u):=by
 refine⟨by rw[List.length_set];exact h.1,?_⟩
 rcases h.2 with ⟨h1,_⟩|⟨g',off',cap',cur,h1,h2,h3,h4,h5,h6,h7⟩
 ·cases h1
 ·cases h1;refine .inr ⟨g,off,cap,cur.setIfInBounds (off+j) u,rfl,h2,jB w g (off+j) cur e u h3,h4,h5,by simpa using h6,?_⟩
  rw[Array.toList_setIfInBounds,List.drop_set,if_neg (by omega),show off+j - off=j by omega,List.take_set,h7]
theorem OwnM.cells{w:World}{base:Nat}{e:TypeId}{sz:Nat}{g off n cap:Nat}{xs:List Value}(h:OwnM w base e sz (.slice (some ⟨g,off,none⟩) n cap) n xs) :
  (∀j u,xs[j]?=some u→w.cell? ⟨g,off+j,none⟩=some u)∧(∀o,w.frozen? ⟨g,o,none⟩=false)∧base≤g∧g<w.heap.size:=by
 rcases h.2 with ⟨h1,_⟩|⟨g',off',cap',cur,h1,h2,h3,h4,h5,h6,h7⟩
 ·cases h1
 ·cases h1;refine⟨fun j u hu=>?_,fun o=>by simp[World.frozen?,h3],h2,(gzE.1 h3).1⟩
  rw[jZ w g (off+j) cur e (0,0) h3];rw[←h7,List.getElem?_take] at hu;split at hu
  ·rw[List.getElem?_drop] at hu;simpa using hu
  ·cases hu
theorem zDo{w:World}{base g off n cap:Nat}{a:List rlv.RL}{r:rlv.RL}{b:List rlv.RL}(h:rlv.OwnQ w base (.slice (some ⟨g,off,none⟩) n cap) (a++r::b)) :
  n=(a++r::b).length∧w.cell? ⟨g,off+a.length*2,none⟩=some (.int .i64 r.price)∧w.cell? ⟨g,off+a.length*2+1,none⟩=some (.slice r.q r.n r.c)∧(∀o,w.frozen? ⟨g,o,none⟩=false)∧base≤g∧g<w.heap.size:=by
 have hn:n=(a++r::b).length:=by obtain⟨q',c',e⟩:=OwnM.form h;cases e;rfl
 subst hn;obtain⟨hc,hf,h1,h2⟩:=OwnM.cells h;refine⟨rfl,?_,?_,hf,h1,h2⟩
 ·have:=hc (a.length*2) (.int .i64 r.price) (by
   rw[rlv.wAg,jV (by rw[rlv.wAl];omega),rlv.wAl,Nat.sub_self];rfl)
  exact this
 ·have:=hc (a.length*2+1) (.slice r.q r.n r.c) (by
   rw[rlv.wAg,jV (by rw[rlv.wAl];omega),rlv.wAl,show a.length*2+1 - a.length*2=1 by omega];rfl)
  rw[←Nat.add_assoc] at this;exact this
theorem DeepT.grown{w w' : World}{base:Nat}{v:Value}{ps:List RP}{tl:List rlv.RL}(h:DeepT w base v ps tl){row:Option Nat}(hg:w.grownBy w' row)(h1:∀x,row=some x→w.heap.size≤x):DeepT w' base v ps tl:=by
 refine⟨OwnM.kept h.own hg ?_,fun p hp=>OwnM.kept (h.each p hp) hg ?_,h.apart,h.far⟩
 ·cases hv:v.ownBlock with
  | none=>exact .inl rfl
  | some k=>exact .inr fun e=>by have:=(OwnM.lt h.own k hv).2;have:=h1 k e.symm;omega
 ·cases hv:(sv p.1).ownBlock with
  | none=>exact .inl rfl
  | some k=>exact .inr fun e=>by have:=(OwnM.lt (h.each p hp) k hv).2;have:=h1 k e.symm;omega
theorem DeepT.below{w w' : World}{base:Nat}{v:Value}{ps:List RP}{tl:List rlv.RL}(h:DeepT w base v ps tl)(hB:Bw w w'):DeepT w' base v ps tl:=
 h.grown (wAw hB none) (fun x hx=>by cases hx)
theorem zFy{a:List rlv.RL}{r:rlv.RL}{b:List rlv.RL}(q:Option Addr)(n c:Nat):(rlv.flat (a++r::b)).set (a.length*2+1) (.slice q n c)=rlv.flat (a++⟨r.price,q,n,c⟩::b):=by
 rw[rlv.wAg,rlv.wAg,List.set_append,if_neg (by rw[rlv.wAl];omega),rlv.wAl,show a.length*2+1 - a.length*2=1 by omega]
 rfl
theorem zAm{w w' : World}{base:Nat}{e:TypeId}{sz:Nat}{v:Value}{n:Nat}{xs:List Value}{row:Option Nat}(h:OwnM w base e sz v n xs)(hg:w.grownBy w' row)(H8:∀x,v.ownBlock=some x→row≠some x):OwnM w' base e sz v n xs:=by
 refine OwnM.kept h hg ?_;cases hv:v.ownBlock with
 | none=>exact .inl rfl
 | some k=>exact .inr fun e=>H8 k hv e.symm
theorem DeepT.next{w w1:World}{base g off n cap:Nat}{ps:List RP}{r:rlv.RL}{tl:List rlv.RL}{zs:List R}{q:Option Addr}{m c:Nat}
  (h:DeepT w base (.slice (some ⟨g,off,none⟩) n cap) ps (r::tl)) (hB:Bw w w1) (ho:OwnQ w1 w.heap.size (.slice q m c) zs) (Hq:base≤w.heap.size) :
  DeepT (w1.setCell ⟨g,off+(ps.length*2+1),none⟩ (.slice q m c)) base (.slice (some ⟨g,off,none⟩) n cap) (ps++[(⟨r.price,q,m,c⟩,zs)]) tl:=by
 have h1:=h.below hB;have hg:=wAc w1 g (off+(ps.length*2+1)) (.slice q m c);have hn:n=(ps.map (·.1)++r::tl).length:=by
  obtain⟨q',c',e⟩:=OwnM.form h.own;cases e;rfl
 subst hn;obtain⟨-,-,-,Hi⟩:=OwnM.cells h.own;have UO:∀x,(Value.slice q m c).ownBlock=some x→w.heap.size≤x:=fun x hx=>(OwnM.lt ho x hx).1
 refine⟨?_,?_,?_,?_⟩
 ·have:=OwnM.set h1.own (ps.length*2+1) (.slice q m c);rw[show ps.length=(ps.map (·.1)).length by simp,zFy] at this
  rw[jF,jS];show OwnM _ _ _ _ _ _ _
  simpa using this
 ·intro p hp;rcases List.mem_append.1 hp with hp|hp
  ·exact zAm (h1.each p hp) hg (fun x hx=>by have:=h.far p hp x hx;simpa [Value.ownBlock] using this)
  ·simp only[List.mem_singleton] at hp;subst hp;exact zAm (OwnM.mono ho Hq) hg (fun x hx e=>by have:=UO x hx;simp at e;omega)
 ·refine List.pairwise_append.2 ⟨h1.apart,by simp,?_⟩
  intro a ha b hb x hx hy;simp only[List.mem_singleton] at hb;subst hb;have:=UO x hy;have:=(OwnM.lt (h.each a ha) x hx).2;omega
 ·intro p hp x hx;rcases List.mem_append.1 hp with hp|hp
  ·exact h.far p hp x hx
  ·simp only[List.mem_singleton] at hp;subst hp;have:=UO x hx;intro e;simp[Value.ownBlock] at e;omega
theorem zNM(B c:Nat)(v:Value)(zs:List rlv.RL)(w:World)(hc:w.cell? ⟨B,0,none⟩=some v)(hs:rlv.SL w v zs)(hl:zs.length≤1000) :
  Calls prog 112 #[.slice (some ⟨B,0,none⟩) 1 c] w fun e w'=>∃v',e=.returned v'∧rlv.OwnQ w' w.heap.size v' zs∧Bw w w':=by
 have h:=rlv.wAG B c 1 (fun _=>v) (fun _=>zs) w (by omega) (fun j hj=>by rw[show j=0 by omega];exact hc) (fun _ _=>hs) (by simpa [rlv.upto] using hl)
 simpa [rlv.upto] using h
theorem zNN(B c:Nat)(v:Value)(zs:List R)(w:World)(hc:w.cell? ⟨B,0,none⟩=some v)(hs:SL w v zs)(hl:zs.length≤1000) :
  Calls prog 113 #[.slice (some ⟨B,0,none⟩) 1 c] w fun e w'=>∃v',e=.returned v'∧OwnQ w' w.heap.size v' zs∧Bw w w':=by
 have h:=wAG B c 1 (fun _=>v) (fun _=>zs) w (by omega) (fun j hj=>by rw[show j=0 by omega];exact hc) (fun _ _=>hs) (by simpa [upto] using hl)
 simpa [upto] using h
def FreshPost(w:World)(ls:List L)(e:Ending)(w' : World):Prop:=∃v' ps,e=.returned v'∧ps.map toL=ls∧Deep w' w.heap.size v' ps∧Bw w w'
theorem zIn(w:World)(base:Nat):Deep w base (.slice none 0 0) []:=⟨⟨rfl,.inl ⟨rfl,rfl⟩⟩,fun p hp=>(by cases hp),List.Pairwise.nil,fun p hp=>(by cases hp)⟩
theorem zFz{w:World}{v:Value}{ls:List L}(h:LS w v ls):∃q m c,v=.slice q m c:=by
 rcases h with ⟨rfl,rfl⟩|⟨b,o,c,h1,_⟩
 ·exact⟨none,0,0,rfl⟩
 ·exact⟨_,_,c,h1⟩
set_option maxRecDepth 100000 in
set_option maxHeartbeats 1000000 in
theorem zBu(v:Value)(ls:List L)(w:World)(h:LS w v ls)(hn:ls.length≤1000)(hr:∀l∈ls,l.rests.length≤1000)(H8:∀l∈ls,l.rests≠[]) :
  Calls prog 78 #[v] w fun e w'=>FreshPost w ls e w':=by
 obtain⟨vq,vm,vc,rfl⟩:=zFz h;obtain⟨ps0,e0,hL⟩:=zNL h;have Hh:ps0.length=ls.length:=by rw[←e0,jP]
 have HR:Hid (∀p∈ps0,p.2.length≤1000):=fun p hp=>hr (toL p) (by rw[←e0];exact List.mem_map.2 ⟨p,hp,rfl⟩)
 obtain⟨raw,bS⟩:∃raw,raw=ps0.map (·.1):=⟨_,rfl⟩;have gP:Bw w (w.alloc (.cells #[.slice vq vm vc] 55)):=(bzR _ _).alloc (nzR _) _;have uy:=zNM w.heap.size 1 (.slice vq vm vc) raw (w.alloc (.cells #[.slice vq vm vc] 55)) (by simp[go_sem]) (by rw[bS];exact hL.1.below gP) (by rw[bS];simp;omega)
 have HE:Hid (∀W,Bw w W→∀p∈ps0,SL W (sv p.1) p.2):=fun W hW p hp=>((hL.2 p hp).below hW).sl (H8 (toL p) (by rw[←e0];exact List.mem_map.2 ⟨p,hp,rfl⟩))
 have Hw:Hid (∀W v' ps,Bw w W→ps.map toL=ps0.map toL→Deep W w.heap.size v' ps→FreshPost w ls (.returned v') W):=fun W v' ps hW e hD=>⟨v',ps,rfl,e.trans e0,hD,hW⟩
 generalize FreshPost w ls=POST at *;have pE:Hid (raw=ps0.map (·.1)):=bS;have MU:w.heap.size≤(w.alloc (.cells #[.slice vq vm vc] 55)).heap.size:=gP.size;clear h hn hr H8 e0 hL Hh bS;go_enter func78,ntmps78;go_wp2_with fail;refine uy.mono ?_;rintro e w1⟨v1,rfl,Us,Hc⟩;have He:Hid (Bw w w1):=gP.trans (Hc.mono MU);have Gu:Hid (rlv.OwnQ w1 w.heap.size v1 raw):=OwnM.mono Us MU;have MV:w.heap.size≤w1.heap.size:=He.out.size;clear uy Us Hc gP MU;rcases Gu.out.2 with ⟨rfl,hz⟩|⟨g,off,cap,cur,rfl,ud,-,UM,gi,-,-⟩
 ·have hp0:ps0=[]:=by
   have h1:=pE.out;have h2:raw=[]:=List.length_eq_zero_iff.1 hz;rw[h2] at h1;simpa using h1.symm
  have HX:=Hw.out w1 (.slice none 0 0) [] He.out (by rw[hp0]) (zIn _ _)
  clear Hw Gu pE HE HR hp0 hz;go_wp2_with fail;go_loopg [4,10] 0 (fun _ _ s10 wr=>s10=.int .i64 0∧wr=w1)
  case atStart=>exact⟨rfl,rfl⟩
  case round=>
   obtain⟨rfl,rfl⟩:=hrel;go_wp2_with fail;exact HX
 ·generalize hm:raw.length=n at *;have HN:Hid (ps0.length=n):=by show _=_;rw[←hm,pE.out,jP]
  have p9:cap≤9223372036854775807:=by simpa [maxLen] using gi
  clear gi ud;have uV:Hid (DeepT w1 w.heap.size (.slice (some ⟨g,off,none⟩) n cap) [] raw):=⟨by rw[List.map_nil,jU];exact Gu.out,fun p hp=>(by cases hp),List.Pairwise.nil,fun p hp=>(by cases hp)⟩
  clear Gu hm;go_wp2_with fail;go_loopg [4,10] n (fun gg _ s10 wr=>∃kk:Nat,kk≤n∧n - kk≤gg∧s10=.int .i64 kk∧Aside (∃ps:List RP,ps.length=kk∧ps.map toL=(ps0.take kk).map toL∧DeepT wr w.heap.size (.slice (some ⟨g,off,none⟩) n cap) ps (raw.drop kk))∧Aside (Below w.heap.size w wr))
  case atStart=>exact⟨0,jL _,by omega,rfl,⟨[],rfl,rfl,uV.out⟩,He.out⟩
  case round=>
   obtain⟨kk,gd,hg,rfl,AD,BW⟩:=hrel;by_cases Hi:kk<n
   ·have Hp:(kk:Int)<(n:Int):=(by omega);have gR:¬((kk:Int)<0):=(by omega);obtain⟨ps,hk,GC,hD⟩:=AD.out;have Hs:kk<ps0.length:=(by rw[HN.out];exact Hi);obtain⟨p,hp⟩:∃p,p=ps0[kk]:=⟨_,rfl⟩;have CP:p∈ps0:=(by rw[hp];exact jT Hs);have bC:raw.drop kk=p.1::raw.drop (kk+1):=by
     rw[pE.out,List.drop_eq_getElem_cons (by simpa using Hs),List.getElem_map,←hp]
    rw[bC] at hD;obtain⟨⟨pp,pq,pn,pc⟩,zs⟩:=p;obtain⟨-,-,c1,gB,dF,Ur⟩:=zDo hD.own;rw[jP,hk] at c1;simp only[] at c1;have f1:wr.frozen? ⟨g,off+kk*2+1,none⟩=false:=gB _;have gc:Bw wr (wr.alloc (.cells #[.slice pq pn pc] 52)):=(bzR _ _).alloc (nzR _) _;have uy:=zNN wr.heap.size 1 (.slice pq pn pc) zs (wr.alloc (.cells #[.slice pq pn pc] 52)) (by simp[go_sem]) (HE.out _ (BW.out.trans (gc.mono BW.out.size)) _ CP) (HR.out _ CP)
    have UQ:Hid (DeepT wr w.heap.size (.slice (some ⟨g,off,none⟩) n cap) ps (⟨pp,pq,pn,pc⟩::raw.drop (kk+1))):=hD;have Bm:Hid (ps.length=kk∧ps.map toL++[toL (⟨pp,pq,pn,pc⟩,zs)]=(ps0.take (kk+1)).map toL):=by
     refine⟨hk,?_⟩;rw[List.take_succ_eq_append_getElem Hs,jF,←GC,←hp];rfl
    have mL:Hid (wr.heap.size≤(wr.alloc (.cells #[.slice pq pn pc] 52)).heap.size):=gc.size;have ue:Hid (Bw wr (wr.alloc (.cells #[.slice pq pn pc] 52))):=gc;clear gB hD hk GC hp CP bC AD gc;go_wp2_with fail;refine uy.mono ?_;rintro e w2⟨v2,rfl,Mi,Ha⟩;obtain⟨q2,cc2,rfl⟩:=OwnM.form Mi;have H6:Hid (Bw wr w2):=ue.out.trans (Ha.mono mL.out);have Gv:Hid (OwnQ w2 wr.heap.size (.slice q2 zs.length cc2) zs):=OwnM.mono Mi mL.out;have d1:w2.cell? ⟨g,off+kk*2+1,none⟩=some (.slice pq pn pc):=zAa H6.out c1;have f2:w2.frozen? ⟨g,off+kk*2+1,none⟩=false:=(H6.out.frozen (p:=⟨g,off+kk*2+1,none⟩) Ur).trans f1;have hgs2:g<w2.heap.size:=jC Ur H6.out.size;have Ug:Hid (DeepT (w2.setCell ⟨g,off+kk*2+1,none⟩ (.slice q2 zs.length cc2)) w.heap.size (.slice (some ⟨g,off,none⟩) n cap) (ps++[(⟨pp,q2,zs.length,cc2⟩,zs)]) (raw.drop (kk+1))):=by
     have:=DeepT.next UQ.out H6.out Gv.out BW.out.size;rw[Bm.out.1,←Nat.add_assoc] at this;exact this
    have gF:Hid (Bw w (w2.setCell ⟨g,off+kk*2+1,none⟩ (.slice q2 zs.length cc2))):=(BW.out.trans (H6.out.mono BW.out.size)).setCell dF _;clear uy Mi Ha Gv H6 c1 f1;go_wp2_with fail;go_roundg (n - (kk+1))
    case measure=>omega
    case rel=>exact⟨kk+1,by omega,by omega,by go_num,⟨ps++[(⟨pp,q2,zs.length,cc2⟩,zs)],by rw[jE,Bm.out.1];rfl,by rw[jF];exact Bm.out.2,Ug.out⟩,gF.out⟩
   ·have Hp:¬(kk:Int)<(n:Int):=(by omega);have BO:kk=n:=(by omega);subst BO;obtain⟨ps,hk,GC,hD⟩:=AD.out;rw[List.drop_eq_nil_of_le (by rw[pE.out,jP,HN.out];exact nzR _)] at hD
    rw[List.take_of_length_le (by rw[HN.out];exact nzR _)] at GC
    have HX:=Hw.out wr _ ps BW.out GC hD;clear Hw hD GC hk AD;go_wp2_with fail;exact HX
end sid
namespace sid
open Go.RowKit que
open tickP (zAo zAB zBA betR)
def putL(s p:Int)(r:R):List L→List L
 | []=>[⟨p,[r]⟩]
 | l::t=>if zAX s l.price p=true then l::putL s p r t else if l.price=p then ⟨p,l.rests++[r]⟩::t else ⟨p,[r]⟩::l::t
theorem zCM{p:Int}{zs:List R}(hp:zAo p=true)(hz:zs≠[])(hq:qchk zs=0):lchk ⟨p,zs⟩=0:=by
 unfold lchk;rw[if_pos hp];rw[if_neg hz];exact hq
theorem zDa{l:L}(h:lchk l=0):zAo l.price=true:=by
 have:=(zAf h).1;simp[zAo];exact this
theorem zFa{s:Int}{prev:Option Int}{l:L}{t:List L}(h1:lchk l=0)(h2:zCc s prev l.price=true)(h3:sgo s (some l.price) t=0):sgo s prev (l::t)=0:=by
 unfold sgo;rw[if_pos h1,if_pos h2];exact h3
def allR(ls:List L):List R:=ls.flatMap (·.rests)
theorem zAp(l:L)(t:List L):allR (l::t)=l.rests++allR t:=by simp[allR]
theorem zCd(a b:List L):allR (a++b)=allR a++allR b:=by simp[allR]
theorem zBf(ls:List L):ids ls=(allR ls).map (·.id):=zKO 0 ls
theorem zAQ(ls:List L):cnt ls=(allR ls).length:=by
 induction ls with
 | nil=>rfl
 | cons x t ih=>rw[zAp,jE];unfold cnt;rw[ih];omega
theorem zNO(s p:Int)(r:R)(ls:List L):(allR (putL s p r ls)).Perm (r::allR ls):=by
 induction ls with
 | nil=>simp[putL,allR]
 | cons l t ih=>
  unfold putL;split
  ·rw[zAp,zAp];exact(List.Perm.append_left _ ih).trans List.perm_middle
  ·split
   ·rw[zAp,zAp];simp only[jS,List.singleton_append];exact List.perm_middle
   ·rw[zAp];simp
theorem zQv(s p:Int)(r:R)(ls:List L):cnt (putL s p r ls)=cnt ls+1:=by
 rw[zAQ,zAQ,(zNO s p r ls).length_eq,jG];omega
theorem zAV{ls:List L}{l:L}(h:l∈ls):(l.rests.length:Int)≤cnt ls:=by
 induction ls with
 | nil=>cases h
 | cons x t ih=>
  unfold cnt;have h0:0≤cnt t:=by rw[zAQ];omega
  rcases List.mem_cons.1 h with rfl|h
  ·omega
  ·have:=ih h;omega
theorem zKY(s p:Int)(r:R)(ls:List L):∃a b,(∀l∈a,zAX s l.price p=true)∧
  ((∃zs,ls=a++⟨p,zs⟩::b∧putL s p r ls=a++⟨p,zs++[r]⟩::b)∨
   (ls=a++b∧putL s p r ls=a++⟨p,[r]⟩::b∧(∀x t,b=x::t→zAX s x.price p=false∧x.price≠p))):=by
 induction ls with
 | nil=>exact⟨[],[],by simp,.inr ⟨rfl,rfl,by simp⟩⟩
 | cons l t ih=>
  unfold putL;by_cases hl:zAX s l.price p=true
  ·obtain⟨a,b,h1,h2⟩:=ih;rw[if_pos hl];refine⟨l::a,b,?_,?_⟩
   ·intro x hx;rcases List.mem_cons.1 hx with rfl|hx
    ·exact hl
    ·exact h1 x hx
   ·rcases h2 with ⟨zs,e1,e2⟩|⟨e1,e2,e3⟩
    ·exact .inl ⟨zs,by rw[e1];rfl,by rw[e2];rfl⟩
    ·exact .inr ⟨by rw[e1];rfl,by rw[e2];rfl,e3⟩
  ·rw[if_neg hl];by_cases he:l.price=p
   ·rw[if_pos he];refine⟨[],t,by simp,.inl ⟨l.rests,?_,rfl⟩⟩
    cases l;simp only at he;subst he;rfl
   ·rw[if_neg he];refine⟨[],l::t,by simp,.inr ⟨rfl,rfl,?_⟩⟩
    intro x u e;cases e;exact⟨by simpa using hl,he⟩
theorem zQw{ps:List P3}(h:(ps.map (·.1)).Nodup){t:P3}(ht:t∈ps):zAC ps t.1=some t:=by
 unfold zAC;have h2:(ps.reverse.map (·.1)).Nodup:=by rw[List.map_reverse];exact(List.reverse_perm _).nodup_iff.2 h
 have PB:t∈ps.reverse:=by simpa using ht
 generalize ps.reverse=qs at h2 PB;clear h ht;induction qs with
 | nil=>cases PB
 | cons x u ih=>
  rw[List.find?_cons];rw[jK,List.nodup_cons] at h2;rcases List.mem_cons.1 PB with e|e
  ·rw[e];simp
  ·have H8:x.1≠t.1:=fun e2=>h2.1 (by rw[e2];exact List.mem_map.2 ⟨t,e,rfl⟩)
   simp only[H8,decide_false];exact ih h2.2 e
theorem zNP{ps:List P3}{id:Int}{t:P3}(h:zAC ps id=some t):t∈ps∧t.1=id:=by
 unfold zAC at h;exact⟨by simpa using List.mem_of_find?_eq_some h,by simpa using List.find?_some h⟩
theorem zKZ{ps:List P3}{id:Int}:zAC ps id=none↔id ∉ ps.map (·.1):=by
 unfold zAC;rw[List.find?_eq_none];constructor
 ·intro h hm;obtain⟨t,ht,e⟩:=List.mem_map.1 hm;exact h t (by simpa using ht) (by simpa using e)
 ·intro h t ht e;exact h (List.mem_map.2 ⟨t,by simpa using ht,by simpa using e⟩)
theorem zNQ{i k0:Int}{zs:List R}{t:P3}:t∈rowP i k0 zs↔∃k:Nat,∃h:k<zs.length,t=(zs[k].id,i,k0+k):=by
 induction zs generalizing k0 with
 | nil=>simp[rowP]
 | cons x u ih=>
  rw[rowP,List.mem_cons,ih];constructor
  ·rintro(e|⟨k,hk,e⟩)
   ·exact⟨0,by simp,by simpa using e⟩
   ·exact⟨k+1,by simpa using hk,by rw[e];simp;omega⟩
  ·rintro⟨k,hk,e⟩;cases k with
   | zero=>left;simpa using e
   | succ k=>right;exact⟨k,by simpa using hk,by rw[e];simp;omega⟩
theorem zGz{i0:Int}{ls:List L}{t:P3}:t∈flatP i0 ls↔∃i k:Nat,∃h:i<ls.length,∃h2:k<ls[i].rests.length,t=(ls[i].rests[k].id,i0+i,(k:Int)):=by
 induction ls generalizing i0 with
 | nil=>simp[flatP]
 | cons x u ih=>
  rw[flatP,List.mem_append,ih,zNQ];constructor
  ·rintro(⟨k,hk,e⟩|⟨i,k,hi,hk,e⟩)
   ·exact⟨0,k,by simp,hk,by rw[e];simp⟩
   ·exact⟨i+1,k,by simpa using hi,hk,by rw[e];simp;omega⟩
  ·rintro⟨i,k,hi,hk,e⟩;cases i with
   | zero=>left;exact⟨k,hk,by rw[e];simp⟩
   | succ i=>right;exact⟨i,k,by simpa using hi,hk,by rw[e];simp;omega⟩
theorem zQx{ls:List L}(h:(ids ls).Nodup){i k:Nat}(hi:i<ls.length)(hk:k<ls[i].rests.length):zAC (flatP 0 ls) ls[i].rests[k].id=some (ls[i].rests[k].id,(i:Int),(k:Int)):=by
 have:=zQw (ps:=flatP 0 ls) h (t:=(ls[i].rests[k].id,(i:Int),(k:Int))) (zGz.2 ⟨i,k,hi,hk,by simp⟩)
 exact this
theorem zQy{ls:List L}{id:Int}{t:P3}(h:zAC (flatP 0 ls) id=some t):∃i k:Nat,∃hi:i<ls.length,∃hk:k<ls[i].rests.length,ls[i].rests[k].id=id∧t.2=((i:Int),(k:Int)):=by
 obtain⟨h1,h2⟩:=zNP h;obtain⟨i,k,hi,hk,e⟩:=zGz.1 h1;refine⟨i,k,hi,hk,?_,?_⟩
 ·rw[←h2,e]
 ·rw[e];simp
def zBo(ls:List L)(i k:Nat):List L:=if ls[i]!.rests.length=1 then ls.eraseIdx i else ls.set i ⟨ls[i]!.price,ls[i]!.rests.eraseIdx k⟩
theorem zLa(a:List L)(x:L)(b:List L):(a++x::b)[a.length]! = x:=by
 rw[getE _ _ (by simp)];simp
theorem zEg{α:Type}(a:List α)(x:α)(b:List α):(a++x::b).eraseIdx a.length=a++b:=by
 rw[List.eraseIdx_append_of_length_le (nzR _)];simp
theorem zDp{α:Type}(a:List α)(x y:α)(b:List α):(a++x::b).set a.length y=a++y::b:=by
 rw[List.set_append];simp
end sid
end Go.Proofs.YtnfilcpnneckkaaGreat
