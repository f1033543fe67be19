import Derived.Test.YtmhcghgfpfainaaGreatDoorFlrFd
import Derived.LaidEql
import Derived.RowKitTokens
set_option maxHeartbeats 4000000
set_option maxRecDepth 100000
namespace Go.Proofs.YtmhcghgfpfainaaGreatDoor
open Tryz
namespace flr
open Go.RowKit
open que (R rchk)
open sid (L DL LS)
open mee (T tV OwnT sumT)
open ord (O oV chk errV wAa wAb prB)
open que (bal)
open bok (zAc zAf)
open pur (Pz Pu Ok flatP pL)
open wak (OwnM OwnQ St SL Lies oL idx Trn)
open pur (newL)
def emptyF(m:Int):FS:=⟨m,0,[],[],[],newL 9⟩
theorem wBb(F:Nat)(f:FS)(v:FV)(w:World)(h:FM w F f v) :
  Calls prog 12 #[.pointer (some ⟨F,0,none⟩)] w fun e w'=>e=.returned (.int .i64 f.last)∧w'=w:=by
 obtain⟨x0,x1,x2,x3,x4,x5,-⟩:=h.cells;clear h;go_enter func12,ntmps12
 go_wp2
 go_ret;exact⟨rfl,rfl⟩
theorem zQc(m:Int)(h0:0≤m)(h3:m≤3)(w:World) :
  Calls prog 5 #[.int .i64 m] w fun e w'=>∃F v,e=.returned (.tuple #[.pointer (some ⟨F,0,none⟩),.nilIface])∧FM w' F (emptyF m) v∧w.heap.size≤F∧Bw w w':=by
 have Cj:Hid ([(m,0,3)].any spn.zAo=false):=by show _=_;simp[spn.zAo];omega
 clear h0 h3;go_enter func5,ntmps5;go_wp2_with fail;refine(spn.zDK m w).mono ?_;rintro e w1⟨rfl,b1⟩;have gq:=hidF b1;clear b1;go_wp2_with fail;refine(spn.scheck1 false _ _ _ _ _ rfl Cj.out).mono ?_;rintro e w2⟨rfl,b2⟩;rw[show spn.errV (spn.zAg false)=.nilIface from rfl]
 have H6:=hidF (gq.out.trans (b2.mono gq.out.size));clear b2 gq;go_wp2_with fail;refine(wak.new_any w2).mono ?_;rintro e w3⟨rfl,s3,b3⟩;have M5:=hidF s3;have gZ:=hidF b3;clear s3 b3;go_wp2_with fail;refine(pur.new_any w3).mono ?_;rintro e w4⟨rfl,p4,b4⟩;have HP4:=hidF p4;have GP:=hidF b4;clear p4 b4;go_wp2_with fail
 go_ret2
 have ug:Bw w4 (w4.alloc (.cells #[.int .i64 m,.slice none 0 0,.slice none 0 0,.pointer (some ⟨w2.heap.size,0,none⟩),.pointer (some ⟨w3.heap.size,0,none⟩),.int .i64 0] 73)):=(bzR _ _).alloc (nzR _) _;have Bi:=H6.out.trans ((gZ.out.trans (GP.out.mono gZ.out.size)).mono H6.out.size);have UD:=((M5.out.below GP.out).below ug);have hp5:=(Kp.below (S:=[]) ug).pu HP4.out (by simp)
 exact⟨w4.heap.size,⟨none,0,0,none,0,0,w2.heap.size,.slice none 0 0,w3.heap.size⟩,rfl,⟨jA w4 _,sid.zFe _ _,sid.zFe _ _,zGq UD (jL _),hp5⟩,Bi.size,Bi.trans (ug.mono Bi.size)⟩
theorem zSd(m:Int)(h:¬(0≤m∧m≤3))(w:World) :
  Calls prog 5 #[.int .i64 m] w fun e w'=>e=.returned (.tuple #[.pointer none,.iface 80 (.int .i64 1)])∧Bw w w':=by
 have Cj:Hid ([(m,0,3)].any spn.zAo=true):=by show _=_;simp[spn.zAo];omega
 clear h;go_enter func5,ntmps5;go_wp2_with fail;refine(spn.zDK m w).mono ?_;rintro e w1⟨rfl,b1⟩;have gq:=hidF b1;clear b1;go_wp2_with fail;refine(spn.scheck1 true _ _ _ _ _ rfl Cj.out).mono ?_;rintro e w2⟨rfl,b2⟩;rw[show spn.errV (spn.zAg true)=.iface 80 (.int .i64 1) from rfl]
 have H6:=hidF (gq.out.trans (b2.mono gq.out.size));clear b2 gq;go_wp2_with fail
 go_ret2
 exact⟨rfl,H6.out⟩
theorem zND(F:Nat)(f:FS)(v:FV)(w:World)(h:FM w F f v)(hw:zAc f.bs f.ss=0) :
  Calls prog 11 #[.pointer (some ⟨F,0,none⟩)] w fun e w'=>∃q1 n1 c1 q2 n2 c2,e=.returned (.agg #[.slice q1 n1 c1,.slice q2 n2 c2])∧DL w' w.heap.size (.slice q1 n1 c1) f.bs∧DL w' w.heap.size (.slice q2 n2 c2) f.ss∧Below w.heap.size w w':=by
 obtain⟨W,hW⟩:∃W,W=w.alloc (.cells #[.slice none 0 0,.slice none 0 0] 50):=⟨_,rfl⟩;have Hk:Below w.heap.size w W:=by rw[hW];exact(bzR _ _).alloc (nzR _) _
 have Hd:W.heap[w.heap.size]?=some (.cells #[.slice none 0 0,.slice none 0 0] 50 (0,0)):=by rw[hW];exact jA w _
 obtain⟨G,hG⟩:∃G,G=w.heap.size:=⟨_,rfl⟩;rw[←hG] at Hd;have eK:w.heap.size≤G:=by omega
 obtain⟨e1,e2,-⟩:=bok.zAe hw;obtain⟨x0,x1,x2,x3,x4,x5,-⟩:=(h.below Hk).cells;have HF:=hidF (mee.zDq v.q1 v.q2 v.n1 v.n2 v.c1 v.c2 f.bs f.ss W (h.below Hk).buys.ls (h.below Hk).sells.ls e1 e2);have BD:=hidF Hd;have gI:=hidF (And.intro Hk eK);obtain⟨q1,n1,c1,q2,n2,c2,sp,vw,pp⟩:=v;simp only[] at x0 x1 x2 x3 x4 x5 HF;clear h Hk Hd eK e1 e2 hw;go_enter func11,ntmps11;go_upto_region 1 with fail
 rw[←hW];simp only[←hG];clear hW hG;go_wp2_with fail;refine HF.out.mono ?_;rintro e w1⟨u1,u2,m1,m2,d1,d2,rfl,b1,D1,D2,-,-⟩;have go:=zBH BD.out b1;have mp:=gI.out.1.trans (b1.mono gI.out.1.size);have Hs:=sid.zAN w1 G (.slice u1 m1 d1) (.slice u2 m2 d2);have hk:Kp [50] w1 _:=Kp.grown Hs go (by simp)
 have Hg:=hidF (And.intro (mp.grown Hs mp.size (fun k hk=>by cases hk;exact gI.out.2)) (And.intro (hk.dl (D1.mono gI.out.1.size) (by decide) (by decide)) (hk.dl (D2.mono gI.out.1.size) (by decide) (by decide))))
 have HS:=hidF (sid.zAx go (.slice u1 m1 d1) (.slice u2 m2 d2));obtain⟨p0,p1,pf⟩:=sid.zAb go;have pf0:=pf 0;have pf1:=pf 1;clear x0 x1 x2 x3 x4 x5 HF BD b1 go mp Hs pf hk D1 D2;go_wp2_with fail;generalize (w1.setCell ⟨G,0,none⟩ (.slice u1 m1 d1)).setCell ⟨G,1,none⟩ (.slice u2 m2 d2)=Z at *;obtain⟨y0,y1,-⟩:=sid.zAb HS.out;exact jN (v:=.agg #[.slice u1 m1 d1,.slice u2 m2 d2]) (by simp[results,results11,go_sem,y0,y1]) rfl ⟨u1,m1,d1,u2,m2,d2,rfl,Hg.out.2.1,Hg.out.2.2,Hg.out.1⟩
end flr
namespace flr
open Go.RowKit
open que (R rchk)
open sid (L DL LS)
open mee (T tV OwnT sumT)
open ord (O oV chk errV wAa wAb prB)
open bok (zAc zAf)
open pur (Pz Pu Ok flatP pL payE payP zDd zDv)
open wak (OwnM OwnQ St SL Lies oL idx Trn)
structure FloorAt (w w' : World) (F:Nat) (f:FS):Prop where
 fm:∃v,FM w' F f v
 lo:w.heap.size≤F
 bel:Bw w w'
theorem FloorAt.step{w w1 w2:World}{F:Nat}{f g:FS}{v:FV}(h:FloorAt w w1 F f)(hg:w1.grownBy w2 (some F))(hm:FM w2 F g v):FloorAt w w2 F g:=
 ⟨⟨v,hm⟩,h.lo,h.bel.grown hg h.bel.size (fun k hk=>by cases hk;exact h.lo)⟩
theorem FloorAt.keep{w w1 w2:World}{F:Nat}{f:FS}(h:FloorAt w w1 F f)(hb:Bw w1 w2):FloorAt w w2 F f:=
 ⟨by obtain⟨v,hv⟩:=h.fm;exact⟨v,hv.below hb⟩,h.lo,h.bel.trans (hb.mono h.bel.size)⟩
end flr
namespace tap
open Go.RowKit flr
open que (R rchk)
open sid (L DL LS allR)
open mee (T tV)
open bok (zAc zAf)
theorem zNE{e:Ev}(h:EvB e):evB e=true:=by
 unfold evB;rcases h with ⟨h1,h2,h3,h4,h5,h6,h7⟩|⟨h1,h2,h3,h4⟩
 ·rw[if_pos h1];simp[tdB];omega
 ·rw[if_neg (by omega)]
  simp[otB];omega
theorem zQd(l:List Ev):∀k,zEK 0 (l.take k)=lastP (trs (l.take k)):=by
 intro k;induction k with
 | zero=>rfl
 | succ k ih=>
  by_cases hk:k<l.length
  ·by_cases h2:(l[k]!).what=2
   ·rw[zNk hk h2,zAT hk,zBx];unfold lastP;rw[List.getLast?_concat];simp only[zEK,List.foldl_cons,List.foldl_nil,if_pos h2]
   ·rw[zQy hk h2,zAT hk,zBx,←ih];simp only[zEK,List.foldl_cons,List.foldl_nil,if_neg h2]
  ·rw[List.take_of_length_le (by omega)]
   rw[List.take_of_length_le (by omega)] at ih
   exact ih
def sees(t:Mp):Fm:=fun id=>if 0<(t id).1 then some (t id) else none
theorem zNF{f:Fm}{t:Mp}{e:Ev}(h:f=sees t)(he:EvB e):zEW f e=sees (mEv t e):=by
 subst h;funext j
 unfold zEW mEv;by_cases h1:e.what=1
 ·rw[if_pos h1,if_pos h1];unfold setF sees mPut;by_cases hj:j=e.id
  ·rw[if_pos hj,if_pos hj];by_cases hq:e.qty≤0
   ·rw[if_pos (show (e.qty,e.price).1≤0 from hq),if_neg (by simp only;omega)]
   ·rw[if_neg (show ¬(e.qty,e.price).1≤0 from hq),if_pos (by simp only;omega)]
  ·rw[if_neg hj,if_neg hj]
 rw[if_neg h1,if_neg h1];by_cases h2:e.what=2
 ·rw[if_pos h2,if_pos h2];have hq:1≤e.tr.qty:=by
   rcases he with ⟨-,-,-,-,-,-,h,-⟩|⟨h,-⟩
   ·exact h
   ·omega
  unfold setF mTrd;by_cases hj:j=e.tr.maker
  ·subst hj;rw[if_pos rfl];unfold sees;simp only[if_pos];by_cases h0:0<(t e.tr.maker).1
   ·rw[if_pos h0];simp only[Option.getD_some];by_cases h3:(t e.tr.maker).1 - e.tr.qty≤0
    ·rw[if_pos h3,if_neg (by omega)]
    ·rw[if_neg h3,if_pos (by omega)]
     congr 2
     omega
   ·rw[if_neg h0];simp only[Option.getD_none];rw[if_pos (show (0:Int) - e.tr.qty≤0 by omega),if_neg (by omega)]
  ·rw[if_neg hj];unfold sees;simp only[if_neg hj]
 rw[if_neg h2,if_neg h2];by_cases h3:e.what=3
 ·rw[if_pos h3,if_pos h3];unfold delF sees zBS;by_cases hj:j=e.id
  ·rw[if_pos hj,if_pos hj,if_neg (by simp)]
  ·rw[if_neg hj,if_neg hj]
 ·rw[if_neg h3,if_neg h3]
def zM:Mp:=fun _=>(0,0)
theorem zJu:∀ (l:List Ev) (f:Fm) (t:Mp),f=sees t→(∀e∈l,EvB e)→l.foldl zEW f=sees (mEvs t l)
 | [],_,_,h,_=>h
 | e::r,_,_,h,hb=>zJu r _ _ (zNF h (hb e List.mem_cons_self)) (fun x hx=>hb x (List.mem_cons_of_mem _ hx))
theorem zKF{l:List Ev}(hb:∀e∈l,EvB e):zBP l=sees (mEvs zM l):=zJu l _ _ (by funext j;rfl) hb
theorem zNG{l:List Ev}(h:l.length≤400)(hb:∀e∈l,EvB e):tchk l=0:=by
 unfold tchk;rw[if_neg (by omega)]
 have:l.any badE=false:=by
  rw[List.any_eq_false];intro e he;unfold badE;rw[zNE (hb e he)];simp
 rw[this];rfl
theorem fok_of{l:List Ev}(hb:∀e∈l,EvB e):FOk (zBP l):=by
 have:=FOk.heard (l:=l) (fun e he=>zNE (hb e he)) l.length
 rwa [List.take_length] at this
section
variable {t:Mp}{f:FS}
theorem zGr(h:EF t f){x:Int × R}(hx:x∈bp f.bs f.ss):t (pid x)=(tq x.2,x.1)∧(1≤x.1∧x.1≤10000)∧rchk x.2=0∧tq x.2≤10000∧0<tq x.2:=by
 have hr:=zQx h.wf.book h.tf.tb h.hb;have hg:=hr.good hx;refine⟨h.tf.tb.1 x hx,hg.1,hg.2.1,hg.2.2,?_⟩;obtain⟨a1,a2,-⟩:=que.zAp hg.2.1;unfold tq;omega
theorem zJv(h:EF t f)(hf:FOk (sees t))(y:X3):y∈zBA (sees t)↔∃x∈bp f.bs f.ss,y=(pid x,tq x.2,x.1):=by
 obtain⟨id,q,p⟩:=y;rw[zGp hf];constructor
 ·intro he;unfold sees at he;split at he
  ·rename_i h0
   by_cases hid:id∈(bp f.bs f.ss).map pid
   ·obtain⟨x,hx,rfl⟩:=List.mem_map.1 hid;refine⟨x,hx,?_⟩;have:=(zGr h hx).1;rw[this] at he;cases he;rfl
   ·have:=h.tf.tb.2 id hid;omega
  ·cases he
 ·rintro⟨x,hx,he⟩;simp only[Prod.mk.injEq] at he;obtain⟨rfl,rfl,rfl⟩:=he;have hg:=zGr h hx;unfold sees;rw[hg.1,if_pos hg.2.2.2.2]
theorem zQe(h:EF t f)(hf:FOk (sees t)):(zBA (sees t)).length=(allR f.bs++allR f.ss).length:=by
 have n1:(zBA (sees t)).Nodup:=(zEO (sees t)).imp fun {a b} um e=>by rw[e] at um;omega
 have n2:((bp f.bs f.ss).map fun x=>((pid x,tq x.2,x.1):X3)).Nodup:=by
  have h1:=zDW h.wf.book;have e:(bp f.bs f.ss).map pid=((bp f.bs f.ss).map fun x=>((pid x,tq x.2,x.1):X3)).map (·.1):=by rw[List.map_map];rfl
  have h2:(((bp f.bs f.ss).map fun x=>((pid x,tq x.2,x.1):X3)).map (·.1)).Nodup:=by rw[←e];exact h1
  exact(List.pairwise_map.1 h2).imp fun {a b} um e=>um (by rw[e])
 have hp:(zBA (sees t)).Perm ((bp f.bs f.ss).map fun x=>((pid x,tq x.2,x.1):X3)):=(List.perm_ext_iff_of_nodup n1 n2).2 fun y=>by
  rw[zJv h hf,List.mem_map];constructor
  ·rintro⟨x,hx,rfl⟩;exact⟨x,hx,rfl⟩
  ·rintro⟨x,hx,rfl⟩;exact⟨x,hx,rfl⟩
 rw[hp.length_eq,jP];unfold bp;rw[jE,jE,←zEE,←zEE,jP,jP]
theorem zSe(h:EF t f)(hf:FOk (sees t)){y:X3}(hy:y∈zBA (sees t)):∃s r i k,swp.At f.bs f.ss y.1 s y.2.2 r i k∧r.qty+r.hid=y.2.1∧0≤r.qty∧r.qty≤10000∧0≤r.hid∧r.hid≤10000:=by
 obtain⟨x,hx,rfl⟩:=(zJv h hf y).1 hy;have Ht:zAf f.bs f.ss (pid x)=true:=by
  rw[zMX,←zDh];exact List.mem_map_of_mem hx
 have hA:swp.At f.bs f.ss (pid x) (spot f.bs f.ss (pid x)).s (spot f.bs f.ss (pid x)).p (spot f.bs f.ss (pid x)).r (spot f.bs f.ss (pid x)).i (spot f.bs f.ss (pid x)).k:=wAq h.wf.book Ht;obtain⟨hm,ha⟩:=zJg hA;have UX:((spot f.bs f.ss (pid x)).p,(spot f.bs f.ss (pid x)).r)∈bp f.bs f.ss:=by
  unfold bp;rcases ha with ha|ha
  ·rw[ha,if_pos rfl] at hm;exact List.mem_append_left _ hm
  ·rw[ha,if_neg (by decide)] at hm;exact List.mem_append_right _ hm
 have g1:=zGr h hx;have g2:=zGr h UX;have hid:pid ((spot f.bs f.ss (pid x)).p,(spot f.bs f.ss (pid x)).r)=pid x:=hA.id;rw[hid,g1.1] at g2;obtain⟨e1,e2⟩:=Prod.mk.inj g2.1;simp only at e1 e2 g2;obtain⟨a1,a2,-⟩:=que.zAp g2.2.2.1;refine⟨(spot f.bs f.ss (pid x)).s,(spot f.bs f.ss (pid x)).r,(spot f.bs f.ss (pid x)).i,(spot f.bs f.ss (pid x)).k,?_,?_,by omega,by omega,by omega,by omega⟩
 ·simp only;rw[e2];exact hA
 ·simp only;rw[e1];rfl
end
theorem fm_kp{w w' : World}{F:Nat}{f:FS}{v:FV}(h:FM w F f v)(hk:Kp [31] w w'):FM w' F f v:=
 ⟨hk.typ _ _ _ h.blk (by decide),hk.dl h.buys (by decide) (by decide),hk.dl h.sells (by decide) (by decide),hk.st h.stops (by decide) (by decide),hk.pu h.purs (by decide)⟩
end tap
namespace tap
open Go.RowKit mee flr
open wak (OwnM)
theorem zQA{w:World}{base:Nat}{v:Value}{l:List Ev}(h:OwnM w base 31 10 v l.length (zAH l)):EL w v l:=by
 rcases h.2 with ⟨hv,hn⟩|⟨g,off,cap,cur,hv,hb,hg,GM,ga,Gy,-⟩
 ·exact .inl ⟨hv,List.eq_nil_of_length_eq_zero hn⟩
 ·subst hv;obtain⟨hc,-,-,hl⟩:=OwnM.cells h;refine .inr ⟨g,off,cap,rfl,GM,by have:=ga;unfold maxLen at this;omega,hl,fun j hj i v hv=>?_⟩
  have hi:i<10:=(List.getElem?_eq_some_iff.1 hv).1;have:=hc (j*10+i) v (by rw[zKM l j hj i hi];exact hv)
  rw[←Nat.add_assoc] at this;exact this
theorem Own3.at{w:World}{base:Nat}{q:Option Addr}{n c:Nat}{l:List X3}(h:Own3 w base (.slice q n c) l){k:Nat}(hk:k<l.length):∃g off,q=some ⟨g,off,none⟩∧base≤g∧g<w.heap.size∧∀i v,(xL l[k]!)[i]?=some v→w.cell? ⟨g,off+k*3+i,none⟩=some v:=by
 rcases h.2 with ⟨h1,h2⟩|⟨g,off,cap,cur,h1,h2,h3,h4⟩
 ·omega
 ·cases h1;obtain⟨hc,-,hb,hl⟩:=OwnM.cells h;refine⟨g,off,rfl,hb,hl,fun i v hv=>?_⟩
  have hi:i<3:=(List.getElem?_eq_some_iff.1 hv).1;have:=hc (k*3+i) v (by rw[zHC l k hk i hi];exact hv)
  rw[←Nat.add_assoc] at this;exact this
theorem guard3:prog.eqGuardType prog.depth 33=false:=by kernel_rfl
theorem eq3(a b c:Int)(W:World):(Op.equalIn 10000 33 (.agg #[.int .i64 a,.int .i64 b,.int .i64 c]) (.agg #[.int .i64 a,.int .i64 b,.int .i64 c])).run prog W=.ok true W:=by
 rw[show (10000:Nat)=9999+1 from rfl,Op.equalIn]
 have h3:∀ (x:Int) (W:World),(Op.equalIn 9999 3 (.int .i64 x) (.int .i64 x)).run prog W=.ok true W:=fun x W=>by
  rw[show (9999:Nat)=9998+1 from rfl,run_equalIn_int W 9998 3 .i64 .i64 x x underlying3]
  simp
 simp only[Sem.run_bind,run_underlying underlying33,Result.andThen_ok,sizeOf3];simp[Std.Legacy.Range.forIn_eq_forIn_range',List.range',go_sem,h3]
theorem neq3(a b c:Int)(W:World):(binOp .neq 33 (.agg #[.int .i64 a,.int .i64 b,.int .i64 c]) (.agg #[.int .i64 a,.int .i64 b,.int .i64 c])).run prog W=.ok (.bool false) W:=by
 rw[run_neq_struct,eq3];rfl
theorem zHI{B:Nat}{a w:World}(h:Below B a w)(n:Nat):Below B a (w.drewN n):=⟨h.os,h.tape,h.output,h.size,h.block⟩
end tap
namespace tap
open Go.RowKit flr
open que (R rchk)
open sid (L DL LS allR)
open mee (T tV)
open bok (zAc zAf)
open wak (OwnM wAd)
theorem zFt:∀ (n:Nat) {s s1:TS},Wf s→zBv n s=.ok s1→s1.evs.length≤s.evs.length+481*n
 | 0,s,s1,_,e=>by cases e;omega
 | n+1,s,s1,h,e=>by
  cases hr:s.row with
  | nil=>rw[zBF _ _ hr] at e;cases e;omega
  | cons x t=>
   rw[zBn _ _ hr] at e;obtain⟨s2,e1,e⟩:=zAk e;have hw:Wf (tell { s with row:=t } 4 x.o.id x.o.qty x.p):=⟨h.m0,h.m3,h.book,h.ok,h.ws⟩
   have g:=zGe hw e1;have a:=zFt n g.wf e;have b:=g.evs;have c:(tell { s with row:=t } 4 x.o.id x.o.qty x.p).evs.length=s.evs.length+1:=by simp[tell]
   omega
theorem zSf{f:FS}{c:Cm}{s:TS}(h:WfF f)(e:fdo f c=.ok s):s.evs.length≤20000:=by
 obtain⟨s1,e1,e2⟩:=zAk e;have g:=zJf h e1;have a:=zFt _ g.wf e2;have h1:=g.row;have h2:=g.evs;have h3:(zBw f).ws.length≤20:=h.ws;have h4:(zBw f).row.length=0:=rfl;have h5:(zBw f).evs.length=0:=rfl;omega
structure TapL (w wr:World) (F:Nat) (v:Value) (all:List Ev) (f:FS) (k:Nat):Prop where
 fl:FloorAt w wr F f
 ef:EF (mEvs zM all) f
 eb:∀e∈all,EvB e
 la:f.last=zEK 0 all
 ow:OwnM wr w.heap.size 31 10 v all.length (zAH all)
 sm:all.length≤20000*k
structure TapM (w wr:World) (F:Nat) (v:Value) (all evs:List Ev) (f:FS) (k:Nat):Prop where
 fl:FloorAt w wr F f
 ef:EF (mEvs zM (all++evs)) f
 eb:∀e∈all++evs,EvB e
 la:f.last=zEK 0 (all++evs)
 ow:OwnM wr w.heap.size 31 10 v all.length (zAH all)
 sm:(all++evs).length≤20000*(k+1)
theorem TapL.keep{w wr w' : World}{F:Nat}{v:Value}{all:List Ev}{f:FS}{k:Nat}(h:TapL w wr F v all f k)(hb:Bw wr w'):TapL w w' F v all f k:=
 ⟨h.fl.keep hb,h.ef,h.eb,h.la,OwnM.below h.ow hb,h.sm⟩
theorem TapL.mono{w wr:World}{F:Nat}{v:Value}{all:List Ev}{f:FS}{k j:Nat}(h:TapL w wr F v all f k)(hj:k≤j):TapL w wr F v all f j:=
 ⟨h.fl,h.ef,h.eb,h.la,h.ow,by have:=h.sm;omega⟩
def TapPost(w:World)(F:Nat)(v:Value)(all:List Ev)(k:Nat)(w1:World)(e:Ending)(w' : World):Prop:=
 (∃q evs c g,e=.returned (.tuple #[.slice q (evs:List Ev).length c,.nilIface])∧OwnM w' w1.heap.size 31 10 (.slice q evs.length c) evs.length (zAH evs)∧TapM w w' F v all evs g k)∨
 ∃j g,e=.returned (.tuple #[.slice none 0 0,.iface 80 (.int .i64 j)])∧TapL w w' F v all g k
theorem do_tf{w w1:World}{F:Nat}{v:Value}{all:List Ev}{f:FS}{k:Nat}(what a1 a2 a3 a4 a5 a6 a7 a8 who n:Int)(h:TapL w w1 F v all f k)(hid:(Lit.int .i64 a1).wf=true) :
  Calls prog 6 #[.pointer (some ⟨F,0,none⟩),.agg #[.int .i64 what,.int .i64 a1,.int .i64 a2,.int .i64 a3,.int .i64 a4,.int .i64 a5,.int .i64 a6,.int .i64 a7,.int .i64 a8,.int .i64 who,.int .i64 n]] w1 fun e w'=>TapPost w F v all k w1 e w':=by
 obtain⟨fv,hv⟩:=h.fl.fm;refine(zSc F f fv what a1 a2 a3 a4 a5 a6 a7 a8 who n w1 hv h.ef.wf hid).mono ?_;rintro e w'⟨k1,k2⟩;cases hx:fdo f ⟨what,⟨a1,a2,a3,a4,a5,a6,a7,a8⟩,who,n⟩ with
 | ok s=>
  obtain⟨⟨q,m',c,rfl,ho⟩,⟨v',gX⟩,hg⟩:=k1 s hx;obtain⟨q',c',hq⟩:=OwnM.form ho;cases hq;obtain⟨g1,g2,g3⟩:=fdo_ef _ h.ef hx;have Ue:=zSf h.ef.wf hx;refine .inl ⟨q,s.evs,c,zEw s,rfl,ho,h.fl.step hg gX,?_,?_,?_,?_,?_⟩
  ·rw[zCQ];exact g1
  ·intro e he;rcases List.mem_append.1 he with he|he
   ·exact h.eb e he
   ·exact g2 e he
  ·show s.last=_
   rw[zBx,←h.la];exact g3
  ·refine OwnM.kept h.ow hg ?_;rcases h.ow.2 with ⟨rfl,-⟩|⟨g,off,cap,cur,rfl,-,Hs,-⟩
   ·exact .inl rfl
   ·right;intro e;have:g=F:=(by simpa [Value.ownBlock] using e);subst this;have:=Hs.symm.trans hv.blk;simp at this
  ·rw[jE];have:=h.sm;omega
 | error j=>
  obtain⟨-,rfl,hb⟩:=k2 j hx;exact .inr ⟨j,f,rfl,h.keep hb⟩
theorem TapM.app{w w1 w2:World}{F:Nat}{v v' : Value}{all evs:List Ev}{f:FS}{k:Nat}(h:TapM w w1 F v all evs f k)(ho:OwnM w2 w.heap.size 31 10 v' (all.length+evs.length) (zAH all++zAH evs))(hg:w1.grownBy w2 v.ownBlock):TapL w w2 F v' (all++evs) f (k+1):=by
 have dE:=OwnM.lt h.ow;refine⟨⟨?_,h.fl.lo,h.fl.bel.grown hg h.fl.bel.size (fun j hj=>(dE j hj).1)⟩,h.ef,h.eb,h.la,?_,h.sm⟩
 ·obtain⟨fv,hv⟩:=h.fl.fm;rcases h.ow.2 with ⟨rfl,-⟩|⟨g,off,cap,cur,rfl,-,Hs,-⟩
  ·exact⟨fv,hv.below ((bzR _ _).grown hg (nzR _) (fun j hj=>by simp[Value.ownBlock] at hj))⟩
  ·exact⟨fv,fm_kp hv (Kp.grown (P:=g) hg Hs (by simp))⟩
 ·rw[jE,zCk];exact ho
theorem TapM.none{w w1:World}{F:Nat}{v:Value}{all evs:List Ev}{f:FS}{k:Nat}(h:TapM w w1 F v all evs f k)(he:evs=[]):TapL w w1 F v all f (k+1):=by
 subst he;have e:all++[]=all:=jH all;exact⟨h.fl,e ▸ h.ef,by have:=h.eb;rw[e] at this;exact this,by have:=h.la;rw[e] at this;exact this,h.ow,by have:=h.sm;rw[e] at this;exact this⟩
theorem zQf{w W:World}(m:Int)(h0:0≤m)(h3:m≤3)(hB:Bw w W) :
  Calls prog 5 #[.int .i64 m] W fun e w'=>∃F f,e=.returned (.tuple #[.pointer (some ⟨F,0,none⟩),.nilIface])∧TapL w w' F (.slice none 0 0) [] f 0:=by
 refine(zQc m h0 h3 W).mono ?_;rintro e w'⟨F,v,rfl,hF,hl,hb⟩;exact⟨F,_,rfl,⟨⟨v,hF⟩,jM hB.size hl,hB.trans (hb.mono hB.size)⟩,new_ef h0 h3,(fun _ h=>by cases h),rfl,⟨rfl,.inl ⟨rfl,rfl⟩⟩,nzR _⟩
end tap
namespace told
open Go.RowKit Go.Extern
theorem zQg(t:Addr)(w:World):(ReflectliteValue.unpack (.iface 124 (.pointer (some t)))).run prog w
  = .ok (.agg #[.pointer (some ⟨1,124,none⟩),.pointer (some ⟨w.heap.size,0,none⟩),.int .u64 150]) (w.alloc (.cells #[.pointer (some t)] 124)):=by kernel_rfl
theorem typeP(a:Addr)(w:World):(ReflectliteValue.methodAny (ReflectliteValue.valueError "reflectlite.Value.Type" 0) (fun t _ _ _=>ReflectliteType.toType t) #[.agg #[.pointer (some ⟨1,124,none⟩),.pointer (some a),.int .u64 150]]).run prog w
  = .ok (.iface 213 (.agg #[.pointer (some ⟨1,124,none⟩)])) w:=by kernel_rfl
theorem zKG(h:Value)(w:World):(Go.method 434 213 (.agg #[h]) "Kind").run prog w=.ok (222,h) w:=by kernel_rfl
theorem kindP(w:World):((ReflectliteType.abiMethod fun t=>(fun a:Nat=>Value.int IntKind.u8 (a:Int)) <$>Rtype.kind t) #[.pointer (some ⟨1,124,none⟩)]).run prog w=.ok (.int .u8 22) w:=by kernel_rfl
theorem kindE(w:World):((ReflectliteType.abiMethod fun t=>(fun a:Nat=>Value.int IntKind.u8 (a:Int)) <$>Rtype.kind t) #[.pointer (some ⟨1,80,none⟩)]).run prog w=.ok (.int .u8 2) w:=by kernel_rfl
theorem zQB(a:Addr)(w:World):(ReflectliteValue.parts (.agg #[.pointer (some ⟨1,124,none⟩),.pointer (some a),.int .u64 150])).run prog w=.ok (some (124,a,150)) w:=by kernel_rfl
theorem isNilP(a p:Addr)(W:World)(ha:W.cell? a=some (.pointer (some p))) :
  (ReflectliteValue.method (ReflectliteValue.valueError "reflectlite.Value.IsNil" 0) ReflectliteValue.isNil #[.agg #[.pointer (some ⟨1,124,none⟩),.pointer (some a),.int .u64 150]]).run prog W=.ok (.bool false) W:=by
 refine(Sem.run_bind (x:=ReflectliteValue.parts (.agg #[.pointer (some ⟨1,124,none⟩),.pointer (some a),.int .u64 150])) ..).trans ?_;simp only[zQB,Result.andThen];simp[ReflectliteValue.isNil,loadVar,isAgg,underlying,underlying124,ha,Result.andThen]
theorem zKH(h:Value)(w:World):(Go.method 434 213 (.agg #[h]) "Elem").run prog w=.ok (233,.agg #[h]) w:=by kernel_rfl
theorem zDI(h:Value)(w:World):(Go.method 434 213 (.agg #[h]) "Implements").run prog w=.ok (234,.agg #[h]) w:=by kernel_rfl
theorem zDj(h:Value)(w:World):(Go.method 434 213 (.agg #[h]) "AssignableTo").run prog w=.ok (231,.agg #[h]) w:=by kernel_rfl
theorem elemP(w:World):(ReflectliteType.method ReflectliteType.elem #[.agg #[.pointer (some ⟨1,124,none⟩)]]).run prog w=.ok (.iface 213 (.agg #[.pointer (some ⟨1,80,none⟩)])) w:=by kernel_rfl
theorem zIr(w:World):(ReflectliteType.relation "Implements" ReflectliteType.implements_ #[.agg #[.pointer (some ⟨1,80,none⟩)],.iface 213 (.agg #[.pointer (some ⟨1,25,none⟩)])]).run prog w=.ok (.bool true) w:=by kernel_rfl
theorem zSg(v:Value)(w:World):(ReflectliteType.typeOf #[.iface 80 v]).run prog w=.ok (.iface 213 (.agg #[.pointer (some ⟨1,80,none⟩)])) w:=by kernel_rfl
theorem zIs(w:World):(ReflectliteType.relation "AssignableTo" ReflectliteType.assignableTo #[.agg #[.pointer (some ⟨1,80,none⟩)],.iface 213 (.agg #[.pointer (some ⟨1,80,none⟩)])]).run prog w=.ok (.bool true) w:=by kernel_rfl
theorem zQh(k:Int)(w:World):(ReflectliteValue.unpack (.iface 80 (.int .i64 k))).run prog w
  = .ok (.agg #[.pointer (some ⟨1,80,none⟩),.pointer (some ⟨w.heap.size,0,none⟩),.int .u64 130]) (w.alloc (.cells #[.int .i64 k] 80)):=by kernel_rfl
theorem zSh(w:World):(Rtype.elem? 124).run prog w=.ok (some 80) w:=by kernel_rfl
theorem mkE(p:Addr)(w:World):(ReflectliteValue.mk 80 p ReflectliteValue.flagAddr).run prog w=.ok (.agg #[.pointer (some ⟨1,80,none⟩),.pointer (some p),.int .u64 386]) w:=by kernel_rfl
theorem elemVP(a p:Addr)(W:World)(ha:W.cell? a=some (.pointer (some p))) :
  (ReflectliteValue.method (ReflectliteValue.valueError "reflectlite.Value.Elem" 0) ReflectliteValue.elem #[.agg #[.pointer (some ⟨1,124,none⟩),.pointer (some a),.int .u64 150]]).run prog W
   = .ok (.agg #[.pointer (some ⟨1,80,none⟩),.pointer (some p),.int .u64 386]) W:=by
 refine(Sem.run_bind (x:=ReflectliteValue.parts (.agg #[.pointer (some ⟨1,124,none⟩),.pointer (some a),.int .u64 150])) ..).trans ?_;simp only[zQB,Result.andThen];simp[ReflectliteValue.elem,loadVar,isAgg,underlying,underlying124,ha,Result.andThen,zSh,mkE]
theorem zSi(a:Addr)(w:World):(ReflectliteValue.parts (.agg #[.pointer (some ⟨1,80,none⟩),.pointer (some a),.int .u64 386])).run prog w=.ok (some (80,a,386)) w:=by kernel_rfl
theorem partsE(a:Addr)(w:World):(ReflectliteValue.parts (.agg #[.pointer (some ⟨1,80,none⟩),.pointer (some a),.int .u64 130])).run prog w=.ok (some (80,a,130)) w:=by kernel_rfl
theorem zSj(w:World):(Rtype.directlyAssignable 80 80).run prog w=.ok true w:=by kernel_rfl
theorem setE(ta b:Addr)(k:Int)(old:Value)(W:World)(hb:W.cell? b=some (.int .i64 k))(ht:W.cell? ta=some old)(hf:W.frozen? ta=false) :
  (ReflectliteValue.set #[.agg #[.pointer (some ⟨1,80,none⟩),.pointer (some ta),.int .u64 386],.agg #[.pointer (some ⟨1,80,none⟩),.pointer (some b),.int .u64 130]]).run prog W
   = .ok (.tuple #[]) (W.setCell ta (.int .i64 k)):=by
 refine(Sem.run_bind (x:=ReflectliteValue.parts (.agg #[.pointer (some ⟨1,80,none⟩),.pointer (some ta),.int .u64 386])) ..).trans ?_;rw[zSi];refine(Sem.run_bind (x:=ReflectliteValue.parts (.agg #[.pointer (some ⟨1,80,none⟩),.pointer (some b),.int .u64 130])) ..).trans ?_;simp only[partsE,Result.andThen];simp[ReflectliteValue.flagAddr,loadVar,isAgg,underlying,underlying80,hb,Result.andThen,zSj,storeVar,Value.cells,storeCells,Addr.add];rw[run_store prog W ta _ _ (by rfl)]
 simp[ht,hf]
def Laid(w:World):Prop:=w.cell? ⟨0,0,none⟩=some (.iface 213 (.agg #[.pointer (some ⟨1,25,none⟩)]))
theorem as_hit(k:Int)(t:Addr)(old:Value)(w:World)(hL:Laid w)(ht0:w.cell? t=some old)(hf0:w.frozen? t=false) :
  Calls prog 53 #[.iface 80 (.int .i64 k),.iface 124 (.pointer (some t))] w fun ev w'=>ev=.returned (.bool true)∧w'=((((w.alloc (.cells #[.pointer (some t)] 124)).alloc (.cells #[.pointer (some ⟨1,124,none⟩),.pointer (some ⟨w.heap.size,0,none⟩),.int .u64 150] 160)).alloc (.cells #[.pointer (some ⟨1,124,none⟩),.pointer (some ⟨w.heap.size,0,none⟩),.int .u64 150] 160)).alloc (.cells #[.int .i64 k] 80)).setCell t (.int .i64 k):=by
 have hg:w.cell? ⟨0,0,none⟩=some (.iface 213 (.agg #[.pointer (some ⟨1,25,none⟩)])):=hL;clear hL;have h1:=@run_callFunc_extern prog 82 _ (fun args=>ReflectliteValue.unpack (args.getD 0 (.tuple #[]))) func82 (by kernel_rfl) (by kernel_rfl) (by kernel_rfl) (by kernel_rfl)
 have h2:=@run_callFunc_extern prog 83 _ (ReflectliteValue.methodAny (ReflectliteValue.valueError "reflectlite.Value.Type" 0) (fun t _ _ _=>ReflectliteType.toType t)) func83 (by kernel_rfl) (by kernel_rfl) (by kernel_rfl) (by kernel_rfl)
 have h3:=@run_callFunc_extern prog 84 _ (ReflectliteValue.method (ReflectliteValue.valueError "reflectlite.Value.IsNil" 0) ReflectliteValue.isNil) func84 (by kernel_rfl) (by kernel_rfl) (by kernel_rfl) (by kernel_rfl)
 have h4:=@run_callFunc_extern prog 222 _ (ReflectliteType.abiMethod fun t=>do pure (.int .u8 (←Rtype.kind t))) func222 (by kernel_rfl) (by kernel_rfl) (by kernel_rfl) (by kernel_rfl)
 have h5:=@run_callFunc_extern prog 233 _ (ReflectliteType.method ReflectliteType.elem) func233 (by kernel_rfl) (by kernel_rfl) (by kernel_rfl) (by kernel_rfl)
 have h6:=@run_callFunc_extern prog 234 _ (ReflectliteType.relation "Implements" ReflectliteType.implements_) func234 (by kernel_rfl) (by kernel_rfl) (by kernel_rfl) (by kernel_rfl)
 have h7:=@run_callFunc_extern prog 127 _ ReflectliteType.typeOf func127 (by kernel_rfl) (by kernel_rfl) (by kernel_rfl) (by kernel_rfl)
 have h8:=@run_callFunc_extern prog 231 _ (ReflectliteType.relation "AssignableTo" ReflectliteType.assignableTo) func231 (by kernel_rfl) (by kernel_rfl) (by kernel_rfl) (by kernel_rfl)
 have h9:=@run_callFunc_extern prog 128 _ (ReflectliteValue.method (ReflectliteValue.valueError "reflectlite.Value.Elem" 0) ReflectliteValue.elem) func128 (by kernel_rfl) (by kernel_rfl) (by kernel_rfl) (by kernel_rfl)
 have M8:=@run_callFunc_extern prog 129 _ ReflectliteValue.set func129 (by kernel_rfl) (by kernel_rfl) (by kernel_rfl) (by kernel_rfl)
 have tO:=zSg;have mA:=zDj;have aE:=zIs;have vE:=zQh;have vP:=zQg;have tP:=typeP;have mK:=zKG;have mE:=zKH;have mI:=zDI;have kP:=kindP;have kE:=kindE;have eP:=elemP;have iE:=zIr;have n8:=isNilP ⟨w.heap.size,0,none⟩ t ((w.alloc (.cells #[.pointer (some t)] 124)).alloc (.cells #[.pointer (some ⟨1,124,none⟩),.pointer (some ⟨w.heap.size,0,none⟩),.int .u64 150] 160)) (by simp)
 have Hj:0<w.heap.size:=by
  rcases Nat.lt_or_ge 0 w.heap.size with h|h
  ·exact h
  ·simp[World.cell?,Array.getElem?_eq_none h] at hg
 have Gb:((w.alloc (.cells #[.pointer (some t)] 124)).alloc (.cells #[.pointer (some ⟨1,124,none⟩),.pointer (some ⟨w.heap.size,0,none⟩),.int .u64 150] 160)).cell? ⟨0,0,none⟩=some (.iface 213 (.agg #[.pointer (some ⟨1,25,none⟩)])):=by
  rw[World.cell?_alloc_lt _ _ ⟨0,0,none⟩ (by simp;try omega),World.cell?_alloc_lt _ _ ⟨0,0,none⟩ Hj];exact hg
 have gP:t.block<w.heap.size:=by
  rcases Nat.lt_or_ge t.block w.heap.size with h|h
  ·exact h
  ·simp[World.cell?,Array.getElem?_eq_none h] at ht0
 have el:=elemVP ⟨w.heap.size,0,none⟩ t (((w.alloc (.cells #[.pointer (some t)] 124)).alloc (.cells #[.pointer (some ⟨1,124,none⟩),.pointer (some ⟨w.heap.size,0,none⟩),.int .u64 150] 160)).alloc (.cells #[.pointer (some ⟨1,124,none⟩),.pointer (some ⟨w.heap.size,0,none⟩),.int .u64 150] 160)) (by rw[World.cell?_alloc_lt _ _ ⟨w.heap.size,0,none⟩ (by simp;omega)];simp)
 have st:=setE t ⟨w.heap.size+1+1+1,0,none⟩ k old ((((w.alloc (.cells #[.pointer (some t)] 124)).alloc (.cells #[.pointer (some ⟨1,124,none⟩),.pointer (some ⟨w.heap.size,0,none⟩),.int .u64 150] 160)).alloc (.cells #[.pointer (some ⟨1,124,none⟩),.pointer (some ⟨w.heap.size,0,none⟩),.int .u64 150] 160)).alloc (.cells #[.int .i64 k] 80))
  (by rw[World.cell?_alloc_at _ _ _ _ (by simp)];rfl)
  (by rw[World.cell?_alloc_lt _ _ t (by simp;omega),World.cell?_alloc_lt _ _ t (by simp;omega),World.cell?_alloc_lt _ _ t (by simp;omega),World.cell?_alloc_lt _ _ t gP];exact ht0)
  (by rw[World.frozen?_alloc_old _ _ t (by simp;omega),World.frozen?_alloc_old _ _ t (by simp;omega),World.frozen?_alloc_old _ _ t (by simp;omega),World.frozen?_alloc_old _ _ t (Nat.ne_of_lt gP)];exact hf0)
 go_enter func53,ntmps53
 go_wp2
 refine wp_loop_rounds 1 ?_;rw[rounds_succ]
 go_wp2
 go_ret;exact⟨rfl,rfl⟩
theorem Laid.size{w:World}(h:Laid w):0<w.heap.size:=by
 have hg:w.cell? ⟨0,0,none⟩=some (.iface 213 (.agg #[.pointer (some ⟨1,25,none⟩)])):=h;rcases Nat.lt_or_ge 0 w.heap.size with h|h
 ·exact h
 ·simp[World.cell?,Array.getElem?_eq_none h] at hg
theorem Laid.below{w w' : World}(h:Laid w)(hb:Bw w w'):Laid w':=
 (hb.cell (p:=⟨0,0,none⟩) h.size).trans h
theorem zQi(w:World):Calls prog 27 #[.nilIface] w fun e w'=>e=.returned (.int .i64 0)∧w'=w:=by
 go_enter func27,ntmps27
 go_wp2
 go_ret;exact⟨rfl,rfl⟩
theorem zKI(k:Int)(w:World)(hL:Laid w) :
  Calls prog 27 #[.iface 80 (.int .i64 k)] w fun e w'=>e=.returned (.int .i64 k)∧Bw w w':=by
 have hA:Laid (w.alloc (.cells #[.int .i64 0] 80)):=hL.below ((bzR _ _).alloc (nzR _) _);have htA:(w.alloc (.cells #[.int .i64 0] 80)).cell? ⟨w.heap.size,0,none⟩=some (.int .i64 0):=by simp
 have hfA:(w.alloc (.cells #[.int .i64 0] 80)).frozen? ⟨w.heap.size,0,none⟩=false:=by simp
 go_enter func27,ntmps27;go_wp2_with (go_at_call 53;refine(as_hit _ _ (.int .i64 0) _ hA htA hfA).mono ?_;rintro e w' ⟨rfl,rfl⟩)
 go_ret;refine⟨rfl,?_⟩
 repeat (first|exact bzR _ _|refine Below.alloc ?_ (by simp;try omega) _|refine Below.setCell ?_ (by simp;try omega) _)
def errV(k:Int):Value:=if k=0 then .nilIface else .iface 80 (.int .i64 k)
theorem wAa:errV 0=.nilIface:=rfl
theorem wAb{k:Int}(h:¬k=0):errV k=.iface 80 (.int .i64 k):=if_neg h
theorem zQj(k:Int)(w:World)(hL:Laid w) :
  Calls prog 27 #[errV k] w fun e w'=>e=.returned (.int .i64 k)∧Bw w w':=by
 by_cases h:k=0
 ·subst h;refine(zQi w).mono ?_;rintro e w'⟨rfl,rfl⟩;exact⟨rfl,bzR _ _⟩
 ·rw[wAb h];exact zKI k w hL
def Inv(B w:World):Prop:=Laid B∧Bw B w
theorem Inv.start{B:World}(h:Laid B):Inv B B:=⟨h,bzR _ _⟩
theorem Inv.laid{B w:World}(h:Inv B w):Laid w:=h.1.below h.2
theorem Inv.on{B w w' : World}(h:Inv B w)(hb:Bw w w'):Inv B w':=⟨h.1,h.2.trans (hb.mono h.2.size)⟩
end told
end Go.Proofs.YtmhcghgfpfainaaGreatDoor
