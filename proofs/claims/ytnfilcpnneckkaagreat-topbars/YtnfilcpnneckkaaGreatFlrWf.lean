import Derived.Test.YtnfilcpnneckkaaGreatFlrPart
set_option maxHeartbeats 2000000
set_option maxRecDepth 100000
namespace Go.Proofs.YtnfilcpnneckkaaGreat
open Go.Proofs.Tryz
namespace flr
open Go.RowKit
open que (R rchk)
open sid (L DL)
open mee (T tV)
open ord (O oV chk errV wAa wAb)
open bok (zAc zAg)
open wak (OwnM OwnQ St SL Lies oL idx wAK)
theorem zJW(id:Int)(B:Nat)(w:World)(hB:B<w.heap.size)(hc:w.cell? ⟨B,0,none⟩=some (.int .i64 id)) :
  PredBelow prog 126 #[.pointer (some ⟨B,0,none⟩)] (fun x=>.agg (oL x).toArray) (fun x=>decide (x.id=id)) w:=by
 intro W x hb;obtain⟨a,b,c,d,e,f,g,h⟩:=x;show Calls prog 126 #[.agg #[.int .i64 a,.int .i64 b,.int .i64 c,.int .i64 d,.int .i64 e,.int .i64 f,.int .i64 g,.int .i64 h],.pointer (some ⟨B,0,none⟩)] W _
 have mT:=spn.zAa hb hc;have hz:B<W.heap.size:=jC hB hb.size;go_enter func126,ntmps126
 go_wp2
 go_ret;exact⟨rfl,hb.alloc hb.size _⟩
theorem zPj(B:Nat)(W:World):Calls prog 133 #[.slice none 0 0,.func (.func 126) #[] #[.pointer (some ⟨B,0,none⟩)]] W fun e w'=>e=.returned (.int .i64 (-1))∧Bw W w':=by
 go_enter func133,ntmps133
 go_wp2
 go_loopg [5,8] 0 (fun _ _ s8 wr=>s8=.int .i64 0∧wr=W)
 case atStart=>exact⟨rfl,rfl⟩
 case round=>
  obtain⟨rfl,rfl⟩:=hrel
  go_wp2
  go_ret;exact⟨rfl,bzR _ _⟩
theorem zPk(id:Int)(v:Value)(zs:List O)(w:World)(B:Nat)(hB:B<w.heap.size)(hc:w.cell? ⟨B,0,none⟩=some (.int .i64 id))(h:SL w v zs) :
  Calls prog 133 #[v,.func (.func 126) #[] #[.pointer (some ⟨B,0,none⟩)]] w fun e w'=>e=.returned (.int .i64 (idx id zs))∧Bw w w':=by
 rcases h with ⟨rfl,rfl⟩|⟨b,o,c,rfl,h2,h3,h4,h5⟩
 ·exact zPj B w
 ·have eg:∀args w,(callFunc 126 args).run prog w=.ok (.enter 126 args) w:=enters_of func126 (by kernel_rfl) rfl
  have Hf:=AnyQ.slices_IndexFunc Tryz.lq6o 8 isAgg34 sizeOf34 oL (fun x=>rfl) (fun x=>decide (x.id=id)) 126 #[.pointer (some ⟨B,0,none⟩)] eg b o zs.length c zs
   w (zJW id B w hB hc) (nzR _) (by omega) h4 h5
  change Calls prog 133 _ _ _ at Hf
  rw[List.take_length,wAK] at Hf;exact Hf
theorem zPl(id:Int)(v:Value)(zs:List O)(w:World)(B:Nat)(hB:B<w.heap.size)(hc:w.cell? ⟨B,0,none⟩=some (.int .i64 id))(h:SL w v zs) :
  Calls prog 125 #[v,.func (.func 126) #[] #[.pointer (some ⟨B,0,none⟩)]] w fun e w'=>e=.returned (.bool (decide (0≤idx id zs)))∧Bw w w':=by
 have HC:=hidF (zPk id v zs w B hB hc h);obtain⟨q,c,rfl⟩:=SL.form h;generalize idx id zs=k at *;generalize zs.length=zn at *;clear h hc hB;go_enter func125,ntmps125;go_wp2_with fail;refine HC.out.mono ?_;rintro e w1⟨rfl,b1⟩;go_wp2_with fail;go_ret;exact⟨rfl,b1⟩
theorem zMw(id:Int)(v:Value)(zs:List O)(w:World)(h:SL w v zs) :
  Calls prog 87 #[v,.int .i64 id] w fun e w'=>e=.returned (.bool (decide (0≤idx id zs)))∧Bw w w':=by
 have hB:Bw w (w.alloc (.cells #[.int .i64 id] 3)):=(bzR _ _).alloc (nzR _) _;have HC:=hidF (zPl id v zs _ w.heap.size (by simp) (by simp[go_sem]) (h.below hB))
 obtain⟨q,c,rfl⟩:=SL.form h;generalize decide (0≤idx id zs)=k at *;generalize zs.length=zn at *;clear h;go_enter func87,ntmps87;go_wp2_with fail;refine HC.out.mono ?_;rintro e w1⟨rfl,b1⟩;go_wp2_with fail;go_ret;exact⟨rfl,hB.trans (b1.mono (by simp))⟩
theorem zFY{w:World}{s:TS}{q1 q2:Option Addr}{n1 n2 c1 c2:Nat}{id:Int}(h1:DL w 0 (.slice q1 n1 c1) s.bs)(h2:DL w 0 (.slice q2 n2 c2) s.ss)(h0:zAc s.bs s.ss=0)(hid:(Lit.int .i64 id).wf=true)(Hv:zAg s.bs s.ss id=false) :
  Calls prog 60 #[.agg #[.slice q1 n1 c1,.slice q2 n2 c2],.int .i64 id] w fun e w'=>e=.returned (.tuple #[.int .i64 0,.int .i64 0,.agg #[.int .i64 0,.int .i64 0,.int .i64 0,.int .i64 0,.int .i64 0],.iface 90 (.int .i64 5)])∧Bw w w':=by
 obtain⟨e1,e2,-⟩:=bok.zAh h0;have hn:¬id∈sid.ids s.bs∧¬id∈sid.ids s.ss:=by unfold zAg at Hv;simpa using Hv
 exact bok.zHL q1 q2 n1 n2 c1 c2 s.bs s.ss id hid w h1.ls h2.ls h0 (bok.zBh e1 hn.1) (bok.zBh e2 hn.2)
theorem zRl(b t:Nat)(s:TS)(v:TV)(id:Int)(w:World)(h:TM w b t s v)(hw:Wf s)(hid:(Lit.int .i64 id).wf=true) :
  Calls prog 55 #[.pointer (some ⟨t,0,none⟩),.int .i64 id] w fun e w'=>e=.returned (.bool (has s id))∧Bw w w':=by
 obtain⟨x0,x1,x2,x3,x4,x5,x6,x7,-⟩:=h.cells;have Ho:Hid (∀U,Bw w U→TM U b t s v):=fun U hU=>h.below hU
 have HWS:=hidF hw.ws;obtain⟨q1,n1,c1,q2,n2,c2,sp,vw,pp,qe,ne,ce,qk,nk,ck⟩:=v;simp only[] at x0 x1 x2 x3 x4 x5 x6 x7;cases Hv:zAg s.bs s.ss id with
 | true=>
  have hA:=wAs hw.book Hv;generalize spot s.bs s.ss id=x at hA;obtain⟨xs,xp,⟨r1,r2,r3,r4,r5⟩,xi,xk⟩:=x;have HF:=hidF (swp.zBQ q1 q2 n1 n2 c1 c2 s.bs s.ss id xs xp r1 r2 r3 r4 r5 xi xk w h.buys.ls h.sells.ls hA);have hx:has s id=true:=by unfold has;rw[Hv];rfl
  rw[hx];clear h hw hid hA hx Hv;go_enter func55,ntmps55;go_wp2_with fail;refine HF.out.mono ?_;rintro e w1⟨rfl,b1⟩;have HB:=hidF (b1.alloc b1.size (.cells #[.int .i64 r1,.int .i64 r2,.int .i64 r3,.int .i64 r4,.int .i64 r5] 51));clear b1 HF x0 x1 x2 x3 x4 x5 x6 x7;go_wp2_with fail;go_ret;exact⟨rfl,HB.out⟩
 | false=>
  have HF:=hidF (zFY h.buys h.sells hw.book hid Hv);have hx:has s id=decide (0≤idx id s.ws):=by unfold has;rw[Hv];rfl
  rw[hx];have cn:Hid (∀U,Bw w U→Calls prog 53 #[.pointer (some ⟨sp,0,none⟩)] U fun e w'=>∃q m c,e=.returned (.slice q m c)∧Hid (SL w' (.slice q m c) s.ws)∧Bw U w'):=fun U hU=>by
   refine(wak.wBe b sp vw s.ws U (Ho.out U hU).stops (by have:=HWS.out;omega)).mono ?_
   rintro e w'⟨q,c,rfl,k1,k2⟩;exact⟨q,_,c,rfl,k1.sl,k2⟩
  have Bp:=hidF (fun v U(hv:SL U v s.ws)=>zMw id v s.ws U hv)
  generalize decide (0≤idx id s.ws)=K at *;have Ma:Hid (∀U,Bw w U→U.cell? ⟨t,3,none⟩=some (.pointer (some ⟨sp,0,none⟩))):=fun U hU=>spn.zAa hU x3
  clear h hw hid hx Hv;go_enter func55,ntmps55;go_wp2_with fail;refine HF.out.mono ?_;rintro e w1⟨rfl,b1⟩;have HB:=hidF (b1.alloc b1.size (.cells #[.int .i64 0,.int .i64 0,.int .i64 0,.int .i64 0,.int .i64 0] 51));clear b1 HF x0 x1 x2 x3 x4 x5 x6 x7;go_upto_if 22 with fail
  generalize w1.alloc (.cells #[.int .i64 0,.int .i64 0,.int .i64 0,.int .i64 0,.int .i64 0] 51)=W2 at *;have x3:=Ma.out W2 HB.out;go_wp2_with fail;refine(cn.out _ HB.out).mono ?_;rintro e w3⟨q,m,c,rfl,HS,b3⟩;have HU:=hidF (HB.out.trans (b3.mono HB.out.size));clear b3 x3;go_wp2_with fail;refine(Bp.out _ _ HS.out).mono ?_;rintro e w4⟨rfl,b4⟩;have Gi:=hidF (HU.out.trans (b4.mono HU.out.size));clear b4;go_wp2_with fail;go_ret;exact⟨rfl,Gi.out⟩
end flr
namespace flr
open Go.RowKit
open que (R rchk)
open sid (L DL)
open mee (T tV)
open ord (O oV chk errV wAa wAb)
open bok (zAc zAg)
open wak (OwnM OwnQ St SL Lies oL idx Trn)
theorem TM.wait{w w' : World}{b t:Nat}{s:TS}{v:TV}(h:TM w b t s v){v' : Value}{ws:List O}(hs:St w' b v.sp v' ws)(ht:Trn w w' v.sp v.vw):TM w' b t { s with ws:=ws } { v with vw:=v' }∧Tn tB b w w':=by
 have hk:Kp [93,34] w w':=⟨ht.os,ht.tape,ht.output,ht.size,fun k cur ty hc hn=>by
  refine(ht.block k (gzE.1 hc).1 (fun e=>?_) (fun e=>?_)).trans hc
  ·subst e;have h1:=h.stops.blk;rw[hc] at h1;simp only[Option.some.injEq,Obj.cells.injEq] at h1;exact hn (by rw[h1.2.1];simp)
  ·rcases h.stops.own.2 with ⟨h1,_⟩|⟨g,off,cap,cur',h1,h2,h3,_⟩
   ·rw[h1] at e;cases e
   ·rw[h1] at e;simp only[Value.ownBlock,Option.some.injEq] at e;subst e;rw[hc] at h3;simp only[Option.some.injEq,Obj.cells.injEq] at h3;exact hn (by rw[h3.2.1];simp)⟩
 have hb:=ht.below h.stops;exact⟨⟨hk.typ _ _ _ h.blk (by decide),h.le,hk.dl h.buys (by decide) (by decide),hk.dl h.sells (by decide) (by decide),hs,hk.pu h.purs (by decide),h.ple,hk.own h.evs (by decide),hk.own h.row (by decide)⟩,hk.mono (by decide),hb.block⟩
theorem zPm(b t:Nat)(s:TS)(v:TV)(id:Int)(w:World)(h:TM w b t s v)(hw:Wf s)(hl:s.evs.length≤1000000)(Hv:zAg s.bs s.ss id=true)(uB:∀xs xi xk,xs=(spot s.bs s.ss id).s→xi=(spot s.bs s.ss id).i→xk=(spot s.bs s.ss id).k→zAc (swp.cB xs s.bs xi xk) (swp.cS xs s.ss xi xk)=0) :
  Calls prog 61 #[.pointer (some ⟨t,0,none⟩),.int .i64 id] w (Res tA b t w (leave s id)):=by
 obtain⟨x0,x1,x2,x3,x4,x5,x6,x7,-⟩:=h.cells;have Ho:Hid (∀U,Below w.heap.size w U→TM U b t s v∧Tn tA b w U):=fun U hU=>⟨h.below hU,Tn.below hU h.base⟩
 have hA:=wAs hw.book Hv;obtain⟨X,hX⟩:∃X,X=leave s id:=⟨_,rfl⟩;rw[←hX];unfold leave at hX;rw[if_pos Hv] at hX;generalize spot s.bs s.ss id=x at hA hX uB;obtain⟨xs,xp,⟨r1,r2,r3,r4,r5⟩,xi,xk⟩:=x;simp only[] at hX uB;have HX:=hidF hX;have Eq:=uB xs xi xk rfl rfl rfl;obtain⟨q1,n1,c1,q2,n2,c2,sp,vw,pp,qe,ne,ce,qk,nk,ck⟩:=v;simp only[] at x0 x1 x2 x3 x4 x5 x6 x7;have HF:=hidF (swp.zBQ q1 q2 n1 n2 c1 c2 s.bs s.ss id xs xp r1 r2 r3 r4 r5 xi xk w h.buys.ls h.sells.ls hA)
 have cx:Hid (∀U,Below w.heap.size w U→Calls prog 98 #[.agg #[.slice q1 n1 c1,.slice q2 n2 c2],.int .i64 id] U fun e w'=>∃u1 u2 m1 m2 d1 d2,e=.returned (.tuple #[.agg #[.slice u1 m1 d1,.slice u2 m2 d2],.agg #[.int .i64 r1,.int .i64 r2,.int .i64 r3,.int .i64 r4,.int .i64 r5],.nilIface])∧Hid (DL w' 0 (.slice u1 m1 d1) (swp.cB xs s.bs xi xk))∧Hid (DL w' 0 (.slice u2 m2 d2) (swp.cS xs s.ss xi xk))∧Below U.heap.size U w'):=fun U hU=>by
  obtain⟨k1,-⟩:=Ho.out U hU;refine(swp.zJO q1 q2 n1 n2 c1 c2 s.bs s.ss id xs xp r1 r2 r3 r4 r5 xi xk U k1.buys.ls k1.sells.ls hA).mono ?_;rintro e w'⟨u1,u2,m1,m2,d1,d2,rfl,k2,k3,k4⟩;exact⟨u1,u2,m1,m2,d1,d2,rfl,k2.mono (jL _),k3.mono (jL _),k4⟩
 have ml:Hid (∀U s' v',TM U b t s' v'→s' = { s with bs:=swp.cB xs s.bs xi xk,ss:=swp.cS xs s.ss xi xk }→Tn tA b w U→Calls prog 94 #[.pointer (some ⟨t,0,none⟩),.agg #[.int .i64 r1,.int .i64 r2,.int .i64 r3,.int .i64 r4,.int .i64 r5],.int .i64 xs,.int .i64 xp] U fun e w'=>∃E,e=.returned E∧Hid (Res tA b t w X (.returned E) w')):=fun U s' v' hU hs' hT=>by
  subst hs';refine(wAT b t _ v' r1 r2 r3 r4 r5 xs xp U hU ⟨hw.m0,hw.m3,Eq,hw.ok,hw.ws⟩ hA.rest hl).mono ?_;intro e w' hR;have hR' : Res tA b t w X e w':=zCL (hR.step hT (fun _ h=>h)) HX.out.symm
  rcases hR.two with ⟨_,_,_,rfl,_⟩|⟨_,_,_,rfl⟩
  ·exact⟨_,rfl,hR'⟩
  ·exact⟨_,rfl,hR'⟩
 clear h hw hA hX Hv hl uB Eq;go_enter func61,ntmps61;go_wp2_with fail;refine HF.out.mono ?_;rintro e w1⟨rfl,b1⟩;have gw:(w1.alloc (.cells #[.int .i64 r1,.int .i64 r2,.int .i64 r3,.int .i64 r4,.int .i64 r5] 51)).heap[w1.heap.size]?=some (.cells #[.int .i64 r1,.int .i64 r2,.int .i64 r3,.int .i64 r4,.int .i64 r5] 51 (0,0)):=jA w1 _;have Hg:=hidF (b1.alloc b1.size (.cells #[.int .i64 r1,.int .i64 r2,.int .i64 r3,.int .i64 r4,.int .i64 r5] 51));clear b1 HF x0 x1 x2 x3 x4 x5 x6 x7;go_upto_if 24 with fail
 generalize w1.alloc (.cells #[.int .i64 r1,.int .i64 r2,.int .i64 r3,.int .i64 r4,.int .i64 r5] 51)=W2 at *;generalize w1.heap.size=F at *;obtain⟨k1,-⟩:=Ho.out W2 Hg.out;obtain⟨-,x1,x2,-⟩:=k1.cells;simp only[] at x1 x2;clear k1;have Uk:=hidF gw;clear gw;go_wp2_with fail;refine(cx.out _ Hg.out).mono ?_;rintro e w3⟨u1,u2,m1,m2,d1,d2,rfl,uV,ut,b3⟩;obtain⟨W4,G4⟩:∃W4,W4=(w3.alloc (.cells #[.slice u1 m1 d1,.slice u2 m2 d2] 57)).alloc (.cells #[.int .i64 r1,.int .i64 r2,.int .i64 r3,.int .i64 r4,.int .i64 r5] 51):=⟨_,rfl⟩;have Gj:Below w3.heap.size w3 W4:=by rw[G4];exact((bzR _ _).alloc (nzR _) _).alloc (by simp) _
 have Cs:W4.heap[w3.heap.size]?=some (.cells #[.slice u1 m1 d1,.slice u2 m2 d2] 57 (0,0)):=by
  rw[G4,((bzR _ _).alloc (nzR _) _).block _ (by simp)];exact jA w3 _
 have CA:=b3.trans (Gj.mono b3.size);have M1:=hidF (zBL Uk.out CA);have Gi:=hidF (Hg.out.trans (CA.mono Hg.out.size));have UQ:=hidF (And.intro (uV.out.below Gj) (ut.out.below Gj));clear uV ut b3 Gj CA x1 x2 Uk Hg cx;go_upto_if 38 with fail
 rw[←G4];clear G4;generalize w3.heap.size=LB at *;obtain⟨l0,l1,-⟩:=sid.zAb Cs;obtain⟨k1,k2⟩:=Ho.out W4 Gi.out;obtain⟨-,y1,y2,-,-,-,-,-,yf⟩:=k1.cells;simp only[] at y1 y2;have yf1:=yf 1;have yf2:=yf 2;obtain⟨eQ,Cv⟩:=k1.book UQ.out.1 UQ.out.2;have PM:=hidF eQ;have Uz:=hidF (k2.trans Cv);have bu:=Cv.kp.typ _ _ _ M1.out (by decide)
 clear k1 k2 eQ Cv yf Cs Ho UQ Gi M1;have dd:=hidF bu;clear bu;go_upto_region 8 with fail
 generalize (W4.setCell ⟨t,1,none⟩ (.slice u1 m1 d1)).setCell ⟨t,2,none⟩ (.slice u2 m2 d2)=W5 at *;obtain⟨z0,z1,z2,z3,z4,-⟩:=sid.zAi dd.out;clear l0 l1 y1 y2 yf1 yf2;go_wp2_with fail;refine(ml.out _ _ _ PM.out rfl Uz.out).mono ?_;rintro e w6⟨E,rfl,HR⟩;clear z0 z1 z2 z3 z4;go_wp2_with fail;go_ret;exact HR.out
theorem Res.hid{S:List TypeId}{b t:Nat}{w w' : World}{x:Rs}{e:Ending}(h:Res S b t w x e w'):∃E,e=.returned E∧Hid (Res S b t w x (.returned E) w'):=by
 rcases h.two with ⟨_,_,_,rfl,_⟩|⟨_,_,_,rfl⟩
 ·exact⟨_,rfl,h⟩
 ·exact⟨_,rfl,h⟩
theorem zMx(b t:Nat)(s:TS)(v:TV)(id:Int)(w:World)(h:TM w b t s v)(hw:Wf s)(hid:(Lit.int .i64 id).wf=true)(Hv:zAg s.bs s.ss id=false) :
  Calls prog 61 #[.pointer (some ⟨t,0,none⟩),.int .i64 id] w (Res tA b t w (leave s id)):=by
 obtain⟨x0,x1,x2,x3,x4,x5,x6,x7,-⟩:=h.cells;have Ho:Hid (∀U,Bw w U→Tn tA b w U):=fun U hU=>Tn.below hU h.base
 obtain⟨X,hX⟩:∃X,X=leave s id:=⟨_,rfl⟩;rw[←hX];unfold leave at hX;rw[Hv] at hX;simp only[Bool.false_eq_true,if_false] at hX;obtain⟨q1,n1,c1,q2,n2,c2,sp,vw,pp,qe,ne,ce,qk,nk,ck⟩:=v;simp only[] at x0 x1 x2 x3 x4 x5 x6 x7;have HF:=hidF (zFY h.buys h.sells hw.book hid Hv);have HX:=hidF hX;clear h hw hid Hv hX;go_enter func61,ntmps61;go_wp2_with fail;refine HF.out.mono ?_;rintro e w1⟨rfl,b1⟩;have HB:=hidF (Ho.out _ (b1.alloc b1.size (.cells #[.int .i64 0,.int .i64 0,.int .i64 0,.int .i64 0,.int .i64 0] 51)));clear b1 HF x0 x1 x2 x3 x4 x5 x6 x7 Ho;go_wp2_with fail;go_ret;exact zAE HX.out (by decide) HB.out
theorem zHe(b t:Nat)(s:TS)(v:TV)(id:Int)(w:World)(h:TM w b t s v)(hw:Wf s)(hl:s.evs.length≤1000000)(hid:(Lit.int .i64 id).wf=true) :
  Calls prog 61 #[.pointer (some ⟨t,0,none⟩),.int .i64 id] w (Res tA b t w (leave s id)):=by
 cases Hv:zAg s.bs s.ss id with
 | false=>exact zMx b t s v id w h hw hid Hv
 | true=>
  refine zPm b t s v id w h hw hl Hv ?_;rintro xs xi xk rfl rfl rfl;exact zCh (wAs hw.book Hv)
theorem zPn{s s1:TS}{id:Int}(h:Wf s)(e:leave s id=.ok s1):Wf s1:=by
 unfold leave at e;split at e
 ·rename_i Hv
  have hb:=zCh (wAs h.book Hv);unfold part at e;generalize hg:zCk _ _ _ _=y at e;cases y with
  | error k=>cases e
  | ok s2=>
   cases e;have mf:Wf { s with bs:=swp.cB (spot s.bs s.ss id).s s.bs (spot s.bs s.ss id).i (spot s.bs s.ss id).k,ss:=swp.cS (spot s.bs s.ss id).s s.ss (spot s.bs s.ss id).i (spot s.bs s.ss id).k }:=⟨h.m0,h.m3,hb,h.ok,h.ws⟩
   have uC:=(zFV mf hg).1;exact⟨uC.m0,uC.m3,uC.book,uC.ok,uC.ws⟩
 ·cases e
theorem zMy(b t:Nat)(s:TS)(v:TV)(id:Int)(w:World)(h:TM w b t s v)(hw:Wf s)(hl:s.evs.length≤1000000)(hid:(Lit.int .i64 id).wf=true)(Hv:zAg s.bs s.ss id=true) :
  Calls prog 32 #[.pointer (some ⟨t,0,none⟩),.int .i64 id] w (Res tB b t w (cancel s id)):=by
 obtain⟨x0,x1,x2,x3,x4,x5,x6,x7,-⟩:=h.cells;obtain⟨X,hX⟩:∃X,X=cancel s id:=⟨_,rfl⟩;rw[←hX];unfold cancel at hX;rw[if_pos Hv] at hX;have GJ:Hid (∀U,Bw w U→Calls prog 61 #[.pointer (some ⟨t,0,none⟩),.int .i64 id] U fun e w'=>∃E,e=.returned E∧Hid (Res tB b t w X (.returned E) w')):=fun U hU=>by
  refine(zHe b t s v id U (h.below hU) hw hl hid).mono ?_;intro e w' hR;exact(zCL (hR.step (Tn.below (S:=tB) hU h.base) tA_tB) hX.symm).hid
 have hA:=wAs hw.book Hv;generalize spot s.bs s.ss id=x at hA;obtain⟨xs,xp,⟨r1,r2,r3,r4,r5⟩,xi,xk⟩:=x;obtain⟨q1,n1,c1,q2,n2,c2,sp,vw,pp,qe,ne,ce,qk,nk,ck⟩:=v;simp only[] at x0 x1 x2 x3 x4 x5 x6 x7;have HF:=hidF (swp.zBQ q1 q2 n1 n2 c1 c2 s.bs s.ss id xs xp r1 r2 r3 r4 r5 xi xk w h.buys.ls h.sells.ls hA);clear h hw hA hX Hv hl hid;go_enter func32,ntmps32;go_wp2_with fail;refine HF.out.mono ?_;rintro e w1⟨rfl,b1⟩;have HB:=hidF (b1.alloc b1.size (.cells #[.int .i64 r1,.int .i64 r2,.int .i64 r3,.int .i64 r4,.int .i64 r5] 51));clear b1 HF x0 x1 x2 x3 x4 x5 x6 x7;go_wp2_with fail;refine(GJ.out _ HB.out).mono ?_;rintro e w2⟨E,rfl,HR⟩;go_wp2_with fail;go_ret;exact HR.out
theorem zJX(b t:Nat)(s:TS)(v:TV)(id:Int)(w:World)(h:TM w b t s v)(hw:Wf s)(hl:s.evs.length≤1000000)(hid:(Lit.int .i64 id).wf=true)(Hv:zAg s.bs s.ss id=false) :
  Calls prog 32 #[.pointer (some ⟨t,0,none⟩),.int .i64 id] w (Res tB b t w (cancel s id)):=by
 obtain⟨x0,x1,x2,x3,x4,x5,x6,x7,-⟩:=h.cells;have Ma:Hid (∀U,Bw w U→U.cell? ⟨t,3,none⟩=some (.pointer (some ⟨v.sp,0,none⟩))):=fun U hU=>(h.below hU).cells.2.2.2.1
 obtain⟨X,hX⟩:∃X,X=cancel s id:=⟨_,rfl⟩;rw[←hX];unfold cancel at hX;rw[Hv] at hX;simp only[Bool.false_eq_true,if_false] at hX;have HF:=hidF (zFY h.buys h.sells hw.book hid Hv);by_cases hi:idx id s.ws<0
 ·rw[if_pos hi] at hX;have HX:=hidF hX;have mi:Hid (∀U,Bw w U→Calls prog 62 #[.pointer (some ⟨v.sp,0,none⟩),.int .i64 id] U fun e w'=>e=.returned (.tuple #[.agg #[.int .i64 0,.int .i64 0,.int .i64 0,.int .i64 0,.int .i64 0,.int .i64 0,.int .i64 0,.int .i64 0],.iface 90 (.int .i64 5)])∧Hid (Tn tB b w (w'.alloc (.cells #[.int .i64 0,.int .i64 0,.int .i64 0,.int .i64 0,.int .i64 0,.int .i64 0,.int .i64 0,.int .i64 0] 34)))):=fun U hU=>by
   refine(wak.zMg id b v.sp v.vw s.ws U (h.below hU).stops hi).mono ?_;rintro e w'⟨rfl,k1⟩;have k2:=hU.trans (k1.mono hU.size);exact⟨rfl,Tn.below (k2.alloc k2.size _) h.base⟩
  obtain⟨q1,n1,c1,q2,n2,c2,sp,vw,pp,qe,ne,ce,qk,nk,ck⟩:=v;simp only[] at x0 x1 x2 x3 x4 x5 x6 x7;clear h hw hX Hv hl hid hi;go_enter func32,ntmps32;go_wp2_with fail;refine HF.out.mono ?_;rintro e w1⟨rfl,b1⟩;have HB:=hidF (b1.alloc b1.size (.cells #[.int .i64 0,.int .i64 0,.int .i64 0,.int .i64 0,.int .i64 0] 51));clear b1 HF x0 x1 x2 x3 x4 x5 x6 x7;go_upto_if 24 with fail
  generalize w1.alloc (.cells #[.int .i64 0,.int .i64 0,.int .i64 0,.int .i64 0,.int .i64 0] 51)=W2 at *;have x3:=Ma.out W2 HB.out;go_wp2_with fail;refine(mi.out _ HB.out).mono ?_;rintro e w3⟨rfl,HT⟩;clear x3;go_wp2_with fail;go_ret;exact zAE HX.out (by decide) HT.out
 ·rw[if_neg hi] at hX;obtain⟨i,hI⟩:∃i:Nat,idx id s.ws=(i:Int):=⟨(idx id s.ws).toNat,by omega⟩
  have Hi:=wak.wBj id s.ws;rw[hI] at hX Hi;have MM:i<s.ws.length:=by omega
  simp only[Int.toNat_natCast] at hX;have hd:drop1 s.ws id=s.ws.take i++s.ws.drop (i+1):=by unfold drop1;rw[hI];rfl
  rw[hd] at hX;generalize ho:s.ws[i]! = o at *;obtain⟨a1,a2,a3,a4,a5,a6,a7,a8⟩:=o;have HX:=hidF hX;have HW:=hidF hw;have HL:=hidF hl;have mi:Hid (∀U,Bw w U→Calls prog 62 #[.pointer (some ⟨v.sp,0,none⟩),.int .i64 id] U fun e w'=>e=.returned (.tuple #[.agg #[.int .i64 a1,.int .i64 a2,.int .i64 a3,.int .i64 a4,.int .i64 a5,.int .i64 a6,.int .i64 a7,.int .i64 a8],.nilIface])∧Hid (∃v1,TM w' b t { s with ws:=s.ws.take i++s.ws.drop (i+1) } v1)∧Hid (Tn tB b w w')):=fun U hU=>by
   have hM:=h.below hU;have hs:=hM.stops;have Mg:∃g off c,v.vw=.slice (some ⟨g,off,none⟩) s.ws.length c:=by
    rcases hs.own.2 with ⟨_,hn⟩|⟨g,off,cap,cur,h1,_⟩
    ·omega
    ·exact⟨g,off,cap,h1⟩
   obtain⟨g,off,c,hv⟩:=Mg;rw[hv] at hs;refine(wak.zMh id i b v.sp g off _ c a1 a2 a3 a4 a5 a6 a7 a8 s.ws U rfl hs MM hI ho (by have:=HW.out.ws;omega)).mono ?_
   rintro e w'⟨rfl,v',k1,k2,-⟩;rw[←hv] at k2;obtain⟨k3,k4⟩:=hM.wait k1 k2;exact⟨rfl,⟨_,k3⟩,(Tn.below hU h.base).trans k4⟩
  have eh:Hid (∀U v1,TM U b t { s with ws:=s.ws.take i++s.ws.drop (i+1) } v1→Tn tB b w U→Calls prog 63 #[.pointer (some ⟨t,0,none⟩),.agg #[.int .i64 a1,.int .i64 a2,.int .i64 a3,.int .i64 a4,.int .i64 a5,.int .i64 a6,.int .i64 a7,.int .i64 a8]] U fun e w'=>∃E,e=.returned E∧Hid (Res tB b t w X (.returned E) w')):=fun U v1 hU hT=>by
   refine(zFn b t _ v1 a1 a2 a3 a4 a5 a6 a7 a8 U hU ⟨HW.out.m0,HW.out.m3,HW.out.book,HW.out.ok,?_⟩ HL.out).mono ?_
   ·have:=HW.out.ws;simp only[jE,jJ,jQ];omega
   ·intro e w' hR;exact(zCL (hR.step hT tA_tB) HX.out.symm).hid
  obtain⟨q1,n1,c1,q2,n2,c2,sp,vw,pp,qe,ne,ce,qk,nk,ck⟩:=v;simp only[] at x0 x1 x2 x3 x4 x5 x6 x7;clear h hw hX Hv hl hid hi hI Hi MM hd ho;go_enter func32,ntmps32;go_wp2_with fail;refine HF.out.mono ?_;rintro e w1⟨rfl,b1⟩;have HB:=hidF (b1.alloc b1.size (.cells #[.int .i64 0,.int .i64 0,.int .i64 0,.int .i64 0,.int .i64 0] 51));clear b1 HF x0 x1 x2 x3 x4 x5 x6 x7;go_upto_if 24 with fail
  generalize w1.alloc (.cells #[.int .i64 0,.int .i64 0,.int .i64 0,.int .i64 0,.int .i64 0] 51)=W2 at *;have x3:=Ma.out W2 HB.out;go_wp2_with fail;refine(mi.out _ HB.out).mono ?_;rintro e w3⟨rfl,Mv,GZ⟩;have Gj:Bw w3 (w3.alloc (.cells #[.int .i64 a1,.int .i64 a2,.int .i64 a3,.int .i64 a4,.int .i64 a5,.int .i64 a6,.int .i64 a7,.int .i64 a8] 34)):=(bzR _ _).alloc (nzR _) _;obtain⟨v1,U5⟩:=Mv.out;have HM4:=hidF (U5.below Gj);have uZ:=hidF (GZ.out.trans (Tn.below (S:=tB) Gj U5.base));clear x3 U5 Mv GZ Gj;go_wp2_with fail;refine(eh.out _ _ HM4.out uZ.out).mono ?_;rintro e w5⟨E,rfl,HR⟩;go_wp2_with fail;go_ret;exact HR.out
theorem zJY(b t:Nat)(s:TS)(v:TV)(id:Int)(w:World)(h:TM w b t s v)(hw:Wf s)(hl:s.evs.length≤1000000)(hid:(Lit.int .i64 id).wf=true) :
  Calls prog 32 #[.pointer (some ⟨t,0,none⟩),.int .i64 id] w (Res tB b t w (cancel s id)):=by
 cases Hv:zAg s.bs s.ss id with
 | false=>exact zJX b t s v id w h hw hl hid Hv
 | true=>exact zMy b t s v id w h hw hl hid Hv
theorem zMz(b t:Nat)(s:TS)(v:TV)(a1 a2 a3 a4 a5 a6 a7 a8:Int)(w:World)(h:TM w b t s v)(hw:Wf s)(hl:s.evs.length≤1000000) :
  Calls prog 57 #[.pointer (some ⟨t,0,none⟩),.agg #[.int .i64 a1,.int .i64 a2,.int .i64 a3,.int .i64 a4,.int .i64 a5,.int .i64 a6,.int .i64 a7,.int .i64 a8]] w (Res tB b t w (sleep s ⟨a1,a2,a3,a4,a5,a6,a7,a8⟩)):=by
 obtain⟨W,hW⟩:∃W,W=w.alloc (.cells #[.int .i64 a1,.int .i64 a2,.int .i64 a3,.int .i64 a4,.int .i64 a5,.int .i64 a6,.int .i64 a7,.int .i64 a8] 34):=⟨_,rfl⟩;have Hj:Below w.heap.size w W:=by rw[hW];exact(bzR _ _).alloc (nzR _) _
 have Hd:W.heap[w.heap.size]?=some (.cells #[.int .i64 a1,.int .i64 a2,.int .i64 a3,.int .i64 a4,.int .i64 a5,.int .i64 a6,.int .i64 a7,.int .i64 a8] 34 (0,0)):=by rw[hW];exact jA w _
 obtain⟨X,hX⟩:∃X,X=sleep s ⟨a1,a2,a3,a4,a5,a6,a7,a8⟩:=⟨_,rfl⟩;rw[←hX];unfold sleep at hX;have hGl:w.heap.size<W.heap.size:=(gzE.1 Hd).1;obtain⟨G,hG⟩:∃G,G=w.heap.size:=⟨_,rfl⟩;have hGW:G<W.heap.size:=by rw[hG];exact hGl
 rw[←hG] at Hd;have cR:Hid (∀U,Below W.heap.size W U→Calls prog 89 #[.pointer (some ⟨v.sp,0,none⟩),.agg #[.int .i64 a1,.int .i64 a2,.int .i64 a3,.int .i64 a4,.int .i64 a5,.int .i64 a6,.int .i64 a7,.int .i64 a8]] U fun e w'=>∃E,e=.returned E∧Hid ((E=.nilIface∧Hid (∃s1 v1,TM w' b t s1 v1∧s1.evs=s.evs∧X=.ok (tell s1 5 a1 a6 a8))∧Hid (Tn tB b w w')∧w'.heap[G]?=some (.cells #[.int .i64 a1,.int .i64 a2,.int .i64 a3,.int .i64 a4,.int .i64 a5,.int .i64 a6,.int .i64 a7,.int .i64 a8] 34 (0,0)))∨∃k,E=.iface 90 (.int .i64 k)∧Hid (Res tB b t w X (.returned (.iface 90 (.int .i64 k))) w'))):=fun U hU=>by
  have GU:=Hj.trans (hU.mono Hj.size);have hM:=h.below GU;refine(wak.zQX ⟨a1,a2,a3,a4,a5,a6,a7,a8⟩ b v.sp v.vw s.ws U hM.stops hw.ws).mono ?_;rintro e w'⟨rfl,v',k1,k2,-⟩;obtain⟨k3,k4⟩:=hM.wait k1 k2;have k5:=(Tn.below (S:=tB) GU h.base).trans k4;refine⟨_,rfl,?_⟩;show _∨_
  by_cases hE:wak.putE s.ws ⟨a1,a2,a3,a4,a5,a6,a7,a8⟩=0
  ·left;rw[if_pos hE] at hX;refine⟨by rw[hE];rfl,⟨_,_,k3,rfl,?_⟩,k5,?_⟩
   ·rw[hX];unfold wak.putL;rw[if_pos hE]
   ·refine(k2.block G (by have:=hU.size;omega) (fun e=>?_) (fun e=>?_)).trans ((hU.block G hGW).trans Hd)
    ·have h1:=h.stops.lt;omega
    ·rcases h.stops.own.2 with ⟨h1,_⟩|⟨g,off,cap,cur',h1,h2,h3,_⟩
     ·rw[h1] at e;cases e
     ·rw[h1] at e;simp only[Value.ownBlock,Option.some.injEq] at e;have:=(gzE.1 h3).1;omega
  ·right;rw[if_neg hE] at hX;refine⟨_,wAb hE,?_⟩;show Res _ _ _ _ _ _ _
   exact zAE hX hE k5
 have Ma:Hid (W.cell? ⟨t,3,none⟩=some (.pointer (some ⟨v.sp,0,none⟩))):=(h.below Hj).cells.2.2.2.1;obtain⟨c0,c1,c2,c3,c4,c5,c6,c7,-⟩:=wak.row8 Hd;have HL:=hidF hl;have Gc:=hidF (bzR W.heap.size W);obtain⟨q1,n1,c1',q2,n2,c2',sp,vw,pp,qe,ne,ce,qk,nk,ck⟩:=v;have x3:=Ma.out;simp only[] at x3;clear h hw hl Hj Hd hX hGl hGW Ma;go_enter func57,ntmps57;go_upto_region 1 with fail
 rw[←hW];simp only[←hG];clear hW hG
 go_region_with (go_at_call 89;with_reducible refine(cR.out _ ?_).mono ?_;(with_reducible repeat' (first|exact Gc.out|assumption|refine Below.drew ?_));rintro x w2 ⟨E,rfl,uP⟩)
 all_goals
  rcases uP.out with ⟨rfl,HM,HT,h6⟩|⟨k,rfl,HR⟩
  rotate_left
  ·clear uP;go_wp2_with fail;go_ret;exact HR.out
  ·(clear uP
    obtain⟨s1,v1,hM,Hl,gM⟩:=HM.out;have G0:=hidF (zDh (w0:=w) (x:=X) (S:=tB) 5 a1 a6 a8 hM HT.out tA_tB (by rw[Hl];exact HL.out) gM)
    clear c0 c1 c2 c3 c4 c5 c6 c7 x3 hM Hl gM;obtain⟨c0,c1,c2,c3,c4,c5,c6,c7,-⟩:=wak.row8 h6;clear h6;go_wp2_with fail;refine G0.out.mono ?_;rintro x w3⟨rfl,HR⟩;clear c0 c1 c2 c3 c4 c5 c6 c7;go_wp2_with fail;go_ret;exact HR.out)
end flr
namespace flr
open Go.RowKit
open que (R rchk)
open sid (L DL LS allR)
open mee (T tV OwnT sumT zAr zAw)
open ord (O oV chk errV wAa wAb prB)
open bok (zAc zAg)
open slf (V Fine)
structure Sm (s s1:TS) (k:Nat):Prop where
 mode:s1.mode=s.mode
 last:s1.last=s.last
 bs:s1.bs=s.bs
 ss:s1.ss=s.ss
 ws:s1.ws=s.ws
 row:s1.row=s.row
 evs:s1.evs.length=s.evs.length+k
theorem Sm.refl(s:TS):Sm s s 0:=⟨rfl,rfl,rfl,rfl,rfl,rfl,rfl⟩
theorem Sm.trans{a b c:TS}{i j:Nat}(h:Sm a b i)(k:Sm b c j):Sm a c (i+j):=
 ⟨k.mode.trans h.mode,k.last.trans h.last,k.bs.trans h.bs,k.ss.trans h.ss,k.ws.trans h.ws,k.row.trans h.row,by rw[k.evs,h.evs];omega⟩
theorem zAk{x:Rs}{f:TS→Rs}{s:TS}(h:x.bind f=.ok s):∃s1,x=.ok s1∧f s1=.ok s:=by
 cases x with
 | error k=>cases h
 | ok s1=>exact⟨s1,rfl,h⟩
theorem zMA{s s1:TS}{x:T}(h:Wf s)(e:trade1 s x=.ok s1):Wf s1∧Sm s s1 1:=by
 unfold trade1 at e;split at e
 ·cases e;exact⟨⟨h.m0,h.m3,h.book,pur.zIM h.ok _ _ _ _,h.ws⟩,rfl,rfl,rfl,rfl,rfl,rfl,by simp⟩
 ·cases e
theorem zEw:∀ (ts:List T) {s s1:TS},Wf s→trades s ts=.ok s1→Wf s1∧Sm s s1 ts.length
 | [],s,s1,h,e=>by cases e;exact⟨h,Sm.refl _⟩
 | x::t,s,s1,h,e=>by
  obtain⟨s2,e1,e2⟩:=zAk e;obtain⟨h1,k1⟩:=zMA h e1;obtain⟨h2,k2⟩:=zEw t h1 e2;refine⟨h2,?_⟩;have:=k1.trans k2;rw[Nat.add_comm] at this;exact this
theorem zHV{s s1:TS}{who c d:Int}(h:Wf s)(e:zBY s who c d=.ok s1):Wf s1∧Sm s s1 0:=by
 obtain⟨h1,rfl⟩:=wBa h e;exact⟨h1,rfl,rfl,rfl,rfl,rfl,rfl,rfl⟩
theorem zMB{s s1:TS}{who c d:Int}(h:Wf s)(e:zDz s who c d=.ok s1):Wf s1∧Sm s s1 0:=by
 obtain⟨h1,rfl⟩:=wBb h e;exact⟨h1,rfl,rfl,rfl,rfl,rfl,rfl,rfl⟩
theorem zEx{s:TS}(h:Wf s)(a b c d:Int):Wf (tell s a b c d):=⟨h.m0,h.m3,h.book,h.ok,h.ws⟩
theorem zMC(s:TS)(a b c d:Int):Sm s (tell s a b c d) 1:=⟨rfl,rfl,rfl,rfl,rfl,rfl,by simp[tell]⟩
theorem zFZ{s s1:TS}{r:R}{a p:Int}(h:Wf s)(e:zCk s r a p=.ok s1):Wf s1∧Sm s s1 0:=by
 obtain⟨h1,-,rfl⟩:=zFV h e;exact⟨h1,rfl,rfl,rfl,rfl,rfl,rfl,rfl⟩
theorem zGa{s s1:TS}{r:R}{a p:Int}(h:Wf s)(e:part s r a p=.ok s1):Wf s1∧Sm s s1 1:=by
 obtain⟨s2,e1,e2⟩:=zAk e;obtain⟨h1,k1⟩:=zFZ h e1;cases e2;exact⟨zEx h1 _ _ _ _,k1.trans (zMC _ _ _ _ _)⟩
theorem zMD{s s1:TS}{id:Int}(h:Wf s)(e:zDE s id=.ok s1):Wf s1∧Sm s s1 1:=by
 unfold zDE at e;split at e
 ·exact zGa h e
 ·cases e
theorem zIP:∀ (l:List Int) {s s1:TS},Wf s→parts s l=.ok s1→Wf s1∧Sm s s1 l.length
 | [],s,s1,h,e=>by cases e;exact⟨h,Sm.refl _⟩
 | x::t,s,s1,h,e=>by
  obtain⟨s2,e1,e2⟩:=zAk e;obtain⟨h1,k1⟩:=zMD h e1;obtain⟨h2,k2⟩:=zIP t h1 e2;refine⟨h2,?_⟩;have:=k1.trans k2;rw[Nat.add_comm] at this;exact this
theorem zRm{m:Int}{o:O}{ls:List L}{k:Int}{v:V}(h:Fil m o ls k v):(∀l∈ls,sid.lchk l=0)→0≤k→∀i∈v.ids,i∈(allR ls).map (·.id):=by
 induction h with
 | done=>exact fun _ _ i hi=>by cases hi
 | stop=>exact fun _ _ i hi=>by cases hi
 | taker=>exact fun _ _ i hi=>by cases hi
 | @maker p r rs t k v _ _ _ _ ih=>
  intro hl h0 i hi;rcases List.mem_cons.1 hi with rfl|hi
  ·rw[sid.zAp];simp
  ·exact(slf.zDc hl).ids i (ih (slf.zAR hl) h0 i hi)
 | @both p r rs t k _ _ _=>
  intro hl h0 i hi;rcases List.mem_cons.1 hi with rfl|hi
  ·rw[sid.zAp];simp
  ·cases hi
 | @fill p r rs t k v h0 hb _ _ ih=>
  intro hl _ i hi;obtain⟨-,-,hq⟩:=sid.zAf (hl _ (List.mem_cons_self ..));have hr:=mee.zBi hq;exact(zEu (o:=o) h0 hb hl).ids i (ih (mee.zBj h0 hl) (by omega) i hi)
theorem zRn{m:Int}{bs ss:List L}{o:O}(h0:0≤m)(h3:m≤3)(h:vE m bs ss o=0):∀i∈(vR m bs ss o).ids,zAg bs ss i=true:=by
 obtain⟨v,hv⟩:=zHc h0 h3 h;obtain⟨uB,gI,-⟩:=mee.zAG hv.come;have hq:=(mrg.zCy gI).2.2.1;intro i hi;rw[hv.is] at hi;have h1:=zRm hv.fil (wAp hv.come) (by omega) i hi
 have h2:i∈sid.ids (zAr bs ss o):=by rw[sid.zBf];exact h1
 unfold bok.zAg;unfold mee.zAr at h2;split at h2
 ·simp[h2]
 ·simp[h2]
end flr
namespace flr
open Go.RowKit
open que (R rchk)
open sid (L DL LS allR)
open mee (T tV OwnT sumT zAr zAw)
open ord (O oV chk errV wAa wAb prB)
open bok (zAc zAg)
structure Gr (s s1:TS) (k n:Nat):Prop where
 wf:Wf s1
 mode:s1.mode=s.mode
 row:s1.row.length+s1.ws.length≤s.row.length+s.ws.length+k
 evs:s1.evs.length≤s.evs.length+n
theorem Gr.trans{a b c:TS}{i j k l:Nat}(h:Gr a b i j)(g:Gr b c k l):Gr a c (i+k) (j+l):=⟨g.wf,g.mode.trans h.mode,by have:=h.row;have:=g.row;omega,by have:=h.evs;have:=g.evs;omega⟩
theorem Gr.mono{a b:TS}{i j k l:Nat}(h:Gr a b i j)(h1:i≤k)(h2:j≤l):Gr a b k l:=⟨h.wf,h.mode,by have:=h.row;omega,by have:=h.evs;omega⟩
theorem Sm.gr{a b:TS}{k:Nat}(h:Sm a b k)(hw:Wf b):Gr a b 0 k:=⟨hw,h.mode,by rw[h.row,h.ws];omega,by rw[h.evs];omega⟩
theorem zEy{s:TS}(h:Wf s)(a b c d:Int):Gr s (tell s a b c d) 0 1:=(zMC s a b c d).gr (zEx h _ _ _ _)
theorem zHW{s:TS}{o:O}{v:Vs}(h:Wf s):Gr s (zAv s o v) 0 2:=by
 have h1:Gr s (zAA s o v) 0 1:=by
  unfold zAA;split
  ·exact zEy h _ _ _ _
  ·exact⟨h,rfl,by omega,by omega⟩
 unfold zAv;split
 ·exact h1.trans (zEy h1.wf _ _ _ _)
 ·exact h1.mono (by omega) (by omega)
theorem zPo{s s1:TS}{ts:List T}(h:Wf s)(e:zCQ s ts=.ok s1):Gr s s1 0 0:=by
 unfold zCQ at e;split at e
 ·cases e;exact⟨h,rfl,by omega,by omega⟩
 ·split at e
  ·cases e;have h1:=wak.zIJ (ts[ts.length - 1]!).price s.ws;have h2:=h.ws;exact⟨⟨h.m0,h.m3,h.book,h.ok,by show (wak.left _ _).length≤20;omega⟩,rfl,by show (s.row++_).length+(wak.left _ _).length≤_;rw[jE,jP];omega,by show s.evs.length≤s.evs.length+0;omega⟩
  ·cases e
theorem zEz{s s1:TS}{o:O}{v:Vs}(h:Wf s)(hv:VO o v)(e:settle s o v=.ok s1):Gr s s1 0 480:=by
 obtain⟨s2,e1,e⟩:=zAk e;obtain⟨h2,k2⟩:=zEw v.ts h e1;split at e
 ·obtain⟨s3,e3,e⟩:=zAk e;obtain⟨h3,k3⟩:=zHV h2 e3;obtain⟨s4,e4,e⟩:=zAk e;obtain⟨h4,k4⟩:=zIP v.ids h3 e4;have h5:Wf { s4 with bs:=v.bs,ss:=v.ss }:=⟨h4.m0,h4.m3,hv.book,h4.ok,h4.ws⟩
  have g1:=((k2.trans k3).trans k4).gr h4;have g2:Gr s4 { s4 with bs:=v.bs,ss:=v.ss } 0 0:=⟨h5,rfl,by simp,by simp⟩
  have g3:=(g1.trans g2).trans (zHW (o:=o) (v:=v) h5);have g4:=g3.trans (zPo g3.wf e);have:=hv.len;have:=hv.ids;exact g4.mono (by omega) (by omega)
 ·cases e
theorem zEA{s s1:TS}{o:O}(h:Wf s)(e:vanish s o=.ok s1):Gr s s1 0 1:=by
 unfold vanish at e;split at e
 ·obtain⟨s2,e1,e⟩:=zAk e;obtain⟨h2,k2⟩:=zHV h e1;cases e;exact(k2.gr h2).trans (zEy h2 _ _ _ _)
 ·cases e
theorem zGb{s s1:TS}{o:O}(h:Wf s)(e:rise s o=.ok s1):Gr s s1 0 480:=by
 unfold rise at e;split at e
 ·rename_i h0;exact zEz h (zIO h.m0 h.m3 h0) e
 ·exact(zEA h e).mono (nzR _) (by omega)
theorem zRo{s s1:TS}{o:O}(h:Wf s)(e:come s o=.ok s1):Gr s s1 0 480:=by
 unfold come at e;split at e
 ·rename_i h0;exact zEz h (zIO h.m0 h.m3 h0) e
 ·cases e
theorem zRp{ws:List O}{o:O}(h:wak.putE ws o=0)(hl:ws.length≤20):ws.length<20:=by
 unfold wak.putE at h;by_cases h1:ws.length=20
 ·exfalso;rw[h1] at h;split at h
  ·split at h
   ·omega
   ·split at h
    ·omega
    ·simp at h
  ·rename_i hh;exact hh h
 ·omega
theorem zPp{s s1:TS}{o:O}(h:Wf s)(e:sleep s o=.ok s1):Gr s s1 1 1:=by
 unfold sleep at e;split at e
 ·rename_i h0
  cases e;have:=zRp h0 h.ws;have hw:Wf { s with ws:=s.ws++[o] }:=⟨h.m0,h.m3,h.book,h.ok,by simp;omega⟩
  exact Gr.trans (a:=s) (b:={ s with ws:=s.ws++[o] }) (i:=1) (j:=0) ⟨hw,rfl,by show s.row.length+(s.ws++[o]).length≤s.row.length+s.ws.length+1;simp;omega,by show s.evs.length≤s.evs.length+0;omega⟩ (zEy hw _ _ _ _)
 ·cases e
theorem zGc{s s1:TS}{o:O}(h:Wf s)(e:place s o=.ok s1):Gr s s1 1 481:=by
 unfold place at e;split at e
 ·split at e
  ·cases e
  ·obtain⟨s2,e1,e⟩:=zAk e;obtain⟨h2,k2⟩:=zMB h e1;split at e
   ·exact((k2.gr h2).trans (zRo h2 e)).mono (by omega) (by omega)
   ·exact((k2.gr h2).trans (zPp h2 e)).mono (by omega) (by omega)
 ·cases e
theorem zDi{s s1:TS}{id:Int}(h:Wf s)(e:leave s id=.ok s1):Gr s s1 0 1:=by
 have hw:=zPn h e;unfold leave at e;split at e
 ·rename_i Hv
  have hb:=zCh (wAs h.book Hv);have mf:Wf { s with bs:=swp.cB (spot s.bs s.ss id).s s.bs (spot s.bs s.ss id).i (spot s.bs s.ss id).k,ss:=swp.cS (spot s.bs s.ss id).s s.ss (spot s.bs s.ss id).i (spot s.bs s.ss id).k }:=⟨h.m0,h.m3,hb,h.ok,h.ws⟩
  obtain⟨-,k⟩:=zGa mf e;exact⟨hw,k.mode,by rw[k.row,k.ws];exact nzR _,by rw[k.evs];exact nzR _⟩
 ·cases e
theorem zME{s s1:TS}{id:Int}(h:Wf s)(e:cancel s id=.ok s1):Gr s s1 0 1:=by
 unfold cancel at e;split at e
 ·exact zDi h e
 ·split at e
  ·cases e
  ·have hl:(drop1 s.ws id).length≤s.ws.length:=by unfold drop1;simp only[jE,jJ,jQ];omega
   have hw:Wf { s with ws:=drop1 s.ws id }:=⟨h.m0,h.m3,h.book,h.ok,by have:=h.ws;show (drop1 s.ws id).length≤20;omega⟩
   exact(Gr.trans (a:=s) (b:={ s with ws:=drop1 s.ws id }) (i:=0) (j:=0) ⟨hw,rfl,by show s.row.length+(drop1 s.ws id).length≤s.row.length+s.ws.length+0;omega,by show s.evs.length≤s.evs.length+0;omega⟩ (zEA hw e)).mono (by omega) (by omega)
theorem zMF{s s1:TS}{id price qty:Int}(h:Wf s)(Hv:zAg s.bs s.ss id=true)(hk:swp.zDt (spot s.bs s.ss id).p (spot s.bs s.ss id).r price qty=true)(e:shrink s id price qty=.ok s1):Gr s s1 0 1:=by
 have hA:=wAs h.book Hv;unfold shrink at e;simp only[] at e;generalize spot s.bs s.ss id=x at *;split at e
 ·rename_i hq
  obtain⟨s2,e1,e⟩:=zAk e;have g1:Wf s2∧Sm s s2 0:=by
   split at e1
   ·exact zFZ h e1
   ·cases e1;exact⟨h,Sm.refl _⟩
  cases e;have Gh:qty≤x.r.qty+x.r.hid:=by
   unfold swp.zDt at hk;simp only[Bool.and_eq_true,decide_eq_true_eq] at hk;exact hk.2
  have hb:=(hA.keep (r':=swp.zAI x.r qty) (by exact hA.id) (swp.zLV hA.rest hq.1 Gh)).book
  have hw:Wf { s2 with bs:=swp.kB x.s s.bs x.i x.k (swp.zAI x.r qty),ss:=swp.kS x.s s.ss x.i x.k (swp.zAI x.r qty) }:=⟨g1.1.m0,g1.1.m3,hb,g1.1.ok,g1.1.ws⟩
  exact((g1.2.gr g1.1).trans (Gr.trans (a:=s2) (b:={ s2 with bs:=swp.kB x.s s.bs x.i x.k (swp.zAI x.r qty),ss:=swp.kS x.s s.ss x.i x.k (swp.zAI x.r qty) }) (i:=0) (j:=0) ⟨hw,rfl,nzR _,nzR _⟩ (zEy hw _ _ _ _))).mono (by omega) (by omega)
 ·cases e
theorem zRq{s s1:TS}{id price qty:Int}(h:Wf s)(e:swap s id price qty=.ok s1):Gr s s1 1 482:=by
 unfold swap at e;split at e
 ·rename_i hE
  obtain⟨-,Hv,-⟩:=swp.zFQ hE;split at e
  ·rename_i hk;exact(zMF h Hv hk e).mono (by omega) (by omega)
  ·obtain⟨s2,e1,e⟩:=zAk e;have g:=zDi h e1;exact(g.trans (zGc g.wf e)).mono (by omega) (by omega)
 ·cases e
theorem zIQ{s s1:TS}{c:Cm}(h:Wf s)(e:doC s c=.ok s1):Gr s s1 1 482:=by
 unfold doC at e;split at e
 ·exact(zGc h e).mono (by omega) (by omega)
 split at e
 ·exact(zME h e).mono (by omega) (by omega)
 split at e
 ·exact zRq h e
 split at e
 ·unfold payS at e;split at e
  ·cases e;exact⟨⟨h.m0,h.m3,h.book,pur.pay_ok h.ok _ _,h.ws⟩,rfl,by simp,by simp⟩
  ·cases e
 split at e
 ·unfold zES at e;split at e
  ·cases e;exact⟨⟨h.m0,h.m3,h.book,pur.zRa h.ok _ _,h.ws⟩,rfl,by simp,by simp⟩
  ·cases e
 ·cases e
theorem zBF(n:Nat)(s:TS)(h:s.row=[]):zBy n s=.ok s:=by
 cases n with
 | zero=>rfl
 | succ n=>unfold zBy;rw[h]
theorem zBq(n:Nat)(s:TS){x:Sl}{t:List Sl}(h:s.row=x::t):zBy (n+1) s=(rise (tell { s with row:=t } 4 x.o.id x.o.qty x.p) x.o).bind (zBy n):=by
 rw[zBy,h]
end flr
end Go.Proofs.YtnfilcpnneckkaaGreat
