import Derived.Test.YtnfilcpnneckkaaGreatFlrUp
set_option maxHeartbeats 8000000
set_option maxRecDepth 100000
namespace Go.Proofs.YtnfilcpnneckkaaGreat
open Go.Proofs.Tryz
namespace flr
open Go.RowKit
open que (R rchk)
open sid (L DL LS)
open mee (T tV OwnT sumT)
open ord (O oV chk errV wAa wAb prB)
open que (bal)
open bok (zAc zAg)
open pur (Pz Pu Ok flatP pL)
open wak (OwnM OwnQ St SL Lies oL idx Trn)
def WfF(f:FS):Prop:=Wf (zBz f)
def DoPost(F:Nat)(f:FS)(c:Cm)(w:World)(e:Ending)(w' : World):Prop:=
 (∀s,fdo f c=.ok s→(∃q m k,e=.returned (.tuple #[.slice q m k,.nilIface])∧OwnM w' w.heap.size 40 10 (.slice q m k) s.evs.length (zAD s.evs))∧(∃v',FM w' F (zEt s) v')∧w.grownBy w' (some F))∧
 (∀k,fdo f c=.error k→¬k=0∧e=.returned (.tuple #[.slice none 0 0,.iface 90 (.int .i64 k)])∧Bw w w')
theorem zRD(F:Nat)(f:FS)(v:FV)(what a1 a2 a3 a4 a5 a6 a7 a8 who n:Int)(w:World)(h:FM w F f v)(hw:WfF f)(hid:(Lit.int .i64 a1).wf=true) :
  Calls prog 6 #[.pointer (some ⟨F,0,none⟩),.agg #[.int .i64 what,.int .i64 a1,.int .i64 a2,.int .i64 a3,.int .i64 a4,.int .i64 a5,.int .i64 a6,.int .i64 a7,.int .i64 a8,.int .i64 who,.int .i64 n]] w fun e w'=>DoPost F f ⟨what,⟨a1,a2,a3,a4,a5,a6,a7,a8⟩,who,n⟩ w e w':=by
 obtain⟨W,hW⟩:∃W,W=w.alloc (.cells #[.int .i64 what,.int .i64 a1,.int .i64 a2,.int .i64 a3,.int .i64 a4,.int .i64 a5,.int .i64 a6,.int .i64 a7,.int .i64 a8,.int .i64 who,.int .i64 n] 36):=⟨_,rfl⟩;have Hj:Below w.heap.size w W:=by rw[hW];exact(bzR _ _).alloc (nzR _) _
 have Hd:W.heap[w.heap.size]?=some (.cells #[.int .i64 what,.int .i64 a1,.int .i64 a2,.int .i64 a3,.int .i64 a4,.int .i64 a5,.int .i64 a6,.int .i64 a7,.int .i64 a8,.int .i64 who,.int .i64 n] 36 (0,0)):=by rw[hW];exact jA w _
 obtain⟨G,hG⟩:∃G,G=w.heap.size:=⟨_,rfl⟩;rw[←hG] at Hd;have uA:=hidF (zKc F f v W (h.below Hj) hw.ws);have HGS:=hidF hG;have My:=hidF Hd;have gF:=hidF Hj;have m8:=hidF h;have HW:=hidF hw;have Dr:=hidF hid;obtain⟨X,hX⟩:∃X,X=doC (zBz f) ⟨what,⟨a1,a2,a3,a4,a5,a6,a7,a8⟩,who,n⟩:=⟨_,rfl⟩;have HX:=hidF hX;obtain⟨Y,hY⟩:∃Y,Y=fdo f ⟨what,⟨a1,a2,a3,a4,a5,a6,a7,a8⟩,who,n⟩:=⟨_,rfl⟩;have HY:Hid (Y=X.bind fun s=>zBy (s.row.length+s.ws.length) s):=by show _=_;rw[hY,hX];rfl
 unfold DoPost;rw[←hY];clear h hw hid Hj Hd hX hY;go_enter func6,ntmps6;go_wp2_with fail;rw[←hW];simp only[←hG];clear hW hG;refine uA.out.mono ?_;rintro e w1⟨sp,vw,pp,rfl,Gb,hpu,Pw,Hc⟩;obtain⟨W2,gb⟩:∃W2,W2=w1.alloc (.cells #[.int .i64 f.mode,.slice v.q1 v.n1 v.c1,.slice v.q2 v.n2 v.c2,.pointer (some ⟨sp,0,none⟩),.pointer (some ⟨pp,0,none⟩),.int .i64 f.last,.slice none 0 0,.slice none 0 0] 73):=⟨_,rfl⟩;have Ha:Below w1.heap.size w1 W2:=by rw[gb];exact(bzR _ _).alloc (nzR _) _
 have H5:W2.heap[w1.heap.size]?=some (.cells #[.int .i64 f.mode,.slice v.q1 v.n1 v.c1,.slice v.q2 v.n2 v.c2,.pointer (some ⟨sp,0,none⟩),.pointer (some ⟨pp,0,none⟩),.int .i64 f.last,.slice none 0 0,.slice none 0 0] 73 (0,0)):=by rw[gb];exact jA w1 _
 have MV:=gF.out.trans (Hc.mono gF.out.size);have uC:=MV.trans (Ha.mono MV.size);have mx:Kp [] w W2:=Kp.below uC;have HTM:Hid (TM W2 w.heap.size w1.heap.size (zBz f) ⟨v.q1,v.n1,v.c1,v.q2,v.n2,v.c2,sp,vw,pp,none,0,0,none,0,0⟩):=by
  refine⟨H5,MV.size,mx.dl m8.out.buys (by simp) (by simp),mx.dl m8.out.sells (by simp) (by simp),?_,?_,jM gF.out.size Pw,⟨rfl,.inl ⟨rfl,rfl⟩⟩,⟨rfl,.inl ⟨rfl,rfl⟩⟩⟩
  ·exact(zGl Gb gF.out.size).below Ha
  ·exact(Kp.below (S:=[]) Ha).pu hpu (by simp)
 have H6:=hidF uC;have Uk:=hidF (zBL (zBL My.out Hc) Ha);have Mq:=hidF (do_any w.heap.size w1.heap.size (zBz f) _ a1 a2 a3 a4 a5 a6 a7 a8 who n W2 what HTM.out HW.out (jL _) (jL _) Dr.out);rw[←HX.out] at Mq;clear Gb hpu Pw Hc Ha H5 MV uC mx uA My gF;go_upto_region 2 with fail
 rw[←gb];clear gb;obtain⟨t,ht⟩:∃t,t=w1.heap.size:=⟨_,rfl⟩;rw[←ht] at Mq HTM;simp only[←ht];clear ht;obtain⟨c0,c1,c2,c3,c4,c5,c6,c7,c8,c9,c10⟩:=row11 Uk.out;go_wp2_with fail;refine Mq.out.mono ?_;intro e w3 hR;have GZ:=hidF hR.1;clear c0 c1 c2 c3 c4 c5 c6 c7 c8 c9 c10 Mq;rcases zCS hR with ⟨s1,v1,gM,rfl,U0⟩|⟨k,rfl,HE⟩
 rotate_left
 ·have gO:Hid ((∀s,Y=.ok s→False)∧(∀k',Y=.error k'→¬k'=0∧k'=k)∧Below w.heap.size w w3):=by
   have hy:Y=.error k:=by rw[HY.out,HE.out.1];rfl
   refine⟨fun s e=>?_,fun k' e=>?_,?_⟩
   ·rw[hy] at e;cases e
   ·rw[hy] at e;cases e;exact⟨HE.out.2,rfl⟩
   ·exact H6.out.trans GZ.out.bel
  clear hR HE;go_wp2_with fail
  go_ret2
  refine⟨fun s e=>(gO.out.1 s e).elim,fun k' e=>?_⟩
  obtain⟨h1,rfl⟩:=gO.out.2.1 k' e;exact⟨h1,rfl,gO.out.2.2⟩
 have HG1:=hidF (zIQ HW.out (HX.out.symm.trans gM));have dj:Hid (Y=zBy (s1.row.length+s1.ws.length) s1):=by show _=_;rw[HY.out,gM];rfl
 have HWU:=hidF (zKg w.heap.size t (s1.row.length+s1.ws.length) s1 v1 w3 U0.out HG1.out.wf (nzR _) (by have h1:=HG1.out.row;have h2:=HG1.out.evs;have h3:=HW.out.ws;have h4:(zBz f).row.length=0:=rfl;have h5:(zBz f).evs.length=0:=rfl;omega))
 rw[←dj.out] at HWU;clear hR gM HX HY dj HG1;go_wp2_with fail;refine HWU.out.mono ?_;intro e w4 hR;have uZ:=hidF (GZ.out.trans hR.1);clear HWU;rcases zCS hR with ⟨s2,v2,mF,rfl,GN⟩|⟨k,rfl,HE⟩
 rotate_left
 ·have gO:Hid ((∀s,Y=.ok s→False)∧(∀k',Y=.error k'→¬k'=0∧k'=k)∧Below w.heap.size w w4):=by
   have hy:Y=.error k:=HE.out.1;refine⟨fun s e=>?_,fun k' e=>?_,?_⟩
   ·rw[hy] at e;cases e
   ·rw[hy] at e;cases e;exact⟨HE.out.2,rfl⟩
   ·exact H6.out.trans uZ.out.bel
  clear hR HE;go_wp2_with fail
  go_ret2
  refine⟨fun s e=>(gO.out.1 s e).elim,fun k' e=>?_⟩
  obtain⟨h1,rfl⟩:=gO.out.2.1 k' e;exact⟨h1,rfl,gO.out.2.2⟩
 have HYX:=hidF mF;have Ub:=H6.out.trans uZ.out.bel;have hFl:=m8.out.lt;have hFb:w4.heap[F]?=some (.cells (rowF f v) 69 (0,0)):=(Ub.block F hFl).trans m8.out.blk;obtain⟨x0,x1,x2,x3,x4,x5,x6,x7,-⟩:=GN.out.cells;obtain⟨f0,f1,f2,f3,f4,f5,ff⟩:=zEH hFb;have ff0:=ff 0;have ff1:=ff 1;have ff2:=ff 2;have ff3:=ff 3;have ff4:=ff 4;have ff5:=ff 5;have htF:¬t=F:=by have:=GN.out.le;omega
 obtain⟨r1,r2,r3,r4,r5,r6,r7,vw2,r9,qe,ne,ce,qk,nk,ck⟩:=v2;simp only[] at x0 x1 x2 x3 x4 x5 x6 x7;have hg:=gr6 w4 F (.int .i64 s2.mode) (.slice r1 r2 r3) (.slice r4 r5 r6) (.pointer (some ⟨r7,0,none⟩)) (.pointer (some ⟨r9,0,none⟩)) (.int .i64 s2.last);have hk:Kp [69] w4 _:=Kp.grown hg hFb (by simp)
 have uE:Hid (FM ((((((w4.setCell ⟨F,0,none⟩ (.int .i64 s2.mode)).setCell ⟨F,1,none⟩ (.slice r1 r2 r3)).setCell ⟨F,2,none⟩ (.slice r4 r5 r6)).setCell ⟨F,3,none⟩ (.pointer (some ⟨r7,0,none⟩))).setCell ⟨F,4,none⟩ (.pointer (some ⟨r9,0,none⟩))).setCell ⟨F,5,none⟩ (.int .i64 s2.last)) F (zEt s2) ⟨r1,r2,r3,r4,r5,r6,r7,vw2,r9⟩∧w.grownBy ((((((w4.setCell ⟨F,0,none⟩ (.int .i64 s2.mode)).setCell ⟨F,1,none⟩ (.slice r1 r2 r3)).setCell ⟨F,2,none⟩ (.slice r4 r5 r6)).setCell ⟨F,3,none⟩ (.pointer (some ⟨r7,0,none⟩))).setCell ⟨F,4,none⟩ (.pointer (some ⟨r9,0,none⟩))).setCell ⟨F,5,none⟩ (.int .i64 s2.last)) (some F)∧OwnM ((((((w4.setCell ⟨F,0,none⟩ (.int .i64 s2.mode)).setCell ⟨F,1,none⟩ (.slice r1 r2 r3)).setCell ⟨F,2,none⟩ (.slice r4 r5 r6)).setCell ⟨F,3,none⟩ (.pointer (some ⟨r7,0,none⟩))).setCell ⟨F,4,none⟩ (.pointer (some ⟨r9,0,none⟩))).setCell ⟨F,5,none⟩ (.int .i64 s2.last)) w.heap.size 40 10 (.slice qe ne ce) s2.evs.length (zAD s2.evs)):=by
  refine⟨⟨set6 hFb _ _ _ _ _ _,hk.dl GN.out.buys (by decide) (by decide),hk.dl GN.out.sells (by decide) (by decide),hk.st (zGl GN.out.stops (jL _)) (by decide) (by decide),hk.pu GN.out.purs (by decide)⟩,?_,hk.own GN.out.evs (by decide)⟩
  exact wak.wAd (wak.wAw Ub _) hg
 have HTB:Hid (((((((w4.setCell ⟨F,0,none⟩ (.int .i64 s2.mode)).setCell ⟨F,1,none⟩ (.slice r1 r2 r3)).setCell ⟨F,2,none⟩ (.slice r4 r5 r6)).setCell ⟨F,3,none⟩ (.pointer (some ⟨r7,0,none⟩))).setCell ⟨F,4,none⟩ (.pointer (some ⟨r9,0,none⟩))).setCell ⟨F,5,none⟩ (.int .i64 s2.last)).heap[t]?=w4.heap[t]?):=hg.block t GN.out.lt (fun e=>htF (by cases e;rfl))
 have UW:=hidF GN.out.blk;clear hR mF Ub hFb hg hk ff GN uZ GZ H6 m8 U0 HTM;go_upto_region 9 with fail
 generalize (((((w4.setCell ⟨F,0,none⟩ (.int .i64 s2.mode)).setCell ⟨F,1,none⟩ (.slice r1 r2 r3)).setCell ⟨F,2,none⟩ (.slice r4 r5 r6)).setCell ⟨F,3,none⟩ (.pointer (some ⟨r7,0,none⟩))).setCell ⟨F,4,none⟩ (.pointer (some ⟨r9,0,none⟩))).setCell ⟨F,5,none⟩ (.int .i64 s2.last)=Z at *;have dC:Z.heap[t]?=some _:=HTB.out.trans UW.out;clear x0 x1 x2 x3 x4 x5 x6 x7 f0 f1 f2 f3 f4 f5 ff0 ff1 ff2 ff3 ff4 ff5;obtain⟨-,-,-,-,-,-,x6,-,-⟩:=wak.row8 dC;clear dC HTB UW;go_wp2_with fail
 go_ret2
 refine⟨fun s e=>?_,fun k' e=>?_⟩
 ·have h1:=HYX.out;rw[e] at h1;cases h1;exact⟨⟨_,_,_,rfl,uE.out.2.2⟩,⟨_,uE.out.1⟩,uE.out.2.1⟩
 ·have h1:=HYX.out;rw[e] at h1;cases h1
end flr
namespace flr
open Go.RowKit
open que (R rchk)
open sid (L DL LS)
open mee (T tV OwnT sumT)
open ord (O oV chk errV wAa wAb prB)
open que (bal)
open bok (zAc zAg)
open pur (Pz Pu Ok flatP pL)
open wak (OwnM OwnQ St SL Lies oL idx Trn)
open pur (newL)
def emptyF(m:Int):FS:=⟨m,0,[],[],[],newL 9⟩
theorem zPD(F:Nat)(f:FS)(v:FV)(w:World)(h:FM w F f v) :
  Calls prog 9 #[.pointer (some ⟨F,0,none⟩)] w fun e w'=>e=.returned (.int .i64 f.last)∧w'=w:=by
 obtain⟨x0,x1,x2,x3,x4,x5,-⟩:=h.cells;clear h;go_enter func9,ntmps9
 go_wp2
 go_ret;exact⟨rfl,rfl⟩
theorem zPE(m:Int)(h0:0≤m)(h3:m≤3)(w:World) :
  Calls prog 5 #[.int .i64 m] w fun e w'=>∃F v,e=.returned (.tuple #[.pointer (some ⟨F,0,none⟩),.nilIface])∧FM w' F (emptyF m) v∧w.heap.size≤F∧Bw w w':=by
 have Cc:Hid ([(m,0,3)].any spn.zAl=false):=by show _=_;simp[spn.zAl];omega
 clear h0 h3;go_enter func5,ntmps5;go_wp2_with fail;refine(spn.zDI m w).mono ?_;rintro e w1⟨rfl,b1⟩;have go:=hidF b1;clear b1;go_wp2_with fail;refine(spn.scheck1 false _ _ _ _ _ rfl Cc.out).mono ?_;rintro e w2⟨rfl,b2⟩;rw[show spn.errV (spn.zAd false)=.nilIface from rfl]
 have H6:=hidF (go.out.trans (b2.mono go.out.size));clear b2 go;go_wp2_with fail;refine(wak.new_any w2).mono ?_;rintro e w3⟨rfl,s3,b3⟩;have df:=hidF s3;have gX:=hidF b3;clear s3 b3;go_wp2_with fail;refine(pur.new_any w3).mono ?_;rintro e w4⟨rfl,p4,b4⟩;have HP4:=hidF p4;have GR:=hidF b4;clear p4 b4;go_wp2_with fail
 go_ret2
 have uI:Bw w4 (w4.alloc (.cells #[.int .i64 m,.slice none 0 0,.slice none 0 0,.pointer (some ⟨w2.heap.size,0,none⟩),.pointer (some ⟨w3.heap.size,0,none⟩),.int .i64 0] 69)):=(bzR _ _).alloc (nzR _) _;have bZ:=H6.out.trans ((gX.out.trans (GR.out.mono gX.out.size)).mono H6.out.size);have UF:=((df.out.below GR.out).below uI);have hp5:=(Kp.below (S:=[]) uI).pu HP4.out (by simp)
 exact⟨w4.heap.size,⟨none,0,0,none,0,0,w2.heap.size,.slice none 0 0,w3.heap.size⟩,rfl,⟨jA w4 _,sid.zFb _ _,sid.zFb _ _,zGl UF (jL _),hp5⟩,bZ.size,bZ.trans (uI.mono bZ.size)⟩
theorem zRE(m:Int)(h:¬(0≤m∧m≤3))(w:World) :
  Calls prog 5 #[.int .i64 m] w fun e w'=>e=.returned (.tuple #[.pointer none,.iface 90 (.int .i64 1)])∧Bw w w':=by
 have Cc:Hid ([(m,0,3)].any spn.zAl=true):=by show _=_;simp[spn.zAl];omega
 clear h;go_enter func5,ntmps5;go_wp2_with fail;refine(spn.zDI m w).mono ?_;rintro e w1⟨rfl,b1⟩;have go:=hidF b1;clear b1;go_wp2_with fail;refine(spn.scheck1 true _ _ _ _ _ rfl Cc.out).mono ?_;rintro e w2⟨rfl,b2⟩;rw[show spn.errV (spn.zAd true)=.iface 90 (.int .i64 1) from rfl]
 have H6:=hidF (go.out.trans (b2.mono go.out.size));clear b2 go;go_wp2_with fail
 go_ret2
 exact⟨rfl,H6.out⟩
end flr
namespace flr
open Go.RowKit
open que (R rchk)
open sid (L DL LS)
open mee (T tV OwnT sumT)
open ord (O oV chk errV wAa wAb prB)
open bok (zAc zAg)
open pur (Pz Pu Ok flatP pL payE payP zDf zDv)
open wak (OwnM OwnQ St SL Lies oL idx Trn)
structure FloorAt (w w' : World) (F:Nat) (f:FS):Prop where
 fm:∃v,FM w' F f v
 lo:w.heap.size≤F
 bel:Bw w w'
theorem FloorAt.step{w w1 w2:World}{F:Nat}{f g:FS}{v:FV}(h:FloorAt w w1 F f)(hg:w1.grownBy w2 (some F))(hm:FM w2 F g v):FloorAt w w2 F g:=
 ⟨⟨v,hm⟩,h.lo,h.bel.grown hg h.bel.size (fun k hk=>by cases hk;exact h.lo)⟩
theorem FloorAt.keep{w w1 w2:World}{F:Nat}{f:FS}(h:FloorAt w w1 F f)(hb:Bw w1 w2):FloorAt w w2 F f:=
 ⟨by obtain⟨v,hv⟩:=h.fm;exact⟨v,hv.below hb⟩,h.lo,h.bel.trans (hb.mono h.bel.size)⟩
end flr
namespace tap
open Go.RowKit mee flr
theorem hidT{p:Prop}(h:p):Hid p:=h
theorem getE{α:Type}[Inhabited α](l:List α)(j:Nat)(h:j<l.length):l[j]! = l[j]:=by simp[h]
def Lies(w:World)(b o:Nat)(zs:List Ev):Prop:=∀j,j<zs.length→∀i v,(evL zs[j]!)[i]?=some v→w.cell? ⟨b,o+j*10+i,none⟩=some v
def EL(w:World)(v:Value)(zs:List Ev):Prop:=
 (v=.slice none 0 0∧zs=[])∨∃b o c,v=.slice (some ⟨b,o,none⟩) zs.length c∧zs.length≤c∧c≤9223372036854775807∧b<w.heap.size∧Lies w b o zs
theorem Lies.below{w w' : World}{b o:Nat}{zs:List Ev}(h:Lies w b o zs)(hb:b<w.heap.size)(hB:Bw w w'):Lies w' b o zs:=
 fun j hj i v hv=>(hB.cell (p:=⟨b,o+j*10+i,none⟩) hb).trans (h j hj i v hv)
theorem EL.below{w w' : World}{v:Value}{zs:List Ev}(h:EL w v zs)(hB:Bw w w'):EL w' v zs:=by
 rcases h with h|⟨b,o,c,h1,h2,h3,h4,h5⟩
 ·exact .inl h
 ·exact .inr ⟨b,o,c,h1,h2,h3,jC h4 hB.size,h5.below h4 hB⟩
theorem EL.form{w:World}{v:Value}{zs:List Ev}(h:EL w v zs):∃q c,v=.slice q zs.length c∧zs.length≤9223372036854775807:=by
 rcases h with ⟨h1,h2⟩|⟨b,o,c,h1,h2,h3,h4,h5⟩
 ·subst h2;exact⟨none,0,h1,by simp⟩
 ·exact⟨some ⟨b,o,none⟩,c,h1,by omega⟩
theorem EL.at{w:World}{q:Option Addr}{n c:Nat}{zs:List Ev}(h:EL w (.slice q n c) zs){k:Nat}(hk:k<zs.length):∃g off,q=some ⟨g,off,none⟩∧g<w.heap.size∧∀i v,(evL zs[k]!)[i]?=some v→w.cell? ⟨g,off+k*10+i,none⟩=some v:=by
 rcases h with ⟨h1,h2⟩|⟨b,o,c,h1,h2,h3,h4,h5⟩
 ·subst h2;simp at hk
 ·cases h1;exact⟨b,o,rfl,h4,h5 k hk⟩
end tap
namespace tap
open Go.RowKit mee flr
open spn (zAa bcell zAl zBc zAY zGn zCl zAK zAt zBs scheck4 zAd errV wAa wAb)
theorem bal{V W:World}(h:Bw V W)(o:Obj):Bw V (W.alloc o):=h.alloc h.size o
theorem of_V(V:World)(n lo hi:Int)(w:World)(h:Bw V w) :
  Calls prog 21 #[.int .i64 n,.int .i64 lo,.int .i64 hi] w fun e w'=>e=.returned (.agg #[.int .i64 n,.int .i64 lo,.int .i64 hi])∧Bw V w':=
 (zAY n lo hi w).mono fun _ _ h'=>⟨h'.1,h.trans (h'.2.mono h.size)⟩
theorem id_V(V:World)(n:Int)(w:World)(h:Bw V w) :
  Calls prog 72 #[.int .i64 n] w fun e w'=>e=.returned (.agg #[.int .i64 n,.int .i64 1,.int .i64 9999])∧Bw V w':=
 (zGn n w).mono fun _ _ h'=>⟨h'.1,h.trans (h'.2.mono h.size)⟩
theorem who_V(V:World)(n:Int)(w:World)(h:Bw V w) :
  Calls prog 106 #[.int .i64 n] w fun e w'=>e=.returned (.agg #[.int .i64 n,.int .i64 1,.int .i64 9])∧Bw V w':=
 (zCl n w).mono fun _ _ h'=>⟨h'.1,h.trans (h'.2.mono h.size)⟩
theorem qty_V(V:World)(n:Int)(w:World)(h:Bw V w) :
  Calls prog 75 #[.int .i64 n] w fun e w'=>e=.returned (.agg #[.int .i64 n,.int .i64 1,.int .i64 10000])∧Bw V w':=
 (zAK n w).mono fun _ _ h'=>⟨h'.1,h.trans (h'.2.mono h.size)⟩
theorem wAV(V:World)(n:Int)(w:World)(h:Bw V w) :
  Calls prog 74 #[.int .i64 n] w fun e w'=>e=.returned (.agg #[.int .i64 n,.int .i64 1,.int .i64 10000])∧Bw V w':=
 (zAt n w).mono fun _ _ h'=>⟨h'.1,h.trans (h'.2.mono h.size)⟩
theorem scheck6(r:Bool)(a1 a2 a3 b1 b2 b3 c1 c2 c3 d1 d2 d3 e1 e2 e3 f1 f2 f3:Int)(n:Nat)(V:World)(hn:V.heap.size=n)
  (hr:[(a1,a2,a3),(b1,b2,b3),(c1,c2,c3),(d1,d2,d3),(e1,e2,e3),(f1,f2,f3)].any zAl=r) :
  Calls prog 11 #[.slice (some ⟨n,0,none⟩) 6 6] (V.alloc (.cells #[.int .i64 a1,.int .i64 a2,.int .i64 a3,.int .i64 b1,.int .i64 b2,.int .i64 b3,.int .i64 c1,.int .i64 c2,.int .i64 c3,.int .i64 d1,.int .i64 d2,.int .i64 d3,.int .i64 e1,.int .i64 e2,.int .i64 e3,.int .i64 f1,.int .i64 f2,.int .i64 f3] 62))
   fun e w'=>e=.returned (errV (zAd r))∧Below V.heap.size V w':=by
 refine(zBs r n 6 [(a1,a2,a3),(b1,b2,b3),(c1,c2,c3),(d1,d2,d3),(e1,e2,e3),(f1,f2,f3)] _ (by simp[←hn]) (by simp) ?_ hr).mono ?_
 ·intro j hj i v hv;have EA:j<6:=hj;rw[World.cell?_alloc_at _ _ _ _ hn.symm];rcases j with _|_|_|_|_|_|j
  ·rcases i with _|_|_|i <;>simp_all [zBc]
  ·rcases i with _|_|_|i <;>simp_all [zBc]
  ·rcases i with _|_|_|i <;>simp_all [zBc]
  ·rcases i with _|_|_|i <;>simp_all [zBc]
  ·rcases i with _|_|_|i <;>simp_all [zBc]
  ·rcases i with _|_|_|i <;>simp_all [zBc]
  ·omega
 ·rintro e w' ⟨rfl,hb⟩;exact⟨rfl,((bzR _ V).alloc (nzR _) _).trans (hb.mono (by simp))⟩
theorem wAP(t1 t2 t3 t4 t5 t6:Int)(r:Bool)(w:World)(hr:[(t3,1,9),(t4,1,9),(t1,1,9999),(t2,1,9999),(t5,1,10000),(t6,1,10000)].any zAl=r) :
  Calls prog 71 #[.agg #[.int .i64 t1,.int .i64 t2,.int .i64 t3,.int .i64 t4,.int .i64 t5,.int .i64 t6]] w
   fun x w'=>x=.returned (errV (zAd r))∧Bw w w':=by
 have HR:=hidT hr;clear hr;have hV:Bw w (w.alloc (.cells #[.int .i64 t1,.int .i64 t2,.int .i64 t3,.int .i64 t4,.int .i64 t5,.int .i64 t6] 38)):=(bzR _ _).alloc (nzR _) _;have hR:=jA w (.cells #[.int .i64 t1,.int .i64 t2,.int .i64 t3,.int .i64 t4,.int .i64 t5,.int .i64 t6] 38);go_enter func71,ntmps71;go_upto_region 1 with fail
 generalize w.alloc (.cells #[.int .i64 t1,.int .i64 t2,.int .i64 t3,.int .i64 t4,.int .i64 t5,.int .i64 t6] 38)=V at *;have c0:V.cell? ⟨w.heap.size,0,none⟩=some (.int .i64 t1):=by simp[World.cell?,hR]
 have c1:V.cell? ⟨w.heap.size,1,none⟩=some (.int .i64 t2):=by simp[World.cell?,hR]
 have c2:V.cell? ⟨w.heap.size,2,none⟩=some (.int .i64 t3):=by simp[World.cell?,hR]
 have c3:V.cell? ⟨w.heap.size,3,none⟩=some (.int .i64 t4):=by simp[World.cell?,hR]
 have c4:V.cell? ⟨w.heap.size,4,none⟩=some (.int .i64 t5):=by simp[World.cell?,hR]
 have c5:V.cell? ⟨w.heap.size,5,none⟩=some (.int .i64 t6):=by simp[World.cell?,hR]
 clear hR;have SO:Hid (∀W,Bw V W→(Bw V W∧W.cell? ⟨w.heap.size,0,none⟩=some (.int .i64 t1)∧W.cell? ⟨w.heap.size,1,none⟩=some (.int .i64 t2)∧W.cell? ⟨w.heap.size,2,none⟩=some (.int .i64 t3)∧W.cell? ⟨w.heap.size,3,none⟩=some (.int .i64 t4)∧W.cell? ⟨w.heap.size,4,none⟩=some (.int .i64 t5)∧W.cell? ⟨w.heap.size,5,none⟩=some (.int .i64 t6))):=fun W hW=>⟨hW,zAa hW c0,zAa hW c1,zAa hW c2,zAa hW c3,zAa hW c4,zAa hW c5⟩
 go_region_held3 (fun W=>Below V.heap.size V W∧W.cell? ⟨w.heap.size,0,none⟩=some (.int .i64 t1)∧W.cell? ⟨w.heap.size,1,none⟩=some (.int .i64 t2)∧W.cell? ⟨w.heap.size,2,none⟩=some (.int .i64 t3)∧W.cell? ⟨w.heap.size,3,none⟩=some (.int .i64 t4)∧W.cell? ⟨w.heap.size,4,none⟩=some (.int .i64 t5)∧W.cell? ⟨w.heap.size,5,none⟩=some (.int .i64 t6))
  ((refine SO.out _ ?_;(with_reducible repeat' (first|assumption|refine bal ?_ _|refine Below.setCell ?_ ?_ _|refine Below.drew ?_|exact bzR _ _|exact nzR _|exact Below.size (by assumption)|refine jD ?_))))
  (first|(go_at_call 106;refine(who_V V _ _ ?_).mono ?_;(with_reducible repeat' (first|assumption|refine bal ?_ _|refine Below.setCell ?_ ?_ _|refine Below.drew ?_|exact bzR _ _|exact nzR _|exact Below.size (by assumption)|refine jD ?_));rintro x W ⟨rfl,Hm⟩)|(go_at_call 72;refine(id_V V _ _ ?_).mono ?_;(with_reducible repeat' (first|assumption|refine bal ?_ _|refine Below.setCell ?_ ?_ _|refine Below.drew ?_|exact bzR _ _|exact nzR _|exact Below.size (by assumption)|refine jD ?_));rintro x W ⟨rfl,Hm⟩)|(go_at_call 74;refine(wAV V _ _ ?_).mono ?_;(with_reducible repeat' (first|assumption|refine bal ?_ _|refine Below.setCell ?_ ?_ _|refine Below.drew ?_|exact bzR _ _|exact nzR _|exact Below.size (by assumption)|refine jD ?_));rintro x W ⟨rfl,Hm⟩)|(go_at_call 75;refine(qty_V V _ _ ?_).mono ?_;(with_reducible repeat' (first|assumption|refine bal ?_ _|refine Below.setCell ?_ ?_ _|refine Below.drew ?_|exact bzR _ _|exact nzR _|exact Below.size (by assumption)|refine jD ?_));rintro x W ⟨rfl,Hm⟩)|(go_at_call 11;refine(scheck6 r _ _ _ _ _ _ _ _ _ _ _ _ _ _ _ _ _ _ _ _ rfl HR.out).mono ?_;rintro x W2 ⟨rfl,GB⟩;have Hm:=Below.trans (by with_reducible assumption) (GB.mono (Below.size (by with_reducible assumption)))))
 have HW:Hid (Bw w W2):=hV.trans (Hm.mono hV.size);clear SO hV HR GB Hm c0 c1 c2 c3 c4 c5;cases r
 ·simp only[show errV (zAd false)=.nilIface from rfl]
  go_wp2_with fail;go_ret;exact⟨rfl,HW.out⟩
 ·simp only[show errV (zAd true)=.iface 90 (.int .i64 1) from rfl]
  go_wp2_with fail;go_ret;exact⟨rfl,HW.out⟩
theorem zNb(e1 e2 e3 e4 t1 t2 t3 t4 t5 t6:Int)(r:Bool)(w:World)(h2:(e1 == 2)=false)(hr:[(e1,1,5),(e2,1,9999),(e3,0,10000),(e4,0,10000)].any zAl=r) :
  Calls prog 40 #[.agg #[.int .i64 e1,.int .i64 e2,.int .i64 e3,.int .i64 e4,.int .i64 t1,.int .i64 t2,.int .i64 t3,.int .i64 t4,.int .i64 t5,.int .i64 t6]] w
   fun x w'=>x=.returned (errV (zAd r))∧Bw w w':=by
 have HR:=hidT hr;clear hr;have Gf:Bw w (w.alloc (.cells #[.int .i64 e1,.int .i64 e2,.int .i64 e3,.int .i64 e4,.int .i64 t1,.int .i64 t2,.int .i64 t3,.int .i64 t4,.int .i64 t5,.int .i64 t6] 40)):=(bzR _ _).alloc (nzR _) _;have hR:=jA w (.cells #[.int .i64 e1,.int .i64 e2,.int .i64 e3,.int .i64 e4,.int .i64 t1,.int .i64 t2,.int .i64 t3,.int .i64 t4,.int .i64 t5,.int .i64 t6] 40);go_enter func40,ntmps40;go_wp2_with fail;generalize w.alloc (.cells #[.int .i64 e1,.int .i64 e2,.int .i64 e3,.int .i64 e4,.int .i64 t1,.int .i64 t2,.int .i64 t3,.int .i64 t4,.int .i64 t5,.int .i64 t6] 40)=V0 at *;have d1:V0.cell? ⟨w.heap.size,1,none⟩=some (.int .i64 e2):=by simp[World.cell?,hR]
 have d2:V0.cell? ⟨w.heap.size,2,none⟩=some (.int .i64 e3):=by simp[World.cell?,hR]
 have d3:V0.cell? ⟨w.heap.size,3,none⟩=some (.int .i64 e4):=by simp[World.cell?,hR]
 clear hR;refine(zAY e1 1 5 _).mono ?_;rintro e W1⟨rfl,Hc⟩;have b1:=zAa Hc d1;have b2:=zAa Hc d2;have b3:=zAa Hc d3;have gx:Bw w W1:=Gf.trans (Hc.mono Gf.size);clear Hc d1 d2 d3 Gf;have gl:=gx.alloc gx.size (.cells #[.int .i64 e1,.int .i64 1,.int .i64 5] 62);have gG:Bw W1 (W1.alloc (.cells #[.int .i64 e1,.int .i64 1,.int .i64 5] 62)):=(bzR _ _).alloc (nzR _) _;have hR:=jA W1 (.cells #[.int .i64 e1,.int .i64 1,.int .i64 5] 62);have c1:=zAa gG b1;have c2:=zAa gG b2;have c3:=zAa gG b3;clear b1 b2 b3 gG gx;go_upto_region 4 with fail
 generalize W1.alloc (.cells #[.int .i64 e1,.int .i64 1,.int .i64 5] 62)=V at *;have p0:V.cell? ⟨W1.heap.size,0,none⟩=some (.int .i64 e1):=by simp[World.cell?,hR]
 have p1:V.cell? ⟨W1.heap.size,1,none⟩=some (.int .i64 1):=by simp[World.cell?,hR]
 have p2:V.cell? ⟨W1.heap.size,2,none⟩=some (.int .i64 5):=by simp[World.cell?,hR]
 clear hR;have SO:Hid (∀W,Bw V W→(Bw V W∧W.cell? ⟨w.heap.size,1,none⟩=some (.int .i64 e2)∧W.cell? ⟨w.heap.size,2,none⟩=some (.int .i64 e3)∧W.cell? ⟨w.heap.size,3,none⟩=some (.int .i64 e4)∧W.cell? ⟨W1.heap.size,0,none⟩=some (.int .i64 e1)∧W.cell? ⟨W1.heap.size,1,none⟩=some (.int .i64 1)∧W.cell? ⟨W1.heap.size,2,none⟩=some (.int .i64 5))):=fun W hW=>⟨hW,zAa hW c1,zAa hW c2,zAa hW c3,zAa hW p0,zAa hW p1,zAa hW p2⟩
 go_region_held3 (fun W=>Below V.heap.size V W∧W.cell? ⟨w.heap.size,1,none⟩=some (.int .i64 e2)∧W.cell? ⟨w.heap.size,2,none⟩=some (.int .i64 e3)∧W.cell? ⟨w.heap.size,3,none⟩=some (.int .i64 e4)∧W.cell? ⟨W1.heap.size,0,none⟩=some (.int .i64 e1)∧W.cell? ⟨W1.heap.size,1,none⟩=some (.int .i64 1)∧W.cell? ⟨W1.heap.size,2,none⟩=some (.int .i64 5))
  ((refine SO.out _ ?_;(with_reducible repeat' (first|assumption|refine bal ?_ _|refine Below.setCell ?_ ?_ _|refine Below.drew ?_|exact bzR _ _|exact nzR _|exact Below.size (by assumption)|refine jD ?_))))
  (first|(go_at_call 72;refine(id_V V _ _ ?_).mono ?_;(with_reducible repeat' (first|assumption|refine bal ?_ _|refine Below.setCell ?_ ?_ _|refine Below.drew ?_|exact bzR _ _|exact nzR _|exact Below.size (by assumption)|refine jD ?_));rintro x W ⟨rfl,Hm⟩)|(go_at_call 21;refine(of_V V _ _ _ _ ?_).mono ?_;(with_reducible repeat' (first|assumption|refine bal ?_ _|refine Below.setCell ?_ ?_ _|refine Below.drew ?_|exact bzR _ _|exact nzR _|exact Below.size (by assumption)|refine jD ?_));rintro x W ⟨rfl,Hm⟩)|(go_at_call 11;refine(scheck4 r _ _ _ _ _ _ _ _ _ _ _ _ _ _ rfl HR.out).mono ?_;rintro x W2 ⟨rfl,GB⟩;have Hm:=Below.trans (by with_reducible assumption) (GB.mono (Below.size (by with_reducible assumption)))))
 all_goals
  have HW:Hid (Bw w W2):=gl.trans (Hm.mono gl.size);clear SO gl HR GB Hm c1 c2 c3 p0 p1 p2;cases r
  ·simp only[show errV (zAd false)=.nilIface from rfl]
   go_wp2_with fail;go_ret;exact⟨rfl,HW.out⟩
  ·simp only[show errV (zAd true)=.iface 90 (.int .i64 1) from rfl]
   go_wp2_with fail;go_ret;exact⟨rfl,HW.out⟩
theorem zKh(e2 e3 e4 t1 t2 t3 t4 t5 t6:Int)(r:Bool)(w:World)(hr:[(t3,1,9),(t4,1,9),(t1,1,9999),(t2,1,9999),(t5,1,10000),(t6,1,10000)].any zAl=r) :
  Calls prog 40 #[.agg #[.int .i64 2,.int .i64 e2,.int .i64 e3,.int .i64 e4,.int .i64 t1,.int .i64 t2,.int .i64 t3,.int .i64 t4,.int .i64 t5,.int .i64 t6]] w
   fun x w'=>x=.returned (errV (zAd r))∧Bw w w':=by
 have HR:=hidT hr;clear hr;have Gf:Bw w (w.alloc (.cells #[.int .i64 2,.int .i64 e2,.int .i64 e3,.int .i64 e4,.int .i64 t1,.int .i64 t2,.int .i64 t3,.int .i64 t4,.int .i64 t5,.int .i64 t6] 40)):=(bzR _ _).alloc (nzR _) _;go_enter func40,ntmps40;go_wp2_with fail;refine(wAP t1 t2 t3 t4 t5 t6 r _ HR.out).mono ?_;rintro e W1⟨rfl,Hc⟩;have HW:Hid (Bw w W1):=Gf.trans (Hc.mono Gf.size);clear Hc Gf HR;cases r
 ·simp only[show errV (zAd false)=.nilIface from rfl]
  go_wp2_with fail;go_ret;exact⟨rfl,HW.out⟩
 ·simp only[show errV (zAd true)=.iface 90 (.int .i64 1) from rfl]
  go_wp2_with fail;go_ret;exact⟨rfl,HW.out⟩
def tdB(t:T):Bool:=decide (1≤t.frm) && decide (t.frm≤9) && decide (1≤t.into) && decide (t.into≤9) && decide (1≤t.maker) && decide (t.maker≤9999) && decide (1≤t.taker) && decide (t.taker≤9999) && decide (1≤t.price) && decide (t.price≤10000) && decide (1≤t.qty) && decide (t.qty≤10000)
def otB(e:Ev):Bool:=decide (1≤e.what) && decide (e.what≤5) && decide (1≤e.id) && decide (e.id≤9999) && decide (0≤e.qty) && decide (e.qty≤10000) && decide (0≤e.price) && decide (e.price≤10000)
def evB(e:Ev):Bool:=if e.what=2 then tdB e.tr else otB e
def badE(e:Ev):Bool:=!evB e
def tchk(l:List Ev):Int:=if 400<l.length then 4 else zAd (l.any badE)
theorem td_any(t1 t2 t3 t4 t5 t6:Int):[(t3,1,9),(t4,1,9),(t1,1,9999),(t2,1,9999),(t5,1,10000),(t6,1,10000)].any zAl = !tdB ⟨t1,t2,t3,t4,t5,t6⟩:=by
 rw[Bool.eq_iff_iff];simp[zAl,tdB];omega
theorem ot_any(e1 e2 e3 e4:Int)(t:T):[(e1,1,5),(e2,1,9999),(e3,0,10000),(e4,0,10000)].any zAl = !otB ⟨e1,e2,e3,e4,t⟩:=by
 rw[Bool.eq_iff_iff];simp[zAl,otB];omega
theorem zKi(e:Ev)(w:World) :
  Calls prog 40 #[.agg (evL e).toArray] w fun x w'=>x=.returned (errV (zAd (badE e)))∧Bw w w':=by
 obtain⟨e1,e2,e3,e4,⟨t1,t2,t3,t4,t5,t6⟩⟩:=e;by_cases h:e1=2
 ·subst h;exact zKh e2 e3 e4 t1 t2 t3 t4 t5 t6 _ w (td_any t1 t2 t3 t4 t5 t6)
 ·have hb:badE ⟨e1,e2,e3,e4,⟨t1,t2,t3,t4,t5,t6⟩⟩ = !otB ⟨e1,e2,e3,e4,⟨t1,t2,t3,t4,t5,t6⟩⟩:=by
   unfold badE evB;rw[if_neg h]
  rw[hb];exact zNb e1 e2 e3 e4 t1 t2 t3 t4 t5 t6 _ w (by simp[h]) (ot_any e1 e2 e3 e4 _)
theorem zRF(w:World):PredBelow prog 39 #[] (fun x=>.agg (evL x).toArray) badE w:=by
 intro W x hb;have hc:=hidT (fun V=>zKi x V)
 generalize badE x=r at *;obtain⟨e1,e2,e3,e4,⟨t1,t2,t3,t4,t5,t6⟩⟩:=x;have HC:Hid (∀V,Calls prog 40 #[.agg #[.int .i64 e1,.int .i64 e2,.int .i64 e3,.int .i64 e4,.int .i64 t1,.int .i64 t2,.int .i64 t3,.int .i64 t4,.int .i64 t5,.int .i64 t6]] V fun x w'=>x=.returned (errV (zAd r))∧Bw V w'):=hc
 clear hc;show Calls prog 39 #[.agg #[.int .i64 e1,.int .i64 e2,.int .i64 e3,.int .i64 e4,.int .i64 t1,.int .i64 t2,.int .i64 t3,.int .i64 t4,.int .i64 t5,.int .i64 t6]] W _
 have Gf:Bw w (W.alloc (.cells #[.int .i64 e1,.int .i64 e2,.int .i64 e3,.int .i64 e4,.int .i64 t1,.int .i64 t2,.int .i64 t3,.int .i64 t4,.int .i64 t5,.int .i64 t6] 40)):=hb.alloc hb.size _;cases r
 ·simp only[show errV (zAd false)=.nilIface from rfl] at HC
  go_enter func39,ntmps39;go_wp2_with fail;refine(HC.out _).mono ?_;rintro e W1⟨rfl,Hc⟩;have HW:Hid (Bw w W1):=Gf.trans (Hc.mono Gf.size);clear Hc Gf HC;go_wp2_with fail;go_ret;exact⟨rfl,HW.out⟩
 ·simp only[show errV (zAd true)=.iface 90 (.int .i64 1) from rfl] at HC
  go_enter func39,ntmps39;go_wp2_with fail;refine(HC.out _).mono ?_;rintro e W1⟨rfl,Hc⟩;have HW:Hid (Bw w W1):=Gf.trans (Hc.mono Gf.size);clear Hc Gf HC;go_wp2_with fail;go_ret;exact⟨rfl,HW.out⟩
theorem zPF(W:World):Calls prog 70 #[.slice none 0 0,.func (.func 39) #[] #[]] W fun e w'=>e=.returned (.int .i64 (-1))∧Bw W w':=by
 go_enter func70,ntmps70
 go_wp2
 go_loopg [5,8] 0 (fun _ _ s8 wr=>s8=.int .i64 0∧wr=W)
 case atStart=>exact⟨rfl,rfl⟩
 case round=>
  obtain⟨rfl,rfl⟩:=hrel
  go_wp2
  go_ret;exact⟨rfl,bzR _ _⟩
theorem zRG(W:World):Calls prog 38 #[.slice none 0 0,.func (.func 39) #[] #[]] W fun e w'=>e=.returned (.bool false)∧Bw W w':=by
 go_enter func38,ntmps38;go_wp2_with fail;refine(zPF _).mono ?_;rintro e w'⟨rfl,hb⟩;go_wp2_with fail;go_ret;exact⟨rfl,hb⟩
theorem wAf(v:Value)(zs:List Ev)(w:World)(h:EL w v zs) :
  Calls prog 18 #[v] w fun x w'=>x=.returned (errV (tchk zs))∧Bw w w':=by
 have eg:∀args w,(callFunc 39 args).run prog w=.ok (.enter 39 args) w:=enters_of func39 (by kernel_rfl) rfl
 have Hf:zs.length≤400→Calls prog 38 #[v,.func (.func 39) #[] #[]] w fun e w'=>e=.returned (.bool (zs.any badE))∧Bw w w':=by
  intro hn;rcases h with ⟨rfl,rfl⟩|⟨b,o,c,rfl,h2,h3,h4,h5⟩
  ·exact zRG w
  ·have:=AnyQ.slices_ContainsFunc Tryz.lh8e 10 isAgg40 sizeOf40 evL (fun x=>rfl) badE 39 #[] eg b o zs.length c zs w (zRF w) (nzR _) (by omega) h4 h5
   rw[List.take_length] at this;exact this
 obtain⟨q,c,rfl,hn⟩:=h.form;clear h;unfold tchk;have HC:=hidT Hf;clear Hf;generalize zs.any badE=r at *;generalize zs.length=n at *;have Hh:(n:Int)≤9223372036854775807:=by omega
 by_cases h4:400<n
 ·have bq:(400:Int)<(n:Int):=by omega
  rw[if_pos h4];go_enter func18,ntmps18;go_wp2_with fail;go_ret;exact⟨rfl,bzR _ _⟩
 ·have bq:¬(400:Int)<(n:Int):=by omega
  rw[if_neg h4];have hk:=hidT (HC.out (by omega))
  clear HC;cases r
  ·go_enter func18,ntmps18;go_wp2_with fail;refine hk.out.mono ?_;rintro e w'⟨rfl,Uo⟩;go_wp2_with fail;go_ret;exact⟨rfl,Uo⟩
  ·go_enter func18,ntmps18;go_wp2_with fail;refine hk.out.mono ?_;rintro e w'⟨rfl,Uo⟩;go_wp2_with fail;go_ret;exact⟨rfl,Uo⟩
end tap
end Go.Proofs.YtnfilcpnneckkaaGreat
