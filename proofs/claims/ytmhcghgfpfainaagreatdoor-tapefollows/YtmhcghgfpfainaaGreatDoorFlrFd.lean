import Derived.Test.YtmhcghgfpfainaaGreatDoorFlrDo
set_option maxHeartbeats 8000000
set_option maxRecDepth 100000
namespace Go.Proofs.YtmhcghgfpfainaaGreatDoor
open Tryz
namespace flr
open Go.RowKit
open que (R rchk)
open sid (L DL LS)
open mee (T tV OwnT sumT)
open ord (O oV chk errV wAa wAb prB)
open que (bal)
open bok (zAc zAf)
open wak (OwnM OwnQ St SL Lies oL idx Trn wAh wAy)
def offK(off cap:Nat):Nat:=if cap=1 then off else off+9
theorem zNC{w:World}{base g off m cap:Nat}{x:Sl}{tl:List Sl}(h:OwnM w base 119 9 (.slice (some ⟨g,off,none⟩) (m+1) cap) (m+1) (flatK (x::tl)))(hm:m=tl.length):OwnM w base 119 9 (.slice (some ⟨g,offK off cap,none⟩) m (cap - 1)) m (flatK tl):=by
 obtain⟨h1,h2,⟨cur,h3,ek⟩,h4,h5,h6,h7⟩:=wAh h;rw[zFo] at h1 h6;have hx:(slL x).length=9:=rfl;rw[jE,hx] at h1;refine wAy (by omega) h2 h3 (by unfold offK;split <;>omega) (by omega) (by omega) fun j u hu=>?_
 have hj:j<(flatK tl).length:=(List.getElem?_eq_some_iff.1 hu).1;have e:offK off cap+j=off+(9+j):=by unfold offK;rw[if_neg (by omega)];omega
 rw[e];refine h6 (9+j) u ?_;rw[jV (by rw[hx];omega),hx,show 9+j - 9=j by omega]
 exact hu
theorem zKD{w:World}{base:Nat}{q:Option Addr}{m cap:Nat}{x:Sl}{tl:List Sl}(h:OwnM w base 119 9 (.slice q (m+1) cap) (m+1) (flatK (x::tl))):∃g off,q=some ⟨g,off,none⟩∧g<w.heap.size∧m+1≤cap∧cap≤9223372036854775807∧(∀i u,(slL x)[i]?=some u→w.cell? ⟨g,off+i,none⟩=some u):=by
 rcases h.2 with ⟨e,hn⟩|⟨g,off,cap',cur,e,_⟩
 ·omega
 ·cases e;obtain⟨h1,h2,⟨cur',h3,ek⟩,h4,h5,h6,h7⟩:=wAh h;refine⟨g,off,rfl,(gzE.1 h3).1,h4,by simpa [maxLen] using h5,fun i u hu=>h6 i u ?_⟩
  rw[zFo,List.getElem?_append_left (List.getElem?_eq_some_iff.1 hu).1];exact hu
theorem row9{w:World}{B:Nat}{x0 x1 x2 x3 x4 x5 x6 x7 x8:Value}{t:TypeId}(h:w.heap[B]?=some (.cells #[x0,x1,x2,x3,x4,x5,x6,x7,x8] t (0,0))) :
  w.cell? ⟨B,0,none⟩=some x0∧w.cell? ⟨B,1,none⟩=some x1∧w.cell? ⟨B,2,none⟩=some x2∧w.cell? ⟨B,3,none⟩=some x3∧w.cell? ⟨B,4,none⟩=some x4∧w.cell? ⟨B,5,none⟩=some x5∧w.cell? ⟨B,6,none⟩=some x6∧w.cell? ⟨B,7,none⟩=some x7∧w.cell? ⟨B,8,none⟩=some x8:=
 ⟨by simp[World.cell?,h],by simp[World.cell?,h],by simp[World.cell?,h],by simp[World.cell?,h],by simp[World.cell?,h],by simp[World.cell?,h],by simp[World.cell?,h],by simp[World.cell?,h],by simp[World.cell?,h]⟩
theorem there9{w:World}{b:Nat}{z0 z1 z2 z3 z4 z5 z6 z7 z8:Value}{t:TypeId}(h:w.heap[b]?=some (.cells #[z0,z1,z2,z3,z4,z5,z6,z7,z8] t (0,0))):w.there b 0 9:=by
 intro j hj;have hc:w.cell? ⟨b,0+j,none⟩=(#[z0,z1,z2,z3,z4,z5,z6,z7,z8])[j]?:=by rw[Nat.zero_add];simp[World.cell?,h]
 have hf:w.frozen? ⟨b,0+j,none⟩=false:=by simp[World.frozen?,h]
 rw[hc,hf];have:j=0∨j=1∨j=2∨j=3∨j=4∨j=5∨j=6∨j=7∨j=8:=by omega
 rcases this with rfl|rfl|rfl|rfl|rfl|rfl|rfl|rfl|rfl <;>exact⟨rfl,rfl⟩
theorem stored9{w:World}{b:Nat}{z0 z1 z2 z3 z4 z5 z6 z7 z8:Value}{t:TypeId}(v0 v1 v2 v3 v4 v5 v6 v7 v8:Value)(h:w.heap[b]?=some (.cells #[z0,z1,z2,z3,z4,z5,z6,z7,z8] t (0,0))):(w.setCells b 0 [v0,v1,v2,v3,v4,v5,v6,v7,v8]).heap[b]?=some (.cells #[v0,v1,v2,v3,v4,v5,v6,v7,v8] t (0,0)):=by
 simp only[World.setCells];have h0:=jB w b 0 _ _ v0 h;have h1:=jB _ b 1 _ _ v1 h0;have h2:=jB _ b 2 _ _ v2 h1;have h3:=jB _ b 3 _ _ v3 h2;have h4:=jB _ b 4 _ _ v4 h3;have h5:=jB _ b 5 _ _ v5 h4;have h6:=jB _ b 6 _ _ v6 h5;have h7:=jB _ b 7 _ _ v7 h6;have h8:=jB _ b 8 _ _ v8 h7;simpa using h8
structure UI (b t:Nat) (w:World) (X:Rs) (k:Nat) (wr:World):Prop where
 mem:∃s1 v1,TM wr b t s1 v1∧Wf s1∧s1.row.length+s1.ws.length≤k∧s1.evs.length+1000*k≤900000∧X=zBv k s1
 tn:Tn tB b w wr
theorem zKE(b t n:Nat)(s:TS)(v:TV)(w:World)(h:TM w b t s v)(hw:Wf s)(hn:s.row.length+s.ws.length≤n)(hl:s.evs.length+1000*n≤900000) :
  Calls prog 23 #[.pointer (some ⟨t,0,none⟩)] w (Res tB b t w (zBv n s)):=by
 obtain⟨X,hX⟩:∃X,X=zBv n s:=⟨_,rfl⟩;rw[←hX];have H0:Hid (UI b t w X n w):=⟨⟨s,v,h,hw,hn,hl,hX⟩,Tn.refl _ _ _⟩;clear h hw hn hl hX;go_enter func23,ntmps23;go_wp2_with fail;go_loopg [3,4] n (fun gg _ _ wr=>∃ (kk:Nat),kk≤gg∧Aside (UI b t w X kk wr))
 case atStart=>exact⟨n,nzR _,H0.out⟩
 case round=>
  obtain⟨kk,Hs,HA⟩:=hrel;clear H0;obtain⟨⟨s1,v1,hM,GS,Hd,Ue,Ud⟩,Uz⟩:=HA.out;have bf:=hM.nk;have Hh:=hM.row;have HM:=hidF hM;have HTN:=hidF Uz;obtain⟨-,-,-,-,-,-,-,y7,yf⟩:=hM.cells;cases hr:s1.row with
  | nil=>
   rw[hr] at bf;have gK:Hid (Res tB b t w X (.returned .nilIface) wr):=⟨Uz,by rw[Ud,zBF _ _ hr];exact⟨rfl,v1,hM⟩⟩
   obtain⟨r1,r2,r3,r4,r5,r6,r7,r8,r9,qe,ne,ce,qk,nk,ck⟩:=v1;simp only[List.length_nil] at y7 bf;subst bf;clear HA hM GS Hd Ue Ud Uz Hh HM HTN yf hr;go_wp2_with fail;go_ret;exact gK.out
  | cons x tl=>
   rw[hr] at bf Hh Hd;simp only[jG] at bf Hd;obtain⟨k2,rfl⟩:∃k2,kk=k2+1:=⟨kk - 1,by omega⟩
   rw[zBn _ _ hr] at Ud;obtain⟨⟨a1,a2,a3,a4,a5,a6,a7,a8⟩,p⟩:=x;simp only[] at Ud;rw[jG] at Hh;obtain⟨r1,r2,r3,r4,r5,r6,r7,r8,r9,qe,ne,ce,qk,nk,ck⟩:=v1;simp only[] at y7 bf Hh;obtain⟨m,hm⟩:∃m,m=tl.length:=⟨_,rfl⟩;rw[←hm] at bf Hh Hd;subst bf;obtain⟨g,off,rfl,m8,bW,ga,gu⟩:=zKD Hh;have BA:Hid (wr.rangeAt g off [.int .i64 a1,.int .i64 a2,.int .i64 a3,.int .i64 a4,.int .i64 a5,.int .i64 a6,.int .i64 a7,.int .i64 a8,.int .i64 p]):=fun i u hu=>gu i u hu
   have yf7:=yf 7;obtain⟨W0,p9⟩:∃W0,W0=wr.alloc (.cells #[.int .i64 0,.int .i64 0,.int .i64 0,.int .i64 0,.int .i64 0,.int .i64 0,.int .i64 0,.int .i64 0,.int .i64 0] 119):=⟨_,rfl⟩;have Uo:Below wr.heap.size wr W0:=by rw[p9];exact(bzR _ _).alloc (nzR _) _
   have hr0:W0.heap[wr.heap.size]?=some (.cells #[.int .i64 0,.int .i64 0,.int .i64 0,.int .i64 0,.int .i64 0,.int .i64 0,.int .i64 0,.int .i64 0,.int .i64 0] 119 (0,0)):=by rw[p9];exact jA wr _
   obtain⟨W1,gb⟩:∃W1,W1=W0.setCells wr.heap.size 0 [.int .i64 a1,.int .i64 a2,.int .i64 a3,.int .i64 a4,.int .i64 a5,.int .i64 a6,.int .i64 a7,.int .i64 a8,.int .i64 p]:=⟨_,rfl⟩;have Ha:Below wr.heap.size wr W1:=by rw[gb];exact Uo.grown (wak.wAi _ _ _ _) Uo.size (fun k hk=>by cases hk;exact nzR _)
   have go:W1.heap[wr.heap.size]?=some (.cells #[.int .i64 a1,.int .i64 a2,.int .i64 a3,.int .i64 a4,.int .i64 a5,.int .i64 a6,.int .i64 a7,.int .i64 a8,.int .i64 p] 119 (0,0)):=by rw[gb];exact stored9 _ _ _ _ _ _ _ _ _ hr0
   have HTH:=hidF (there9 hr0);obtain⟨Z,hZ⟩:∃Z,Z=wr.heap.size:=⟨_,rfl⟩;rw[←hZ] at go HTH gb;have htz:t<Z:=by rw[hZ];exact hM.lt
   have gV:=zNC (Hh.below Ha) hm;rw[hm] at gV;have Mo:=hM.below Ha;obtain⟨Cu,mW,-⟩:=Mo.rowed gV (wak.wAu (bzR _ _) _);rw[←hm] at Cu mW;have H5:(W1.setCell ⟨t,7,none⟩ (.slice (some ⟨g,offK off ck,none⟩) m (ck - 1))).heap[Z]?=some (.cells #[.int .i64 a1,.int .i64 a2,.int .i64 a3,.int .i64 a4,.int .i64 a5,.int .i64 a6,.int .i64 a7,.int .i64 a8,.int .i64 p] 119 (0,0)):=((wak.wAc W1 t 7 _).block Z (gzE.1 go).1 (fun e=>by cases e;omega)).trans go
   have Gx:=hidF Cu;have GW:=hidF ((Uz.trans (Tn.below Ha hM.base)).trans mW);have Uk:=hidF H5;have BG:Hid (Wf { s1 with row:=tl }):=⟨GS.m0,GS.m3,GS.book,GS.ok,GS.ws⟩
   have GE:=hidF Ud;have UP:=hidF Ue;have DW:Hid (tl.length+s1.ws.length≤k2):=by show _≤_;omega
   have HGG:=hidF Hs;have pS:=hidF (And.intro Mo.cells.2.2.2.2.2.2.2.1 (Mo.cells.2.2.2.2.2.2.2.2 7));simp only[] at pS;have g1:((m+1:Nat):Int)≤(ck:Int):=by omega
   have g2:(1:Int)≤((m+1:Nat):Int):=by omega
   have g3:(0:Int)<((m+1:Nat):Int):=by omega
   clear hm hM GS Hd Ue Ud Uz Hh HM HTN yf hr gu Mo gV Cu mW H5 go hr0 Uo Ha HA m8 htz Hs;go_upto_region 2 with fail
   refine wp_region_lit ?_
   iterate 5 (refine wpList_step fun K hK=>?_;go_simp;refine hK _ _ ?_;clear hK K;try simp only[Act.put,List.setIfInBounds_toArray,List.set_cons_zero,List.set_cons_succ])
   refine wpList_load_mid rfl 119 (.tmp 15) rfl g off rfl [.int .i64 a1,.int .i64 a2,.int .i64 a3,.int .i64 a4,.int .i64 a5,.int .i64 a6,.int .i64 a7,.int .i64 a8,.int .i64 p] _ BA.out underlying119 rfl (by kernel_rfl) ?_
   iterate 1 (refine wpList_step fun K hK=>?_;go_simp;refine hK _ _ ?_;clear hK K;try simp only[Act.put,List.setIfInBounds_toArray,List.set_cons_zero,List.set_cons_succ])
   rw[←p9];simp only[←hZ];refine wpList_store_mid rfl 119 (.tmp 3) (.tmp 16) rfl Z 0 #[.int .i64 a1,.int .i64 a2,.int .i64 a3,.int .i64 a4,.int .i64 a5,.int .i64 a6,.int .i64 a7,.int .i64 a8,.int .i64 p] rfl rfl HTH.out (by kernel_rfl) (by simp[Value.oneCell']) ?_
   show wpList _ _ _ _ _ (W0.setCells Z 0 [.int .i64 a1,.int .i64 a2,.int .i64 a3,.int .i64 a4,.int .i64 a5,.int .i64 a6,.int .i64 a7,.int .i64 a8,.int .i64 p])
   rw[←gb];clear p9 gb hZ HTH BA;go_upto_region 3 with fail
   clear y7 yf7;obtain⟨y71,yf71⟩:=pS.out;unfold offK at Gx GW Uk;by_cases Gv:ck=1
   case' pos=>
    have CU:m=0:=(by omega);subst Gv;subst CU;simp only[if_true,Nat.sub_self] at Gx GW Uk;clear g1 g2 g3 bW ga pS;simp only[Nat.zero_add] at y71 ⊢;have g1:=True.intro;have g2:=True.intro;have g3:=True.intro;have bW:=True.intro;have ga:=True.intro;have pS:=True.intro
   case' neg=>
    simp only[if_neg Gv] at Gx GW Uk
   case' pos=>
    go_upto_region 4 with fail
    generalize W1.setCell ⟨t,7,none⟩ (.slice (some ⟨g,off,none⟩) 0 0)=W2 at *
   case' neg=>
    go_upto_region 4 with fail
    generalize W1.setCell ⟨t,7,none⟩ (.slice (some ⟨g,off+9,none⟩) m (ck - 1))=W2 at *
   all_goals
    clear y71 yf71 g1 g2 g3 bW ga pS;obtain⟨z0,z1,z2,z3,z4,z5,z6,z7,z8⟩:=row9 Uk.out;have ua:=hidF (zGa b t _ _ 4 a1 a6 p W2 Gx.out (by have:=UP.out;show s1.evs.length≤_;omega))
    go_wp2_with fail;refine ua.out.mono ?_;rintro e w3⟨rfl,⟨v3,mc⟩,CE⟩;have Ce:=hidF (CE.kp.typ _ _ _ Uk.out (by decide))
    have GY:=hidF (GW.out.trans (CE.mono tA_tB));have D9:=hidF (zEA BG.out 4 a1 a6 p);have Dk:Hid ((tell { s1 with row:=tl } 4 a1 a6 p).evs.length≤s1.evs.length+1):=(by show _≤_;simp[tell]);have dj:=hidF (zPY b t _ v3 a1 a2 a3 a4 a5 a6 a7 a8 w3 mc D9.out (by have:=UP.out;have:=Dk.out;omega) (by have:=UP.out;have:=DW.out;show tl.length≤_;omega))
    clear z0 z1 z2 z3 z4 z5 z6 z7 z8 mc CE ua;obtain⟨z0,z1,z2,z3,z4,z5,z6,z7,z8⟩:=row9 Ce.out;go_wp2_with fail;refine dj.out.mono ?_;intro e w4 hR;clear z0 z1 z2 z3 z4 z5 z6 z7 z8;have uZ:=hidF (GY.out.trans hR.1);rcases zCR hR with ⟨s5,v5,hx5,rfl,PU⟩|⟨k,rfl,HE⟩
    rotate_left
    ·have gK:Hid (Res tB b t w X (.returned (.iface 80 (.int .i64 k))) w4):=zAD (by rw[GE.out,HE.out.1];rfl) HE.out.2 uZ.out
     clear hR HE;go_wp2_with fail;go_ret;exact gK.out
    have HUI:Hid (UI b t w X k2 w4):=by
     have g:=zGe D9.out hx5;refine⟨⟨s5,v5,PU.out,g.wf,?_,?_,?_⟩,uZ.out⟩
     ·have h1:=g.row;have h2:=DW.out;have h3:(tell { s1 with row:=tl } 4 a1 a6 p).row.length+(tell { s1 with row:=tl } 4 a1 a6 p).ws.length=tl.length+s1.ws.length:=rfl
      omega
     ·have h1:=g.evs;have h2:=UP.out;have h3:=Dk.out;omega
     ·rw[GE.out,hx5];rfl
    clear hR hx5 PU;go_wp2_with fail;go_roundg k2
    case measure=>have:=HGG.out;omega
    case rel=>exact⟨k2,nzR _,HUI.out⟩
end flr
namespace flr
open Go.RowKit
open que (R rchk)
open sid (L DL LS)
open mee (T tV OwnT sumT)
open ord (O oV chk errV wAa wAb prB)
open que (bal)
open bok (zAc zAf)
open pur (Pz Pu Ok flatP pL)
open wak (OwnM OwnQ St SL Lies oL idx Trn)
def WfF(f:FS):Prop:=Wf (zBw f)
def DoPost(F:Nat)(f:FS)(c:Cm)(w:World)(e:Ending)(w' : World):Prop:=
 (∀s,fdo f c=.ok s→(∃q m k,e=.returned (.tuple #[.slice q m k,.nilIface])∧OwnM w' w.heap.size 31 10 (.slice q m k) s.evs.length (zAH s.evs))∧(∃v',FM w' F (zEw s) v')∧w.grownBy w' (some F))∧
 (∀k,fdo f c=.error k→¬k=0∧e=.returned (.tuple #[.slice none 0 0,.iface 80 (.int .i64 k)])∧Bw w w')
theorem zSc(F:Nat)(f:FS)(v:FV)(what a1 a2 a3 a4 a5 a6 a7 a8 who n:Int)(w:World)(h:FM w F f v)(hw:WfF f)(hid:(Lit.int .i64 a1).wf=true) :
  Calls prog 6 #[.pointer (some ⟨F,0,none⟩),.agg #[.int .i64 what,.int .i64 a1,.int .i64 a2,.int .i64 a3,.int .i64 a4,.int .i64 a5,.int .i64 a6,.int .i64 a7,.int .i64 a8,.int .i64 who,.int .i64 n]] w fun e w'=>DoPost F f ⟨what,⟨a1,a2,a3,a4,a5,a6,a7,a8⟩,who,n⟩ w e w':=by
 obtain⟨W,hW⟩:∃W,W=w.alloc (.cells #[.int .i64 what,.int .i64 a1,.int .i64 a2,.int .i64 a3,.int .i64 a4,.int .i64 a5,.int .i64 a6,.int .i64 a7,.int .i64 a8,.int .i64 who,.int .i64 n] 42):=⟨_,rfl⟩;have Hk:Below w.heap.size w W:=by rw[hW];exact(bzR _ _).alloc (nzR _) _
 have Hd:W.heap[w.heap.size]?=some (.cells #[.int .i64 what,.int .i64 a1,.int .i64 a2,.int .i64 a3,.int .i64 a4,.int .i64 a5,.int .i64 a6,.int .i64 a7,.int .i64 a8,.int .i64 who,.int .i64 n] 42 (0,0)):=by rw[hW];exact jA w _
 obtain⟨G,hG⟩:∃G,G=w.heap.size:=⟨_,rfl⟩;rw[←hG] at Hd;have uC:=hidF (zKA F f v W (h.below Hk) hw.ws);have HGS:=hidF hG;have mw:=hidF Hd;have gI:=hidF Hk;have mu:=hidF h;have HW:=hidF hw;have Dp:=hidF hid;obtain⟨X,hX⟩:∃X,X=doC (zBw f) ⟨what,⟨a1,a2,a3,a4,a5,a6,a7,a8⟩,who,n⟩:=⟨_,rfl⟩;have HX:=hidF hX;obtain⟨Y,hY⟩:∃Y,Y=fdo f ⟨what,⟨a1,a2,a3,a4,a5,a6,a7,a8⟩,who,n⟩:=⟨_,rfl⟩;have HY:Hid (Y=X.bind fun s=>zBv (s.row.length+s.ws.length) s):=by show _=_;rw[hY,hX];rfl
 unfold DoPost;rw[←hY];clear h hw hid Hk Hd hX hY;go_enter func6,ntmps6;go_wp2_with fail;rw[←hW];simp only[←hG];clear hW hG;refine uC.out.mono ?_;rintro e w1⟨sp,vw,pp,rfl,Gc,hpu,cn,Ha⟩;obtain⟨W2,H9⟩:∃W2,W2=w1.alloc (.cells #[.int .i64 f.mode,.slice v.q1 v.n1 v.c1,.slice v.q2 v.n2 v.c2,.pointer (some ⟨sp,0,none⟩),.pointer (some ⟨pp,0,none⟩),.int .i64 f.last,.slice none 0 0,.slice none 0 0] 77):=⟨_,rfl⟩;have Hc:Below w1.heap.size w1 W2:=by rw[H9];exact(bzR _ _).alloc (nzR _) _
 have H5:W2.heap[w1.heap.size]?=some (.cells #[.int .i64 f.mode,.slice v.q1 v.n1 v.c1,.slice v.q2 v.n2 v.c2,.pointer (some ⟨sp,0,none⟩),.pointer (some ⟨pp,0,none⟩),.int .i64 f.last,.slice none 0 0,.slice none 0 0] 77 (0,0)):=by rw[H9];exact jA w1 _
 have mp:=gI.out.trans (Ha.mono gI.out.size);have uE:=mp.trans (Hc.mono mp.size);have Ug:Kp [] w W2:=Kp.below uE;have HTM:Hid (TM W2 w.heap.size w1.heap.size (zBw f) ⟨v.q1,v.n1,v.c1,v.q2,v.n2,v.c2,sp,vw,pp,none,0,0,none,0,0⟩):=by
  refine⟨H5,mp.size,Ug.dl mu.out.buys (by simp) (by simp),Ug.dl mu.out.sells (by simp) (by simp),?_,?_,jM gI.out.size cn,⟨rfl,.inl ⟨rfl,rfl⟩⟩,⟨rfl,.inl ⟨rfl,rfl⟩⟩⟩
  ·exact(zGq Gc gI.out.size).below Hc
  ·exact(Kp.below (S:=[]) Hc).pu hpu (by simp)
 have H6:=hidF uE;have Uk:=hidF (zBH (zBH mw.out Ha) Hc);have MA:=hidF (do_any w.heap.size w1.heap.size (zBw f) _ a1 a2 a3 a4 a5 a6 a7 a8 who n W2 what HTM.out HW.out (jL _) (jL _) Dp.out);rw[←HX.out] at MA;clear Gc hpu cn Ha Hc H5 mp uE Ug uC mw gI;go_upto_region 2 with fail
 rw[←H9];clear H9;obtain⟨t,ht⟩:∃t,t=w1.heap.size:=⟨_,rfl⟩;rw[←ht] at MA HTM;simp only[←ht];clear ht;obtain⟨c0,c1,c2,c3,c4,c5,c6,c7,c8,c9,c10⟩:=row11 Uk.out;go_wp2_with fail;refine MA.out.mono ?_;intro e w3 hR;have GY:=hidF hR.1;clear c0 c1 c2 c3 c4 c5 c6 c7 c8 c9 c10 MA;rcases zCR hR with ⟨s1,v1,gM,rfl,uJ⟩|⟨k,rfl,HE⟩
 rotate_left
 ·have gQ:Hid ((∀s,Y=.ok s→False)∧(∀k',Y=.error k'→¬k'=0∧k'=k)∧Below w.heap.size w w3):=by
   have hy:Y=.error k:=by rw[HY.out,HE.out.1];rfl
   refine⟨fun s e=>?_,fun k' e=>?_,?_⟩
   ·rw[hy] at e;cases e
   ·rw[hy] at e;cases e;exact⟨HE.out.2,rfl⟩
   ·exact H6.out.trans GY.out.bel
  clear hR HE;go_wp2_with fail
  go_ret2
  refine⟨fun s e=>(gQ.out.1 s e).elim,fun k' e=>?_⟩
  obtain⟨h1,rfl⟩:=gQ.out.2.1 k' e;exact⟨h1,rfl,gQ.out.2.2⟩
 have HG1:=hidF (zJf HW.out (HX.out.symm.trans gM));have HY1:Hid (Y=zBv (s1.row.length+s1.ws.length) s1):=by show _=_;rw[HY.out,gM];rfl
 have HWU:=hidF (zKE w.heap.size t (s1.row.length+s1.ws.length) s1 v1 w3 uJ.out HG1.out.wf (nzR _) (by have h1:=HG1.out.row;have h2:=HG1.out.evs;have h3:=HW.out.ws;have h4:(zBw f).row.length=0:=rfl;have h5:(zBw f).evs.length=0:=rfl;omega))
 rw[←HY1.out] at HWU;clear hR gM HX HY HY1 HG1;go_wp2_with fail;refine HWU.out.mono ?_;intro e w4 hR;have uZ:=hidF (GY.out.trans hR.1);clear HWU;rcases zCR hR with ⟨s2,v2,UX,rfl,Gx⟩|⟨k,rfl,HE⟩
 rotate_left
 ·have gQ:Hid ((∀s,Y=.ok s→False)∧(∀k',Y=.error k'→¬k'=0∧k'=k)∧Below w.heap.size w w4):=by
   have hy:Y=.error k:=HE.out.1;refine⟨fun s e=>?_,fun k' e=>?_,?_⟩
   ·rw[hy] at e;cases e
   ·rw[hy] at e;cases e;exact⟨HE.out.2,rfl⟩
   ·exact H6.out.trans uZ.out.bel
  clear hR HE;go_wp2_with fail
  go_ret2
  refine⟨fun s e=>(gQ.out.1 s e).elim,fun k' e=>?_⟩
  obtain⟨h1,rfl⟩:=gQ.out.2.1 k' e;exact⟨h1,rfl,gQ.out.2.2⟩
 have HYX:=hidF UX;have Uc:=H6.out.trans uZ.out.bel;have hFl:=mu.out.lt;have hFb:w4.heap[F]?=some (.cells (rowF f v) 73 (0,0)):=(Uc.block F hFl).trans mu.out.blk;obtain⟨x0,x1,x2,x3,x4,x5,x6,x7,-⟩:=Gx.out.cells;obtain⟨f0,f1,f2,f3,f4,f5,ff⟩:=zEP hFb;have ff0:=ff 0;have ff1:=ff 1;have ff2:=ff 2;have ff3:=ff 3;have ff4:=ff 4;have ff5:=ff 5;have htF:¬t=F:=by have:=Gx.out.le;omega
 obtain⟨r1,r2,r3,r4,r5,r6,r7,vw2,r9,qe,ne,ce,qk,nk,ck⟩:=v2;simp only[] at x0 x1 x2 x3 x4 x5 x6 x7;have hg:=gr6 w4 F (.int .i64 s2.mode) (.slice r1 r2 r3) (.slice r4 r5 r6) (.pointer (some ⟨r7,0,none⟩)) (.pointer (some ⟨r9,0,none⟩)) (.int .i64 s2.last);have hk:Kp [73] w4 _:=Kp.grown hg hFb (by simp)
 have UJ:Hid (FM ((((((w4.setCell ⟨F,0,none⟩ (.int .i64 s2.mode)).setCell ⟨F,1,none⟩ (.slice r1 r2 r3)).setCell ⟨F,2,none⟩ (.slice r4 r5 r6)).setCell ⟨F,3,none⟩ (.pointer (some ⟨r7,0,none⟩))).setCell ⟨F,4,none⟩ (.pointer (some ⟨r9,0,none⟩))).setCell ⟨F,5,none⟩ (.int .i64 s2.last)) F (zEw s2) ⟨r1,r2,r3,r4,r5,r6,r7,vw2,r9⟩∧w.grownBy ((((((w4.setCell ⟨F,0,none⟩ (.int .i64 s2.mode)).setCell ⟨F,1,none⟩ (.slice r1 r2 r3)).setCell ⟨F,2,none⟩ (.slice r4 r5 r6)).setCell ⟨F,3,none⟩ (.pointer (some ⟨r7,0,none⟩))).setCell ⟨F,4,none⟩ (.pointer (some ⟨r9,0,none⟩))).setCell ⟨F,5,none⟩ (.int .i64 s2.last)) (some F)∧OwnM ((((((w4.setCell ⟨F,0,none⟩ (.int .i64 s2.mode)).setCell ⟨F,1,none⟩ (.slice r1 r2 r3)).setCell ⟨F,2,none⟩ (.slice r4 r5 r6)).setCell ⟨F,3,none⟩ (.pointer (some ⟨r7,0,none⟩))).setCell ⟨F,4,none⟩ (.pointer (some ⟨r9,0,none⟩))).setCell ⟨F,5,none⟩ (.int .i64 s2.last)) w.heap.size 31 10 (.slice qe ne ce) s2.evs.length (zAH s2.evs)):=by
  refine⟨⟨set6 hFb _ _ _ _ _ _,hk.dl Gx.out.buys (by decide) (by decide),hk.dl Gx.out.sells (by decide) (by decide),hk.st (zGq Gx.out.stops (jL _)) (by decide) (by decide),hk.pu Gx.out.purs (by decide)⟩,?_,hk.own Gx.out.evs (by decide)⟩
  exact wak.wAe (wak.wAu Uc _) hg
 have HTB:Hid (((((((w4.setCell ⟨F,0,none⟩ (.int .i64 s2.mode)).setCell ⟨F,1,none⟩ (.slice r1 r2 r3)).setCell ⟨F,2,none⟩ (.slice r4 r5 r6)).setCell ⟨F,3,none⟩ (.pointer (some ⟨r7,0,none⟩))).setCell ⟨F,4,none⟩ (.pointer (some ⟨r9,0,none⟩))).setCell ⟨F,5,none⟩ (.int .i64 s2.last)).heap[t]?=w4.heap[t]?):=hg.block t Gx.out.lt (fun e=>htF (by cases e;rfl))
 have Bm:=hidF Gx.out.blk;clear hR UX Uc hFb hg hk ff Gx uZ GY H6 mu uJ HTM;go_upto_region 9 with fail
 generalize (((((w4.setCell ⟨F,0,none⟩ (.int .i64 s2.mode)).setCell ⟨F,1,none⟩ (.slice r1 r2 r3)).setCell ⟨F,2,none⟩ (.slice r4 r5 r6)).setCell ⟨F,3,none⟩ (.pointer (some ⟨r7,0,none⟩))).setCell ⟨F,4,none⟩ (.pointer (some ⟨r9,0,none⟩))).setCell ⟨F,5,none⟩ (.int .i64 s2.last)=Z at *;have dD:Z.heap[t]?=some _:=HTB.out.trans Bm.out;clear x0 x1 x2 x3 x4 x5 x6 x7 f0 f1 f2 f3 f4 f5 ff0 ff1 ff2 ff3 ff4 ff5;obtain⟨-,-,-,-,-,-,x6,-,-⟩:=wak.row8 dD;clear dD HTB Bm;go_wp2_with fail
 go_ret2
 refine⟨fun s e=>?_,fun k' e=>?_⟩
 ·have h1:=HYX.out;rw[e] at h1;cases h1;exact⟨⟨_,_,_,rfl,UJ.out.2.2⟩,⟨_,UJ.out.1⟩,UJ.out.2.1⟩
 ·have h1:=HYX.out;rw[e] at h1;cases h1
end flr
end Go.Proofs.YtmhcghgfpfainaaGreatDoor
