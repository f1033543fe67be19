import Derived.Test.YtifjhlgjgnnnpaaGreatFlrSwp
namespace Go.Proofs.YtifjhlgjgnnnpaaGreat
namespace flr
open Go.RowKit que sid mee bok
open ord (O oV chk prB mB)
open kin (setB setS setG setE stayB keptR mayK restE)
open slf (V Fine sE srefE lfV gnV repB repS)
open mrg (resv forC forS backE backC backS bkE bkC putC putS ctE)
open pur (Pz Ok Fz ix on on_at zAz adC adH adS adT newL payE payP giveE giveP holdE holdP freeE freeP tradeE tradeP tradeL)
open tickP (priceB sideB)
def richP(k:Nat):List Pz:=(List.range 9).map fun(i:Nat)=>⟨(i:Int)+1,if i<k then 500000000 else 0,0,if i<k then 100000 else 0,0⟩
theorem rich_new:richP 0=newL 9:=rfl
theorem zKI:∀k:Nat,k<9→payE (richP k) ((k:Int)+1) 500000000=0∧giveE (payP (richP k) ((k:Int)+1) 500000000) ((k:Int)+1) 100000=0∧giveP (payP (richP k) ((k:Int)+1) 500000000) ((k:Int)+1) 100000=richP (k+1):=by
 intro k hk
 have:k=0∨k=1∨k=2∨k=3∨k=4∨k=5∨k=6∨k=7∨k=8:=by omega
 rcases this with rfl|rfl|rfl|rfl|rfl|rfl|rfl|rfl|rfl <;>exact⟨by kernel_rfl,by kernel_rfl,by kernel_rfl⟩
theorem rich_ok:∀k:Nat,k≤9→Ok (richP k):=by
 intro k hk
 refine⟨by unfold richP;simp,fun i hi=>?_⟩
 have e:(richP k)[i]! = ⟨(i:Int)+1,if i<k then 500000000 else 0,0,if i<k then 100000 else 0,0⟩:=by
  unfold richP
  rw[pur.getP _ i (by simp;omega)]
  simp
 rw[e]
 refine⟨rfl,by simp,?_,?_,by simp,?_,?_⟩ <;>simp only[] <;>split <;>omega
structure PQ (p l q:Int):Prop where
 a1:1≤p
 a2:p≤l
 a3:l≤10000
 q1:1≤q
 q2:q≤10000
section
variable {p l q:Int}
def sO(p q:Int):O:=⟨1,1,2,1,p,q,0,0⟩
def bO(l q:Int):O:=⟨2,2,1,1,l,q,0,0⟩
def r1(q:Int):R:=⟨1,1,q,0,0⟩
def sB(p q:Int):List L:=[⟨p,[r1 q]⟩]
theorem zKJ(h:PQ p l q):chk (sO p q)=0:=by
 unfold ord.chk sO ord.headB ord.priceOkB ord.qtyB ord.shapeB ord.stopB ord.prB
 have:=h.a1;have:=h.a2;have:=h.a3;have:=h.q1;have:=h.q2;simp;omega
theorem bO_chk(h:PQ p l q):chk (bO l q)=0:=by
 unfold ord.chk bO ord.headB ord.priceOkB ord.qtyB ord.shapeB ord.stopB ord.prB
 have:=h.a1;have:=h.a2;have:=h.a3;have:=h.q1;have:=h.q2;simp;omega
theorem r1_chk(h:PQ p l q):rchk (r1 q)=0:=zDy ⟨⟨h.q1,h.q2⟩,⟨by simp[r1],by simp[r1]⟩,⟨by simp[r1],by simp[r1]⟩,fun _=>rfl,fun h=>absurd rfl h,⟨by simp[r1],by simp[r1]⟩,⟨by simp[r1],by simp[r1]⟩⟩
theorem zKK(h:PQ p l q):priceB p=true:=by have:=h.a1;have:=h.a2;have:=h.a3;simp[tickP.priceB];omega
theorem sB_side(h:PQ p l q):schk 2 (sB p q)=0:=zLU (s:=2) (p:=p) (r:=r1 q) (ls:=[]) (zBK (by decide)) (zKK h) (r1_chk h) (by simp[ids,flatP]) (by simp[cnt])
theorem zKL(h:PQ p l q):bookE [] (sB p q)=0:=by
 unfold bok.bookE
 rw[if_pos (zBK (by decide)),if_pos (sB_side h),if_neg (show ¬crossB [] (sB p q)=true by simp[crossB]),if_neg (by simp[twiceB,allR,sB]),if_neg (by simp[allR,sB])]
theorem zKM(h:PQ p l q):comeE [] [] (sO p q)=0:=by
 unfold mee.comeE
 rw[if_pos (show bookE [] []=0 by decide),if_pos (zKJ h)];rfl
theorem zFk:keptR (sO p q) q=r1 q:=by simp[kin.keptR,kin.shownK,sO,r1]
theorem sell_set(h:PQ p l q):setE [] [] (sO p q) q=0:=by
 have hst:stayB (sO p q) q=true:=by have:=h.q1;simp[kin.stayB,kin.mayK,sO];omega
 have hre:restE (sO p q) q=0:=by unfold kin.restE;rw[if_pos (zKJ h),if_pos (show 1≤q∧q≤(sO p q).qty from⟨h.q1,Int.le_refl _⟩)]
 unfold kin.setE
 rw[if_pos hst,if_pos hre,zFk]
 show putE [] [] 2 p (r1 q)=0
 unfold bok.putE
 have ha:addE 2 [] p (r1 q)=0:=by
  unfold sid.addE
  rw[if_pos (zBK (by decide)),if_pos (zKK h),if_pos (r1_chk h),if_neg (show ¬(r1 q).id∈ids [] by simp[ids,flatP]),if_neg (show ¬cnt []=60 by simp[cnt])]
 rw[if_pos (show bookE [] []=0 by decide),show (if (2:Int)=1 then ([]:List L) else [])=[] from rfl,if_pos ha]
 exact zKL h
theorem zFl:Fine 1 (sO p q) [] q ⟨[],[],q,false,[]⟩:=.stop (fun _ _ e=>by cases e)
theorem sell_vE(h:PQ p l q):vE 1 [] [] (sO p q)=0:=by
 unfold vE
 rw[if_neg (by decide),if_pos (zKM h)]
 have e:theV 1 (sO p q) (otherL [] [] (sO p q)) (sO p q).qty=⟨[],[],q,false,[]⟩:=zCh (zFl)
 simp only[e]
 show (if 400<0 then (4:Int) else if srefE (sO p q) q 0 0=0 then setE [] [] (sO p q) q else srefE (sO p q) q 0 0)=0
 rw[if_neg (by decide),if_pos (show srefE (sO p q) q 0 0=0 from rfl)]
 exact sell_set h
theorem sell_vR(h:PQ p l q):vR 1 [] [] (sO p q)=⟨[],sB p q,[],0,[]⟩:=by
 have hst:stayB (sO p q) q=true:=by have:=h.q1;simp[kin.stayB,kin.mayK,sO];omega
 unfold vR
 rw[if_neg (by decide)]
 have e:theV 1 (sO p q) (otherL [] [] (sO p q)) (sO p q).qty=⟨[],[],q,false,[]⟩:=zCh (zFl)
 simp only[e]
 show (⟨setB [] (sO p q) q,setS [] (sO p q) q,[],0+setG (sO p q) q,[]⟩:Vs)=_
 unfold kin.setB kin.setS kin.setG
 rw[if_pos hst,if_pos hst,if_pos hst,zFk]
 rfl
def psH(q:Int):List Pz:=on (adT q) 0 (on (adH 0) 0 (richP 9))
theorem zGR(h:PQ p l q):holdE (richP 9) 1 0 q=0∧holdP (richP 9) 1 0 q=psH q:=by
 have e:holdE (richP 9) 1 0 q=0:=by
  have hb:pur.badH 1 0 q=false:=by have:=h.q1;have:=h.q2;simp[pur.badH,spn.spanB];omega
  unfold pur.holdE
  rw[hb]
  have e1:(richP 9)[ix 1]! = ⟨1,500000000,0,100000,0⟩:=by kernel_rfl
  rw[e1]
  simp only[Bool.false_eq_true,if_false]
  have:=h.q2
  rw[if_neg (by omega)]
 refine⟨e,?_⟩
 unfold pur.holdP
 rw[if_pos e];rfl
def P2(a b:Pz):List Pz:=a::b::(richP 9).drop 2
theorem zGS:psH q=P2 ⟨1,500000000,0,100000,q⟩ ⟨2,500000000,0,100000,0⟩:=by
 show ([⟨1,500000000,0+0,100000,0+q⟩,⟨2,500000000,0,100000,0⟩]++(richP 9).drop 2:List Pz)=_
 unfold P2
 simp
theorem P2_len(a b:Pz):(P2 a b).length=9:=rfl
theorem P2_0(a b:Pz):(P2 a b)[0]! = a:=rfl
theorem P2_1(a b:Pz):(P2 a b)[1]! = b:=rfl
theorem on_0(f:Pz→Pz)(a b:Pz):on f 0 (P2 a b)=P2 (f a) b:=rfl
theorem on_1(f:Pz→Pz)(a b:Pz):on f 1 (P2 a b)=P2 a (f b):=rfl
theorem zGT(h:PQ p l q):freeE (psH q) 1 0 0=0∧freeP (psH q) 1 0 0=psH q:=by
 have e:freeE (psH q) 1 0 0=0:=by
  unfold pur.freeE
  rw[if_neg (show ¬pur.badH 1 0 0=true by decide),zGS]
  have e1:(P2 ⟨1,500000000,0,100000,q⟩ ⟨2,500000000,0,100000,0⟩)[ix 1]! = ⟨1,500000000,0,100000,q⟩:=rfl
  rw[e1]
  have:=h.q1
  rw[if_neg (show ¬((0:Int)<0∨q<0) by omega)]
 refine⟨e,?_⟩
 unfold pur.freeP
 rw[if_pos e,zGS,show ix 1=0 from rfl,on_0,on_0]
 simp[adT,adH]
def tS0:TS:=⟨1,0,[],[],[],richP 9,[],[]⟩
def tSh(q:Int):TS:=⟨1,0,[],[],[],psH q,[],[]⟩
def tS1(p q:Int):TS:=⟨1,0,[],sB p q,[],psH q,[⟨1,1,q,p,zeroT⟩],[]⟩
theorem zKN(h:PQ p l q):fdo ⟨1,0,[],[],[],richP 9⟩ ⟨1,sO p q,0,0⟩=.ok (tS1 p q):=by
 have hck:=zKJ h
 have hF:forC (sO p q)=0∧forS (sO p q)=q:=by unfold mrg.forC mrg.forS;rw[if_pos hck,if_pos hck];exact⟨rfl,rfl⟩
 have hH:holdS tS0 1 0 q=.ok (tSh q):=by
  unfold holdS
  rw[if_pos (show holdE tS0.ps 1 0 q=0 from(zGR h).1),show holdP tS0.ps 1 0 q=psH q from(zGR h).2]
  rfl
 have hB:backE (sO p q) [] 0=0:=by
  unfold mrg.backE
  rw[if_pos hck,if_pos (show (0:Int)≤0∧(0:Int)≤(sO p q).qty from⟨Int.le_refl _,by have:=h.q1;show 0≤q;omega⟩)];rfl
 have hBC:backC (sO p q) [] 0=0∧backS (sO p q) [] 0=0:=by unfold mrg.backC mrg.backS;rw[if_pos hB,if_pos hB];exact⟨rfl,rfl⟩
 have hFr:freeS (tSh q) 1 0 0=.ok (tSh q):=by
  unfold freeS
  rw[if_pos (show freeE (tSh q).ps 1 0 0=0 from(zGT h).1),show freeP (tSh q).ps 1 0 0=psH q from(zGT h).2]
  rfl
 have hT:tellLeft ⟨1,0,[],sB p q,[],psH q,[],[]⟩ (sO p q) ⟨[],sB p q,[],0,[]⟩=tS1 p q:=by
  unfold tellLeft tellGone
  have hr:restOf (sO p q) ⟨[],sB p q,[],0,[]⟩=q:=by show q - 0 - 0=q;omega
  rw[hr,if_pos (by have:=h.q1;omega),if_neg (show ¬(0:Int)<0 by decide)]
  rfl
 have hC:come (tSh q) (sO p q)=.ok (tS1 p q):=by
  unfold come
  show (if vE 1 [] [] (sO p q)=0 then settle (tSh q) (sO p q) (vR 1 [] [] (sO p q)) else _)=_
  rw[if_pos (sell_vE h),sell_vR h]
  unfold settle
  show (if backE (sO p q) [] 0=0 then (freeS (tSh q) 1 (backC (sO p q) [] 0) (backS (sO p q) [] 0)).bind _ else _)=_
  rw[if_pos hB,hBC.1,hBC.2,hFr]
  show wakeS (tellLeft ⟨1,0,[],sB p q,[],psH q,[],[]⟩ (sO p q) ⟨[],sB p q,[],0,[]⟩) []=_
  rw[hT];rfl
 have e:doC tS0 ⟨1,sO p q,0,0⟩=.ok (tS1 p q):=by
  show place tS0 (sO p q)=_
  unfold place
  rw[if_pos hck,if_neg (show ¬has tS0 (sO p q).id=true by simp[has,inBook,ids,flatP,wak.idx,tS0]),hF.1,hF.2]
  show (holdS tS0 1 0 q).bind _=_
  rw[hH]
  exact hC
 unfold fdo
 show (doC tS0 ⟨1,sO p q,0,0⟩).bind _=_
 rw[e]
 exact zAq _ _ rfl
theorem buy_come(h:PQ p l q):comeE [] (sB p q) (bO l q)=0:=by
 unfold mee.comeE
 rw[if_pos (zKL h),if_pos (bO_chk h),if_pos (show (bO l q).stop=0 from rfl),if_neg (show ¬inBook [] (sB p q) (bO l q).id=true by simp[inBook,ids,flatP,rowP,sB,r1,bO])]
def bT(p q:Int):T:=⟨1,2,1,2,p,q⟩
theorem zGU(h:PQ p l q):Fine 1 (bO l q) (sB p q) q ⟨[],[bT p q],0,false,[]⟩:=by
 have hm:mB (bO l q) p=true:=by unfold ord.mB bO;have:=h.a2;simp;omega
 have hmin:min q (r1 q).qty=q:=by show min q q=q;omega
 have hF:Fine 1 (bO l q) (⟨p,r1 q::[]⟩::[]) q ⟨[],trd (bO l q) p ⟨(r1 q).id,(r1 q).who,min q (r1 q).qty⟩::[],0,false,[]⟩:=by
  refine .fill (v:=⟨[],[],0,false,[]⟩) (by have:=h.q1;omega) hm (show ¬(1:Int)=2 by decide) ?_
  rw[hmin]
  have e1:tk1 q (r1 q) []=[]:=by unfold que.tk1;rw[if_neg (show ¬q<(r1 q).qty from Int.lt_irrefl q)];rfl
  have e2:stepL p (tk1 q (r1 q) []) []=[]:=by rw[e1];rfl
  rw[e2,show q - q=0 by omega]
  exact .done (Int.le_refl _)
 rw[hmin] at hF
 exact hF
theorem buy_vE(h:PQ p l q):vE 1 [] (sB p q) (bO l q)=0:=by
 unfold vE
 rw[if_neg (by decide),if_pos (buy_come h)]
 have e:theV 1 (bO l q) (otherL [] (sB p q) (bO l q)) (bO l q).qty=⟨[],[bT p q],0,false,[]⟩:=zCh (zGU h)
 simp only[e]
 rfl
theorem buy_vR(h:PQ p l q):vR 1 [] (sB p q) (bO l q)=⟨[],[],[bT p q],0,[]⟩:=by
 unfold vR
 rw[if_neg (by decide)]
 have e:theV 1 (bO l q) (otherL [] (sB p q) (bO l q)) (bO l q).qty=⟨[],[bT p q],0,false,[]⟩:=zCh (zGU h)
 simp only[e]
 rfl
def psB(p q:Int):List Pz:=P2 ⟨1,500000000+p*q,0,100000 - q,0⟩ ⟨2,500000000 - p*q,0,100000+q,0⟩
theorem nums(h:PQ p l q):1≤p*q∧p*q≤l*q∧l*q≤100000000∧wrap64 (l*q)=l*q:=by
 have a:=pur.zBO h.a1 (by have:=h.a2;have:=h.a3;omega) h.q1 h.q2
 have b:=pur.zBO (p:=l) (by have:=h.a1;have:=h.a2;omega) h.a3 h.q1 h.q2
 have c:p*q≤l*q:=Int.mul_le_mul_of_nonneg_right h.a2 (by have:=h.q1;omega)
 exact⟨a.1,c,b.2,by unfold wrap64;omega⟩
theorem zGV(h:PQ p l q):holdE (psH q) 2 (l*q) 0=0∧holdP (psH q) 2 (l*q) 0=P2 ⟨1,500000000,0,100000,q⟩ ⟨2,500000000,l*q,100000,0⟩:=by
 obtain⟨n1,n2,n3,-⟩:=nums h
 generalize l*q=c at *
 have e:holdE (psH q) 2 c 0=0:=by
  have hb:pur.badH 2 c 0=false:=by simp[pur.badH,spn.spanB];omega
  unfold pur.holdE
  rw[hb,zGS]
  show (if false=true then (1:Int) else if (500000000:Int) - 0<c∨(100000:Int) - 0<0 then 9 else 0)=0
  rw[if_neg (by decide),if_neg (by omega)]
 refine⟨e,?_⟩
 unfold pur.holdP
 rw[if_pos e,zGS,show ix 2=1 from rfl,on_1,on_1]
 simp[adT,adH]
theorem zFm(h:PQ p l q):tradeE (P2 ⟨1,500000000,0,100000,q⟩ ⟨2,500000000,l*q,100000,0⟩) 1 2 p q=0∧tradeP (P2 ⟨1,500000000,0,100000,q⟩ ⟨2,500000000,l*q,100000,0⟩) 1 2 p q=P2 ⟨1,500000000+p*q,0,100000 - q,0⟩ ⟨2,500000000 - p*q,l*q - p*q,100000+q,0⟩:=by
 obtain⟨n1,n2,n3,-⟩:=nums h
 have hb:pur.badT 1 2 p q=false:=by have:=h.a1;have:=h.a2;have:=h.a3;have:=h.q1;have:=h.q2;simp[pur.badT,spn.spanB];omega
 have h2:=h.q2
 have e:tradeE (P2 ⟨1,500000000,0,100000,q⟩ ⟨2,500000000,l*q,100000,0⟩) 1 2 p q=0:=by
  unfold pur.tradeE
  rw[hb]
  show (if false=true then (1:Int) else if q<q∨l*q<p*q then 9 else if ¬(1:Int)=2∧(1000000000<500000000+p*q∨1000000000<100000+q) then 4 else 0)=0
  rw[if_neg (by decide),if_neg (by omega),if_neg (by omega)]
 refine⟨e,?_⟩
 unfold pur.tradeP
 rw[if_pos e]
 generalize p*q=c at *
 unfold pur.tradeL
 rw[show ix 1=0 from rfl,show ix 2=1 from rfl,on_0,on_0,on_1,on_1,on_1,on_0]
 simp only[adT,adS,adH,adC]
 refine congr (congrArg P2 ?_) ?_ <;>simp only[Pz.mk.injEq,true_and,and_true] <;>omega
theorem zGW(h:PQ p l q):freeE (P2 ⟨1,500000000+p*q,0,100000 - q,0⟩ ⟨2,500000000 - p*q,l*q - p*q,100000+q,0⟩) 2 (l*q - p*q) 0=0∧freeP (P2 ⟨1,500000000+p*q,0,100000 - q,0⟩ ⟨2,500000000 - p*q,l*q - p*q,100000+q,0⟩) 2 (l*q - p*q) 0=psB p q:=by
 obtain⟨n1,n2,n3,-⟩:=nums h
 unfold psB
 generalize p*q=c at *
 generalize l*q=d at *
 have e:freeE (P2 ⟨1,500000000+c,0,100000 - q,0⟩ ⟨2,500000000 - c,d - c,100000+q,0⟩) 2 (d - c) 0=0:=by
  have hb:pur.badH 2 (d - c) 0=false:=by simp[pur.badH,spn.spanB];omega
  unfold pur.freeE
  rw[hb]
  show (if false=true then (1:Int) else if d - c<d - c∨(0:Int)<0 then 9 else 0)=0
  rw[if_neg (by decide),if_neg (by omega)]
 refine⟨e,?_⟩
 unfold pur.freeP
 rw[if_pos e,show ix 2=1 from rfl,on_1,on_1]
 simp only[adT,adH]
 refine congr (congrArg P2 rfl) ?_
 simp only[Pz.mk.injEq,true_and];omega
theorem buy_ct(h:PQ p l q):ctE (bO l q) (bT p q)=0:=by
 have hm:mB (bO l q) p=true:=by unfold ord.mB bO;have:=h.a2;simp;omega
 have hq:(prB (bT p q).price && mrg.qtB (bT p q).qty)=true:=by
  have:=h.a1;have:=h.a2;have:=h.a3;have:=h.q1;have:=h.q2
  have e1:prB p=true:=by simp[ord.prB];omega
  have e2:mrg.qtB q=true:=by simp[mrg.qtB];omega
  show (prB p && mrg.qtB q)=true
  rw[e1,e2];rfl
 unfold mrg.ctE
 rw[if_pos hq,if_pos ⟨rfl,hm⟩]
def tSb(p l q:Int):TS:=⟨1,0,[],sB p q,[],P2 ⟨1,500000000,0,100000,q⟩ ⟨2,500000000,l*q,100000,0⟩,[],[]⟩
def tSc(p l q:Int):TS:=⟨1,0,[],sB p q,[],P2 ⟨1,500000000+p*q,0,100000 - q,0⟩ ⟨2,500000000 - p*q,l*q - p*q,100000+q,0⟩,[⟨2,0,0,0,bT p q⟩],[]⟩
def tSd(p q:Int):TS:=⟨1,0,[],sB p q,[],psB p q,[⟨2,0,0,0,bT p q⟩],[]⟩
def tS2(p q:Int):TS:=⟨1,p,[],[],[],psB p q,[⟨2,0,0,0,bT p q⟩],[]⟩
theorem buy_do(h:PQ p l q):fdo (floorOf (tS1 p q)) ⟨1,bO l q,0,0⟩=.ok (tS2 p q):=by
 have hck:=bO_chk h
 obtain⟨n1,n2,n3,n4⟩:=nums h
 have hF:forC (bO l q)=l*q∧forS (bO l q)=0:=by
  unfold mrg.forC mrg.forS
  rw[if_pos hck,if_pos hck]
  exact⟨n4,rfl⟩
 have hH:holdS (turnOf (floorOf (tS1 p q))) 2 (l*q) 0=.ok (tSb p l q):=by
  unfold holdS
  rw[if_pos (show holdE (turnOf (floorOf (tS1 p q))).ps 2 (l*q) 0=0 from(zGV h).1),show holdP (turnOf (floorOf (tS1 p q))).ps 2 (l*q) 0=_ from(zGV h).2]
  rfl
 have hT:trades (tSb p l q) [bT p q]=.ok (tSc p l q):=by
  have e:trade1 (tSb p l q) (bT p q)=.ok (tSc p l q):=by
   unfold trade1
   rw[if_pos (show tradeE (tSb p l q).ps (bT p q).frm (bT p q).into (bT p q).price (bT p q).qty=0 from(zFm h).1),show tradeP (tSb p l q).ps (bT p q).frm (bT p q).into (bT p q).price (bT p q).qty=_ from(zFm h).2]
   rfl
  show (trade1 (tSb p l q) (bT p q)).bind _=_
  rw[e];rfl
 have hB:backE (bO l q) [bT p q] 0=0:=by
  unfold mrg.backE
  rw[if_pos hck,if_pos (show (0:Int)≤0∧(0:Int)≤(bO l q).qty from⟨Int.le_refl _,by have:=h.q1;show 0≤q;omega⟩)]
  show (if ctE (bO l q) (bT p q)=0 then (0:Int) else _)=0
  rw[if_pos (buy_ct h)]
 have hBC:backC (bO l q) [bT p q] 0=l*q - p*q∧backS (bO l q) [bT p q] 0=0:=by
  unfold mrg.backC mrg.backS
  rw[if_pos hB,if_pos hB]
  refine⟨?_,rfl⟩
  show wrap64 (wrap64 (l*0)+(l - p)*q)=_
  rw[Int.mul_zero,Int.sub_mul]
  unfold wrap64;omega
 have hFr:freeS (tSc p l q) 2 (l*q - p*q) 0=.ok (tSd p q):=by
  unfold freeS
  rw[if_pos (show freeE (tSc p l q).ps 2 (l*q - p*q) 0=0 from(zGW h).1),show freeP (tSc p l q).ps 2 (l*q - p*q) 0=_ from(zGW h).2]
  rfl
 have hTL:tellLeft ⟨1,0,[],[],[],psB p q,[⟨2,0,0,0,bT p q⟩],[]⟩ (bO l q) ⟨[],[],[bT p q],0,[]⟩=⟨1,0,[],[],[],psB p q,[⟨2,0,0,0,bT p q⟩],[]⟩:=by
  unfold tellLeft tellGone
  have hr:restOf (bO l q) ⟨[],[],[bT p q],0,[]⟩=0:=by show q - 0 - (q+0)=0;omega
  rw[hr,if_neg (show ¬(0:Int)<0 by decide),if_neg (show ¬(0:Int)<0 by decide)]
 have hW:wakeS ⟨1,0,[],[],[],psB p q,[⟨2,0,0,0,bT p q⟩],[]⟩ [bT p q]=.ok (tS2 p q):=by
  unfold wakeS
  rw[if_neg (by simp),if_pos (show prB ([bT p q][[bT p q].length - 1]!).price=true by have:=h.a1;have:=h.a2;have:=h.a3;show prB p=true;simp[ord.prB];omega)]
  rfl
 have hC:come (tSb p l q) (bO l q)=.ok (tS2 p q):=by
  unfold come
  show (if vE 1 [] (sB p q) (bO l q)=0 then settle (tSb p l q) (bO l q) (vR 1 [] (sB p q) (bO l q)) else _)=_
  rw[if_pos (buy_vE h),buy_vR h]
  unfold settle
  show ((trades (tSb p l q) [bT p q]).bind _)=_
  rw[hT]
  show (if backE (bO l q) [bT p q] 0=0 then (freeS (tSc p l q) 2 (backC (bO l q) [bT p q] 0) (backS (bO l q) [bT p q] 0)).bind _ else _)=_
  rw[if_pos hB,hBC.1,hBC.2,hFr]
  show wakeS (tellLeft ⟨1,0,[],[],[],psB p q,[⟨2,0,0,0,bT p q⟩],[]⟩ (bO l q) ⟨[],[],[bT p q],0,[]⟩) [bT p q]=_
  rw[hTL];exact hW
 have e:doC (turnOf (floorOf (tS1 p q))) ⟨1,bO l q,0,0⟩=.ok (tS2 p q):=by
  show place (turnOf (floorOf (tS1 p q))) (bO l q)=_
  unfold place
  rw[if_pos hck,if_neg (show ¬has (turnOf (floorOf (tS1 p q))) (bO l q).id=true by simp[has,inBook,ids,flatP,rowP,wak.idx,turnOf,floorOf,tS1,sB,r1,bO]),hF.1,hF.2]
  show (holdS (turnOf (floorOf (tS1 p q))) 2 (l*q) 0).bind _=_
  rw[hH]
  exact hC
 unfold fdo
 rw[e]
 exact zAq _ _ rfl
end
end flr
end Go.Proofs.YtifjhlgjgnnnpaaGreat
