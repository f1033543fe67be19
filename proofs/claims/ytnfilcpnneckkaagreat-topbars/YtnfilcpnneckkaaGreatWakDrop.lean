import Derived.Test.YtnfilcpnneckkaaGreatWakPart
import Derived.Test.YtnfilcpnneckkaaGreatWakPut
set_option maxHeartbeats 2000000
set_option maxRecDepth 100000
namespace Go.Proofs.YtnfilcpnneckkaaGreat
open Tryz
namespace wak
open Go.RowKit ord
open spn (zAa bcell)
def zk(k:Nat)(l:List O):List O:=(l.take k).map zst++l.drop k
theorem zMf(k:Nat)(l:List O):(zk k l).length=l.length:=by unfold zk;rw[jE,jP,jJ,jQ];omega
theorem zk_all(l:List O):zk l.length l=l.map zst:=by unfold zk;rw[List.take_length,List.drop_length,jH]
theorem zQY(k:Nat)(l:List O)(h:k<l.length):(flat (zk k l)).set (k*8+7) (.int .i64 0)=flat (zk (k+1) l):=by
 have e1:zk k l=(l.take k).map zst++l[k]::l.drop (k+1):=by unfold zk;rw[List.drop_eq_getElem_cons h]
 have e2:zk (k+1) l=(l.take k).map zst++zst l[k]::l.drop (k+1):=by unfold zk;rw[List.take_succ_eq_append_getElem h,jF,jS];rfl
 have hl:(flat ((l.take k).map zst)).length=k*8:=by rw[wAl,jP,jJ,Nat.min_eq_left (by omega)]
 rw[e1,e2,wAg,wAg,wAm,wAm,List.set_append_right _ _ (by omega),hl,show k*8+7 - k*8=7 by omega]
 rfl
theorem zHT{W W' : World}{b p:Nat}{v:Value}{os:List O}{row:Option Nat}(h:St W b p v os)(hg:W.grownBy W' row)(h1:some p≠row)(h2:v.ownBlock=none∨v.ownBlock≠row):St W' b p v os:=
 ⟨(hg.block p h.lt h1).trans h.blk,h.le,OwnM.kept h.own hg h2⟩
section
variable (x:Int)(b p:Nat)(w:World)
def WkPost(x:Int)(b p:Nat)(os:List O)(w:World)(e:Ending)(w' : World):Prop:=
 ∃q m c v2,e=.returned (.tuple #[.slice q m c,.nilIface])∧m=(woke x os).length∧OwnQ w' w.heap.size (.slice q m c) (woke x os)∧St w' b p v2 (left x os)∧w.grownBy w' (some p)∧(∀k,v2.ownBlock=some k→w.heap.size≤k)∧(∀k,v2.ownBlock=some k→(Value.slice q m c).ownBlock≠some k)
theorem zQZ(vq:Option Addr)(n vc:Nat)(os:List O)(hn:n=os.length)(hx:prB x=true)(h:St w b p (.slice vq n vc) os)(hl:n≤20) :
  Calls prog 131 #[.pointer (some ⟨p,0,none⟩),.int .i64 x] w fun e w'=>WkPost x b p os w e w':=by
 have HP:=hidP (fun W=>zCa x W hx)
 have HS:=hidP h;have HN:=hidP hn;have HL:=hidP hl;clear hx h hn hl;go_enter func131,ntmps131;go_wp2_with fail;refine(HP.out _).mono ?_;rintro e w1⟨rfl,Hc⟩;have He:=hidP (((bzR _ w).alloc (nzR _) _).trans (Hc.mono (by simp)))
 have gh:w1.heap[w.heap.size]?=some (.cells #[.int .i64 x] 3 (0,0)):=(Hc.block _ (by simp)).trans (jA w _)
 have Gn:w1.cell? ⟨w.heap.size,0,none⟩=some (.int .i64 x):=by simp[World.cell?,gh]
 have gu:w.heap.size<w1.heap.size:=(gzE.1 gh).1;have DR:=hidP (part_1 x w.heap.size b p vq n vc os w1 HN.out (HS.out.below He.out) gu Gn (by have:=HL.out;omega))
 have UH:=hidP Gn;have Br:=hidP gu;clear Hc gh Gn gu;go_wp2_with fail;refine DR.out.mono ?_;rintro e w2⟨q1,m1,c1,rfl,Pn,Us,Ha⟩;have Hg:=hidP (He.out.trans (Ha.mono He.out.size));have HQ2:=hidP (part_2 x w.heap.size b p vq n vc os w2 HN.out (HS.out.below Hg.out) (jC Br.out Ha.size) (zAa Ha UH.out) (by have:=HL.out;omega))
 have U0:=hidP Pn;have Gu:=hidP Us;have GW:=hidP (show ∀k,(Value.slice q1 m1 c1).ownBlock=some k→w.heap.size≤k∧k<w2.heap.size from fun k hk=>by
  have h1:=OwnM.lt Us k hk;have h2:=Br.out;omega)
 clear Pn Us Ha DR;have SO:Hid (∀W,Bw w W→W.cell? ⟨p,0,none⟩=some (.slice vq n vc)∧W.frozen? ⟨p,0,none⟩=false):=fun W hW=>by
  have hr:=(HS.out.below hW).blk;exact⟨by simp[World.cell?,hr],by simp[World.frozen?,hr]⟩
 go_upto_region 5 with fail
 go_wp2_with fail;refine HQ2.out.mono ?_;rintro e w3⟨q2,m2,c2,rfl,Mh,Mi,Hr⟩;have HU:=hidP (Hg.out.trans (Hr.mono Hg.out.size));obtain⟨p0,pf⟩:=SO.out _ HU.out;have Hd:=(HS.out.below HU.out).blk;have HK4:Hid (St (w3.setCell ⟨p,0,none⟩ (.slice q2 m2 c2)) b p (.slice q2 m2 c2) (left x os)∧OwnQ (w3.setCell ⟨p,0,none⟩ (.slice q2 m2 c2)) w.heap.size (.slice q1 m1 c1) (os.filter (wkB x))∧w.grownBy (w3.setCell ⟨p,0,none⟩ (.slice q2 m2 c2)) (some p)):=by
  have hg:=wAc w3 p 0 (.slice q2 m2 c2);have hpw:p<w.heap.size:=HS.out.lt;refine⟨⟨?_,HS.out.le,?_⟩,?_,wAd (wAw HU.out _) hg⟩
  ·rw[setCell_eq_setRow w3 p 0 _ _ _ _ Hd,setRow_heap w3 p _ _ _ _ Hd];rfl
  ·exact OwnM.mono (OwnM.kept Mi hg (.inr fun e=>by have:=(OwnM.lt Mi p e).1;have:=Hg.out.size;omega)) (by have:=Hg.out.size;have:=HS.out.le;omega)
  ·exact OwnM.mono (OwnM.kept (OwnM.below Gu.out Hr) hg (.inr fun e=>by have:=(OwnM.lt Gu.out p e).1;have:=He.out.size;omega)) (by have:=He.out.size;omega)
 have ul:=hidP (show ∀k,(Value.slice q2 m2 c2).ownBlock=some k→w2.heap.size≤k from fun k hk=>(OwnM.lt Mi k hk).1)
 clear Mh Mi Hr Hd HQ2 SO;go_wp2_with fail;generalize w3.setCell ⟨p,0,none⟩ (.slice q2 m2 c2)=W4 at *;clear p0 pf;have Uy:Hid (m1≤20):=by
  show _≤_
  have h1:=U0.out;have h2:=List.length_filter_le (wkB x) os;have h3:=HN.out;have h4:=HL.out;omega
 refine(zJU q1 m1 c1 (os.filter (wkB x)) w.heap.size W4 U0.out HK4.out.2.1 Uy.out).mono ?_;rintro e w5⟨rfl,UF⟩;have HK5:Hid (St w5 b p (.slice q2 m2 c2) (left x os)∧OwnQ w5 w.heap.size (.slice q1 m1 c1) (srt x os)∧w.grownBy w5 (some p)):=by
  obtain⟨k1,k2,k3⟩:=HK4.out;have hpw:p<w.heap.size:=HS.out.lt;refine⟨zHT k1 UF.2 (fun e=>by have:=(GW.out p e.symm).1;omega) ?_,UF.1,?_⟩
  ·cases hq:(Value.slice q2 m2 c2).ownBlock with
   | none=>exact .inl rfl
   | some k=>
    refine .inr fun e=>?_
    have h1:=(GW.out k e.symm).2;have h2:=ul.out k hq;omega
  ·have hB:=k3;refine⟨UF.2.os.trans k3.os,UF.2.tape.trans k3.tape,UF.2.output.trans k3.output,jM k3.size UF.2.size,fun k hk H8=>?_⟩
   rw[UF.2.block k (jC hk k3.size) (fun e=>by have:=(GW.out k e.symm).1;omega),k3.block k hk H8]
 have mn:Hid ((srt x os).length=m1):=by show _=_;rw[zMb];exact U0.out.symm
 clear UF HK4;go_wp2_with fail;go_loopg [8,27] m1 (fun gg _ s27 wr=>∃kk:Nat,kk≤m1∧m1 - kk≤gg∧s27=.int .i64 kk∧Aside (St wr b p (.slice q2 m2 c2) (left x os)∧OwnQ wr w.heap.size (.slice q1 m1 c1) (zk kk (srt x os))∧w.grownBy wr (some p)))
 case atStart=>exact⟨0,jL _,by omega,rfl,HK5.out.1,HK5.out.2.1,HK5.out.2.2⟩
 case round=>
  obtain⟨kk,gd,hg,rfl,HA⟩:=hrel;by_cases Hi:kk<m1
  ·have Hp:(kk:Int)<(m1:Int):=by omega
   have gR:¬((kk:Int)<0):=by omega
   have Pq:(zk kk (srt x os)).length=m1:=(zMf _ _).trans mn.out;obtain⟨g,off,rfl⟩:∃g off,q1=some ⟨g,off,none⟩:=by
    rcases HA.out.2.1.2 with ⟨h1,h2⟩|⟨g,off,cap,cur,h1,_⟩
    ·rw[Pq] at h2;omega
    ·cases h1;exact⟨g,off,rfl⟩
   have hO:OwnM wr w.heap.size 34 8 (.slice (some ⟨g,off,none⟩) m1 c1) m1 (flat (zk kk (srt x os))):=by
    have:=HA.out.2.1
    rwa [OwnQ,Pq] at this
   obtain⟨-,dF,-,dK,-,-,uO⟩:=wAk hO;have hc:=uO (kk*8+7) (by omega)
   rw[←Nat.add_assoc] at hc;obtain⟨cv,hcv⟩:=Option.isSome_iff_exists.1 hc.1;have hcf:=hc.2;have HO:=hidP hO;have Mr:=hidP (show p<w.heap.size∧w.heap.size≤g∧g<w2.heap.size from⟨HS.out.lt,GW.out g rfl⟩)
   have es:wrap64 ((kk:Int)+1)=((kk+1:Nat):Int):=by have:=Uy.out;unfold wrap64;omega
   have Uh:Hid (St (wr.setCell ⟨g,off+kk*8+7,none⟩ (.int .i64 0)) b p (.slice q2 m2 c2) (left x os)∧OwnQ (wr.setCell ⟨g,off+kk*8+7,none⟩ (.int .i64 0)) w.heap.size (.slice (some ⟨g,off,none⟩) m1 c1) (zk (kk+1) (srt x os))∧w.grownBy (wr.setCell ⟨g,off+kk*8+7,none⟩ (.int .i64 0)) (some p)):=by
    have Hy:=wAc wr g (off+kk*8+7) (.int .i64 0);obtain⟨g1,g2,g3⟩:=Mr.out;refine⟨zHT HA.out.1 Hy (fun e=>by cases e;omega) ?_,?_,?_⟩
    ·cases hq:(Value.slice q2 m2 c2).ownBlock with
     | none=>exact .inl rfl
     | some k=>exact .inr fun e=>by cases e;have:=ul.out g hq;omega
    ·have h1:=OwnM.set hO (kk*8+7) (.int .i64 0);rw[←Nat.add_assoc,zQY kk (srt x os) (by rw[mn.out];exact Hi)] at h1
     show OwnM _ _ _ _ _ _ _
     rw[zMf,mn.out];exact h1
    ·have k3:=HA.out.2.2;refine⟨Hy.os.trans k3.os,Hy.tape.trans k3.tape,Hy.output.trans k3.output,jM k3.size Hy.size,fun k hk H8=>?_⟩
     rw[Hy.block k (jC hk k3.size) (fun e=>by cases e;omega),k3.block k hk H8]
   clear hO uO hc dK dF Pq HA;go_wp2_with fail;go_roundg (m1 - (kk+1))
   case measure=>clear es;omega
   case rel=>exact⟨kk+1,Hi,nzR _,by go_num,Uh.out.1,Uh.out.2.1,Uh.out.2.2⟩
  ·have Hp:¬(kk:Int)<(m1:Int):=by omega
   have HE:Hid (zk kk (srt x os)=woke x os):=by
    show _=_
    have:kk=(srt x os).length:=(by rw[mn.out];omega);rw[this,zk_all];rfl
   have HW:=hidP (show m1=(woke x os).length by rw[←HE.out,zMf,mn.out])
   have HF:=hidP HA.out;rw[HE.out] at HF;clear HA;go_wp2_with fail
   go_ret2
   refine⟨q1,m1,c1,_,rfl,HW.out,HF.out.2.1,HF.out.1,HF.out.2.2,fun k hk=>?_,fun k hk e=>?_⟩
   ·have h1:=ul.out k hk;have h2:=Hg.out.size;omega
   ·have h1:=ul.out k hk;have h2:=(GW.out k e).2;omega
end
theorem wBi(x:Int)(b p:Nat)(v:Value)(os:List O)(w:World)(hx:prB x=true)(h:St w b p v os)(hl:os.length≤20) :
  Calls prog 131 #[.pointer (some ⟨p,0,none⟩),.int .i64 x] w fun e w'=>WkPost x b p os w e w':=by
 obtain⟨q,c,rfl⟩:=OwnQ.form h.own;exact zQZ x b p w q _ c os rfl hx h hl
end wak
namespace wak
open ord Go.Sort
def Good(os:List O):Prop:=(∀o∈os,chk o=0)∧os.Pairwise (fun a b=>a.id≠b.id)∧os.length≤20
end wak
namespace wak
open Go.RowKit ord
open spn (zAa bcell)
theorem set8{w:World}{B:Nat}{y0 y1 y2 y3 y4 y5 y6 y7:Value}{t:TypeId}(h:w.heap[B]?=some (.cells #[y0,y1,y2,y3,y4,y5,y6,y7] t (0,0)))(x0 x1 x2 x3 x4 x5 x6 x7:Value) :
  ((((((((w.setCell ⟨B,0,none⟩ x0).setCell ⟨B,1,none⟩ x1).setCell ⟨B,2,none⟩ x2).setCell ⟨B,3,none⟩ x3).setCell ⟨B,4,none⟩ x4).setCell ⟨B,5,none⟩ x5).setCell ⟨B,6,none⟩ x6).setCell ⟨B,7,none⟩ x7).heap[B]?=some (.cells #[x0,x1,x2,x3,x4,x5,x6,x7] t (0,0)):=by
 have h0:(w.setCell ⟨B,0,none⟩ x0).heap[B]?=some (.cells #[x0,y1,y2,y3,y4,y5,y6,y7] t (0,0)):=jB _ B 0 _ _ x0 h;have h1:((w.setCell ⟨B,0,none⟩ x0).setCell ⟨B,1,none⟩ x1).heap[B]?=some (.cells #[x0,x1,y2,y3,y4,y5,y6,y7] t (0,0)):=jB _ B 1 _ _ x1 h0;have h2:(((w.setCell ⟨B,0,none⟩ x0).setCell ⟨B,1,none⟩ x1).setCell ⟨B,2,none⟩ x2).heap[B]?=some (.cells #[x0,x1,x2,y3,y4,y5,y6,y7] t (0,0)):=jB _ B 2 _ _ x2 h1;have h3:((((w.setCell ⟨B,0,none⟩ x0).setCell ⟨B,1,none⟩ x1).setCell ⟨B,2,none⟩ x2).setCell ⟨B,3,none⟩ x3).heap[B]?=some (.cells #[x0,x1,x2,x3,y4,y5,y6,y7] t (0,0)):=jB _ B 3 _ _ x3 h2;have h4:(((((w.setCell ⟨B,0,none⟩ x0).setCell ⟨B,1,none⟩ x1).setCell ⟨B,2,none⟩ x2).setCell ⟨B,3,none⟩ x3).setCell ⟨B,4,none⟩ x4).heap[B]?=some (.cells #[x0,x1,x2,x3,x4,y5,y6,y7] t (0,0)):=jB _ B 4 _ _ x4 h3
 have h5:((((((w.setCell ⟨B,0,none⟩ x0).setCell ⟨B,1,none⟩ x1).setCell ⟨B,2,none⟩ x2).setCell ⟨B,3,none⟩ x3).setCell ⟨B,4,none⟩ x4).setCell ⟨B,5,none⟩ x5).heap[B]?=some (.cells #[x0,x1,x2,x3,x4,x5,y6,y7] t (0,0)):=jB _ B 5 _ _ x5 h4;have h6:(((((((w.setCell ⟨B,0,none⟩ x0).setCell ⟨B,1,none⟩ x1).setCell ⟨B,2,none⟩ x2).setCell ⟨B,3,none⟩ x3).setCell ⟨B,4,none⟩ x4).setCell ⟨B,5,none⟩ x5).setCell ⟨B,6,none⟩ x6).heap[B]?=some (.cells #[x0,x1,x2,x3,x4,x5,x6,y7] t (0,0)):=jB _ B 6 _ _ x6 h5;have h7:((((((((w.setCell ⟨B,0,none⟩ x0).setCell ⟨B,1,none⟩ x1).setCell ⟨B,2,none⟩ x2).setCell ⟨B,3,none⟩ x3).setCell ⟨B,4,none⟩ x4).setCell ⟨B,5,none⟩ x5).setCell ⟨B,6,none⟩ x6).setCell ⟨B,7,none⟩ x7).heap[B]?=some (.cells #[x0,x1,x2,x3,x4,x5,x6,x7] t (0,0)):=jB _ B 7 _ _ x7 h6;exact h7
theorem row8{w:World}{B:Nat}{x0 x1 x2 x3 x4 x5 x6 x7:Value}{t:TypeId}(h:w.heap[B]?=some (.cells #[x0,x1,x2,x3,x4,x5,x6,x7] t (0,0))) :
  w.cell? ⟨B,0,none⟩=some x0∧w.cell? ⟨B,1,none⟩=some x1∧w.cell? ⟨B,2,none⟩=some x2∧w.cell? ⟨B,3,none⟩=some x3∧w.cell? ⟨B,4,none⟩=some x4∧w.cell? ⟨B,5,none⟩=some x5∧w.cell? ⟨B,6,none⟩=some x6∧w.cell? ⟨B,7,none⟩=some x7∧∀j,w.frozen? ⟨B,j,none⟩=false:=
 ⟨by simp[World.cell?,h],by simp[World.cell?,h],by simp[World.cell?,h],by simp[World.cell?,h],by simp[World.cell?,h],by simp[World.cell?,h],by simp[World.cell?,h],by simp[World.cell?,h],fun j=>frozen_of_row w _ j _ _ h⟩
theorem gr8(w:World)(B:Nat)(x0 x1 x2 x3 x4 x5 x6 x7:Value):w.grownBy ((((((((w.setCell ⟨B,0,none⟩ x0).setCell ⟨B,1,none⟩ x1).setCell ⟨B,2,none⟩ x2).setCell ⟨B,3,none⟩ x3).setCell ⟨B,4,none⟩ x4).setCell ⟨B,5,none⟩ x5).setCell ⟨B,6,none⟩ x6).setCell ⟨B,7,none⟩ x7) (some B):=
 wAd (wAd (wAd (wAd (wAd (wAd (wAd (wAc w B 0 x0) (wAc _ B 1 x1)) (wAc _ B 2 x2)) (wAc _ B 3 x3)) (wAc _ B 4 x4)) (wAc _ B 5 x5)) (wAc _ B 6 x6)) (wAc _ B 7 x7)
theorem zMg(id:Int)(b p:Nat)(v:Value)(os:List O)(w:World)(h:St w b p v os)(h1:idx id os<0) :
  Calls prog 62 #[.pointer (some ⟨p,0,none⟩),.int .i64 id] w fun x w'=>x=.returned (.tuple #[.agg #[.int .i64 0,.int .i64 0,.int .i64 0,.int .i64 0,.int .i64 0,.int .i64 0,.int .i64 0,.int .i64 0],errV 5])∧Bw w w':=by
 have HF:Hid (∀W,Bw w W→Calls prog 99 #[.pointer (some ⟨p,0,none⟩),.int .i64 id] W fun e w'=>e=.returned (.int .i64 (idx id os))∧Bw W w'):=fun W hW=>wAr id b p v os W (h.below hW)
 generalize idx id os=k at *;clear h;go_enter func62,ntmps62;go_wp2_with fail;refine(HF.out _ ((bzR _ _).alloc (nzR _) _)).mono ?_;rintro x w2⟨rfl,Ha⟩;have gG:Bw w w2:=((bzR _ _).alloc (nzR _) _).trans (Ha.mono (by simp))
 have gw:w2.heap[w.heap.size]?=some (.cells #[.int .i64 0,.int .i64 0,.int .i64 0,.int .i64 0,.int .i64 0,.int .i64 0,.int .i64 0,.int .i64 0] 34 (0,0)):=(Ha.block w.heap.size (by simp)).trans (jA w _)
 clear Ha;obtain⟨c0,c1,c2,c3,c4,c5,c6,c7,hf⟩:=row8 gw;have f0:=hf 0;have f1:=hf 1;have f2:=hf 2;have f3:=hf 3;have f4:=hf 4;have f5:=hf 5;have f6:=hf 6;have f7:=hf 7;clear hf;have HX:=set8 gw (.int .i64 0) (.int .i64 0) (.int .i64 0) (.int .i64 0) (.int .i64 0) (.int .i64 0) (.int .i64 0) (.int .i64 0);have GA:Bw w ((((((((w2.setCell ⟨w.heap.size,0,none⟩ (.int .i64 0)).setCell ⟨w.heap.size,1,none⟩ (.int .i64 0)).setCell ⟨w.heap.size,2,none⟩ (.int .i64 0)).setCell ⟨w.heap.size,3,none⟩ (.int .i64 0)).setCell ⟨w.heap.size,4,none⟩ (.int .i64 0)).setCell ⟨w.heap.size,5,none⟩ (.int .i64 0)).setCell ⟨w.heap.size,6,none⟩ (.int .i64 0)).setCell ⟨w.heap.size,7,none⟩ (.int .i64 0)):=gG.grown (gr8 w2 w.heap.size (.int .i64 0) (.int .i64 0) (.int .i64 0) (.int .i64 0) (.int .i64 0) (.int .i64 0) (.int .i64 0) (.int .i64 0)) gG.size (fun k hk=>by cases hk;exact nzR _)
 go_wp2_with fail;generalize ((((((((w2.setCell ⟨w.heap.size,0,none⟩ (.int .i64 0)).setCell ⟨w.heap.size,1,none⟩ (.int .i64 0)).setCell ⟨w.heap.size,2,none⟩ (.int .i64 0)).setCell ⟨w.heap.size,3,none⟩ (.int .i64 0)).setCell ⟨w.heap.size,4,none⟩ (.int .i64 0)).setCell ⟨w.heap.size,5,none⟩ (.int .i64 0)).setCell ⟨w.heap.size,6,none⟩ (.int .i64 0)).setCell ⟨w.heap.size,7,none⟩ (.int .i64 0))=V at *;obtain⟨d0,d1,d2,d3,d4,d5,d6,d7,-⟩:=row8 HX;clear HX;exact jN (v:=.tuple #[.agg #[.int .i64 0,.int .i64 0,.int .i64 0,.int .i64 0,.int .i64 0,.int .i64 0,.int .i64 0,.int .i64 0],.iface 90 (.int .i64 5)]) (by simp[results,results62,go_sem,d0,d1,d2,d3,d4,d5,d6,d7]) rfl ⟨rfl,GA⟩
def DropOk(b p:Nat)(v:Value)(L:List O)(w w' : World):Prop:=∃v',St w' b p v' L∧Trn w w' p v∧v'.ownBlock=v.ownBlock
theorem zMh(id:Int)(i:Nat)(b p g off n c:Nat)(a1 a2 a3 a4 a5 a6 a7 a8:Int)(os:List O)(w:World)(hn:n=os.length)(h:St w b p (.slice (some ⟨g,off,none⟩) n c) os)(hi:i<n)(h1:idx id os=(i:Int))(ho:os[i]! = ⟨a1,a2,a3,a4,a5,a6,a7,a8⟩)(hl:n≤1000) :
  Calls prog 62 #[.pointer (some ⟨p,0,none⟩),.int .i64 id] w fun x w'=>x=.returned (.tuple #[.agg #[.int .i64 a1,.int .i64 a2,.int .i64 a3,.int .i64 a4,.int .i64 a5,.int .i64 a6,.int .i64 a7,.int .i64 a8],.nilIface])∧DropOk b p (.slice (some ⟨g,off,none⟩) n c) (os.take i++os.drop (i+1)) w w':=by
 have HF:Hid (∀W,Below w.heap.size w W→Calls prog 99 #[.pointer (some ⟨p,0,none⟩),.int .i64 id] W fun e w'=>e=.returned (.int .i64 (i:Int))∧Below W.heap.size W w'):=fun W hW=>by
  have:=wAr id b p _ os W (h.below hW)
  rwa [h1] at this
 have HS:=hidP h;have HN:=hidP (show n=os.length∧i<n∧n≤1000 from⟨hn,hi,hl⟩)
 have eT:OwnM w b 34 8 (.slice (some ⟨g,off,none⟩) n c) n (flat os):=by
  have:=h.own
  rwa [OwnQ,←hn] at this
 obtain⟨hfl,ud,-,GH,gi,-,-⟩:=wAk eT;have HOn:=hidP eT;have Bk:Hid (∀j v,(oL ⟨a1,a2,a3,a4,a5,a6,a7,a8⟩)[j]?=some v→w.cell? ⟨g,off+i*8+j,none⟩=some v):=fun j v hv=>by
  rcases h.own.sl with ⟨e,_⟩|⟨g',off',c',e,_,_,_,hli⟩
  ·cases e
  ·cases e;exact hli i (by omega) j v (by rw[ho];exact hv)
 have hgp:g≠p:=fun e=>by
  obtain⟨cur,h3,-⟩:=(wAk eT).2.2.1;have h4:=h.blk;rw[←e,h3] at h4;simp only[Option.some.injEq,Obj.cells.injEq] at h4;exact absurd h4.2.1 (by decide)
 have Mr:=hidP (show g≠p∧g<w.heap.size∧p<w.heap.size∧b≤g∧b≤p from⟨hgp,(OwnM.lt eT g rfl).2,h.lt,ud,h.le⟩)
 have gL:c≤9223372036854775807:=by simpa [maxLen] using gi
 have SO:Hid (∀W,Below w.heap.size w W→W.cell? ⟨p,0,none⟩=some (.slice (some ⟨g,off,none⟩) n c)∧W.frozen? ⟨p,0,none⟩=false):=fun W hW=>by
  have hr:=(HS.out.below hW).blk;exact⟨by simp[World.cell?,hr],by simp[World.frozen?,hr]⟩
 have Hv:(i:Int)<(n:Int):=by omega
 have gY:¬((i:Int)<0):=by omega
 have cF:=hidP (show wrap64 ((i:Int)+1)=((i+1:Nat):Int) by unfold wrap64;omega)
 clear h hn hi h1 ho hl eT hfl ud GH gi hgp gL;go_enter func62,ntmps62;go_wp2_with fail;refine(HF.out _ ((bzR _ _).alloc (nzR _) _)).mono ?_;rintro x w2⟨rfl,Ha⟩;have Hg:=hidP (((bzR _ w).alloc (nzR _) _).trans (Ha.mono (by simp)))
 have gw:w2.heap[w.heap.size]?=some (.cells #[.int .i64 0,.int .i64 0,.int .i64 0,.int .i64 0,.int .i64 0,.int .i64 0,.int .i64 0,.int .i64 0] 34 (0,0)):=(Ha.block w.heap.size (by simp)).trans (jA w _)
 clear Ha HF;obtain⟨P0,hP0⟩:∃P0,P0=w.heap.size:=⟨_,rfl⟩;rw[←hP0] at gw ⊢;have PP:=hidP hP0;clear hP0;have dO:P0<w2.heap.size:=(gzE.1 gw).1;obtain⟨q0,qf⟩:=SO.out _ Hg.out;have t0:=zAa Hg.out (Bk.out 0 _ rfl);have t1:=zAa Hg.out (Bk.out 1 _ rfl);have t2:=zAa Hg.out (Bk.out 2 _ rfl);have t3:=zAa Hg.out (Bk.out 3 _ rfl);have t4:=zAa Hg.out (Bk.out 4 _ rfl);have t5:=zAa Hg.out (Bk.out 5 _ rfl);have t6:=zAa Hg.out (Bk.out 6 _ rfl);have t7:=zAa Hg.out (Bk.out 7 _ rfl);simp only[Nat.add_zero] at t0;have Pw:p<w2.heap.size:=by have h1:=Mr.out;have h2:=Hg.out.size;omega
 have gZ:=jA w2 (.cells #[.int .i64 a1,.int .i64 a2,.int .i64 a3,.int .i64 a4,.int .i64 a5,.int .i64 a6,.int .i64 a7,.int .i64 a8] 34);have hBA:=(bzR _ w2).alloc (nzR _) (.cells #[.int .i64 a1,.int .i64 a2,.int .i64 a3,.int .i64 a4,.int .i64 a5,.int .i64 a6,.int .i64 a7,.int .i64 a8] 34);have es:=cF.out;go_upto_region 5 with fail
 clear t0 t1 t2 t3 t4 t5 t6 t7 q0 qf;generalize gQ:w2.alloc (.cells #[.int .i64 a1,.int .i64 a2,.int .i64 a3,.int .i64 a4,.int .i64 a5,.int .i64 a6,.int .i64 a7,.int .i64 a8] 34)=W3 at *;have HU:=hidP (Hg.out.trans (hBA.mono Hg.out.size));have Cp:W3.heap[P0]?=some (.cells #[.int .i64 0,.int .i64 0,.int .i64 0,.int .i64 0,.int .i64 0,.int .i64 0,.int .i64 0,.int .i64 0] 34 (0,0)):=(hBA.block _ dO).trans gw;obtain⟨P1,ux⟩:∃P1,P1=w2.heap.size:=⟨_,rfl⟩;simp only[←ux] at gZ ⊢;have HP1:=hidP (show P0<P1 by rw[ux];exact dO)
 clear ux gQ hBA gw dO Pw;obtain⟨q0,qf⟩:=SO.out _ HU.out;have cE:=hidP (wAS W3 b g off n c i (i+1) (flat os) (OwnM.below HOn.out HU.out) (by omega) (by have:=HN.out;omega) (wAB _))
 have e1:((i+1:Nat):Int)=(i:Int)+1:=by omega
 go_wp2_with fail;refine cE.out.mono ?_;rintro e w4⟨rfl,Cn,PX⟩;have Cr:w4.heap[P1]?=some (.cells #[.int .i64 a1,.int .i64 a2,.int .i64 a3,.int .i64 a4,.int .i64 a5,.int .i64 a6,.int .i64 a7,.int .i64 a8] 34 (0,0)):=(PX.block P1 (gzE.1 gZ).1 (fun e=>by cases e;have h1:=Mr.out;have h2:=HP1.out;have h3:=PP.out;omega)).trans gZ
 have Cq:w4.heap[P0]?=some (.cells #[.int .i64 0,.int .i64 0,.int .i64 0,.int .i64 0,.int .i64 0,.int .i64 0,.int .i64 0,.int .i64 0] 34 (0,0)):=(PX.block P0 (gzE.1 Cp).1 (fun e=>by cases e;have h1:=Mr.out;have h3:=PP.out;omega)).trans Cp
 have Hd:w4.heap[p]?=some (.cells #[.slice (some ⟨g,off,none⟩) n c] 93 (0,0)):=(PX.block p (by have h1:=Mr.out;have h2:=HU.out.size;omega) (fun e=>by cases e;exact Mr.out.1 rfl)).trans (HS.out.below HU.out).blk
 obtain⟨v4,hv4⟩:∃v4,v4=i+(n - (i+1)):=⟨_,rfl⟩;rw[←hv4] at Cn ⊢;obtain⟨W5,mv⟩:∃W5,W5=w4.setCell ⟨p,0,none⟩ (.slice (some ⟨g,off,none⟩) v4 c):=⟨_,rfl⟩;have bG:w4.grownBy W5 (some p):=by rw[mv];exact wAc w4 p 0 _
 have HST5:Hid (St W5 b p (.slice (some ⟨g,off,none⟩) v4 c) (os.take i++os.drop (i+1))):=by
  refine⟨?_,Mr.out.2.2.2.2,?_⟩
  ·rw[mv,setCell_eq_setRow w4 p 0 _ _ _ _ Hd,setRow_heap w4 p _ _ _ _ Hd];rfl
  ·have h5:=OwnM.kept Cn bG (.inr fun e=>by cases e;exact Mr.out.1 rfl)
   have e2:(flat os).take (i*8)++(flat os).drop ((i+1)*8)=flat (os.take i++os.drop (i+1)):=by
    have e3:os=os.take i++os.drop i:=(jR _ _).symm;have U9:(flat (os.take i)).length=i*8:=(by rw[wAl,jJ,Nat.min_eq_left (by have:=HN.out;omega)]);have uM:(flat (os.take (i+1))).length=(i+1)*8:=(by rw[wAl,jJ,Nat.min_eq_left (by have:=HN.out;omega)]);have f1:flat os=flat (os.take i)++flat (os.drop i):=(by rw[←wAg,jR]);have f2:flat os=flat (os.take (i+1))++flat (os.drop (i+1)):=(by rw[←wAg,jR]);rw[wAg]
    congr 1
    ·rw[f1,←U9,List.take_left]
    ·rw[f2,←uM,List.drop_left]
   rw[e2] at h5;have Hh:(os.take i++os.drop (i+1)).length=v4:=by rw[jE,jJ,jQ,hv4];have:=HN.out;omega
   show OwnM _ _ _ _ _ _ _
   rw[Hh];exact h5
 have HTR5:Hid (Trn w W5 p (.slice (some ⟨g,off,none⟩) n c)):=
  ⟨bG.os.trans (PX.os.trans HU.out.os),bG.tape.trans (PX.tape.trans HU.out.tape),bG.output.trans (PX.output.trans HU.out.output),jM HU.out.size (jM PX.size bG.size),fun k hk M7 ED=>by
   have uS:k<W3.heap.size:=jC hk HU.out.size;rw[bG.block k (jC uS PX.size) (fun e=>by cases e;exact M7 rfl),PX.block k uS (fun e=>ED e.symm),HU.out.block k hk]⟩
 have c0:w4.cell? ⟨p,0,none⟩=some (.slice (some ⟨g,off,none⟩) n c):=by simp[World.cell?,Hd]
 have cf:w4.frozen? ⟨p,0,none⟩=false:=by simp[World.frozen?,Hd]
 have hR35:W5.heap[P1]?=some (.cells #[.int .i64 a1,.int .i64 a2,.int .i64 a3,.int .i64 a4,.int .i64 a5,.int .i64 a6,.int .i64 a7,.int .i64 a8] 34 (0,0)):=(bG.block P1 (gzE.1 Cr).1 (fun e=>by cases e;have h1:=Mr.out;have h2:=HP1.out;have h3:=PP.out;omega)).trans Cr
 have eY:W5.heap[P0]?=some (.cells #[.int .i64 0,.int .i64 0,.int .i64 0,.int .i64 0,.int .i64 0,.int .i64 0,.int .i64 0,.int .i64 0] 34 (0,0)):=(bG.block P0 (gzE.1 Cq).1 (fun e=>by cases e;have h1:=Mr.out;have h3:=PP.out;omega)).trans Cq
 have D9:=hidP (show (Value.slice (some ⟨g,off,none⟩) v4 c).ownBlock=(Value.slice (some ⟨g,off,none⟩) n c).ownBlock from rfl)
 have MA:=hidP mv;clear Cn PX bG Cr Cq Hd gZ Cp q0 qf cE hv4 e1 es mv;go_upto_region 6 with fail
 rw[←MA.out];clear MA c0 cf;obtain⟨x0,x1,x2,x3,x4,x5,x6,x7,-⟩:=row8 hR35;obtain⟨z0,z1,z2,z3,z4,z5,z6,z7,Bc⟩:=row8 eY;have f0:=Bc 0;have f1:=Bc 1;have f2:=Bc 2;have f3:=Bc 3;have f4:=Bc 4;have f5:=Bc 5;have f6:=Bc 6;have f7:=Bc 7;clear Bc;have HX:=set8 eY (.int .i64 a1) (.int .i64 a2) (.int .i64 a3) (.int .i64 a4) (.int .i64 a5) (.int .i64 a6) (.int .i64 a7) (.int .i64 a8);have HG6:=hidP (gr8 W5 P0 (.int .i64 a1) (.int .i64 a2) (.int .i64 a3) (.int .i64 a4) (.int .i64 a5) (.int .i64 a6) (.int .i64 a7) (.int .i64 a8));go_wp2_with fail;generalize ((((((((W5.setCell ⟨P0,0,none⟩ (.int .i64 a1)).setCell ⟨P0,1,none⟩ (.int .i64 a2)).setCell ⟨P0,2,none⟩ (.int .i64 a3)).setCell ⟨P0,3,none⟩ (.int .i64 a4)).setCell ⟨P0,4,none⟩ (.int .i64 a5)).setCell ⟨P0,5,none⟩ (.int .i64 a6)).setCell ⟨P0,6,none⟩ (.int .i64 a7)).setCell ⟨P0,7,none⟩ (.int .i64 a8))=V at *
 obtain⟨d0,d1,d2,d3,d4,d5,d6,d7,-⟩:=row8 HX;have Hz:Hid (DropOk b p (.slice (some ⟨g,off,none⟩) n c) (os.take i++os.drop (i+1)) w V):=by
  refine⟨.slice (some ⟨g,off,none⟩) v4 c,zHT HST5.out HG6.out (fun e=>by cases e;have h1:=Mr.out;have h3:=PP.out;omega) (.inr fun e=>by have hg:g=P0:=Option.some.inj e;have h1:=Mr.out;have h3:=PP.out;omega),?_,D9.out⟩
  have t:=HTR5.out;have g6:=HG6.out;exact⟨g6.os.trans t.os,g6.tape.trans t.tape,g6.output.trans t.output,jM t.size g6.size,fun k hk M7 ED=>by
   rw[g6.block k (jC hk t.size) (fun e=>by cases e;have h3:=PP.out;omega),t.block k hk M7 ED]⟩
 clear HX;exact jN (v:=.tuple #[.agg #[.int .i64 a1,.int .i64 a2,.int .i64 a3,.int .i64 a4,.int .i64 a5,.int .i64 a6,.int .i64 a7,.int .i64 a8],.nilIface]) (by simp[results,results62,go_sem,d0,d1,d2,d3,d4,d5,d6,d7]) rfl ⟨rfl,Hz.out⟩
end wak
end Go.Proofs.YtnfilcpnneckkaaGreat
