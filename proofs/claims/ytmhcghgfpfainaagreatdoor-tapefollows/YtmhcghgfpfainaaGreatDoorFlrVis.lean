import Derived.Test.YtmhcghgfpfainaaGreatDoorTapSrt
import Derived.Maps.RangeWalk
set_option maxHeartbeats 4000000
set_option maxRecDepth 100000
namespace Go.Proofs.YtmhcghgfpfainaaGreatDoor
open Tryz
namespace tap
open Go.RowKit mee flr Go.Maps
open spn (zAa zAg errV wAa wAb)
open wak (OwnM wAd wAy wAh)
def zBA(f:Fm):List X3:=(List.range 9999).filterMap fun(i:Nat)=>(f ((i:Int)+1)).map fun a=>((i:Int)+1,a.1,a.2)
theorem zGp{f:Fm}(hf:FOk f)(id q p:Int):(id,q,p)∈zBA f↔f id=some (q,p):=by
 unfold zBA;rw[List.mem_filterMap];constructor
 ·rintro⟨i,-,hi⟩;rw[Option.map_eq_some_iff] at hi;obtain⟨a,ha,he⟩:=hi;simp only[Prod.mk.injEq] at he;obtain⟨h1,h2,h3⟩:=he;rw[←h1,ha,←h2,←h3]
 ·intro h;have:=hf id _ h;refine⟨(id - 1).toNat,by rw[List.mem_range];omega,?_⟩
  have e:(((id - 1).toNat:Nat):Int)+1=id:=by omega
  rw[e,h];rfl
theorem zEO(f:Fm):(zBA f).Pairwise fun a b=>a.1<b.1:=by
 unfold zBA;rw[List.pairwise_filterMap];refine List.Pairwise.imp ?_ (List.pairwise_lt_range);intro a b um x hx y hy;rw[Option.map_eq_some_iff] at hx hy;obtain⟨_,_,rfl⟩:=hx;obtain⟨_,_,rfl⟩:=hy;simp only;omega
theorem zIn:∀ {l m:List X3},l.Pairwise (fun a b=>a.1<b.1)→m.Pairwise (fun a b=>a.1<b.1)→(∀x,x∈l↔x∈m)→l=m
 | [],[],_,_,_=>rfl
 | [],b::m,_,_,h=>by have:=(h b).2 List.mem_cons_self;simp at this
 | a::l,[],_,_,h=>by have:=(h a).1 List.mem_cons_self;simp at this
 | a::l,b::m,hl,hm,h=>by
  rw[List.pairwise_cons] at hl hm;have um:a=b:=by
   rcases List.mem_cons.1 ((h a).1 List.mem_cons_self) with e|e
   ·exact e
   ·rcases List.mem_cons.1 ((h b).2 List.mem_cons_self) with e2|e2
    ·exact e2.symm
    ·have h1:=hm.1 a e;have h2:=hl.1 b e2;omega
  subst um
  congr 1
  refine zIn hl.2 hm.2 fun x=>?_
  constructor
  ·intro hx;rcases List.mem_cons.1 ((h x).1 (List.mem_cons_of_mem _ hx)) with e|e
   ·have:=hl.1 x hx;subst e;omega
   ·exact e
  ·intro hx;rcases List.mem_cons.1 ((h x).2 (List.mem_cons_of_mem _ hx)) with e|e
   ·have:=hm.1 x hx;subst e;omega
   ·exact e
structure Col (f:Fm) (left:Lit→Bool) (ts:List X3):Prop where
 mem:∀id q p,(id,q,p)∈ts↔f id=some (q,p)∧left (.int .i64 id)=false
 one:(ts.map (·.1)).Nodup
theorem Col.start{f:Fm}{D:DataW Unit}(hD:MapIs D f):Col f (Maps.has D) []:=by
 refine⟨fun id q p=>?_,by simp⟩
 constructor
 ·intro h;simp at h
 ·rintro⟨h1,h2⟩;rw[hD.has_,h1] at h2;cases h2
theorem Col.step{f:Fm}{left:Lit→Bool}{ts:List X3}(h:Col f left ts){x:Int}{a:Am}(hx:left (.int .i64 x)=true)(hf:f x=some a) :
  Col f (fun z=>left z && !z.sameKey (.int .i64 x)) (ts++[(x,a.1,a.2)]):=by
 have hk:∀id:Int,(Lit.int .i64 id).sameKey (.int .i64 x)=decide (id=x):=fun id=>by
  by_cases e:id=x
  ·subst e;rw[decide_eq_true rfl];simp[Lit.sameKey]
  ·rw[sameKey_ne (zHz e),decide_eq_false e]
 refine⟨fun id q p=>?_,?_⟩
 ·rw[List.mem_append,h.mem,hk];by_cases e:id=x
  ·subst e;rw[hx,hf];simp;constructor
   ·rintro⟨rfl,rfl⟩;rfl
   ·rintro rfl;exact⟨rfl,rfl⟩
  ·simp[e]
 ·rw[jF,List.nodup_append];refine⟨h.one,by simp,?_⟩
  intro a1 ha b1 hb e;simp at hb;subst hb e;obtain⟨⟨i,q,p⟩,hm,rfl⟩:=List.mem_map.1 ha;have:=((h.mem i q p).1 hm).2;simp only at hx;rw[hx] at this;cases this
theorem Col.sorted{f:Fm}(hf:FOk f){left:Lit→Bool}{ts ys:List X3}(h:Col f left ts)(hl:∀kl,left kl=false)(hp:ys.Perm ts)(hs:ys.Pairwise fun a b=>a.1≤b.1):ys=zBA f:=by
 have hn:(ys.map (·.1)).Nodup:=((hp.map (·.1)).nodup_iff).2 h.one;refine zIn ?_ (zEO f) fun⟨i,q,p⟩=>?_
 ·have be:=List.pairwise_map.1 hn;exact(hs.and be).imp fun {a b} ⟨h1,h2⟩=>by omega
 ·rw[hp.mem_iff,h.mem,zGp hf];constructor
  ·exact fun x=>x.1
  ·exact fun x=>⟨x,hl _⟩
def zRY:Value:=.agg #[.int .i64 0,.int .i64 0,.int .i64 0]
theorem infoX:(prog.info? 33).map (fun i=>(i.zero,i.size,i.bytes))=some (some zRY,3,24):=by kernel_rfl
theorem infoX' : ∃i,prog.info? 33=some i∧i.zero=some zRY∧i.size=3∧i.bytes=24:=by
 have h:=infoX;cases hq:prog.info? 33 with
 | none=>rw[hq] at h;simp at h
 | some i=>
  rw[hq] at h;simp only[Option.map_some,Option.some.injEq,Prod.mk.injEq] at h;exact⟨i,rfl,h.1,h.2.1,h.2.2⟩
theorem zPU(b n:Nat)(f:Fm)(w:World)(h:HM w b n f)(hf:FOk f)(hn:n≤400) :
  Calls prog 16 #[.map (some b)] w fun e w'=>∃v,e=.returned v∧Own3 w' w.heap.size v (zBA f)∧Bw w w':=by
 obtain⟨i0,Gg,gH,gw,gD⟩:=infoX';have HI:=hidT Gg;obtain⟨D,Hh,hD⟩:=h;have HD:=hidT hD;have mG:b<w.heap.size:=Hh.lt;have gI:=hidT mG;have G4:=Hh.size_le;have mR:Hid (Maps.size D≤400):=jM G4 hn;clear Gg G4 mG;go_enter func16,ntmps16;go_wp2_with (first
  | (at_range;refine wpList_range_own _ rfl _ 61 rfl 3 97 lawI underlying61 _ b n _ rfl Hh ?_;intro w0 E7 BV hs0)
  | go_in)
 go_frame
 have uO:Hid (Bw w w0):=(bzR _ _).grown BV (nzR _) (fun k hk=>by cases hk)
 have DY:=hidT hs0;clear hs0 BV
 go_loopw [3,4,5] (fun s3 _ _ wr=>∃ (left:Lit→Bool) (cnt:Nat) (q:Option Addr) (c m:Nat) (ts:List X3),s3=.slice q m c∧wr.ranges prog 3 amR b w.heap.size n D left cnt∧Aside (m=ts.length∧ts.length+cnt≤400∧Own3 wr (w.heap.size+1) (.slice q m c) ts∧Col f left ts∧Below w.heap.size w wr∧w.heap.size+1≤wr.heap.size))
  (fun _ _ _ wr=>wr.rangeLeft b w.heap.size)
 case atStart=>exact⟨_,_,none,0,0,[],rfl,E7,rfl,by simpa using mR.out,⟨rfl,.inl ⟨rfl,rfl⟩⟩,Col.start HD.out,uO.out,Nat.le_of_eq DY.out.symm⟩
 case round=>
  obtain⟨left,cnt,q,c,m,ts,rfl,GU,HA⟩:=hrel;clear E7 Hh uO DY;go_wp2_with (first
   | (at_next;refine wpList_next_ranges _ rfl _ rfl 3 lawI amR (fun x:Int=>Value.int .i64 x) (fun a:Am=>Value.agg #[.int .i64 a.1,.int .i64 a.2]) (fun key kl hk=>by obtain⟨x,hx,_⟩:=Maps.keyOf_int_inv underlying3 hk;exact⟨x,hx⟩) (fun v y hv=>by obtain⟨a,c,hv,_⟩:=zIm hv;exact⟨(a,c),hv⟩) b w.heap.size n _ _ _ rfl GU ?_ ?_)
   | go_in)
  ·intro _ hl0;have HL:=hidT hl0;clear hl0;go_wp2_with fail;have hA:=HA.out;have hO:Own3 wr (w.heap.size+1) (.slice q m c) ts:=hA.2.2.1;refine(zNs wr (w.heap.size+1) (.slice q m c) ts hO (by omega)).mono ?_
   rintro e w'⟨rfl,ys,hp,hs,ho,hg⟩;have HF:Hid (Own3 w' w.heap.size (.slice q m c) (zBA f)∧Bw w w'):=by
    rw[←hA.2.2.2.1.sorted hf HL.out hp hs];exact⟨OwnM.mono ho (Nat.le_succ _),hA.2.2.2.2.1.grown hg hA.2.2.2.2.1.size (fun k hk=>jM (Nat.le_succ _) (OwnM.lt hO k hk).1)⟩
   clear hp hs ho hg hA hO;go_wp2_with fail;go_ret;exact⟨_,rfl,HF.out.1,HF.out.2⟩
  ·intro x a1 a2 kl yd yp w1 cnt1 gJ hlk hv Gk C2 Hj m7 Hm hen;obtain⟨x',ex,rfl,_⟩:=Maps.keyOf_int_inv underlying3 gJ;obtain rfl:x=x':=by cases ex;rfl
   have hfx:f x=some (a1,a2):=by
    have h1:=Gk (.lit (.int .i64 0));rw[HD.out.at_] at h1;obtain⟨p1,p2,pi,hyy⟩:=zIm hv;obtain⟨rfl,rfl⟩:p1=a1∧p2=a2:=(by simp at pi;exact⟨pi.1.symm,pi.2.symm⟩);obtain⟨rfl,-⟩:=Prod.mk.inj hyy;cases hq:f x with
    | none=>rw[hq] at h1;simp[amD] at h1
    | some z=>rw[hq] at h1;rw[zIl h1]
   have hA:=HA.out;have HC:=hidT (hA.2.2.2.1.step hlk hfx);have He:Hid (Bw w w1):=hA.2.2.2.2.1.grown m7 hA.2.2.2.2.1.size (fun k hk=>by cases hk;exact nzR _)
   have Gi:Hid (Own3 w1 (w.heap.size+1) (.slice q m c) ts):=OwnM.kept hA.2.2.1 m7 (by
    cases hq:(Value.slice q m c).ownBlock with
    | none=>exact .inl rfl
    | some g=>right;intro e;cases e;have:=(OwnM.lt hA.2.2.1 _ hq).1;omega)
   have PZ:Hid (w.heap.size+1≤w1.heap.size):=by show _≤_;rw[Hm];exact hA.2.2.2.2.2
   have HM:Hid (m=ts.length∧ts.length+1+cnt1≤400):=⟨hA.1,by have:=hA.2.1;omega⟩
   have cV:Hid (cnt1<w1.rangeLeft b w.heap.size+1∧wr.rangeLeft b w.heap.size=cnt∧cnt1<cnt):=⟨by rw[C2.left_eq];omega,GU.left_eq,Hj⟩
   clear Hm m7 gJ hlk hv Gk Hj hA HA hfx GU ex;go_upto_region 5 with fail
   have E8:=C2.alloc (.cells #[.int .i64 a1,.int .i64 a2] 97);have hR:=jA w1 (.cells #[.int .i64 a1,.int .i64 a2] 97);have Hg:Hid (Bw w (w1.alloc (.cells #[.int .i64 a1,.int .i64 a2] 97))):=He.out.alloc He.out.size _;have Ge:Hid (Own3 (w1.alloc (.cells #[.int .i64 a1,.int .i64 a2] 97)) (w.heap.size+1) (.slice q m c) ts):=OwnM.below Gi.out ((bzR _ _).alloc (nzR _) _);have uX:Hid (w.heap.size+1≤(w1.alloc (.cells #[.int .i64 a1,.int .i64 a2] 97)).heap.size):=by show _≤_;rw[World.size_alloc];have:=PZ.out;omega
   clear He Gi PZ C2 hen;generalize w1.alloc (.cells #[.int .i64 a1,.int .i64 a2] 97)=V at *;have d0:V.cell? ⟨w1.heap.size,0,none⟩=some (.int .i64 a1):=by simp[World.cell?,hR]
   have d1:V.cell? ⟨w1.heap.size,1,none⟩=some (.int .i64 a2):=by simp[World.cell?,hR]
   clear hR;have mw:=hidT (E8.alloc (.cells #[.int .i64 x,.int .i64 a1,.int .i64 a2] 33));have HU:Hid (Bw w (V.alloc (.cells #[.int .i64 x,.int .i64 a1,.int .i64 a2] 33))):=Hg.out.alloc Hg.out.size _;have pF:Hid (OwnM (V.alloc (.cells #[.int .i64 x,.int .i64 a1,.int .i64 a2] 33)) (w.heap.size+1) 33 3 (.slice q m c) m (zDi ts)):=by
    have:=OwnM.below Ge.out ((bzR _ _).alloc (nzR _) (.cells #[.int .i64 x,.int .i64 a1,.int .i64 a2] 33));rw[←HM.out.1] at this;exact this
   have M5:Hid (w.heap.size+1≤(V.alloc (.cells #[.int .i64 x,.int .i64 a1,.int .i64 a2] 33)).heap.size):=by show _≤_;rw[World.size_alloc];have:=uX.out;omega
   have pE:Hid (∀j u,([.int .i64 x,.int .i64 a1,.int .i64 a2]:List Value)[j]?=some u→(V.alloc (.cells #[.int .i64 x,.int .i64 a1,.int .i64 a2] 33)).cell? ((⟨V.heap.size,0,none⟩:Addr).add j)=some u):=by
    intro j u hu;rw[Addr.add_lit,Nat.zero_add,World.cell?_alloc_at _ _ _ _ rfl];simpa using hu
   clear E8 Hg Ge uX;go_wp2_with (at_builtin;(refine wAd _ rfl _ _ 23 rfl (w.heap.size+1) 33 i0 zRY 3 24 underlying23 HI.out gH gw gD rfl (.slice q m c) _ _ rfl pF.out ⟨V.heap.size,0,none⟩ 1 1 [.int .i64 x,.int .i64 a1,.int .i64 a2] rfl rfl pE.out (fun u hu=>by simp only[List.mem_cons,List.not_mem_nil,or_false] at hu;rcases hu with rfl|rfl|rfl <;>rfl) ?c3 ?c4 ?c5 ?_))
   case c3=>have:=HM.out;unfold maxLen;omega
   case c4=>have:=HM.out;omega
   case c5=>have:=M5.out;simpa using this
   intro v' w' gA Hw uo;obtain⟨q2,c2,gX⟩:=OwnM.form gA;subst gX;have dE:∀k,(Value.slice q m c).ownBlock=some k→w.heap.size+1≤k:=fun k hk=>(OwnM.lt pF.out k hk).1
   have DV:Hid (w'.ranges prog 3 amR b w.heap.size n D (fun z=>left z && !z.sameKey (.int .i64 x)) cnt1):=mw.out.kept Hw (fun e=>by have:=dE b e.symm;have:=gI.out;omega) (fun e=>by have:=dE _ e.symm;omega)
   have U5:Hid (m+1=(ts++[(x,a1,a2)]).length∧(ts++[(x,a1,a2)]).length+cnt1≤400∧Own3 w' (w.heap.size+1) (.slice q2 (m+1) c2) (ts++[(x,a1,a2)])∧Col f (fun z=>left z && !z.sameKey (.int .i64 x)) (ts++[(x,a1,a2)])∧Bw w w'∧w.heap.size+1≤w'.heap.size):=by
    have e1:m+1=(ts++[(x,a1,a2)]).length:=(by rw[HM.out.1];simp);refine⟨e1,by have:=HM.out;simp;omega,?_,HC.out,HU.out.grown Hw HU.out.size (fun k hk=>jM (Nat.le_succ _) (dE k hk)),jM M5.out Hw.size⟩
    unfold Own3;rw[←e1,zHA,zNq];exact gA
   clear gA Hw uo dE mw HU pF M5 pE HC;go_wp2_with fail
   go_roundw
   case rel=>exact⟨_,cnt1,q2,c2,m+1,_,rfl,DV.out,U5.out⟩
   case measure=>rw[DV.out.left_eq,cV.out.2.1];exact cV.out.2.2
end tap
namespace tap
open Go.RowKit mee flr Go.Maps
open spn (zAa zAg errV wAa wAb)
open wak (OwnM wAy wAh)
def zKw(zs:List Ev):List X3:=if tchk zs=0 then zBA (zBP zs) else []
theorem zJs(v:Value)(zs:List Ev)(w:World)(h:EL w v zs) :
  Calls prog 4 #[v] w fun e w'=>∃x,e=.returned (.tuple #[x,errV (tchk zs)])∧Own3 w' w.heap.size x (zKw zs)∧Bw w w':=by
 have gG:=hidT (wAf v zs w h);by_cases hz:tchk zs=0
 rotate_left
 ·have e1:zKw zs=[]:=if_neg hz;rw[e1,wAb hz];rw[wAb hz] at gG;clear e1;generalize tchk zs=k at *;go_enter func4,ntmps4;go_wp2_with fail;refine gG.out.mono ?_;rintro e w1⟨rfl,hb⟩;go_wp2_with fail
  go_ret2
  exact⟨_,rfl,⟨rfl,.inl ⟨rfl,rfl⟩⟩,hb⟩
 obtain⟨h4,Ue⟩:=zEM hz;have e1:zKw zs=zBA (zBP zs):=if_pos hz;rw[e1,hz,wAa];rw[hz,wAa] at gG;have UP:=hidT Ue;have Uu:=hidT (FOk.heard Ue);obtain⟨q,c,rfl,Ma⟩:=h.form;have PQ:=hidT h;obtain⟨n,hN⟩:∃n,zs.length=n:=⟨_,rfl⟩;have HN:=hidT hN;rw[hN] at h4;have pD:=hidT h4;simp only[hN] at gG ⊢;rw[hN] at PQ;have mi:=@run_makeMap prog;clear e1 hz Ue h h4 hN Ma;go_enter func4,ntmps4;go_wp2_with fail;refine gG.out.mono ?_;rintro e w1⟨rfl,hb⟩;have He:=hidT (hb.alloc hb.size (.map #[] 0));have uJ:=hidT (HM.made w1);have PZ:=hidT hb.size;clear hb gG;go_wp2_with fail;obtain⟨M,hM⟩:∃M,w1.heap.size=M:=⟨_,rfl⟩;rw[hM] at uJ PZ;simp only[hM];clear hM;generalize w1.alloc (.map #[] 0)=V0 at *;go_loopg [7,16] n (fun gg _ s16 wr=>∃kk:Nat,kk≤n∧n - kk≤gg∧s16=.int .i64 kk∧Aside (Below w.heap.size w wr)∧Aside (HM wr M kk (zBP (zs.take kk))))
 case atStart=>exact⟨0,jL _,by omega,rfl,He.out,uJ.out⟩
 case round=>
  obtain⟨kk,gh,hg,rfl,BW,BM⟩:=hrel;by_cases Hj:kk<n
  ·have Hq:(kk:Int)<(n:Int):=by omega
   have gU:¬((kk:Int)<0):=by omega
   have Hv:kk<zs.length:=by rw[HN.out];exact Hj
   obtain⟨g,off,rfl,m8,gT⟩:=PQ.out.at Hv;have hee:=UP.out _ (show zs[kk]!∈zs by rw[getE _ _ Hv];exact jT Hv)
   have Uw:=hidT (zEN Hv);obtain⟨x,hx⟩:∃x,zs[kk]! = x:=⟨_,rfl⟩;rw[hx] at gT hee Uw;have HHE:=hidT (fun W (hW:HM W M kk (zBP (zs.take kk)))=>zPT M kk _ x W hW (Uu.out kk) (by have:=pD.out;omega) hee)
   rw[←Uw.out] at HHE;obtain⟨e1,e2,e3,e4,⟨t1,t2,t3,t4,t5,t6⟩⟩:=x;have c0:=zAa BW.out (gT 0 _ rfl);have c1:=zAa BW.out (gT 1 _ rfl);have c2:=zAa BW.out (gT 2 _ rfl);have c3:=zAa BW.out (gT 3 _ rfl);have c4:=zAa BW.out (gT 4 _ rfl);have c5:=zAa BW.out (gT 5 _ rfl);have c6:=zAa BW.out (gT 6 _ rfl);have c7:=zAa BW.out (gT 7 _ rfl);have c8:=zAa BW.out (gT 8 _ rfl);have c9:=zAa BW.out (gT 9 _ rfl);simp only[Nat.add_zero] at c0;have pQ:=hidT (zCy kk n Hj (by have:=pD.out;omega))
   have uw:Hid (kk<n∧n - kk≤gk):=⟨Hj,hg⟩;have hca:=HHE.out _ (BM.out.alloc (.cells #[.int .i64 e1,.int .i64 e2,.int .i64 e3,.int .i64 e4,.int .i64 t1,.int .i64 t2,.int .i64 t3,.int .i64 t4,.int .i64 t5,.int .i64 t6] 31));simp only[evL,tV,List.cons_append,jU] at hca;have PM:=hidT hca;have uI:=hidT (BW.out.alloc BW.out.size (.cells #[.int .i64 e1,.int .i64 e2,.int .i64 e3,.int .i64 e4,.int .i64 t1,.int .i64 t2,.int .i64 t3,.int .i64 t4,.int .i64 t5,.int .i64 t6] 31));have Uq:g<wr.heap.size:=jC m8 BW.out.size;clear gT hx gh hg Hj hee hca HHE Uw;go_wp2_with fail;refine PM.out.mono ?_;rintro e W3⟨rfl,hm3,uL⟩;have mN:=hidT hm3;have HU:=hidT (uI.out.grown uL uI.out.size (fun k hk=>by cases hk;exact PZ.out))
   clear hm3 uL PM uI c0 c1 c2 c3 c4 c5 c6 c7 c8 c9;go_wp2_with fail;go_roundg (n - (kk+1))
   case measure=>have:=uw.out;omega
   case rel=>exact⟨kk+1,uw.out.1,nzR _,congrArg (Value.int .i64) pQ.out,HU.out,mN.out⟩
  ·have Hq:¬(kk:Int)<(n:Int):=by omega
   have hT:zs.take kk=zs:=List.take_of_length_le (by rw[HN.out];omega)
   have hbm:=BM.out;have hfo:=Uu.out kk;rw[hT] at hbm hfo;have Bn:=hidT (zPU M kk _ wr hbm hfo (by have:=pD.out;omega))
   clear hT hbm hfo;go_wp2_with fail;refine Bn.out.mono ?_;rintro e w'⟨x,rfl,ho,hb⟩;have HO:=hidT (OwnM.mono ho BW.out.size);have HW:=hidT (BW.out.trans (hb.mono BW.out.size));clear ho hb Bn;go_wp2_with fail
   go_ret2
   exact⟨_,rfl,HO.out,HW.out⟩
end tap
namespace flr
open Go.RowKit
open que (R rchk)
open sid (L DL LS)
open mee (T tV OwnT zAr zAt metR)
open ord (O oV chk errV wAa wAb)
open bok (zAc zAf)
open kin (kdoE)
open slf (OwnI sE Fine)
open que (bal)
open wak (St SL Lies oL idx Trn)
structure VI (m:Int) (bs ss:List L) (o:O) (w' : World) (q1:Option Addr) (n1 c1:Nat) (q2:Option Addr) (n2 c2:Nat) (qt:Option Addr) (nt ct:Nat) (g:Int) (qi:Option Addr) (ni ci:Nat) (E:Value):Prop where
 ok:vE m bs ss o=0→E=.nilIface∧g=(vR m bs ss o).gone∧DL w' 0 (.slice q1 n1 c1) (vR m bs ss o).bs∧DL w' 0 (.slice q2 n2 c2) (vR m bs ss o).ss∧OwnT w' 0 (.slice qt nt ct) (vR m bs ss o).ts∧OwnI w' 0 (.slice qi ni ci) (vR m bs ss o).ids
 bad:¬vE m bs ss o=0→E=.iface 80 (.int .i64 (vE m bs ss o))
theorem VI.kp{S:List TypeId}{m:Int}{bs ss:List L}{o:O}{w w' : World}{q1:Option Addr}{n1 c1:Nat}{q2:Option Addr}{n2 c2:Nat}{qt:Option Addr}{nt ct:Nat}{g:Int}{qi:Option Addr}{ni ci:Nat}{E:Value}(h:VI m bs ss o w q1 n1 c1 q2 n2 c2 qt nt ct g qi ni ci E)(hk:Kp S w w')(h1:94 ∉ S)(h2:54 ∉ S)(h3:29 ∉ S)(h4:3 ∉ S):VI m bs ss o w' q1 n1 c1 q2 n2 c2 qt nt ct g qi ni ci E:=
 ⟨fun e=>by
  obtain⟨a,b,c,d,e,f⟩:=h.ok e;exact⟨a,b,hk.dl c h1 h2,hk.dl d h1 h2,hk.ownQ e h3,hk.ownQ f h4⟩,h.bad⟩
theorem zPV(m:Int)(h0:0≤m)(h3:m≤3)(q1 q2:Option Addr)(n1 n2 c1 c2:Nat)(bs ss:List L)(a b c d p q s t:Int)(w:World)(h1:LS w (.slice q1 n1 c1) bs)(h2:LS w (.slice q2 n2 c2) ss) :
  Calls prog 111 #[.agg #[.slice q1 n1 c1,.slice q2 n2 c2],.agg #[.int .i64 a,.int .i64 b,.int .i64 c,.int .i64 d,.int .i64 p,.int .i64 q,.int .i64 s,.int .i64 t],.int .i64 m] w fun e w'=>∃u1 m1 d1 u2 m2 d2 qt nt ct g qi ni ci E,e=.returned (.tuple #[.agg #[.slice u1 m1 d1,.slice u2 m2 d2],.slice qt nt ct,.int .i64 g,.slice qi ni ci,E])∧VI m bs ss ⟨a,b,c,d,p,q,s,t⟩ w' u1 m1 d1 u2 m2 d2 qt nt ct g qi ni ci E∧Bw w w':=by
 by_cases hm:m=0
 ·subst hm;refine(slf.zOY q1 q2 n1 n2 c1 c2 bs ss a b c d p q s t w h1 h2).mono ?_;rintro e w'⟨k1,k2,k3⟩;have hE:vE 0 bs ss ⟨a,b,c,d,p,q,s,t⟩=kdoE bs ss ⟨a,b,c,d,p,q,s,t⟩:=by unfold vE;rw[if_pos rfl]
  by_cases hk:kdoE bs ss ⟨a,b,c,d,p,q,s,t⟩=0
  ·obtain⟨y1,y2,l1,l2,f1,f2,tv,rfl,D1,D2,OT⟩:=k1 hk;obtain⟨tq,tc,rfl⟩:=wak.OwnM.form OT;refine⟨y1,l1,f1,y2,l2,f2,tq,_,tc,_,none,0,0,_,rfl,⟨fun _=>⟨rfl,?_,?_,?_,?_,?_⟩,fun h=>absurd (hE.trans hk) h⟩,k3⟩
   ·unfold vR;rw[if_pos rfl]
   ·unfold vR;rw[if_pos rfl];exact D1.mono (jL _)
   ·unfold vR;rw[if_pos rfl];exact D2.mono (jL _)
   ·unfold vR;rw[if_pos rfl];exact wak.OwnM.mono OT (jL _)
   ·unfold vR;rw[if_pos rfl];exact⟨rfl,.inl ⟨rfl,rfl⟩⟩
  ·have:=k2 hk;subst this;exact⟨none,0,0,none,0,0,none,0,0,0,none,0,0,_,rfl,⟨fun h=>absurd (hE.symm.trans h) hk,fun _=>by rw[hE];exact spn.wAb hk⟩,k3⟩
 ·refine(slf.zOX m (by omega) q1 q2 n1 n2 c1 c2 bs ss a b c d p q s t w h1 h2).mono ?_
  rintro e w'⟨k1,k2,k3⟩;by_cases hc:zAt bs ss ⟨a,b,c,d,p,q,s,t⟩=0
  ·obtain⟨v,hv⟩:=slf.zEn (m:=m) (o:=⟨a,b,c,d,p,q,s,t⟩) (k:=q) (by omega) (wAp hc)
   have C7:=zMJ hv;have hE:vE m bs ss ⟨a,b,c,d,p,q,s,t⟩=sE bs ss ⟨a,b,c,d,p,q,s,t⟩ v:=by unfold vE;rw[if_neg hm,if_pos hc];simp only[C7]
   have hV:vR m bs ss ⟨a,b,c,d,p,q,s,t⟩=⟨kin.setB (slf.repB ⟨a,b,c,d,p,q,s,t⟩ bs v.ls) ⟨a,b,c,d,p,q,s,t⟩ (slf.lfV v),kin.setS (slf.repS ⟨a,b,c,d,p,q,s,t⟩ ss v.ls) ⟨a,b,c,d,p,q,s,t⟩ (slf.lfV v),v.ts,slf.gnV v+kin.setG ⟨a,b,c,d,p,q,s,t⟩ (slf.lfV v),v.ids⟩:=by unfold vR;rw[if_neg hm];simp only[C7]
   obtain⟨k4,k5⟩:=k2 hc v hv;by_cases hs:sE bs ss ⟨a,b,c,d,p,q,s,t⟩ v=0
   ·obtain⟨y1,y2,l1,l2,f1,f2,tv,iv,rfl,D1,D2,OT,OI⟩:=k4 hs;obtain⟨tq,tc,rfl⟩:=wak.OwnM.form OT;obtain⟨iq,ic,rfl⟩:=wak.OwnM.form OI;refine⟨y1,l1,f1,y2,l2,f2,tq,_,tc,_,iq,_,ic,_,rfl,⟨fun _=>⟨rfl,?_,?_,?_,?_,?_⟩,fun h=>absurd (hE.trans hs) h⟩,k3⟩
    ·rw[hV]
    ·rw[hV];exact D1.mono (jL _)
    ·rw[hV];exact D2.mono (jL _)
    ·rw[hV];exact wak.OwnM.mono OT (jL _)
    ·rw[hV];exact wak.OwnM.mono OI (jL _)
   ·have:=k5 hs;subst this;exact⟨none,0,0,none,0,0,none,0,0,0,none,0,0,_,rfl,⟨fun h=>absurd (hE.symm.trans h) hs,fun _=>by rw[hE];exact spn.wAb hs⟩,k3⟩
  ·have:=k1 hc;subst this;have hE:vE m bs ss ⟨a,b,c,d,p,q,s,t⟩=zAt bs ss ⟨a,b,c,d,p,q,s,t⟩:=by unfold vE;rw[if_neg hm,if_neg hc]
   exact⟨none,0,0,none,0,0,none,0,0,0,none,0,0,_,rfl,⟨fun h=>absurd (hE.symm.trans h) hc,fun _=>by rw[hE];exact spn.wAb hc⟩,k3⟩
theorem zKx{W w2:World}{cur:Array Value}{t:TypeId}(h:Below (W.alloc (.cells cur t)).drew.heap.size (W.alloc (.cells cur t)).drew w2):w2.heap[W.heap.size]?=some (.cells cur t (0,0)):=zBH (show (W.alloc (.cells cur t)).drew.heap[W.heap.size]?=some (.cells cur t (0,0)) from jA W _) h
theorem zHD(b t:Nat)(s:TS)(v:TV)(a1 a2 a3 a4 a5 a6 a7 a8:Int)(w:World)(h:TM w b t s v)(hw:Wf s) :
  Calls prog 68 #[.pointer (some ⟨t,0,none⟩),.agg #[.int .i64 a1,.int .i64 a2,.int .i64 a3,.int .i64 a4,.int .i64 a5,.int .i64 a6,.int .i64 a7,.int .i64 a8]] w fun e w'=>∃q1 n1 c1 q2 n2 c2 qt nt ct g qi ni ci E,e=.returned (.tuple #[.agg #[.slice q1 n1 c1,.slice q2 n2 c2,.slice qt nt ct,.int .i64 g,.slice qi ni ci],E])∧VI s.mode s.bs s.ss ⟨a1,a2,a3,a4,a5,a6,a7,a8⟩ w' q1 n1 c1 q2 n2 c2 qt nt ct g qi ni ci E∧Below w.heap.size w w':=by
 obtain⟨W1,gb⟩:∃W,W=w.alloc (.cells #[.int .i64 a1,.int .i64 a2,.int .i64 a3,.int .i64 a4,.int .i64 a5,.int .i64 a6,.int .i64 a7,.int .i64 a8] 40):=⟨_,rfl⟩;have Ha:Below w.heap.size w W1:=by rw[gb];exact(bzR _ _).alloc (nzR _) _
 have Hm:W1.heap.size=w.heap.size+1:=by rw[gb];simp
 have go:W1.heap[w.heap.size]?=some (.cells #[.int .i64 a1,.int .i64 a2,.int .i64 a3,.int .i64 a4,.int .i64 a5,.int .i64 a6,.int .i64 a7,.int .i64 a8] 40 (0,0)):=by rw[gb];exact jA w _
 obtain⟨W,hW⟩:∃W,W=W1.alloc (.cells #[.slice none 0 0,.slice none 0 0,.slice none 0 0,.int .i64 0,.slice none 0 0] 144):=⟨_,rfl⟩;have Hc:Below W1.heap.size W1 W:=by rw[hW];exact(bzR _ _).alloc (nzR _) _
 have gd:W.heap.size=w.heap.size+2:=by rw[hW];simp[Hm]
 have H5:W.heap[w.heap.size+1]?=some (.cells #[.slice none 0 0,.slice none 0 0,.slice none 0 0,.int .i64 0,.slice none 0 0] 144 (0,0)):=by rw[←Hm,hW];exact jA W1 _
 have Hk:=Ha.trans (Hc.mono Ha.size);obtain⟨G,hG⟩:∃G,G=w.heap.size:=⟨_,rfl⟩;have Ba:W.heap[G]?=some (.cells #[.int .i64 a1,.int .i64 a2,.int .i64 a3,.int .i64 a4,.int .i64 a5,.int .i64 a6,.int .i64 a7,.int .i64 a8] 40 (0,0)):=by rw[hG];exact zBH go Hc
 rw[←hG] at H5;have P2:Hid (∀U,Below W.heap.size W U→Calls prog 111 #[.agg #[.slice v.q1 v.n1 v.c1,.slice v.q2 v.n2 v.c2],.agg #[.int .i64 a1,.int .i64 a2,.int .i64 a3,.int .i64 a4,.int .i64 a5,.int .i64 a6,.int .i64 a7,.int .i64 a8],.int .i64 s.mode] U fun e w'=>∃u1 m1 d1 u2 m2 d2 qt nt ct g qi ni ci E,e=.returned (.tuple #[.agg #[.slice u1 m1 d1,.slice u2 m2 d2],.slice qt nt ct,.int .i64 g,.slice qi ni ci,E])∧Hid (VI s.mode s.bs s.ss ⟨a1,a2,a3,a4,a5,a6,a7,a8⟩ w' u1 m1 d1 u2 m2 d2 qt nt ct g qi ni ci E)∧Hid (Below U.heap.size U w')∧Below W.heap.size W w'):=fun U hU=>by
  have hM:=h.below (Hk.trans (hU.mono Hk.size));refine(zPV s.mode hw.m0 hw.m3 v.q1 v.q2 v.n1 v.n2 v.c1 v.c2 s.bs s.ss a1 a2 a3 a4 a5 a6 a7 a8 U hM.buys.ls hM.sells.ls).mono ?_;rintro e w'⟨u1,m1,d1,u2,m2,d2,qt,nt,ct,g,qi,ni,ci,E,rfl,k1,k2⟩;exact⟨u1,m1,d1,u2,m2,d2,qt,nt,ct,g,qi,ni,ci,E,rfl,k1,k2,hU.trans (k2.mono hU.size)⟩
 obtain⟨x0,x1,x2,x3,x4,x5,x6,x7,-⟩:=(h.below Hk).cells;obtain⟨c0,c1,c2,c3,c4,c5,c6,c7,-⟩:=wak.row8 Ba;have Gf:=hidF (bzR W.heap.size W);have HRP:=hidF H5;have gI:=hidF Hk;have mR:=hidF (show W.heap.size=w.heap.size+2∧G=w.heap.size from⟨gd,hG⟩)
 obtain⟨q1,n1,c1',q2,n2,c2',sp,vw,pp,qe,ne,ce,qk,nk,ck⟩:=v;simp only[] at x0 x1 x2 x3 x4 x5 x6 x7;generalize s.mode=M at *;generalize s.bs=BS at *;generalize s.ss=SS at *;clear h hw Hk Ba go H5 Ha Hc Hm gd;go_enter func68,ntmps68;go_upto_region 1 with fail
 rw[←gb,←hW];simp only[←hG];clear hW gb hG;have SO:Hid (∀U,Below W.heap.size W U→(U.cell? ⟨t,0,none⟩=some (.int .i64 M)∧U.cell? ⟨t,1,none⟩=some (.slice q1 n1 c1')∧U.cell? ⟨t,2,none⟩=some (.slice q2 n2 c2')∧U.cell? ⟨G,0,none⟩=some (.int .i64 a1)∧U.cell? ⟨G,1,none⟩=some (.int .i64 a2)∧U.cell? ⟨G,2,none⟩=some (.int .i64 a3)∧U.cell? ⟨G,3,none⟩=some (.int .i64 a4)∧U.cell? ⟨G,4,none⟩=some (.int .i64 a5)∧U.cell? ⟨G,5,none⟩=some (.int .i64 a6)∧U.cell? ⟨G,6,none⟩=some (.int .i64 a7)∧U.cell? ⟨G,7,none⟩=some (.int .i64 a8))):=fun U hU=>⟨spn.zAa hU x0,spn.zAa hU x1,spn.zAa hU x2,spn.zAa hU c0,spn.zAa hU c1,spn.zAa hU c2,spn.zAa hU c3,spn.zAa hU c4,spn.zAa hU c5,spn.zAa hU c6,spn.zAa hU c7⟩
 clear x0 x1 x2 x3 x4 x5 x6 x7 c0 c1 c2 c3 c4 c5 c6 c7;go_region_held3 (fun W=>W.cell? ⟨t,0,none⟩=some (.int .i64 M)∧W.cell? ⟨t,1,none⟩=some (.slice q1 n1 c1')∧W.cell? ⟨t,2,none⟩=some (.slice q2 n2 c2')∧W.cell? ⟨G,0,none⟩=some (.int .i64 a1)∧W.cell? ⟨G,1,none⟩=some (.int .i64 a2)∧W.cell? ⟨G,2,none⟩=some (.int .i64 a3)∧W.cell? ⟨G,3,none⟩=some (.int .i64 a4)∧W.cell? ⟨G,4,none⟩=some (.int .i64 a5)∧W.cell? ⟨G,5,none⟩=some (.int .i64 a6)∧W.cell? ⟨G,6,none⟩=some (.int .i64 a7)∧W.cell? ⟨G,7,none⟩=some (.int .i64 a8))
  (first|with_reducible assumption|(refine SO.out _ ?_;(with_reducible repeat' (first|exact Gf.out|assumption|refine bal ?_ _|refine Below.setCell ?_ ?_ _|refine Below.drew ?_|exact nzR _|exact Below.size (by assumption)));done))
  (first|(go_at_call 111;with_reducible refine(P2.out _ ?_).mono ?_;(with_reducible repeat' (first|exact Gf.out|assumption|refine bal ?_ _|refine Below.setCell ?_ ?_ _|refine Below.drew ?_|exact nzR _|exact Below.size (by assumption)));rintro x w2 ⟨u1,m1,d1,u2,m2,d2,qt,nt,ct,g,qi,ni,ci,E,rfl,HV,Hg,Hc⟩;have pZ:=SO.out w2 Hc;(first|(have hq:=zKx Hg.out;obtain⟨z0,z1,zf⟩:=sid.zAb hq;have zf0:=zf 0;have zf1:=zf 1)|skip)))
 ·obtain⟨Z,hZ⟩:∃Z,Z=w2.alloc (.cells #[.slice u1 m1 d1,.slice u2 m2 d2] 50):=⟨_,rfl⟩;have dD:Below w2.heap.size w2 Z:=by rw[hZ];exact(bzR _ _).alloc (nzR _) _
  have bZ:Z.heap[w2.heap.size]?=some (.cells #[.slice u1 m1 d1,.slice u2 m2 d2] 50 (0,0)):=by rw[hZ];exact jA w2 _
  have hV:=HV.out.kp (S:=[]) (Kp.below dD) (by simp) (by simp) (by simp) (by simp)
  have UV:=Hc.trans (dD.mono Hc.size);rw[←hZ];clear hZ dD Hc Hg HV pZ SO P2;generalize w2.heap.size=B at *;obtain⟨b0,b1,-⟩:=sid.zAb bZ;have Mb:=zBH HRP.out UV;obtain⟨p0,p1,p2,p3,p4,pf⟩:=sid.zAi Mb;have pf0:=pf 0;have pf1:=pf 1;have pf2:=pf 2;have pf3:=pf 3;have pf4:=pf 4;have Hs:=sid.zBW Z (G+1) (.slice u1 m1 d1) (.slice u2 m2 d2) (.slice qt nt ct) (.int .i64 g) (.slice qi ni ci);have ux:=hidF (sid.zBb Mb (.slice u1 m1 d1) (.slice u2 m2 d2) (.slice qt nt ct) (.int .i64 g) (.slice qi ni ci));have M1:=gI.out.trans (UV.mono gI.out.size);have bm:=hidF (M1.grown Hs M1.size (fun k hk=>by cases hk;have:=mR.out;omega))
  have HVF:=hidF (hV.kp (S:=[144]) (Kp.grown Hs Mb (by simp)) (by decide) (by decide) (by decide) (by decide))
  clear bZ Mb pf Hs M1 hV UV;go_wp2_with fail;generalize ((((Z.setCell ⟨G+1,0,none⟩ (.slice u1 m1 d1)).setCell ⟨G+1,1,none⟩ (.slice u2 m2 d2)).setCell ⟨G+1,2,none⟩ (.slice qt nt ct)).setCell ⟨G+1,3,none⟩ (.int .i64 g)).setCell ⟨G+1,4,none⟩ (.slice qi ni ci)=X at *;obtain⟨y0,y1,y2,y3,y4,-⟩:=sid.zAi ux.out;exact jN (v:=.tuple #[.agg #[.slice u1 m1 d1,.slice u2 m2 d2,.slice qt nt ct,.int .i64 g,.slice qi ni ci],E]) (by simp[results,results68,go_sem,y0,y1,y2,y3,y4]) rfl ⟨u1,m1,d1,u2,m2,d2,qt,nt,ct,g,qi,ni,ci,E,rfl,HVF.out,bm.out⟩
 ·obtain⟨Z,hZ⟩:∃Z,Z=(w2.setCell ⟨W.heap.size,0,none⟩ (.slice u1 m1 d1)).setCell ⟨W.heap.size,1,none⟩ (.slice u2 m2 d2):=⟨_,rfl⟩;have hgZ:w2.grownBy Z (some W.heap.size):=by rw[hZ];exact sid.zAN w2 W.heap.size _ _
  have bZ:Z.heap[W.heap.size]?=some (.cells #[.slice u1 m1 d1,.slice u2 m2 d2] 50 (0,0)):=by rw[hZ];exact sid.zAx hq _ _
  have hV:=HV.out.kp (S:=[50]) (Kp.grown hgZ hq (by simp)) (by decide) (by decide) (by decide) (by decide)
  have UV:=Hc.grown hgZ Hc.size (fun k hk=>by cases hk;exact nzR _)
  rw[←hZ];clear hZ hgZ Hc Hg HV pZ SO P2 z0 z1 zf zf0 zf1 hq;generalize hBB:W.heap.size=B at bZ;clear hBB;obtain⟨b0,b1,-⟩:=sid.zAb bZ;have Mb:=zBH HRP.out UV;obtain⟨p0,p1,p2,p3,p4,pf⟩:=sid.zAi Mb;have pf0:=pf 0;have pf1:=pf 1;have pf2:=pf 2;have pf3:=pf 3;have pf4:=pf 4;have Hs:=sid.zBW Z (G+1) (.slice u1 m1 d1) (.slice u2 m2 d2) (.slice qt nt ct) (.int .i64 g) (.slice qi ni ci);have ux:=hidF (sid.zBb Mb (.slice u1 m1 d1) (.slice u2 m2 d2) (.slice qt nt ct) (.int .i64 g) (.slice qi ni ci));have M1:=gI.out.trans (UV.mono gI.out.size);have bm:=hidF (M1.grown Hs M1.size (fun k hk=>by cases hk;have:=mR.out;omega))
  have HVF:=hidF (hV.kp (S:=[144]) (Kp.grown Hs Mb (by simp)) (by decide) (by decide) (by decide) (by decide))
  clear bZ Mb pf Hs M1 hV UV;go_wp2_with fail;generalize ((((Z.setCell ⟨G+1,0,none⟩ (.slice u1 m1 d1)).setCell ⟨G+1,1,none⟩ (.slice u2 m2 d2)).setCell ⟨G+1,2,none⟩ (.slice qt nt ct)).setCell ⟨G+1,3,none⟩ (.int .i64 g)).setCell ⟨G+1,4,none⟩ (.slice qi ni ci)=X at *;obtain⟨y0,y1,y2,y3,y4,-⟩:=sid.zAi ux.out;exact jN (v:=.tuple #[.agg #[.slice u1 m1 d1,.slice u2 m2 d2,.slice qt nt ct,.int .i64 g,.slice qi ni ci],E]) (by simp[results,results68,go_sem,y0,y1,y2,y3,y4]) rfl ⟨u1,m1,d1,u2,m2,d2,qt,nt,ct,g,qi,ni,ci,E,rfl,HVF.out,bm.out⟩
end flr
end Go.Proofs.YtmhcghgfpfainaaGreatDoor
