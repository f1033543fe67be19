import Derived.Test.YtnfilcpnneckkaaGreatTapChk
import Derived.Test.YtnfilcpnneckkaaGreatFlrTp7
import Derived.RangeFuncBox
import Derived.RangeFuncLeaves
import Derived.RangeFuncCalls
import Derived.Shelf.Abstract
import Derived.Shelf.RegionOpen
import Derived.OwnWalkIn
import Derived.TacticsInMore
import Derived.LoopNIn
import Derived.LoopIn
set_option maxHeartbeats 4000000
set_option maxRecDepth 100000
namespace Go.Proofs.YtnfilcpnneckkaaGreat
open Go.Proofs.Tryz
namespace tap
open Go.RowKit mee flr
open spn (zAa zAd errV wAa wAb)
open wak (OwnM wAe wAO wAk)
theorem zDk(k n:Nat)(h:k<n)(hn:n≤9223372036854775807):wrap64 ((k:Int)+1)=((k+1:Nat):Int):=by unfold wrap64;omega
def flatT(l:List T):List Value:=l.flatMap tV
theorem wAz(a b:List T):flatT (a++b)=flatT a++flatT b:=by unfold flatT;rw[List.flatMap_append]
theorem zHx(e:T):flatT [e]=tV e:=by simp[flatT]
theorem zKj(e:T)(t:List T):flatT (e::t)=tV e++flatT t:=by simp[flatT]
theorem wAQ(l:List T):∀j,j<l.length→∀i,i<6→(flatT l)[j*6+i]?=(tV l[j]!)[i]?:=by
 induction l with
 | nil=>intro j hj;simp at hj
 | cons r t ih=>
  intro j hj i hi;have e6:(tV r).length=6:=rfl;rw[zKj];cases j with
  | zero=>rw[Nat.zero_mul,Nat.zero_add,List.getElem?_append_left (by rw[e6];exact hi)];rfl
  | succ j=>
   rw[jV (by rw[e6];omega)]
   have:(j+1)*6+i - (tV r).length=j*6+i:=by rw[e6];omega
   rw[this,ih j (by simpa using hj) i hi]
   rfl
def trs(l:List Ev):List T:=l.filterMap fun e=>if e.what=2 then some e.tr else none
theorem zBG(a b:List Ev):trs (a++b)=trs a++trs b:=by unfold trs;rw[List.filterMap_append]
theorem zCT(l:List Ev):(trs l).length≤l.length:=List.length_filterMap_le _ _
theorem wAv{α:Type}[Inhabited α]{l:List α}{k:Nat}(h:k<l.length):l.take (k+1)=l.take k++[l[k]!]:=by
 rw[List.take_succ_eq_append_getElem h,getE l k h]
theorem zNc{l:List Ev}{k:Nat}(h:k<l.length)(h2:(l[k]!).what=2):trs (l.take (k+1))=trs (l.take k)++[(l[k]!).tr]:=by
 rw[wAv h,zBG]
 congr 1
 simp only[trs,List.filterMap_cons,List.filterMap_nil,if_pos h2]
theorem zQe{l:List Ev}{k:Nat}(h:k<l.length)(h2:¬(l[k]!).what=2):trs (l.take (k+1))=trs (l.take k):=by
 rw[wAv h,zBG];simp only[trs,List.filterMap_cons,List.filterMap_nil,if_neg h2,jH]
def zPG:Value:=.agg #[.int .i64 0,.int .i64 0,.int .i64 0,.int .i64 0,.int .i64 0,.int .i64 0]
theorem infoT:(prog.info? 38).map (fun i=>(i.zero,i.size,i.bytes))=some (some zPG,6,48):=by kernel_rfl
theorem infoT' : ∃i,prog.info? 38=some i∧i.zero=some zPG∧i.size=6∧i.bytes=48:=by
 have h:=infoT;cases hq:prog.info? 38 with
 | none=>rw[hq] at h;simp at h
 | some i=>
  rw[hq] at h;simp only[Option.map_some,Option.some.injEq,Prod.mk.injEq] at h;exact⟨i,rfl,h.1,h.2.1,h.2.2⟩
abbrev OwnTs(w:World)(base:Nat)(v:Value)(ts:List T):Prop:=OwnM w base 38 6 v ts.length (flatT ts)
theorem OwnTs.at{w:World}{base:Nat}{q:Option Addr}{n c:Nat}{ts:List T}(h:OwnTs w base (.slice q n c) ts){k:Nat}(hk:k<ts.length):∃g off,q=some ⟨g,off,none⟩∧base≤g∧g<w.heap.size∧∀i v,(tV ts[k]!)[i]?=some v→w.cell? ⟨g,off+k*6+i,none⟩=some v:=by
 rcases h.2 with ⟨h1,h2⟩|⟨g,off,cap,cur,h1,h2,h3,h4⟩
 ·omega
 ·cases h1;obtain⟨hc,-,hb,hl⟩:=OwnM.cells h;refine⟨g,off,rfl,hb,hl,fun i v hv=>?_⟩
  have hi:i<6:=(List.getElem?_eq_some_iff.1 hv).1;have:=hc (k*6+i) v (by rw[wAQ ts k hk i hi];exact hv)
  rw[←Nat.add_assoc] at this;exact this
theorem zKk(v:Value)(zs:List Ev)(w:World)(h:EL w v zs)(hn:zs.length≤400) :
  Calls prog 19 #[v] w fun e w'=>∃v',e=.returned v'∧OwnTs w' w.heap.size v' (trs zs)∧Bw w w':=by
 obtain⟨i0,gY,gE,gu,gA⟩:=infoT';have HI:=hidT gY;obtain⟨q,c,rfl,MQ⟩:=h.form;have HEL:=hidT h;have HAT:Hid (∀k,k<zs.length→_):=fun k hk=>h.at hk
 have cN:Hid (OwnTs w w.heap.size (.slice none 0 0) []):=⟨rfl,.inl ⟨rfl,rfl⟩⟩;obtain⟨n,hN⟩:∃n,zs.length=n:=⟨_,rfl⟩;have HN:=hidT hN;rw[hN] at hn;have DC:=hidT hn;simp only[hN];clear h gY MQ hn hN;go_enter func19,ntmps19;go_wp2_with fail;go_loopg [3,5,8] n (fun gg s3 s5 s8 wr=>∃ (kk:Nat) (q' : Option Addr) (c' m:Nat),kk≤n∧n - kk≤gg∧s3=.slice q' m c'∧s8=.int .i64 kk∧Aside (m=(trs (zs.take kk)).length∧OwnTs wr w.heap.size (.slice q' m c') (trs (zs.take kk))∧Below w.heap.size w wr))
 case atStart=>exact⟨0,none,0,0,jL _,by omega,rfl,rfl,rfl,cN.out,bzR _ _⟩
 case round=>
  clear cN;obtain⟨kk,q',c',m,gd,hg,rfl,rfl,HA⟩:=hrel;by_cases Hi:kk<n
  ·have Hp:(kk:Int)<(n:Int):=by omega
   have gR:¬((kk:Int)<0):=by omega
   have Hs:kk<zs.length:=by rw[HN.out];exact Hi
   obtain⟨g,off,rfl,M6,gL⟩:=HAT.out kk Hs;obtain⟨x,hx⟩:∃x,zs[kk]! = x:=⟨_,rfl⟩;obtain⟨e1,e2,e3,e4,⟨t1,t2,t3,t4,t5,t6⟩⟩:=x;rw[hx] at gL;have HB:=hidT HA.out.2.2;have c0:=zAa HB.out (gL 0 _ rfl);have c1:=zAa HB.out (gL 1 _ rfl);have c2:=zAa HB.out (gL 2 _ rfl);have c3:=zAa HB.out (gL 3 _ rfl);have c4:=zAa HB.out (gL 4 _ rfl);have c5:=zAa HB.out (gL 5 _ rfl);have c6:=zAa HB.out (gL 6 _ rfl);have c7:=zAa HB.out (gL 7 _ rfl);have c8:=zAa HB.out (gL 8 _ rfl);have c9:=zAa HB.out (gL 9 _ rfl);simp only[Nat.add_zero] at c0;have UE:g<wr.heap.size:=jC M6 HB.out.size;have bm:=hidT (zDk kk n Hi (by have:=DC.out;omega))
   have ug:Hid (kk<n∧n - kk≤gk):=⟨Hi,hg⟩;have HY:Hid (e1=2→trs (zs.take (kk+1))=trs (zs.take kk)++[⟨t1,t2,t3,t4,t5,t6⟩]):=fun h2=>by
    have:=zNc Hs (by rw[hx];exact h2)
    rw[hx] at this;exact this
   have HX:Hid (¬e1=2→trs (zs.take (kk+1))=trs (zs.take kk)):=fun h2=>zQe Hs (by rw[hx];exact h2)
   have G0:Hid ((trs (zs.take kk)).length≤kk):=by
    have:=zCT (zs.take kk);rw[jJ] at this;show _≤_
    omega
   clear gL hx gd hg Hi;generalize trs (zs.take kk)=TS at *;go_upto_region 5 with fail
   have He:Hid (Bw w (wr.alloc (.cells #[.int .i64 e1,.int .i64 e2,.int .i64 e3,.int .i64 e4,.int .i64 t1,.int .i64 t2,.int .i64 t3,.int .i64 t4,.int .i64 t5,.int .i64 t6] 40))):=HB.out.alloc HB.out.size _;have Gu:Hid (OwnTs (wr.alloc (.cells #[.int .i64 e1,.int .i64 e2,.int .i64 e3,.int .i64 e4,.int .i64 t1,.int .i64 t2,.int .i64 t3,.int .i64 t4,.int .i64 t5,.int .i64 t6] 40)) w.heap.size (.slice q' m c') TS):=OwnM.below HA.out.2.1 ((bzR _ _).alloc (nzR _) _);have hR:=jA wr (.cells #[.int .i64 e1,.int .i64 e2,.int .i64 e3,.int .i64 e4,.int .i64 t1,.int .i64 t2,.int .i64 t3,.int .i64 t4,.int .i64 t5,.int .i64 t6] 40);have HM:=hidT HA.out.1;clear HA HB c0 c1 c2 c3 c4 c5 c6 c7 c8 c9 UE;generalize wr.alloc (.cells #[.int .i64 e1,.int .i64 e2,.int .i64 e3,.int .i64 e4,.int .i64 t1,.int .i64 t2,.int .i64 t3,.int .i64 t4,.int .i64 t5,.int .i64 t6] 40)=V at *
   have d0:V.cell? ⟨wr.heap.size,0,none⟩=some (.int .i64 e1):=by simp[World.cell?,hR]
   have d4:V.cell? ⟨wr.heap.size,4,none⟩=some (.int .i64 t1):=by simp[World.cell?,hR]
   have d5:V.cell? ⟨wr.heap.size,5,none⟩=some (.int .i64 t2):=by simp[World.cell?,hR]
   have d6:V.cell? ⟨wr.heap.size,6,none⟩=some (.int .i64 t3):=by simp[World.cell?,hR]
   have d7:V.cell? ⟨wr.heap.size,7,none⟩=some (.int .i64 t4):=by simp[World.cell?,hR]
   have d8:V.cell? ⟨wr.heap.size,8,none⟩=some (.int .i64 t5):=by simp[World.cell?,hR]
   have d9:V.cell? ⟨wr.heap.size,9,none⟩=some (.int .i64 t6):=by simp[World.cell?,hR]
   clear hR;by_cases h2:e1=2
   ·have hy:=HY.out h2;subst h2;have HY2:=hidT hy;have PO:Hid (OwnM (V.alloc (.cells #[.int .i64 t1,.int .i64 t2,.int .i64 t3,.int .i64 t4,.int .i64 t5,.int .i64 t6] 38)) w.heap.size 38 6 (.slice q' m c') m (flatT TS)):=by
     have:=OwnM.below Gu.out ((bzR _ _).alloc (nzR _) (.cells #[.int .i64 t1,.int .i64 t2,.int .i64 t3,.int .i64 t4,.int .i64 t5,.int .i64 t6] 38));rw[←HM.out] at this;exact this
    have pA:Hid (∀j u,([.int .i64 t1,.int .i64 t2,.int .i64 t3,.int .i64 t4,.int .i64 t5,.int .i64 t6]:List Value)[j]?=some u→(V.alloc (.cells #[.int .i64 t1,.int .i64 t2,.int .i64 t3,.int .i64 t4,.int .i64 t5,.int .i64 t6] 38)).cell? ((⟨V.heap.size,0,none⟩:Addr).add j)=some u):=by
     intro j u hu;rw[Addr.add_lit,Nat.zero_add,World.cell?_alloc_at _ _ _ _ rfl];simpa using hu
    have Hg:Hid (Bw w (V.alloc (.cells #[.int .i64 t1,.int .i64 t2,.int .i64 t3,.int .i64 t4,.int .i64 t5,.int .i64 t6] 38))):=He.out.alloc He.out.size _;clear hy HY HX He Gu;go_wp2_with (at_builtin;(refine wAe _ rfl _ _ 30 rfl w.heap.size 38 i0 zPG 6 48 underlying30 HI.out gE gu gA rfl (.slice q' m c') _ _ rfl PO.out ⟨V.heap.size,0,none⟩ 1 1 [.int .i64 t1,.int .i64 t2,.int .i64 t3,.int .i64 t4,.int .i64 t5,.int .i64 t6] rfl rfl pA.out (fun u hu=>by simp only[List.mem_cons,List.not_mem_nil,or_false] at hu;rcases hu with rfl|rfl|rfl|rfl|rfl|rfl <;>rfl) ?c3 ?c4 ?c5 ?_))
    case c3=>have:=HM.out;have:=G0.out;have:=ug.out;have:=DC.out;unfold maxLen;omega
    case c4=>have:=HM.out;have:=G0.out;have:=ug.out;have:=DC.out;omega
    case c5=>have:=Hg.out.size;simpa using this
    intro v' w' gy Hy Gm;obtain⟨q2,c2,gU⟩:=OwnM.form gy;subst gU;have Uh:Hid (m+1=(trs (zs.take (kk+1))).length∧OwnTs w' w.heap.size (.slice q2 (m+1) c2) (trs (zs.take (kk+1)))∧Bw w w'):=by
     have e1:m+1=(trs (zs.take (kk+1))).length:=(by rw[HY2.out,HM.out];simp);refine⟨e1,?_,Hg.out.grown Hy Hg.out.size (fun k hk=>(OwnM.lt PO.out k hk).1)⟩
     unfold OwnTs;rw[←e1,HY2.out,wAz,zHx];exact gy
    clear gy Hy Gm PO pA Hg HY2;go_wp2_with fail;go_roundg (n - (kk+1))
    case measure=>have:=ug.out;omega
    case rel=>exact⟨kk+1,q2,c2,m+1,ug.out.1,nzR _,rfl,congrArg (Value.int .i64) bm.out,Uh.out⟩
   ·have h2b:(e1 == 2)=false:=(by simp[h2]);have mq:=hidT (HX.out h2);have Uh:Hid (m=(trs (zs.take (kk+1))).length∧OwnTs V w.heap.size (.slice q' m c') (trs (zs.take (kk+1)))∧Bw w V):=by
     rw[mq.out];exact⟨HM.out,Gu.out,He.out⟩
    clear HX HY h2 mq;go_wp2_with fail;go_roundg (n - (kk+1))
    case measure=>have:=ug.out;omega
    case rel=>exact⟨kk+1,q',c',m,ug.out.1,nzR _,rfl,congrArg (Value.int .i64) bm.out,Uh.out⟩
  ·have hke:kk=n:=by omega
   subst hke;have Hp:¬(kk:Int)<(kk:Int):=by omega
   go_wp2_with fail;go_ret;have hA:=HA.out;rw[List.take_of_length_le (by rw[HN.out];exact nzR _)] at hA
   exact⟨_,rfl,hA.2⟩
def sumQ:List T→Int
 | []=>0
 | t::r=>t.qty+sumQ r
theorem zEJ(a b:List T):sumQ (a++b)=sumQ a+sumQ b:=by
 induction a with
 | nil=>simp[sumQ]
 | cons t r ih=>rw[List.cons_append,sumQ,sumQ,ih];omega
theorem zNd{ts:List T}{k:Nat}(h:k<ts.length):sumQ (ts.take (k+1))=sumQ (ts.take k)+(ts[k]!).qty:=by
 rw[wAv h,zEJ];simp[sumQ]
theorem zCI(ts:List T)(h:∀t∈ts,tdB t=true):0≤sumQ ts∧sumQ ts≤10000*ts.length:=by
 induction ts with
 | nil=>simp[sumQ]
 | cons t r ih=>
  have h1:=ih (fun x hx=>h x (List.mem_cons_of_mem _ hx))
  have h2:=h t List.mem_cons_self;simp[tdB] at h2;rw[sumQ,jG];omega
theorem zNe{zs:List Ev}(h:tchk zs=0):zs.length≤400∧∀e∈zs,evB e=true:=by
 unfold tchk at h;split at h
 ·cases h
 ·refine⟨by omega,fun e he=>?_⟩
  cases hq:zs.any badE
  ·rw[List.any_eq_false] at hq;have:=hq e he;unfold badE at this;simpa using this
  ·rw[hq] at h;cases h
theorem zHy{zs:List Ev}(h:∀e∈zs,evB e=true):∀t∈trs zs,tdB t=true:=by
 intro t ht;unfold trs at ht;obtain⟨e,he,h2⟩:=List.mem_filterMap.1 ht;split at h2
 ·rename_i hw
  cases h2;have:=h e he;unfold evB at this
  rwa [if_pos hw] at this
 ·cases h2
def volE(zs:List Ev):Int:=if tchk zs=0 then sumQ (trs zs) else 0
def cntE(zs:List Ev):Int:=if tchk zs=0 then ((trs zs).length:Int) else 0
theorem zKl(v:Value)(zs:List Ev)(w:World)(h:EL w v zs) :
  Calls prog 7 #[v] w fun e w'=>e=.returned (.tuple #[.int .i64 (volE zs),.int .i64 (cntE zs),errV (tchk zs)])∧Bw w w':=by
 have GE:=hidT (wAf v zs w h);by_cases hz:tchk zs=0
 rotate_left
 ·have e1:volE zs=0:=if_neg hz;have e2:cntE zs=0:=if_neg hz;rw[e1,e2,wAb hz];rw[wAb hz] at GE;clear e1 e2;generalize tchk zs=k at *;go_enter func7,ntmps7;go_wp2_with fail;refine GE.out.mono ?_;rintro e w1⟨rfl,hb⟩;go_wp2_with fail
  go_ret3
  exact⟨rfl,hb⟩
 obtain⟨h4,mw⟩:=zNe hz;have hsb:=zCI (trs zs) (zHy mw);have gW:(trs zs).length≤400:=jM (zCT zs) h4;have pH:Hid (∀W,Bw w W→_):=fun W hW=>zKk v zs W (h.below hW) h4
 have e1:volE zs=sumQ (trs zs):=if_pos hz;have e2:cntE zs=((trs zs).length:Int):=if_pos hz;rw[e1,e2,hz,wAa];rw[hz,wAa] at GE;have HSB:Hid (∀k,k≤(trs zs).length→0≤sumQ ((trs zs).take k)∧sumQ ((trs zs).take k)≤4000000):=fun k hk=>by
  have h1:=zCI ((trs zs).take k) (fun t ht=>zHy mw t (List.mem_of_mem_take ht))
  rw[jJ] at h1;refine⟨h1.1,?_⟩;have:=h1.2;omega
 have HTD:Hid (∀k,k<(trs zs).length→1≤((trs zs)[k]!).qty∧((trs zs)[k]!).qty≤10000):=fun k hk=>by
  have:=zHy mw ((trs zs)[k]!) (by rw[getE _ _ hk];exact jT hk)
  generalize (trs zs)[k]! = t at *;simp[tdB] at this;omega
 clear e1 e2 hz mw hsb h h4;generalize trs zs=TS at *;go_enter func7,ntmps7;go_wp2_with fail;refine GE.out.mono ?_;rintro e w1⟨rfl,hb⟩;have ub:=hidT (pH.out w1 hb);have He:=hidT hb;clear hb GE pH;go_wp2_with fail;refine ub.out.mono ?_;rintro e w2⟨tv,rfl,hO,Ha⟩;obtain⟨q,c,rfl⟩:=OwnM.form hO;have HO:=hidT hO;have Hg:=hidT (He.out.trans (Ha.mono He.out.size));obtain⟨n,hN⟩:∃n,TS.length=n:=⟨_,rfl⟩;have HN:=hidT hN;simp only[hN];rw[hN] at gW;have G0:=hidT gW;clear hO Ha ub He hN gW;go_wp2_with fail;go_loopg [7,9,19] n (fun gg s7 s9 s19 wr=>∃ (kk:Nat),kk≤n∧n - kk≤gg∧s7=.int .i64 (sumQ (TS.take kk))∧s19=.int .i64 kk∧Aside (Below w2.heap.size w2 wr))
 case atStart=>exact⟨0,jL _,by omega,rfl,rfl,bzR _ _⟩
 case round=>
  obtain⟨kk,gd,hg,rfl,rfl,HA⟩:=hrel;by_cases Hi:kk<n
  ·have Hp:(kk:Int)<(n:Int):=by omega
   have gR:¬((kk:Int)<0):=by omega
   have Hs:kk<TS.length:=by rw[HN.out];exact Hi
   obtain⟨g,off,rfl,-,M6,gL⟩:=HO.out.at Hs;obtain⟨x,hx⟩:∃x,TS[kk]! = x:=⟨_,rfl⟩;have Hl:=HSB.out kk (by omega)
   have H9:=HTD.out kk Hs;have UU:=zNd Hs;rw[hx] at gL H9 UU;obtain⟨t1,t2,t3,t4,t5,t6⟩:=x;simp only at H9 UU;have c0:=zAa HA.out (gL 0 _ rfl);have c1:=zAa HA.out (gL 1 _ rfl);have c2:=zAa HA.out (gL 2 _ rfl);have c3:=zAa HA.out (gL 3 _ rfl);have c4:=zAa HA.out (gL 4 _ rfl);have c5:=zAa HA.out (gL 5 _ rfl);simp only[Nat.add_zero] at c0;have bm:=hidT (zDk kk n Hi (by have:=G0.out;omega))
   have ug:Hid (kk<n∧n - kk≤gk):=⟨Hi,hg⟩;have df:=hidT UU;generalize sumQ (TS.take kk)=S at *;have HWS:Hid (wrap64 (S+t6)=S+t6):=by show _=_;unfold wrap64;omega
   have uD:=hidT (HA.out.alloc HA.out.size (.cells #[.int .i64 t1,.int .i64 t2,.int .i64 t3,.int .i64 t4,.int .i64 t5,.int .i64 t6] 38));clear gL hx gd hg Hi Hl H9 UU;go_wp2_with fail;go_roundg (n - (kk+1))
   case measure=>have:=ug.out;omega
   case rel=>exact⟨kk+1,ug.out.1,nzR _,congrArg (Value.int .i64) (HWS.out.trans df.out.symm),congrArg (Value.int .i64) bm.out,uD.out⟩
  ·have hke:kk=n:=by omega
   subst hke;have Hp:¬(kk:Int)<(kk:Int):=by omega
   have hS:TS.take kk=TS:=List.take_of_length_le (by rw[HN.out];exact nzR _)
   rw[hS];go_wp2_with fail
   go_ret3
   exact⟨by rw[HN.out];rfl,Hg.out.trans (HA.out.mono Hg.out.size)⟩
end tap
namespace tap
open Go.RowKit flr
open que (R rchk)
open sid (L DL LS allR)
open mee (T tV)
open bok (zAc zAg)
open wak (OwnM wAe)
theorem zNf{e:Ev}(h:EvB e):evB e=true:=by
 unfold evB;rcases h with ⟨h1,h2,h3,h4,h5,h6,h7⟩|⟨h1,h2,h3,h4⟩
 ·rw[if_pos h1];simp[tdB];omega
 ·rw[if_neg (by omega)]
  simp[otB];omega
def zM:Mp:=fun _=>(0,0)
theorem zRH{l:List Ev}(h:l.length≤400)(hb:∀e∈l,EvB e):tchk l=0:=by
 unfold tchk;rw[if_neg (by omega)]
 have:l.any badE=false:=by
  rw[List.any_eq_false];intro e he;unfold badE;rw[zNf (hb e he)];simp
 rw[this];rfl
theorem fm_kp{w w' : World}{F:Nat}{f:FS}{v:FV}(h:FM w F f v)(hk:Kp [40] w w'):FM w' F f v:=
 ⟨hk.typ _ _ _ h.blk (by decide),hk.dl h.buys (by decide) (by decide),hk.dl h.sells (by decide) (by decide),hk.st h.stops (by decide) (by decide),hk.pu h.purs (by decide)⟩
theorem fm_kpT{w w' : World}{F:Nat}{f:FS}{v:FV}(h:FM w F f v)(hk:Kp [38] w w'):FM w' F f v:=
 ⟨hk.typ _ _ _ h.blk (by decide),hk.dl h.buys (by decide) (by decide),hk.dl h.sells (by decide) (by decide),hk.st h.stops (by decide) (by decide),hk.pu h.purs (by decide)⟩
theorem zJc{w w' : World}{S:List TypeId}(h:Bw w w'):Kp S w w':=⟨h.os,h.tape,h.output,h.size,fun k _ _ hk _=>(h.block k (gzE.1 hk).1).trans hk⟩
theorem zQf{w w' : World}{base:Nat}{t:TypeId}{sz:Nat}{v:Value}{n:Nat}{xs:List Value}(h:OwnM w base t sz v n xs)(hg:w.grownBy w' v.ownBlock):Kp [t] w w':=by
 rcases h.2 with ⟨rfl,-⟩|⟨g,off,cap,cur,rfl,-,Hu,-⟩
 ·exact⟨hg.os,hg.tape,hg.output,hg.size,fun k _ _ hk _=>(hg.block k (gzE.1 hk).1 (by simp[Value.ownBlock])).trans hk⟩
 ·exact Kp.grown (P:=g) hg Hu (by simp)
theorem zHz{w w' : World}{base:Nat}{e t:TypeId}{sz:Nat}{v:Value}{n:Nat}{xs:List Value}(h:OwnM w base e sz v n xs)(hk:Kp [t] w w')(ht:e≠t):OwnM w' base e sz v n xs:=by
 refine⟨h.1,?_⟩;rcases h.2 with hn|⟨g,off,cap,cur,hv,hb,hg,rest⟩
 ·exact .inl hn
 ·exact .inr ⟨g,off,cap,cur,hv,hb,hk.typ _ _ _ hg (by simpa using ht),rest⟩
theorem zQg{w:World}{base:Nat}{v:Value}{l:List Ev}(h:OwnM w base 40 10 v l.length (zAD l)):EL w v l:=by
 rcases h.2 with ⟨hv,hn⟩|⟨g,off,cap,cur,hv,hb,hg,GH,gi,Gy,-⟩
 ·exact .inl ⟨hv,List.eq_nil_of_length_eq_zero hn⟩
 ·subst hv;obtain⟨hc,-,-,hl⟩:=OwnM.cells h;refine .inr ⟨g,off,cap,rfl,GH,by have:=gi;unfold maxLen at this;omega,hl,fun j hj i v hv=>?_⟩
  have hi:i<10:=(List.getElem?_eq_some_iff.1 hv).1;have:=hc (j*10+i) v (by rw[zKt l j hj i hi];exact hv)
  rw[←Nat.add_assoc] at this;exact this
theorem zFp:∀ (n:Nat) {s s1:TS},Wf s→zBy n s=.ok s1→s1.evs.length≤s.evs.length+481*n
 | 0,s,s1,_,e=>by cases e;omega
 | n+1,s,s1,h,e=>by
  cases hr:s.row with
  | nil=>rw[zBF _ _ hr] at e;cases e;omega
  | cons x t=>
   rw[zBq _ _ hr] at e;obtain⟨s2,e1,e⟩:=zAk e;have hw:Wf (tell { s with row:=t } 4 x.o.id x.o.qty x.p):=⟨h.m0,h.m3,h.book,h.ok,h.ws⟩
   have g:=zGb hw e1;have a:=zFp n g.wf e;have b:=g.evs;have c:(tell { s with row:=t } 4 x.o.id x.o.qty x.p).evs.length=s.evs.length+1:=by simp[tell]
   omega
theorem zRI{f:FS}{c:Cm}{s:TS}(h:WfF f)(e:fdo f c=.ok s):s.evs.length≤20000:=by
 obtain⟨s1,e1,e2⟩:=zAk e;have g:=zIQ h e1;have a:=zFp _ g.wf e2;have h1:=g.row;have h2:=g.evs;have h3:(zBz f).ws.length≤20:=h.ws;have h4:(zBz f).row.length=0:=rfl;have h5:(zBz f).evs.length=0:=rfl;omega
structure TapL (w wr:World) (F:Nat) (v:Value) (all:List Ev) (f:FS) (k:Nat):Prop where
 fl:FloorAt w wr F f
 ef:EF (mEvs zM all) f
 eb:∀e∈all,EvB e
 la:f.last=zEG 0 all
 ow:OwnM wr w.heap.size 40 10 v all.length (zAD all)
 sm:all.length≤20000*k
structure TapM (w wr:World) (F:Nat) (v:Value) (all evs:List Ev) (f:FS) (k:Nat):Prop where
 fl:FloorAt w wr F f
 ef:EF (mEvs zM (all++evs)) f
 eb:∀e∈all++evs,EvB e
 la:f.last=zEG 0 (all++evs)
 ow:OwnM wr w.heap.size 40 10 v all.length (zAD all)
 sm:(all++evs).length≤20000*(k+1)
theorem TapL.keep{w wr w' : World}{F:Nat}{v:Value}{all:List Ev}{f:FS}{k:Nat}(h:TapL w wr F v all f k)(hb:Bw wr w'):TapL w w' F v all f k:=
 ⟨h.fl.keep hb,h.ef,h.eb,h.la,OwnM.below h.ow hb,h.sm⟩
theorem TapL.mono{w wr:World}{F:Nat}{v:Value}{all:List Ev}{f:FS}{k j:Nat}(h:TapL w wr F v all f k)(hj:k≤j):TapL w wr F v all f j:=
 ⟨h.fl,h.ef,h.eb,h.la,h.ow,by have:=h.sm;omega⟩
def TapPost(w:World)(F:Nat)(v:Value)(all:List Ev)(k:Nat)(w1:World)(e:Ending)(w' : World):Prop:=
 (∃q evs c g,e=.returned (.tuple #[.slice q (evs:List Ev).length c,.nilIface])∧OwnM w' w1.heap.size 40 10 (.slice q evs.length c) evs.length (zAD evs)∧TapM w w' F v all evs g k∧Kp [69] w1 w')∨
 ∃j g,e=.returned (.tuple #[.slice none 0 0,.iface 90 (.int .i64 j)])∧TapL w w' F v all g k∧Kp [69] w1 w'
theorem do_tf{w w1:World}{F:Nat}{v:Value}{all:List Ev}{f:FS}{k:Nat}(what a1 a2 a3 a4 a5 a6 a7 a8 who n:Int)(h:TapL w w1 F v all f k)(hid:(Lit.int .i64 a1).wf=true) :
  Calls prog 6 #[.pointer (some ⟨F,0,none⟩),.agg #[.int .i64 what,.int .i64 a1,.int .i64 a2,.int .i64 a3,.int .i64 a4,.int .i64 a5,.int .i64 a6,.int .i64 a7,.int .i64 a8,.int .i64 who,.int .i64 n]] w1 fun e w'=>TapPost w F v all k w1 e w':=by
 obtain⟨fv,hv⟩:=h.fl.fm;refine(zRD F f fv what a1 a2 a3 a4 a5 a6 a7 a8 who n w1 hv h.ef.wf hid).mono ?_;rintro e w'⟨k1,k2⟩;cases hx:fdo f ⟨what,⟨a1,a2,a3,a4,a5,a6,a7,a8⟩,who,n⟩ with
 | ok s=>
  obtain⟨⟨q,m',c,rfl,ho⟩,⟨v',gU⟩,hg⟩:=k1 s hx;obtain⟨q',c',hq⟩:=OwnM.form ho;cases hq;obtain⟨g1,g2,g3⟩:=fdo_ef _ h.ef hx;have mw:=zRI h.ef.wf hx;refine .inl ⟨q,s.evs,c,zEt s,rfl,ho,⟨h.fl.step hg gU,?_,?_,?_,?_,?_⟩,Kp.grown hg hv.blk (by simp)⟩
  ·rw[zCR];exact g1
  ·intro e he;rcases List.mem_append.1 he with he|he
   ·exact h.eb e he
   ·exact g2 e he
  ·show s.last=_
   rw[zCB,←h.la];exact g3
  ·refine OwnM.kept h.ow hg ?_;rcases h.ow.2 with ⟨rfl,-⟩|⟨g,off,cap,cur,rfl,-,Hu,-⟩
   ·exact .inl rfl
   ·right;intro e;have:g=F:=(by simpa [Value.ownBlock] using e);subst this;have:=Hu.symm.trans hv.blk;simp at this
  ·rw[jE];have:=h.sm;omega
 | error j=>
  obtain⟨-,rfl,hb⟩:=k2 j hx;exact .inr ⟨j,f,rfl,h.keep hb,zJc hb⟩
theorem TapM.app{w w1 w2:World}{F:Nat}{v v' : Value}{all evs:List Ev}{f:FS}{k:Nat}(h:TapM w w1 F v all evs f k)(ho:OwnM w2 w.heap.size 40 10 v' (all.length+evs.length) (zAD all++zAD evs))(hg:w1.grownBy w2 v.ownBlock):TapL w w2 F v' (all++evs) f (k+1):=by
 have Er:=OwnM.lt h.ow;refine⟨⟨?_,h.fl.lo,h.fl.bel.grown hg h.fl.bel.size (fun j hj=>(Er j hj).1)⟩,h.ef,h.eb,h.la,?_,h.sm⟩
 ·obtain⟨fv,hv⟩:=h.fl.fm;rcases h.ow.2 with ⟨rfl,-⟩|⟨g,off,cap,cur,rfl,-,Hu,-⟩
  ·exact⟨fv,hv.below ((bzR _ _).grown hg (nzR _) (fun j hj=>by simp[Value.ownBlock] at hj))⟩
  ·exact⟨fv,fm_kp hv (Kp.grown (P:=g) hg Hu (by simp))⟩
 ·rw[jE,zCm];exact ho
theorem TapM.none{w w1:World}{F:Nat}{v:Value}{all evs:List Ev}{f:FS}{k:Nat}(h:TapM w w1 F v all evs f k)(he:evs=[]):TapL w w1 F v all f (k+1):=by
 subst he;have e:all++[]=all:=jH all;exact⟨h.fl,e ▸ h.ef,by have:=h.eb;rw[e] at this;exact this,by have:=h.la;rw[e] at this;exact this,h.ow,by have:=h.sm;rw[e] at this;exact this⟩
theorem zPH{w W:World}(m:Int)(h0:0≤m)(h3:m≤3)(hB:Bw w W) :
  Calls prog 5 #[.int .i64 m] W fun e w'=>∃F f,e=.returned (.tuple #[.pointer (some ⟨F,0,none⟩),.nilIface])∧TapL w w' F (.slice none 0 0) [] f 0:=by
 refine(zPE m h0 h3 W).mono ?_;rintro e w'⟨F,v,rfl,hF,hl,hb⟩;exact⟨F,_,rfl,⟨⟨v,hF⟩,jM hB.size hl,hB.trans (hb.mono hB.size)⟩,new_ef h0 h3,(fun _ h=>by cases h),rfl,⟨rfl,.inl ⟨rfl,rfl⟩⟩,nzR _⟩
section
variable {P:Program}(w:World)
theorem zEK(base:Nat)(t ty e:TypeId)(i:TypeInfo)(size:Nat)(ht:P.underlying t=some (.slice e))(hi:P.info? e=some i)
  (v:Value) (n:Nat) (xs:List Value) (Hk:OwnM w base e size v n xs) (x:Option Addr) (c:Nat):(Builtin.append_ #[t,t] ty #[v,.slice x 0 c]).run P w=.ok v w:=by
 rcases Hk.2 with ⟨rfl,rfl⟩|⟨g,off,cap,cur,rfl,ud,hg,GH,gi,Gy,ga⟩
 ·cases x <;>simp[Builtin.append_,run_underlying ht,sizeOf,typeInfo,hi,Builtin.lenOf,Builtin.firstCells,loadCells,loadCellsFrom]
 ·cases x <;>simp[Builtin.append_,run_underlying ht,sizeOf,typeInfo,hi,Builtin.lenOf,Builtin.firstCells,GH,storeCells,loadCells,loadCellsFrom]
theorem zDl{ops:Array Oper}{rest:List Oper}{o:Oper}{a:Act}{Q:Exit→Act→World→Prop}(M5:o.guard=none)(s x:Operand)(t:TypeId)
  (ho:o.op=.call { callee:=.builtin .append,args:=#[s,x],argTypes:=#[t,t] })
  (base:Nat) (e:TypeId) (i:TypeInfo) (size:Nat) (ht:P.underlying t=some (.slice e)) (hi:P.info? e=some i)
  (v:Value) (n:Nat) (xs:List Value) (hs:a.eval s=v) (Hk:OwnM w base e size v n xs)
  (ad:Option Addr) (c:Nat) (hx:a.eval x=.slice ad 0 c)
  (h:wpList P ops Q rest (a.put o.dst v) w):wpList P ops Q (o::rest) a w:=by
 refine wpList_plain M5 fun _ hK=>?_
 have hr:=zEK (P:=P) w base t o.type e i size ht hi v n xs Hk ad c;unfold Oper.wp execOp;simp only[ho,resolve,invoke,builtin,Sem.run_bind,Sem.run_pure,Result.andThen_ok,List.map_toArray,jK,List.map_nil,hs,hx,hr];exact hK _ _ h
end
theorem vol_of{l:List Ev}(h:l.length≤400)(hb:∀e∈l,EvB e):volE l=sumQ (trs l)∧cntE l=((trs l).length:Int)∧tchk l=0∧0≤sumQ (trs l)∧sumQ (trs l)≤4000000∧(trs l).length≤400:=by
 have hz:=zRH h hb;have h1:=zCI (trs l) (zHy (fun e he=>zNf (hb e he)))
 have h2:=zCT l;refine⟨if_pos hz,if_pos hz,hz,h1.1,?_,by omega⟩
 have:=h1.2;omega
theorem TapL.trd{w wr w' : World}{F:Nat}{v:Value}{all:List Ev}{f:FS}{k:Nat}(h:TapL w wr F v all f k)(hk:Kp [38] wr w')(hb:Below w.heap.size wr w'):TapL w w' F v all f k:=
 ⟨⟨by obtain⟨fv,hv⟩:=h.fl.fm;exact⟨fv,fm_kpT hv hk⟩,h.fl.lo,h.fl.bel.trans hb⟩,h.ef,h.eb,h.la,zHz h.ow hk (by decide),h.sm⟩
end tap
namespace bar
open Go.RowKit mee
theorem hidT{p:Prop}(h:p):Hid p:=h
theorem getE{α:Type}[Inhabited α](l:List α)(j:Nat)(h:j<l.length):l[j]! = l[j]:=by simp[h]
theorem wAv{α:Type}[Inhabited α]{l:List α}{k:Nat}(h:k<l.length):l.take (k+1)=l.take k++[l[k]!]:=by
 rw[List.take_succ_eq_append_getElem h,getE l k h]
theorem wrapSucc(k n:Nat)(h:k<n)(hn:n≤9223372036854775807):wrap64 ((k:Int)+1)=((k+1:Nat):Int):=by unfold wrap64;omega
theorem bal{V W:World}(h:Bw V W)(o:Obj):Bw V (W.alloc o):=h.alloc h.size o
structure B where
 o:Int
 h:Int
 l:Int
 c:Int
 q:Int
deriving DecidableEq,Inhabited
def bV(b:B):List Value:=[.int .i64 b.o,.int .i64 b.h,.int .i64 b.l,.int .i64 b.c,.int .i64 b.q]
def Lies{α:Type}[Inhabited α](sz:Nat)(enc:α→List Value)(w:World)(b o:Nat)(zs:List α):Prop:=∀j,j<zs.length→∀i v,(enc zs[j]!)[i]?=some v→w.cell? ⟨b,o+j*sz+i,none⟩=some v
def XL{α:Type}[Inhabited α](sz:Nat)(enc:α→List Value)(w:World)(v:Value)(zs:List α):Prop:=
 (v=.slice none 0 0∧zs=[])∨∃b o c,v=.slice (some ⟨b,o,none⟩) zs.length c∧zs.length≤c∧c≤9223372036854775807∧b<w.heap.size∧Lies sz enc w b o zs
section
variable {α:Type}[Inhabited α]{sz:Nat}{enc:α→List Value}
theorem Lies.below{w w' : World}{b o:Nat}{zs:List α}(h:Lies sz enc w b o zs)(hb:b<w.heap.size)(hB:Bw w w'):Lies sz enc w' b o zs:=
 fun j hj i v hv=>(hB.cell (p:=⟨b,o+j*sz+i,none⟩) hb).trans (h j hj i v hv)
theorem XL.below{w w' : World}{v:Value}{zs:List α}(h:XL sz enc w v zs)(hB:Bw w w'):XL sz enc w' v zs:=by
 rcases h with h|⟨b,o,c,h1,h2,h3,h4,h5⟩
 ·exact .inl h
 ·exact .inr ⟨b,o,c,h1,h2,h3,jC h4 hB.size,h5.below h4 hB⟩
theorem XL.form{w:World}{v:Value}{zs:List α}(h:XL sz enc w v zs):∃q c,v=.slice q zs.length c∧zs.length≤c∧c≤9223372036854775807:=by
 rcases h with ⟨h1,h2⟩|⟨b,o,c,h1,h2,h3,h4,h5⟩
 ·subst h2;exact⟨none,0,h1,by simp,by simp⟩
 ·exact⟨some ⟨b,o,none⟩,c,h1,h2,h3⟩
theorem XL.at{w:World}{q:Option Addr}{n c:Nat}{zs:List α}(h:XL sz enc w (.slice q n c) zs){k:Nat}(hk:k<zs.length):∃g off,q=some ⟨g,off,none⟩∧g<w.heap.size∧∀i v,(enc zs[k]!)[i]?=some v→w.cell? ⟨g,off+k*sz+i,none⟩=some v:=by
 rcases h with ⟨h1,h2⟩|⟨b,o,c,h1,h2,h3,h4,h5⟩
 ·subst h2;simp at hk
 ·cases h1;exact⟨b,o,rfl,h4,h5 k hk⟩
theorem XL.part{w:World}{b o n c:Nat}{zs:List α}(h:XL sz enc w (.slice (some ⟨b,o,none⟩) n c) zs){i m d:Nat}(him:i+m≤zs.length)(hmd:m≤d)(hd:d≤9223372036854775807):XL sz enc w (.slice (some ⟨b,o+i*sz,none⟩) m d) ((zs.drop i).take m):=by
 rcases h with ⟨h1,h2⟩|⟨b,o,c,h1,h2,h3,h4,h5⟩
 ·cases h1
 ·cases h1;have hl:((zs.drop i).take m).length=m:=by simp;omega
  refine .inr ⟨_,_,d,by rw[hl],by omega,hd,h4,?_⟩
  intro j hj k v hv;rw[hl] at hj;have e:((zs.drop i).take m)[j]! = zs[i+j]!:=by
   rw[getE _ _ (by omega),getE _ _ (by omega)]
   simp
  rw[e] at hv;have:=h5 (i+j) (by omega) k v hv
  rwa [show o+i*sz+j*sz+k=o+(i+j)*sz+k by rw[Nat.add_mul];omega]
end
abbrev TL(w:World)(v:Value)(zs:List T):Prop:=XL 6 tV w v zs
abbrev BL(w:World)(v:Value)(zs:List B):Prop:=XL 5 bV w v zs
end bar
namespace bar
open Go.RowKit Go.Shelf mee
open spn (zAa)
attribute [local go_sem] Oper.semAt_some
def cnt(n len:Nat):Nat:=(len+n - 1) / n
theorem cnt_of{n len k:Nat}(hn:1≤n)(h1:len≤k*n)(h2:k*n<len+n):k=cnt n len:=by
 unfold cnt;symm
 rw[Nat.div_eq_iff (by omega)]
 have e:(k+1)*n=k*n+n:=by rw[Nat.add_mul];omega
 omega
def KB(P n1:Nat)(W W' : World):Prop:=∀k,k<n1→k≠P→W'.heap[k]?=W.heap[k]?
theorem KB.trans{P n1:Nat}{A B C:World}(h:KB P n1 A B)(k:KB P n1 B C):KB P n1 A C:=fun i h1 h2=>(k i h1 h2).trans (h i h1 h2)
theorem KB.put{P n1:Nat}{w:World}(hn:n1≤w.heap.size)(W:World)(l:Nat)(o o' : Obj)(hl:w.heap.size≤l)(_:W.heap[l]?=some o)(_:o.isCells=false)(_:o.isWalk=false):KB P n1 W (W.putObj l o'):=
 fun k hk _=>World.putObj_heap_other (by omega)
theorem KB.cell{P n1:Nat}{W W' : World}(h:KB P n1 W W'){b o:Nat}{v:Value}(hb:b<n1)(hp:b≠P)(hc:W.cell? ⟨b,o,none⟩=some v):W'.cell? ⟨b,o,none⟩=some v:=by
 unfold World.cell? at hc ⊢;rw[h b hb hp];exact hc
def beg{len:Nat}(l:List (Fin len)):List Nat:=l.map (fun x=>x.1)
def parts(n k:Nat):List Nat:=(List.range k).map (fun j=>j*n)
theorem zKm(n k:Nat):parts n (k+1)=parts n k++[k*n]:=by simp[parts,List.range_succ]
abbrev encP(b off n len:Nat)(x:Fin len):Array Value:=#[.slice (some ⟨b,off+x.1*6,none⟩) (min n (len - x.1)) (min n (len - x.1))]
def left(N:Nat)(v:Value):Nat:=N - (intOf v).toNat
theorem zRJ{N i:Nat}{x:Int}{m:Nat}(h:x=((m:Nat):Int))(h2:N - m<N - i):left N (.int .i64 x)<left N (.int .i64 (i:Int)):=by
 subst h;simpa [left,intOf] using h2
theorem offs{i e len cap:Nat}(h:1≤e∧i+e≤len∧len≤cap∧len≤400):∃d,d=i+e∧(i:Int)+(e:Int)=(d:Int)∧wrap64 (d:Int)=(d:Int)∧d - i=e∧(i:Int)≤(d:Int)∧(d:Int)≤(cap:Int)∧¬d=i:=
 ⟨i+e,rfl,by omega,by unfold wrap64;omega,by omega,by omega,by omega,by omega⟩
theorem zNg(m:Nat)(hm:1≤m)(l Bs Bn P n1 b off len cap n:Nat)(q:Option Addr)
  (hn:1≤n) (BZ:n≤400) (hl4:len≤400) (hlc:len≤cap) (hq:0<len→q=some ⟨b,off,none⟩) (Hl:Bs<n1) (H9:Bs≠P) (Hc:Bn<n1) (Ha:Bn≠P)
  (J Jx:List (Fin len)→World→Prop)
  (B1:Nat) (hJ:AbidesFrom B1 J)
  (hY:∀pre x W,J pre W→pre.length<len→YieldAt Fence.wide (m - 1) prog l (encP b off n len x) W fun e W'=>
   (e=.returned (.bool true)∧J (pre++[x]) W'∧KB P n1 W W')∨(e=.returned (.bool false)∧Jx (pre++[x]) W'))
  (W:World) (hS:W.cell? ⟨Bs,0,none⟩=some (.slice q len cap)) (hN:W.cell? ⟨Bn,0,none⟩=some (.int .i64 n)) (h0:J [] W) :
  CallsIn Fence.wide m prog 44 #[.func (.yield l) #[] #[],.pointer (some ⟨Bs,0,none⟩),.pointer (some ⟨Bn,0,none⟩)] W fun e W'=>(∃v,e=.returned v)∧
   ((∃ys,beg ys=parts n (cnt n len)∧J ys W')∨(∃pre,True∧Jx pre W')):=by
 refine callsIn_of_wp func44 rfl trivial ?_ rfl;simp only[ntmps44,List.size_toArray,jG,List.length_nil,Nat.reduceAdd,Nat.reduceSub,Array.replicate_succ,Array.replicate_zero,List.push_toArray,List.append_toArray,jU,List.cons_append]
 gi_wp2
 gi_loopw [4,5] (fun s4 _ wr=>∃ (k i:Nat) (pre:List (Fin len)),s4=.int .i64 (i:Int)∧i=k*n∧i<len+n∧beg pre=parts n k∧J pre wr∧KB P n1 W wr)
  (fun s4 _ _=>left (len+n) s4)
 case atStart=>exact⟨0,0,[],rfl,by simp,by omega,rfl,h0,fun _ _ _=>rfl⟩
 case round=>
  obtain⟨k,i,pre,rfl,hi,hk,CQ,hJs,Ck⟩:=hrel;have hS':=Ck.cell Hl H9 hS;have hN':=Ck.cell Hc Ha hN;have Pw:pre.length=k:=by have:=congrArg List.length CQ;simpa [beg,parts] using this
  have my:(k+1)*n=i+n:=by rw[Nat.add_mul];omega
  have gd:k≤i:=by rw[hi];exact Nat.le_mul_of_pos_right k hn
  by_cases Hi:i<len
  ·obtain rfl:=hq (by omega)
   have hx:=hY pre ⟨i,Hi⟩;have Hp:(i:Int)<(len:Int):=by omega
   have hmx:prog.follows .mixedOrders=true:=by kernel_rfl
   have gY:¬(i:Int)<0:=by omega
   have hic:¬(len:Int)<(i:Int):=by omega
   have hicc:¬cap=i:=by omega
   have Gh:(len:Int)≤(cap:Int):=by omega
   have he:((len:Int) - (i:Int))=((len - i:Nat):Int):=by omega
   have Po:min (n:Int) (((len - i:Nat):Int))=((min n (len - i):Nat):Int):=by
    rcases Nat.le_total n (len - i) with h|h
    ·rw[Nat.min_eq_left h,Int.min_eq_left (by omega)]
    ·rw[Nat.min_eq_right h,Int.min_eq_right (by omega)]
   have HW:Hid (wrap64 ((i:Int)+(n:Int))=((i+n:Nat):Int)):=by show wrap64 _=_;unfold wrap64;omega
   have HNP:Hid (i+n<len+n∧len+n - (i+n)<len+n - i):=⟨by omega,by omega⟩
   have HI:Hid (i=k*n∧(k+1)*n=i+n∧k≤i):=⟨hi,my,gd⟩;have Es:0≤(i:Int)∧(i:Int)≤(len:Int):=by omega
   clear hq hi my gd
   gi_wp2
   have hJd:∀q,J pre (wr.drewN q):=fun q=>hJ _ _ _ none hJs ⟨rfl,rfl,rfl,nzR _,fun _ _ _=>rfl⟩ (fun r e=>by cases e)
   have hKd:∀q,KB P n1 W (wr.drewN q):=fun q=>Ck
   have hSd:∀q,(wr.drewN q).cell? ⟨Bs,0,none⟩=some (.slice (some ⟨b,off,none⟩) len cap):=fun q=>hS'
   have hNd:∀q,(wr.drewN q).cell? ⟨Bn,0,none⟩=some (.int .i64 n):=fun q=>hN'
   obtain⟨e,hee⟩:∃e,e=min n (len - i):=⟨_,rfl⟩;have BT : ((min n (len - i):Nat):Int)=(e:Int):=by omega
   rw[BT] at Po
   gi_quiet (fail)
   have eL:=hidT (hJd nq);have eM:=hidT (hKd nq);have Ed:=hSd nq;have Cl:=hNd nq;clear hJd hKd hSd hNd hJs Ck hS' hN';obtain⟨wd,hwd⟩:∃x,wr.drewN nq=x:=⟨_,rfl⟩;rw[hwd] at eL eM Ed Cl ⊢;obtain⟨fn,tmps,assign,body,hy,hR⟩:=hx wd eL.out (by have:=HI.out;omega)
   dsimp only [encP] at hy
   rw[←hee] at hy;have he1:1≤e∧i+e≤len∧len≤cap∧len≤400:=by omega
   have HE:=hidT he1;clear hwd hx hee Po BT he hlc hl4 BZ hn hk Hp hicc Es gY Gh;obtain⟨d,hd,hd1,hd2,hd3,hd4,hd5,hd6⟩:=offs he1;have HD:=hidT hd;clear he1 hd
   gi_wp2
   refine hR.mono ?_;rintro ee W3 (⟨rfl,hJ3,uS⟩|⟨rfl,hJx3⟩)
   ·have hN3:=uS.cell Hc Ha Cl;clear hR hy HD hd1 hd2 hd3 hd4 hd5 hd6 Ed Cl
    gi_wp2
    go_roundw
    case rel=>
     refine⟨k+1,i+n,pre++[⟨i,Hi⟩],congrArg (Value.int .i64) HW.out,HI.out.2.1.symm,HNP.out.1,?_,hJ3,eM.out.trans uS⟩;rw[zKm,←CQ,←HI.out.1];simp[beg]
    case measure=>exact zRJ HW.out HNP.out.2
   ·gi_wp2
    refine jN (results_none rfl _ _ _) rfl ?_;exact⟨⟨_,rfl⟩,.inr ⟨_,trivial,hJx3⟩⟩
  ·have Hp:¬(i:Int)<(len:Int):=by omega
   have hkc:=cnt_of hn (show len≤k*n by omega) (by omega)
   subst hkc;clear hi
   gi_wp2
   go_end0
   exact⟨⟨_,rfl⟩,.inl ⟨pre,CQ,hJs⟩⟩
theorem zPI(q:Option Addr)(len cap n:Nat)(hn:1≤n)(w:World) :
  Calls prog 22 #[.slice q len cap,.int .i64 n] w fun e w'=>
   e=.returned (.func (.func 44) #[] #[.pointer (some ⟨w.heap.size,0,none⟩),.pointer (some ⟨w.heap.size+1,0,none⟩)])∧
   w'=(w.alloc (.cells #[.slice q len cap] 30)).alloc (.cells #[.int .i64 n] 3):=by
 have hnz:¬((n:Int)<1):=by omega
 go_enter func22,ntmps22;go_wp2_with fail;go_ret;exact⟨rfl,rfl⟩
theorem zIg(m:Nat)(hm:1≤m)(Bs Bn P b off len cap n:Nat)(q:Option Addr)
  (hn:1≤n) (BZ:n≤400) (hl4:len≤400) (hlc:len≤cap) (hq:0<len→q=some ⟨b,off,none⟩) (w:World) (Hl:Bs<w.heap.size) (H9:Bs≠P) (Hc:Bn<w.heap.size) (Ha:Bn≠P)
  (hS:w.cell? ⟨Bs,0,none⟩=some (.slice q len cap)) (hN:w.cell? ⟨Bn,0,none⟩=some (.int .i64 n)) :
  SeqStopsK Fence.wide m prog 44 #[.pointer (some ⟨Bs,0,none⟩),.pointer (some ⟨Bn,0,none⟩)] (encP b off n len) (KB P w.heap.size)
   (fun ys=>beg ys=parts n (cnt n len)) (fun _=>True) len w:=fun l J Jx W hW hJ _ hY h0=>
 zNg m hm l Bs Bn P w.heap.size b off len cap n q hn BZ hl4 hlc hq Hl H9 Hc Ha J Jx _ hJ hY W ((hW.cell (p:=⟨Bs,0,none⟩) Hl).trans hS) ((hW.cell (p:=⟨Bn,0,none⟩) Hc).trans hN) h0
end bar
end Go.Proofs.YtnfilcpnneckkaaGreat
