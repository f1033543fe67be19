import Derived.Test.YtnfilcpnneckkaaGreatBarOf2
set_option maxHeartbeats 2000000
set_option maxRecDepth 100000
namespace Go.Proofs.YtnfilcpnneckkaaGreat
open Go.Proofs.Tryz
namespace bar
open Go.RowKit Go.Shelf mee
open spn (zAa zAl zAY scheck1 zAd errV wAa wAb)
attribute [local go_sem] Oper.semAt_some
def zCj(n:Nat)(zs:List T)(o:Nat):List T:=(zs.drop o).take n
def zAZ(n:Nat)(zs:List T)(os:List Nat):List B:=os.map (fun o=>zDC (zCj n zs o))
def zAH(zs:List T)(n:Nat):List B:=zAZ n zs (parts n (cnt n zs.length))
def zGm(zs:List T)(n:Int):Int:=if bchk zs=0 then (if 1≤n∧n≤400 then 0 else 1) else bchk zs
def zET(bs:List B):List Value:=bs.flatMap bV
def zKp:Value:=.agg #[.int .i64 0,.int .i64 0,.int .i64 0,.int .i64 0,.int .i64 0]
theorem infoB:(prog.info? 47).map (fun i=>(i.zero,i.size,i.bytes))=some (some zKp,5,40):=by kernel_rfl
theorem infoB' : ∃i,prog.info? 47=some i∧i.zero=some zKp∧i.size=5∧i.bytes=40:=info_parts infoB
theorem zPK(n:Nat)(zs:List T)(i:Nat):(zs.drop i).take (min n (zs.length - i))=zCj n zs i:=by
 unfold zCj;rw[←jQ,List.take_eq_take_iff];omega
theorem gr_of{W W' : World}(h:Bw W W'):W.grownBy W' none:=⟨h.os,h.tape,h.output,h.size,fun k hk _=>h.block k hk⟩
theorem new5(W:World)(vs:List Value)(e:TypeId):∀j u,vs[j]?=some u→(W.alloc (.cells vs.toArray e)).cell? ((⟨W.heap.size,0,none⟩:Addr).add j)=some u:=by
 intro j u h;have h0:=jA W (.cells vs.toArray e);rw[Addr.add_lit];generalize W.alloc (.cells vs.toArray e)=V at *;simp[World.cell?,h0,h]
theorem one5(a b c d e:Int):∀u∈[Value.int .i64 a,.int .i64 b,.int .i64 c,.int .i64 d,.int .i64 e],u.oneCell'=true:=by
 intro u hu;simp at hu;rcases hu with rfl|rfl|rfl|rfl|rfl <;>rfl
theorem zHA{W:World}{base n0:Nat}{e:TypeId}{size:Nat}{v:Value}{k:Nat}{xs:List Value}(h:W.ownsRow base e size v k xs)(Gh:n0≤base):W.ownsRow n0 e size v k xs:=
 ⟨h.1,h.2.imp id (fun⟨g,cap,cur,a,b,c⟩=>⟨g,cap,cur,a,jM Gh b,c⟩)⟩
theorem row_ge{W:World}{base:Nat}{e:TypeId}{size:Nat}{v:Value}{k:Nat}{xs:List Value}(h:W.ownsRow base e size v k xs):∀j,v.ownBlock=some j→base≤j:=by
 intro j hj;rcases h.2 with ⟨rfl,_⟩|⟨g,cap,cur,rfl,hb,_⟩
 ·cases hj
 ·cases hj;exact hb
theorem wBc{β:Type}(n₀ B:Nat)(t e:TypeId)(size:Nat)(k:β→Nat)(f:β→List Value):Own (fun s W=>∃v,Boxed W B t v∧W.ownsRow n₀ e size v (k s) (f s)):=by
 intro s X Y row h hg Hd;obtain⟨v,h1,h2⟩:=h;obtain⟨v',h3,h4,_⟩:=holdsRow_own n₀ B t e size k f (fun _ _=>True) s X Y row ⟨v,h1,h2,trivial⟩ hg Hd
 exact⟨v',h3,h4⟩
theorem zHB:∀ (bs:List B) (j i:Nat),j<bs.length→i<5→(zET bs)[j*5+i]?=(bV bs[j]!)[i]?
 | [],j,i,h,_=>by simp at h
 | b::r,0,i,_,hi=>by
  have:(bV b).length=5:=rfl;simp only[zET,List.flatMap_cons];rw[List.getElem?_append_left (by omega)]
  simp
 | b::r,j+1,i,h,hi=>by
  have h5:(bV b).length=5:=rfl;simp only[zET,List.flatMap_cons];rw[jV (by omega),h5,show (j+1)*5+i - 5=j*5+i by omega]
  have:=zHB r j i (by simpa using h) hi
  simpa [zET] using this
theorem zNj{W:World}{base:Nat}{e:TypeId}{v:Value}{bs:List B}(h:W.ownsRow base e 5 v bs.length (zET bs)):BL W v bs:=by
 rcases h.2 with ⟨rfl,h0⟩|⟨g,cap,cur,rfl,hb,hg,hn,hm,hs,ht⟩
 ·exact .inl ⟨rfl,List.eq_nil_of_length_eq_zero h0⟩
 ·refine .inr ⟨g,0,cap,rfl,hn,by unfold maxLen at hm;omega,(gzE.1 hg).1,?_⟩
  intro j hj i u hu;have hi:i<5:=by
   rcases Nat.lt_or_ge i 5 with h|h
   ·exact h
   ·rw[List.getElem?_eq_none (show (bV bs[j]!).length≤i from h)] at hu;cases hu
  rw[←zHB bs j i hj hi,←ht,List.getElem?_take] at hu;split at hu
  ·rw[Nat.zero_add];simp only[World.cell?,hg];simpa using hu
  ·cases hu
theorem zDm{W w1:World}{n0 base B:Nat}{t e:TypeId}{size:Nat}{v v' : Value}{k m:Nat}{xs ys:List Value}{tmp:Obj}
  (hv:Boxed W B t v) (hte:t≠e) (Hd:W.ownsRow base e size v k xs) (hb:base≤W.heap.size) (hB:n0≤B) (bP:n0≤base)
  (gS : w1.ownsRow base e size v' m ys) (gC:(W.alloc tmp).grownBy w1 v.ownBlock) :
  Boxed w1 B t v∧Boxed (w1.setCell ⟨B,0,none⟩ v') B t v'∧(w1.setCell ⟨B,0,none⟩ v').ownsRow base e size v' m ys∧KeepsOthers W (w1.setCell ⟨B,0,none⟩ v')∧KB B base W (w1.setCell ⟨B,0,none⟩ v')∧Below n0 W (w1.setCell ⟨B,0,none⟩ v'):=by
 obtain⟨h1,h2,h3,h4,h5⟩:=hv.appended hte (zHA Hd bP) (jM bP hb) hB (zHA gS bP) gC;refine⟨h1,h2,gS.kept (grownBy_setCell' w1 B v') (.inr (h1.not_row hte gS).symm),h4,?_,h5⟩;intro k hk H8;refine(Below.heap_setCell w1 ⟨B,0,none⟩ v' k H8).trans ((gC.block k (by rw[World.size_alloc];omega) (fun e'=>?_)).trans (Below.heap_alloc W tmp k (by omega)))
 have:=row_ge Hd k e'.symm;omega
theorem zBk{F:Fence}{n:Nat}{P:Program}{w:World}{ops:Array Oper}{o:Oper}{a:Act}{Q:Exit→Act→World→Prop}{K:Act→World→Prop}{E:Prop}
  (hg:o.guard=none) (s x:Operand) (t:TypeId) (ET:o.op=Op.call { callee:=Callee.builtin Builtin.append,args:=#[s,x],argTypes:=#[t,t] })
  (base:Nat) (e:TypeId) (i:TypeInfo) (z:Value) (size bytes:Nat) (h1:P.underlying t=some (.slice e)) (h2:P.info? e=some i) (h3:i.zero=some z) (h4:i.size=size) (h5:i.bytes=bytes) (h6:z.cells.size=size) (h7:0<size)
  (v:Value) (k:Nat) (xs:List Value) (hs:a.eval s=v) (Hk:w.ownsRow base e size v k xs) (ad:Addr) (m c:Nat) (news:List Value) (hx:a.eval x=.slice (some ad) m c) (hn:news.length=m*size)
  (hc:∀j u,news[j]?=some u→w.cell? (ad.add j)=some u) (ep:∀u∈news,u.oneCell'=true) (b1:k+m≤maxLen) (b2:(k+m)*bytes≤140737488355328) (b3:base≤w.heap.size)
  (hK:∀v' w',w'.ownsRow base e size v' (k+m) (xs++news)→w.grownBy w' v.ownBlock→(v'=.slice none 0 0↔v=.slice none 0 0∧m=0)→K (a.put o.dst v') w') :
  if Region.wanted o (yielded ops a.tmps)=true then Oper.wpIn F n P o a w K Q else E:=by
 rw[if_pos (by simp[Region.wanted,hg])]
 obtain⟨v',w',hrun,r1,r2,r3⟩:=run_append_own (P:=P) w base t o.type e i z size bytes h1 h2 h3 h4 h5 h6 h7 v k xs Hk ad m c news hn hc ep b1 b2 b3;unfold Oper.wpIn;refine⟨?_,?_⟩
 ·simp[Oper.about,ET,resolve,Target.leads,Sem.run_pure]
 ·rw[Oper.semAt_plain F _ _ (by rw[ET];intro c hc';cases hc')]
  simp[execOp,ET,resolve,invoke,builtin,hs,hx,hrun,Result.andThen];exact hK _ _ r1 r2 r3
theorem zNk(q:Option Addr)(c:Nat)(zs:List T)(n:Nat)(w:World)(h:TL w (.slice q zs.length c) zs)(h0:bchk zs=0)(hn:1≤n)(BZ:n≤400) :
  Calls prog 8 #[.slice q zs.length c,.int .i64 n] w fun e w'=>
   ∃v',e=.returned (.tuple #[v',.nilIface])∧BL w' v' (zAH zs n)∧Below w.heap.size w w':=by
 have HC:=hidT (wAf _ zs w h);rw[h0,wAa] at HC;have Ui:=hidT (fun V=>zAY n 1 400 V)
 have Hi:zs.length≤400∧zs.length≤c∧c≤9223372036854775807:=by
  refine⟨?_,?_⟩
  ·unfold bchk at h0;split at h0
   ·cases h0
   ·omega
  ·obtain⟨q',c',e,h1,h2⟩:=h.form;cases e;exact⟨h1,h2⟩
 have HL:=hidT Hi;have HR:Hid ([((n:Int),1,400)].any zAl=false):=by
  show _=false
  simp[zAl];omega
 have gN:Hid (∀ (q:Option Addr) (len cap:Nat) (w:World),_):=fun q len cap w=>zPI q len cap n hn w
 have HT:Hid (TL w (.slice q zs.length c) zs):=h;obtain⟨len,Hh⟩:∃n,zs.length=n:=⟨_,rfl⟩;have HN:=hidT Hh;simp only[Hh] at HC ⊢;clear Hh h h0 Hi;refine(callsIn_wide (n:=5)).1 ?_;refine callsIn_of_wp_marks func8 rfl trivial ?_ rfl;simp only[ntmps8,List.size_toArray,jG,List.length_nil,Nat.reduceAdd,Nat.reduceSub,Array.replicate_succ,Array.replicate_zero,List.push_toArray,List.append_toArray,jU,List.cons_append]
 gi_wp2_with (first|(refine⟨trivial,?_⟩;gi_at_call 20;refine(callsIn_wide.2 HC.out).mono ?_;rintro e w1 ⟨rfl,Hc⟩)|(refine⟨trivial,?_⟩;gi_at_call 21;refine(callsIn_wide.2 (Ui.out _)).mono ?_;rintro e w2 ⟨rfl,Ha⟩)|(refine⟨trivial,?_⟩;gi_at_call 11;refine(callsIn_wide.2 (scheck1 false _ _ _ _ _ rfl HR.out)).mono ?_;rintro e w3 ⟨rfl,Hr⟩;simp only[show errV (zAd false)=.nilIface from rfl])|(refine⟨trivial,?_⟩;gi_at_call 22;refine(callsIn_wide.2 (gN.out _ _ _ _)).mono ?_;rintro e w4 ⟨rfl,rfl⟩))
 have HU:Hid (Below w.heap.size w w3):=(Hc.trans (Ha.mono Hc.size)).trans (Hr.mono (jM Hc.size Ha.size));clear HC Ui HR gN Hc Ha Hr;obtain⟨P,hP⟩:∃P,P=w3.heap.size:=⟨_,rfl⟩;obtain⟨W0,UL⟩:∃W0,W0=((w3.alloc (.cells #[.slice none 0 0] 43)).alloc (.cells #[.slice q len c] 30)).alloc (.cells #[.int .i64 n] 3):=⟨_,rfl⟩;have D0:Hid (W0.heap.size=P+3):=by show _=_;rw[UL,hP];simp
 have Gq:Hid (Below w.heap.size w W0):=by
  rw[UL];exact((HU.out.alloc HU.out.size _).alloc (by have:=HU.out.size;simp;omega) _).alloc (by have:=HU.out.size;simp;omega) _
 have HP:Hid (w.heap.size≤P):=by rw[hP];exact HU.out.size
 have en:Hid (Boxed W0 P 43 (.slice none 0 0)):=by
  rw[UL,hP];exact((Boxed.new w3 _ _).alloc _).alloc _
 have GW:Hid (W0.cell? ⟨P+1,0,none⟩=some (.slice q len c)):=by
  have:=((Boxed.new (w3.alloc (.cells #[.slice none 0 0] 43)) 30 (.slice q len c)).alloc (.cells #[.int .i64 n] 3)).cell;rw[World.size_alloc] at this;rw[UL,hP];exact this
 have mq:Hid (W0.cell? ⟨P+2,0,none⟩=some (.int .i64 n)):=by
  have:=(Boxed.new ((w3.alloc (.cells #[.slice none 0 0] 43)).alloc (.cells #[.slice q len c] 30)) 3 (.int .i64 n)).cell;rw[World.size_alloc,World.size_alloc] at this;rw[UL,hP];exact this
 simp only[←hP,←UL,Nat.add_assoc,Nat.reduceAdd];obtain⟨b,off,hq⟩:∃b off,0<len→q=some ⟨b,off,none⟩:=by
  rcases HT.out with ⟨h1,h2⟩|⟨b,o,c',h1,_⟩
  ·exact⟨0,0,fun h=>by rw[←HN.out,h2] at h;simp at h⟩
  ·cases h1;exact⟨b,o,fun _=>rfl⟩
 have Pj:len≤400∧len≤c:=by rw[←HN.out];exact⟨HL.out.1,HL.out.2.1⟩
 obtain⟨i0,gY,gE,gu,gA⟩:=infoB';have HI:=hidT gY;clear hP UL gY;refine wpIn_rangeFunc_ownG (n:=5) rfl (by omega) (gf:=44) (lb:=#[.pointer (some ⟨P+1,0,none⟩),.pointer (some ⟨P+2,0,none⟩)]) rfl trivial (enters_of func44 (by kernel_rfl) rfl)
  (zIg 4 (by omega) (P+1) (P+2) P b off len c n q hn BZ Pj.1 Pj.2 hq W0 (by rw[D0.out];omega) (by omega) (by rw[D0.out];omega) (by omega) GW.out mq.out) KB.trans (fun W l o o' h1 h2 h3 h4=>KB.put (nzR _) W l o o' h1 h2 h3 h4) (bzR _ _) (fun _=>rfl)
  (fun pre W=>(∃v,Boxed W P 43 v∧W.ownsRow W0.heap.size 47 5 v pre.length (zET (zAZ n zs (beg pre))))∧Below w.heap.size W0 W)
  (fun _ _ _=>False)
  (OwnFrom.and (Own.from (wBc W0.heap.size P 43 47 5 (fun pre:List (Fin len)=>pre.length) (fun pre=>zET (zAZ n zs (beg pre)))) _) (ownFrom_below Gq.out.size Gq.out.size))
  (fun _ _ _ _ _ hs _ _=>hs)
  ⟨⟨_,en.out,World.ownsRow_nil _ _ _ _⟩,bzR _ _⟩
  (fun x=>{ tmps:=#[.slice q len c,.int .i64 n,undef,undef,.slice none 0 0,.nilIface,.nilIface,.nilIface,.pointer (some ⟨P,0,none⟩),.slice (some ⟨b,off+x.1*6,none⟩) (min n (len - x.1)) (min n (len - x.1)),.slice q len c,
   .nilIface,.nilIface,.bool false,undef,.int .i64 n,.agg #[.int .i64 n,.int .i64 1,.int .i64 400],.slice (some ⟨w2.heap.size,0,none⟩) 1 1,.nilIface,.nilIface,.bool false,
   undef,.slice q len c,.int .i64 n,.func (.func 44) #[] #[.pointer (some ⟨P+1,0,none⟩),.pointer (some ⟨P+2,0,none⟩)],
   .slice (some ⟨b,off+x.1*6,none⟩) (min n (len - x.1)) (min n (len - x.1)),undef,undef,undef,undef,undef,undef],defers:=[] }) ?assign ?body ?done ?stop
 case assign=>
  intro l x W K hK
  gi_wp2
  exact hK
 case body=>
  rintro l pre x W⟨⟨v,hv0,B8⟩,Hj⟩ Pw;have hv:=hidT hv0;have Hd:=hidT B8;have hx:x.1<zs.length:=by rw[HN.out];exact x.2
  have G7:=x.2;have EZ : q=some ⟨b,off,none⟩:=hq (by omega)
  have HBO:Hid (∀V,Below W.heap.size W V→Calls prog 23 #[.slice (some ⟨b,off+x.1*6,none⟩) (min n (len - x.1)) (min n (len - x.1))] V fun e w'=>e=.returned (.agg (bV (zDC (zCj n zs x.1))).toArray)∧Below W.heap.size W w'):=fun V hV=>by
   have h1:=HT.out.below (Gq.out.trans (Hj.trans (hV.mono (jM Gq.out.size Hj.size))));rw[EZ] at h1;have h2:=h1.part (i:=x.1) (m:=min n (len - x.1)) (d:=min n (len - x.1)) (by rw[HN.out];omega) (nzR _) (by omega)
   have e:(zs.drop x.1).take (min n (len - x.1))=zCj n zs x.1:=by have h9:=zPK n zs x.1;rw[HN.out] at h9;exact h9
   rw[e] at h2;exact(zNi _ _ V h2 (by rw[←e];simp only[jJ,jQ];omega)).mono fun _ _ h'=>⟨h'.1,hV.trans (h'.2.mono hV.size)⟩
  have Ek:zET (zAZ n zs (beg (pre++[x])))=zET (zAZ n zs (beg pre))++bV (zDC (zCj n zs x.1)):=by simp[zET,zAZ,beg]
  have U9:(pre++[x]).length=pre.length+1:=by simp
  have M2:Hid (W0.heap.size≤W.heap.size):=Hj.size;have uw:Hid (pre.length+1≤maxLen∧(pre.length+1)*40≤140737488355328):=⟨by unfold maxLen;omega,by omega⟩
  have HKO:Hid (∀ (w2 W' : World),Below W.heap.size W w2→KeepsOthers w2 W'→KeepsOthers W W'):=fun w2 W' h1 h2=>(KeepsOthers.of_grownBy (gr_of h1) (fun j o e _=>by cases e)).trans h2
  have ug:Hid (∀ (w2 W' : World),Below W.heap.size W w2→KB P W0.heap.size w2 W'→KB P W0.heap.size W W'):=fun w2 W' h1 h2 k hk H8=>(h2 k hk H8).trans (h1.block k (jC hk M2.out))
  have UW:Hid (∀ (w2 W' : World),Below W.heap.size W w2→Below w.heap.size w2 W'→Below w.heap.size W0 W'):=fun w2 W' h1 h2=>(Hj.trans (h1.mono (jM Gq.out.size Hj.size))).trans h2
  have hc:=hv0.cell;have HP2:Hid (w.heap.size≤P):=HP.out;generalize zDC (zCj n zs x.1)=R at *;obtain⟨o,h,lo,cl,qt⟩:=R;have C2:Hid (∀V,Below W.heap.size W V→Calls prog 23 #[.slice (some ⟨b,off+x.1*6,none⟩) (min n (len - x.1)) (min n (len - x.1))] V fun e w'=>e=.returned (.agg #[.int .i64 o,.int .i64 h,.int .i64 lo,.int .i64 cl,.int .i64 qt])∧Below W.heap.size W w'):=HBO.out
  clear HBO;have Mt:=hidT U9;have HAC:=hidT Ek;clear Ek U9 hx G7 EZ hv0 B8 Hj Pw hq Pj hn BZ;generalize min n (len - x.1)=ee at *
  gi_wp2
  refine wpIn_region_any (by kernel_rfl) ?_
  try (change wpAnyIn _ _ _ _ _ _ _ _ _ (World.drew _))
  refine wpAnyIn_ready (rs:=[0,1]) (by kernel_rfl) (by simp) ?_
  refine AllReadyIn.cons rfl (fun K hK=>?_) ?_
  ·go_simp
   refine hK _ _ ?_;clear hK K;refine wpAnyIn_ready (rs:=[1]) (by kernel_rfl) (by simp) ?_
   refine AllReadyIn.cons rfl (fun K hK=>?_) ?_
   ·go_simp
    refine hK _ _ ?_;clear hK K;refine wpAnyIn_ready (rs:=[2]) (by kernel_rfl) (by simp) ?_
    refine AllReadyIn.cons rfl (fun K hK=>?_) ?_
    ·go_simp
     gi_wp2_with (refine⟨trivial,?_⟩;gi_at_call 23;refine(CallsIn.inRound l (callsIn_wide.2 (C2.out _ (bzR _ W).drew))).mono ?_;rintro e W2 ⟨rfl,Ha⟩)
     have mA:Hid (Boxed W2 P 43 v):=(Ha.block P hv.out.lt).trans hv.out;have Ga:=hidT (Hd.out.kept (gr_of Ha) (Classical.em _));have mT:=mA.out.cell;have dE:=fun o=>(mA.out.alloc o).cell
     refine wpAnyIn_ready (rs:=[3]) (by kernel_rfl) (by simp) ?_
     refine AllReadyIn.cons rfl (fun K hK=>?_) ?_
     ·go_simp
      refine hK _ _ ?_;clear hK K;refine wpAnyIn_ready (rs:=[4]) (by kernel_rfl) (by simp) ?_
      refine AllReadyIn.cons rfl (fun K hK=>?_) ?_
      ·refine zBk rfl _ _ 43 rfl W0.heap.size 47 i0 zKp 5 40 underlying43 HI.out gE gu gA rfl (by decide) v _ _ rfl (Ga.out.alloc _) ⟨W2.heap.size,0,none⟩ 1 1 [.int .i64 o,.int .i64 h,.int .i64 lo,.int .i64 cl,.int .i64 qt] rfl rfl (new5 W2 _ _) (one5 _ _ _ _ _) uw.out.1 uw.out.2 (jM (jM M2.out Ha.size) (World.grownBy_alloc W2 _ none).size) ?_
       intro v' w5 gS gC _;obtain⟨g',cap',rfl⟩:=ownsRow_succ gS;obtain⟨PC,CY,CT,Pi,mW,mS⟩:=zDm mA.out (by decide) Ga.out (jM M2.out Ha.size) HP.out Gq.out.size gS gC
       have hc5:=PC.cell;have hf5:=PC.frozen;refine hK _ _ ?_;clear hK K mT dE;refine wpAnyIn_ready (rs:=[5]) (by kernel_rfl) (by simp) ?_
       refine AllReadyIn.cons rfl (fun K hK=>?_) ?_
       ·go_simp
        refine hK _ _ ?_;clear hK K;refine wpAnyIn_done (by kernel_rfl) ?_ _
        exact⟨(HKO.out _ _ Ha Pi).from _,ug.out _ _ Ha mW,⟨_,CY,by rw[Mt.out,HAC.out];exact CT⟩,UW.out _ _ Ha mS⟩
       exact AllReadyIn.nil
      exact AllReadyIn.nil
     exact AllReadyIn.nil
    exact AllReadyIn.nil
   exact AllReadyIn.nil
  refine AllReadyIn.cons rfl (fun K hK=>?_) ?_
  ·go_simp
   refine hK _ _ ?_;clear hK K;refine wpAnyIn_ready (rs:=[0,2]) (by kernel_rfl) (by simp) ?_
   refine AllReadyIn.cons rfl (fun K hK=>?_) ?_
   ·go_simp
    refine hK _ _ ?_;clear hK K;refine wpAnyIn_ready (rs:=[2]) (by kernel_rfl) (by simp) ?_
    refine AllReadyIn.cons rfl (fun K hK=>?_) ?_
    ·go_simp
     gi_wp2_with (refine⟨trivial,?_⟩;gi_at_call 23;refine(CallsIn.inRound l (callsIn_wide.2 (C2.out _ (bzR _ W).drew))).mono ?_;rintro e W2 ⟨rfl,Ha⟩)
     have mA:Hid (Boxed W2 P 43 v):=(Ha.block P hv.out.lt).trans hv.out;have Ga:=hidT (Hd.out.kept (gr_of Ha) (Classical.em _));have mT:=mA.out.cell;have dE:=fun o=>(mA.out.alloc o).cell
     refine wpAnyIn_ready (rs:=[3]) (by kernel_rfl) (by simp) ?_
     refine AllReadyIn.cons rfl (fun K hK=>?_) ?_
     ·go_simp
      refine hK _ _ ?_;clear hK K;refine wpAnyIn_ready (rs:=[4]) (by kernel_rfl) (by simp) ?_
      refine AllReadyIn.cons rfl (fun K hK=>?_) ?_
      ·refine zBk rfl _ _ 43 rfl W0.heap.size 47 i0 zKp 5 40 underlying43 HI.out gE gu gA rfl (by decide) v _ _ rfl (Ga.out.alloc _) ⟨W2.heap.size,0,none⟩ 1 1 [.int .i64 o,.int .i64 h,.int .i64 lo,.int .i64 cl,.int .i64 qt] rfl rfl (new5 W2 _ _) (one5 _ _ _ _ _) uw.out.1 uw.out.2 (jM (jM M2.out Ha.size) (World.grownBy_alloc W2 _ none).size) ?_
       intro v' w5 gS gC _;obtain⟨g',cap',rfl⟩:=ownsRow_succ gS;obtain⟨PC,CY,CT,Pi,mW,mS⟩:=zDm mA.out (by decide) Ga.out (jM M2.out Ha.size) HP.out Gq.out.size gS gC
       have hc5:=PC.cell;have hf5:=PC.frozen;refine hK _ _ ?_;clear hK K mT dE;refine wpAnyIn_ready (rs:=[5]) (by kernel_rfl) (by simp) ?_
       refine AllReadyIn.cons rfl (fun K hK=>?_) ?_
       ·go_simp
        refine hK _ _ ?_;clear hK K;refine wpAnyIn_done (by kernel_rfl) ?_ _
        exact⟨(HKO.out _ _ Ha Pi).from _,ug.out _ _ Ha mW,⟨_,CY,by rw[Mt.out,HAC.out];exact CT⟩,UW.out _ _ Ha mS⟩
       exact AllReadyIn.nil
      exact AllReadyIn.nil
     exact AllReadyIn.nil
    exact AllReadyIn.nil
   refine AllReadyIn.cons rfl (fun K hK=>?_) ?_
   ·go_simp
    gi_wp2_with (refine⟨trivial,?_⟩;gi_at_call 23;refine(CallsIn.inRound l (callsIn_wide.2 (C2.out _ (bzR _ W).drew))).mono ?_;rintro e W2 ⟨rfl,Ha⟩)
    have mA:Hid (Boxed W2 P 43 v):=(Ha.block P hv.out.lt).trans hv.out;have Ga:=hidT (Hd.out.kept (gr_of Ha) (Classical.em _));have mT:=mA.out.cell;have dE:=fun o=>(mA.out.alloc o).cell
    refine wpAnyIn_ready (rs:=[0,3]) (by kernel_rfl) (by simp) ?_
    refine AllReadyIn.cons rfl (fun K hK=>?_) ?_
    ·go_simp
     refine hK _ _ ?_;clear hK K;refine wpAnyIn_ready (rs:=[3]) (by kernel_rfl) (by simp) ?_
     refine AllReadyIn.cons rfl (fun K hK=>?_) ?_
     ·go_simp
      refine hK _ _ ?_;clear hK K;refine wpAnyIn_ready (rs:=[4]) (by kernel_rfl) (by simp) ?_
      refine AllReadyIn.cons rfl (fun K hK=>?_) ?_
      ·refine zBk rfl _ _ 43 rfl W0.heap.size 47 i0 zKp 5 40 underlying43 HI.out gE gu gA rfl (by decide) v _ _ rfl (Ga.out.alloc _) ⟨W2.heap.size,0,none⟩ 1 1 [.int .i64 o,.int .i64 h,.int .i64 lo,.int .i64 cl,.int .i64 qt] rfl rfl (new5 W2 _ _) (one5 _ _ _ _ _) uw.out.1 uw.out.2 (jM (jM M2.out Ha.size) (World.grownBy_alloc W2 _ none).size) ?_
       intro v' w5 gS gC _;obtain⟨g',cap',rfl⟩:=ownsRow_succ gS;obtain⟨PC,CY,CT,Pi,mW,mS⟩:=zDm mA.out (by decide) Ga.out (jM M2.out Ha.size) HP.out Gq.out.size gS gC
       have hc5:=PC.cell;have hf5:=PC.frozen;refine hK _ _ ?_;clear hK K mT dE;refine wpAnyIn_ready (rs:=[5]) (by kernel_rfl) (by simp) ?_
       refine AllReadyIn.cons rfl (fun K hK=>?_) ?_
       ·go_simp
        refine hK _ _ ?_;clear hK K;refine wpAnyIn_done (by kernel_rfl) ?_ _
        exact⟨(HKO.out _ _ Ha Pi).from _,ug.out _ _ Ha mW,⟨_,CY,by rw[Mt.out,HAC.out];exact CT⟩,UW.out _ _ Ha mS⟩
       exact AllReadyIn.nil
      exact AllReadyIn.nil
     exact AllReadyIn.nil
    refine AllReadyIn.cons rfl (fun K hK=>?_) ?_
    ·go_simp
     refine hK _ _ ?_;clear hK K;refine wpAnyIn_ready (rs:=[0]) (by kernel_rfl) (by simp) ?_
     refine AllReadyIn.cons rfl (fun K hK=>?_) ?_
     ·go_simp
      refine hK _ _ ?_;clear hK K;refine wpAnyIn_ready (rs:=[4]) (by kernel_rfl) (by simp) ?_
      refine AllReadyIn.cons rfl (fun K hK=>?_) ?_
      ·refine zBk rfl _ _ 43 rfl W0.heap.size 47 i0 zKp 5 40 underlying43 HI.out gE gu gA rfl (by decide) v _ _ rfl (Ga.out.alloc _) ⟨W2.heap.size,0,none⟩ 1 1 [.int .i64 o,.int .i64 h,.int .i64 lo,.int .i64 cl,.int .i64 qt] rfl rfl (new5 W2 _ _) (one5 _ _ _ _ _) uw.out.1 uw.out.2 (jM (jM M2.out Ha.size) (World.grownBy_alloc W2 _ none).size) ?_
       intro v' w5 gS gC _;obtain⟨g',cap',rfl⟩:=ownsRow_succ gS;obtain⟨PC,CY,CT,Pi,mW,mS⟩:=zDm mA.out (by decide) Ga.out (jM M2.out Ha.size) HP.out Gq.out.size gS gC
       have hc5:=PC.cell;have hf5:=PC.frozen;refine hK _ _ ?_;clear hK K mT dE;refine wpAnyIn_ready (rs:=[5]) (by kernel_rfl) (by simp) ?_
       refine AllReadyIn.cons rfl (fun K hK=>?_) ?_
       ·go_simp
        refine hK _ _ ?_;clear hK K;refine wpAnyIn_done (by kernel_rfl) ?_ _
        exact⟨(HKO.out _ _ Ha Pi).from _,ug.out _ _ Ha mW,⟨_,CY,by rw[Mt.out,HAC.out];exact CT⟩,UW.out _ _ Ha mS⟩
       exact AllReadyIn.nil
      exact AllReadyIn.nil
     exact AllReadyIn.nil
    exact AllReadyIn.nil
   exact AllReadyIn.nil
  exact AllReadyIn.nil
 case done=>
  rintro D ys W hD hys⟨⟨v,hv,Hd⟩,hB⟩ hK;have hc:=hv.cell
  gi_wp2
  refine⟨by simp,.inl ⟨_,_,rfl,run_takeDeferred hK,?_⟩⟩
  refine⟨_,results_tmp2 rfl _ _ _,v,rfl,?_,(Gq.out.trans hB).trans (belowK_b (w:=W0) Gq.out.size W D _ _ hD hK rfl rfl)⟩;have hr:=ownsRow_putObj Hd (.deferred none) hK rfl;have e1:zAZ n zs (beg ys)=zAH zs n:=by rw[hys,←HN.out];rfl
  have e2:ys.length=(zAZ n zs (beg ys)).length:=by simp[zAZ,beg]
  rw[e2,e1] at hr;exact zNj hr
 case stop=>
  rintro D cc pre W _ _ hx _;exact hx.elim
theorem zNl(q:Option Addr)(c:Nat)(zs:List T)(n:Int)(w:World)(h:TL w (.slice q zs.length c) zs)(h0:¬bchk zs=0) :
  Calls prog 8 #[.slice q zs.length c,.int .i64 n] w fun e w'=>e=.returned (.tuple #[.slice none 0 0,errV (bchk zs)])∧Bw w w':=by
 have HC:=hidT (wAf _ zs w h);rw[wAb h0] at HC ⊢;clear h h0;generalize bchk zs=k at *;generalize zs.length=len at *;refine(callsIn_wide (n:=5)).1 ?_;refine callsIn_of_wp_marks func8 rfl trivial ?_ rfl;simp only[ntmps8,List.size_toArray,jG,List.length_nil,Nat.reduceAdd,Nat.reduceSub,Array.replicate_succ,Array.replicate_zero,List.push_toArray,List.append_toArray,jU,List.cons_append]
 gi_wp2_with (refine⟨trivial,?_⟩;gi_at_call 20;refine(callsIn_wide.2 HC.out).mono ?_;rintro e w1 ⟨rfl,Hc⟩)
 exact⟨_,results_tmp2 rfl _ _ _,rfl,Hc⟩
theorem zNm(q:Option Addr)(c:Nat)(zs:List T)(n:Int)(w:World)(h:TL w (.slice q zs.length c) zs)(h0:bchk zs=0)(hn:¬(1≤n∧n≤400)) :
  Calls prog 8 #[.slice q zs.length c,.int .i64 n] w fun e w'=>e=.returned (.tuple #[.slice none 0 0,.iface 90 (.int .i64 1)])∧Bw w w':=by
 have HC:=hidT (wAf _ zs w h);rw[h0,wAa] at HC;have Ui:=hidT (fun V=>zAY n 1 400 V)
 have HR:Hid ([(n,1,400)].any zAl=true):=by
  show _=true
  simp[zAl];omega
 clear h h0 hn;generalize zs.length=len at *;refine(callsIn_wide (n:=5)).1 ?_;refine callsIn_of_wp_marks func8 rfl trivial ?_ rfl;simp only[ntmps8,List.size_toArray,jG,List.length_nil,Nat.reduceAdd,Nat.reduceSub,Array.replicate_succ,Array.replicate_zero,List.push_toArray,List.append_toArray,jU,List.cons_append]
 gi_wp2_with (first|(refine⟨trivial,?_⟩;gi_at_call 20;refine(callsIn_wide.2 HC.out).mono ?_;rintro e w1 ⟨rfl,Hc⟩)|(refine⟨trivial,?_⟩;gi_at_call 21;refine(callsIn_wide.2 (Ui.out _)).mono ?_;rintro e w2 ⟨rfl,Ha⟩)|(refine⟨trivial,?_⟩;gi_at_call 11;refine(callsIn_wide.2 (scheck1 true _ _ _ _ _ rfl HR.out)).mono ?_;rintro e w3 ⟨rfl,Hr⟩;simp only[show errV (zAd true)=.iface 90 (.int .i64 1) from rfl]))
 exact⟨_,results_tmp2 rfl _ _ _,rfl,(Hc.trans (Ha.mono Hc.size)).trans (Hr.mono (jM Hc.size Ha.size))⟩
theorem zJd(v:Value)(zs:List T)(n:Int)(w:World)(h:TL w v zs) :
  Calls prog 8 #[v,.int .i64 n] w fun e w'=>
   ∃v',e=.returned (.tuple #[v',errV (zGm zs n)])∧BL w' v' (if zGm zs n=0 then zAH zs n.toNat else [])∧Bw w w':=by
 obtain⟨q,c,rfl,h1,h2⟩:=h.form;unfold zGm;by_cases h0:bchk zs=0
 ·by_cases hn:1≤n∧n≤400
  ·obtain⟨m,rfl⟩:∃m:Nat,n=m:=⟨n.toNat,by omega⟩
   refine(zNk q c zs m w h h0 (by omega) (by omega)).mono ?_
   rintro e w'⟨v',rfl,h3,h4⟩;refine⟨v',by simp[h0,hn,wAa],by simpa [h0,hn] using h3,h4⟩
  ·refine(zNm q c zs n w h h0 hn).mono ?_;rintro e w'⟨rfl,h4⟩;exact⟨.slice none 0 0,by simp[h0,hn,errV],by simpa [h0,hn] using .inl ⟨rfl,rfl⟩,h4⟩
 ·refine(zNl q c zs n w h h0).mono ?_;rintro e w'⟨rfl,h4⟩;exact⟨.slice none 0 0,by simp[h0],by simpa [h0] using .inl ⟨rfl,rfl⟩,h4⟩
end bar
end Go.Proofs.YtnfilcpnneckkaaGreat
