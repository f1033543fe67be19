import Derived.Test.YtnfilcpnneckkaaGreatBokRests
set_option maxHeartbeats 4000000
set_option maxRecDepth 100000
namespace Go.Proofs.YtnfilcpnneckkaaGreat
open Tryz
namespace bok
open Go.RowKit spn que sid Go.Maps
def rsD(r:R):DataW Unit:=.agg [.lit (.int .i64 r.id),.lit (.int .i64 r.who),.lit (.int .i64 r.qty),.lit (.int .i64 r.hid),.lit (.int .i64 r.shw)]
def rsR(v:Value):Option (DataW Unit × List MemPlace):=
 match v with
 | .agg a=>match a.toList with
  | [.int .i64 x0,.int .i64 x1,.int .i64 x2,.int .i64 x3,.int .i64 x4]=>some (rsD ⟨x0,x1,x2,x3,x4⟩,[])
  | _=>none
 | _=>none
theorem rsR_mk(a b c d e:Int):rsR (.agg #[.int .i64 a,.int .i64 b,.int .i64 c,.int .i64 d,.int .i64 e])=some (rsD ⟨a,b,c,d,e⟩,[]):=rfl
def mapR(zs:List R):DataW Unit:=zs.foldl (fun D x=>D.put (.int .i64 x.id) (rsD x)) (.map [])
theorem zCo(zs:List R)(x:R):mapR (zs++[x])=(mapR zs).put (.int .i64 x.id) (rsD x):=by unfold mapR;rw[List.foldl_append];rfl
theorem zEj(zs:List R):Tidy (mapR zs):=by
 induction zs using zCb with
 | nil=>exact tidy_empty
 | snoc zs x ih=>rw[zCo];exact ih.put (zKL _) _
theorem zNX(zs:List R)(id:Int):Maps.has (mapR zs) (.int .i64 id)=zs.any (fun x=>decide (x.id=id)):=by
 induction zs using zCb with
 | nil=>rfl
 | snoc zs x ih=>
  rw[zCo,List.any_append];by_cases h:x.id=id
  ·rw[←h,has_put_same (zEj zs).isMap (zKL _)];simp
  ·rw[has_put_other (by simp;exact fun e=>h e.symm),ih];simp[h]
theorem zLk(zs:List R):Maps.size (mapR zs)≤zs.length:=by
 induction zs using zCb with
 | nil=>exact nzR _
 | snoc zs x ih=>rw[zCo,size_put (zEj zs)];simp;split <;>omega
theorem zLl(zs:List R):Maps.size (mapR zs)=zs.length↔(zs.map (·.id)).Nodup:=by
 induction zs using zCb with
 | nil=>simp[mapR,Maps.size]
 | snoc zs x ih=>
  rw[zCo,size_put (zEj zs),zNX];have Gh:=zLk zs;rw[jF,List.nodup_append,jE];by_cases h:zs.any (fun y=>decide (y.id=x.id))=true
  ·rw[if_pos h];constructor
   ·intro e;simp at e;omega
   ·rintro⟨-,-,h3⟩;obtain⟨y,hy,e⟩:=List.any_eq_true.1 h;exact absurd (of_decide_eq_true e) (h3 y.id (List.mem_map.2 ⟨y,hy,rfl⟩) x.id (by simp))
  ·rw[if_neg h];constructor
   ·intro e;refine⟨ih.1 (by simp at e;omega),by simp,?_⟩
    intro a ha b hb e2;obtain⟨y,hy,rfl⟩:=List.mem_map.1 ha;simp at hb;exact h (List.any_eq_true.2 ⟨y,hy,by simp[e2,hb]⟩)
   ·rintro⟨h1,-,-⟩;rw[ih.2 h1];simp
def OwnR(W:World)(B:Nat)(zs:List R):Prop:=W.ownsMap prog 3 rsR B zs.length (mapR zs)
theorem OwnR.snoc{W:World}{B:Nat}{zs:List R}{x:R}(h:W.ownsMap prog 3 rsR B (zs.length+1) ((mapR zs).put (.int .i64 x.id) (rsD x))):OwnR W B (zs++[x]):=by
 unfold OwnR;rw[zCo,jE];exact h
def zAM(zs:List R):Bool:=decide (¬(zs.map (·.id)).Nodup)
theorem zJr(zs:List R):decide ((Maps.size (mapR zs):Int)<(zs.length:Int))=zAM zs:=by
 have h1:=zLk zs;have h2:=zLl zs;unfold zAM;by_cases h:(zs.map (·.id)).Nodup
 ·have:=h2.2 h;rw[decide_eq_false (by omega),decide_eq_false (by simp[h])]
 ·have:¬Maps.size (mapR zs)=zs.length:=fun e=>h (h2.1 e)
  rw[decide_eq_true (by omega),decide_eq_true h]
theorem zJs(b o c:Nat)(zs:List R)(w:World)(hb:b<w.heap.size)(hl:Lies w b o zs)(GT:∀r∈zs,(Lit.int .i64 r.id).wf=true)(hn:zs.length≤1000) :
  Calls prog 120 #[.slice (some ⟨b,o,none⟩) zs.length c] w fun e w'=>e=.returned (.bool (zAM zs))∧Bw w w':=by
 have HL:Hid (Lies w b o zs):=hl;have Bq:Hid (∀r∈zs,(Lit.int .i64 r.id).wf=true):=GT;have HT:Hid (decide ((Maps.size (mapR zs):Int)<(zs.length:Int))=zAM zs):=zJr zs;generalize zAM zs=tw at *;generalize hN:zs.length=n at *;have HN:Hid (zs.length=n):=hN;clear hl GT hN;have mz:=@run_makeMap prog;go_enter func120,ntmps120;go_wp2_with fail;go_loopg [5,9] n (fun gg _ s9 wr=>∃kk:Nat,kk≤n∧n - kk≤gg∧s9=.int .i64 kk∧Aside (Below w.heap.size w wr)∧Aside (OwnR wr w.heap.size (zs.take kk)))
 case atStart=>exact⟨0,jL _,by omega,rfl,(bzR _ _).alloc (nzR _) _,World.ownsMap_made _ _ _ _⟩
 case round=>
  obtain⟨kk,gd,hg,rfl,BW,OW⟩:=hrel;by_cases Hi:kk<n
  ·have Hp:(kk:Int)<(n:Int):=by omega
   have Hs:kk<zs.length:=by rw[HN.out];exact Hi
   have gR:¬((kk:Int)<0):=by omega
   have MI:b<wr.heap.size:=jC hb BW.out.size;obtain⟨r,hr⟩:∃r,zs[kk]! = r:=⟨_,rfl⟩;obtain⟨r1,r2,r3,r4,r5⟩:=r;obtain⟨d0,d1,d2,d3,d4⟩:=zCn (HL.out.below hb BW.out) Hs hr;have kd:(Lit.int .i64 r1).wf=true:=by
    have:=Bq.out zs[kk]! (by rw[getE _ _ Hs];exact jT Hs)
    rw[hr] at this;exact this
   have G6:keyOf prog 3 (.int .i64 r1)=some (.int .i64 r1):=keyOf_int_mk underlying3 kd;have Ua:Hid (zs.take (kk+1)=zs.take kk++[⟨r1,r2,r3,r4,r5⟩]):=by
    show _=_
    rw[zDX Hs,hr]
   have Ug:(zs.take kk).length<maxLen:=by rw[jJ];unfold maxLen;omega
   have Hg:Hid (Bw w (wr.alloc (.cells #[.int .i64 r1,.int .i64 r2,.int .i64 r3,.int .i64 r4,.int .i64 r5] 51))):=BW.out.alloc BW.out.size _;have Gv:Hid ((wr.alloc (.cells #[.int .i64 r1,.int .i64 r2,.int .i64 r3,.int .i64 r4,.int .i64 r5] 51)).ownsMap prog 3 rsR w.heap.size (zs.take kk).length (mapR (zs.take kk))):=World.ownsMap.alloc OW.out _;clear hr kd;generalize GC:zs.take kk=PS at *;go_wp2_with (at_mapUpdate;refine wpList_mapUpdate_own _ rfl _ _ _ 222 rfl 3 51 lawI underlying222 rsR w.heap.size PS.length (mapR PS) rfl Gv.out Ug _ _ _ rfl rfl G6 _ [] (rsR_mk _ _ _ _ _) ?_;intro w1 uj uR)
   have H1:Hid (OwnR w1 w.heap.size (zs.take (kk+1))):=by
    rw[Ua.out];exact OwnR.snoc uj
   have H2:Hid (Bw w w1):=Hg.out.grown uR Hg.out.size (fun k hk=>by cases hk;exact nzR _)
   clear uj uR Hg Gv;go_wp2_with fail;go_roundg (n - (kk+1))
   case measure=>omega
   case rel=>exact⟨kk+1,by omega,by omega,by go_num,H2.out,H1.out⟩
  ·have Hp:¬(kk:Int)<(n:Int):=by omega
   have Hk:wr.ownsMap prog 3 rsR w.heap.size zs.length (mapR zs):=by
    have:=OW.out
    rwa [List.take_of_length_le (by rw[HN.out];omega)] at this
   obtain⟨z,hz⟩:∃z,z=Maps.size (mapR zs):=⟨_,rfl⟩;have ur:=hz.symm;have GV:Hid (decide ((z:Int)<(n:Int))=tw):=by rw[hz];exact HT.out
   clear hz;generalize mapR zs=MR at Hk ur;go_wp2_with (at_len;refine wpList_len_own _ rfl _ 222 rfl 3 51 underlying222 rsR w.heap.size _ _ rfl Hk ?_;rw[ur])
   go_ret;refine⟨?_,BW.out⟩;rw[←GV.out];simp
theorem zLm(w:World) :
  Calls prog 120 #[.slice none 0 0] w fun e w'=>e=.returned (.bool false)∧Bw w w':=by
 have mz:=@run_makeMap prog;go_enter func120,ntmps120;go_wp2_with fail;have Hk:(w.alloc (.map #[] 0)).ownsMap prog 3 rsR w.heap.size 0 (.map []):=World.ownsMap_made _ _ _ _;have hB:Bw w (w.alloc (.map #[] 0)):=(bzR _ _).alloc (nzR _) _;have ur:Maps.size (.map []:DataW Unit)=0:=rfl;generalize w.alloc (.map #[] 0)=V at *;go_loopg [5,9] 0 (fun _ _ s9 wr=>s9=.int .i64 0∧wr=V)
 case atStart=>exact⟨rfl,rfl⟩
 case round=>
  obtain⟨rfl,rfl⟩:=hrel;go_wp2_with (at_len;refine wpList_len_own _ rfl _ 222 rfl 3 51 underlying222 rsR w.heap.size _ _ rfl Hk ?_;rw[ur])
  go_ret;exact⟨rfl,hB⟩
theorem zLn(v:Value)(zs:List R)(w:World)(h:SL w v zs)(GT:∀r∈zs,(Lit.int .i64 r.id).wf=true)(hn:zs.length≤1000) :
  Calls prog 120 #[v] w fun e w'=>e=.returned (.bool (zAM zs))∧Bw w w':=by
 rcases h with ⟨rfl,rfl⟩|⟨b,o,c,rfl,h2,h3,h4,h5⟩
 ·exact zLm w
 ·exact zJs b o c zs w h4 h5 GT hn
end bok
namespace bok
open Go.RowKit spn que sid
def zAc(bs ss:List L):Int:=
 if schk 1 bs=0 then (if schk 2 ss=0 then (if zBv bs ss=true then 8 else if zAM (allR bs++allR ss)=true then 7 else if 60<(allR bs++allR ss).length then 4 else 0) else schk 2 ss) else schk 1 bs
theorem zBg{s:Int}{ls:List L}(h:schk s ls=0):∀l∈ls,l.rests≠[]:=fun l hl=>(zAf (zAs (zAe h).2.1 l hl)).2.1
theorem zHK{s:Int}{ls:List L}(h:schk s ls=0):∀r∈allR ls,(Lit.int .i64 r.id).wf=true:=fun r hr=>by
 obtain⟨l,hl,MT⟩:=List.mem_flatMap.1 hr;exact id_wf (zAf (zAs (zAe h).2.1 l hl)).2.2 MT
theorem zCD{s:Int}{ls:List L}(h:schk s ls=0):(allR ls).length≤60:=by
 have:=(zAe h).2.2.1;rw[zAQ] at this;omega
theorem wAf(q1 q2:Option Addr)(n1 n2 c1 c2:Nat)(bs ss:List L)(w:World)(h1:LS w (.slice q1 n1 c1) bs)(h2:LS w (.slice q2 n2 c2) ss) :
  Calls prog 80 #[.agg #[.slice q1 n1 c1,.slice q2 n2 c2]] w fun e w'=>e=.returned (errV (zAc bs ss))∧Bw w w':=by
 have H1:Hid (∀W,Bw w W→LS W (.slice q1 n1 c1) bs):=fun W hW=>h1.below hW
 have H2:Hid (∀W,Bw w W→LS W (.slice q2 n2 c2) ss):=fun W hW=>h2.below hW
 obtain⟨V,hV⟩:∃V,V=w.alloc (.cells #[.slice q1 n1 c1,.slice q2 n2 c2] 57):=⟨_,rfl⟩;have hB:Bw w V:=by rw[hV];exact(bzR _ _).alloc (nzR _) _
 have hR:V.heap[w.heap.size]?=some (.cells #[.slice q1 n1 c1,.slice q2 n2 c2] 57 (0,0)):=by rw[hV];exact jA w _
 have v0:V.cell? ⟨w.heap.size,0,none⟩=some (.slice q1 n1 c1):=by simp[World.cell?,hR]
 have v1:V.cell? ⟨w.heap.size,1,none⟩=some (.slice q2 n2 c2):=by simp[World.cell?,hR]
 have gp:w.heap.size<V.heap.size:=(gzE.1 hR).1;have HB:Hid (Bw w V):=hB;have UH:=fun W(hW:Bw w W)=>zEf 1 _ bs W (H1.out W hW)
 have GY:=fun W(hW:Bw w W)=>zEf 2 _ ss W (H2.out W hW)
 clear h1 h2 hB hR;by_cases e1:schk 1 bs=0
 ·rw[e1,wAa] at UH;by_cases e2:schk 2 ss=0
  ·rw[e2,wAa] at GY;have MX:=fun W(hW:Bw w W)=>zHJ q1 q2 n1 n2 c1 c2 bs ss W (H1.out W hW) (H2.out W hW)
   cases hx:zBv bs ss
   ·rw[hx] at MX;have uG:Hid (∀W,Bw w W→Calls prog 119 #[.agg #[.slice q1 n1 c1,.slice q2 n2 c2]] W fun e w'=>∃v,e=.returned v∧OwnQ w' W.heap.size v (allR bs++allR ss)∧Bw W w'):=fun W hW=>zLj q1 q2 n1 n2 c1 c2 bs ss W (H1.out W hW) (H2.out W hW) (zBg e1) (zBg e2) (zAe e1).2.2.1 (zAe e2).2.2.1
    have Bq:Hid (∀r∈allR bs++allR ss,(Lit.int .i64 r.id).wf=true):=fun r hr=>(List.mem_append.1 hr).elim (zHK e1 r) (zHK e2 r)
    have Hh:(allR bs++allR ss).length≤120:=(by have:=zCD e1;have:=zCD e2;rw[jE];omega);have hE:zAc bs ss=if zAM (allR bs++allR ss)=true then 7 else if 60<(allR bs++allR ss).length then 4 else 0:=by unfold zAc;rw[if_pos e1,if_pos e2,if_neg (by rw[hx];simp)]
    rw[hE];clear hE hx e1 e2 H1 H2;generalize allR bs++allR ss=AR at *;have PJ:=fun W v(hW:SL W v AR)=>zLn v AR W hW Bq.out (by omega)
    generalize zAM AR=tw at *;cases tw
    ·rw[if_neg (by simp)]
     by_cases GF:60<AR.length
     ·rw[if_pos GF,wAb (by omega)]
      go_enter func80,ntmps80;go_wp2_with fail;rw[←hV];refine(UH V HB.out).mono ?_;rintro e w1⟨rfl,b1⟩;have He:Hid (Bw w w1):=HB.out.trans (b1.mono HB.out.size);have x0:=zAa b1 v0;have x1:=zAa b1 v1;have Hl:w.heap.size<w1.heap.size:=jC gp b1.size;clear b1 v0 v1 UH;go_wp2_with fail;refine(GY w1 He.out).mono ?_;rintro e w2⟨rfl,b2⟩;have Hg:Hid (Bw w w2):=He.out.trans (b2.mono He.out.size);have y0:=zAa b2 x0;have y1:=zAa b2 x1;have H9:w.heap.size<w2.heap.size:=jC Hl b2.size;clear b2 x0 x1 GY;go_wp2_with fail;refine(MX w2 Hg.out).mono ?_;rintro e w3⟨rfl,b3⟩;have HU:Hid (Bw w w3):=Hg.out.trans (b3.mono Hg.out.size);have z0:=zAa b3 y0;have z1:=zAa b3 y1;have UU:w.heap.size<w3.heap.size:=jC H9 b3.size;clear b3 y0 y1 MX;go_wp2_with fail;refine(uG.out w3 HU.out).mono ?_;rintro e w4⟨v,rfl,hO,b4⟩;have Gi:Hid (Bw w w4):=HU.out.trans (b4.mono HU.out.size)
      obtain⟨q4,c4,rfl⟩:=OwnM.form hO;have mn:Hid (SL w4 (.slice q4 AR.length c4) AR):=OwnQ.sl hO;clear b4 z0 z1 uG hO;go_wp2_with fail;refine(PJ w4 _ mn.out).mono ?_;rintro e w5⟨rfl,b5⟩;have GX:Hid (Bw w w5):=Gi.out.trans (b5.mono Gi.out.size);clear b5 PJ;generalize AR.length=m at *;have hm:(60:Int)<(m:Int):=(by omega);go_wp2_with fail;go_ret;exact⟨rfl,GX.out⟩
     ·rw[if_neg GF,wAa];go_enter func80,ntmps80;go_wp2_with fail;rw[←hV];refine(UH V HB.out).mono ?_;rintro e w1⟨rfl,b1⟩;have He:Hid (Bw w w1):=HB.out.trans (b1.mono HB.out.size);have x0:=zAa b1 v0;have x1:=zAa b1 v1;have Hl:w.heap.size<w1.heap.size:=jC gp b1.size;clear b1 v0 v1 UH;go_wp2_with fail;refine(GY w1 He.out).mono ?_;rintro e w2⟨rfl,b2⟩;have Hg:Hid (Bw w w2):=He.out.trans (b2.mono He.out.size);have y0:=zAa b2 x0;have y1:=zAa b2 x1;have H9:w.heap.size<w2.heap.size:=jC Hl b2.size;clear b2 x0 x1 GY;go_wp2_with fail;refine(MX w2 Hg.out).mono ?_;rintro e w3⟨rfl,b3⟩;have HU:Hid (Bw w w3):=Hg.out.trans (b3.mono Hg.out.size);have z0:=zAa b3 y0;have z1:=zAa b3 y1;have UU:w.heap.size<w3.heap.size:=jC H9 b3.size;clear b3 y0 y1 MX;go_wp2_with fail;refine(uG.out w3 HU.out).mono ?_;rintro e w4⟨v,rfl,hO,b4⟩
      have Gi:Hid (Bw w w4):=HU.out.trans (b4.mono HU.out.size);obtain⟨q4,c4,rfl⟩:=OwnM.form hO;have mn:Hid (SL w4 (.slice q4 AR.length c4) AR):=OwnQ.sl hO;clear b4 z0 z1 uG hO;go_wp2_with fail;refine(PJ w4 _ mn.out).mono ?_;rintro e w5⟨rfl,b5⟩;have GX:Hid (Bw w w5):=Gi.out.trans (b5.mono Gi.out.size);clear b5 PJ;generalize AR.length=m at *;have hm:¬(60:Int)<(m:Int):=(by omega);go_wp2_with fail;go_ret;exact⟨rfl,GX.out⟩
    ·rw[if_pos rfl,wAb (by omega)]
     go_enter func80,ntmps80;go_wp2_with fail;rw[←hV];refine(UH V HB.out).mono ?_;rintro e w1⟨rfl,b1⟩;have He:Hid (Bw w w1):=HB.out.trans (b1.mono HB.out.size);have x0:=zAa b1 v0;have x1:=zAa b1 v1;have Hl:w.heap.size<w1.heap.size:=jC gp b1.size;clear b1 v0 v1 UH;go_wp2_with fail;refine(GY w1 He.out).mono ?_;rintro e w2⟨rfl,b2⟩;have Hg:Hid (Bw w w2):=He.out.trans (b2.mono He.out.size);have y0:=zAa b2 x0;have y1:=zAa b2 x1;have H9:w.heap.size<w2.heap.size:=jC Hl b2.size;clear b2 x0 x1 GY;go_wp2_with fail;refine(MX w2 Hg.out).mono ?_;rintro e w3⟨rfl,b3⟩;have HU:Hid (Bw w w3):=Hg.out.trans (b3.mono Hg.out.size);have z0:=zAa b3 y0;have z1:=zAa b3 y1;have UU:w.heap.size<w3.heap.size:=jC H9 b3.size;clear b3 y0 y1 MX;go_wp2_with fail;refine(uG.out w3 HU.out).mono ?_;rintro e w4⟨v,rfl,hO,b4⟩;have Gi:Hid (Bw w w4):=HU.out.trans (b4.mono HU.out.size)
     obtain⟨q4,c4,rfl⟩:=OwnM.form hO;have mn:Hid (SL w4 (.slice q4 AR.length c4) AR):=OwnQ.sl hO;clear b4 z0 z1 uG hO;go_wp2_with fail;refine(PJ w4 _ mn.out).mono ?_;rintro e w5⟨rfl,b5⟩;have GX:Hid (Bw w w5):=Gi.out.trans (b5.mono Gi.out.size);clear b5 PJ;go_wp2_with fail;go_ret;exact⟨rfl,GX.out⟩
   ·rw[hx] at MX;have hE:zAc bs ss=8:=(by unfold zAc;rw[if_pos e1,if_pos e2,if_pos hx]);rw[hE,wAb (by omega)]
    clear hE hx e1 e2 H1 H2;go_enter func80,ntmps80;go_wp2_with fail;rw[←hV];refine(UH V HB.out).mono ?_;rintro e w1⟨rfl,b1⟩;have He:Hid (Bw w w1):=HB.out.trans (b1.mono HB.out.size);have x0:=zAa b1 v0;have x1:=zAa b1 v1;have Hl:w.heap.size<w1.heap.size:=jC gp b1.size;clear b1 v0 v1 UH;go_wp2_with fail;refine(GY w1 He.out).mono ?_;rintro e w2⟨rfl,b2⟩;have Hg:Hid (Bw w w2):=He.out.trans (b2.mono He.out.size);have y0:=zAa b2 x0;have y1:=zAa b2 x1;have H9:w.heap.size<w2.heap.size:=jC Hl b2.size;clear b2 x0 x1 GY;go_wp2_with fail;refine(MX w2 Hg.out).mono ?_;rintro e w3⟨rfl,b3⟩;have HU:Hid (Bw w w3):=Hg.out.trans (b3.mono Hg.out.size);clear b3 y0 y1 MX;go_wp2_with fail;go_ret;exact⟨rfl,HU.out⟩
  ·have hE:zAc bs ss=schk 2 ss:=by unfold zAc;rw[if_pos e1,if_neg e2]
   rw[wAb e2] at GY;rw[hE,wAb e2];generalize schk 2 ss=k at *;clear hE e1 e2 H1 H2;go_enter func80,ntmps80;go_wp2_with fail;rw[←hV];refine(UH V HB.out).mono ?_;rintro e w1⟨rfl,b1⟩;have He:Hid (Bw w w1):=HB.out.trans (b1.mono HB.out.size);have x0:=zAa b1 v0;have x1:=zAa b1 v1;have Hl:w.heap.size<w1.heap.size:=jC gp b1.size;clear b1 v0 v1 UH;go_wp2_with fail;refine(GY w1 He.out).mono ?_;rintro e w2⟨rfl,b2⟩;have Hg:Hid (Bw w w2):=He.out.trans (b2.mono He.out.size);clear b2 x0 x1 GY;go_wp2_with fail;go_ret;exact⟨rfl,Hg.out⟩
 ·have hE:zAc bs ss=schk 1 bs:=by unfold zAc;rw[if_neg e1]
  rw[wAb e1] at UH;rw[hE,wAb e1];generalize schk 1 bs=k at *;clear hE e1 H1 H2 GY;go_enter func80,ntmps80;go_wp2_with fail;rw[←hV];refine(UH V HB.out).mono ?_;rintro e w1⟨rfl,b1⟩;have He:Hid (Bw w w1):=HB.out.trans (b1.mono HB.out.size);clear b1 v0 v1 UH;go_wp2_with fail;go_ret;exact⟨rfl,He.out⟩
theorem zAh{bs ss:List L}(h:zAc bs ss=0):schk 1 bs=0∧schk 2 ss=0∧zBv bs ss=false∧zAM (allR bs++allR ss)=false∧(allR bs++allR ss).length≤60:=by
 unfold zAc at h;by_cases h1:schk 1 bs=0
 ·rw[if_pos h1] at h;by_cases h2:schk 2 ss=0
  ·rw[if_pos h2] at h;by_cases h3:zBv bs ss=true
   ·rw[if_pos h3] at h;cases h
   ·rw[if_neg h3] at h;by_cases h4:zAM (allR bs++allR ss)=true
    ·rw[if_pos h4] at h;cases h
    ·rw[if_neg h4] at h;by_cases h5:60<(allR bs++allR ss).length
     ·rw[if_pos h5] at h;cases h
     ·exact⟨h1,h2,by simpa using h3,by simpa using h4,by omega⟩
  ·rw[if_neg h2] at h;exact absurd h h2
 ·rw[if_neg h1] at h;exact absurd h h1
theorem wAs{w:World}{q:Option Addr}{n c:Nat}{ls:List L}(h:LS w (.slice q n c) ls){i k:Nat}(hi:i<ls.length)(hk:k<ls[i].rests.length):∃b o rb ro rc r1 r2 r3 r4 r5,q=some ⟨b,o,none⟩∧b<w.heap.size∧rb<w.heap.size∧ls[i].rests[k]=⟨r1,r2,r3,r4,r5⟩∧w.cell? ⟨b,o+i*2,none⟩=some (.int .i64 ls[i].price)∧w.cell? ⟨b,o+i*2+1,none⟩=some (.slice (some ⟨rb,ro,none⟩) ls[i].rests.length rc)∧w.cell? ⟨rb,ro+k*5,none⟩=some (.int .i64 r1)∧w.cell? ⟨rb,ro+k*5+1,none⟩=some (.int .i64 r2)∧w.cell? ⟨rb,ro+k*5+2,none⟩=some (.int .i64 r3)∧w.cell? ⟨rb,ro+k*5+3,none⟩=some (.int .i64 r4)∧w.cell? ⟨rb,ro+k*5+4,none⟩=some (.int .i64 r5):=by
 rcases h with ⟨-,e⟩|⟨b,o,c',e,-,-,hb,hl⟩
 ·rw[e] at hi;simp at hi
 ·cases e;obtain⟨l,Gh⟩:∃l,ls[i]=l:=⟨_,rfl⟩;obtain⟨p,zs⟩:=l;have hle2:ls[i]! = ⟨p,zs⟩:=by rw[getE _ _ hi];exact Gh
  have Gg:k<zs.length:=by rw[Gh] at hk;exact hk
  obtain⟨q,rc,l0,l1,UG⟩:=hl.at hi hle2;obtain⟨rb,ro,hq,-,B7,dJ⟩:=zFx UG Gg;subst hq;obtain⟨r,hr⟩:∃r,zs[k]! = r:=⟨_,rfl⟩;obtain⟨r1,r2,r3,r4,r5⟩:=r;obtain⟨v0,v1,v2,v3,v4⟩:=zCn dJ Gg hr;have P5:ls[i].rests[k]=⟨r1,r2,r3,r4,r5⟩:=by
   have:ls[i].rests[k]=zs[k]:=by simp only[Gh]
   rw[this,←hr,getE _ _ Gg]
  refine⟨b,o,rb,ro,rc,r1,r2,r3,r4,r5,rfl,hb,B7,P5,by rw[Gh];exact l0,by rw[Gh];exact l1,v0,v1,v2,v3,v4⟩
theorem zFC(q1 q2:Option Addr)(n1 n2 c1 c2:Nat)(bs ss:List L)(id:Int)(hid:(Lit.int .i64 id).wf=true)(i k:Nat)(w:World)(h1:LS w (.slice q1 n1 c1) bs)(h2:LS w (.slice q2 n2 c2) ss)(h0:zAc bs ss=0)(hi:i<bs.length)(hk:k<bs[i].rests.length)(Uq:zBl 1 bs id=.tuple #[.int .i64 i,.int .i64 k,.nilIface]) :
  Calls prog 60 #[.agg #[.slice q1 n1 c1,.slice q2 n2 c2],.int .i64 id] w fun e w'=>e=.returned (.tuple #[.int .i64 1,.int .i64 bs[i].price,.agg (rV bs[i].rests[k]).toArray,.nilIface])∧Bw w w':=by
 have gN:=fun W(hW:Bw w W)=>wAf q1 q2 n1 n2 c1 c2 bs ss W (h1.below hW) (h2.below hW)
 rw[h0,wAa] at gN;have UY:=fun W(hW:Bw w W)=>wAr 1 _ bs id W (h1.below hW) hid
 rw[Uq] at UY;obtain⟨b,o,rb,ro,rc,r1,r2,r3,r4,r5,hq,GB,hrbs,P5,a0,a1,z0,z1,z2,z3,z4⟩:=wAs h1 hi hk;rw[P5];show Calls _ _ _ _ fun e w'=>e=.returned (.tuple #[.int .i64 1,.int .i64 bs[i].price,.agg #[.int .i64 r1,.int .i64 r2,.int .i64 r3,.int .i64 r4,.int .i64 r5],.nilIface])∧Bw w w'
 have Hv:i<n1:=by rw[zEi h1];exact hi
 obtain⟨ee1,ee2,-⟩:=zAh h0;have Pr:n1≤60:=by have:=zFd (zBg ee1);have:=(zAe ee1).2.2.1;rw[zEi h1];omega
 have EH:bs[i].rests.length≤60:=by have:=zAV (jT hi);have:=(zAe ee1).2.2.1;omega
 clear P5;generalize bs[i].price=p at *;generalize mz:bs[i].rests.length=m at *;subst hq;obtain⟨V,hV⟩:∃V,V=(w.alloc (.cells #[.slice (some ⟨b,o,none⟩) n1 c1,.slice q2 n2 c2] 57)).alloc (.cells #[.int .i64 0,.int .i64 0,.int .i64 0,.int .i64 0,.int .i64 0] 51):=⟨_,rfl⟩;have HB:Hid (Bw w V):=by rw[hV];exact((bzR _ _).alloc (nzR _) _).alloc (by simp) _
 have v0:V.cell? ⟨w.heap.size,0,none⟩=some (.slice (some ⟨b,o,none⟩) n1 c1):=by rw[hV];simp[go_sem]
 have v1:V.cell? ⟨w.heap.size,1,none⟩=some (.slice q2 n2 c2):=by rw[hV];simp[go_sem]
 have hR:V.heap[w.heap.size+1]?=some (.cells #[.int .i64 0,.int .i64 0,.int .i64 0,.int .i64 0,.int .i64 0] 51 (0,0)):=by
  rw[hV];have:=jA (w.alloc (.cells #[.slice (some ⟨b,o,none⟩) n1 c1,.slice q2 n2 c2] 57)) (.cells #[.int .i64 0,.int .i64 0,.int .i64 0,.int .i64 0,.int .i64 0] 51);simpa using this
 have gp:w.heap.size+1<V.heap.size:=(gzE.1 hR).1;have SO:Hid (∀W,Bw w W→(Bw w W∧W.cell? ⟨b,o+i*2,none⟩=some (.int .i64 p)∧W.cell? ⟨b,o+i*2+1,none⟩=some (.slice (some ⟨rb,ro,none⟩) m rc)∧W.cell? ⟨rb,ro+k*5,none⟩=some (.int .i64 r1)∧W.cell? ⟨rb,ro+k*5+1,none⟩=some (.int .i64 r2)∧W.cell? ⟨rb,ro+k*5+2,none⟩=some (.int .i64 r3)∧W.cell? ⟨rb,ro+k*5+3,none⟩=some (.int .i64 r4)∧W.cell? ⟨rb,ro+k*5+4,none⟩=some (.int .i64 r5))):=fun W hW=>⟨hW,zAa hW a0,zAa hW a1,zAa hW z0,zAa hW z1,zAa hW z2,zAa hW z3,zAa hW z4⟩
 clear h1 h2 h0 a0 a1 z0 z1 z2 z3 z4 Uq ee1 ee2 hid mz;have i0:¬((i:Int)<0):=by omega
 have i1:(i:Int)<(n1:Int):=by omega
 have i4:(0:Int)≤(i:Int):=by omega
 have k0:¬((k:Int)<0):=by omega
 have k1:(k:Int)<(m:Int):=by omega
 have k4:(0:Int)≤(k:Int):=by omega
 go_enter func60,ntmps60;go_wp2_with fail;rw[←hV];refine(gN V HB.out).mono ?_;rintro x w1⟨rfl,b1⟩;have He:Hid (Bw w w1):=HB.out.trans (b1.mono HB.out.size);have x0:=zAa b1 v0;have x1:=zAa b1 v1;have gh:w1.heap[w.heap.size+1]?=some (.cells #[.int .i64 0,.int .i64 0,.int .i64 0,.int .i64 0,.int .i64 0] 51 (0,0)):=by rw[b1.block _ gp];exact hR
 have Hl:w.heap.size+1<w1.heap.size:=jC gp b1.size;clear b1 gN v0 v1 hR;go_wp2_with fail;go_loopg [9,10,11,12,13] 2 (fun _ s9 _ _ _ _ wr=>s9=.int .i64 1∧wr=w1)
 case atStart=>exact⟨rfl,rfl⟩
 case round=>
  obtain⟨rfl,rfl⟩:=hrel;have d0:=x0;have d1:=x1;have go:=He;go_wp2_with fail;refine(zAx 1 (some ⟨b,o,none⟩) q2 n1 n2 c1 c2 wr).mono ?_;rintro x w2⟨rfl,b2⟩;rw[show (if (1:Int)=1 then Value.slice (some ⟨b,o,none⟩) n1 c1 else .slice q2 n2 c2)=.slice (some ⟨b,o,none⟩) n1 c1 from rfl]
  have Hg:Hid (Bw wr w2):=b2;clear b2;go_wp2_with fail;refine(UY w2 (go.out.trans (Hg.out.mono go.out.size))).mono ?_;rintro x w3⟨rfl,b3⟩;have HU:Hid (Bw wr w3):=Hg.out.trans (b3.mono Hg.out.size);have gF:Hid (Bw w w3):=go.out.trans (HU.out.mono go.out.size);have Gx:w3.heap[w.heap.size+1]?=some (.cells #[.int .i64 0,.int .i64 0,.int .i64 0,.int .i64 0,.int .i64 0] 51 (0,0)):=by rw[HU.out.block _ Hl];exact gh
  clear b3 UY d0 d1 gh;obtain⟨e0,e1,e2,e3,e4,gB⟩:=zAi Gx;have f0:=gB 0;have f1:=gB 1;have f2:=gB 2;have f3:=gB 3;have f4:=gB 4;have Hj:=gF.out;have Hx:Hid ((((((w3.setCell ⟨w.heap.size+1,0,none⟩ (.int .i64 r1)).setCell ⟨w.heap.size+1,1,none⟩ (.int .i64 r2)).setCell ⟨w.heap.size+1,2,none⟩ (.int .i64 r3)).setCell ⟨w.heap.size+1,3,none⟩ (.int .i64 r4)).setCell ⟨w.heap.size+1,4,none⟩ (.int .i64 r5)).heap[w.heap.size+1]?=some (.cells #[.int .i64 r1,.int .i64 r2,.int .i64 r3,.int .i64 r4,.int .i64 r5] 51 (0,0))):=zBd Gx _ _ _ _ _
  have GA:Bw w (((((w3.setCell ⟨w.heap.size+1,0,none⟩ (.int .i64 r1)).setCell ⟨w.heap.size+1,1,none⟩ (.int .i64 r2)).setCell ⟨w.heap.size+1,2,none⟩ (.int .i64 r3)).setCell ⟨w.heap.size+1,3,none⟩ (.int .i64 r4)).setCell ⟨w.heap.size+1,4,none⟩ (.int .i64 r5)):=((((Hj.setCell (Nat.le_succ _) _).setCell (Nat.le_succ _) _).setCell (Nat.le_succ _) _).setCell (Nat.le_succ _) _).setCell (Nat.le_succ _) _
  have ph:Hid (Bw w (((((w3.setCell ⟨w.heap.size+1,0,none⟩ (.int .i64 r1)).setCell ⟨w.heap.size+1,1,none⟩ (.int .i64 r2)).setCell ⟨w.heap.size+1,2,none⟩ (.int .i64 r3)).setCell ⟨w.heap.size+1,3,none⟩ (.int .i64 r4)).setCell ⟨w.heap.size+1,4,none⟩ (.int .i64 r5))∧Bw w (((((w3.setCell ⟨w.heap.size+1,0,none⟩ (.int .i64 r1)).setCell ⟨w.heap.size+1,1,none⟩ (.int .i64 r2)).setCell ⟨w.heap.size+1,2,none⟩ (.int .i64 r3)).setCell ⟨w.heap.size+1,3,none⟩ (.int .i64 r4)).setCell ⟨w.heap.size+1,4,none⟩ (.int .i64 r5)).drew):=⟨GA,GA.drew⟩;clear gB Gx GA;go_upto_region 10 with fail
  go_region_held3 (fun W=>Below w.heap.size w W∧W.cell? ⟨b,o+i*2,none⟩=some (.int .i64 p)∧W.cell? ⟨b,o+i*2+1,none⟩=some (.slice (some ⟨rb,ro,none⟩) m rc)∧W.cell? ⟨rb,ro+k*5,none⟩=some (.int .i64 r1)∧W.cell? ⟨rb,ro+k*5+1,none⟩=some (.int .i64 r2)∧W.cell? ⟨rb,ro+k*5+2,none⟩=some (.int .i64 r3)∧W.cell? ⟨rb,ro+k*5+3,none⟩=some (.int .i64 r4)∧W.cell? ⟨rb,ro+k*5+4,none⟩=some (.int .i64 r5))
   ((refine SO.out _ ?_;(with_reducible repeat' (first|assumption|refine bal ?_ _|refine Below.setCell ?_ ?_ _|refine Below.drew ?_|exact bzR _ _|exact nzR _|exact Nat.le_succ _|exact Below.size (by assumption)|refine jD ?_))))
   (fail)
  go_wp2_with fail;generalize (((((w3.setCell ⟨w.heap.size+1,0,none⟩ (.int .i64 r1)).setCell ⟨w.heap.size+1,1,none⟩ (.int .i64 r2)).setCell ⟨w.heap.size+1,2,none⟩ (.int .i64 r3)).setCell ⟨w.heap.size+1,3,none⟩ (.int .i64 r4)).setCell ⟨w.heap.size+1,4,none⟩ (.int .i64 r5))=X at *;obtain⟨y0,y1,y2,y3,y4,-⟩:=zAi Hx.out;first|exact jN (v:=.tuple #[.int .i64 1,.int .i64 p,.agg #[.int .i64 r1,.int .i64 r2,.int .i64 r3,.int .i64 r4,.int .i64 r5],.nilIface]) (by simp[results,results60,go_sem,y0,y1,y2,y3,y4]) rfl ⟨rfl,ph.out.2⟩|exact jN (v:=.tuple #[.int .i64 1,.int .i64 p,.agg #[.int .i64 r1,.int .i64 r2,.int .i64 r3,.int .i64 r4,.int .i64 r5],.nilIface]) (by simp[results,results60,go_sem,y0,y1,y2,y3,y4]) rfl ⟨rfl,ph.out.1⟩
theorem zFD(q1 q2:Option Addr)(n1 n2 c1 c2:Nat)(bs ss:List L)(id:Int)(hid:(Lit.int .i64 id).wf=true)(i k:Nat)(w:World)(h1:LS w (.slice q1 n1 c1) bs)(h2:LS w (.slice q2 n2 c2) ss)(h0:zAc bs ss=0)(M8:zAF 1 bs id=5)(hi:i<ss.length)(hk:k<ss[i].rests.length)(Uq:zBl 2 ss id=.tuple #[.int .i64 i,.int .i64 k,.nilIface]) :
  Calls prog 60 #[.agg #[.slice q1 n1 c1,.slice q2 n2 c2],.int .i64 id] w fun e w'=>e=.returned (.tuple #[.int .i64 2,.int .i64 ss[i].price,.agg (rV ss[i].rests[k]).toArray,.nilIface])∧Bw w w':=by
 have gN:=fun W(hW:Bw w W)=>wAf q1 q2 n1 n2 c1 c2 bs ss W (h1.below hW) (h2.below hW)
 rw[h0,wAa] at gN;have UY:=fun W(hW:Bw w W)=>wAr 2 _ ss id W (h2.below hW) hid
 rw[Uq] at UY;have G9:=fun W(hW:Bw w W)=>wAr 1 _ bs id W (h1.below hW) hid
 rw[show zBl 1 bs id=.tuple #[.int .i64 0,.int .i64 0,.iface 90 (.int .i64 5)] from by unfold zBl zBn;rw[if_neg (by omega),M8];rfl] at G9
 obtain⟨b,o,rb,ro,rc,r1,r2,r3,r4,r5,hq,GB,hrbs,P5,a0,a1,z0,z1,z2,z3,z4⟩:=wAs h2 hi hk;rw[P5];show Calls _ _ _ _ fun e w'=>e=.returned (.tuple #[.int .i64 2,.int .i64 ss[i].price,.agg #[.int .i64 r1,.int .i64 r2,.int .i64 r3,.int .i64 r4,.int .i64 r5],.nilIface])∧Bw w w'
 have Hv:i<n2:=by rw[zEi h2];exact hi
 obtain⟨ee1,ee2,-⟩:=zAh h0;have Pr:n2≤60:=by have:=zFd (zBg ee2);have:=(zAe ee2).2.2.1;rw[zEi h2];omega
 have EH:ss[i].rests.length≤60:=by have:=zAV (jT hi);have:=(zAe ee2).2.2.1;omega
 clear P5;generalize ss[i].price=p at *;generalize mz:ss[i].rests.length=m at *;subst hq;obtain⟨V,hV⟩:∃V,V=(w.alloc (.cells #[.slice q1 n1 c1,.slice (some ⟨b,o,none⟩) n2 c2] 57)).alloc (.cells #[.int .i64 0,.int .i64 0,.int .i64 0,.int .i64 0,.int .i64 0] 51):=⟨_,rfl⟩;have HB:Hid (Bw w V):=by rw[hV];exact((bzR _ _).alloc (nzR _) _).alloc (by simp) _
 have v0:V.cell? ⟨w.heap.size,0,none⟩=some (.slice q1 n1 c1):=by rw[hV];simp[go_sem]
 have v1:V.cell? ⟨w.heap.size,1,none⟩=some (.slice (some ⟨b,o,none⟩) n2 c2):=by rw[hV];simp[go_sem]
 have hR:V.heap[w.heap.size+1]?=some (.cells #[.int .i64 0,.int .i64 0,.int .i64 0,.int .i64 0,.int .i64 0] 51 (0,0)):=by
  rw[hV];have:=jA (w.alloc (.cells #[.slice q1 n1 c1,.slice (some ⟨b,o,none⟩) n2 c2] 57)) (.cells #[.int .i64 0,.int .i64 0,.int .i64 0,.int .i64 0,.int .i64 0] 51);simpa using this
 have gp:w.heap.size+1<V.heap.size:=(gzE.1 hR).1;have SO:Hid (∀W,Bw w W→(Bw w W∧W.cell? ⟨b,o+i*2,none⟩=some (.int .i64 p)∧W.cell? ⟨b,o+i*2+1,none⟩=some (.slice (some ⟨rb,ro,none⟩) m rc)∧W.cell? ⟨rb,ro+k*5,none⟩=some (.int .i64 r1)∧W.cell? ⟨rb,ro+k*5+1,none⟩=some (.int .i64 r2)∧W.cell? ⟨rb,ro+k*5+2,none⟩=some (.int .i64 r3)∧W.cell? ⟨rb,ro+k*5+3,none⟩=some (.int .i64 r4)∧W.cell? ⟨rb,ro+k*5+4,none⟩=some (.int .i64 r5))):=fun W hW=>⟨hW,zAa hW a0,zAa hW a1,zAa hW z0,zAa hW z1,zAa hW z2,zAa hW z3,zAa hW z4⟩
 clear h1 h2 h0 a0 a1 z0 z1 z2 z3 z4 Uq ee1 ee2 hid mz;have i0:¬((i:Int)<0):=by omega
 have i1:(i:Int)<(n2:Int):=by omega
 have i4:(0:Int)≤(i:Int):=by omega
 have k0:¬((k:Int)<0):=by omega
 have k1:(k:Int)<(m:Int):=by omega
 have k4:(0:Int)≤(k:Int):=by omega
 go_enter func60,ntmps60;go_wp2_with fail;rw[←hV];refine(gN V HB.out).mono ?_;rintro x w1⟨rfl,b1⟩;have He:Hid (Bw w w1):=HB.out.trans (b1.mono HB.out.size);have x0:=zAa b1 v0;have x1:=zAa b1 v1;have gh:w1.heap[w.heap.size+1]?=some (.cells #[.int .i64 0,.int .i64 0,.int .i64 0,.int .i64 0,.int .i64 0] 51 (0,0)):=by rw[b1.block _ gp];exact hR
 have Hl:w.heap.size+1<w1.heap.size:=jC gp b1.size;clear b1 gN v0 v1 hR;go_wp2_with fail;go_loopg [9,10,11,12,13] 2 (fun gg s9 _ _ _ _ wr=>((s9=.int .i64 1∧2≤gg)∨s9=.int .i64 2)∧Aside (Below w1.heap.size w1 wr))
 case atStart=>exact⟨.inl ⟨rfl,nzR _⟩,bzR _ _⟩
 case round=>
  obtain⟨EU,BW⟩:=hrel;have d0:=zAa BW.out x0;have d1:=zAa BW.out x1;have go:Hid (Bw w wr):=He.out.trans (BW.out.mono He.out.size);have hsr:w.heap.size+1<wr.heap.size:=jC Hl BW.out.size;rcases EU with ⟨rfl,hgk⟩|rfl
  ·have bI:1<gk:=by omega
   go_wp2_with fail;refine(zAx 1 q1 (some ⟨b,o,none⟩) n1 n2 c1 c2 wr).mono ?_;rintro x w2⟨rfl,b2⟩;rw[show (if (1:Int)=1 then Value.slice q1 n1 c1 else .slice (some ⟨b,o,none⟩) n2 c2)=.slice q1 n1 c1 from rfl]
   have Hg:Hid (Bw wr w2):=b2;clear b2;go_wp2_with fail;refine(G9 w2 (go.out.trans (Hg.out.mono go.out.size))).mono ?_;rintro x w3⟨rfl,b3⟩;have HU:Hid (Bw w1 w3):=BW.out.trans ((Hg.out.trans (b3.mono Hg.out.size)).mono BW.out.size);clear b3 G9 UY d0 d1;go_wp2_with fail;go_roundg 1
   case measure=>exact bI
   case rel=>exact⟨.inr rfl,HU.out⟩
  ·go_wp2_with fail;refine(zAx 2 q1 (some ⟨b,o,none⟩) n1 n2 c1 c2 wr).mono ?_;rintro x w2⟨rfl,b2⟩;rw[show (if (2:Int)=1 then Value.slice q1 n1 c1 else .slice (some ⟨b,o,none⟩) n2 c2)=.slice (some ⟨b,o,none⟩) n2 c2 from rfl]
   have Hg:Hid (Bw wr w2):=b2;clear b2;go_wp2_with fail;refine(UY w2 (go.out.trans (Hg.out.mono go.out.size))).mono ?_;rintro x w3⟨rfl,b3⟩;have HU:Hid (Bw w1 w3):=BW.out.trans ((Hg.out.trans (b3.mono Hg.out.size)).mono BW.out.size);have gF:Hid (Bw w w3):=He.out.trans (HU.out.mono He.out.size);have Gx:w3.heap[w.heap.size+1]?=some (.cells #[.int .i64 0,.int .i64 0,.int .i64 0,.int .i64 0,.int .i64 0] 51 (0,0)):=by rw[HU.out.block _ Hl];exact gh
   clear b3 UY G9 d0 d1 gh;obtain⟨e0,e1,e2,e3,e4,gB⟩:=zAi Gx;have f0:=gB 0;have f1:=gB 1;have f2:=gB 2;have f3:=gB 3;have f4:=gB 4;have Hj:=gF.out;have Hx:Hid ((((((w3.setCell ⟨w.heap.size+1,0,none⟩ (.int .i64 r1)).setCell ⟨w.heap.size+1,1,none⟩ (.int .i64 r2)).setCell ⟨w.heap.size+1,2,none⟩ (.int .i64 r3)).setCell ⟨w.heap.size+1,3,none⟩ (.int .i64 r4)).setCell ⟨w.heap.size+1,4,none⟩ (.int .i64 r5)).heap[w.heap.size+1]?=some (.cells #[.int .i64 r1,.int .i64 r2,.int .i64 r3,.int .i64 r4,.int .i64 r5] 51 (0,0))):=zBd Gx _ _ _ _ _
   have GA:Bw w (((((w3.setCell ⟨w.heap.size+1,0,none⟩ (.int .i64 r1)).setCell ⟨w.heap.size+1,1,none⟩ (.int .i64 r2)).setCell ⟨w.heap.size+1,2,none⟩ (.int .i64 r3)).setCell ⟨w.heap.size+1,3,none⟩ (.int .i64 r4)).setCell ⟨w.heap.size+1,4,none⟩ (.int .i64 r5)):=((((Hj.setCell (Nat.le_succ _) _).setCell (Nat.le_succ _) _).setCell (Nat.le_succ _) _).setCell (Nat.le_succ _) _).setCell (Nat.le_succ _) _
   have ph:Hid (Bw w (((((w3.setCell ⟨w.heap.size+1,0,none⟩ (.int .i64 r1)).setCell ⟨w.heap.size+1,1,none⟩ (.int .i64 r2)).setCell ⟨w.heap.size+1,2,none⟩ (.int .i64 r3)).setCell ⟨w.heap.size+1,3,none⟩ (.int .i64 r4)).setCell ⟨w.heap.size+1,4,none⟩ (.int .i64 r5))∧Bw w (((((w3.setCell ⟨w.heap.size+1,0,none⟩ (.int .i64 r1)).setCell ⟨w.heap.size+1,1,none⟩ (.int .i64 r2)).setCell ⟨w.heap.size+1,2,none⟩ (.int .i64 r3)).setCell ⟨w.heap.size+1,3,none⟩ (.int .i64 r4)).setCell ⟨w.heap.size+1,4,none⟩ (.int .i64 r5)).drew):=⟨GA,GA.drew⟩;clear gB Gx GA;go_upto_region 10 with fail
   go_region_held3 (fun W=>Below w.heap.size w W∧W.cell? ⟨b,o+i*2,none⟩=some (.int .i64 p)∧W.cell? ⟨b,o+i*2+1,none⟩=some (.slice (some ⟨rb,ro,none⟩) m rc)∧W.cell? ⟨rb,ro+k*5,none⟩=some (.int .i64 r1)∧W.cell? ⟨rb,ro+k*5+1,none⟩=some (.int .i64 r2)∧W.cell? ⟨rb,ro+k*5+2,none⟩=some (.int .i64 r3)∧W.cell? ⟨rb,ro+k*5+3,none⟩=some (.int .i64 r4)∧W.cell? ⟨rb,ro+k*5+4,none⟩=some (.int .i64 r5))
    ((refine SO.out _ ?_;(with_reducible repeat' (first|assumption|refine bal ?_ _|refine Below.setCell ?_ ?_ _|refine Below.drew ?_|exact bzR _ _|exact nzR _|exact Nat.le_succ _|exact Below.size (by assumption)|refine jD ?_))))
    (fail)
   go_wp2_with fail;generalize (((((w3.setCell ⟨w.heap.size+1,0,none⟩ (.int .i64 r1)).setCell ⟨w.heap.size+1,1,none⟩ (.int .i64 r2)).setCell ⟨w.heap.size+1,2,none⟩ (.int .i64 r3)).setCell ⟨w.heap.size+1,3,none⟩ (.int .i64 r4)).setCell ⟨w.heap.size+1,4,none⟩ (.int .i64 r5))=X at *;obtain⟨y0,y1,y2,y3,y4,-⟩:=zAi Hx.out;first|exact jN (v:=.tuple #[.int .i64 2,.int .i64 p,.agg #[.int .i64 r1,.int .i64 r2,.int .i64 r3,.int .i64 r4,.int .i64 r5],.nilIface]) (by simp[results,results60,go_sem,y0,y1,y2,y3,y4]) rfl ⟨rfl,ph.out.2⟩|exact jN (v:=.tuple #[.int .i64 2,.int .i64 p,.agg #[.int .i64 r1,.int .i64 r2,.int .i64 r3,.int .i64 r4,.int .i64 r5],.nilIface]) (by simp[results,results60,go_sem,y0,y1,y2,y3,y4]) rfl ⟨rfl,ph.out.1⟩
end bok
end Go.Proofs.YtnfilcpnneckkaaGreat
