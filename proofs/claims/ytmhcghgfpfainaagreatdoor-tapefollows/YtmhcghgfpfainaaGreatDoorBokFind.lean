import Derived.Test.YtmhcghgfpfainaaGreatDoorBokRests
set_option maxHeartbeats 4000000
set_option maxRecDepth 100000
namespace Go.Proofs.YtmhcghgfpfainaaGreatDoor
open Tryz
namespace bok
open Go.RowKit spn que sid Go.Maps
def rsD(r:R):DataW Unit:=.agg [.lit (.int .i64 r.id),.lit (.int .i64 r.who),.lit (.int .i64 r.qty),.lit (.int .i64 r.hid),.lit (.int .i64 r.shw)]
def rsR(v:Value):Option (DataW Unit × List MemPlace):=
 match v with
 | .agg a=>match a.toList with
  | [.int .i64 x0,.int .i64 x1,.int .i64 x2,.int .i64 x3,.int .i64 x4]=>some (rsD ⟨x0,x1,x2,x3,x4⟩,[])
  | _=>none
 | _=>none
theorem rsR_mk(a b c d e:Int):rsR (.agg #[.int .i64 a,.int .i64 b,.int .i64 c,.int .i64 d,.int .i64 e])=some (rsD ⟨a,b,c,d,e⟩,[]):=rfl
def mapR(zs:List R):DataW Unit:=zs.foldl (fun D x=>D.put (.int .i64 x.id) (rsD x)) (.map [])
theorem zCm(zs:List R)(x:R):mapR (zs++[x])=(mapR zs).put (.int .i64 x.id) (rsD x):=by unfold mapR;rw[List.foldl_append];rfl
theorem zEm(zs:List R):Tidy (mapR zs):=by
 induction zs using zCa with
 | nil=>exact tidy_empty
 | snoc zs x ih=>rw[zCm];exact ih.put (zLe _) _
theorem zOs(zs:List R)(id:Int):Maps.has (mapR zs) (.int .i64 id)=zs.any (fun x=>decide (x.id=id)):=by
 induction zs using zCa with
 | nil=>rfl
 | snoc zs x ih=>
  rw[zCm,List.any_append];by_cases h:x.id=id
  ·rw[←h,has_put_same (zEm zs).isMap (zLe _)];simp
  ·rw[has_put_other (by simp;exact fun e=>h e.symm),ih];simp[h]
theorem zLC(zs:List R):Maps.size (mapR zs)≤zs.length:=by
 induction zs using zCa with
 | nil=>exact nzR _
 | snoc zs x ih=>rw[zCm,size_put (zEm zs)];simp;split <;>omega
theorem zLD(zs:List R):Maps.size (mapR zs)=zs.length↔(zs.map (·.id)).Nodup:=by
 induction zs using zCa with
 | nil=>simp[mapR,Maps.size]
 | snoc zs x ih=>
  rw[zCm,size_put (zEm zs),zOs];have GR:=zLC zs;rw[jF,List.nodup_append,jE];by_cases h:zs.any (fun y=>decide (y.id=x.id))=true
  ·rw[if_pos h];constructor
   ·intro e;simp at e;omega
   ·rintro⟨-,-,h3⟩;obtain⟨y,hy,e⟩:=List.any_eq_true.1 h;exact absurd (of_decide_eq_true e) (h3 y.id (List.mem_map.2 ⟨y,hy,rfl⟩) x.id (by simp))
  ·rw[if_neg h];constructor
   ·intro e;refine⟨ih.1 (by simp at e;omega),by simp,?_⟩
    intro a ha b hb e2;obtain⟨y,hy,rfl⟩:=List.mem_map.1 ha;simp at hb;exact h (List.any_eq_true.2 ⟨y,hy,by simp[e2,hb]⟩)
   ·rintro⟨h1,-,-⟩;rw[ih.2 h1];simp
def OwnR(W:World)(B:Nat)(zs:List R):Prop:=W.ownsMap prog 3 rsR B zs.length (mapR zs)
theorem OwnR.snoc{W:World}{B:Nat}{zs:List R}{x:R}(h:W.ownsMap prog 3 rsR B (zs.length+1) ((mapR zs).put (.int .i64 x.id) (rsD x))):OwnR W B (zs++[x]):=by
 unfold OwnR;rw[zCm,jE];exact h
def zAK(zs:List R):Bool:=decide (¬(zs.map (·.id)).Nodup)
theorem zJJ(zs:List R):decide ((Maps.size (mapR zs):Int)<(zs.length:Int))=zAK zs:=by
 have h1:=zLC zs;have h2:=zLD zs;unfold zAK;by_cases h:(zs.map (·.id)).Nodup
 ·have:=h2.2 h;rw[decide_eq_false (by omega),decide_eq_false (by simp[h])]
 ·have:¬Maps.size (mapR zs)=zs.length:=fun e=>h (h2.1 e)
  rw[decide_eq_true (by omega),decide_eq_true h]
theorem zJK(b o c:Nat)(zs:List R)(w:World)(hb:b<w.heap.size)(hl:Lies w b o zs)(GS:∀r∈zs,(Lit.int .i64 r.id).wf=true)(hn:zs.length≤1000) :
  Calls prog 56 #[.slice (some ⟨b,o,none⟩) zs.length c] w fun e w'=>e=.returned (.bool (zAK zs))∧Bw w w':=by
 have HL:Hid (Lies w b o zs):=hl;have BG:Hid (∀r∈zs,(Lit.int .i64 r.id).wf=true):=GS;have HT:Hid (decide ((Maps.size (mapR zs):Int)<(zs.length:Int))=zAK zs):=zJJ zs;generalize zAK zs=tw at *;generalize hN:zs.length=n at *;have HN:Hid (zs.length=n):=hN;clear hl GS hN;have mi:=@run_makeMap prog;go_enter func56,ntmps56;go_wp2_with fail;go_loopg [5,9] n (fun gg _ s9 wr=>∃kk:Nat,kk≤n∧n - kk≤gg∧s9=.int .i64 kk∧Aside (Below w.heap.size w wr)∧Aside (OwnR wr w.heap.size (zs.take kk)))
 case atStart=>exact⟨0,jL _,by omega,rfl,(bzR _ _).alloc (nzR _) _,World.ownsMap_made _ _ _ _⟩
 case round=>
  obtain⟨kk,gh,hg,rfl,BW,OW⟩:=hrel;by_cases Hj:kk<n
  ·have Hq:(kk:Int)<(n:Int):=by omega
   have Hv:kk<zs.length:=by rw[HN.out];exact Hj
   have gU:¬((kk:Int)<0):=by omega
   have mG:b<wr.heap.size:=jC hb BW.out.size;obtain⟨r,hr⟩:∃r,zs[kk]! = r:=⟨_,rfl⟩;obtain⟨r1,r2,r3,r4,r5⟩:=r;obtain⟨d0,d1,d2,d3,d4⟩:=zCl (HL.out.below hb BW.out) Hv hr;have kd:(Lit.int .i64 r1).wf=true:=by
    have:=BG.out zs[kk]! (by rw[getE _ _ Hv];exact jT Hv)
    rw[hr] at this;exact this
   have gJ:keyOf prog 3 (.int .i64 r1)=some (.int .i64 r1):=keyOf_int_mk underlying3 kd;have Ua:Hid (zs.take (kk+1)=zs.take kk++[⟨r1,r2,r3,r4,r5⟩]):=by
    show _=_
    rw[zEa Hv,hr]
   have Ui:(zs.take kk).length<maxLen:=by rw[jJ];unfold maxLen;omega
   have Hg:Hid (Bw w (wr.alloc (.cells #[.int .i64 r1,.int .i64 r2,.int .i64 r3,.int .i64 r4,.int .i64 r5] 54))):=BW.out.alloc BW.out.size _;have Ge:Hid ((wr.alloc (.cells #[.int .i64 r1,.int .i64 r2,.int .i64 r3,.int .i64 r4,.int .i64 r5] 54)).ownsMap prog 3 rsR w.heap.size (zs.take kk).length (mapR (zs.take kk))):=World.ownsMap.alloc OW.out _;clear hr kd;generalize Gz:zs.take kk=PS at *;go_wp2_with (at_mapUpdate;refine wpList_mapUpdate_own _ rfl _ _ _ 171 rfl 3 54 lawI underlying171 rsR w.heap.size PS.length (mapR PS) rfl Ge.out Ui _ _ _ rfl rfl gJ _ [] (rsR_mk _ _ _ _ _) ?_;intro w1 gV G2)
   have H1:Hid (OwnR w1 w.heap.size (zs.take (kk+1))):=by
    rw[Ua.out];exact OwnR.snoc gV
   have H2:Hid (Bw w w1):=Hg.out.grown G2 Hg.out.size (fun k hk=>by cases hk;exact nzR _)
   clear gV G2 Hg Ge;go_wp2_with fail;go_roundg (n - (kk+1))
   case measure=>omega
   case rel=>exact⟨kk+1,by omega,by omega,by go_num,H2.out,H1.out⟩
  ·have Hq:¬(kk:Int)<(n:Int):=by omega
   have Hh:wr.ownsMap prog 3 rsR w.heap.size zs.length (mapR zs):=by
    have:=OW.out
    rwa [List.take_of_length_le (by rw[HN.out];omega)] at this
   obtain⟨z,hz⟩:∃z,z=Maps.size (mapR zs):=⟨_,rfl⟩;have G4:=hz.symm;have GW:Hid (decide ((z:Int)<(n:Int))=tw):=by rw[hz];exact HT.out
   clear hz;generalize mapR zs=MR at Hh G4;go_wp2_with (at_len;refine wpList_len_own _ rfl _ 171 rfl 3 54 underlying171 rsR w.heap.size _ _ rfl Hh ?_;rw[G4])
   go_ret;refine⟨?_,BW.out⟩;rw[←GW.out];simp
theorem zLE(w:World) :
  Calls prog 56 #[.slice none 0 0] w fun e w'=>e=.returned (.bool false)∧Bw w w':=by
 have mi:=@run_makeMap prog;go_enter func56,ntmps56;go_wp2_with fail;have Hh:(w.alloc (.map #[] 0)).ownsMap prog 3 rsR w.heap.size 0 (.map []):=World.ownsMap_made _ _ _ _;have hB:Bw w (w.alloc (.map #[] 0)):=(bzR _ _).alloc (nzR _) _;have G4:Maps.size (.map []:DataW Unit)=0:=rfl;generalize w.alloc (.map #[] 0)=V at *;go_loopg [5,9] 0 (fun _ _ s9 wr=>s9=.int .i64 0∧wr=V)
 case atStart=>exact⟨rfl,rfl⟩
 case round=>
  obtain⟨rfl,rfl⟩:=hrel;go_wp2_with (at_len;refine wpList_len_own _ rfl _ 171 rfl 3 54 underlying171 rsR w.heap.size _ _ rfl Hh ?_;rw[G4])
  go_ret;exact⟨rfl,hB⟩
theorem zLF(v:Value)(zs:List R)(w:World)(h:SL w v zs)(GS:∀r∈zs,(Lit.int .i64 r.id).wf=true)(hn:zs.length≤1000) :
  Calls prog 56 #[v] w fun e w'=>e=.returned (.bool (zAK zs))∧Bw w w':=by
 rcases h with ⟨rfl,rfl⟩|⟨b,o,c,rfl,h2,h3,h4,h5⟩
 ·exact zLE w
 ·exact zJK b o c zs w h4 h5 GS hn
end bok
namespace bok
open Go.RowKit spn que sid
def zAc(bs ss:List L):Int:=
 if schk 1 bs=0 then (if schk 2 ss=0 then (if zBs bs ss=true then 8 else if zAK (allR bs++allR ss)=true then 7 else if 60<(allR bs++allR ss).length then 4 else 0) else schk 2 ss) else schk 1 bs
theorem zAY{s:Int}{ls:List L}(h:schk s ls=0):∀l∈ls,l.rests≠[]:=fun l hl=>(zAh (zAs (zAd h).2.1 l hl)).2.1
theorem zHS{s:Int}{ls:List L}(h:schk s ls=0):∀r∈allR ls,(Lit.int .i64 r.id).wf=true:=fun r hr=>by
 obtain⟨l,hl,UW⟩:=List.mem_flatMap.1 hr;exact id_wf (zAh (zAs (zAd h).2.1 l hl)).2.2 UW
theorem zCB{s:Int}{ls:List L}(h:schk s ls=0):(allR ls).length≤60:=by
 have:=(zAd h).2.2.1;rw[zAP] at this;omega
theorem wAf(q1 q2:Option Addr)(n1 n2 c1 c2:Nat)(bs ss:List L)(w:World)(h1:LS w (.slice q1 n1 c1) bs)(h2:LS w (.slice q2 n2 c2) ss) :
  Calls prog 29 #[.agg #[.slice q1 n1 c1,.slice q2 n2 c2]] w fun e w'=>e=.returned (errV (zAc bs ss))∧Bw w w':=by
 have H1:Hid (∀W,Bw w W→LS W (.slice q1 n1 c1) bs):=fun W hW=>h1.below hW
 have H2:Hid (∀W,Bw w W→LS W (.slice q2 n2 c2) ss):=fun W hW=>h2.below hW
 obtain⟨V,hV⟩:∃V,V=w.alloc (.cells #[.slice q1 n1 c1,.slice q2 n2 c2] 50):=⟨_,rfl⟩;have hB:Bw w V:=by rw[hV];exact(bzR _ _).alloc (nzR _) _
 have hR:V.heap[w.heap.size]?=some (.cells #[.slice q1 n1 c1,.slice q2 n2 c2] 50 (0,0)):=by rw[hV];exact jA w _
 have v0:V.cell? ⟨w.heap.size,0,none⟩=some (.slice q1 n1 c1):=by simp[World.cell?,hR]
 have v1:V.cell? ⟨w.heap.size,1,none⟩=some (.slice q2 n2 c2):=by simp[World.cell?,hR]
 have gp:w.heap.size<V.heap.size:=(gzE.1 hR).1;have HB:Hid (Bw w V):=hB;have UH:=fun W(hW:Bw w W)=>zEi 1 _ bs W (H1.out W hW)
 have GX:=fun W(hW:Bw w W)=>zEi 2 _ ss W (H2.out W hW)
 clear h1 h2 hB hR;by_cases e1:schk 1 bs=0
 ·rw[e1,wAa] at UH;by_cases e2:schk 2 ss=0
  ·rw[e2,wAa] at GX;have PO:=fun W(hW:Bw w W)=>zHR q1 q2 n1 n2 c1 c2 bs ss W (H1.out W hW) (H2.out W hW)
   cases hx:zBs bs ss
   ·rw[hx] at PO;have uj:Hid (∀W,Bw w W→Calls prog 30 #[.agg #[.slice q1 n1 c1,.slice q2 n2 c2]] W fun e w'=>∃v,e=.returned v∧OwnQ w' W.heap.size v (allR bs++allR ss)∧Bw W w'):=fun W hW=>zGL q1 q2 n1 n2 c1 c2 bs ss W (H1.out W hW) (H2.out W hW) (zAY e1) (zAY e2) (zAd e1).2.2.1 (zAd e2).2.2.1
    have BG:Hid (∀r∈allR bs++allR ss,(Lit.int .i64 r.id).wf=true):=fun r hr=>(List.mem_append.1 hr).elim (zHS e1 r) (zHS e2 r)
    have Hi:(allR bs++allR ss).length≤120:=(by have:=zCB e1;have:=zCB e2;rw[jE];omega);have hE:zAc bs ss=if zAK (allR bs++allR ss)=true then 7 else if 60<(allR bs++allR ss).length then 4 else 0:=by unfold zAc;rw[if_pos e1,if_pos e2,if_neg (by rw[hx];simp)]
    rw[hE];clear hE hx e1 e2 H1 H2;generalize allR bs++allR ss=AR at *;have PN:=fun W v(hW:SL W v AR)=>zLF v AR W hW BG.out (by omega)
    generalize zAK AR=tw at *;cases tw
    ·rw[if_neg (by simp)]
     by_cases GA:60<AR.length
     ·rw[if_pos GA,wAb (by omega)]
      go_enter func29,ntmps29;go_wp2_with fail;rw[←hV];refine(UH V HB.out).mono ?_;rintro e w1⟨rfl,b1⟩;have He:Hid (Bw w w1):=HB.out.trans (b1.mono HB.out.size);have x0:=zAa b1 v0;have x1:=zAa b1 v1;have Hm:w.heap.size<w1.heap.size:=jC gp b1.size;clear b1 v0 v1 UH;go_wp2_with fail;refine(GX w1 He.out).mono ?_;rintro e w2⟨rfl,b2⟩;have Hg:Hid (Bw w w2):=He.out.trans (b2.mono He.out.size);have y0:=zAa b2 x0;have y1:=zAa b2 x1;have gd:w.heap.size<w2.heap.size:=jC Hm b2.size;clear b2 x0 x1 GX;go_wp2_with fail;refine(PO w2 Hg.out).mono ?_;rintro e w3⟨rfl,b3⟩;have HU:Hid (Bw w w3):=Hg.out.trans (b3.mono Hg.out.size);have z0:=zAa b3 y0;have z1:=zAa b3 y1;have uT:w.heap.size<w3.heap.size:=jC gd b3.size;clear b3 y0 y1 PO;go_wp2_with fail;refine(uj.out w3 HU.out).mono ?_;rintro e w4⟨v,rfl,hO,b4⟩;have Gd:Hid (Bw w w4):=HU.out.trans (b4.mono HU.out.size)
      obtain⟨q4,c4,rfl⟩:=OwnM.form hO;have mx:Hid (SL w4 (.slice q4 AR.length c4) AR):=OwnQ.sl hO;clear b4 z0 z1 uj hO;go_wp2_with fail;refine(PN w4 _ mx.out).mono ?_;rintro e w5⟨rfl,b5⟩;have ut:Hid (Bw w w5):=Gd.out.trans (b5.mono Gd.out.size);clear b5 PN;generalize AR.length=m at *;have hm:(60:Int)<(m:Int):=(by omega);go_wp2_with fail;go_ret;exact⟨rfl,ut.out⟩
     ·rw[if_neg GA,wAa];go_enter func29,ntmps29;go_wp2_with fail;rw[←hV];refine(UH V HB.out).mono ?_;rintro e w1⟨rfl,b1⟩;have He:Hid (Bw w w1):=HB.out.trans (b1.mono HB.out.size);have x0:=zAa b1 v0;have x1:=zAa b1 v1;have Hm:w.heap.size<w1.heap.size:=jC gp b1.size;clear b1 v0 v1 UH;go_wp2_with fail;refine(GX w1 He.out).mono ?_;rintro e w2⟨rfl,b2⟩;have Hg:Hid (Bw w w2):=He.out.trans (b2.mono He.out.size);have y0:=zAa b2 x0;have y1:=zAa b2 x1;have gd:w.heap.size<w2.heap.size:=jC Hm b2.size;clear b2 x0 x1 GX;go_wp2_with fail;refine(PO w2 Hg.out).mono ?_;rintro e w3⟨rfl,b3⟩;have HU:Hid (Bw w w3):=Hg.out.trans (b3.mono Hg.out.size);have z0:=zAa b3 y0;have z1:=zAa b3 y1;have uT:w.heap.size<w3.heap.size:=jC gd b3.size;clear b3 y0 y1 PO;go_wp2_with fail;refine(uj.out w3 HU.out).mono ?_;rintro e w4⟨v,rfl,hO,b4⟩
      have Gd:Hid (Bw w w4):=HU.out.trans (b4.mono HU.out.size);obtain⟨q4,c4,rfl⟩:=OwnM.form hO;have mx:Hid (SL w4 (.slice q4 AR.length c4) AR):=OwnQ.sl hO;clear b4 z0 z1 uj hO;go_wp2_with fail;refine(PN w4 _ mx.out).mono ?_;rintro e w5⟨rfl,b5⟩;have ut:Hid (Bw w w5):=Gd.out.trans (b5.mono Gd.out.size);clear b5 PN;generalize AR.length=m at *;have hm:¬(60:Int)<(m:Int):=(by omega);go_wp2_with fail;go_ret;exact⟨rfl,ut.out⟩
    ·rw[if_pos rfl,wAb (by omega)]
     go_enter func29,ntmps29;go_wp2_with fail;rw[←hV];refine(UH V HB.out).mono ?_;rintro e w1⟨rfl,b1⟩;have He:Hid (Bw w w1):=HB.out.trans (b1.mono HB.out.size);have x0:=zAa b1 v0;have x1:=zAa b1 v1;have Hm:w.heap.size<w1.heap.size:=jC gp b1.size;clear b1 v0 v1 UH;go_wp2_with fail;refine(GX w1 He.out).mono ?_;rintro e w2⟨rfl,b2⟩;have Hg:Hid (Bw w w2):=He.out.trans (b2.mono He.out.size);have y0:=zAa b2 x0;have y1:=zAa b2 x1;have gd:w.heap.size<w2.heap.size:=jC Hm b2.size;clear b2 x0 x1 GX;go_wp2_with fail;refine(PO w2 Hg.out).mono ?_;rintro e w3⟨rfl,b3⟩;have HU:Hid (Bw w w3):=Hg.out.trans (b3.mono Hg.out.size);have z0:=zAa b3 y0;have z1:=zAa b3 y1;have uT:w.heap.size<w3.heap.size:=jC gd b3.size;clear b3 y0 y1 PO;go_wp2_with fail;refine(uj.out w3 HU.out).mono ?_;rintro e w4⟨v,rfl,hO,b4⟩;have Gd:Hid (Bw w w4):=HU.out.trans (b4.mono HU.out.size)
     obtain⟨q4,c4,rfl⟩:=OwnM.form hO;have mx:Hid (SL w4 (.slice q4 AR.length c4) AR):=OwnQ.sl hO;clear b4 z0 z1 uj hO;go_wp2_with fail;refine(PN w4 _ mx.out).mono ?_;rintro e w5⟨rfl,b5⟩;have ut:Hid (Bw w w5):=Gd.out.trans (b5.mono Gd.out.size);clear b5 PN;go_wp2_with fail;go_ret;exact⟨rfl,ut.out⟩
   ·rw[hx] at PO;have hE:zAc bs ss=8:=(by unfold zAc;rw[if_pos e1,if_pos e2,if_pos hx]);rw[hE,wAb (by omega)]
    clear hE hx e1 e2 H1 H2;go_enter func29,ntmps29;go_wp2_with fail;rw[←hV];refine(UH V HB.out).mono ?_;rintro e w1⟨rfl,b1⟩;have He:Hid (Bw w w1):=HB.out.trans (b1.mono HB.out.size);have x0:=zAa b1 v0;have x1:=zAa b1 v1;have Hm:w.heap.size<w1.heap.size:=jC gp b1.size;clear b1 v0 v1 UH;go_wp2_with fail;refine(GX w1 He.out).mono ?_;rintro e w2⟨rfl,b2⟩;have Hg:Hid (Bw w w2):=He.out.trans (b2.mono He.out.size);have y0:=zAa b2 x0;have y1:=zAa b2 x1;have gd:w.heap.size<w2.heap.size:=jC Hm b2.size;clear b2 x0 x1 GX;go_wp2_with fail;refine(PO w2 Hg.out).mono ?_;rintro e w3⟨rfl,b3⟩;have HU:Hid (Bw w w3):=Hg.out.trans (b3.mono Hg.out.size);clear b3 y0 y1 PO;go_wp2_with fail;go_ret;exact⟨rfl,HU.out⟩
  ·have hE:zAc bs ss=schk 2 ss:=by unfold zAc;rw[if_pos e1,if_neg e2]
   rw[wAb e2] at GX;rw[hE,wAb e2];generalize schk 2 ss=k at *;clear hE e1 e2 H1 H2;go_enter func29,ntmps29;go_wp2_with fail;rw[←hV];refine(UH V HB.out).mono ?_;rintro e w1⟨rfl,b1⟩;have He:Hid (Bw w w1):=HB.out.trans (b1.mono HB.out.size);have x0:=zAa b1 v0;have x1:=zAa b1 v1;have Hm:w.heap.size<w1.heap.size:=jC gp b1.size;clear b1 v0 v1 UH;go_wp2_with fail;refine(GX w1 He.out).mono ?_;rintro e w2⟨rfl,b2⟩;have Hg:Hid (Bw w w2):=He.out.trans (b2.mono He.out.size);clear b2 x0 x1 GX;go_wp2_with fail;go_ret;exact⟨rfl,Hg.out⟩
 ·have hE:zAc bs ss=schk 1 bs:=by unfold zAc;rw[if_neg e1]
  rw[wAb e1] at UH;rw[hE,wAb e1];generalize schk 1 bs=k at *;clear hE e1 H1 H2 GX;go_enter func29,ntmps29;go_wp2_with fail;rw[←hV];refine(UH V HB.out).mono ?_;rintro e w1⟨rfl,b1⟩;have He:Hid (Bw w w1):=HB.out.trans (b1.mono HB.out.size);clear b1 v0 v1 UH;go_wp2_with fail;go_ret;exact⟨rfl,He.out⟩
theorem zAe{bs ss:List L}(h:zAc bs ss=0):schk 1 bs=0∧schk 2 ss=0∧zBs bs ss=false∧zAK (allR bs++allR ss)=false∧(allR bs++allR ss).length≤60:=by
 unfold zAc at h;by_cases h1:schk 1 bs=0
 ·rw[if_pos h1] at h;by_cases h2:schk 2 ss=0
  ·rw[if_pos h2] at h;by_cases h3:zBs bs ss=true
   ·rw[if_pos h3] at h;cases h
   ·rw[if_neg h3] at h;by_cases h4:zAK (allR bs++allR ss)=true
    ·rw[if_pos h4] at h;cases h
    ·rw[if_neg h4] at h;by_cases h5:60<(allR bs++allR ss).length
     ·rw[if_pos h5] at h;cases h
     ·exact⟨h1,h2,by simpa using h3,by simpa using h4,by omega⟩
  ·rw[if_neg h2] at h;exact absurd h h2
 ·rw[if_neg h1] at h;exact absurd h h1
theorem wAq{w:World}{q:Option Addr}{n c:Nat}{ls:List L}(h:LS w (.slice q n c) ls){i k:Nat}(hi:i<ls.length)(hk:k<ls[i].rests.length):∃b o rb ro rc r1 r2 r3 r4 r5,q=some ⟨b,o,none⟩∧b<w.heap.size∧rb<w.heap.size∧ls[i].rests[k]=⟨r1,r2,r3,r4,r5⟩∧w.cell? ⟨b,o+i*2,none⟩=some (.int .i64 ls[i].price)∧w.cell? ⟨b,o+i*2+1,none⟩=some (.slice (some ⟨rb,ro,none⟩) ls[i].rests.length rc)∧w.cell? ⟨rb,ro+k*5,none⟩=some (.int .i64 r1)∧w.cell? ⟨rb,ro+k*5+1,none⟩=some (.int .i64 r2)∧w.cell? ⟨rb,ro+k*5+2,none⟩=some (.int .i64 r3)∧w.cell? ⟨rb,ro+k*5+3,none⟩=some (.int .i64 r4)∧w.cell? ⟨rb,ro+k*5+4,none⟩=some (.int .i64 r5):=by
 rcases h with ⟨-,e⟩|⟨b,o,c',e,-,-,hb,hl⟩
 ·rw[e] at hi;simp at hi
 ·cases e;obtain⟨l,GR⟩:∃l,ls[i]=l:=⟨_,rfl⟩;obtain⟨p,zs⟩:=l;have hle2:ls[i]! = ⟨p,zs⟩:=by rw[getE _ _ hi];exact GR
  have GB:k<zs.length:=by rw[GR] at hk;exact hk
  obtain⟨q,rc,l0,l1,UE⟩:=hl.at hi hle2;obtain⟨rb,ro,hq,-,cr,dK⟩:=zFB UE GB;subst hq;obtain⟨r,hr⟩:∃r,zs[k]! = r:=⟨_,rfl⟩;obtain⟨r1,r2,r3,r4,r5⟩:=r;obtain⟨v0,v1,v2,v3,v4⟩:=zCl dK GB hr;have bi:ls[i].rests[k]=⟨r1,r2,r3,r4,r5⟩:=by
   have:ls[i].rests[k]=zs[k]:=by simp only[GR]
   rw[this,←hr,getE _ _ GB]
  refine⟨b,o,rb,ro,rc,r1,r2,r3,r4,r5,rfl,hb,cr,bi,by rw[GR];exact l0,by rw[GR];exact l1,v0,v1,v2,v3,v4⟩
theorem zFG(q1 q2:Option Addr)(n1 n2 c1 c2:Nat)(bs ss:List L)(id:Int)(hid:(Lit.int .i64 id).wf=true)(i k:Nat)(w:World)(h1:LS w (.slice q1 n1 c1) bs)(h2:LS w (.slice q2 n2 c2) ss)(h0:zAc bs ss=0)(hi:i<bs.length)(hk:k<bs[i].rests.length)(uR:zBi 1 bs id=.tuple #[.int .i64 i,.int .i64 k,.nilIface]) :
  Calls prog 13 #[.agg #[.slice q1 n1 c1,.slice q2 n2 c2],.int .i64 id] w fun e w'=>e=.returned (.tuple #[.int .i64 1,.int .i64 bs[i].price,.agg (rV bs[i].rests[k]).toArray,.nilIface])∧Bw w w':=by
 have gN:=fun W(hW:Bw w W)=>wAf q1 q2 n1 n2 c1 c2 bs ss W (h1.below hW) (h2.below hW)
 rw[h0,wAa] at gN;have UZ:=fun W(hW:Bw w W)=>wAs 1 _ bs id W (h1.below hW) hid
 rw[uR] at UZ;obtain⟨b,o,rb,ro,rc,r1,r2,r3,r4,r5,hq,GL,hrbs,bi,a0,a1,z0,z1,z2,z3,z4⟩:=wAq h1 hi hk;rw[bi];show Calls _ _ _ _ fun e w'=>e=.returned (.tuple #[.int .i64 1,.int .i64 bs[i].price,.agg #[.int .i64 r1,.int .i64 r2,.int .i64 r3,.int .i64 r4,.int .i64 r5],.nilIface])∧Bw w w'
 have Ht:i<n1:=by rw[zEl h1];exact hi
 obtain⟨ee1,ee2,-⟩:=zAe h0;have Ps:n1≤60:=by have:=zFg (zAY ee1);have:=(zAd ee1).2.2.1;rw[zEl h1];omega
 have EM:bs[i].rests.length≤60:=by have:=zAV (jT hi);have:=(zAd ee1).2.2.1;omega
 clear bi;generalize bs[i].price=p at *;generalize mi:bs[i].rests.length=m at *;subst hq;obtain⟨V,hV⟩:∃V,V=(w.alloc (.cells #[.slice (some ⟨b,o,none⟩) n1 c1,.slice q2 n2 c2] 50)).alloc (.cells #[.int .i64 0,.int .i64 0,.int .i64 0,.int .i64 0,.int .i64 0] 54):=⟨_,rfl⟩;have HB:Hid (Bw w V):=by rw[hV];exact((bzR _ _).alloc (nzR _) _).alloc (by simp) _
 have v0:V.cell? ⟨w.heap.size,0,none⟩=some (.slice (some ⟨b,o,none⟩) n1 c1):=by rw[hV];simp[go_sem]
 have v1:V.cell? ⟨w.heap.size,1,none⟩=some (.slice q2 n2 c2):=by rw[hV];simp[go_sem]
 have hR:V.heap[w.heap.size+1]?=some (.cells #[.int .i64 0,.int .i64 0,.int .i64 0,.int .i64 0,.int .i64 0] 54 (0,0)):=by
  rw[hV];have:=jA (w.alloc (.cells #[.slice (some ⟨b,o,none⟩) n1 c1,.slice q2 n2 c2] 50)) (.cells #[.int .i64 0,.int .i64 0,.int .i64 0,.int .i64 0,.int .i64 0] 54);simpa using this
 have gp:w.heap.size+1<V.heap.size:=(gzE.1 hR).1;have SO:Hid (∀W,Bw w W→(Bw w W∧W.cell? ⟨b,o+i*2,none⟩=some (.int .i64 p)∧W.cell? ⟨b,o+i*2+1,none⟩=some (.slice (some ⟨rb,ro,none⟩) m rc)∧W.cell? ⟨rb,ro+k*5,none⟩=some (.int .i64 r1)∧W.cell? ⟨rb,ro+k*5+1,none⟩=some (.int .i64 r2)∧W.cell? ⟨rb,ro+k*5+2,none⟩=some (.int .i64 r3)∧W.cell? ⟨rb,ro+k*5+3,none⟩=some (.int .i64 r4)∧W.cell? ⟨rb,ro+k*5+4,none⟩=some (.int .i64 r5))):=fun W hW=>⟨hW,zAa hW a0,zAa hW a1,zAa hW z0,zAa hW z1,zAa hW z2,zAa hW z3,zAa hW z4⟩
 clear h1 h2 h0 a0 a1 z0 z1 z2 z3 z4 uR ee1 ee2 hid mi;have i0:¬((i:Int)<0):=by omega
 have i1:(i:Int)<(n1:Int):=by omega
 have i4:(0:Int)≤(i:Int):=by omega
 have k0:¬((k:Int)<0):=by omega
 have k1:(k:Int)<(m:Int):=by omega
 have k4:(0:Int)≤(k:Int):=by omega
 go_enter func13,ntmps13;go_wp2_with fail;rw[←hV];refine(gN V HB.out).mono ?_;rintro x w1⟨rfl,b1⟩;have He:Hid (Bw w w1):=HB.out.trans (b1.mono HB.out.size);have x0:=zAa b1 v0;have x1:=zAa b1 v1;have gc:w1.heap[w.heap.size+1]?=some (.cells #[.int .i64 0,.int .i64 0,.int .i64 0,.int .i64 0,.int .i64 0] 54 (0,0)):=by rw[b1.block _ gp];exact hR
 have Hm:w.heap.size+1<w1.heap.size:=jC gp b1.size;clear b1 gN v0 v1 hR;go_wp2_with fail;go_loopg [9,10,11,12,13] 2 (fun _ s9 _ _ _ _ wr=>s9=.int .i64 1∧wr=w1)
 case atStart=>exact⟨rfl,rfl⟩
 case round=>
  obtain⟨rfl,rfl⟩:=hrel;have d0:=x0;have d1:=x1;have gq:=He;go_wp2_with fail;refine(zAw 1 (some ⟨b,o,none⟩) q2 n1 n2 c1 c2 wr).mono ?_;rintro x w2⟨rfl,b2⟩;rw[show (if (1:Int)=1 then Value.slice (some ⟨b,o,none⟩) n1 c1 else .slice q2 n2 c2)=.slice (some ⟨b,o,none⟩) n1 c1 from rfl]
  have Hg:Hid (Bw wr w2):=b2;clear b2;go_wp2_with fail;refine(UZ w2 (gq.out.trans (Hg.out.mono gq.out.size))).mono ?_;rintro x w3⟨rfl,b3⟩;have HU:Hid (Bw wr w3):=Hg.out.trans (b3.mono Hg.out.size);have gI:Hid (Bw w w3):=gq.out.trans (HU.out.mono gq.out.size);have Gu:w3.heap[w.heap.size+1]?=some (.cells #[.int .i64 0,.int .i64 0,.int .i64 0,.int .i64 0,.int .i64 0] 54 (0,0)):=by rw[HU.out.block _ Hm];exact gc
  clear b3 UZ d0 d1 gc;obtain⟨e0,e1,e2,e3,e4,gB⟩:=zAi Gu;have f0:=gB 0;have f1:=gB 1;have f2:=gB 2;have f3:=gB 3;have f4:=gB 4;have Hk:=gI.out;have Hy:Hid ((((((w3.setCell ⟨w.heap.size+1,0,none⟩ (.int .i64 r1)).setCell ⟨w.heap.size+1,1,none⟩ (.int .i64 r2)).setCell ⟨w.heap.size+1,2,none⟩ (.int .i64 r3)).setCell ⟨w.heap.size+1,3,none⟩ (.int .i64 r4)).setCell ⟨w.heap.size+1,4,none⟩ (.int .i64 r5)).heap[w.heap.size+1]?=some (.cells #[.int .i64 r1,.int .i64 r2,.int .i64 r3,.int .i64 r4,.int .i64 r5] 54 (0,0))):=zBb Gu _ _ _ _ _
  have Gh:Bw w (((((w3.setCell ⟨w.heap.size+1,0,none⟩ (.int .i64 r1)).setCell ⟨w.heap.size+1,1,none⟩ (.int .i64 r2)).setCell ⟨w.heap.size+1,2,none⟩ (.int .i64 r3)).setCell ⟨w.heap.size+1,3,none⟩ (.int .i64 r4)).setCell ⟨w.heap.size+1,4,none⟩ (.int .i64 r5)):=((((Hk.setCell (Nat.le_succ _) _).setCell (Nat.le_succ _) _).setCell (Nat.le_succ _) _).setCell (Nat.le_succ _) _).setCell (Nat.le_succ _) _
  have po:Hid (Bw w (((((w3.setCell ⟨w.heap.size+1,0,none⟩ (.int .i64 r1)).setCell ⟨w.heap.size+1,1,none⟩ (.int .i64 r2)).setCell ⟨w.heap.size+1,2,none⟩ (.int .i64 r3)).setCell ⟨w.heap.size+1,3,none⟩ (.int .i64 r4)).setCell ⟨w.heap.size+1,4,none⟩ (.int .i64 r5))∧Bw w (((((w3.setCell ⟨w.heap.size+1,0,none⟩ (.int .i64 r1)).setCell ⟨w.heap.size+1,1,none⟩ (.int .i64 r2)).setCell ⟨w.heap.size+1,2,none⟩ (.int .i64 r3)).setCell ⟨w.heap.size+1,3,none⟩ (.int .i64 r4)).setCell ⟨w.heap.size+1,4,none⟩ (.int .i64 r5)).drew):=⟨Gh,Gh.drew⟩;clear gB Gu Gh;go_upto_region 10 with fail
  go_region_held3 (fun W=>Below w.heap.size w W∧W.cell? ⟨b,o+i*2,none⟩=some (.int .i64 p)∧W.cell? ⟨b,o+i*2+1,none⟩=some (.slice (some ⟨rb,ro,none⟩) m rc)∧W.cell? ⟨rb,ro+k*5,none⟩=some (.int .i64 r1)∧W.cell? ⟨rb,ro+k*5+1,none⟩=some (.int .i64 r2)∧W.cell? ⟨rb,ro+k*5+2,none⟩=some (.int .i64 r3)∧W.cell? ⟨rb,ro+k*5+3,none⟩=some (.int .i64 r4)∧W.cell? ⟨rb,ro+k*5+4,none⟩=some (.int .i64 r5))
   ((refine SO.out _ ?_;(with_reducible repeat' (first|assumption|refine bal ?_ _|refine Below.setCell ?_ ?_ _|refine Below.drew ?_|exact bzR _ _|exact nzR _|exact Nat.le_succ _|exact Below.size (by assumption)|refine jD ?_))))
   (fail)
  go_wp2_with fail;generalize (((((w3.setCell ⟨w.heap.size+1,0,none⟩ (.int .i64 r1)).setCell ⟨w.heap.size+1,1,none⟩ (.int .i64 r2)).setCell ⟨w.heap.size+1,2,none⟩ (.int .i64 r3)).setCell ⟨w.heap.size+1,3,none⟩ (.int .i64 r4)).setCell ⟨w.heap.size+1,4,none⟩ (.int .i64 r5))=X at *;obtain⟨y0,y1,y2,y3,y4,-⟩:=zAi Hy.out;first|exact jN (v:=.tuple #[.int .i64 1,.int .i64 p,.agg #[.int .i64 r1,.int .i64 r2,.int .i64 r3,.int .i64 r4,.int .i64 r5],.nilIface]) (by simp[results,results13,go_sem,y0,y1,y2,y3,y4]) rfl ⟨rfl,po.out.2⟩|exact jN (v:=.tuple #[.int .i64 1,.int .i64 p,.agg #[.int .i64 r1,.int .i64 r2,.int .i64 r3,.int .i64 r4,.int .i64 r5],.nilIface]) (by simp[results,results13,go_sem,y0,y1,y2,y3,y4]) rfl ⟨rfl,po.out.1⟩
theorem zFH(q1 q2:Option Addr)(n1 n2 c1 c2:Nat)(bs ss:List L)(id:Int)(hid:(Lit.int .i64 id).wf=true)(i k:Nat)(w:World)(h1:LS w (.slice q1 n1 c1) bs)(h2:LS w (.slice q2 n2 c2) ss)(h0:zAc bs ss=0)(ph:zAE 1 bs id=5)(hi:i<ss.length)(hk:k<ss[i].rests.length)(uR:zBi 2 ss id=.tuple #[.int .i64 i,.int .i64 k,.nilIface]) :
  Calls prog 13 #[.agg #[.slice q1 n1 c1,.slice q2 n2 c2],.int .i64 id] w fun e w'=>e=.returned (.tuple #[.int .i64 2,.int .i64 ss[i].price,.agg (rV ss[i].rests[k]).toArray,.nilIface])∧Bw w w':=by
 have gN:=fun W(hW:Bw w W)=>wAf q1 q2 n1 n2 c1 c2 bs ss W (h1.below hW) (h2.below hW)
 rw[h0,wAa] at gN;have UZ:=fun W(hW:Bw w W)=>wAs 2 _ ss id W (h2.below hW) hid
 rw[uR] at UZ;have G5:=fun W(hW:Bw w W)=>wAs 1 _ bs id W (h1.below hW) hid
 rw[show zBi 1 bs id=.tuple #[.int .i64 0,.int .i64 0,.iface 80 (.int .i64 5)] from by unfold zBi zBk;rw[if_neg (by omega),ph];rfl] at G5
 obtain⟨b,o,rb,ro,rc,r1,r2,r3,r4,r5,hq,GL,hrbs,bi,a0,a1,z0,z1,z2,z3,z4⟩:=wAq h2 hi hk;rw[bi];show Calls _ _ _ _ fun e w'=>e=.returned (.tuple #[.int .i64 2,.int .i64 ss[i].price,.agg #[.int .i64 r1,.int .i64 r2,.int .i64 r3,.int .i64 r4,.int .i64 r5],.nilIface])∧Bw w w'
 have Ht:i<n2:=by rw[zEl h2];exact hi
 obtain⟨ee1,ee2,-⟩:=zAe h0;have Ps:n2≤60:=by have:=zFg (zAY ee2);have:=(zAd ee2).2.2.1;rw[zEl h2];omega
 have EM:ss[i].rests.length≤60:=by have:=zAV (jT hi);have:=(zAd ee2).2.2.1;omega
 clear bi;generalize ss[i].price=p at *;generalize mi:ss[i].rests.length=m at *;subst hq;obtain⟨V,hV⟩:∃V,V=(w.alloc (.cells #[.slice q1 n1 c1,.slice (some ⟨b,o,none⟩) n2 c2] 50)).alloc (.cells #[.int .i64 0,.int .i64 0,.int .i64 0,.int .i64 0,.int .i64 0] 54):=⟨_,rfl⟩;have HB:Hid (Bw w V):=by rw[hV];exact((bzR _ _).alloc (nzR _) _).alloc (by simp) _
 have v0:V.cell? ⟨w.heap.size,0,none⟩=some (.slice q1 n1 c1):=by rw[hV];simp[go_sem]
 have v1:V.cell? ⟨w.heap.size,1,none⟩=some (.slice (some ⟨b,o,none⟩) n2 c2):=by rw[hV];simp[go_sem]
 have hR:V.heap[w.heap.size+1]?=some (.cells #[.int .i64 0,.int .i64 0,.int .i64 0,.int .i64 0,.int .i64 0] 54 (0,0)):=by
  rw[hV];have:=jA (w.alloc (.cells #[.slice q1 n1 c1,.slice (some ⟨b,o,none⟩) n2 c2] 50)) (.cells #[.int .i64 0,.int .i64 0,.int .i64 0,.int .i64 0,.int .i64 0] 54);simpa using this
 have gp:w.heap.size+1<V.heap.size:=(gzE.1 hR).1;have SO:Hid (∀W,Bw w W→(Bw w W∧W.cell? ⟨b,o+i*2,none⟩=some (.int .i64 p)∧W.cell? ⟨b,o+i*2+1,none⟩=some (.slice (some ⟨rb,ro,none⟩) m rc)∧W.cell? ⟨rb,ro+k*5,none⟩=some (.int .i64 r1)∧W.cell? ⟨rb,ro+k*5+1,none⟩=some (.int .i64 r2)∧W.cell? ⟨rb,ro+k*5+2,none⟩=some (.int .i64 r3)∧W.cell? ⟨rb,ro+k*5+3,none⟩=some (.int .i64 r4)∧W.cell? ⟨rb,ro+k*5+4,none⟩=some (.int .i64 r5))):=fun W hW=>⟨hW,zAa hW a0,zAa hW a1,zAa hW z0,zAa hW z1,zAa hW z2,zAa hW z3,zAa hW z4⟩
 clear h1 h2 h0 a0 a1 z0 z1 z2 z3 z4 uR ee1 ee2 hid mi;have i0:¬((i:Int)<0):=by omega
 have i1:(i:Int)<(n2:Int):=by omega
 have i4:(0:Int)≤(i:Int):=by omega
 have k0:¬((k:Int)<0):=by omega
 have k1:(k:Int)<(m:Int):=by omega
 have k4:(0:Int)≤(k:Int):=by omega
 go_enter func13,ntmps13;go_wp2_with fail;rw[←hV];refine(gN V HB.out).mono ?_;rintro x w1⟨rfl,b1⟩;have He:Hid (Bw w w1):=HB.out.trans (b1.mono HB.out.size);have x0:=zAa b1 v0;have x1:=zAa b1 v1;have gc:w1.heap[w.heap.size+1]?=some (.cells #[.int .i64 0,.int .i64 0,.int .i64 0,.int .i64 0,.int .i64 0] 54 (0,0)):=by rw[b1.block _ gp];exact hR
 have Hm:w.heap.size+1<w1.heap.size:=jC gp b1.size;clear b1 gN v0 v1 hR;go_wp2_with fail;go_loopg [9,10,11,12,13] 2 (fun gg s9 _ _ _ _ wr=>((s9=.int .i64 1∧2≤gg)∨s9=.int .i64 2)∧Aside (Below w1.heap.size w1 wr))
 case atStart=>exact⟨.inl ⟨rfl,nzR _⟩,bzR _ _⟩
 case round=>
  obtain⟨EY,BW⟩:=hrel;have d0:=zAa BW.out x0;have d1:=zAa BW.out x1;have gq:Hid (Bw w wr):=He.out.trans (BW.out.mono He.out.size);have hsr:w.heap.size+1<wr.heap.size:=jC Hm BW.out.size;rcases EY with ⟨rfl,hgk⟩|rfl
  ·have bR:1<gk:=by omega
   go_wp2_with fail;refine(zAw 1 q1 (some ⟨b,o,none⟩) n1 n2 c1 c2 wr).mono ?_;rintro x w2⟨rfl,b2⟩;rw[show (if (1:Int)=1 then Value.slice q1 n1 c1 else .slice (some ⟨b,o,none⟩) n2 c2)=.slice q1 n1 c1 from rfl]
   have Hg:Hid (Bw wr w2):=b2;clear b2;go_wp2_with fail;refine(G5 w2 (gq.out.trans (Hg.out.mono gq.out.size))).mono ?_;rintro x w3⟨rfl,b3⟩;have HU:Hid (Bw w1 w3):=BW.out.trans ((Hg.out.trans (b3.mono Hg.out.size)).mono BW.out.size);clear b3 G5 UZ d0 d1;go_wp2_with fail;go_roundg 1
   case measure=>exact bR
   case rel=>exact⟨.inr rfl,HU.out⟩
  ·go_wp2_with fail;refine(zAw 2 q1 (some ⟨b,o,none⟩) n1 n2 c1 c2 wr).mono ?_;rintro x w2⟨rfl,b2⟩;rw[show (if (2:Int)=1 then Value.slice q1 n1 c1 else .slice (some ⟨b,o,none⟩) n2 c2)=.slice (some ⟨b,o,none⟩) n2 c2 from rfl]
   have Hg:Hid (Bw wr w2):=b2;clear b2;go_wp2_with fail;refine(UZ w2 (gq.out.trans (Hg.out.mono gq.out.size))).mono ?_;rintro x w3⟨rfl,b3⟩;have HU:Hid (Bw w1 w3):=BW.out.trans ((Hg.out.trans (b3.mono Hg.out.size)).mono BW.out.size);have gI:Hid (Bw w w3):=He.out.trans (HU.out.mono He.out.size);have Gu:w3.heap[w.heap.size+1]?=some (.cells #[.int .i64 0,.int .i64 0,.int .i64 0,.int .i64 0,.int .i64 0] 54 (0,0)):=by rw[HU.out.block _ Hm];exact gc
   clear b3 UZ G5 d0 d1 gc;obtain⟨e0,e1,e2,e3,e4,gB⟩:=zAi Gu;have f0:=gB 0;have f1:=gB 1;have f2:=gB 2;have f3:=gB 3;have f4:=gB 4;have Hk:=gI.out;have Hy:Hid ((((((w3.setCell ⟨w.heap.size+1,0,none⟩ (.int .i64 r1)).setCell ⟨w.heap.size+1,1,none⟩ (.int .i64 r2)).setCell ⟨w.heap.size+1,2,none⟩ (.int .i64 r3)).setCell ⟨w.heap.size+1,3,none⟩ (.int .i64 r4)).setCell ⟨w.heap.size+1,4,none⟩ (.int .i64 r5)).heap[w.heap.size+1]?=some (.cells #[.int .i64 r1,.int .i64 r2,.int .i64 r3,.int .i64 r4,.int .i64 r5] 54 (0,0))):=zBb Gu _ _ _ _ _
   have Gh:Bw w (((((w3.setCell ⟨w.heap.size+1,0,none⟩ (.int .i64 r1)).setCell ⟨w.heap.size+1,1,none⟩ (.int .i64 r2)).setCell ⟨w.heap.size+1,2,none⟩ (.int .i64 r3)).setCell ⟨w.heap.size+1,3,none⟩ (.int .i64 r4)).setCell ⟨w.heap.size+1,4,none⟩ (.int .i64 r5)):=((((Hk.setCell (Nat.le_succ _) _).setCell (Nat.le_succ _) _).setCell (Nat.le_succ _) _).setCell (Nat.le_succ _) _).setCell (Nat.le_succ _) _
   have po:Hid (Bw w (((((w3.setCell ⟨w.heap.size+1,0,none⟩ (.int .i64 r1)).setCell ⟨w.heap.size+1,1,none⟩ (.int .i64 r2)).setCell ⟨w.heap.size+1,2,none⟩ (.int .i64 r3)).setCell ⟨w.heap.size+1,3,none⟩ (.int .i64 r4)).setCell ⟨w.heap.size+1,4,none⟩ (.int .i64 r5))∧Bw w (((((w3.setCell ⟨w.heap.size+1,0,none⟩ (.int .i64 r1)).setCell ⟨w.heap.size+1,1,none⟩ (.int .i64 r2)).setCell ⟨w.heap.size+1,2,none⟩ (.int .i64 r3)).setCell ⟨w.heap.size+1,3,none⟩ (.int .i64 r4)).setCell ⟨w.heap.size+1,4,none⟩ (.int .i64 r5)).drew):=⟨Gh,Gh.drew⟩;clear gB Gu Gh;go_upto_region 10 with fail
   go_region_held3 (fun W=>Below w.heap.size w W∧W.cell? ⟨b,o+i*2,none⟩=some (.int .i64 p)∧W.cell? ⟨b,o+i*2+1,none⟩=some (.slice (some ⟨rb,ro,none⟩) m rc)∧W.cell? ⟨rb,ro+k*5,none⟩=some (.int .i64 r1)∧W.cell? ⟨rb,ro+k*5+1,none⟩=some (.int .i64 r2)∧W.cell? ⟨rb,ro+k*5+2,none⟩=some (.int .i64 r3)∧W.cell? ⟨rb,ro+k*5+3,none⟩=some (.int .i64 r4)∧W.cell? ⟨rb,ro+k*5+4,none⟩=some (.int .i64 r5))
    ((refine SO.out _ ?_;(with_reducible repeat' (first|assumption|refine bal ?_ _|refine Below.setCell ?_ ?_ _|refine Below.drew ?_|exact bzR _ _|exact nzR _|exact Nat.le_succ _|exact Below.size (by assumption)|refine jD ?_))))
    (fail)
   go_wp2_with fail;generalize (((((w3.setCell ⟨w.heap.size+1,0,none⟩ (.int .i64 r1)).setCell ⟨w.heap.size+1,1,none⟩ (.int .i64 r2)).setCell ⟨w.heap.size+1,2,none⟩ (.int .i64 r3)).setCell ⟨w.heap.size+1,3,none⟩ (.int .i64 r4)).setCell ⟨w.heap.size+1,4,none⟩ (.int .i64 r5))=X at *;obtain⟨y0,y1,y2,y3,y4,-⟩:=zAi Hy.out;first|exact jN (v:=.tuple #[.int .i64 2,.int .i64 p,.agg #[.int .i64 r1,.int .i64 r2,.int .i64 r3,.int .i64 r4,.int .i64 r5],.nilIface]) (by simp[results,results13,go_sem,y0,y1,y2,y3,y4]) rfl ⟨rfl,po.out.2⟩|exact jN (v:=.tuple #[.int .i64 2,.int .i64 p,.agg #[.int .i64 r1,.int .i64 r2,.int .i64 r3,.int .i64 r4,.int .i64 r5],.nilIface]) (by simp[results,results13,go_sem,y0,y1,y2,y3,y4]) rfl ⟨rfl,po.out.1⟩
end bok
end Go.Proofs.YtmhcghgfpfainaaGreatDoor
