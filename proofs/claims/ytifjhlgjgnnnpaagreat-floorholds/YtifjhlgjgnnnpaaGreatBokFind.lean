import Derived.Test.YtifjhlgjgnnnpaaGreatBokRests
import Derived.Maps.OwnSet
import Derived.Deep.RegionHeld3
set_option maxHeartbeats 4000000
set_option maxRecDepth 100000
namespace Go.Proofs.YtifjhlgjgnnnpaaGreat
namespace bok
open Go.RowKit spn que sid Go.Maps
def rsD(r:R):DataW Unit:=.agg [.lit (.int .i64 r.id),.lit (.int .i64 r.who),.lit (.int .i64 r.qty),.lit (.int .i64 r.hid),.lit (.int .i64 r.shw)]
def rsR(v:Value):Option (DataW Unit × List MemPlace):=
 match v with
 | .agg a=>match a.toList with
  | [.int .i64 x0,.int .i64 x1,.int .i64 x2,.int .i64 x3,.int .i64 x4]=>some (rsD ⟨x0,x1,x2,x3,x4⟩,[])
  | _=>none
 | _=>none
theorem rsR_mk(a b c d e:Int):rsR (.agg #[.int .i64 a,.int .i64 b,.int .i64 c,.int .i64 d,.int .i64 e])=some (rsD ⟨a,b,c,d,e⟩,[]):=rfl
def mapR(zs:List R):DataW Unit:=zs.foldl (fun D x=>D.put (.int .i64 x.id) (rsD x)) (.map [])
theorem zCu(zs:List R)(x:R):mapR (zs++[x])=(mapR zs).put (.int .i64 x.id) (rsD x):=by unfold mapR;rw[List.foldl_append];rfl
theorem zEf(zs:List R):Tidy (mapR zs):=by
 induction zs using zCe with
 | nil=>exact tidy_empty
 | snoc zs x ih=>rw[zCu];exact ih.put (zJS _) _
theorem zNh(zs:List R)(id:Int):Maps.has (mapR zs) (.int .i64 id)=zs.any (fun x=>decide (x.id=id)):=by
 induction zs using zCe with
 | nil=>rfl
 | snoc zs x ih=>
  rw[zCu,List.any_append]
  by_cases h:x.id=id
  ·rw[←h,has_put_same (zEf zs).isMap (zJS _)];simp
  ·rw[has_put_other (by simp;exact fun e=>h e.symm),ih];simp[h]
theorem zKr(zs:List R):Maps.size (mapR zs)≤zs.length:=by
 induction zs using zCe with
 | nil=>exact nzR _
 | snoc zs x ih=>rw[zCu,size_put (zEf zs)];simp;split <;>omega
theorem zKs(zs:List R):Maps.size (mapR zs)=zs.length↔(zs.map (·.id)).Nodup:=by
 induction zs using zCe with
 | nil=>simp[mapR,Maps.size]
 | snoc zs x ih=>
  rw[zCu,size_put (zEf zs),zNh]
  have hle:=zKr zs
  rw[jF,List.nodup_append,jE]
  by_cases h:zs.any (fun y=>decide (y.id=x.id))=true
  ·rw[if_pos h]
   constructor
   ·intro e;simp at e;omega
   ·rintro⟨-,-,h3⟩
    obtain⟨y,hy,e⟩:=List.any_eq_true.1 h
    exact absurd (of_decide_eq_true e) (h3 y.id (List.mem_map.2 ⟨y,hy,rfl⟩) x.id (by simp))
  ·rw[if_neg h]
   constructor
   ·intro e
    refine⟨ih.1 (by simp at e;omega),by simp,?_⟩
    intro a ha b hb e2
    obtain⟨y,hy,rfl⟩:=List.mem_map.1 ha
    simp at hb
    exact h (List.any_eq_true.2 ⟨y,hy,by simp[e2,hb]⟩)
   ·rintro⟨h1,-,-⟩
    rw[ih.2 h1];simp
def OwnR(W:World)(B:Nat)(zs:List R):Prop:=W.ownsMap Tryz.prog 3 rsR B zs.length (mapR zs)
theorem OwnR.snoc{W:World}{B:Nat}{zs:List R}{x:R}(h:W.ownsMap Tryz.prog 3 rsR B (zs.length+1) ((mapR zs).put (.int .i64 x.id) (rsD x))):OwnR W B (zs++[x]):=by
 unfold OwnR;rw[zCu,jE];exact h
def zAL(zs:List R):Bool:=decide (¬(zs.map (·.id)).Nodup)
theorem zIG(zs:List R):decide ((Maps.size (mapR zs):Int)<(zs.length:Int))=zAL zs:=by
 have h1:=zKr zs
 have h2:=zKs zs
 unfold zAL
 by_cases h:(zs.map (·.id)).Nodup
 ·have:=h2.2 h
  rw[decide_eq_false (by omega),decide_eq_false (by simp[h])]
 ·have:¬Maps.size (mapR zs)=zs.length:=fun e=>h (h2.1 e)
  rw[decide_eq_true (by omega),decide_eq_true h]
theorem zIH(b o c:Nat)(zs:List R)(w:World)(hb:b<w.heap.size)(hl:Lies w b o zs)(hwf:∀r∈zs,(Lit.int .i64 r.id).wf=true)(hn:zs.length≤1000) :
  Calls Tryz.prog 35 #[.slice (some ⟨b,o,none⟩) zs.length c] w fun e w'=>e=.returned (.bool (zAL zs))∧Below w.heap.size w w':=by
 have HL:Hid (Lies w b o zs):=hl
 have HWF:Hid (∀r∈zs,(Lit.int .i64 r.id).wf=true):=hwf
 have HT:Hid (decide ((Maps.size (mapR zs):Int)<(zs.length:Int))=zAL zs):=zIG zs
 generalize zAL zs=tw at *
 generalize hN:zs.length=n at *
 have HN:Hid (zs.length=n):=hN
 clear hl hwf hN
 have hmm:=@run_makeMap Tryz.prog
 go_enter Tryz.func35,Tryz.ntmps35
 go_wp2_with fail
 go_loopg [5,9] n (fun gg _ s9 wr=>∃kk:Nat,kk≤n∧n - kk≤gg∧s9=.int .i64 kk∧Aside (Below w.heap.size w wr)∧Aside (OwnR wr w.heap.size (zs.take kk)))
 case atStart=>exact⟨0,jL _,by omega,rfl,(bzR _ _).alloc (nzR _) _,World.ownsMap_made _ _ _ _⟩
 case round=>
  obtain⟨kk,hkk,hg,rfl,BW,OW⟩:=hrel
  by_cases hlt:kk<n
  ·have hltz:(kk:Int)<(n:Int):=by omega
   have hlz:kk<zs.length:=by rw[HN.out];exact hlt
   have hin1:¬((kk:Int)<0):=by omega
   have hbw:b<wr.heap.size:=jC hb BW.out.size
   obtain⟨r,hr⟩:∃r,zs[kk]! = r:=⟨_,rfl⟩
   obtain⟨r1,r2,r3,r4,r5⟩:=r
   obtain⟨d0,d1,d2,d3,d4⟩:=zCt (HL.out.below hb BW.out) hlz hr
   have hwf1:(Lit.int .i64 r1).wf=true:=by
    have:=HWF.out zs[kk]! (by rw[getE _ _ hlz];exact jT hlz)
    rw[hr] at this
    exact this
   have hkey:keyOf Tryz.prog 3 (.int .i64 r1)=some (.int .i64 r1):=keyOf_int_mk Tryz.underlying3 hwf1
   have HTK:Hid (zs.take (kk+1)=zs.take kk++[⟨r1,r2,r3,r4,r5⟩]):=by
    show _=_
    rw[zDV hlz,hr]
   have HN2:(zs.take kk).length<maxLen:=by rw[jJ];unfold maxLen;omega
   have HB2:Hid (Below w.heap.size w (wr.alloc (.cells #[.int .i64 r1,.int .i64 r2,.int .i64 r3,.int .i64 r4,.int .i64 r5] 54))):=BW.out.alloc BW.out.size _
   have HO2:Hid ((wr.alloc (.cells #[.int .i64 r1,.int .i64 r2,.int .i64 r3,.int .i64 r4,.int .i64 r5] 54)).ownsMap Tryz.prog 3 rsR w.heap.size (zs.take kk).length (mapR (zs.take kk))):=World.ownsMap.alloc OW.out _
   clear hr hwf1
   generalize hps:zs.take kk=PS at *
   go_wp2_with (at_mapUpdate;refine wpList_mapUpdate_own _ rfl _ _ _ 124 rfl 3 54 lawI Tryz.underlying124 rsR w.heap.size PS.length (mapR PS) rfl HO2.out HN2 _ _ _ rfl rfl hkey _ [] (rsR_mk _ _ _ _ _) ?_;intro w1 hown1 hgrow1)
   have H1:Hid (OwnR w1 w.heap.size (zs.take (kk+1))):=by
    rw[HTK.out]
    exact OwnR.snoc hown1
   have H2:Hid (Below w.heap.size w w1):=HB2.out.grown hgrow1 HB2.out.size (fun k hk=>by cases hk;exact nzR _)
   clear hown1 hgrow1 HB2 HO2
   go_wp2_with fail
   go_roundg (n - (kk+1))
   case measure=>omega
   case rel=>exact⟨kk+1,by omega,by omega,by go_num,H2.out,H1.out⟩
  ·have hltz:¬(kk:Int)<(n:Int):=by omega
   have hown:wr.ownsMap Tryz.prog 3 rsR w.heap.size zs.length (mapR zs):=by
    have:=OW.out
    rwa [List.take_of_length_le (by rw[HN.out];omega)] at this
   obtain⟨z,hz⟩:∃z,z=Maps.size (mapR zs):=⟨_,rfl⟩
   have hsz:=hz.symm
   have HT2:Hid (decide ((z:Int)<(n:Int))=tw):=by rw[hz];exact HT.out
   clear hz
   generalize mapR zs=MR at hown hsz
   go_wp2_with (at_len;refine wpList_len_own _ rfl _ 124 rfl 3 54 Tryz.underlying124 rsR w.heap.size _ _ rfl hown ?_;rw[hsz])
   go_ret
   refine⟨?_,BW.out⟩
   rw[←HT2.out]
   simp
theorem zKt(w:World) :
  Calls Tryz.prog 35 #[.slice none 0 0] w fun e w'=>e=.returned (.bool false)∧Below w.heap.size w w':=by
 have hmm:=@run_makeMap Tryz.prog
 go_enter Tryz.func35,Tryz.ntmps35
 go_wp2_with fail
 have hown:(w.alloc (.map #[] 0)).ownsMap Tryz.prog 3 rsR w.heap.size 0 (.map []):=World.ownsMap_made _ _ _ _
 have hB:Below w.heap.size w (w.alloc (.map #[] 0)):=(bzR _ _).alloc (nzR _) _
 have hsz:Maps.size (.map []:DataW Unit)=0:=rfl
 generalize w.alloc (.map #[] 0)=V at *
 go_loopg [5,9] 0 (fun _ _ s9 wr=>s9=.int .i64 0∧wr=V)
 case atStart=>exact⟨rfl,rfl⟩
 case round=>
  obtain⟨rfl,rfl⟩:=hrel
  go_wp2_with (at_len;refine wpList_len_own _ rfl _ 124 rfl 3 54 Tryz.underlying124 rsR w.heap.size _ _ rfl hown ?_;rw[hsz])
  go_ret
  exact⟨rfl,hB⟩
theorem zKu(v:Value)(zs:List R)(w:World)(h:SL w v zs)(hwf:∀r∈zs,(Lit.int .i64 r.id).wf=true)(hn:zs.length≤1000) :
  Calls Tryz.prog 35 #[v] w fun e w'=>e=.returned (.bool (zAL zs))∧Below w.heap.size w w':=by
 rcases h with ⟨rfl,rfl⟩|⟨b,o,c,rfl,h2,h3,h4,h5⟩
 ·exact zKt w
 ·exact zIH b o c zs w h4 h5 hwf hn
end bok
namespace bok
open Go.RowKit spn que sid
def zAd(bs ss:List L):Int:=
 if schk 1 bs=0 then (if schk 2 ss=0 then (if zBr bs ss=true then 8 else if zAL (allR bs++allR ss)=true then 7 else if 60<(allR bs++allR ss).length then 4 else 0) else schk 2 ss) else schk 1 bs
theorem zBd{s:Int}{ls:List L}(h:schk s ls=0):∀l∈ls,l.rests≠[]:=fun l hl=>(zAg (zAs (zAc h).2.1 l hl)).2.1
theorem zHg{s:Int}{ls:List L}(h:schk s ls=0):∀r∈allR ls,(Lit.int .i64 r.id).wf=true:=fun r hr=>by
 obtain⟨l,hl,hrl⟩:=List.mem_flatMap.1 hr
 exact id_wf (zAg (zAs (zAc h).2.1 l hl)).2.2 hrl
theorem zCG{s:Int}{ls:List L}(h:schk s ls=0):(allR ls).length≤60:=by
 have:=(zAc h).2.2.1
 rw[zAQ] at this
 omega
theorem check_any(q1 q2:Option Addr)(n1 n2 c1 c2:Nat)(bs ss:List L)(w:World)(h1:LS w (.slice q1 n1 c1) bs)(h2:LS w (.slice q2 n2 c2) ss) :
  Calls Tryz.prog 11 #[.agg #[.slice q1 n1 c1,.slice q2 n2 c2]] w fun e w'=>e=.returned (errV (zAd bs ss))∧Below w.heap.size w w':=by
 have H1:Hid (∀W,Below w.heap.size w W→LS W (.slice q1 n1 c1) bs):=fun W hW=>h1.below hW
 have H2:Hid (∀W,Below w.heap.size w W→LS W (.slice q2 n2 c2) ss):=fun W hW=>h2.below hW
 obtain⟨V,hV⟩:∃V,V=w.alloc (.cells #[.slice q1 n1 c1,.slice q2 n2 c2] 46):=⟨_,rfl⟩
 have hB:Below w.heap.size w V:=by rw[hV];exact(bzR _ _).alloc (nzR _) _
 have hR:V.heap[w.heap.size]?=some (.cells #[.slice q1 n1 c1,.slice q2 n2 c2] 46 (0,0)):=by rw[hV];exact jA w _
 have v0:V.cell? ⟨w.heap.size,0,none⟩=some (.slice q1 n1 c1):=by simp[World.cell?,hR]
 have v1:V.cell? ⟨w.heap.size,1,none⟩=some (.slice q2 n2 c2):=by simp[World.cell?,hR]
 have hVs:w.heap.size<V.heap.size:=(gzE.1 hR).1
 have HB:Hid (Below w.heap.size w V):=hB
 have HC1:=fun W(hW:Below w.heap.size w W)=>zEc 1 _ bs W (H1.out W hW)
 have HC2:=fun W(hW:Below w.heap.size w W)=>zEc 2 _ ss W (H2.out W hW)
 clear h1 h2 hB hR
 by_cases e1:schk 1 bs=0
 ·rw[e1,errV_zero] at HC1
  by_cases e2:schk 2 ss=0
  ·rw[e2,errV_zero] at HC2
   have HCR:=fun W(hW:Below w.heap.size w W)=>zHf q1 q2 n1 n2 c1 c2 bs ss W (H1.out W hW) (H2.out W hW)
   cases hx:zBr bs ss
   ·rw[hx] at HCR
    have HRE:Hid (∀W,Below w.heap.size w W→Calls Tryz.prog 34 #[.agg #[.slice q1 n1 c1,.slice q2 n2 c2]] W fun e w'=>∃v,e=.returned v∧OwnQ w' W.heap.size v (allR bs++allR ss)∧Below W.heap.size W w'):=fun W hW=>zKq q1 q2 n1 n2 c1 c2 bs ss W (H1.out W hW) (H2.out W hW) (zBd e1) (zBd e2) (zAc e1).2.2.1 (zAc e2).2.2.1
    have HWF:Hid (∀r∈allR bs++allR ss,(Lit.int .i64 r.id).wf=true):=fun r hr=>(List.mem_append.1 hr).elim (zHg e1 r) (zHg e2 r)
    have hlen:(allR bs++allR ss).length≤120:=by have:=zCG e1;have:=zCG e2;rw[jE];omega
    have hE:zAd bs ss=if zAL (allR bs++allR ss)=true then 7 else if 60<(allR bs++allR ss).length then 4 else 0:=by unfold zAd;rw[if_pos e1,if_pos e2,if_neg (by rw[hx];simp)]
    rw[hE]
    clear hE hx e1 e2 H1 H2
    generalize allR bs++allR ss=AR at *
    have HCL:=fun W v(hW:SL W v AR)=>zKu v AR W hW HWF.out (by omega)
    generalize zAL AR=tw at *
    cases tw
    ·rw[if_neg (by simp)]
     by_cases h60:60<AR.length
     ·rw[if_pos h60,errV_of (by omega)]
      go_enter Tryz.func11,Tryz.ntmps11
      go_wp2_with fail
      rw[←hV]
      refine(HC1 V HB.out).mono ?_
      rintro e w1⟨rfl,b1⟩
      have HB1:Hid (Below w.heap.size w w1):=HB.out.trans (b1.mono HB.out.size)
      have x0:=zAa b1 v0
      have x1:=zAa b1 v1
      have hs1:w.heap.size<w1.heap.size:=jC hVs b1.size
      clear b1 v0 v1 HC1
      go_wp2_with fail
      refine(HC2 w1 HB1.out).mono ?_
      rintro e w2⟨rfl,b2⟩
      have HB2:Hid (Below w.heap.size w w2):=HB1.out.trans (b2.mono HB1.out.size)
      have y0:=zAa b2 x0
      have y1:=zAa b2 x1
      have hs2:w.heap.size<w2.heap.size:=jC hs1 b2.size
      clear b2 x0 x1 HC2
      go_wp2_with fail
      refine(HCR w2 HB2.out).mono ?_
      rintro e w3⟨rfl,b3⟩
      have HB3:Hid (Below w.heap.size w w3):=HB2.out.trans (b3.mono HB2.out.size)
      have z0:=zAa b3 y0
      have z1:=zAa b3 y1
      have hs3:w.heap.size<w3.heap.size:=jC hs2 b3.size
      clear b3 y0 y1 HCR
      go_wp2_with fail
      refine(HRE.out w3 HB3.out).mono ?_
      rintro e w4⟨v,rfl,hO,b4⟩
      have HB4:Hid (Below w.heap.size w w4):=HB3.out.trans (b4.mono HB3.out.size)
      obtain⟨q4,c4,rfl⟩:=OwnM.form hO
      have HSL:Hid (SL w4 (.slice q4 AR.length c4) AR):=OwnQ.sl hO
      clear b4 z0 z1 HRE hO
      go_wp2_with fail
      refine(HCL w4 _ HSL.out).mono ?_
      rintro e w5⟨rfl,b5⟩
      have HB5:Hid (Below w.heap.size w w5):=HB4.out.trans (b5.mono HB4.out.size)
      clear b5 HCL
      generalize AR.length=m at *
      have hm:(60:Int)<(m:Int):=by omega
      go_wp2_with fail
      go_ret
      exact⟨rfl,HB5.out⟩
     ·rw[if_neg h60,errV_zero]
      go_enter Tryz.func11,Tryz.ntmps11
      go_wp2_with fail
      rw[←hV]
      refine(HC1 V HB.out).mono ?_
      rintro e w1⟨rfl,b1⟩
      have HB1:Hid (Below w.heap.size w w1):=HB.out.trans (b1.mono HB.out.size)
      have x0:=zAa b1 v0
      have x1:=zAa b1 v1
      have hs1:w.heap.size<w1.heap.size:=jC hVs b1.size
      clear b1 v0 v1 HC1
      go_wp2_with fail
      refine(HC2 w1 HB1.out).mono ?_
      rintro e w2⟨rfl,b2⟩
      have HB2:Hid (Below w.heap.size w w2):=HB1.out.trans (b2.mono HB1.out.size)
      have y0:=zAa b2 x0
      have y1:=zAa b2 x1
      have hs2:w.heap.size<w2.heap.size:=jC hs1 b2.size
      clear b2 x0 x1 HC2
      go_wp2_with fail
      refine(HCR w2 HB2.out).mono ?_
      rintro e w3⟨rfl,b3⟩
      have HB3:Hid (Below w.heap.size w w3):=HB2.out.trans (b3.mono HB2.out.size)
      have z0:=zAa b3 y0
      have z1:=zAa b3 y1
      have hs3:w.heap.size<w3.heap.size:=jC hs2 b3.size
      clear b3 y0 y1 HCR
      go_wp2_with fail
      refine(HRE.out w3 HB3.out).mono ?_
      rintro e w4⟨v,rfl,hO,b4⟩
      have HB4:Hid (Below w.heap.size w w4):=HB3.out.trans (b4.mono HB3.out.size)
      obtain⟨q4,c4,rfl⟩:=OwnM.form hO
      have HSL:Hid (SL w4 (.slice q4 AR.length c4) AR):=OwnQ.sl hO
      clear b4 z0 z1 HRE hO
      go_wp2_with fail
      refine(HCL w4 _ HSL.out).mono ?_
      rintro e w5⟨rfl,b5⟩
      have HB5:Hid (Below w.heap.size w w5):=HB4.out.trans (b5.mono HB4.out.size)
      clear b5 HCL
      generalize AR.length=m at *
      have hm:¬(60:Int)<(m:Int):=by omega
      go_wp2_with fail
      go_ret
      exact⟨rfl,HB5.out⟩
    ·rw[if_pos rfl,errV_of (by omega)]
     go_enter Tryz.func11,Tryz.ntmps11
     go_wp2_with fail
     rw[←hV]
     refine(HC1 V HB.out).mono ?_
     rintro e w1⟨rfl,b1⟩
     have HB1:Hid (Below w.heap.size w w1):=HB.out.trans (b1.mono HB.out.size)
     have x0:=zAa b1 v0
     have x1:=zAa b1 v1
     have hs1:w.heap.size<w1.heap.size:=jC hVs b1.size
     clear b1 v0 v1 HC1
     go_wp2_with fail
     refine(HC2 w1 HB1.out).mono ?_
     rintro e w2⟨rfl,b2⟩
     have HB2:Hid (Below w.heap.size w w2):=HB1.out.trans (b2.mono HB1.out.size)
     have y0:=zAa b2 x0
     have y1:=zAa b2 x1
     have hs2:w.heap.size<w2.heap.size:=jC hs1 b2.size
     clear b2 x0 x1 HC2
     go_wp2_with fail
     refine(HCR w2 HB2.out).mono ?_
     rintro e w3⟨rfl,b3⟩
     have HB3:Hid (Below w.heap.size w w3):=HB2.out.trans (b3.mono HB2.out.size)
     have z0:=zAa b3 y0
     have z1:=zAa b3 y1
     have hs3:w.heap.size<w3.heap.size:=jC hs2 b3.size
     clear b3 y0 y1 HCR
     go_wp2_with fail
     refine(HRE.out w3 HB3.out).mono ?_
     rintro e w4⟨v,rfl,hO,b4⟩
     have HB4:Hid (Below w.heap.size w w4):=HB3.out.trans (b4.mono HB3.out.size)
     obtain⟨q4,c4,rfl⟩:=OwnM.form hO
     have HSL:Hid (SL w4 (.slice q4 AR.length c4) AR):=OwnQ.sl hO
     clear b4 z0 z1 HRE hO
     go_wp2_with fail
     refine(HCL w4 _ HSL.out).mono ?_
     rintro e w5⟨rfl,b5⟩
     have HB5:Hid (Below w.heap.size w w5):=HB4.out.trans (b5.mono HB4.out.size)
     clear b5 HCL
     go_wp2_with fail
     go_ret
     exact⟨rfl,HB5.out⟩
   ·rw[hx] at HCR
    have hE:zAd bs ss=8:=by unfold zAd;rw[if_pos e1,if_pos e2,if_pos hx]
    rw[hE,errV_of (by omega)]
    clear hE hx e1 e2 H1 H2
    go_enter Tryz.func11,Tryz.ntmps11
    go_wp2_with fail
    rw[←hV]
    refine(HC1 V HB.out).mono ?_
    rintro e w1⟨rfl,b1⟩
    have HB1:Hid (Below w.heap.size w w1):=HB.out.trans (b1.mono HB.out.size)
    have x0:=zAa b1 v0
    have x1:=zAa b1 v1
    have hs1:w.heap.size<w1.heap.size:=jC hVs b1.size
    clear b1 v0 v1 HC1
    go_wp2_with fail
    refine(HC2 w1 HB1.out).mono ?_
    rintro e w2⟨rfl,b2⟩
    have HB2:Hid (Below w.heap.size w w2):=HB1.out.trans (b2.mono HB1.out.size)
    have y0:=zAa b2 x0
    have y1:=zAa b2 x1
    have hs2:w.heap.size<w2.heap.size:=jC hs1 b2.size
    clear b2 x0 x1 HC2
    go_wp2_with fail
    refine(HCR w2 HB2.out).mono ?_
    rintro e w3⟨rfl,b3⟩
    have HB3:Hid (Below w.heap.size w w3):=HB2.out.trans (b3.mono HB2.out.size)
    clear b3 y0 y1 HCR
    go_wp2_with fail
    go_ret
    exact⟨rfl,HB3.out⟩
  ·have hE:zAd bs ss=schk 2 ss:=by unfold zAd;rw[if_pos e1,if_neg e2]
   rw[errV_of e2] at HC2
   rw[hE,errV_of e2]
   generalize schk 2 ss=k at *
   clear hE e1 e2 H1 H2
   go_enter Tryz.func11,Tryz.ntmps11
   go_wp2_with fail
   rw[←hV]
   refine(HC1 V HB.out).mono ?_
   rintro e w1⟨rfl,b1⟩
   have HB1:Hid (Below w.heap.size w w1):=HB.out.trans (b1.mono HB.out.size)
   have x0:=zAa b1 v0
   have x1:=zAa b1 v1
   have hs1:w.heap.size<w1.heap.size:=jC hVs b1.size
   clear b1 v0 v1 HC1
   go_wp2_with fail
   refine(HC2 w1 HB1.out).mono ?_
   rintro e w2⟨rfl,b2⟩
   have HB2:Hid (Below w.heap.size w w2):=HB1.out.trans (b2.mono HB1.out.size)
   clear b2 x0 x1 HC2
   go_wp2_with fail
   go_ret
   exact⟨rfl,HB2.out⟩
 ·have hE:zAd bs ss=schk 1 bs:=by unfold zAd;rw[if_neg e1]
  rw[errV_of e1] at HC1
  rw[hE,errV_of e1]
  generalize schk 1 bs=k at *
  clear hE e1 H1 H2 HC2
  go_enter Tryz.func11,Tryz.ntmps11
  go_wp2_with fail
  rw[←hV]
  refine(HC1 V HB.out).mono ?_
  rintro e w1⟨rfl,b1⟩
  have HB1:Hid (Below w.heap.size w w1):=HB.out.trans (b1.mono HB.out.size)
  clear b1 v0 v1 HC1
  go_wp2_with fail
  go_ret
  exact⟨rfl,HB1.out⟩
theorem zAf{bs ss:List L}(h:zAd bs ss=0):schk 1 bs=0∧schk 2 ss=0∧zBr bs ss=false∧zAL (allR bs++allR ss)=false∧(allR bs++allR ss).length≤60:=by
 unfold zAd at h
 by_cases h1:schk 1 bs=0
 ·rw[if_pos h1] at h
  by_cases h2:schk 2 ss=0
  ·rw[if_pos h2] at h
   by_cases h3:zBr bs ss=true
   ·rw[if_pos h3] at h;cases h
   ·rw[if_neg h3] at h
    by_cases h4:zAL (allR bs++allR ss)=true
    ·rw[if_pos h4] at h;cases h
    ·rw[if_neg h4] at h
     by_cases h5:60<(allR bs++allR ss).length
     ·rw[if_pos h5] at h;cases h
     ·exact⟨h1,h2,by simpa using h3,by simpa using h4,by omega⟩
  ·rw[if_neg h2] at h;exact absurd h h2
 ·rw[if_neg h1] at h;exact absurd h h1
theorem spot_at{w:World}{q:Option Addr}{n c:Nat}{ls:List L}(h:LS w (.slice q n c) ls){i k:Nat}(hi:i<ls.length)(hk:k<ls[i].rests.length):∃b o rb ro rc r1 r2 r3 r4 r5,q=some ⟨b,o,none⟩∧b<w.heap.size∧rb<w.heap.size∧ls[i].rests[k]=⟨r1,r2,r3,r4,r5⟩∧w.cell? ⟨b,o+i*2,none⟩=some (.int .i64 ls[i].price)∧w.cell? ⟨b,o+i*2+1,none⟩=some (.slice (some ⟨rb,ro,none⟩) ls[i].rests.length rc)∧w.cell? ⟨rb,ro+k*5,none⟩=some (.int .i64 r1)∧w.cell? ⟨rb,ro+k*5+1,none⟩=some (.int .i64 r2)∧w.cell? ⟨rb,ro+k*5+2,none⟩=some (.int .i64 r3)∧w.cell? ⟨rb,ro+k*5+3,none⟩=some (.int .i64 r4)∧w.cell? ⟨rb,ro+k*5+4,none⟩=some (.int .i64 r5):=by
 rcases h with ⟨-,e⟩|⟨b,o,c',e,-,-,hb,hl⟩
 ·rw[e] at hi;simp at hi
 ·cases e
  obtain⟨l,hle⟩:∃l,ls[i]=l:=⟨_,rfl⟩
  obtain⟨p,zs⟩:=l
  have hle2:ls[i]! = ⟨p,zs⟩:=by rw[getE _ _ hi];exact hle
  have hk2:k<zs.length:=by rw[hle] at hk;exact hk
  obtain⟨q,rc,l0,l1,hsl⟩:=hl.at hi hle2
  obtain⟨rb,ro,hq,-,hrb,hlr⟩:=zEZ hsl hk2
  subst hq
  obtain⟨r,hr⟩:∃r,zs[k]! = r:=⟨_,rfl⟩
  obtain⟨r1,r2,r3,r4,r5⟩:=r
  obtain⟨v0,v1,v2,v3,v4⟩:=zCt hlr hk2 hr
  have hrr:ls[i].rests[k]=⟨r1,r2,r3,r4,r5⟩:=by
   have:ls[i].rests[k]=zs[k]:=by simp only[hle]
   rw[this,←hr,getE _ _ hk2]
  refine⟨b,o,rb,ro,rc,r1,r2,r3,r4,r5,rfl,hb,hrb,hrr,by rw[hle];exact l0,by rw[hle];exact l1,v0,v1,v2,v3,v4⟩
theorem zFe(q1 q2:Option Addr)(n1 n2 c1 c2:Nat)(bs ss:List L)(id:Int)(hid:(Lit.int .i64 id).wf=true)(i k:Nat)(w:World)(h1:LS w (.slice q1 n1 c1) bs)(h2:LS w (.slice q2 n2 c2) ss)(h0:zAd bs ss=0)(hi:i<bs.length)(hk:k<bs[i].rests.length)(hfv:zBj 1 bs id=.tuple #[.int .i64 i,.int .i64 k,.nilIface]) :
  Calls Tryz.prog 76 #[.agg #[.slice q1 n1 c1,.slice q2 n2 c2],.int .i64 id] w fun e w'=>e=.returned (.tuple #[.int .i64 1,.int .i64 bs[i].price,.agg (rV bs[i].rests[k]).toArray,.nilIface])∧Below w.heap.size w w':=by
 have HCH:=fun W(hW:Below w.heap.size w W)=>check_any q1 q2 n1 n2 c1 c2 bs ss W (h1.below hW) (h2.below hW)
 rw[h0,errV_zero] at HCH
 have HFX:=fun W(hW:Below w.heap.size w W)=>find_any 1 _ bs id W (h1.below hW) hid
 rw[hfv] at HFX
 obtain⟨b,o,rb,ro,rc,r1,r2,r3,r4,r5,hq,hbs,hrbs,hrr,a0,a1,z0,z1,z2,z3,z4⟩:=spot_at h1 hi hk
 rw[hrr]
 show Calls _ _ _ _ fun e w'=>e=.returned (.tuple #[.int .i64 1,.int .i64 bs[i].price,.agg #[.int .i64 r1,.int .i64 r2,.int .i64 r3,.int .i64 r4,.int .i64 r5],.nilIface])∧Below w.heap.size w w'
 have hin:i<n1:=by rw[zDB h1];exact hi
 obtain⟨ee1,ee2,-⟩:=zAf h0
 have hn60:n1≤60:=by have:=zEF (zBd ee1);have:=(zAc ee1).2.2.1;rw[zDB h1];omega
 have hm60:bs[i].rests.length≤60:=by have:=zAR (jT hi);have:=(zAc ee1).2.2.1;omega
 clear hrr
 generalize bs[i].price=p at *
 generalize hmm:bs[i].rests.length=m at *
 subst hq
 obtain⟨V,hV⟩:∃V,V=(w.alloc (.cells #[.slice (some ⟨b,o,none⟩) n1 c1,.slice q2 n2 c2] 46)).alloc (.cells #[.int .i64 0,.int .i64 0,.int .i64 0,.int .i64 0,.int .i64 0] 54):=⟨_,rfl⟩
 have HB:Hid (Below w.heap.size w V):=by rw[hV];exact((bzR _ _).alloc (nzR _) _).alloc (by simp) _
 have v0:V.cell? ⟨w.heap.size,0,none⟩=some (.slice (some ⟨b,o,none⟩) n1 c1):=by rw[hV];simp[go_sem]
 have v1:V.cell? ⟨w.heap.size,1,none⟩=some (.slice q2 n2 c2):=by rw[hV];simp[go_sem]
 have hR:V.heap[w.heap.size+1]?=some (.cells #[.int .i64 0,.int .i64 0,.int .i64 0,.int .i64 0,.int .i64 0] 54 (0,0)):=by
  rw[hV]
  have:=jA (w.alloc (.cells #[.slice (some ⟨b,o,none⟩) n1 c1,.slice q2 n2 c2] 46)) (.cells #[.int .i64 0,.int .i64 0,.int .i64 0,.int .i64 0,.int .i64 0] 54)
  simpa using this
 have hVs:w.heap.size+1<V.heap.size:=(gzE.1 hR).1
 have SO:Hid (∀W,Below w.heap.size w W→(Below w.heap.size w W∧W.cell? ⟨b,o+i*2,none⟩=some (.int .i64 p)∧W.cell? ⟨b,o+i*2+1,none⟩=some (.slice (some ⟨rb,ro,none⟩) m rc)∧W.cell? ⟨rb,ro+k*5,none⟩=some (.int .i64 r1)∧W.cell? ⟨rb,ro+k*5+1,none⟩=some (.int .i64 r2)∧W.cell? ⟨rb,ro+k*5+2,none⟩=some (.int .i64 r3)∧W.cell? ⟨rb,ro+k*5+3,none⟩=some (.int .i64 r4)∧W.cell? ⟨rb,ro+k*5+4,none⟩=some (.int .i64 r5))):=fun W hW=>⟨hW,zAa hW a0,zAa hW a1,zAa hW z0,zAa hW z1,zAa hW z2,zAa hW z3,zAa hW z4⟩
 clear h1 h2 h0 a0 a1 z0 z1 z2 z3 z4 hfv ee1 ee2 hid hmm
 have i0:¬((i:Int)<0):=by omega
 have i1:(i:Int)<(n1:Int):=by omega
 have i4:(0:Int)≤(i:Int):=by omega
 have k0:¬((k:Int)<0):=by omega
 have k1:(k:Int)<(m:Int):=by omega
 have k4:(0:Int)≤(k:Int):=by omega
 go_enter Tryz.func76,Tryz.ntmps76
 go_wp2_with fail
 rw[←hV]
 refine(HCH V HB.out).mono ?_
 rintro x w1⟨rfl,b1⟩
 have HB1:Hid (Below w.heap.size w w1):=HB.out.trans (b1.mono HB.out.size)
 have x0:=zAa b1 v0
 have x1:=zAa b1 v1
 have hR1:w1.heap[w.heap.size+1]?=some (.cells #[.int .i64 0,.int .i64 0,.int .i64 0,.int .i64 0,.int .i64 0] 54 (0,0)):=by rw[b1.block _ hVs];exact hR
 have hs1:w.heap.size+1<w1.heap.size:=jC hVs b1.size
 clear b1 HCH v0 v1 hR
 go_wp2_with fail
 go_loopg [9,10,11,12,13] 2 (fun _ s9 _ _ _ _ wr=>s9=.int .i64 1∧wr=w1)
 case atStart=>exact⟨rfl,rfl⟩
 case round=>
  obtain⟨rfl,rfl⟩:=hrel
  have d0:=x0
  have d1:=x1
  have HW1:=HB1
  go_wp2_with fail
  refine(zAv 1 (some ⟨b,o,none⟩) q2 n1 n2 c1 c2 wr).mono ?_
  rintro x w2⟨rfl,b2⟩
  rw[show (if (1:Int)=1 then Value.slice (some ⟨b,o,none⟩) n1 c1 else .slice q2 n2 c2)=.slice (some ⟨b,o,none⟩) n1 c1 from rfl]
  have HB2:Hid (Below wr.heap.size wr w2):=b2
  clear b2
  go_wp2_with fail
  refine(HFX w2 (HW1.out.trans (HB2.out.mono HW1.out.size))).mono ?_
  rintro x w3⟨rfl,b3⟩
  have HB3:Hid (Below wr.heap.size wr w3):=HB2.out.trans (b3.mono HB2.out.size)
  have HBW:Hid (Below w.heap.size w w3):=HW1.out.trans (HB3.out.mono HW1.out.size)
  have hRW:w3.heap[w.heap.size+1]?=some (.cells #[.int .i64 0,.int .i64 0,.int .i64 0,.int .i64 0,.int .i64 0] 54 (0,0)):=by rw[HB3.out.block _ hs1];exact hR1
  clear b3 HFX d0 d1 hR1
  obtain⟨e0,e1,e2,e3,e4,hfr⟩:=zAe hRW
  have f0:=hfr 0
  have f1:=hfr 1
  have f2:=hfr 2
  have f3:=hfr 3
  have f4:=hfr 4
  have hBW:=HBW.out
  have HHX:Hid ((((((w3.setCell ⟨w.heap.size+1,0,none⟩ (.int .i64 r1)).setCell ⟨w.heap.size+1,1,none⟩ (.int .i64 r2)).setCell ⟨w.heap.size+1,2,none⟩ (.int .i64 r3)).setCell ⟨w.heap.size+1,3,none⟩ (.int .i64 r4)).setCell ⟨w.heap.size+1,4,none⟩ (.int .i64 r5)).heap[w.heap.size+1]?=some (.cells #[.int .i64 r1,.int .i64 r2,.int .i64 r3,.int .i64 r4,.int .i64 r5] 54 (0,0))):=zAV hRW _ _ _ _ _
  have HBX:Below w.heap.size w (((((w3.setCell ⟨w.heap.size+1,0,none⟩ (.int .i64 r1)).setCell ⟨w.heap.size+1,1,none⟩ (.int .i64 r2)).setCell ⟨w.heap.size+1,2,none⟩ (.int .i64 r3)).setCell ⟨w.heap.size+1,3,none⟩ (.int .i64 r4)).setCell ⟨w.heap.size+1,4,none⟩ (.int .i64 r5)):=((((hBW.setCell (Nat.le_succ _) _).setCell (Nat.le_succ _) _).setCell (Nat.le_succ _) _).setCell (Nat.le_succ _) _).setCell (Nat.le_succ _) _
  have HBX2:Hid (Below w.heap.size w (((((w3.setCell ⟨w.heap.size+1,0,none⟩ (.int .i64 r1)).setCell ⟨w.heap.size+1,1,none⟩ (.int .i64 r2)).setCell ⟨w.heap.size+1,2,none⟩ (.int .i64 r3)).setCell ⟨w.heap.size+1,3,none⟩ (.int .i64 r4)).setCell ⟨w.heap.size+1,4,none⟩ (.int .i64 r5))∧Below w.heap.size w (((((w3.setCell ⟨w.heap.size+1,0,none⟩ (.int .i64 r1)).setCell ⟨w.heap.size+1,1,none⟩ (.int .i64 r2)).setCell ⟨w.heap.size+1,2,none⟩ (.int .i64 r3)).setCell ⟨w.heap.size+1,3,none⟩ (.int .i64 r4)).setCell ⟨w.heap.size+1,4,none⟩ (.int .i64 r5)).drew):=⟨HBX,HBX.drew⟩
  clear hfr hRW HBX
  go_upto_region 10 with fail
  go_region_held3 (fun W=>Below w.heap.size w W∧W.cell? ⟨b,o+i*2,none⟩=some (.int .i64 p)∧W.cell? ⟨b,o+i*2+1,none⟩=some (.slice (some ⟨rb,ro,none⟩) m rc)∧W.cell? ⟨rb,ro+k*5,none⟩=some (.int .i64 r1)∧W.cell? ⟨rb,ro+k*5+1,none⟩=some (.int .i64 r2)∧W.cell? ⟨rb,ro+k*5+2,none⟩=some (.int .i64 r3)∧W.cell? ⟨rb,ro+k*5+3,none⟩=some (.int .i64 r4)∧W.cell? ⟨rb,ro+k*5+4,none⟩=some (.int .i64 r5))
   ((refine SO.out _ ?_;(with_reducible repeat' (first|assumption|refine bal ?_ _|refine Below.setCell ?_ ?_ _|refine Below.drew ?_|exact bzR _ _|exact nzR _|exact Nat.le_succ _|exact Below.size (by assumption)|refine jD ?_))))
   (fail)
  go_wp2_with fail
  generalize (((((w3.setCell ⟨w.heap.size+1,0,none⟩ (.int .i64 r1)).setCell ⟨w.heap.size+1,1,none⟩ (.int .i64 r2)).setCell ⟨w.heap.size+1,2,none⟩ (.int .i64 r3)).setCell ⟨w.heap.size+1,3,none⟩ (.int .i64 r4)).setCell ⟨w.heap.size+1,4,none⟩ (.int .i64 r5))=X at *
  obtain⟨y0,y1,y2,y3,y4,-⟩:=zAe HHX.out
  first|exact jN (v:=.tuple #[.int .i64 1,.int .i64 p,.agg #[.int .i64 r1,.int .i64 r2,.int .i64 r3,.int .i64 r4,.int .i64 r5],.nilIface]) (by simp[results,Tryz.results76,go_sem,y0,y1,y2,y3,y4]) rfl ⟨rfl,HBX2.out.2⟩|exact jN (v:=.tuple #[.int .i64 1,.int .i64 p,.agg #[.int .i64 r1,.int .i64 r2,.int .i64 r3,.int .i64 r4,.int .i64 r5],.nilIface]) (by simp[results,Tryz.results76,go_sem,y0,y1,y2,y3,y4]) rfl ⟨rfl,HBX2.out.1⟩
theorem zFf(q1 q2:Option Addr)(n1 n2 c1 c2:Nat)(bs ss:List L)(id:Int)(hid:(Lit.int .i64 id).wf=true)(i k:Nat)(w:World)(h1:LS w (.slice q1 n1 c1) bs)(h2:LS w (.slice q2 n2 c2) ss)(h0:zAd bs ss=0)(hno:zAE 1 bs id=5)(hi:i<ss.length)(hk:k<ss[i].rests.length)(hfv:zBj 2 ss id=.tuple #[.int .i64 i,.int .i64 k,.nilIface]) :
  Calls Tryz.prog 76 #[.agg #[.slice q1 n1 c1,.slice q2 n2 c2],.int .i64 id] w fun e w'=>e=.returned (.tuple #[.int .i64 2,.int .i64 ss[i].price,.agg (rV ss[i].rests[k]).toArray,.nilIface])∧Below w.heap.size w w':=by
 have HCH:=fun W(hW:Below w.heap.size w W)=>check_any q1 q2 n1 n2 c1 c2 bs ss W (h1.below hW) (h2.below hW)
 rw[h0,errV_zero] at HCH
 have HFX:=fun W(hW:Below w.heap.size w W)=>find_any 2 _ ss id W (h2.below hW) hid
 rw[hfv] at HFX
 have HF1:=fun W(hW:Below w.heap.size w W)=>find_any 1 _ bs id W (h1.below hW) hid
 rw[show zBj 1 bs id=.tuple #[.int .i64 0,.int .i64 0,.iface 91 (.int .i64 5)] from by unfold zBj zBk;rw[if_neg (by omega),hno];rfl] at HF1
 obtain⟨b,o,rb,ro,rc,r1,r2,r3,r4,r5,hq,hbs,hrbs,hrr,a0,a1,z0,z1,z2,z3,z4⟩:=spot_at h2 hi hk
 rw[hrr]
 show Calls _ _ _ _ fun e w'=>e=.returned (.tuple #[.int .i64 2,.int .i64 ss[i].price,.agg #[.int .i64 r1,.int .i64 r2,.int .i64 r3,.int .i64 r4,.int .i64 r5],.nilIface])∧Below w.heap.size w w'
 have hin:i<n2:=by rw[zDB h2];exact hi
 obtain⟨ee1,ee2,-⟩:=zAf h0
 have hn60:n2≤60:=by have:=zEF (zBd ee2);have:=(zAc ee2).2.2.1;rw[zDB h2];omega
 have hm60:ss[i].rests.length≤60:=by have:=zAR (jT hi);have:=(zAc ee2).2.2.1;omega
 clear hrr
 generalize ss[i].price=p at *
 generalize hmm:ss[i].rests.length=m at *
 subst hq
 obtain⟨V,hV⟩:∃V,V=(w.alloc (.cells #[.slice q1 n1 c1,.slice (some ⟨b,o,none⟩) n2 c2] 46)).alloc (.cells #[.int .i64 0,.int .i64 0,.int .i64 0,.int .i64 0,.int .i64 0] 54):=⟨_,rfl⟩
 have HB:Hid (Below w.heap.size w V):=by rw[hV];exact((bzR _ _).alloc (nzR _) _).alloc (by simp) _
 have v0:V.cell? ⟨w.heap.size,0,none⟩=some (.slice q1 n1 c1):=by rw[hV];simp[go_sem]
 have v1:V.cell? ⟨w.heap.size,1,none⟩=some (.slice (some ⟨b,o,none⟩) n2 c2):=by rw[hV];simp[go_sem]
 have hR:V.heap[w.heap.size+1]?=some (.cells #[.int .i64 0,.int .i64 0,.int .i64 0,.int .i64 0,.int .i64 0] 54 (0,0)):=by
  rw[hV]
  have:=jA (w.alloc (.cells #[.slice q1 n1 c1,.slice (some ⟨b,o,none⟩) n2 c2] 46)) (.cells #[.int .i64 0,.int .i64 0,.int .i64 0,.int .i64 0,.int .i64 0] 54)
  simpa using this
 have hVs:w.heap.size+1<V.heap.size:=(gzE.1 hR).1
 have SO:Hid (∀W,Below w.heap.size w W→(Below w.heap.size w W∧W.cell? ⟨b,o+i*2,none⟩=some (.int .i64 p)∧W.cell? ⟨b,o+i*2+1,none⟩=some (.slice (some ⟨rb,ro,none⟩) m rc)∧W.cell? ⟨rb,ro+k*5,none⟩=some (.int .i64 r1)∧W.cell? ⟨rb,ro+k*5+1,none⟩=some (.int .i64 r2)∧W.cell? ⟨rb,ro+k*5+2,none⟩=some (.int .i64 r3)∧W.cell? ⟨rb,ro+k*5+3,none⟩=some (.int .i64 r4)∧W.cell? ⟨rb,ro+k*5+4,none⟩=some (.int .i64 r5))):=fun W hW=>⟨hW,zAa hW a0,zAa hW a1,zAa hW z0,zAa hW z1,zAa hW z2,zAa hW z3,zAa hW z4⟩
 clear h1 h2 h0 a0 a1 z0 z1 z2 z3 z4 hfv ee1 ee2 hid hmm
 have i0:¬((i:Int)<0):=by omega
 have i1:(i:Int)<(n2:Int):=by omega
 have i4:(0:Int)≤(i:Int):=by omega
 have k0:¬((k:Int)<0):=by omega
 have k1:(k:Int)<(m:Int):=by omega
 have k4:(0:Int)≤(k:Int):=by omega
 go_enter Tryz.func76,Tryz.ntmps76
 go_wp2_with fail
 rw[←hV]
 refine(HCH V HB.out).mono ?_
 rintro x w1⟨rfl,b1⟩
 have HB1:Hid (Below w.heap.size w w1):=HB.out.trans (b1.mono HB.out.size)
 have x0:=zAa b1 v0
 have x1:=zAa b1 v1
 have hR1:w1.heap[w.heap.size+1]?=some (.cells #[.int .i64 0,.int .i64 0,.int .i64 0,.int .i64 0,.int .i64 0] 54 (0,0)):=by rw[b1.block _ hVs];exact hR
 have hs1:w.heap.size+1<w1.heap.size:=jC hVs b1.size
 clear b1 HCH v0 v1 hR
 go_wp2_with fail
 go_loopg [9,10,11,12,13] 2 (fun gg s9 _ _ _ _ wr=>((s9=.int .i64 1∧2≤gg)∨s9=.int .i64 2)∧Aside (Below w1.heap.size w1 wr))
 case atStart=>exact⟨.inl ⟨rfl,nzR _⟩,bzR _ _⟩
 case round=>
  obtain⟨hor,BW⟩:=hrel
  have d0:=zAa BW.out x0
  have d1:=zAa BW.out x1
  have HW1:Hid (Below w.heap.size w wr):=HB1.out.trans (BW.out.mono HB1.out.size)
  have hsr:w.heap.size+1<wr.heap.size:=jC hs1 BW.out.size
  rcases hor with ⟨rfl,hgk⟩|rfl
  ·have hgm:1<gk:=by omega
   go_wp2_with fail
   refine(zAv 1 q1 (some ⟨b,o,none⟩) n1 n2 c1 c2 wr).mono ?_
   rintro x w2⟨rfl,b2⟩
   rw[show (if (1:Int)=1 then Value.slice q1 n1 c1 else .slice (some ⟨b,o,none⟩) n2 c2)=.slice q1 n1 c1 from rfl]
   have HB2:Hid (Below wr.heap.size wr w2):=b2
   clear b2
   go_wp2_with fail
   refine(HF1 w2 (HW1.out.trans (HB2.out.mono HW1.out.size))).mono ?_
   rintro x w3⟨rfl,b3⟩
   have HB3:Hid (Below w1.heap.size w1 w3):=BW.out.trans ((HB2.out.trans (b3.mono HB2.out.size)).mono BW.out.size)
   clear b3 HF1 HFX d0 d1
   go_wp2_with fail
   go_roundg 1
   case measure=>exact hgm
   case rel=>exact⟨.inr rfl,HB3.out⟩
  ·go_wp2_with fail
   refine(zAv 2 q1 (some ⟨b,o,none⟩) n1 n2 c1 c2 wr).mono ?_
   rintro x w2⟨rfl,b2⟩
   rw[show (if (2:Int)=1 then Value.slice q1 n1 c1 else .slice (some ⟨b,o,none⟩) n2 c2)=.slice (some ⟨b,o,none⟩) n2 c2 from rfl]
   have HB2:Hid (Below wr.heap.size wr w2):=b2
   clear b2
   go_wp2_with fail
   refine(HFX w2 (HW1.out.trans (HB2.out.mono HW1.out.size))).mono ?_
   rintro x w3⟨rfl,b3⟩
   have HB3:Hid (Below w1.heap.size w1 w3):=BW.out.trans ((HB2.out.trans (b3.mono HB2.out.size)).mono BW.out.size)
   have HBW:Hid (Below w.heap.size w w3):=HB1.out.trans (HB3.out.mono HB1.out.size)
   have hRW:w3.heap[w.heap.size+1]?=some (.cells #[.int .i64 0,.int .i64 0,.int .i64 0,.int .i64 0,.int .i64 0] 54 (0,0)):=by rw[HB3.out.block _ hs1];exact hR1
   clear b3 HFX HF1 d0 d1 hR1
   obtain⟨e0,e1,e2,e3,e4,hfr⟩:=zAe hRW
   have f0:=hfr 0
   have f1:=hfr 1
   have f2:=hfr 2
   have f3:=hfr 3
   have f4:=hfr 4
   have hBW:=HBW.out
   have HHX:Hid ((((((w3.setCell ⟨w.heap.size+1,0,none⟩ (.int .i64 r1)).setCell ⟨w.heap.size+1,1,none⟩ (.int .i64 r2)).setCell ⟨w.heap.size+1,2,none⟩ (.int .i64 r3)).setCell ⟨w.heap.size+1,3,none⟩ (.int .i64 r4)).setCell ⟨w.heap.size+1,4,none⟩ (.int .i64 r5)).heap[w.heap.size+1]?=some (.cells #[.int .i64 r1,.int .i64 r2,.int .i64 r3,.int .i64 r4,.int .i64 r5] 54 (0,0))):=zAV hRW _ _ _ _ _
   have HBX:Below w.heap.size w (((((w3.setCell ⟨w.heap.size+1,0,none⟩ (.int .i64 r1)).setCell ⟨w.heap.size+1,1,none⟩ (.int .i64 r2)).setCell ⟨w.heap.size+1,2,none⟩ (.int .i64 r3)).setCell ⟨w.heap.size+1,3,none⟩ (.int .i64 r4)).setCell ⟨w.heap.size+1,4,none⟩ (.int .i64 r5)):=((((hBW.setCell (Nat.le_succ _) _).setCell (Nat.le_succ _) _).setCell (Nat.le_succ _) _).setCell (Nat.le_succ _) _).setCell (Nat.le_succ _) _
   have HBX2:Hid (Below w.heap.size w (((((w3.setCell ⟨w.heap.size+1,0,none⟩ (.int .i64 r1)).setCell ⟨w.heap.size+1,1,none⟩ (.int .i64 r2)).setCell ⟨w.heap.size+1,2,none⟩ (.int .i64 r3)).setCell ⟨w.heap.size+1,3,none⟩ (.int .i64 r4)).setCell ⟨w.heap.size+1,4,none⟩ (.int .i64 r5))∧Below w.heap.size w (((((w3.setCell ⟨w.heap.size+1,0,none⟩ (.int .i64 r1)).setCell ⟨w.heap.size+1,1,none⟩ (.int .i64 r2)).setCell ⟨w.heap.size+1,2,none⟩ (.int .i64 r3)).setCell ⟨w.heap.size+1,3,none⟩ (.int .i64 r4)).setCell ⟨w.heap.size+1,4,none⟩ (.int .i64 r5)).drew):=⟨HBX,HBX.drew⟩
   clear hfr hRW HBX
   go_upto_region 10 with fail
   go_region_held3 (fun W=>Below w.heap.size w W∧W.cell? ⟨b,o+i*2,none⟩=some (.int .i64 p)∧W.cell? ⟨b,o+i*2+1,none⟩=some (.slice (some ⟨rb,ro,none⟩) m rc)∧W.cell? ⟨rb,ro+k*5,none⟩=some (.int .i64 r1)∧W.cell? ⟨rb,ro+k*5+1,none⟩=some (.int .i64 r2)∧W.cell? ⟨rb,ro+k*5+2,none⟩=some (.int .i64 r3)∧W.cell? ⟨rb,ro+k*5+3,none⟩=some (.int .i64 r4)∧W.cell? ⟨rb,ro+k*5+4,none⟩=some (.int .i64 r5))
    ((refine SO.out _ ?_;(with_reducible repeat' (first|assumption|refine bal ?_ _|refine Below.setCell ?_ ?_ _|refine Below.drew ?_|exact bzR _ _|exact nzR _|exact Nat.le_succ _|exact Below.size (by assumption)|refine jD ?_))))
    (fail)
   go_wp2_with fail
   generalize (((((w3.setCell ⟨w.heap.size+1,0,none⟩ (.int .i64 r1)).setCell ⟨w.heap.size+1,1,none⟩ (.int .i64 r2)).setCell ⟨w.heap.size+1,2,none⟩ (.int .i64 r3)).setCell ⟨w.heap.size+1,3,none⟩ (.int .i64 r4)).setCell ⟨w.heap.size+1,4,none⟩ (.int .i64 r5))=X at *
   obtain⟨y0,y1,y2,y3,y4,-⟩:=zAe HHX.out
   first|exact jN (v:=.tuple #[.int .i64 2,.int .i64 p,.agg #[.int .i64 r1,.int .i64 r2,.int .i64 r3,.int .i64 r4,.int .i64 r5],.nilIface]) (by simp[results,Tryz.results76,go_sem,y0,y1,y2,y3,y4]) rfl ⟨rfl,HBX2.out.2⟩|exact jN (v:=.tuple #[.int .i64 2,.int .i64 p,.agg #[.int .i64 r1,.int .i64 r2,.int .i64 r3,.int .i64 r4,.int .i64 r5],.nilIface]) (by simp[results,Tryz.results76,go_sem,y0,y1,y2,y3,y4]) rfl ⟨rfl,HBX2.out.1⟩
end bok
end Go.Proofs.YtifjhlgjgnnnpaaGreat
