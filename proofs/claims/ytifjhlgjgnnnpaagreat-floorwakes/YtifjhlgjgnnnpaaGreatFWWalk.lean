import Derived.Test.YtifjhlgjgnnnpaaGreatFWPure
import Derived.Test.YtifjhlgjgnnnpaaGreatFPWalk0
import Derived.Test.YtifjhlgjgnnnpaaGreatLimOrd
set_option maxHeartbeats 8000000
set_option maxRecDepth 100000
namespace Go.Proofs.YtifjhlgjgnnnpaaGreat
namespace flr
open Go.RowKit
open ord (O oV chk prB)
open bok (bookE inBook)
open wak (OwnM OwnQ St SL Lies oL idx Trn)
theorem wrapK(x y:Int)(h:x=y)(h1 : -9000000000000000000≤y)(h2:y≤9000000000000000000):wrap64 x=y:=by subst h;unfold wrap64;omega
theorem own_evw{w:World}{b:Nat}{e:TypeId}{sz n c:Nat}{q:Option Addr}{xs:List Value}(h:OwnM w b e sz (.slice q n c) n xs)(hn:0<n):∃g o,q=some ⟨g,o,none⟩∧b≤g∧g<w.heap.size∧∀j v,xs[j]?=some v→w.cell? ⟨g,o+j,none⟩=some v:=by
 rcases h.2 with ⟨h1,h2⟩|⟨g,off,cap,cur,h1,h2,h3,h4,h5,h6,h7⟩
 ·omega
 ·cases h1
  refine⟨g,off,rfl,h2,(gzE.1 h3).1,fun j v hj=>?_⟩
  rw[cell_of_row w g (off+j) cur e (0,0) h3,←hj,←h7,List.getElem?_take,List.getElem?_drop,if_pos]
  ·simp
  ·have:=(List.getElem?_eq_some_iff.1 hj).1
   rw[h.1] at this;exact this
theorem what_at{w:World}{b n c:Nat}{q:Option Addr}{evs:List Ev}(h:OwnM w b 42 10 (.slice q n c) n (flatE evs))(hn:n=evs.length){k:Nat}(hk:k<n):∃g o,q=some ⟨g,o,none⟩∧w.cell? ⟨g,o+k*10,none⟩=some (.int .i64 (evs[k]!).what):=by
 obtain⟨g,o,rfl,-,hg,hc⟩:=own_evw h (by omega)
 have hget:∀ (l:List Ev) (k:Nat),k<l.length→(flatE l)[k*10]?=some (.int .i64 (l[k]!).what):=by
  intro l
  induction l with
  | nil=>intro k hk;simp at hk
  | cons x t ih=>
   intro k hk
   have e:flatE (x::t)=evL x++flatE t:=by simp[flatE]
   have hl:(evL x).length=10:=rfl
   rw[e]
   cases k with
   | zero=>rw[List.getElem?_append_left (by rw[hl];omega),Nat.zero_mul];rfl
   | succ k=>
    rw[List.getElem?_append_right (by rw[hl];omega),hl,show (k+1)*10 - 10=k*10 by omega,ih k (by simpa using hk)]
    rfl
 exact⟨g,o,rfl,hc (k*10) _ (hget evs k (by omega))⟩
theorem cnt_step(w:Int):∀ (l:List Ev) (k:Nat),k<l.length→cntE w (l.take (k+1))=cntE w (l.take k)+(if (l[k]!).what=w then 1 else 0)
 | [],k,h=>absurd h (Nat.not_lt_zero k)
 | x::t,0,_=>by simp[cntE]
 | x::t,k+1,h=>by
  have:=cnt_step w t k (by simpa using h)
  simp only[List.take_succ_cons,cntE,List.getElem!_cons_succ]
  rw[this];omega
theorem cnt_le(w:Int):∀ (l:List Ev),cntE w l≤l.length
 | []=>nzR 0
 | x::t=>by have:=cnt_le w t;simp only[cntE,List.length_cons];split <;>omega
theorem sells_wf(i:Nat)(hi:i<19):WfF (sellsF i):=by
 induction i with
 | zero=>exact zEd (m:=0) (by decide) (by decide) (nzR 9)
 | succ i ih=>exact fdo_wf (ih (by omega)) (sells_do i (by omega))
theorem stops_wf(n i:Nat)(hn:n<19)(hi:i≤18):WfF (stopsF n i):=by
 induction i with
 | zero=>exact fdo_wf (sells_wf n hn) (sells_do n hn)
 | succ i ih=>exact fdo_wf (ih (by omega)) (stops_do n hn i (by omega))
theorem id_small(k:Nat)(h:k≤1000):(Lit.int .i64 (k:Int)).wf=true:=by
 have e:wrap64 (k:Int)=(k:Int):=by unfold wrap64;omega
 rw[←e]
 exact wrap64_wf _
theorem sell_at{w w1:World}{F:Nat}(i:Nat)(hi:i<19)(h:FloorAt w w1 F (sellsF i)) :
  Calls Tryz.prog 8 #[.pointer (some ⟨F,0,none⟩),.agg #[.int .i64 1,.int .i64 ((i+1:Nat):Int),.int .i64 1,.int .i64 2,.int .i64 1,.int .i64 ((100+i:Nat):Int),.int .i64 1,.int .i64 0,.int .i64 0,.int .i64 0,.int .i64 0]] w1 fun e w'=>∃q k,e=.returned (.tuple #[.slice q 1 k,.nilIface])∧FloorAt w w' F (sellsF (i+1)):=by
 refine(do_at 1 _ 1 2 1 _ 1 0 0 0 0 (sellS i) h (sells_wf i hi) (id_small (i+1) (by omega)) (sells_do i hi)).mono ?_
 rintro e w'⟨q,k,rfl,-,h'⟩
 exact⟨q,k,rfl,h'⟩
theorem stop_at{w w1:World}{F:Nat}(n i:Nat)(hn:n<19)(hi:i<18)(h:FloorAt w w1 F (stopsF n i)) :
  Calls Tryz.prog 8 #[.pointer (some ⟨F,0,none⟩),.agg #[.int .i64 1,.int .i64 ((100+i:Nat):Int),.int .i64 2,.int .i64 1,.int .i64 2,.int .i64 0,.int .i64 1,.int .i64 0,.int .i64 ((100+i:Nat):Int),.int .i64 0,.int .i64 0]] w1 fun e w'=>∃g o k,e=.returned (.tuple #[.slice (some ⟨g,o,none⟩) 1 k,.nilIface])∧w'.cell? ⟨g,o,none⟩=some (.int .i64 5)∧FloorAt w w' F (stopsF n (i+1)):=by
 refine(do_at 1 _ 2 1 2 0 1 0 _ 0 0 (stopS n i) h (stops_wf n i hn (by omega)) (id_small (100+i) (by omega)) (stops_do n hn i hi)).mono ?_
 rintro e w'⟨q,k,rfl,ho,h'⟩
 obtain⟨g,o,rfl,hc⟩:=what_at (k:=0) ho rfl (by show 0<1;decide)
 refine⟨g,o,k,rfl,?_,h'⟩
 rw[Nat.zero_mul,Nat.add_zero] at hc
 exact hc
theorem wakes_in(n:Nat)(w:World)(n1:1≤n)(n2:n≤18) :
  Calls Tryz.prog 5 #[.int .i64 n] w fun e w'=>e=.returned (.bool true)∧Below w.heap.size w w':=by
 have HN:Hid (1≤n∧n≤18):=⟨n1,n2⟩
 have d0:decide ((n:Int)<1)=false:=decide_eq_false (by omega)
 have d1:decide ((18:Int)<(n:Int))=false:=decide_eq_false (by omega)
 have a0:¬(n:Int)<1:=by omega
 have a1:¬(18:Int)<(n:Int):=by omega
 clear n1 n2
 go_enter Tryz.func5,Tryz.ntmps5
 go_wp2_with fail
 refine(zBw 0 (by decide) (by decide) _).mono ?_
 rintro e w1⟨F,rfl,h1⟩
 have H1:Hid (FloorAt w w1 F (sellsF 0)):=h1
 clear h1
 go_wp2_with fail
 clear d0 d1 a0 a1
 go_loopg [5,6,7] (n+1) (fun gg s5 _ _ wr=>∃i:Nat,i≤n+1∧n+1 - i≤gg∧s5=.int .i64 i∧Aside (FloorAt w wr F (sellsF i)))
 case atStart=>exact⟨0,Nat.zero_le _,by omega,rfl,H1.out⟩
 case round=>
  clear H1
  obtain⟨i,hi,hg,rfl,HA⟩:=hrel
  by_cases hlt:i≤n
  ·have hz:(i:Int)≤(n:Int):=by omega
   have hi19:i<19:=by have:=HN.out;omega
   have hsa:=fun W(hW:Below wr.heap.size wr W)=>sell_at i hi19 (HA.out.keep hW)
   have HK:Hid (i≤n∧n+1 - i≤gk):=⟨hlt,hg⟩
   obtain⟨I1,hI1⟩:∃t:Int,t=((i+1:Nat):Int):=⟨_,rfl⟩
   obtain⟨I2,hI2⟩:∃t:Int,t=((100+i:Nat):Int):=⟨_,rfl⟩
   rw[←hI1,←hI2] at hsa
   have e1:=wrapK ((i:Int)+1) I1 (by omega) (by omega) (by omega)
   have HE1:=hidF e1
   clear e1
   have e2:=wrapK (100+(i:Int)) I2 (by omega) (by omega) (by omega)
   have e1:=HE1.out
   have HSA:=hidF hsa
   have HI1:=hidF hI1
   clear hsa hI1 hI2 hlt hi hg hi19 HA
   go_wp2_with fail
   refine(lim.zFn I1 1 2 I2 1 _).mono ?_
   rintro e w2⟨rfl,hb2⟩
   have HD:=hidF (HSA.out w2 hb2)
   clear hb2 HSA
   go_wp2_with fail
   refine HD.out.mono ?_
   rintro e w3⟨q3,k3,rfl,h3⟩
   have H3:=hidF h3
   clear h3 HD
   go_wp2_with fail
   go_roundg (n+1 - (i+1))
   case measure=>have:=HK.out;clear e1 e2;omega
   case rel=>exact⟨i+1,Nat.succ_le_succ HK.out.1,nzR _,by first|rfl|exact congrArg (Value.int .i64) (HE1.out.trans HI1.out),H3.out⟩
  ·obtain rfl:i=n+1:=by omega
   have hz:¬(((n+1:Nat):Int)≤(n:Int)):=by omega
   have H2:Hid (FloorAt w wr F (stopsF n 0)):=HA.out
   clear HA hlt hi hg
   go_wp2_with fail
   clear hz
   go_loopg [8,9,10] n (fun gg s8 _ _ wr=>∃i:Nat,i≤n∧n - i≤gg∧s8=.int .i64 i∧Aside (FloorAt w wr F (stopsF n i)))
   case atStart=>exact⟨0,Nat.zero_le _,by omega,rfl,H2.out⟩
   case round=>
    clear H2
    obtain⟨i,hi,hg,rfl,HA⟩:=hrel
    by_cases hlt:i<n
    ·have hz:(i:Int)<(n:Int):=by omega
     have hn19:n<19:=by have:=HN.out;omega
     have hi18:i<18:=by have:=HN.out;omega
     have hsa:=stop_at n i hn19 hi18 HA.out
     have HK:Hid (i<n∧n - i≤gk):=⟨hlt,hg⟩
     obtain⟨I2,hI2⟩:∃t:Int,t=((100+i:Nat):Int):=⟨_,rfl⟩
     rw[←hI2] at hsa
     obtain⟨I1,hI1⟩:∃t:Int,t=((i+1:Nat):Int):=⟨_,rfl⟩
     have e1:=wrapK ((i:Int)+1) I1 (by omega) (by omega) (by omega)
     have HE1:=hidF e1
     clear e1
     have e2:=wrapK (100+(i:Int)) I2 (by omega) (by omega) (by omega)
     have e1:=HE1.out
     have HSA:=hidF hsa
     have HI1:=hidF hI1
     clear hsa hI1 hI2 hlt hi hg hn19 hi18 HA
     go_wp2_with fail
     refine HSA.out.mono ?_
     rintro e w3⟨g3,o3,k3,rfl,x3,h3⟩
     have H3:=hidF h3
     clear h3 HSA
     go_wp2_with fail
     go_roundg (n - (i+1))
     case measure=>have:=HK.out;clear e1 e2;omega
     case rel=>exact⟨i+1,HK.out.1,nzR _,by first|rfl|exact congrArg (Value.int .i64) (HE1.out.trans HI1.out),H3.out⟩
    ·obtain rfl:i=n:=by omega
     have hz:¬(i:Int)<(i:Int):=by omega
     have hi19:i<19:=by have:=HN.out;omega
     obtain⟨s,hs,c4,c2,hws,hla⟩:=fin_is hi19
     have hD:=do_at 1 99 3 1 2 0 1 0 0 0 0 s HA.out (stops_wf i i hi19 (by omega)) (by decide) hs
     obtain⟨ne,hne⟩:∃t,t=s.evs.length:=⟨_,rfl⟩
     rw[←hne] at hD
     have HD:=hidF hD
     have HS:=hidF (And.intro c4 (And.intro c2 (And.intro hws (And.intro hla hne))))
     clear hD hs c4 c2 hws hla hne hlt hi hg hi19 HA
     go_wp2_with fail
     clear hz
     refine HD.out.mono ?_
     rintro e w4⟨q4,k4,rfl,o4,h4⟩
     have H4:=hidF h4
     have HO:=hidF o4
     have HL:Hid (ne≤9223372036854775807):=by
      rcases o4.2 with ⟨-,h2⟩|⟨g',off',cap,cur,e1,-,-,e4,e5,-⟩
      ·show ne≤_;omega
      ·show ne≤_;unfold maxLen at e5;omega
     clear h4 o4 HD
     go_wp2_with fail
     go_loopg [13,14,15] ne (fun gg s13 s14 s15 wr=>∃k:Nat,k≤ne∧ne - k≤gg∧s13=.int .i64 (cntE 4 (s.evs.take k):Nat)∧s14=.int .i64 (cntE 2 (s.evs.take k):Nat)∧s15=.int .i64 k∧wr=w4)
     case atStart=>exact⟨0,Nat.zero_le _,by omega,rfl,rfl,rfl,rfl⟩
     case round=>
      obtain⟨k,hk,hg,rfl,rfl,rfl,rfl⟩:=hrel
      by_cases hlt:k<ne
      ·have hz:(k:Int)<(ne:Int):=by omega
       have hk0:¬(k:Int)<0:=by omega
       have hke:k<s.evs.length:=by rw[←HS.out.2.2.2.2];exact hlt
       obtain⟨g,o,rfl,hx⟩:=what_at HO.out HS.out.2.2.2.2 hlt
       have hs4:=cnt_step 4 s.evs k hke
       have hs2:=cnt_step 2 s.evs k hke
       have hl4:=cnt_le 4 (s.evs.take k)
       have hl2:=cnt_le 2 (s.evs.take k)
       have hlk:(s.evs.take k).length≤k:=by rw[List.length_take];omega
       generalize (s.evs[k]!).what=E at *
       have HLK:Hid (k<ne∧ne - k≤gk):=⟨hlt,hg⟩
       have hlen:=HL.out
       have ek:Hid (wrap64 ((k:Int)+1)=((k+1:Nat):Int)):=by show wrap64 _=_;unfold wrap64;omega
       generalize hc4:cntE 4 (s.evs.take k)=C4 at *
       generalize hc2:cntE 2 (s.evs.take k)=C2 at *
       have e4:Hid (wrap64 ((C4:Int)+1)=((C4+1:Nat):Int)):=by show wrap64 _=_;unfold wrap64;omega
       have e2:Hid (wrap64 ((C2:Int)+1)=((C2+1:Nat):Int)):=by show wrap64 _=_;unfold wrap64;omega
       clear hl4 hl2 hlk hc4 hc2 hk hg hlt hke hlen
       have f1:=ek.out
       by_cases h4:E=4
       ·subst h4
        have h4' : cntE 4 (s.evs.take (k+1))=C4+1:=hs4.trans (by rw[if_pos rfl])
        have h2' : cntE 2 (s.evs.take (k+1))=C2:=hs2.trans (by rw[if_neg (by decide)];rfl)
        have HC:=hidF (And.intro h4' h2')
        clear hs4 hs2 h4' h2'
        have f4:=e4.out
        go_wp2_with fail
        go_roundg (ne - (k+1))
        case measure=>have:=HLK.out;clear f1 f4;omega
        case rel=>exact⟨k+1,HLK.out.1,nzR _,by rw[HC.out.1];first|rfl|exact congrArg (Value.int .i64) f4,by rw[HC.out.2],by first|rfl|exact congrArg (Value.int .i64) f1,rfl⟩
       ·by_cases h2:E=2
        ·subst h2
         have h4' : cntE 4 (s.evs.take (k+1))=C4:=hs4.trans (by rw[if_neg (by decide)];rfl)
         have h2' : cntE 2 (s.evs.take (k+1))=C2+1:=hs2.trans (by rw[if_pos rfl])
         have HC:=hidF (And.intro h4' h2')
         clear hs4 hs2 h4' h2' h4
         have f2:=e2.out
         go_wp2_with fail
         go_roundg (ne - (k+1))
         case measure=>have:=HLK.out;clear f1 f2;omega
         case rel=>exact⟨k+1,HLK.out.1,nzR _,by rw[HC.out.1],by rw[HC.out.2];first|rfl|exact congrArg (Value.int .i64) f2,by first|rfl|exact congrArg (Value.int .i64) f1,rfl⟩
        ·have h4' : cntE 4 (s.evs.take (k+1))=C4:=hs4.trans (by rw[if_neg h4];rfl)
         have h2' : cntE 2 (s.evs.take (k+1))=C2:=hs2.trans (by rw[if_neg h2];rfl)
         have HC:=hidF (And.intro h4' h2')
         have b4:(E == 4)=false:=by simpa using h4
         have b2:(E == 2)=false:=by simpa using h2
         clear hs4 hs2 h4' h2' h4 h2
         go_wp2_with fail
         go_roundg (ne - (k+1))
         case measure=>have:=HLK.out;clear f1;omega
         case rel=>exact⟨k+1,HLK.out.1,nzR _,by rw[HC.out.1],by rw[HC.out.2],by first|rfl|exact congrArg (Value.int .i64) f1,rfl⟩
      ·obtain rfl:k=ne:=by omega
       have hz:¬(k:Int)<(k:Int):=by omega
       have ht:s.evs.take k=s.evs:=by rw[HS.out.2.2.2.2];exact List.take_length
       rw[ht,HS.out.1,HS.out.2.1]
       obtain⟨v,hv⟩:=H4.out.fm
       have hst:=zFi F _ v wr hv (by rw[show (floorOf s).ws=[] from HS.out.2.2.1];exact Nat.zero_le _)
       rw[show (floorOf s).ws=[] from HS.out.2.2.1] at hst
       have HST:=hidF hst
       have HLA:Hid (∀W,Below wr.heap.size wr W→Calls Tryz.prog 16 #[.pointer (some ⟨F,0,none⟩)] W fun e w'=>e=.returned (.int .i64 ((100+i:Nat):Int))∧w'=W):=fun W hW=>by
        have:=last_any F _ v W (hv.below hW)
        rw[show (floorOf s).last=((100+i:Nat):Int) from HS.out.2.2.2.1] at this
        exact this
       have HB:=hidF H4.out.bel
       obtain⟨I1,hI1⟩:∃t:Int,t=((i+1:Nat):Int):=⟨_,rfl⟩
       obtain⟨I2,hI2⟩:∃t:Int,t=((100+i:Nat):Int):=⟨_,rfl⟩
       rw[←hI2] at HLA
       rw[←hI1]
       have hi18:=HN.out.2
       have e1:Hid (wrap64 ((i:Int)+1)=I1):=wrapK _ _ (by omega) (by omega) (by omega)
       have e2:Hid (wrap64 (100+(i:Int))=I2):=wrapK _ _ (by omega) (by omega) (by omega)
       have f1:=e1.out
       have f2:=e2.out
       clear hv hst hI1 hI2 hi18 ht hlt hk hg
       go_wp2_with fail
       refine HST.out.mono ?_
       rintro e w5⟨q5,c5,rfl,-,hb5⟩
       rw[show ([]:List O).length=0 from rfl]
       have HB5:=hidF (HB.out.trans (hb5.mono HB.out.size))
       have HL5:=hidF (HLA.out w5 hb5)
       clear hb5 HST HLA hz
       go_wp2_with fail
       refine HL5.out.mono ?_
       rintro e w6⟨rfl,rfl⟩
       go_wp2_with fail
       go_ret
       exact⟨rfl,HB5.out⟩
theorem wakes_walk(n:Int)(w:World) :
  Calls Tryz.prog 5 #[.int .i64 n] w fun e w'=>e=.returned (.bool true)∧Below w.heap.size w w':=by
 by_cases h0:n<1
 ·have d0:decide (n<1)=true:=decide_eq_true h0
  go_enter Tryz.func5,Tryz.ntmps5
  go_wp2_with fail
  refine(zBw 0 (by decide) (by decide) _).mono ?_
  rintro e w1⟨F,rfl,h1⟩
  have H1:=hidF h1
  clear h1
  go_wp2_with fail
  go_ret
  exact⟨rfl,H1.out.bel⟩
 by_cases h1:18<n
 ·have d0:decide (n<1)=false:=decide_eq_false h0
  have d1:decide (18<n)=true:=decide_eq_true h1
  go_enter Tryz.func5,Tryz.ntmps5
  go_wp2_with fail
  refine(zBw 0 (by decide) (by decide) _).mono ?_
  rintro e w1⟨F,rfl,h1⟩
  have H1:=hidF h1
  clear h1
  go_wp2_with fail
  go_ret
  exact⟨rfl,H1.out.bel⟩
 obtain⟨k,rfl⟩:∃k:Nat,n=(k:Int):=⟨n.toNat,by omega⟩
 exact wakes_in k w (by omega) (by omega)
end flr
end Go.Proofs.YtifjhlgjgnnnpaaGreat
