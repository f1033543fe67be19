import Derived.Test.YtnfilcpnneckkaaGreatSidPure
import Derived.Lib.AppendZeros
import Derived.Laws.OwnMore
import Derived.Maps.AppendAt
set_option maxHeartbeats 4000000
set_option maxRecDepth 100000
namespace Go.Proofs.YtnfilcpnneckkaaGreat
open Tryz
namespace sid
open Go.RowKit spn que Go.Maps
open tickP (zAo zAB zBA betR)
def PlacesPost(s:Int)(ls:List L)(w:World)(e:Ending)(w' : World):Prop:=
 Bw w w'∧((¬schk s ls=0∧e=.returned (.tuple #[.map none,errV (schk s ls)]))∨(schk s ls=0∧∃B,w.heap.size≤B∧e=.returned (.tuple #[.map (some B),.nilIface])∧Own w' B (flatP 0 ls)))
theorem zEb{n:Nat}{w W:World}(h:Below n w W)(k:Nat):Below n w (W.drewN k):=by
 induction k with
 | zero=>exact h
 | succ k ih=>rw[←World.drew_drewN];exact ih.drew
def zEc(ls:List L):Nat:=Maps.size (mapD (flatP 0 ls))
theorem zIl{ls:List L}(h:(ids ls).Nodup):((zEc ls:Nat):Int)=cnt ls:=by
 unfold zEc;rw[(zGv _).2 h,wAD]
theorem zKS{ls:List L}(h:¬(ids ls).Nodup):((zEc ls:Nat):Int)<cnt ls:=by
 have h1:=zKM (flatP 0 ls);have h2:¬Maps.size (mapD (flatP 0 ls))=(flatP 0 ls).length:=fun e=>h ((zGv _).1 e)
 have h3:=wAD 0 ls;unfold zEc;omega
theorem zEd(s:Int):[(s,1,2)].any zAl = !zAB s:=by
 rw[Bool.eq_iff_iff];simp[zAl,zAB];omega
theorem zEe(s:Int)(q:Option Addr)(m c:Nat)(ls:List L)(w:World)(hk:zAB s=false) :
  Calls prog 121 #[.int .i64 s,.slice q m c] w fun e w'=>PlacesPost s ls w e w':=by
 have HS:Hid ([(s,1,2)].any zAl=true):=by have:=zEd s;rw[hk] at this;exact this
 have HP:Hid (∀W,Bw w W→PlacesPost s ls w (.returned (.tuple #[.map none,.iface 90 (.int .i64 1)])) W):=fun W hW=>⟨hW,.inl ⟨by rw[zGw hk];omega,by rw[zGw hk];rfl⟩⟩
 generalize PlacesPost s ls w=POST at *;clear hk;go_enter func121,ntmps121;go_wp2_with fail;refine(zAP s w).mono ?_;rintro e w1⟨rfl,h1⟩;go_wp2_with fail;refine(scheck1 true _ _ _ _ _ rfl HS.out).mono ?_;rintro e w2⟨rfl,h2⟩;simp only[show errV (zAd true)=.iface 90 (.int .i64 1) from rfl]
 have HD:Hid (Bw w w2):=h1.trans (h2.mono h1.size);clear h1 h2;go_wp2_with fail;exact HP.out _ HD.out
theorem zHH(s:Int)(b o c:Nat)(ls:List L)(w:World)(hb:b<w.heap.size)(hc:ls.length≤c)(hm:c≤9223372036854775807)(hl:LL w b o ls)(hk:zAB s=true) :
  Calls prog 121 #[.int .i64 s,.slice (some ⟨b,o,none⟩) ls.length c] w fun e w'=>PlacesPost s ls w e w':=by
 have HS:Hid ([(s,1,2)].any zAl=false):=by have:=zEd s;rw[hk] at this;exact this
 have HL:Hid (LL w b o ls):=hl;have Uf:Hid (∀W,Below w.heap.size w W→LS W (.slice (some ⟨b,o,none⟩) ls.length c) ls):=fun W hW=>LS.below (.inr ⟨b,o,c,rfl,hc,hm,hb,hl⟩) hW
 generalize hQ:sgo s none ls=Q;have HQ:Hid (sgo s none ls=Q):=hQ;have PL:Hid (∀W,Below w.heap.size w W→¬Q=0→PlacesPost s ls w (.returned (.tuple #[.map none,errV Q])) W):=fun W hW h0=>by
  have e:=zQt (ls:=ls) hk (by rw[hQ];exact h0)
  rw[hQ] at e;exact⟨hW,.inl ⟨by rw[e];exact h0,by rw[e]⟩⟩
 have Dp:Hid (∀W,Below w.heap.size w W→Q=0→60<cnt ls→PlacesPost s ls w (.returned (.tuple #[.map none,.iface 90 (.int .i64 4)])) W):=fun W hW h0 GF=>by
  have e:=zKR (ls:=ls) hk (by rw[hQ];exact h0) GF
  exact⟨hW,.inl ⟨by rw[e];omega,by rw[e];rfl⟩⟩
 have HTWO:Hid (∀W,Below w.heap.size w W→Q=0→¬60<cnt ls→¬(ids ls).Nodup→PlacesPost s ls w (.returned (.tuple #[.map none,.iface 90 (.int .i64 7)])) W):=fun W hW h0 GF hd=>by
  have e:=zNH (ls:=ls) hk (by rw[hQ];exact h0) GF hd
  exact⟨hW,.inl ⟨by rw[e];omega,by rw[e];rfl⟩⟩
 have uF:Hid (∀W B,Below w.heap.size w W→Q=0→¬60<cnt ls→(ids ls).Nodup→w.heap.size≤B→Own W B (flatP 0 ls)→PlacesPost s ls w (.returned (.tuple #[.map (some B),.nilIface])) W):=fun W B hW h0 GF hd hB hO=>by
  have e:=zEa (ls:=ls) hk (by rw[hQ];exact h0) GF hd
  exact⟨hW,.inr ⟨e,B,hB,rfl,hO⟩⟩
 have gO:Hid (Q=0→(∀l∈ls,qchk l.rests=0)∧ls.length≤10000):=fun h0=>⟨fun l hl=>(zAf (zAs (by rw[hQ];exact h0) l hl)).2.2,zQs hk (by rw[hQ];exact h0)⟩
 generalize PlacesPost s ls w=POST at *;clear hl hQ hk;generalize hn:ls.length=n at *;have HN:Hid (ls.length=n):=hn;clear hn;go_enter func121,ntmps121;go_wp2_with fail;refine(zAP s w).mono ?_;rintro e w1⟨rfl,h1⟩;go_wp2_with fail;refine(scheck1 false _ _ _ _ _ rfl HS.out).mono ?_;rintro e w2⟨rfl,h2⟩;simp only[show errV (zAd false)=.nilIface from rfl]
 have HD:Hid (Below w.heap.size w w2):=h1.trans (h2.mono h1.size);clear h1 h2;go_wp2_with fail;go_loopg [7,8,9,21] n (fun gg _ _ _ s21 wr=>∃kk:Nat,kk≤n∧n - kk≤gg∧s21=.int .i64 kk∧Aside (Below w.heap.size w wr)∧Aside (sgo s (zCZ ls kk) (ls.drop kk)=Q))
 case atStart=>exact⟨0,jL _,by omega,rfl,HD.out,HQ.out⟩
 case round=>
  obtain⟨kk,gd,hg,rfl,BW,A⟩:=hrel;by_cases Hi:kk<n
  ·have Hp:(kk:Int)<(n:Int):=by omega
   have Hs:kk<ls.length:=by rw[HN.out];exact Hi
   obtain⟨r,hr⟩:∃r,ls[kk]! = r:=⟨_,rfl⟩;obtain⟨p,zs⟩:=r;obtain⟨q,cc,a0,a1,hs⟩:=HL.out.at Hs hr;have c0:=zAa BW.out a0;have c1:=zAa BW.out a1;have hA:=A.out;rw[sgo_at Hs,hr] at hA;simp only[] at hA;have HA:Hid ((if lchk ⟨p,zs⟩=0 then (if zCc s (zCZ ls kk) p=true then sgo s (zCZ ls (kk+1)) (ls.drop (kk+1)) else 7) else lchk ⟨p,zs⟩)=Q):=hA
   have gR:¬((kk:Int)<0):=by omega
   have U8:=fun W (h:SLe W (.slice q zs.length cc) zs)=>zEP p (.slice q zs.length cc) zs W h
   have HC:Hid (∀W,SLe W (.slice q zs.length cc) zs→Calls prog 143 #[.agg #[.int .i64 p,.slice q zs.length cc]] W fun e w'=>e=.returned (errV (lchk ⟨p,zs⟩))∧Below W.heap.size W w'):=U8
   have SW:Hid (∀W,Below w.heap.size w W→SLe W (.slice q zs.length cc) zs):=fun W hW=>hs.below hW
   have hR:=jA wr (.cells #[.int .i64 p,.slice q zs.length cc] 54);have HV:Hid (Below w.heap.size w (wr.alloc (.cells #[.int .i64 p,.slice q zs.length cc] 54))):=BW.out.alloc BW.out.size _;clear hr hA U8 A a1;generalize lchk ⟨p,zs⟩=k at *;generalize zs.length=m at *;go_wp2_with fail;generalize wr.alloc (.cells #[.int .i64 p,.slice q m cc] 54)=V at *;have d0:V.cell? ⟨wr.heap.size,0,none⟩=some (.int .i64 p):=by simp[World.cell?,hR]
   refine(HC.out V (SW.out V HV.out)).mono ?_;rintro e w3⟨rfl,h3⟩;have gX:Hid (Below w.heap.size w w3):=HV.out.trans (h3.mono HV.out.size);have e0:=zAa h3 d0;clear h3 hR d0 HC SW;by_cases hk:k=0
   ·subst hk;rw[if_pos rfl] at HA;simp only[wAa];by_cases hz:kk=0
    ·have hB:zCc s (zCZ ls kk) p=true:=(by rw[hz];rfl);rw[if_pos hB] at HA;have hz' : ¬(0:Int)<(kk:Int):=(by omega);have gE:¬0<kk:=(by omega);clear hz hB;have gu:decide (0<kk)=false:=(by simp;omega);have gA:decide ((0:Int)<(kk:Int))=false:=(by simp;omega);go_upto_region 10 with fail
     go_quiet (fail)
     go_wp2_with fail;go_roundg (n - (kk+1))
     case measure=>omega
     case rel=>exact⟨kk+1,by omega,by omega,by go_num,zEb gX.out _,HA.out⟩
    ·obtain⟨j,hkj⟩:∃j,kk=j+1:=⟨kk - 1,by omega⟩
     have hj:j<ls.length:=(by omega);obtain⟨r,hr⟩:∃r,ls[j]! = r:=⟨_,rfl⟩;obtain⟨p',zs'⟩:=r;obtain⟨q',cc',f0,f1,hs'⟩:=HL.out.at hj hr;have g0:=zAa gX.out f0;have hB:zCc s (zCZ ls kk) p=zAX s p' p:=(by rw[hkj,zDZ,hr];rfl);rw[hB] at HA;have HLD:Hid (∀W,Below w3.heap.size w3 W→Calls prog 144 #[.int .i64 s,.int .i64 p',.int .i64 p] W fun e w'=>e=.returned (.bool (zAX s p' p))∧Below w3.heap.size w3 w'):=fun W hW=>zKH w3 s p' p W hW
     clear hr hB hs' f0 f1;generalize zAX s p' p=ld at *;have i1:wrap64 ((kk:Int) - 1)=(j:Int):=(by unfold wrap64;omega);have i2:IntKind.i64.wrap ((kk:Int) - 1)=(j:Int):=(IntWalk.i64_left _).trans i1;have i3:(0:Int)<(kk:Int):=(by omega);have i4:0<kk:=(by omega);have i7:(0:Int)≤(j:Int):=(by omega);have i8:j<n:=(by omega);have i5:¬(j:Int)<0:=(by omega);have i6:(j:Int)<(n:Int):=(by omega);clear hkj hz;have SO:Hid (∀W,Below w3.heap.size w3 W→(Below w3.heap.size w3 W∧W.cell? ⟨wr.heap.size,0,none⟩=some (.int .i64 p)∧W.cell? ⟨b,o+j*2,none⟩=some (.int .i64 p'))):=fun W hW=>⟨hW,zAa hW e0,zAa hW g0⟩
     go_upto_region 10 with fail
     go_region_held3 (fun W=>Below w3.heap.size w3 W∧W.cell? ⟨wr.heap.size,0,none⟩=some (.int .i64 p)∧W.cell? ⟨b,o+j*2,none⟩=some (.int .i64 p'))
      ((refine SO.out _ ?_;(with_reducible repeat' (first|assumption|refine bal ?_ _|refine Below.setCell ?_ ?_ _|refine Below.drew ?_|exact bzR _ _|exact nzR _|exact Below.size (by assumption)|refine jD ?_))))
      (first|(go_at_call 144;refine(HLD.out _ ?_).mono ?_;(with_reducible repeat' (first|assumption|refine bal ?_ _|refine Below.setCell ?_ ?_ _|refine Below.drew ?_|exact bzR _ _|exact nzR _|exact Below.size (by assumption)|refine jD ?_));rintro x W ⟨rfl,Hm⟩))
     have GR:Hid (Below w.heap.size w W):=gX.out.trans (Hm.mono gX.out.size);clear SO HLD Hm;cases ld
     ·have h7:7=Q:=(by have:=HA.out;simpa using this);have HX:=PL.out _ GR.out (by omega)
      rw[←h7,wAb (by omega)] at HX
      clear h7 HA;go_wp2_with fail;exact HX
     ·rw[if_pos rfl] at HA;go_wp2_with fail;go_roundg (n - (kk+1))
      case measure=>omega
      case rel=>exact⟨kk+1,by omega,by omega,by go_num,GR.out,HA.out⟩
   ·rw[if_neg hk] at HA;simp only[wAb hk];have HX:=PL.out _ gX.out (by rw[←HA.out];exact hk)
    rw[←HA.out,wAb hk] at HX;go_wp2_with fail;exact HX
  ·have Hp:¬(kk:Int)<(n:Int):=by omega
   have hk:kk=n:=by omega
   have Co:Q=0:=by
    have h:=A.out;rw[List.drop_eq_nil_of_le (by rw[HN.out];omega)] at h
    exact h.symm
   obtain⟨hq,pN⟩:=gO.out Co;have Di:Hid (∀W,Below w.heap.size w W→Calls prog 145 #[.slice (some ⟨b,o,none⟩) n c] W fun e w'=>e=.returned (.int .i64 (cnt ls))∧Below W.heap.size W w'):=fun W hW=>zKK _ ls W (Uf.out W hW) (fun l hl=>((zAn _).1 (hq l hl)).1) (by rw[HN.out];exact pN)
   have D6:Hid (∀W,Below w.heap.size w W→Calls prog 146 #[.slice (some ⟨b,o,none⟩) n c] W fun e w'=>e=.returned (.map (some W.heap.size))∧Own w' W.heap.size (flatP 0 ls)∧Below W.heap.size W w'):=fun W hW=>zQq _ ls W (Uf.out W hW) hq (by rw[HN.out];exact pN)
   have co:Hid ((ids ls).Nodup→((zEc ls:Nat):Int)=cnt ls):=zIl;have pr:Hid (¬(ids ls).Nodup→((zEc ls:Nat):Int)<cnt ls):=zKS;have po:Hid (∀W B,Own W B (flatP 0 ls)→W.ownsMap prog 3 plR B (flatP 0 ls).length (mapD (flatP 0 ls))∧Maps.size (mapD (flatP 0 ls))=zEc ls):=fun W B h=>⟨h,rfl⟩
   clear hq pN A hk;generalize cnt ls=T at *;go_wp2_with fail;refine(Di.out _ BW.out).mono ?_;rintro e w3⟨rfl,h3⟩;have gX:Hid (Below w.heap.size w w3):=BW.out.trans (h3.mono BW.out.size);clear h3 Di;by_cases GF:60<T
   ·have HX:=Dp.out _ gX.out Co GF;clear Co;go_wp2_with fail;exact HX
   ·go_wp2_with fail;refine(D6.out _ gX.out).mono ?_;rintro e w4⟨rfl,hO,h4⟩;have GR:Hid (Below w.heap.size w w4):=gX.out.trans (h4.mono gX.out.size);have HO:Hid (Own w4 w3.heap.size (flatP 0 ls)):=hO;have HB:Hid (w.heap.size≤w3.heap.size):=gX.out.size;obtain⟨Hk,ur⟩:=po.out _ _ hO;clear h4 D6 hO;generalize w3.heap.size=B at *;by_cases hd:(ids ls).Nodup
    ·have HX:=uF.out _ B GR.out Co GF hd HB.out HO.out;have hz:=co.out hd;clear Co co pr hd;generalize zEc ls=z at *;have hzz:¬((z:Int)<T):=(by omega);go_wp2_with (at_len;refine wpList_len_own _ rfl _ 189 rfl 3 194 underlying189 plR B _ _ rfl Hk ?_;rw[ur])
     exact HX
    ·have HX:=HTWO.out _ GR.out Co GF hd;have hz:=pr.out hd;clear Co co pr hd;generalize zEc ls=z at *;go_wp2_with (at_len;refine wpList_len_own _ rfl _ 189 rfl 3 194 underlying189 plR B _ _ rfl Hk ?_;rw[ur])
     exact HX
theorem zKT{s:Int}(h:zAB s=true):schk s []=0:=zEa h rfl (by simp[cnt]) (by simp[ids,flatP])
theorem zJm(s:Int)(w:World)(hk:zAB s=true) :
  Calls prog 121 #[.int .i64 s,.slice none 0 0] w fun e w'=>PlacesPost s [] w e w':=by
 have HS:Hid ([(s,1,2)].any zAl=false):=by have:=zEd s;rw[hk] at this;exact this
 have uF:Hid (∀W B,Below w.heap.size w W→w.heap.size≤B→Own W B []→PlacesPost s [] w (.returned (.tuple #[.map (some B),.nilIface])) W):=fun W B hW hB hO=>⟨hW,.inr ⟨zKT hk,B,hB,rfl,hO⟩⟩
 generalize PlacesPost s [] w=POST at *;clear hk;go_enter func121,ntmps121;go_wp2_with fail;refine(zAP s w).mono ?_;rintro e w1⟨rfl,h1⟩;go_wp2_with fail;refine(scheck1 false _ _ _ _ _ rfl HS.out).mono ?_;rintro e w2⟨rfl,h2⟩;simp only[show errV (zAd false)=.nilIface from rfl]
 have HD:Hid (Below w.heap.size w w2):=h1.trans (h2.mono h1.size);clear h1 h2;go_wp2_with fail;go_loopg [7,8,9,21] 0 (fun _ _ _ _ s21 wr=>s21=.int .i64 0∧Aside (Below w.heap.size w wr))
 case atStart=>exact⟨rfl,HD.out⟩
 case round=>
  obtain⟨rfl,BW⟩:=hrel;go_wp2_with fail;refine(zGu _).mono ?_;rintro e w3⟨rfl,h3⟩;have gX:Hid (Below w.heap.size w w3):=BW.out.trans (h3.mono BW.out.size);clear h3;go_wp2_with fail;refine(zKP _).mono ?_;rintro e w4⟨rfl,hO,h4⟩;have GR:Hid (Below w.heap.size w w4):=gX.out.trans (h4.mono gX.out.size);have HX:=uF.out _ _ GR.out gX.out.size hO;have Hk:w4.ownsMap prog 3 plR w3.heap.size 0 (.map []):=hO;have ur:Maps.size (.map []:DataW Unit)=0:=rfl;clear h4 hO;generalize w3.heap.size=B at *;go_wp2_with (at_len;refine wpList_len_own _ rfl _ 189 rfl 3 194 underlying189 plR B _ _ rfl Hk ?_;rw[ur])
  exact HX
theorem zBV(s:Int)(v:Value)(ls:List L)(w:World)(h:LS w v ls) :
  Calls prog 121 #[.int .i64 s,v] w fun e w'=>PlacesPost s ls w e w':=by
 cases hk:zAB s
 ·rcases h with ⟨rfl,rfl⟩|⟨b,o,c,rfl,h2,h3,h4,h5⟩
  ·exact zEe s none 0 0 [] w hk
  ·exact zEe s (some ⟨b,o,none⟩) _ c ls w hk
 ·rcases h with ⟨rfl,rfl⟩|⟨b,o,c,rfl,h2,h3,h4,h5⟩
  ·exact zJm s w hk
  ·exact zHH s b o c ls w h4 h2 h3 h5 hk
theorem zEf(s:Int)(v:Value)(ls:List L)(w:World)(h:LS w v ls) :
  Calls prog 117 #[.int .i64 s,v] w fun e w'=>e=.returned (errV (schk s ls))∧Bw w w':=by
 have Hf:=zBV s v ls w h;generalize hQ:schk s ls=Q;have HP:Hid (∀e w',PlacesPost s ls w e w'→Bw w w'∧∃m,e=.returned (.tuple #[.map m,errV Q])):=fun e w' hp=>by
  obtain⟨h1,⟨_,h3⟩|⟨h2,B,_,h3,_⟩⟩:=hp
  ·rw[hQ] at h3;exact⟨h1,_,h3⟩
  ·rw[hQ] at h2;rw[h2];exact⟨h1,_,h3⟩
 clear h hQ;generalize errV Q=E at *;go_enter func117,ntmps117;go_wp2_with fail;refine Hf.mono ?_;rintro e w1 hp;obtain⟨h1,m,rfl⟩:=HP.out _ _ hp;clear Hf HP hp;go_wp2_with fail;go_ret;exact⟨rfl,h1⟩
theorem zGx(w:World):(zeroValue 194).run prog w=.ok (.agg #[.int .i64 0,.int .i64 0]) w:=by kernel_rfl
theorem zBt{P:Program}(w:World){ops:Array Oper}{rest:List Oper}{o:Oper}{a:Act}{Q:Exit→Act→World→Prop}
  (hg:o.guard=none) (m x:Operand) (t:TypeId) (ET:o.op=Op.lookup t m x true)
  (k e:TypeId) (K:Keyed P k) (ht:P.underlying t=some (.map k e)) (hz:(zeroValue e).run P w=.ok (.agg #[.int .i64 0,.int .i64 0]) w) (b n:Nat) (D:DataW Unit)
  (hm:a.eval m=.map (some b)) (Hk:w.ownsMap P k plR b n D) (key:Value) (kl:Lit) (hx:a.eval x=key) (G6:keyOf P k key=some kl)
  (i j:Int) (th:Bool) (Gm:D.atKey kl (plD 0 0)=plD i j) (uO:Maps.has D kl=th)
  (hK:wpList P ops Q rest (a.put o.dst (.tuple #[.agg #[.int .i64 i,.int .i64 j],.bool th])) w) :
  wpList P ops Q (o::rest) a w:=
 wpList_lookup_own_ok w hg m x t ET k e K ht plR hz (plD 0 0) [] (zPS 0 0) b n D hm Hk key kl hx G6 (fun v ps hv=>by
  rw[Gm] at hv;rw[zQn hv,uO];exact hK)
def zAF(s:Int)(ls:List L)(id:Int):Int:=if schk s ls=0 then (if (zAC (flatP 0 ls) id).isSome=true then 0 else 5) else schk s ls
def zBn(s:Int)(ls:List L)(id:Int):Int × Int:=if zAF s ls id=0 then ((zAC (flatP 0 ls) id).getD (0,0,0)).2 else (0,0)
theorem zIm(ps:List P3)(id:Int):Maps.has (mapD ps) (.int .i64 id)=(zAC ps id).isSome:=by
 rw[zIj,Bool.eq_iff_iff,zAC,List.find?_isSome];simp
theorem zKU(ps:List P3)(id:Int):(mapD ps).atKey (.int .i64 id) (plD 0 0)=plD ((zAC ps id).getD (0,0,0)).2.1 ((zAC ps id).getD (0,0,0)).2.2:=by
 rw[zQo];cases zAC ps id <;>rfl
def zBl(s:Int)(ls:List L)(id:Int):Value:=.tuple #[.int .i64 (zBn s ls id).1,.int .i64 (zBn s ls id).2,errV (zAF s ls id)]
theorem wBg{s:Int}{ls:List L}{id:Int}(h:¬schk s ls=0):zBl s ls id=.tuple #[.int .i64 0,.int .i64 0,errV (schk s ls)]:=by
 have e:zAF s ls id=schk s ls:=if_neg h;unfold zBl zBn;rw[e,if_neg h]
theorem zKV{s:Int}{ls:List L}{id:Int}(h:schk s ls=0)(h2:zAC (flatP 0 ls) id=none):zBl s ls id=.tuple #[.int .i64 0,.int .i64 0,.iface 90 (.int .i64 5)]:=by
 have e:zAF s ls id=5:=by unfold zAF;rw[if_pos h,h2];rfl
 unfold zBl zBn;rw[e];rfl
theorem zNI{s:Int}{ls:List L}{id:Int}(h:schk s ls=0){x:P3}(h2:zAC (flatP 0 ls) id=some x):zBl s ls id=.tuple #[.int .i64 x.2.1,.int .i64 x.2.2,.nilIface]:=by
 have e:zAF s ls id=0:=by unfold zAF;rw[if_pos h,h2];rfl
 unfold zBl zBn;rw[e,h2];rfl
theorem wAr(s:Int)(v:Value)(ls:List L)(id:Int)(w:World)(h:LS w v ls)(hid:(Lit.int .i64 id).wf=true) :
  Calls prog 97 #[.int .i64 s,v,.int .i64 id] w fun e w'=>e=.returned (zBl s ls id)∧Bw w w':=by
 have Hf:=zBV s v ls w h;have G6:keyOf prog 3 (.int .i64 id)=some (.int .i64 id):=keyOf_int_mk underlying3 hid;clear h hid;by_cases h0:schk s ls=0
 ·have HP:Hid (∀e w',PlacesPost s ls w e w'→Bw w w'∧∃B,e=.returned (.tuple #[.map (some B),.nilIface])∧Own w' B (flatP 0 ls)):=fun e w' hp=>by
   obtain⟨h1,⟨h2,_⟩|⟨_,B,_,h3,h4⟩⟩:=hp
   ·exact absurd h0 h2
   ·exact⟨h1,B,h3,h4⟩
  have hh:=zIm (flatP 0 ls) id;have ha:=zKU (flatP 0 ls) id;cases hl:zAC (flatP 0 ls) id with
  | none=>
   rw[zKV h0 hl];rw[hl] at hh ha;simp only[Option.isSome_none,Option.getD_none] at hh ha;clear h0 hl;go_enter func97,ntmps97;go_wp2_with fail;refine Hf.mono ?_;rintro e w1 hp;obtain⟨h1,B,rfl,hO⟩:=HP.out _ _ hp;have Hk:w1.ownsMap prog 3 plR B (flatP 0 ls).length (mapD (flatP 0 ls)):=hO;clear Hf HP hp hO;go_wp2_with (at_lookup;refine zBt _ rfl _ _ 189 rfl 3 194 lawI underlying189 (zGx _) B _ _ rfl Hk _ _ rfl G6 _ _ _ ha hh ?_)
   go_ret3
   exact⟨rfl,by first|exact h1|exact h1.alloc h1.size _⟩
  | some x=>
   rw[zNI h0 hl];rw[hl] at hh ha;simp only[Option.isSome_some,Option.getD_some] at hh ha;obtain⟨x1,x2,x3⟩:=x;simp only[] at hh ha ⊢;clear h0 hl;go_enter func97,ntmps97;go_wp2_with fail;refine Hf.mono ?_;rintro e w1 hp;obtain⟨h1,B,rfl,hO⟩:=HP.out _ _ hp;have Hk:w1.ownsMap prog 3 plR B (flatP 0 ls).length (mapD (flatP 0 ls)):=hO;clear Hf HP hp hO;go_wp2_with (at_lookup;refine zBt _ rfl _ _ 189 rfl 3 194 lawI underlying189 (zGx _) B _ _ rfl Hk _ _ rfl G6 _ _ _ ha hh ?_)
   go_quiet (fail)
   go_wp2_with fail
   go_ret3
   exact⟨rfl,by first|exact h1|exact h1.alloc h1.size _|exact zEb (h1.alloc h1.size _) _⟩
 ·rw[wBg h0,wAb h0];have HP:Hid (∀e w',PlacesPost s ls w e w'→Bw w w'∧e=.returned (.tuple #[.map none,.iface 90 (.int .i64 (schk s ls))])):=fun e w' hp=>by
   obtain⟨h1,⟨_,h3⟩|⟨h2,_⟩⟩:=hp
   ·rw[wAb h0] at h3;exact⟨h1,h3⟩
   ·exact absurd h2 h0
  generalize schk s ls=k at HP ⊢;clear h0;go_enter func97,ntmps97;go_wp2_with fail;refine Hf.mono ?_;rintro e w1 hp;obtain⟨h1,rfl⟩:=HP.out _ _ hp;clear Hf HP hp;go_wp2_with fail
  go_ret3
  exact⟨rfl,h1⟩
end sid
namespace que
open Go.RowKit spn
def OwnM(w:World)(base:Nat)(e:TypeId)(sz:Nat)(v:Value)(n:Nat)(xs:List Value):Prop:=
 xs.length=n*sz∧((v=.slice none 0 0∧n=0)∨
  ∃g off cap cur,v=.slice (some ⟨g,off,none⟩) n cap∧base≤g∧w.heap[g]?=some (.cells cur e (0,0))∧n≤cap∧cap≤maxLen∧off+cap*sz≤cur.size∧(cur.toList.drop off).take (n*sz)=xs)
theorem OwnM.kept{w w' : World}{base:Nat}{e:TypeId}{sz:Nat}{v:Value}{n:Nat}{xs:List Value}{row:Option Nat}(h:OwnM w base e sz v n xs)(hg:w.grownBy w' row)(H8:v.ownBlock=none∨v.ownBlock≠row):OwnM w' base e sz v n xs:=by
 refine⟨h.1,?_⟩;rcases h.2 with hn|⟨g,off,cap,cur,rfl,hb,Hu,rest⟩
 ·exact .inl hn
 ·refine .inr ⟨g,off,cap,cur,rfl,hb,?_,rest⟩;rw[hg.block g (gzE.1 Hu).1 (by simpa [Value.ownBlock] using H8)]
  exact Hu
theorem OwnM.lt{w:World}{base:Nat}{e:TypeId}{sz:Nat}{v:Value}{n:Nat}{xs:List Value}(h:OwnM w base e sz v n xs):∀k,v.ownBlock=some k→base≤k∧k<w.heap.size:=by
 intro k hk;rcases h.2 with ⟨rfl,_⟩|⟨g,off,cap,cur,rfl,hb,hg,_⟩
 ·simp[Value.ownBlock] at hk
 ·simp[Value.ownBlock] at hk;subst hk;exact⟨hb,(gzE.1 hg).1⟩
theorem OwnM.below{w w' : World}{base:Nat}{e:TypeId}{sz:Nat}{v:Value}{n:Nat}{xs:List Value}(h:OwnM w base e sz v n xs)(hB:Bw w w'):OwnM w' base e sz v n xs:=by
 refine⟨h.1,?_⟩;rcases h.2 with hn|⟨g,off,cap,cur,rfl,hb,Hu,rest⟩
 ·exact .inl hn
 ·refine .inr ⟨g,off,cap,cur,rfl,hb,?_,rest⟩;rw[hB.block g (gzE.1 Hu).1];exact Hu
section
variable {P:Program}(w:World)
theorem wAu(t ty e:TypeId)(i:TypeInfo)(ht:P.underlying t=some (.slice e))(hi:P.info? e=some i)
  (g off sLen sCap:Nat) (cur:Array Value) (hg:w.heap[g]?=some (.cells cur e (0,0)))
  (a:Addr) (m c:Nat) (news:List Value) (hl:news.length=m*i.size) (Hn:∀j u,news[j]?=some u→w.cell? (a.add j)=some u) (h1:∀u∈news,u.oneCell'=true)
  (gT:sLen+m≤sCap) (mV:off+sLen*i.size+news.length≤cur.size) :
  (Builtin.append_ #[t,t] ty #[.slice (some ⟨g,off,none⟩) sLen sCap,.slice (some a) m c]).run P w =
   .ok (.slice (some ⟨g,off,none⟩) (sLen+m) sCap) (w.setRow g (cur.toList.take (off+sLen*i.size)++news++cur.toList.drop (off+sLen*i.size+news.length)).toArray):=by
 have hf:=run_firstCells_some (P:=P) w i.size m a m c news hl Hn;have Gb:=run_storeCells_at P g (off+sLen*i.size) e news 0 cur w hg (by simpa using mV) h1
 simp only[Nat.add_zero] at Gb;simp[Builtin.append_,run_underlying ht,sizeOf,typeInfo,hi,Builtin.lenOf,gT,hf,Addr.add_lit,Gb]
theorem wAo(base:Nat)(t ty e:TypeId)(i:TypeInfo)(z:Value)(size bytes:Nat)(ht:P.underlying t=some (.slice e))(hi:P.info? e=some i)(hz:i.zero=some z)
  (GQ:i.size=size) (UD:i.bytes=bytes) (Mm:z.cells.size=size)
  (v:Value) (n:Nat) (xs:List Value) (Hk:OwnM w base e size v n xs)
  (a:Addr) (m c:Nat) (news:List Value) (hl:news.length=m*size) (Hn:∀j u,news[j]?=some u→w.cell? (a.add j)=some u) (h1:∀u∈news,u.oneCell'=true)
  (MC:n+m≤maxLen) (gH:(n+m)*bytes≤140737488355328) (Hq:base≤w.heap.size) :
  ∃v' w',(Builtin.append_ #[t,t] ty #[v,.slice (some a) m c]).run P w=.ok v' w'∧OwnM w' base e size v' (n+m) (xs++news)∧w.grownBy w' v.ownBlock∧(v'.ownBlock=v.ownBlock∨v'.ownBlock=some w.heap.size):=by
 subst GQ;subst UD;have CV:n+m≤9223372036854775807:=by simp only[maxLen] at MC;omega
 have Hh:(xs++news).length=(n+m)*i.size:=by rw[jE,Hk.1,hl,Nat.add_mul]
 have grown:∀ (old:Nat),old<n+m→∀ (row:Option Nat),
   OwnM (w.drew.alloc (.cells (xs.toArray++news.toArray++Builtin.zeroCells z.cells (grownCap w (n+m) old e - (n+m))) e)) base e i.size
    (.slice (some ⟨w.heap.size,0,none⟩) (n+m) (grownCap w (n+m) old e)) (n+m) (xs++news)∧
   w.grownBy (w.drew.alloc (.cells (xs.toArray++news.toArray++Builtin.zeroCells z.cells (grownCap w (n+m) old e - (n+m))) e)) row:=by
  intro old ho row;have bH:=grownCap_ge w (n+m) old e;have gi:grownCap w (n+m) old e≤maxLen:=grownCap_le_maxLen w (n+m) old e MC;refine⟨⟨Hh,.inr ⟨w.heap.size,0,_,_,rfl,Hq,jA w.drew _,bH,gi,?_,?_⟩⟩,⟨rfl,rfl,rfl,by simp,fun k hk _=>Below.heap_alloc w.drew _ k hk⟩⟩
  ·simp only[Array.size_append,List.size_toArray,size_zeroCells,Mm,Hk.1,hl,←Nat.add_mul,Nat.zero_add];exact Nat.mul_le_mul_right _ (by omega)
  ·simp only[Array.toList_append,List.drop_zero];rw[←Hh];exact List.take_left
 rcases Hk.2 with ⟨rfl,rfl⟩|⟨g,off,cap,cur,rfl,ud,hg,GH,gi,Gy,ga⟩
 ·have hx:xs=[]:=List.eq_nil_of_length_eq_zero (by simpa using Hk.1)
  subst hx;by_cases hm:m=0
  ·subst hm;have hn:news=[]:=List.eq_nil_of_length_eq_zero (by simpa using hl)
   subst hn;refine⟨.slice none 0 0,w,?_,⟨by simp,.inl ⟨rfl,rfl⟩⟩,⟨rfl,rfl,rfl,nzR _,fun _ _ _=>rfl⟩,.inl rfl⟩
   simp[Builtin.append_,run_underlying ht,sizeOf,typeInfo,hi,Builtin.lenOf,Builtin.firstCells,loadCells,loadCellsFrom]
  ·have hr:=run_append_nil (P:=P) w t ty e i z ht hi hz a m c news hl Hn (by omega) (by omega) (by have hb:=gH;simp only[Nat.zero_add] at hb;omega)
   have Hy:=grown 0 (by omega) (Value.ownBlock (.slice none 0 0))
   simp only[Nat.zero_add,jU,Array.empty_append] at Hy ⊢;exact⟨_,_,hr,Hy.1,Hy.2,.inr rfl⟩
 ·by_cases gT:n+m≤cap
  ·have Gh:(n+m)*i.size≤cap*i.size:=Nat.mul_le_mul_right _ gT;have mV:off+n*i.size+news.length≤cur.size:=by rw[hl];rw[Nat.add_mul] at Gh;omega
   have hr:=wAu (P:=P) w t ty e i ht hi g off n cap cur hg a m c news hl Hn h1 gT mV;refine⟨_,_,hr,⟨Hh,.inr ⟨g,off,cap,_,rfl,ud,setRow_heap w g cur _ e _ hg,gT,gi,?_,?_⟩⟩,⟨rfl,rfl,rfl,by simp,fun k _ hk=>setRow_other w g k _ (fun e=>hk (by simp[Value.ownBlock,e]))⟩,.inl rfl⟩
   ·simp only[List.size_toArray,jE,jJ,jQ,Array.length_toList];omega
   ·have hx:xs.length=n*i.size:=Hk.1;have U8:off+n*i.size≤cur.toList.length:=(by rw[Array.length_toList];omega);have e1:cur.toList.take (off+n*i.size)=cur.toList.take off++xs:=by
     rw[←ga,←List.take_add]
    rw[e1,jS,jS,List.drop_append_of_le_length (by rw[jJ];omega),List.drop_eq_nil_of_le (by rw[jJ];omega),jU,←jS,←Hh]
    exact List.take_left
  ·have Pt:∀j u,xs[j]?=some u→w.cell? ((⟨g,off,none⟩:Addr).add j)=some u:=by
    intro j u hu;rw[Addr.add_lit,jZ w g (off+j) cur e (0,0) hg];rw[←ga,List.getElem?_take] at hu;split at hu
    ·rw[List.getElem?_drop] at hu;simpa using hu
    ·cases hu
   have hr:=run_append_grow (P:=P) w t ty e i z ht hi hz ⟨g,off,none⟩ n cap xs Hk.1 Pt a m c news hl Hn (by omega) (by omega) (growslice_fits (by omega) gH)
   have Hy:=grown cap (by omega) (Value.ownBlock (.slice (some ⟨g,off,none⟩) n cap))
   exact⟨_,_,hr,Hy.1,Hy.2,.inr rfl⟩
theorem wAe{ops:Array Oper}{rest:List Oper}{o:Oper}{a:Act}{Q:Exit→Act→World→Prop}(M5:o.guard=none)(s x:Operand)(t:TypeId)
  (ho:o.op=.call { callee:=.builtin .append,args:=#[s,x],argTypes:=#[t,t] })
  (base:Nat) (e:TypeId) (i:TypeInfo) (z:Value) (size bytes:Nat) (ht:P.underlying t=some (.slice e)) (hi:P.info? e=some i) (hz:i.zero=some z)
  (GQ:i.size=size) (UD:i.bytes=bytes) (Mm:z.cells.size=size)
  (v:Value) (n:Nat) (xs:List Value) (hs:a.eval s=v) (Hk:OwnM w base e size v n xs)
  (ad:Addr) (m c:Nat) (news:List Value) (hx:a.eval x=.slice (some ad) m c) (hl:news.length=m*size) (Hn:∀j u,news[j]?=some u→w.cell? (ad.add j)=some u) (h1:∀u∈news,u.oneCell'=true)
  (MC:n+m≤maxLen) (gH:(n+m)*bytes≤140737488355328) (Hq:base≤w.heap.size)
  (h:∀v' w',OwnM w' base e size v' (n+m) (xs++news)→w.grownBy w' v.ownBlock→(v'.ownBlock=v.ownBlock∨v'.ownBlock=some w.heap.size)→wpList P ops Q rest (a.put o.dst v') w'):wpList P ops Q (o::rest) a w:=by
 refine wpList_plain M5 fun _ hK=>?_
 obtain⟨v',w',hr,h2,h3,h4⟩:=wAo (P:=P) w base t o.type e i z size bytes ht hi hz GQ UD Mm v n xs Hk ad m c news hl Hn h1 MC gH Hq;unfold Oper.wp execOp;simp only[ho,resolve,invoke,builtin,Sem.run_bind,Sem.run_pure,Result.andThen_ok,List.map_toArray,jK,List.map_nil,hs,hx,hr];exact hK _ _ (h v' w' h2 h3 h4)
end
theorem wAj{P:Program}(w:World){ops:Array Oper}{o:Oper}{a:Act}{K:Act→World→Prop}{Q:Exit→Act→World→Prop}{E:Prop}(M5:o.guard=none)(s x:Operand)(t:TypeId)
  (ho:o.op=.call { callee:=.builtin .append,args:=#[s,x],argTypes:=#[t,t] })
  (base:Nat) (e:TypeId) (i:TypeInfo) (z:Value) (size bytes:Nat) (ht:P.underlying t=some (.slice e)) (hi:P.info? e=some i) (hz:i.zero=some z)
  (GQ:i.size=size) (UD:i.bytes=bytes) (Mm:z.cells.size=size)
  (v:Value) (n:Nat) (xs:List Value) (hs:a.eval s=v) (Hk:OwnM w base e size v n xs)
  (ad:Addr) (m c:Nat) (news:List Value) (hx:a.eval x=.slice (some ad) m c) (hl:news.length=m*size) (Hn:∀j u,news[j]?=some u→w.cell? (ad.add j)=some u) (h1:∀u∈news,u.oneCell'=true)
  (MC:n+m≤maxLen) (gH:(n+m)*bytes≤140737488355328) (Hq:base≤w.heap.size)
  (h:∀v' w',OwnM w' base e size v' (n+m) (xs++news)→w.grownBy w' v.ownBlock→(v'.ownBlock=v.ownBlock∨v'.ownBlock=some w.heap.size)→K (a.put o.dst v') w') :
  if Region.wanted o (yielded ops a.tmps)=true then Oper.wp P o a w K Q else E:=by
 have hw:Region.wanted o (yielded ops a.tmps)=true:=by simp[Region.wanted,M5]
 rw[if_pos hw];obtain⟨v',w',hr,h2,h3,h4⟩:=wAo (P:=P) w base t o.type e i z size bytes ht hi hz GQ UD Mm v n xs Hk ad m c news hl Hn h1 MC gH Hq;unfold Oper.wp execOp;simp only[ho,resolve,invoke,builtin,Sem.run_bind,Sem.run_pure,Result.andThen_ok,List.map_toArray,jK,List.map_nil,hs,hx,hr];exact h v' w' h2 h3 h4
def flat(zs:List R):List Value:=zs.flatMap rV
theorem wAm(r:R)(t:List R):flat (r::t)=rV r++flat t:=rfl
theorem wAg(a b:List R):flat (a++b)=flat a++flat b:=by unfold flat;rw[List.flatMap_append]
theorem wAl(zs:List R):(flat zs).length=zs.length*5:=by
 induction zs with
 | nil=>rfl
 | cons r t ih=>rw[wAm,jE,ih,jG];show 5+t.length*5=_;omega
theorem wAA(zs:List R):∀j,j<zs.length→∀i,i<5→(flat zs)[j*5+i]?=(rV zs[j]!)[i]?:=by
 induction zs with
 | nil=>intro j hj;simp at hj
 | cons r t ih=>
  intro j hj i hi;rw[wAm];cases j with
  | zero=>rw[Nat.zero_mul,Nat.zero_add,List.getElem?_append_left (by show i<5;exact hi)];rfl
  | succ j=>
   rw[jV (by show 5≤_;omega)]
   have:(j+1)*5+i - (rV r).length=j*5+i:=by show (j+1)*5+i - 5=_;omega
   rw[this,ih j (by simpa using hj) i hi]
   rfl
theorem wAB(zs:List R):∀u∈flat zs,u.oneCell'=true:=by
 intro u hu;obtain⟨r,_,hr⟩:=List.mem_flatMap.1 hu;simp only[rV,List.mem_cons,List.not_mem_nil,or_false] at hr;rcases hr with rfl|rfl|rfl|rfl|rfl <;>rfl
theorem wAE{w:World}{b o:Nat}{zs:List R}(h:Lies w b o zs):∀j u,(flat zs)[j]?=some u→w.cell? ((⟨b,o,none⟩:Addr).add j)=some u:=by
 intro j u hu;have hj:j<zs.length*5:=by rw[←wAl];exact(List.getElem?_eq_some_iff.1 hu).1
 rw[Addr.add_lit];have e:j=j / 5*5+j % 5:=by omega
 rw[e,wAA zs (j / 5) (by omega) (j % 5) (by omega)] at hu
 have:=h (j / 5) (by omega) (j % 5) u hu
 rw[←this]
 congr 2
 omega
theorem wAI{w:World}{b o:Nat}{zs:List R}(h:∀j u,(flat zs)[j]?=some u→w.cell? ⟨b,o+j,none⟩=some u):Lies w b o zs:=by
 intro j hj i v hv;have hi:i<5:=(List.getElem?_eq_some_iff.1 hv).1;have:=h (j*5+i) v (by rw[wAA zs j hj i hi];exact hv)
 rw[←this,Nat.add_assoc]
abbrev OwnQ(w:World)(base:Nat)(v:Value)(zs:List R):Prop:=OwnM w base 51 5 v zs.length (flat zs)
theorem OwnQ.sl{w:World}{base:Nat}{v:Value}{zs:List R}(h:OwnQ w base v zs):SL w v zs:=by
 rcases h.2 with ⟨rfl,hn⟩|⟨g,off,cap,cur,rfl,hb,hg,GH,gi,Gy,ga⟩
 ·exact .inl ⟨rfl,List.eq_nil_of_length_eq_zero hn⟩
 ·refine .inr ⟨g,off,cap,rfl,GH,by simpa [maxLen] using gi,(gzE.1 hg).1,wAI ?_⟩
  intro j u hu;rw[jZ w g (off+j) cur _ (0,0) hg];rw[←ga,List.getElem?_take] at hu;split at hu
  ·rw[List.getElem?_drop] at hu;simpa using hu
  ·cases hu
end que
end Go.Proofs.YtnfilcpnneckkaaGreat
