import Derived.Test.YtnjpjieedgmffaaGreatDoorQueRefF
import Derived.Test.YtnjpjieedgmffaaGreatDoorKinRef1
import Derived.Deep.RegionLaw
import Derived.Deep.RegionHeld3
namespace Go.Proofs.YtnjpjieedgmffaaGreatDoor.mee
open Go.RowKit spn que sid bok
open ord (O oV mB mE chk rord_any ref_may)
set_option maxRecDepth 100000 in
set_option maxHeartbeats 8000000 in
theorem rmeet_buy (b0:Nat) (q1 q2:Option Addr) (n1 n2 c1 c2:Nat) (bs ss:List L) (a b d p q s t:Int) (w:World) (hb0:b0≤w.heap.size) (h1:LS (hide b0 w) (.slice q1 n1 c1) bs) (h2:LS (hide b0 w) (.slice q2 n2 c2) ss) (hC:comeE bs ss ⟨a,b,1,d,p,q,s,t⟩=0) :
  Calls Tryz.prog 14 #[.agg #[.slice q1 n1 c1,.slice q2 n2 c2],.agg #[.int .i64 a,.int .i64 b,.int .i64 1,.int .i64 d,.int .i64 p,.int .i64 q,.int .i64 s,.int .i64 t],.int .i64 0] w fun e w'=>MeetPost b0 bs ss ⟨a,b,1,d,p,q,s,t⟩ w e w':=by
 obtain⟨hbk,hch,-,-⟩:=come_zero hC
 have hq:1≤q∧q≤10000:=qty_of hch
 have hgood:∀l∈ss,lchk l=0:=other_good (o:=⟨a,b,1,d,p,q,s,t⟩) hbk
 have hlen:ss.length≤60:=by
  obtain⟨e1,e2,-⟩:=book_zero hbk
  have h:=len_le (side_ne e2)
  have h3:=(schk_zero e2).2.2.1
  omega
 obtain⟨V1,hV1⟩:∃V1,V1=w.alloc (.cells #[.slice q1 n1 c1,.slice q2 n2 c2] 24):=⟨_,rfl⟩
 obtain⟨V2,hV2⟩:∃V2,V2=V1.alloc (.cells #[.int .i64 a,.int .i64 b,.int .i64 1,.int .i64 d,.int .i64 p,.int .i64 q,.int .i64 s,.int .i64 t] 26):=⟨_,rfl⟩
 obtain⟨V3,hV3⟩:∃V3,V3=V2.alloc (.cells #[.slice none 0 0,.slice none 0 0,.slice none 0 0,.int .i64 0,.int .i64 0,.slice none 0 0,.bool false] 31):=⟨_,rfl⟩
 obtain⟨V,hV⟩:∃V,V=V3.alloc (.cells #[.slice q1 n1 c1,.slice q2 n2 c2,.slice none 0 0,.int .i64 q,.int .i64 0,.slice none 0 0,.bool false] 31):=⟨_,rfl⟩
 have hs1:V1.heap.size=w.heap.size+1:=by rw[hV1];simp
 have hs2:V2.heap.size=w.heap.size+2:=by rw[hV2];simp[hs1]
 have hs3:V3.heap.size=w.heap.size+3:=by rw[hV3];simp[hs2]
 have hsV:V.heap.size=w.heap.size+4:=by rw[hV];simp[hs3]
 have hb1:Below w.heap.size w V1:=by rw[hV1];exact(bzR _ _).alloc (nzR _) _
 have hb2:Below V1.heap.size V1 V2:=by rw[hV2];exact(bzR _ _).alloc (nzR _) _
 have hb3:Below V2.heap.size V2 V3:=by rw[hV3];exact(bzR _ _).alloc (nzR _) _
 have hb4:Below V3.heap.size V3 V:=by rw[hV];exact(bzR _ _).alloc (nzR _) _
 have hB:Below w.heap.size w V:=by
  have h:=hb1.trans (hb2.mono hb1.size)
  have h':=h.trans (hb3.mono h.size)
  exact h'.trans (hb4.mono h'.size)
 have hrow:V.heap[w.heap.size+3]?=some (.cells #[.slice q1 n1 c1,.slice q2 n2 c2,.slice none 0 0,.int .i64 q,.int .i64 0,.slice none 0 0,.bool false] 31 (0,0)):=by rw[←hs3,hV];exact heap_alloc_new V3 _
 have hzero:V.heap[w.heap.size+2]?=some (.cells #[.slice none 0 0,.slice none 0 0,.slice none 0 0,.int .i64 0,.int .i64 0,.slice none 0 0,.bool false] 31 (0,0)):=by
  rw[hb4.block _ (by omega),←hs2,hV3];exact heap_alloc_new V2 _
 have hord:V.heap[w.heap.size+1]?=some (.cells #[.int .i64 a,.int .i64 b,.int .i64 1,.int .i64 d,.int .i64 p,.int .i64 q,.int .i64 s,.int .i64 t] 26 (0,0)):=by
  rw[hb4.block _ (by omega),hb3.block _ (by omega),←hs1,hV2];exact heap_alloc_new V1 _
 obtain⟨P,hP⟩:∃P,P=w.heap.size+3:=⟨_,rfl⟩
 obtain⟨Q,hQ⟩:∃Q,Q=w.heap.size+2:=⟨_,rfl⟩
 obtain⟨G,hG⟩:∃G,G=w.heap.size+1:=⟨_,rfl⟩
 rw[←hP] at hrow
 rw[←hQ] at hzero
 rw[←hG] at hord
 have HP:Hid (P=w.heap.size+3∧Q=w.heap.size+2∧G=w.heap.size+1∧V.heap.size=w.heap.size+4∧b0≤w.heap.size):=⟨hP,hQ,hG,hsV,hb0⟩
 have HSO:Hid (∀W,V.grownBy W (some P)→Below w.heap.size w W∧W.heap[Q]?=some (.cells #[.slice none 0 0,.slice none 0 0,.slice none 0 0,.int .i64 0,.int .i64 0,.slice none 0 0,.bool false] 31 (0,0))∧W.cell? ⟨G,0,none⟩=some (.int .i64 a)∧W.cell? ⟨G,1,none⟩=some (.int .i64 b)∧W.cell? ⟨G,2,none⟩=some (.int .i64 1)∧W.cell? ⟨G,3,none⟩=some (.int .i64 d)∧W.cell? ⟨G,4,none⟩=some (.int .i64 p)∧W.cell? ⟨G,5,none⟩=some (.int .i64 q)∧W.cell? ⟨G,6,none⟩=some (.int .i64 s)∧W.cell? ⟨G,7,none⟩=some (.int .i64 t)):=fun W hW=>by
  have h:=HP.out
  have hz:=(hW.block Q (by omega) (fun e=>by cases e;omega)).trans hzero
  have hg:=(hW.block G (by omega) (fun e=>by cases e;omega)).trans hord
  exact⟨hB.grown hW hB.size (fun k hk=>by cases hk;omega),hz,by simp[World.cell?,hg],by simp[World.cell?,hg],by simp[World.cell?,hg],by simp[World.cell?,hg],by simp[World.cell?,hg],by simp[World.cell?,hg],by simp[World.cell?,hg],by simp[World.cell?,hg]⟩
 have HM0:Hid (MtK b0 V V P ⟨a,b,1,d,p,q,s,t⟩ (tkl ⟨a,b,1,d,p,q,s,t⟩ ss q) (.slice q2 n2 c2) (.slice none 0 0) ss [] q):=mk_start hB h2 hgood (by omega) hq.2
 have HOT:Hid (∀W,V.grownBy W (some P)→(∃cs,W.heap[P]?=some (.cells cs 31 (0,0)))→LS (hide b0 W) (.slice q1 n1 c1) bs):=fun W hW hc=>by
  obtain⟨cs,hcs⟩:=hc
  have h:=HP.out
  exact(h1.below (hide_below hB)).below (hide_put hW (by omega) ⟨_,hrow,by simp[secB]⟩ ⟨_,hcs,by simp[secB]⟩)
 have HEND:Hid (∀W xq xn xc tq tn tc ls ts left,MtK b0 V W P ⟨a,b,1,d,p,q,s,t⟩ (tkl ⟨a,b,1,d,p,q,s,t⟩ ss q) (.slice xq xn xc) (.slice tq tn tc) ls ts left→W.heap[P]?=some (.cells #[.slice q1 n1 c1,.slice xq xn xc,.slice tq tn tc,.int .i64 left,.int .i64 0,.slice none 0 0,.bool false] 31 (0,0))→tkl ⟨a,b,1,d,p,q,s,t⟩ ls left=(ls,[],left)→ts.length≤400→
   MeetPost b0 bs ss ⟨a,b,1,d,p,q,s,t⟩ w (.returned (.tuple #[.agg #[.slice q1 n1 c1,.slice xq xn xc,.slice tq tn tc,.int .i64 left,.int .i64 0,.slice none 0 0,.bool false],.int .i64 0])) (((((((W.setCell ⟨Q,0,none⟩ (.slice q1 n1 c1)).setCell ⟨Q,1,none⟩ (.slice xq xn xc)).setCell ⟨Q,2,none⟩ (.slice tq tn tc)).setCell ⟨Q,3,none⟩ (.int .i64 left)).setCell ⟨Q,4,none⟩ (.int .i64 0)).setCell ⟨Q,5,none⟩ (.slice none 0 0)).setCell ⟨Q,6,none⟩ (.bool false))∧(((((((W.setCell ⟨Q,0,none⟩ (.slice q1 n1 c1)).setCell ⟨Q,1,none⟩ (.slice xq xn xc)).setCell ⟨Q,2,none⟩ (.slice tq tn tc)).setCell ⟨Q,3,none⟩ (.int .i64 left)).setCell ⟨Q,4,none⟩ (.int .i64 0)).setCell ⟨Q,5,none⟩ (.slice none 0 0)).setCell ⟨Q,6,none⟩ (.bool false)).heap[Q]?=some (.cells #[.slice q1 n1 c1,.slice xq xn xc,.slice tq tn tc,.int .i64 left,.int .i64 0,.slice none 0 0,.bool false] 31 (0,0))):=fun W xq xn xc tq tn tc ls ts left H hr he h4=>by
  have hp:=HP.out
  obtain⟨hw,hz,-⟩:=HSO.out W H.grown
  have hx:=HOT.out W H.grown ⟨_,hr⟩
  have hset:=setSeven hz (.slice q1 n1 c1) (.slice xq xn xc) (.slice tq tn tc) (.int .i64 left) (.int .i64 0) (.slice none 0 0) (.bool false)
  have hgr:=grSeven W Q (.slice q1 n1 c1) (.slice xq xn xc) (.slice tq tn tc) (.int .i64 left) (.int .i64 0) (.slice none 0 0) (.bool false)
  have hm:=mk_end H he
  have eR:metR bs ss ⟨a,b,1,d,p,q,s,t⟩=(ls,ts,left):=by
   unfold metR
   rw[show otherL bs ss ⟨a,b,1,d,p,q,s,t⟩=ss from if_pos rfl]
   exact hm
  have eB:metB bs ss ⟨a,b,1,d,p,q,s,t⟩=bs:=by
   unfold metB
   rw[if_pos rfl]
  have eS:metS bs ss ⟨a,b,1,d,p,q,s,t⟩=ls:=by
   unfold metS
   rw[if_pos rfl,eR]
  have hk:Below (hide b0 W).heap.size (hide b0 W) (hide b0 (((((((W.setCell ⟨Q,0,none⟩ (.slice q1 n1 c1)).setCell ⟨Q,1,none⟩ (.slice xq xn xc)).setCell ⟨Q,2,none⟩ (.slice tq tn tc)).setCell ⟨Q,3,none⟩ (.int .i64 left)).setCell ⟨Q,4,none⟩ (.int .i64 0)).setCell ⟨Q,5,none⟩ (.slice none 0 0)).setCell ⟨Q,6,none⟩ (.bool false))):=hide_put hgr (by omega) ⟨_,hz,by simp[secB]⟩ ⟨_,hset,by simp[secB]⟩
  refine⟨⟨fun _=>⟨_,_,_,_,_,_,_,by rw[eR],?_,?_,?_⟩,fun h=>absurd (by rw[eR];exact h4) h,hw.grown hgr hw.size (fun k hk=>by cases hk;omega)⟩,hset⟩
  ·rw[eB];exact hx.below hk
  ·rw[eS];exact H.side.below hk
  ·rw[eR];exact OwnM.mono (kept_of H.trades hgr (fun z hz e=>by cases e;have:=(OwnM.lt H.trades Q hz).1;omega)) (by omega)
 clear hs1 hs2 hs3 hsV hb1 hb2 hb3 hb4 hzero hord h1 h2 hC hbk hch hgood hB hb0
 have HQ:=hid_of hq
 obtain⟨-,-,u0,u1,u2,u3,u4,u5,u6,u7'⟩:=HSO.out V ⟨rfl,rfl,rfl,nzR _,fun _ _ _=>rfl⟩
 go_enter Tryz.func14,Tryz.ntmps14
 go_wp2_with fail
 rw[←hV1,←hV2,←hV3,←hV]
 simp only[←hP]
 simp only[←hQ]
 simp only[←hG]
 clear hV hV1 hV2 hV3 hP hQ hG u0 u1 u2 u3 u4 u5 u6 u7'
 go_loopg [10,11,12,13,14,15,16,17] 10000 (fun gg _ _ _ _ _ _ _ _ wr=>∃xq xn xc tq tn tc ls ts left,wr.heap[P]?=some (.cells #[.slice q1 n1 c1,.slice xq xn xc,.slice tq tn tc,.int .i64 left,.int .i64 0,.slice none 0 0,.bool false] 31 (0,0))∧Aside (MtK b0 V wr P ⟨a,b,1,d,p,q,s,t⟩ (tkl ⟨a,b,1,d,p,q,s,t⟩ ss q) (.slice xq xn xc) (.slice tq tn tc) ls ts left)∧Aside (ls.length≤60∧ts.length≤400)∧left.toNat≤gg)
 case atStart=>exact⟨q2,n2,c2,none,0,0,ss,[],q,hrow,HM0.out,⟨hlen,by simp⟩,by omega⟩
 case round=>
  obtain⟨xq,xn,xc,tq,tn,tc,ls,ts,left,hrw,HM,HLN,hgk⟩:=hrel
  have HMr:=hid_of HM.out
  have HLr:=hid_of HLN.out
  have HGK:=hid_of hgk
  clear HM HLN hgk hrow hlen hq
  obtain⟨r0,r1,r2,r3,r4,r5,r6,-⟩:=rowSeven hrw
  obtain⟨-,hzr,o0,o1,o2,o3,o4,o5,o6,o7⟩:=HSO.out wr HMr.out.grown
  by_cases hl:0 < left
  rotate_left
  ·
   obtain⟨hPO,hHX⟩:=HEND.out wr xq xn xc tq tn tc ls ts left HMr.out hrw (mk_stop (.inl (by omega))) HLr.out.2
   have HPO:=hid_of hPO
   have HHX:=hid_of hHX
   obtain⟨z0,z1,z2,z3,z4,z5,z6,zf⟩:=rowSeven hzr
   have f0:=zf 0
   have f1:=zf 1
   have f2:=zf 2
   have f3:=zf 3
   have f4:=zf 4
   have f5:=zf 5
   have f6:=zf 6
   clear zf hzr hPO hHX HEND HSO HMr hrw o0 o1 o2 o3 o4 o5 o6 o7
   go_wp2_with fail
   generalize (((((((wr.setCell ⟨Q,0,none⟩ (.slice q1 n1 c1)).setCell ⟨Q,1,none⟩ (.slice xq xn xc)).setCell ⟨Q,2,none⟩ (.slice tq tn tc)).setCell ⟨Q,3,none⟩ (.int .i64 left)).setCell ⟨Q,4,none⟩ (.int .i64 0)).setCell ⟨Q,5,none⟩ (.slice none 0 0)).setCell ⟨Q,6,none⟩ (.bool false))=Z at *
   obtain⟨y0,y1,y2,y3,y4,y5,y6,-⟩:=rowSeven HHX.out
   exact bodyPost_ret (v:=.tuple #[.agg #[.slice q1 n1 c1,.slice xq xn xc,.slice tq tn tc,.int .i64 left,.int .i64 0,.slice none 0 0,.bool false],.int .i64 0]) (by simp[results,Tryz.results14,go_sem,y0,y1,y2,y3,y4,y5,y6]) rfl HPO.out
  have HL0:=hid_of hl
  go_wp2_with fail
  refine(rof_any 2 q1 xq n1 xn c1 xc wr).mono ?_
  rintro e w1 ⟨rfl,bw1⟩
  rw[if_neg (by decide)]
  have HM1:=hid_of (mk_below HMr.out bw1)
  have hrw1:=(bw1.block P (gzE.1 hrw).1).trans hrw
  clear r0 r1 r2 r3 r4 r5 r6 o0 o1 o2 o3 o4 o5 o6 o7 bw1 hzr hrw
  obtain⟨r0,r1,r2,r3,r4,r5,r6,-⟩:=rowSeven hrw1
  obtain⟨-,hzr,o0,o1,o2,o3,o4,o5,o6,o7⟩:=HSO.out w1 HM1.out.grown
  have hxl:=ls_len (hide_ls HM1.out.side)
  cases ls with
  | nil=>
   have hx0:xn=0:=hxl
   subst hx0
   obtain⟨hPO,hHX⟩:=HEND.out w1 xq 0 xc tq tn tc [] ts left HM1.out hrw1 (mk_stop (.inr (.inl rfl))) HLr.out.2
   have HPO:=hid_of hPO
   have HHX:=hid_of hHX
   obtain⟨z0,z1,z2,z3,z4,z5,z6,zf⟩:=rowSeven hzr
   have f0:=zf 0
   have f1:=zf 1
   have f2:=zf 2
   have f3:=zf 3
   have f4:=zf 4
   have f5:=zf 5
   have f6:=zf 6
   clear zf hzr hPO hHX HEND HSO HMr HM1 hrw1 o0 o1 o2 o3 o4 o5 o6 o7 hxl
   go_wp2_with fail
   generalize (((((((w1.setCell ⟨Q,0,none⟩ (.slice q1 n1 c1)).setCell ⟨Q,1,none⟩ (.slice xq 0 xc)).setCell ⟨Q,2,none⟩ (.slice tq tn tc)).setCell ⟨Q,3,none⟩ (.int .i64 left)).setCell ⟨Q,4,none⟩ (.int .i64 0)).setCell ⟨Q,5,none⟩ (.slice none 0 0)).setCell ⟨Q,6,none⟩ (.bool false))=Z at *
   obtain⟨y0,y1,y2,y3,y4,y5,y6,-⟩:=rowSeven HHX.out
   exact bodyPost_ret (v:=.tuple #[.agg #[.slice q1 n1 c1,.slice xq 0 xc,.slice tq tn tc,.int .i64 left,.int .i64 0,.slice none 0 0,.bool false],.int .i64 0]) (by simp[results,Tryz.results14,go_sem,y0,y1,y2,y3,y4,y5,y6]) rfl HPO.out
  | cons l0 t0=>
   obtain⟨p0,zs⟩:=l0
   obtain⟨hn1,hn2,hn3,lb,lo,hxq,hlb,k0,rq,rc,k1,hsl,xr,hxr,hxe,hxs⟩:=mk_first HM1.out.side
   subst hxq
   have HN:=hid_of (show xn=t0.length+1∧xn≤xc∧xc≤9223372036854775807 from⟨hn1,hn2,hn3⟩)
   have hxn:¬xn=0:=by omega
   have hxz:((xn:Int) == 0)=false:=by simp;omega
   have hxp:(0:Int) < (xn:Int):=by omega
   have hxq:0 < xn:=by omega
   clear hn1 hn2 hn3 hxl
   go_wp2_with fail
   refine(ref_may a b 1 d p q s t p0 w1 (.inl rfl)).mono ?_
   rintro e w2 ⟨rfl,bw2⟩
   have HM2:=hid_of (mk_below HM1.out bw2)
   have HBW2:=hid_of bw2
   have hrw2:=(bw2.block P (gzE.1 hrw1).1).trans hrw1
   have m0:=keeps bw2 k0
   have m1:=keeps bw2 k1
   clear r0 r1 r2 r3 r4 r5 r6 o0 o1 o2 o3 o4 o5 o6 o7 bw2 hzr hrw1 k0 k1
   obtain⟨r0,r1,r2,r3,r4,r5,r6,-⟩:=rowSeven hrw2
   obtain⟨-,hzr,o0,o1,o2,o3,o4,o5,o6,o7⟩:=HSO.out w2 HM2.out.grown
   cases hm:mB ⟨a,b,1,d,p,q,s,t⟩ p0
   ·
    obtain⟨hPO,hHX⟩:=HEND.out w2 _ xn xc tq tn tc _ ts left HM2.out hrw2 (mk_stop (.inr (.inr ⟨_,_,rfl,hm⟩))) HLr.out.2
    have HPO:=hid_of hPO
    have HHX:=hid_of hHX
    obtain⟨z0,z1,z2,z3,z4,z5,z6,zf⟩:=rowSeven hzr
    have f0:=zf 0
    have f1:=zf 1
    have f2:=zf 2
    have f3:=zf 3
    have f4:=zf 4
    have f5:=zf 5
    have f6:=zf 6
    clear zf hzr hPO hHX HEND HSO HMr HM1 HM2 hrw2 o0 o1 o2 o3 o4 o5 o6 o7 hm
    go_wp2_with fail
    generalize (((((((w2.setCell ⟨Q,0,none⟩ (.slice q1 n1 c1)).setCell ⟨Q,1,none⟩ (.slice (some ⟨lb,lo,none⟩) xn xc)).setCell ⟨Q,2,none⟩ (.slice tq tn tc)).setCell ⟨Q,3,none⟩ (.int .i64 left)).setCell ⟨Q,4,none⟩ (.int .i64 0)).setCell ⟨Q,5,none⟩ (.slice none 0 0)).setCell ⟨Q,6,none⟩ (.bool false))=Z at *
    obtain⟨y0,y1,y2,y3,y4,y5,y6,-⟩:=rowSeven HHX.out
    exact bodyPost_ret (v:=.tuple #[.agg #[.slice q1 n1 c1,.slice (some ⟨lb,lo,none⟩) xn xc,.slice tq tn tc,.int .i64 left,.int .i64 0,.slice none 0 0,.bool false],.int .i64 0]) (by simp[results,Tryz.results14,go_sem,y0,y1,y2,y3,y4,y5,y6]) rfl HPO.out
   have HMB:=hid_of hm
   have hlk:=HM2.out.good ⟨p0,zs⟩ (by simp)
   obtain⟨-,hzne,hqk⟩:=lchk_zero hlk
   simp only[] at hzne hqk
   clear hm hlk
   cases zs with
   | nil=>exact absurd rfl hzne
   | cons ra rs=>
   obtain⟨i1,i2,i3,i4,i5⟩:=ra
   have hs2:=(hsl.sl (by simp)).below HBW2.out
   rcases hs2 with ⟨-,e2⟩|⟨rb,ro,rc',e3,g2,g3,g4,g5⟩
   ·cases e2
   simp only[Value.slice.injEq] at e3
   obtain⟨e3,-,e4⟩:=e3
   subst e3 e4
   obtain⟨hq60,hqg⟩:=(qchk_zero _).1 hqk
   obtain⟨hr1,hr2,hr3,-,-,hr6,hr7⟩:=rchk_zero (hqg.1 ⟨i1,i2,i3,i4,i5⟩ (by simp))
   have HLI:=hid_of (show rb < w2.heap.size∧(rs.length+1)≤rc∧rc≤9223372036854775807∧rs.length+1≤60∧Lies w2 rb ro (⟨i1,i2,i3,i4,i5⟩::rs) from⟨g4,by simpa using g2,g3,by simpa using hq60,g5⟩)
   obtain⟨j0,j1,j2,j3,j4⟩:=lies_at g5 (show 0 < (⟨i1,i2,i3,i4,i5⟩::rs:List R).length by simp) rfl
   rw[Nat.zero_mul,Nat.add_zero] at j0 j1 j2 j3 j4
   have hrl:(0:Int) < ((rs.length+1:Nat):Int):=by omega
   have HRC:=hid_of (show (1≤i3∧i3≤10000)∧(0≤i4∧i4≤10000)∧(0≤i5∧i5≤10000) from⟨hr1,hr2,hr3⟩)
   clear hsl hzne hqk g2 g3 g4 g5 hq60 hqg hr1 hr2 hr3 hr6 hr7
   have hB3:Below w2.heap.size w2 (w2.alloc (.cells #[.int .i64 i1,.int .i64 i2,.int .i64 i3,.int .i64 i4,.int .i64 i5] 55)):=(bzR _ _).alloc (nzR _) _
   have hRB:(w2.alloc (.cells #[.int .i64 i1,.int .i64 i2,.int .i64 i3,.int .i64 i4,.int .i64 i5] 55)).heap[w2.heap.size]?=some (.cells #[.int .i64 i1,.int .i64 i2,.int .i64 i3,.int .i64 i4,.int .i64 i5] 55 (0,0)):=heap_alloc_new w2 _
   have HM3:=hid_of (mk_below HM2.out hB3)
   have HB13:=hid_of (HBW2.out.trans (hB3.mono HBW2.out.size))
   have hrw3:=(hB3.block P (gzE.1 hrw2).1).trans hrw2
   have n1':=keeps hB3 m1
   have HL3:=hid_of (show rb < (w2.alloc (.cells #[.int .i64 i1,.int .i64 i2,.int .i64 i3,.int .i64 i4,.int .i64 i5] 55)).heap.size∧(rs.length+1)≤rc∧rc≤9223372036854775807∧rs.length+1≤60∧Lies (w2.alloc (.cells #[.int .i64 i1,.int .i64 i2,.int .i64 i3,.int .i64 i4,.int .i64 i5] 55)) rb ro (⟨i1,i2,i3,i4,i5⟩::rs) from⟨Nat.lt_of_lt_of_le HLI.out.1 hB3.size,HLI.out.2.1,HLI.out.2.2.1,HLI.out.2.2.2.1,HLI.out.2.2.2.2.below HLI.out.1 hB3⟩)
   go_upto_region 10 with fail
   clear r0 r1 r2 r3 r4 r5 r6 o0 o1 o2 o3 o4 o5 o6 o7 hzr hrw2 HLI HBW2 HM2 hB3 m0 m1 j0 j1 j2 j3 j4
   generalize w2.alloc (.cells #[.int .i64 i1,.int .i64 i2,.int .i64 i3,.int .i64 i4,.int .i64 i5] 55)=W3 at *
   generalize w2.heap.size=RB at *
   obtain⟨r0,r1,r2,r3,r4,r5,r6,-⟩:=rowSeven hrw3
   obtain⟨d0,d1,d2,d3,d4,-⟩:=rowFive hRB
   obtain⟨-,-,o0,o1,o2,o3,o4,o5,o6,o7⟩:=HSO.out W3 HM3.out.grown
   go_cut [63] from 55 to 63 (fun s63 wx=>s63=.bool false∧wx=W3)
   case first=>
    by_cases hww:i2=b
    ·have hwb:(i2 == b)=true:=by simp[hww]
     go_wp2_with fail
     go_meet
     case rel=>exact⟨rfl,rfl⟩
    ·have hwb:(i2 == b)=false:=by simp[hww]
     go_wp2_with fail
     go_meet
     case rel=>exact⟨rfl,rfl⟩
   case rest=>
   obtain⟨rfl,hw⟩:=hcut
   subst hw
   obtain⟨z,hz⟩:∃z,tk1 (min left i3) ⟨i1,i2,i3,i4,i5⟩ rs=z:=⟨_,rfl⟩
   have HFI:Hid (∀U,Below wc.heap.size wc U→Calls Tryz.prog 34 #[.slice (some ⟨rb,ro,none⟩) (rs.length+1) rc,.int .i64 left] U fun x w'=>∃vq vc,x=.returned (.tuple #[.int .i64 (min left i3),.slice vq z.length vc])∧OwnQ w' wc.heap.size (.slice vq z.length vc) z∧Below wc.heap.size wc w'):=fun U hU=>by
    obtain⟨e1,e2,e3,e4,e5⟩:=HL3.out
    obtain⟨f1,f2,f3⟩:=HRC.out
    have hlu:=HM3.out.left1
    have hl0:=HL0.out
    refine(fill_good rb ro rc (rs.length+1) i1 i2 i3 i4 i5 rs left U rfl (Nat.lt_of_lt_of_le e1 hU.size) e2 e3 e4 (e5.below e1 hU) f1.1 f1.2 f2.1 f2.2 f3.1 f3.2 (by omega) hlu).mono ?_
    rintro x w' ⟨v,rfl,ho,hb⟩
    rw[hz] at ho
    obtain⟨vq,vc,hv⟩:=OwnM.form ho
    subst hv
    exact⟨vq,vc,rfl,OwnM.mono ho hU.size,hU.trans (hb.mono hU.size)⟩
   have HZ:=hid_of hz
   obtain⟨nn,hnn⟩:∃nn,min left i3=nn:=⟨_,rfl⟩
   rw[hnn] at HFI
   have HNN:=hid_of hnn
   have hrl2:¬rs.length+1=0:=by omega
   have SO:Hid (∀W,Below wc.heap.size wc W→(Below wc.heap.size wc W∧W.cell? ⟨lb,lo+1,none⟩=some (.slice (some ⟨rb,ro,none⟩) (rs.length+1) rc)∧W.cell? ⟨P,3,none⟩=some (.int .i64 left))):=fun W hW=>⟨hW,keeps hW n1',keeps hW r3⟩
   clear hz hnn
   go_upto_region 15 with fail
   go_region_held3 (fun W=>Below wc.heap.size wc W∧W.cell? ⟨lb,lo+1,none⟩=some (.slice (some ⟨rb,ro,none⟩) (rs.length+1) rc)∧W.cell? ⟨P,3,none⟩=some (.int .i64 left))
    ((refine SO.out _ ?_;(repeat' (first|with_reducible assumption|with_reducible refine bal ?_ _|with_reducible refine Below.drew ?_|with_reducible exact bzR _ _|with_reducible exact nzR _|with_reducible exact Below.size (by with_reducible assumption)))))
    (first|(go_at_call 34;with_reducible refine(HFI.out _ ?_).mono ?_;(repeat' (first|with_reducible assumption|with_reducible refine bal ?_ _|with_reducible refine Below.drew ?_|with_reducible exact bzR _ _|with_reducible exact nzR _|with_reducible exact Below.size (by with_reducible assumption)));rintro x w4 ⟨vq,vc,rfl,hov,hb4⟩))
   have HB4:=hid_of hb4
   have HM4:=hid_of (mk_below HM3.out hb4)
   have hrw4:=(hb4.block P (gzE.1 hrw3).1).trans hrw3
   have hRB4:=(hb4.block RB (gzE.1 hRB).1).trans hRB
   have HOV:=hid_of hov
   have HB14:=hid_of (HB13.out.trans (hb4.mono HB13.out.size))
   clear r0 r1 r2 r3 r4 r5 r6 o0 o1 o2 o3 o4 o5 o6 o7 d0 d1 d2 d3 d4 n1' SO HFI hov hb4 hrw3 hRB HL3 HM3
   generalize hvn:z.length=vn at *
   have HVN:=hid_of hvn
   clear hvn
   go_upto_if 95 with fail
   go_cut [16] from 95 to 101 (fun s16 wx=>∃nq nl nc,s16=.slice nq nl nc∧Aside (Below w4.heap.size w4 wx∧rlv.OwnQ wx w4.heap.size (.slice nq nl nc) (if z=[] then [] else [⟨p0,vq,vn,vc⟩])))
   case first=>
    by_cases hz0:z=[]
    ·have hv0:vn=0:=by rw[←HVN.out,hz0];rfl
     subst hv0
     go_wp2_with fail
     go_meet
     case rel=>exact⟨none,0,0,rfl,bzR _ _,by rw[if_pos hz0];exact rown_nil _ _⟩
    ·have hv0:0 < vn:=by rw[←HVN.out];exact List.length_pos_iff.2 hz0
     have hv1:(0:Int) < (vn:Int):=by omega
     have hBl:Below w4.heap.size w4 (w4.alloc (.cells #[.int .i64 p0,.slice vq vn vc] 51)):=(bzR _ _).alloc (nzR _) _
     obtain⟨v6,w6,A6,O6,g6,-⟩:=rlv.run_append_r (w4.alloc (.cells #[.int .i64 p0,.slice vq vn vc] 51)) w4.heap.size (.slice none 0 0) (.slice (some ⟨w4.heap.size,0,none⟩) 1 1) [] [⟨p0,vq,vn,vc⟩] (rown_nil _ _) (rlv.one_sl w4 p0 vq vn vc) (by simp) hBl.size
     have HA6:=hid_of A6
     have HB6:=hid_of (hBl.grown g6 hBl.size (fun k hk=>by simp[Value.ownBlock] at hk))
     obtain⟨q6,c6,hf6⟩:=OwnM.form O6
     subst hf6
     have HO6:=hid_of O6
     clear A6 O6 g6 hBl
     go_wp2_with (at_builtin;refine Lib.wpList_append_run _ rfl _ _ _ _ rfl _ _ rfl rfl _ _ HA6.out ?_)
     go_meet
     case rel=>exact⟨q6,_,c6,rfl,HB6.out,by rw[if_neg hz0];exact HO6.out⟩
   case rest=>
   obtain⟨nq,nl,nc,rfl,HA⟩:=hcut
   have HBC:=hid_of HA.out.1
   have HOC:=hid_of HA.out.2
   have hrwc:=(HBC.out.block P (gzE.1 hrw4).1).trans hrw4
   clear HA
   have hi3:¬((1:Int) < 0):=by omega
   have hi4:(1:Int)≤(xn:Int):=by have:=HN.out.1;omega
   have hi5:(xn:Int)≤(xc:Int):=by have:=HN.out.2.1;omega
   have HT0:=hid_of (show t0.length≤100 by have:=HLr.out.1;simp at this;omega)
   have HXR:=hid_of (show xr.map toL=t0∧(∀y∈xr,SLe (hide b0 w1) (sv y.1) y.2)∧rlv.SL w1 (.slice (some ⟨lb,rlv.offK lo 1 xc,none⟩) (xn - 1) (xc - 1)) (xr.map (·.1)) from⟨hxr,hxe,hxs⟩)
   have HSV:=hid_of (show SLe (hide b0 w4) (.slice vq vn vc) z from .inl (OwnQ.sl (ownQ_hide HOV.out)))
   clear hxr hxe hxs
   obtain⟨xq',xn',xc',w7,A7,L7,B7⟩:=mk_lay HXR.out.1 HXR.out.2.1 HXR.out.2.2 HT0.out HB14.out HSV.out HBC.out HOC.out
   have HA7:=hid_of A7
   have HL7:=hid_of L7
   have HB7:=hid_of B7
   have hrw7:=(B7.block P (gzE.1 hrw4).1).trans hrw4
   have HWI:Hid (∀U,Below w7.heap.size w7 U→Calls Tryz.prog 32 #[.agg #[.slice q1 n1 c1,.slice (some ⟨lb,lo,none⟩) xn xc],.int .i64 2,.slice xq' xn' xc'] U fun e w'=>e=.returned (.agg #[.slice q1 n1 c1,.slice xq' xn' xc'])∧Below w7.heap.size w7 w'):=fun U hU=>by
    refine(rwith_any 2 q1 (some ⟨lb,lo,none⟩) xq' n1 xn xn' c1 xc xc' U).mono ?_
    rintro e w' ⟨rfl,hb⟩
    exact⟨by rw[if_neg (by decide)],hU.trans (hb.mono hU.size)⟩
   obtain⟨r0,r1,r2,r3,r4,r5,r6,-⟩:=rowSeven hrwc
   clear A7 L7 B7
   go_upto_region 19 with fail
   go_cut [16] from 102 to 110 (fun _ wx=>wx.heap[P]?=some (.cells #[.slice q1 n1 c1,.slice xq' xn' xc',.slice tq tn tc,.int .i64 left,.int .i64 0,.slice none 0 0,.bool false] 31 (0,0))∧Aside (V.grownBy wx (some P)∧LS (hide b0 wx) (.slice xq' xn' xc') (stepL p0 z t0)∧OwnT wx V.heap.size (.slice tq tn tc) ts∧wx.heap[RB]?=some (.cells #[.int .i64 i1,.int .i64 i2,.int .i64 i3,.int .i64 i4,.int .i64 i5] 55 (0,0))))
   case first=>
    have HFIN:Hid (∀w8,Below w7.heap.size w7 w8→((w8.setCell ⟨P,0,none⟩ (.slice q1 n1 c1)).setCell ⟨P,1,none⟩ (.slice xq' xn' xc')).heap[P]?=some (.cells #[.slice q1 n1 c1,.slice xq' xn' xc',.slice tq tn tc,.int .i64 left,.int .i64 0,.slice none 0 0,.bool false] 31 (0,0))∧Aside (V.grownBy ((w8.setCell ⟨P,0,none⟩ (.slice q1 n1 c1)).setCell ⟨P,1,none⟩ (.slice xq' xn' xc')) (some P)∧LS (hide b0 ((w8.setCell ⟨P,0,none⟩ (.slice q1 n1 c1)).setCell ⟨P,1,none⟩ (.slice xq' xn' xc'))) (.slice xq' xn' xc') (stepL p0 z t0)∧OwnT ((w8.setCell ⟨P,0,none⟩ (.slice q1 n1 c1)).setCell ⟨P,1,none⟩ (.slice xq' xn' xc')) V.heap.size (.slice tq tn tc) ts∧((w8.setCell ⟨P,0,none⟩ (.slice q1 n1 c1)).setCell ⟨P,1,none⟩ (.slice xq' xn' xc')).heap[RB]?=some (.cells #[.int .i64 i1,.int .i64 i2,.int .i64 i3,.int .i64 i4,.int .i64 i5] 55 (0,0)))):=fun w8 hb8=>by
     have hp:=HP.out
     have hr8:=(hb8.block P (gzE.1 hrw7).1).trans hrw7
     have hset:=seven_two hr8 (.slice q1 n1 c1) (.slice xq' xn' xc')
     have hg:=grTwo w8 P (.slice q1 n1 c1) (.slice xq' xn' xc')
     have h48:Below w4.heap.size w4 w8:=HB7.out.trans (hb8.mono HB7.out.size)
     have hM8:=mk_below HM4.out h48
     have hrb8:=(h48.block RB (gzE.1 hRB4).1).trans hRB4
     refine⟨hset,gr_trans hM8.grown hg,(HL7.out.below (hide_below hb8)).below (hide_put hg (by omega) ⟨_,hr8,by simp[secB]⟩ ⟨_,hset,by simp[secB]⟩),kept_of hM8.trades hg (fun z hz e=>by cases e;have:=(OwnM.lt hM8.trades P hz).1;omega),?_⟩
     rw[hg.block RB (gzE.1 hrb8).1 (fun e=>by cases e;rw[hr8] at hrb8;simp at hrb8)]
     exact hrb8
    obtain⟨s0,s1,-⟩:=rowSeven hrw7
    by_cases hcap:xc=1
    ·have hx1:xn=1:=by have:=HN.out;omega
     subst hcap hx1
     simp only[rlv.offK,if_pos,Nat.sub_self] at HA7
     go_region_law (first|(refine step_append_eq rfl _ _ 22 rfl _ _ rfl rfl _ _ HA7.out ?_)|(go_simp;go_wp2_with (go_at_call 32;with_reducible refine(HWI.out _ ?_).mono ?_;(repeat' (first|with_reducible assumption|with_reducible exact bzR _ _));rintro e w8 ⟨rfl,hb8⟩;obtain⟨p0',p1',-,-,-,-,-,pf⟩:=rowSeven ((hb8.block P (gzE.1 hrw7).1).trans hrw7);have pf0:=pf 0;have pf1:=pf 1)))
     all_goals go_wp2_with fail
     all_goals go_meet
     all_goals exact HFIN.out w8 hb8
    ·have hcap1:¬xc - 1=0:=by have:=HN.out;omega
     have hof:rlv.offK lo 1 xc=lo+2:=by unfold rlv.offK;rw[if_neg (by omega)]
     rw[hof] at HA7
     go_region_law (first|(refine step_append_eq rfl _ _ 22 rfl _ _ rfl rfl _ _ HA7.out ?_)|(go_simp;go_wp2_with (go_at_call 32;with_reducible refine(HWI.out _ ?_).mono ?_;(repeat' (first|with_reducible assumption|with_reducible exact bzR _ _));rintro e w8 ⟨rfl,hb8⟩;obtain⟨p0',p1',-,-,-,-,-,pf⟩:=rowSeven ((hb8.block P (gzE.1 hrw7).1).trans hrw7);have pf0:=pf 0;have pf1:=pf 1)))
     all_goals go_wp2_with fail
     all_goals go_meet
     all_goals exact HFIN.out w8 hb8
   case rest=>
   obtain⟨hrc,HA⟩:=hcut
   have HGR:=hid_of HA.out.1
   have HSD:=hid_of HA.out.2.1
   have HTS:=hid_of HA.out.2.2.1
   have hRBc:=HA.out.2.2.2
   clear HA HL7 HB7 HA7 hrw7 HWI HBC HOC hrwc hrw4 hRB4 HSV r0 r1 r2 r3 r4 r5 r6 HXR HB14 HOV HB4 HB13
   obtain⟨r0,r1,r2,r3,r4,r5,r6,-⟩:=rowSeven hrc
   obtain⟨d0,d1,d2,d3,d4,-⟩:=rowFive hRBc
   obtain⟨-,-,o0,o1,o2,o3,o4,o5,o6,o7⟩:=HSO.out wc HGR.out
   have hB10:Below wc.heap.size wc (wc.alloc (.cells #[.int .i64 i1,.int .i64 a,.int .i64 i2,.int .i64 b,.int .i64 p0,.int .i64 nn] 74)):=(bzR _ _).alloc (nzR _) _
   have hTB:(wc.alloc (.cells #[.int .i64 i1,.int .i64 a,.int .i64 i2,.int .i64 b,.int .i64 p0,.int .i64 nn] 74)).heap[wc.heap.size]?=some (.cells #[.int .i64 i1,.int .i64 a,.int .i64 i2,.int .i64 b,.int .i64 p0,.int .i64 nn] 74 (0,0)):=heap_alloc_new wc _
   have hr10:=(hB10.block P (gzE.1 hrc).1).trans hrc
   have hRB10:=(hB10.block RB (gzE.1 hRBc).1).trans hRBc
   have HG10:=hid_of (gr_trans HGR.out (gr_below hB10 (some P)))
   have HS10:=hid_of (HSD.out.below (hide_below (b0:=b0) hB10))
   have HT10:=hid_of (OwnM.below HTS.out hB10)
   have HTL:=hid_of (show V.heap.size≤wc.heap.size∧∀z,(Value.slice tq tn tc).ownBlock=some z→z < wc.heap.size from⟨HGR.out.size,fun z hz=>(OwnM.lt HTS.out z hz).2⟩)
   go_upto_region 21 with fail
   clear r0 r1 r2 r3 r4 r5 r6 d0 d1 d2 d3 d4 o0 o1 o2 o3 o4 o5 o6 o7 hRBc hrc HGR HSD HTS hB10
   generalize wc.alloc (.cells #[.int .i64 i1,.int .i64 a,.int .i64 i2,.int .i64 b,.int .i64 p0,.int .i64 nn] 74)=W10 at *
   generalize wc.heap.size=TB at *
   obtain⟨-,-,o0,o1,o2,o3,o4,o5,o6,o7⟩:=HSO.out W10 HG10.out
   go_upto_region 24 with fail
   clear o0 o1 o2 o3 o4 o5 o6 o7 hRB10
   obtain⟨tq',tn',tc',w12,A12,O12,htn,B12,K12⟩:=lay_trade (b0:=b0) HT10.out HG10.out.size (by have:=HP.out;omega) (by have:=HLr.out.2;omega) ⟨i1,a,i2,b,p0,nn⟩
   have HA12:=hid_of A12
   have hr12:=(B12.block P (by have:=HP.out;omega)).trans hr10
   have HG12:Hid (V.grownBy w12 (some P)):=⟨B12.os.trans HG10.out.os,B12.tape.trans HG10.out.tape,B12.output.trans HG10.out.output,Nat.le_trans HG10.out.size B12.size,fun k hk hne=>(B12.block k hk).trans (HG10.out.block k hk hne)⟩
   have HS12:=hid_of (K12 _ _ HS10.out)
   have HT12:=hid_of O12
   have HTN:=hid_of htn
   clear A12 O12 htn B12 K12
   obtain⟨r0,r1,r2,r3,r4,r5,r6,-⟩:=rowSeven hr10
   obtain⟨d0,d1,d2,d3,d4,d5⟩:=rowSix hTB
   obtain⟨e0,e1,e2,e3,e4,e5,e6,ef⟩:=rowSeven hr12
   have ef2:=ef 2
   go_upto_region 25 with (at_builtin;refine Lib.wpList_append_run _ rfl _ _ _ _ rfl _ _ rfl rfl _ _ HA12.out ?_)
   clear r0 r1 r2 r3 r4 r5 r6 d0 d1 d2 d3 d4 d5 e0 e1 e2 e3 e4 e5 e6 ef ef2 hr10 hTB HG10 HS10 HT10 HA12 HTL
   have hr13:=seven_at2 hr12 (.slice tq' tn' tc')
   have HG13:=hid_of (gr_trans HG12.out (gr_setCell w12 P 2 (.slice tq' tn' tc')))
   have HS13:=hid_of (HS12.out.below (hide_put (b0:=b0) (gr_setCell w12 P 2 (.slice tq' tn' tc')) (by have:=HP.out;omega) ⟨_,hr12,by simp[secB]⟩ ⟨_,hr13,by simp[secB]⟩))
   have HT13:=hid_of (kept_of HT12.out (gr_setCell w12 P 2 (.slice tq' tn' tc')) (fun z hz e=>by cases e;have:=(OwnM.lt HT12.out P hz).1;have:=HP.out;omega))
   generalize w12.setCell ⟨P,2,none⟩ (.slice tq' tn' tc')=W13 at *
   obtain⟨r0,r1,r2,r3,r4,r5,r6,rf⟩:=rowSeven hr13
   have rf3:=rf 3
   obtain⟨lf,hlf⟩:∃lf,left - nn=lf:=⟨_,rfl⟩
   have HLF:=hid_of hlf
   have E1:Hid (wrap64 (left - nn)=lf):=by
    have h1:=HM4.out.left1
    have h2:=HL0.out
    have h3:=HNN.out
    have h4:=HRC.out.1
    show _=_
    rw[←hlf]
    unfold wrap64
    omega
   clear hlf rf hr12 HG12 HS12 HT12
   have x1:=E1.out
   go_upto_region 26 with fail
   clear r0 r1 r2 r3 r4 r5 r6 rf3 x1
   have hr14:=seven_at3 hr13 (.int .i64 lf)
   have HG14:=hid_of (gr_trans HG13.out (gr_setCell W13 P 3 (.int .i64 lf)))
   have HS14:=hid_of (HS13.out.below (hide_put (b0:=b0) (gr_setCell W13 P 3 (.int .i64 lf)) (by have:=HP.out;omega) ⟨_,hr13,by simp[secB]⟩ ⟨_,hr14,by simp[secB]⟩))
   have HT14:=hid_of (kept_of HT13.out (gr_setCell W13 P 3 (.int .i64 lf)) (fun z hz e=>by cases e;have:=(OwnM.lt HT13.out P hz).1;have:=HP.out;omega))
   generalize W13.setCell ⟨P,3,none⟩ (.int .i64 lf)=W14 at *
   have HMN:Hid (MtK b0 V W14 P ⟨a,b,1,d,p,q,s,t⟩ (tkl ⟨a,b,1,d,p,q,s,t⟩ ss q) (.slice xq' xn' xc') (.slice tq' tn' tc') (stepL p0 z t0) (ts++[⟨i1,a,i2,b,p0,nn⟩]) lf∧lf < left):=by
    have hx:trd ⟨a,b,1,d,p,q,s,t⟩ p0 ⟨i1,i2,min left i3⟩=⟨i1,a,i2,b,p0,nn⟩:=by
     rw[HNN.out]
     exact if_pos rfl
    have hs:=HS14.out
    rw[←HZ.out] at hs
    have ht:=HT14.out
    rw[←hx] at ht
    have h:=mk_next HM4.out HL0.out HMB.out HG14.out hs ht
    have hz:=HZ.out
    have hl2:left - min left i3=lf:=by rw[HNN.out];exact HLF.out
    simp only[] at h
    rw[hz,hx,hl2] at h
    exact h
   clear HS14 HT14 HG13 HS13 HT13 hr13
   obtain⟨r0,r1,r2,r3,r4,r5,r6,-⟩:=rowSeven hr14
   by_cases h4:400 < tn'
   ·have h4z:(400:Int) < (tn' : Int):=by omega
    have hlong:¬(metR bs ss ⟨a,b,1,d,p,q,s,t⟩).2.1.length≤400:=by
     have h:=mk_long HMN.out.1
     have hn:=HTN.out
     rw[List.length_append,List.length_singleton] at h
     have e:metR bs ss ⟨a,b,1,d,p,q,s,t⟩=(tkl ⟨a,b,1,d,p,q,s,t⟩ ss q):=by
      unfold metR
      rw[show otherL bs ss ⟨a,b,1,d,p,q,s,t⟩=ss from if_pos rfl]
     rw[e]
     omega
    obtain⟨hw,hzr,-⟩:=HSO.out W14 HG14.out
    have HHX:=hid_of (setSeven hzr (.slice none 0 0) (.slice none 0 0) (.slice none 0 0) (.int .i64 0) (.int .i64 0) (.slice none 0 0) (.bool false))
    have hgr:=grSeven W14 Q (.slice none 0 0) (.slice none 0 0) (.slice none 0 0) (.int .i64 0) (.int .i64 0) (.slice none 0 0) (.bool false)
    have HPO:Hid (MeetPost b0 bs ss ⟨a,b,1,d,p,q,s,t⟩ w (.returned (.tuple #[.agg #[.slice none 0 0,.slice none 0 0,.slice none 0 0,.int .i64 0,.int .i64 0,.slice none 0 0,.bool false],.int .i64 4])) ((((((((W14.setCell ⟨Q,0,none⟩ (.slice none 0 0)).setCell ⟨Q,1,none⟩ (.slice none 0 0)).setCell ⟨Q,2,none⟩ (.slice none 0 0)).setCell ⟨Q,3,none⟩ (.int .i64 0)).setCell ⟨Q,4,none⟩ (.int .i64 0)).setCell ⟨Q,5,none⟩ (.slice none 0 0)).setCell ⟨Q,6,none⟩ (.bool false)))):=⟨fun h=>absurd h hlong,fun _=>rfl,hw.grown hgr hw.size (fun k hk=>by cases hk;have:=HP.out;omega)⟩
    obtain⟨z0,z1,z2,z3,z4,z5,z6,zf⟩:=rowSeven hzr
    have f0:=zf 0
    have f1:=zf 1
    have f2:=zf 2
    have f3:=zf 3
    have f4:=zf 4
    have f5:=zf 5
    have f6:=zf 6
    clear zf hzr hgr hw HEND HSO HM4 HMr HM1 HMN hlong hr14
    go_wp2_with fail
    generalize (((((((W14.setCell ⟨Q,0,none⟩ (.slice none 0 0)).setCell ⟨Q,1,none⟩ (.slice none 0 0)).setCell ⟨Q,2,none⟩ (.slice none 0 0)).setCell ⟨Q,3,none⟩ (.int .i64 0)).setCell ⟨Q,4,none⟩ (.int .i64 0)).setCell ⟨Q,5,none⟩ (.slice none 0 0)).setCell ⟨Q,6,none⟩ (.bool false))=Z at *
    obtain⟨y0,y1,y2,y3,y4,y5,y6,-⟩:=rowSeven HHX.out
    exact bodyPost_ret (v:=.tuple #[.agg #[.slice none 0 0,.slice none 0 0,.slice none 0 0,.int .i64 0,.int .i64 0,.slice none 0 0,.bool false],.int .i64 4]) (by simp[results,Tryz.results14,go_sem,y0,y1,y2,y3,y4,y5,y6]) rfl HPO.out
   ·have h4z:¬(400:Int) < (tn' : Int):=by omega
    have HR14:=hid_of hr14
    have H4:=hid_of h4
    go_wp2_with fail
    go_roundg lf.toNat
    case measure=>
     have h1:=HMN.out.2
     have h2:=HGK.out
     have h3:=HMN.out.1.left0
     have h4:=HL0.out
     omega
    case rel=>
     refine⟨xq',xn',xc',tq',tn',tc',_,_,lf,HR14.out,HMN.out.1,⟨?_,?_⟩,nzR _⟩
     ·have h1:=step_len p0 z t0
      have h2:=HLr.out.1
      simp at h2
      omega
     ·rw[List.length_append,List.length_singleton]
      have h1:=HTN.out
      have h2:=H4.out
      omega
end Go.Proofs.YtnjpjieedgmffaaGreatDoor.mee
