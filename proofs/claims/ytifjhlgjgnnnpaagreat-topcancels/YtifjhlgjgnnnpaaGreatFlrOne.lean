import Derived.Test.YtifjhlgjgnnnpaaGreatKinDo
namespace Go.Proofs.YtifjhlgjgnnnpaaGreat
namespace tcw
open Go.RowKit spn que sid bok mee kin
theorem hidK{P:Prop}(h:P):Hid P:=h
theorem one_lay(w:World):LS ((w.alloc (.cells #[.int .i64 1,.int .i64 1,.int .i64 5,.int .i64 0,.int .i64 0] 54)).alloc (.cells #[.int .i64 100,.slice (some ⟨w.heap.size,0,none⟩) 1 1] 52)) (.slice (some ⟨w.heap.size+1,0,none⟩) 1 1) [⟨100,[⟨1,1,5,0,0⟩]⟩]:=by
 obtain⟨w1,h1⟩:∃w1,w1=w.alloc (.cells #[.int .i64 1,.int .i64 1,.int .i64 5,.int .i64 0,.int .i64 0] 54):=⟨_,rfl⟩
 have hs1:w1.heap.size=w.heap.size+1:=by rw[h1];simp
 have hr1:=heap_alloc_new w (.cells #[.int .i64 1,.int .i64 1,.int .i64 5,.int .i64 0,.int .i64 0] 54)
 rw[←h1] at hr1 ⊢
 obtain⟨w2,h2⟩:∃w2,w2=w1.alloc (.cells #[.int .i64 100,.slice (some ⟨w.heap.size,0,none⟩) 1 1] 52):=⟨_,rfl⟩
 have hr2:=heap_alloc_new w1 (.cells #[.int .i64 100,.slice (some ⟨w.heap.size,0,none⟩) 1 1] 52)
 have hB2:Below w1.heap.size w1 w2:=by rw[h2];exact(bzR _ _).alloc (nzR _) _
 rw[←h2] at hr2 ⊢
 have hr1':=(hB2.block w.heap.size (by omega)).trans hr1
 rw[hs1] at hr2
 have hQ:que.OwnQ w2 0 (.slice (some ⟨w.heap.size,0,none⟩) 1 1) [⟨1,1,5,0,0⟩]:=⟨rfl,.inr ⟨w.heap.size,0,1,_,rfl,Nat.zero_le _,hr1',nzR _,by unfold maxLen;omega,by simp,rfl⟩⟩
 have hLv:rlv.OwnQ w2 0 (.slice (some ⟨w.heap.size+1,0,none⟩) 1 1) [⟨100,some ⟨w.heap.size,0,none⟩,1,1⟩]:=⟨rfl,.inr ⟨w.heap.size+1,0,1,_,rfl,Nat.zero_le _,hr2,nzR _,by unfold maxLen;omega,by simp,rfl⟩⟩
 have h:LS w2 (.slice (some ⟨w.heap.size+1,0,none⟩) 1 1) (([(⟨100,some ⟨w.heap.size,0,none⟩,1,1⟩,[⟨1,1,5,0,0⟩])]:List RP).map toL):=
  Loose.ls ⟨rlv.OwnQ.sl hLv,fun p hp=>by simp only[List.mem_singleton] at hp;subst hp;exact .inl (que.OwnQ.sl hQ)⟩
 exact h
theorem one_E:kdoE [] [⟨100,[⟨1,1,5,0,0⟩]⟩] ⟨2,2,1,3,101,7,0,0⟩=0:=by decide
theorem one_G:kdoG [] [⟨100,[⟨1,1,5,0,0⟩]⟩] ⟨2,2,1,3,101,7,0,0⟩=2:=by decide
theorem one_T:(metR [] [⟨100,[⟨1,1,5,0,0⟩]⟩] ⟨2,2,1,3,101,7,0,0⟩).2.1=[⟨1,2,1,2,100,5⟩]:=by decide
set_option maxHeartbeats 2000000 in
set_option maxRecDepth 100000 in
theorem one_any(w:World):Calls Tryz.prog 20 #[] w fun e w'=>e=.returned (.bool true)∧Below w.heap.size w w':=by
 have hl:=one_lay w
 obtain⟨V,hV⟩:∃V,V=((w.alloc (.cells #[.int .i64 1,.int .i64 1,.int .i64 5,.int .i64 0,.int .i64 0] 54)).alloc (.cells #[.int .i64 100,.slice (some ⟨w.heap.size,0,none⟩) 1 1] 52)).alloc (.cells #[.slice none 0 0,.slice (some ⟨w.heap.size+1,0,none⟩) 1 1] 46):=⟨_,rfl⟩
 have hB1:Below w.heap.size w ((w.alloc (.cells #[.int .i64 1,.int .i64 1,.int .i64 5,.int .i64 0,.int .i64 0] 54)).alloc (.cells #[.int .i64 100,.slice (some ⟨w.heap.size,0,none⟩) 1 1] 52)):=((bzR _ _).alloc (nzR _) _).alloc (by simp) _
 have hB2:Below w.heap.size w V:=by rw[hV];exact hB1.alloc hB1.size _
 have hl2:LS V (.slice (some ⟨w.heap.size+1,0,none⟩) 1 1) [⟨100,[⟨1,1,5,0,0⟩]⟩]:=by rw[hV];exact hl.below ((bzR _ _).alloc (nzR _) _)
 have hK:=zJK none (some ⟨w.heap.size+1,0,none⟩) 0 1 0 1 [] [⟨100,[⟨1,1,5,0,0⟩]⟩] 2 2 1 3 101 7 0 0 V (ls_nil V) hl2
 have HK:=hidK hK
 have HB2:=hidK hB2
 clear hl hB1 hB2 hl2 hK
 go_enter Tryz.func20,Tryz.ntmps20
 go_wp2_with fail
 rw[←hV]
 refine HK.out.mono ?_
 rintro e w1⟨hp,-,hb⟩
 obtain⟨q1,q2,n1,n2,c1,c2,tv,rfl,-,-,hT⟩:=hp one_E
 rw[one_G]
 rw[one_T] at hT
 have HB3:=hidK (HB2.out.trans (hb.mono HB2.out.size))
 obtain⟨g,off,cap,rfl,hc⟩:∃g off cap,tv=.slice (some ⟨g,off,none⟩) 1 cap∧g<w1.heap.size∧w1.cell? ⟨g,off+5,none⟩=some (.int .i64 5):=by
  rcases hT.2 with ⟨h1,h2⟩|⟨g,off,cap,cur,h1,-,h3,h4,h5,h6,h7⟩
  ·simp at h2
  ·refine⟨g,off,cap,h1,(gzE.1 h3).1,?_⟩
   rw[cell_of_row w1 g (off+5) cur _ (0,0) h3]
   have e:((cur.toList.drop off).take (1*6))[5]?=some (.int .i64 5):=by
    have h7' : (cur.toList.drop off).take (1*6)=mee.flatT [⟨1,2,1,2,100,5⟩]:=h7
    rw[h7'];rfl
   rw[List.getElem?_take,if_pos (by decide),List.getElem?_drop] at e
   simpa using e
 have hg:=hc.1
 have hc5:=hc.2
 have HB4:Hid (Below w.heap.size w (w1.alloc (.cells #[.slice q1 n1 c1,.slice q2 n2 c2] 46))):=HB3.out.alloc HB3.out.size _
 clear hc hp hb hT HK HB2 HB3 hV
 go_wp2_with fail
 go_ret
 exact⟨rfl,HB4.out⟩
end tcw
end Go.Proofs.YtifjhlgjgnnnpaaGreat
