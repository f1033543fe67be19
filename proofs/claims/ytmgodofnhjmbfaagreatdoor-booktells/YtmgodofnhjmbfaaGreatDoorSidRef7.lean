/- Contracts over this seat's translation: the document's Without; append of rests. Contracts over this seat's translation: the document's Count, At and Levels, whatever comes in; append of levels. -/
import Derived.Test.YtmgodofnhjmbfaaGreatDoorQueCat
import Derived.Test.YtmgodofnhjmbfaaGreatDoorQueChk
import Derived.Test.YtmgodofnhjmbfaaGreatDoorSidRef6
import Derived.Test.YtmgodofnhjmbfaaGreatDoorSidDL
namespace Go.Proofs.YtmgodofnhjmbfaaGreatDoor.que
open Go.RowKit Go.Proofs.YtmgodofnhjmbfaaGreatDoor.spn

theorem Lies.drop {w : World} {b o : Nat} {zs : List R} (h : Lies w b o zs) (n : Nat) : Lies w b (o + n * 5) (zs.drop n) := by
  intro j hj i v hv
  have hj2 : n + j < zs.length := by rw [List.length_drop] at hj; omega
  have e : (zs.drop n)[j]! = zs[n + j]! := by
    rw [getE _ _ hj, getE _ _ hj2, List.getElem_drop]
  rw [e] at hv
  have := h (n + j) hj2 i v hv
  rw [← this]
  congr 2
  rw [Nat.add_mul]; omega
theorem cut_sl {w : World} {b o c k : Nat} {zs : List R} (hk : k ≤ zs.length) (hc : zs.length ≤ c) (hm : c ≤ 9223372036854775807) (hb : b < w.heap.size) (h : Lies w b o zs) : SL w (.slice (some ⟨b, o + k * 5, none⟩) (zs.length - k) (c - k)) (zs.drop k) := by
  refine .inr ⟨b, o + k * 5, c - k, ?_, ?_, by omega, hb, h.drop k⟩
  · rw [List.length_drop]
  · rw [List.length_drop]; omega
set_option maxRecDepth 100000 in
set_option maxHeartbeats 1000000 in
theorem without_some (b o c n : Nat) (zs : List R) (i : Nat) (w : World) (hN : zs.length = n) (hb : b < w.heap.size) (hc : n ≤ c) (hm : c ≤ 9223372036854775807) (hn : n ≤ 100) (hl : Lies w b o zs) (hi : i < n) :
    Calls Tryz.prog 38 #[.slice (some ⟨b, o, none⟩) n c, .int .i64 (i : Int)] w fun e w' => ∃ v, e = .returned v ∧ OwnQ w' w.heap.size v (zs.take i ++ zs.drop (i + 1)) ∧ Below w.heap.size w w' := by
  obtain ⟨i0, hi0, hz0, hz1, hz2⟩ := infoR'
  have HI : Hid (Tryz.prog.info? 26 = some i0) := hi0
  clear hi0
  have HF1 : Hid (∀ j u, (flat (zs.take i))[j]? = some u → w.cell? ((⟨b, o, none⟩ : Addr).add j) = some u) := lies_flat (hl.take i)
  have HO0 : Hid (OwnM w w.heap.size 26 5 (.slice none 0 0) 0 []) := ⟨rfl, .inl ⟨rfl, rfl⟩⟩
  have HN : Hid (zs.length = n) := hN
  have HL : Hid (Lies w b o zs) := hl
  have hft : (flat (zs.take i)).length = i * 5 := by rw [flat_len, List.length_take]; congr 1; omega
  have HFT : Hid ((flat (zs.take i)).length = i * 5) := hft
  clear hl hN hft
  have g1 : ¬ ((i : Int) < 0) := by omega
  have g2 : (i : Int) ≤ (c : Int) := by omega
  have g3 : (i : Int) + 1 ≤ (n : Int) := by omega
  have g4 : (n : Int) ≤ (c : Int) := by omega
  have e1 : wrap64 ((i : Int) + 1) = ((i + 1 : Nat) : Int) := by unfold wrap64; omega
  have g5 : ¬ (((i + 1 : Nat) : Int) < 0) := by omega
  have g6 : ((i + 1 : Nat) : Int) ≤ (n : Int) := by omega
  go_enter Tryz.func38, Tryz.ntmps38
  go_wp2_with (at_builtin; (refine wpList_append_mid _ rfl _ _ 32 rfl w.heap.size 26 i0 zeroR 5 40 Tryz.underlying32 HI.out hz0 hz1 hz2 rfl (.slice none 0 0) 0 [] rfl HO0.out ⟨b, o, none⟩ i c (flat (zs.take i)) rfl HFT.out HF1.out (flat_one _) ?c3 ?c4 ?c5 ?_))
  case c3 => unfold maxLen; omega
  case c4 => omega
  intro v1 w1 hO1 hgr1 hat1
  have HB1 : Hid (Below w.heap.size w w1) := (Below.refl _ _).grown hgr1 (Nat.le_refl _) (fun k hk => by simp [Value.ownBlock] at hk)
  have HO1 : Hid (OwnM w1 w.heap.size 26 5 v1 i (flat (zs.take i))) := hO1
  clear hO1 hgr1 hat1 HF1 HO0
  have HE : Hid (∀ w' v', OwnM w' w.heap.size 26 5 v' (i + (n - (i + 1))) (flat (zs.take i) ++ flat (zs.drop (i + 1))) → OwnQ w' w.heap.size v' (zs.take i ++ zs.drop (i + 1))) := by
    intro w' v' h
    show OwnM _ _ _ _ _ _ _
    rw [flat_append, List.length_append, List.length_take, List.length_drop, HN.out, Nat.min_eq_left (by omega)]
    exact h
  have HFD : Hid ((flat (zs.drop (i + 1))).length = (n - (i + 1)) * 5) := by
    show _ = _
    rw [flat_len, List.length_drop, HN.out]
  by_cases hcap : i + 1 = c
  · have hni : n = i + 1 := by omega
    have HD : Hid (flat (zs.drop (i + 1)) = []) := by
      show _ = _
      rw [List.drop_eq_nil_of_le (by rw [HN.out]; omega)]
      rfl
    rw [HD.out] at HE
    subst hcap
    subst hni
    rw [Nat.sub_self, Nat.add_zero, List.append_nil] at HE
    go_wp2_with (at_builtin; (refine wpList_append_mid _ rfl _ _ 32 rfl w.heap.size 26 i0 zeroR 5 40 Tryz.underlying32 HI.out hz0 hz1 hz2 rfl v1 i (flat (zs.take i)) rfl HO1.out ⟨b, o, none⟩ 0 0 [] rfl rfl (fun j u hu => by simp at hu) (fun u hu => by simp at hu) ?d3 ?d4 ?d5 ?_))
    case d3 => unfold maxLen; omega
    case d4 => omega
    case d5 => exact HB1.out.size
    intro v2 w2 hO2 hgr2 hat2
    have HB2 : Hid (Below w.heap.size w w2) := HB1.out.grown hgr2 HB1.out.size (fun k hk => (HO1.out.lt k hk).1)
    have HO2 : Hid (OwnQ w2 w.heap.size v2 (zs.take i ++ zs.drop (i + 1))) := HE.out _ _ hO2
    clear hO2 hgr2 hat2
    go_wp2_with fail
    go_ret
    exact ⟨_, rfl, HO2.out, HB2.out⟩
  · have HF2 : Hid (∀ j u, (flat (zs.drop (i + 1)))[j]? = some u → w1.cell? ((⟨b, o + (i + 1) * 5, none⟩ : Addr).add j) = some u) := lies_flat ((HL.out.below hb HB1.out).drop (i + 1))
    go_wp2_with (at_builtin; (refine wpList_append_mid _ rfl _ _ 32 rfl w.heap.size 26 i0 zeroR 5 40 Tryz.underlying32 HI.out hz0 hz1 hz2 rfl v1 i (flat (zs.take i)) rfl HO1.out ⟨b, o + (i + 1) * 5, none⟩ (n - (i + 1)) (c - (i + 1)) (flat (zs.drop (i + 1))) rfl HFD.out HF2.out (flat_one _) ?d3 ?d4 ?d5 ?_))
    case d3 => unfold maxLen; omega
    case d4 => omega
    case d5 => exact HB1.out.size
    intro v2 w2 hO2 hgr2 hat2
    have HB2 : Hid (Below w.heap.size w w2) := HB1.out.grown hgr2 HB1.out.size (fun k hk => (HO1.out.lt k hk).1)
    have HO2 : Hid (OwnQ w2 w.heap.size v2 (zs.take i ++ zs.drop (i + 1))) := HE.out _ _ hO2
    clear hO2 hgr2 hat2
    go_wp2_with fail
    go_ret
    exact ⟨_, rfl, HO2.out, HB2.out⟩
theorem OwnM.up' {w : World} {base base' : Nat} {e : TypeId} {sz : Nat} {v : Value} {n : Nat} {xs : List Value} (h : OwnM w base e sz v n xs) (hb : base' ≤ base) : OwnM w base' e sz v n xs := by
  refine ⟨h.1, ?_⟩
  rcases h.2 with hh | ⟨g, off, cap, cur, e1, e2, e3⟩
  · exact .inl hh
  · exact .inr ⟨g, off, cap, cur, e1, Nat.le_trans hb e2, e3⟩
/-- One rest in a new block is a queue of the call's own. -/
theorem one_own (w : World) (base : Nat) (a b c d e : Int) (hb : base ≤ w.heap.size) : OwnQ (w.alloc (.cells #[.int .i64 a, .int .i64 b, .int .i64 c, .int .i64 d, .int .i64 e] 26)) base (.slice (some ⟨w.heap.size, 0, none⟩) 1 1) [⟨a, b, c, d, e⟩] :=
  ⟨rfl, .inr ⟨w.heap.size, 0, 1, _, rfl, hb, heap_alloc_new w _, by simp, by simp [maxLen], by simp, rfl⟩⟩
/-- Append a queue to a queue of the call's own. -/
theorem run_append_q (w : World) (base : Nat) (v x : Value) (zs ys : List R) (hown : OwnQ w base v zs) (hx : SL w x ys) (hlen : zs.length + ys.length ≤ 1000) (hbase : base ≤ w.heap.size) :
    ∃ v' w', (Builtin.append_ #[32, 32] 32 #[v, x]).run Tryz.prog w = .ok v' w' ∧ OwnQ w' base v' (zs ++ ys) ∧ w.grownBy w' v.ownBlock ∧ (v'.ownBlock = v.ownBlock ∨ v'.ownBlock = some w.heap.size) := by
  obtain ⟨i0, hi0, hz0, hz1, hz2⟩ := infoR'
  rcases hx with ⟨rfl, rfl⟩ | ⟨b, o, c, rfl, h2, h3, h4, h5⟩
  · refine ⟨v, w, run_append_none w _ _ _ _ i0 5 Tryz.underlying32 hi0 _ _ _ hown, by rw [List.append_nil]; exact hown, ⟨rfl, rfl, rfl, Nat.le_refl _, fun _ _ _ => rfl⟩, .inl rfl⟩
  · obtain ⟨v', w', e1, e2, e3, e4⟩ := run_append_mid (P := Tryz.prog) w base 32 32 26 i0 zeroR 5 40 Tryz.underlying32 hi0 hz0 hz1 hz2 rfl v zs.length (flat zs) hown ⟨b, o, none⟩ ys.length c (flat ys) (flat_len _) (lies_flat h5) (flat_one _) (by unfold maxLen; omega) (by omega) hbase
    refine ⟨v', w', e1, ?_, e3, e4⟩
    show OwnM _ _ _ _ _ _ _
    rw [flat_append, List.length_append]
    exact e2
end Go.Proofs.YtmgodofnhjmbfaaGreatDoor.que
namespace Go.Proofs.YtmgodofnhjmbfaaGreatDoor.rlv
open Go.RowKit Go.Proofs.YtmgodofnhjmbfaaGreatDoor.spn
open Go.Proofs.YtmgodofnhjmbfaaGreatDoor.que (getE OwnM OwnM.lt OwnM.kept OwnM.below wpList_append_mid run_append_none run_append_mid)
theorem run_append_r (w : World) (base : Nat) (v x : Value) (zs ys : List RL) (hown : OwnQ w base v zs) (hx : SL w x ys) (hlen : zs.length + ys.length ≤ 1000) (hbase : base ≤ w.heap.size) :
    ∃ v' w', (Builtin.append_ #[22, 22] 22 #[v, x]).run Tryz.prog w = .ok v' w' ∧ OwnQ w' base v' (zs ++ ys) ∧ w.grownBy w' v.ownBlock ∧ (v'.ownBlock = v.ownBlock ∨ v'.ownBlock = some w.heap.size) := by
  obtain ⟨i0, hi0, hz0, hz1, hz2⟩ := infoR'
  rcases hx with ⟨rfl, rfl⟩ | ⟨b, o, c, rfl, h2, h3, h4, h5⟩
  · refine ⟨v, w, run_append_none w _ _ _ _ i0 2 Tryz.underlying22 hi0 _ _ _ hown, by rw [List.append_nil]; exact hown, ⟨rfl, rfl, rfl, Nat.le_refl _, fun _ _ _ => rfl⟩, .inl rfl⟩
  · obtain ⟨v', w', e1, e2, e3, e4⟩ := run_append_mid (P := Tryz.prog) w base 22 22 34 i0 zeroR 2 32 Tryz.underlying22 hi0 hz0 hz1 hz2 rfl v zs.length (flat zs) hown ⟨b, o, none⟩ ys.length c (flat ys) (flat_len _) (lies_flat h5) (flat_one _) (by unfold maxLen; omega) (by omega) hbase
    refine ⟨v', w', e1, ?_, e3, e4⟩
    show OwnM _ _ _ _ _ _ _
    rw [flat_append, List.length_append]
    exact e2
theorem Lies.take {w : World} {b o : Nat} {zs : List RL} (h : Lies w b o zs) (n : Nat) : Lies w b o (zs.take n) := by
  intro j hj i v hv
  have hj2 : j < zs.length := by rw [List.length_take] at hj; omega
  have e : (zs.take n)[j]! = zs[j]! := by
    rw [getE _ _ hj, getE _ _ hj2, List.getElem_take]
  rw [e] at hv
  exact h j hj2 i v hv
theorem Lies.drop {w : World} {b o : Nat} {zs : List RL} (h : Lies w b o zs) (n : Nat) : Lies w b (o + n * 2) (zs.drop n) := by
  intro j hj i v hv
  have hj2 : n + j < zs.length := by rw [List.length_drop] at hj; omega
  have e : (zs.drop n)[j]! = zs[n + j]! := by
    rw [getE _ _ hj, getE _ _ hj2, List.getElem_drop]
  rw [e] at hv
  have := h (n + j) hj2 i v hv
  rw [← this]
  congr 2
  rw [Nat.add_mul]; omega
theorem sl_take {w : World} {b o c k : Nat} {zs : List RL} (hk : k ≤ zs.length) (hc : zs.length ≤ c) (hm : c ≤ 9223372036854775807) (hb : b < w.heap.size) (h : Lies w b o zs) : SL w (.slice (some ⟨b, o, none⟩) k c) (zs.take k) :=
  .inr ⟨b, o, c, by rw [List.length_take, Nat.min_eq_left hk], by rw [List.length_take]; omega, hm, hb, h.take k⟩
/-- Where a side begins without its first ones. -/
def offK (o k c : Nat) : Nat := if k = c then o else o + k * 2
theorem sl_drop {w : World} {b o c k : Nat} {zs : List RL} (hk : k ≤ zs.length) (hc : zs.length ≤ c) (hm : c ≤ 9223372036854775807) (hb : b < w.heap.size) (h : Lies w b o zs) : SL w (.slice (some ⟨b, offK o k c, none⟩) (zs.length - k) (c - k)) (zs.drop k) := by
  refine .inr ⟨b, offK o k c, c - k, by rw [List.length_drop], by rw [List.length_drop]; omega, by omega, hb, ?_⟩
  unfold offK
  by_cases h1 : k = c
  · rw [if_pos h1, List.drop_eq_nil_of_le (by omega)]
    exact fun j hj => absurd hj (Nat.not_lt_zero _)
  · rw [if_neg h1]; exact h.drop k
theorem one_sl (w : World) (p : Int) (q : Option Addr) (n c : Nat) : SL (w.alloc (.cells #[.int .i64 p, .slice q n c] 34)) (.slice (some ⟨w.heap.size, 0, none⟩) 1 1) [⟨p, q, n, c⟩] := by
  refine .inr ⟨w.heap.size, 0, 1, rfl, by simp, by decide, by simp, flat_lies ?_⟩
  intro j u hu
  rw [Nat.zero_add, World.cell?_alloc_at _ _ _ _ rfl]
  simpa [flat, rV] using hu
end Go.Proofs.YtmgodofnhjmbfaaGreatDoor.rlv
namespace Go.Proofs.YtmgodofnhjmbfaaGreatDoor.sid
open Go.RowKit Go.Proofs.YtmgodofnhjmbfaaGreatDoor.spn Go.Proofs.YtmgodofnhjmbfaaGreatDoor.que
open Go.Proofs.YtmgodofnhjmbfaaGreatDoor.tickP (priceB sideB betOk betR)

set_option maxRecDepth 100000 in
theorem rcount_nil (w : World) :
    Calls Tryz.prog 7 #[.slice none 0 0] w fun e w' => e = .returned (.int .i64 0) ∧ ∃ k, w' = w.drewN k := by
  go_enter Tryz.func7, Tryz.ntmps7
  go_wp2_with fail
  go_loopg [3, 4] 0 (fun gg s3 s4 wr => s3 = .int .i64 0 ∧ s4 = .int .i64 0 ∧ wr = w)
  case atStart => exact ⟨rfl, rfl, rfl⟩
  case round =>
    obtain ⟨rfl, rfl, rfl⟩ := hrel
    go_wp2_with fail
    go_ret
    exact ⟨rfl, 0, rfl⟩
theorem rcount_any (v : Value) (ls : List L) (w : World) (h : LS w v ls) (h60 : ∀ l ∈ ls, l.rests.length ≤ 60) (h10 : ls.length ≤ 10000) :
    Calls Tryz.prog 7 #[v] w fun e w' => e = .returned (.int .i64 (cnt ls)) ∧ ∃ k, w' = w.drewN k := by
  rcases h with ⟨rfl, rfl⟩ | ⟨b, o, c, rfl, h2, h3, h4, h5⟩
  · exact rcount_nil w
  · exact rcount_some b o c ls w h5 h60 h10

set_option maxRecDepth 100000 in
theorem rat_nil (id : Int) (w : World) :
    Calls Tryz.prog 37 #[.slice none 0 0, .int .i64 id] w fun e w' => e = .returned (.tuple #[.int .i64 (-1), .int .i64 (-1)]) ∧ ∃ k, w' = w.drewN k := by
  go_enter Tryz.func37, Tryz.ntmps37
  go_wp2_with fail
  go_loopg [6, 7] 0 (fun gg s6 _ wr => s6 = .int .i64 0 ∧ wr = w)
  case atStart => exact ⟨rfl, rfl⟩
  case round =>
    obtain ⟨rfl, rfl⟩ := hrel
    go_wp2_with fail
    go_ret2
    exact ⟨rfl, 0, rfl⟩
theorem rat_any (v : Value) (ls : List L) (id : Int) (w : World) (h : LS w v ls) :
    Calls Tryz.prog 37 #[v, .int .i64 id] w fun e w' => e = .returned (.tuple #[.int .i64 (atGo id 0 ls).1, .int .i64 (atGo id 0 ls).2]) ∧ ∃ k, w' = w.drewN k := by
  rcases h with ⟨rfl, rfl⟩ | ⟨b, o, c, rfl, h2, h3, h4, h5⟩
  · exact rat_nil id w
  · exact rat_some b o c ls id w (by omega) h5

set_option maxRecDepth 100000 in
theorem rflat_nil (w : World) :
    Calls Tryz.prog 45 #[.slice none 0 0] w fun e w' => e = .returned (.slice none 0 0) ∧ w' = w := by
  go_enter Tryz.func45, Tryz.ntmps45
  go_wp2_with fail
  go_loopg [3, 4] 0 (fun gg s3 s4 wr => s3 = .slice none 0 0 ∧ s4 = .int .i64 0 ∧ wr = w)
  case atStart => exact ⟨rfl, rfl, rfl⟩
  case round =>
    obtain ⟨rfl, rfl, rfl⟩ := hrel
    go_wp2_with fail
    go_ret
    exact ⟨rfl, rfl⟩
theorem rflat_any (v : Value) (ls : List L) (w : World) (h : LS w v ls) (h60 : cnt ls ≤ 60) :
    Calls Tryz.prog 45 #[v] w fun e w' => ∃ u, e = .returned u ∧ OwnQ w' w.heap.size u (allR ls) ∧ Below w.heap.size w w' := by
  rcases h with ⟨rfl, rfl⟩ | ⟨b, o, c, rfl, h2, h3, h4, h5⟩
  · refine (rflat_nil w).mono ?_
    rintro e w' ⟨rfl, rfl⟩
    exact ⟨_, rfl, ⟨rfl, .inl ⟨rfl, rfl⟩⟩, Below.refl _ _⟩
  · exact rflat_some b o c ls w (by omega) h5 h60

theorem below_drewN' (w : World) (k : Nat) : Below w.heap.size w (w.drewN k) := belowN (Below.refl _ _) k
set_option maxRecDepth 100000 in
set_option maxHeartbeats 1000000 in
theorem rlevels_nil (s : Int) (w : World) :
    Calls Tryz.prog 22 #[.int .i64 s, .slice none 0 0] w fun e w' => e = .returned (.int .i64 (schk s [])) ∧ Below w.heap.size w w' := by
  by_cases hs2 : sideB s = false
  · rw [schk_side hs2]
    have HS : Hid (sideB s = false) := hs2
    go_enter Tryz.func22, Tryz.ntmps22
    go_wp2_with fail
    refine (rside_any s w).mono ?_
    rintro e w ⟨rfl, rfl⟩
    rw [HS.out]
    go_wp2_with fail
    go_ret
    exact ⟨rfl, Below.refl _ _⟩
  have hs : sideB s = true := by simpa using hs2
  rw [schk_ok hs rfl (by simp [cnt]) (by simp [ids, flatP])]
  have HS : Hid (sideB s = true) := hs
  clear hs2 hs
  go_enter Tryz.func22, Tryz.ntmps22
  go_wp2_with fail
  refine (rside_any s w).mono ?_
  rintro e w ⟨rfl, rfl⟩
  rw [HS.out]
  go_wp2_with fail
  go_loopg [6, 7, 8, 9] 0 (fun gg s4 _ _ _ wr => s4 = .int .i64 0 ∧ wr = w)
  case atStart => exact ⟨rfl, rfl⟩
  case round =>
    obtain ⟨rfl, rfl⟩ := hrel
    go_wp2_with fail
    refine (rcount_nil _).mono ?_
    rintro e w1 ⟨rfl, k1, rfl⟩
    go_wp2_with fail
    refine (rflat_nil _).mono ?_
    rintro e w1 ⟨rfl, rfl⟩
    go_wp2_with fail
    refine (rtwice_none _ _ _).mono ?_
    rintro e w2 ⟨rfl, b2⟩
    have HB : Hid (Below wr.heap.size wr w2) := (below_drewN' _ k1).trans b2
    clear b2
    go_wp2_with fail
    go_ret
    exact ⟨rfl, HB.out⟩
theorem rlevels_any (s : Int) (v : Value) (ls : List L) (w : World) (h : LS w v ls) :
    Calls Tryz.prog 22 #[.int .i64 s, v] w fun e w' => e = .returned (.int .i64 (schk s ls)) ∧ Below w.heap.size w w' := by
  rcases h with ⟨rfl, rfl⟩ | ⟨b, o, c, rfl, h2, h3, h4, h5⟩
  · exact rlevels_nil s w
  · exact rlevels_some s b o c ls w h4 h2 h3 h5
end Go.Proofs.YtmgodofnhjmbfaaGreatDoor.sid
