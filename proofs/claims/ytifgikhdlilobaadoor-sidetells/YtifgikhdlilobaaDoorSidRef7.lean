/- Contracts over this seat's translation: the document's Count, At and Levels, whatever comes in; append of levels. -/
import Derived.Test.YtifgikhdlilobaaDoorSidRef6
import Derived.Test.YtifgikhdlilobaaDoorQueRefW
import Derived.Test.YtifgikhdlilobaaDoorSidDL
namespace Go.Proofs.YtifgikhdlilobaaDoor.rlv
open Go.RowKit Go.Proofs.YtifgikhdlilobaaDoor.spn
open Go.Proofs.YtifgikhdlilobaaDoor.que (getE OwnM OwnM.lt OwnM.kept OwnM.below wpList_append_mid run_append_none run_append_mid)
theorem run_append_r (w : World) (base : Nat) (v x : Value) (zs ys : List RL) (hown : OwnQ w base v zs) (hx : SL w x ys) (hlen : zs.length + ys.length ≤ 1000) (hbase : base ≤ w.heap.size) :
    ∃ v' w', (Builtin.append_ #[22, 22] 22 #[v, x]).run Tryd.prog w = .ok v' w' ∧ OwnQ w' base v' (zs ++ ys) ∧ w.grownBy w' v.ownBlock ∧ (v'.ownBlock = v.ownBlock ∨ v'.ownBlock = some w.heap.size) := by
  obtain ⟨i0, hi0, hz0, hz1, hz2⟩ := infoR'
  rcases hx with ⟨rfl, rfl⟩ | ⟨b, o, c, rfl, h2, h3, h4, h5⟩
  · refine ⟨v, w, run_append_none w _ _ _ _ i0 2 Tryd.underlying22 hi0 _ _ _ hown, by rw [List.append_nil]; exact hown, ⟨rfl, rfl, rfl, Nat.le_refl _, fun _ _ _ => rfl⟩, .inl rfl⟩
  · obtain ⟨v', w', e1, e2, e3, e4⟩ := run_append_mid (P := Tryd.prog) w base 22 22 32 i0 zeroR 2 32 Tryd.underlying22 hi0 hz0 hz1 hz2 rfl v zs.length (flat zs) hown ⟨b, o, none⟩ ys.length c (flat ys) (flat_len _) (lies_flat h5) (flat_one _) (by unfold maxLen; omega) (by omega) hbase
    refine ⟨v', w', e1, ?_, e3, e4⟩
    show OwnM _ _ _ _ _ _ _
    rw [flat_append, List.length_append]
    exact e2
theorem Lies.take {w : World} {b o : Nat} {zs : List RL} (h : Lies w b o zs) (n : Nat) : Lies w b o (zs.take n) := by
  intro j hj i v hv
  have hj2 : j < zs.length := by rw [List.length_take] at hj; omega
  have e : (zs.take n)[j]! = zs[j]! := by
    rw [getE _ _ hj, getE _ _ hj2, List.getElem_take]
  rw [e] at hv
  exact h j hj2 i v hv
theorem Lies.drop {w : World} {b o : Nat} {zs : List RL} (h : Lies w b o zs) (n : Nat) : Lies w b (o + n * 2) (zs.drop n) := by
  intro j hj i v hv
  have hj2 : n + j < zs.length := by rw [List.length_drop] at hj; omega
  have e : (zs.drop n)[j]! = zs[n + j]! := by
    rw [getE _ _ hj, getE _ _ hj2, List.getElem_drop]
  rw [e] at hv
  have := h (n + j) hj2 i v hv
  rw [← this]
  congr 2
  rw [Nat.add_mul]; omega
theorem sl_take {w : World} {b o c k : Nat} {zs : List RL} (hk : k ≤ zs.length) (hc : zs.length ≤ c) (hm : c ≤ 9223372036854775807) (hb : b < w.heap.size) (h : Lies w b o zs) : SL w (.slice (some ⟨b, o, none⟩) k c) (zs.take k) :=
  .inr ⟨b, o, c, by rw [List.length_take, Nat.min_eq_left hk], by rw [List.length_take]; omega, hm, hb, h.take k⟩
/-- Where a side begins without its first ones. -/
def offK (o k c : Nat) : Nat := if k = c then o else o + k * 2
theorem sl_drop {w : World} {b o c k : Nat} {zs : List RL} (hk : k ≤ zs.length) (hc : zs.length ≤ c) (hm : c ≤ 9223372036854775807) (hb : b < w.heap.size) (h : Lies w b o zs) : SL w (.slice (some ⟨b, offK o k c, none⟩) (zs.length - k) (c - k)) (zs.drop k) := by
  refine .inr ⟨b, offK o k c, c - k, by rw [List.length_drop], by rw [List.length_drop]; omega, by omega, hb, ?_⟩
  unfold offK
  by_cases h1 : k = c
  · rw [if_pos h1, List.drop_eq_nil_of_le (by omega)]
    exact fun j hj => absurd hj (Nat.not_lt_zero _)
  · rw [if_neg h1]; exact h.drop k
theorem one_sl (w : World) (p : Int) (q : Option Addr) (n c : Nat) : SL (w.alloc (.cells #[.int .i64 p, .slice q n c] 32)) (.slice (some ⟨w.heap.size, 0, none⟩) 1 1) [⟨p, q, n, c⟩] := by
  refine .inr ⟨w.heap.size, 0, 1, rfl, by simp, by decide, by simp, flat_lies ?_⟩
  intro j u hu
  rw [Nat.zero_add, World.cell?_alloc_at _ _ _ _ rfl]
  simpa [flat, rV] using hu
end Go.Proofs.YtifgikhdlilobaaDoor.rlv
namespace Go.Proofs.YtifgikhdlilobaaDoor.sid
open Go.RowKit Go.Proofs.YtifgikhdlilobaaDoor.spn Go.Proofs.YtifgikhdlilobaaDoor.que
open Go.Proofs.YtifgikhdlilobaaDoor.tickP (priceB sideB betOk betR)

set_option maxRecDepth 100000 in
theorem rcount_nil (w : World) :
    Calls Tryd.prog 20 #[.slice none 0 0] w fun e w' => e = .returned (.int .i64 0) ∧ ∃ k, w' = w.drewN k := by
  go_enter Tryd.func20, Tryd.ntmps20
  go_wp2_with fail
  go_loopg [3, 4] 0 (fun gg s3 s4 wr => s3 = .int .i64 0 ∧ s4 = .int .i64 0 ∧ wr = w)
  case atStart => exact ⟨rfl, rfl, rfl⟩
  case round =>
    obtain ⟨rfl, rfl, rfl⟩ := hrel
    go_wp2_with fail
    go_ret
    exact ⟨rfl, 0, rfl⟩
theorem rcount_any (v : Value) (ls : List L) (w : World) (h : LS w v ls) (h60 : ∀ l ∈ ls, l.rests.length ≤ 60) (h10 : ls.length ≤ 10000) :
    Calls Tryd.prog 20 #[v] w fun e w' => e = .returned (.int .i64 (cnt ls)) ∧ ∃ k, w' = w.drewN k := by
  rcases h with ⟨rfl, rfl⟩ | ⟨b, o, c, rfl, h2, h3, h4, h5⟩
  · exact rcount_nil w
  · exact rcount_some b o c ls w h5 h60 h10

set_option maxRecDepth 100000 in
theorem rat_nil (id : Int) (w : World) :
    Calls Tryd.prog 12 #[.slice none 0 0, .int .i64 id] w fun e w' => e = .returned (.tuple #[.int .i64 (-1), .int .i64 (-1)]) ∧ ∃ k, w' = w.drewN k := by
  go_enter Tryd.func12, Tryd.ntmps12
  go_wp2_with fail
  go_loopg [6, 7] 0 (fun gg s6 _ wr => s6 = .int .i64 0 ∧ wr = w)
  case atStart => exact ⟨rfl, rfl⟩
  case round =>
    obtain ⟨rfl, rfl⟩ := hrel
    go_wp2_with fail
    go_ret2
    exact ⟨rfl, 0, rfl⟩
theorem rat_any (v : Value) (ls : List L) (id : Int) (w : World) (h : LS w v ls) :
    Calls Tryd.prog 12 #[v, .int .i64 id] w fun e w' => e = .returned (.tuple #[.int .i64 (atGo id 0 ls).1, .int .i64 (atGo id 0 ls).2]) ∧ ∃ k, w' = w.drewN k := by
  rcases h with ⟨rfl, rfl⟩ | ⟨b, o, c, rfl, h2, h3, h4, h5⟩
  · exact rat_nil id w
  · exact rat_some b o c ls id w (by omega) h5

set_option maxRecDepth 100000 in
theorem rflat_nil (w : World) :
    Calls Tryd.prog 22 #[.slice none 0 0] w fun e w' => e = .returned (.slice none 0 0) ∧ w' = w := by
  go_enter Tryd.func22, Tryd.ntmps22
  go_wp2_with fail
  go_loopg [3, 4] 0 (fun gg s3 s4 wr => s3 = .slice none 0 0 ∧ s4 = .int .i64 0 ∧ wr = w)
  case atStart => exact ⟨rfl, rfl, rfl⟩
  case round =>
    obtain ⟨rfl, rfl, rfl⟩ := hrel
    go_wp2_with fail
    go_ret
    exact ⟨rfl, rfl⟩
theorem rflat_any (v : Value) (ls : List L) (w : World) (h : LS w v ls) (h60 : cnt ls ≤ 60) :
    Calls Tryd.prog 22 #[v] w fun e w' => ∃ u, e = .returned u ∧ OwnQ w' w.heap.size u (allR ls) ∧ Below w.heap.size w w' := by
  rcases h with ⟨rfl, rfl⟩ | ⟨b, o, c, rfl, h2, h3, h4, h5⟩
  · refine (rflat_nil w).mono ?_
    rintro e w' ⟨rfl, rfl⟩
    exact ⟨_, rfl, ⟨rfl, .inl ⟨rfl, rfl⟩⟩, Below.refl _ _⟩
  · exact rflat_some b o c ls w (by omega) h5 h60

theorem below_drewN' (w : World) (k : Nat) : Below w.heap.size w (w.drewN k) := belowN (Below.refl _ _) k
set_option maxRecDepth 100000 in
set_option maxHeartbeats 1000000 in
theorem rlevels_nil (s : Int) (w : World) :
    Calls Tryd.prog 4 #[.int .i64 s, .slice none 0 0] w fun e w' => e = .returned (.int .i64 (schk s [])) ∧ Below w.heap.size w w' := by
  by_cases hs2 : sideB s = false
  · rw [schk_side hs2]
    have HS : Hid (sideB s = false) := hs2
    go_enter Tryd.func4, Tryd.ntmps4
    go_wp2_with fail
    refine (rside_any s w).mono ?_
    rintro e w ⟨rfl, rfl⟩
    rw [HS.out]
    go_wp2_with fail
    go_ret
    exact ⟨rfl, Below.refl _ _⟩
  have hs : sideB s = true := by simpa using hs2
  rw [schk_ok hs rfl (by simp [cnt]) (by simp [ids, flatP])]
  have HS : Hid (sideB s = true) := hs
  clear hs2 hs
  go_enter Tryd.func4, Tryd.ntmps4
  go_wp2_with fail
  refine (rside_any s w).mono ?_
  rintro e w ⟨rfl, rfl⟩
  rw [HS.out]
  go_wp2_with fail
  go_loopg [6, 7, 8, 9] 0 (fun gg s4 _ _ _ wr => s4 = .int .i64 0 ∧ wr = w)
  case atStart => exact ⟨rfl, rfl⟩
  case round =>
    obtain ⟨rfl, rfl⟩ := hrel
    go_wp2_with fail
    refine (rcount_nil _).mono ?_
    rintro e w1 ⟨rfl, k1, rfl⟩
    go_wp2_with fail
    refine (rflat_nil _).mono ?_
    rintro e w1 ⟨rfl, rfl⟩
    go_wp2_with fail
    refine (rtwice_none _ _ _).mono ?_
    rintro e w2 ⟨rfl, b2⟩
    have HB : Hid (Below wr.heap.size wr w2) := (below_drewN' _ k1).trans b2
    clear b2
    go_wp2_with fail
    go_ret
    exact ⟨rfl, HB.out⟩
theorem rlevels_any (s : Int) (v : Value) (ls : List L) (w : World) (h : LS w v ls) :
    Calls Tryd.prog 4 #[.int .i64 s, v] w fun e w' => e = .returned (.int .i64 (schk s ls)) ∧ Below w.heap.size w w' := by
  rcases h with ⟨rfl, rfl⟩ | ⟨b, o, c, rfl, h2, h3, h4, h5⟩
  · exact rlevels_nil s w
  · exact rlevels_some s b o c ls w h4 h2 h3 h5
end Go.Proofs.YtifgikhdlilobaaDoor.sid
