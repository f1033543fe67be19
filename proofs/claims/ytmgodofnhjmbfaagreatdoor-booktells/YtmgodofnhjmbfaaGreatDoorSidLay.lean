/- Contracts over this seat's translation: the document's Find. A side that is right cannot lie in a block that holds no level and no rest. Plain facts: levels laid behind one another into memory of the call's own, by append. No walk. -/
import Derived.Test.YtmgodofnhjmbfaaGreatDoorBokRef1
import Derived.Test.YtmgodofnhjmbfaaGreatDoorSidDL
import Derived.Test.YtmgodofnhjmbfaaGreatDoorBokChk
import Derived.Test.YtmgodofnhjmbfaaGreatDoorSidRef7
namespace Go.Proofs.YtmgodofnhjmbfaaGreatDoor.bok
open Go.RowKit Go.Proofs.YtmgodofnhjmbfaaGreatDoor.spn Go.Proofs.YtmgodofnhjmbfaaGreatDoor.que Go.Proofs.YtmgodofnhjmbfaaGreatDoor.sid

/-- Where the document finds an id: the side, the level, the place; 0: nowhere. -/
def rfindP (bs ss : List L) (id : Int) : Int × Int × Int :=
  if 0 ≤ (atGo id 0 bs).1 then (1, (atGo id 0 bs).1, (atGo id 0 bs).2) else if 0 ≤ (atGo id 0 ss).1 then (2, (atGo id 0 ss).1, (atGo id 0 ss).2) else (0, 0, 0)

set_option maxRecDepth 100000 in
set_option maxHeartbeats 2000000 in
theorem rfind_any (q1 q2 : Option Addr) (n1 n2 c1 c2 : Nat) (bs ss : List L) (id : Int) (w : World) (h1 : LS w (.slice q1 n1 c1) bs) (h2 : LS w (.slice q2 n2 c2) ss) :
    Calls Tryz.prog 16 #[.agg #[.slice q1 n1 c1, .slice q2 n2 c2], .int .i64 id] w fun e w' => e = .returned (.tuple #[.int .i64 (rfindP bs ss id).1, .int .i64 (rfindP bs ss id).2.1, .int .i64 (rfindP bs ss id).2.2]) ∧ Below w.heap.size w w' := by
  have hP : rfindP bs ss id = if 0 ≤ (atGo id 0 bs).1 then (1, (atGo id 0 bs).1, (atGo id 0 bs).2) else if 0 ≤ (atGo id 0 ss).1 then (2, (atGo id 0 ss).1, (atGo id 0 ss).2) else (0, 0, 0) := rfl
  have HA1 : Hid (∀ W, Below w.heap.size w W → Calls Tryz.prog 37 #[.slice q1 n1 c1, .int .i64 id] W fun e w' => e = .returned (.tuple #[.int .i64 (atGo id 0 bs).1, .int .i64 (atGo id 0 bs).2]) ∧ Below W.heap.size W w') := fun W hW => (rat_any _ bs id W (h1.below hW)).mono fun e w' hh => ⟨hh.1, by obtain ⟨k, hk⟩ := hh.2; rw [hk]; exact Go.Proofs.YtmgodofnhjmbfaaGreatDoor.sid.below_drewN' W k⟩
  have HA2 : Hid (∀ W, Below w.heap.size w W → Calls Tryz.prog 37 #[.slice q2 n2 c2, .int .i64 id] W fun e w' => e = .returned (.tuple #[.int .i64 (atGo id 0 ss).1, .int .i64 (atGo id 0 ss).2]) ∧ Below W.heap.size W w') := fun W hW => (rat_any _ ss id W (h2.below hW)).mono fun e w' hh => ⟨hh.1, by obtain ⟨k, hk⟩ := hh.2; rw [hk]; exact Go.Proofs.YtmgodofnhjmbfaaGreatDoor.sid.below_drewN' W k⟩
  obtain ⟨V, hV⟩ : ∃ V, V = w.alloc (.cells #[.slice q1 n1 c1, .slice q2 n2 c2] 24) := ⟨_, rfl⟩
  have hR : V.heap[w.heap.size]? = some (.cells #[.slice q1 n1 c1, .slice q2 n2 c2] 24 (0, 0)) := by rw [hV]; exact heap_alloc_new w _
  have v0 : V.cell? ⟨w.heap.size, 0, none⟩ = some (.slice q1 n1 c1) := by simp [World.cell?, hR]
  have v1 : V.cell? ⟨w.heap.size, 1, none⟩ = some (.slice q2 n2 c2) := by simp [World.cell?, hR]
  have hVs : w.heap.size < V.heap.size := (Array.getElem?_eq_some_iff.1 hR).1
  have HB : Hid (Below w.heap.size w V) := by rw [hV]; exact (Below.refl _ _).alloc (Nat.le_refl _) _
  clear h1 h2 hR
  generalize rfindP bs ss id = P at *
  generalize atGo id 0 bs = A1 at *
  generalize atGo id 0 ss = A2 at *
  obtain ⟨p1, p2, p3⟩ := P
  obtain ⟨i1, k1⟩ := A1
  obtain ⟨i2, k2⟩ := A2
  have HP := hid_of hP
  clear hP
  simp only [] at HA1 HA2 HP ⊢
  have HOF1 : Hid (∀ W, Calls Tryz.prog 17 #[.agg #[.slice q1 n1 c1, .slice q2 n2 c2], .int .i64 1] W fun e w' => e = .returned (.slice q1 n1 c1) ∧ Below W.heap.size W w') := fun W => rof_any 1 q1 q2 n1 n2 c1 c2 W
  have HOF2 : Hid (∀ W, Calls Tryz.prog 17 #[.agg #[.slice q1 n1 c1, .slice q2 n2 c2], .int .i64 2] W fun e w' => e = .returned (.slice q2 n2 c2) ∧ Below W.heap.size W w') := fun W => rof_any 2 q1 q2 n1 n2 c1 c2 W
  go_enter Tryz.func16, Tryz.ntmps16
  go_wp2_with fail
  rw [← hV]
  clear hV
  go_loopg [7, 8, 9] 3 (fun gg s7 _ _ wr => ((s7 = .int .i64 1 ∧ 3 ≤ gg) ∨ (s7 = .int .i64 2 ∧ 2 ≤ gg ∧ Aside (i1 < 0)) ∨ (s7 = .int .i64 3 ∧ Aside (i1 < 0 ∧ i2 < 0))) ∧ Aside (Below V.heap.size V wr))
  case atStart => exact ⟨.inl ⟨rfl, Nat.le_refl _⟩, Below.refl _ _⟩
  case round =>
    obtain ⟨hcs, BW⟩ := hrel
    rcases hcs with ⟨rfl, hg⟩ | ⟨rfl, hg, hi⟩ | ⟨rfl, hi⟩
    · have y0 := keeps BW.out v0
      have y1 := keeps BW.out v1
      have hys : w.heap.size < wr.heap.size := Nat.lt_of_lt_of_le hVs BW.out.size
      go_wp2_with fail
      refine (HOF1.out wr).mono ?_
      rintro e wa ⟨rfl, ba⟩
      have HBa : Hid (Below V.heap.size V wa) := BW.out.trans (ba.mono BW.out.size)
      clear ba y0 y1 hys
      go_wp2_with fail
      refine (HA1.out wa (HB.out.trans (HBa.out.mono HB.out.size))).mono ?_
      rintro e wb ⟨rfl, bb⟩
      have HBb : Hid (Below V.heap.size V wb) := HBa.out.trans (bb.mono HBa.out.size)
      have HBw : Hid (Below w.heap.size w wb) := HB.out.trans (HBb.out.mono HB.out.size)
      clear bb
      by_cases hz : 0 ≤ i1
      · have HQ : Hid (p1 = 1 ∧ p2 = i1 ∧ p3 = k1) := by have := HP.out; rw [if_pos hz] at this; cases this; exact ⟨rfl, rfl, rfl⟩
        obtain ⟨rfl, rfl, rfl⟩ := HQ.out
        go_wp2_with fail
        exact bodyPost_ret (v := .tuple #[.int .i64 1, .int .i64 p2, .int .i64 p3]) (by simp [results, Tryz.results16, go_sem]) rfl ⟨rfl, HBw.out⟩
      · have hz2 : i1 < 0 := by omega
        go_wp2_with fail
        go_roundg 2
        case measure => omega
        case rel => exact ⟨.inr (.inl ⟨by go_num, Nat.le_refl _, hz2⟩), HBb.out⟩
    · have y0 := keeps BW.out v0
      have y1 := keeps BW.out v1
      have hys : w.heap.size < wr.heap.size := Nat.lt_of_lt_of_le hVs BW.out.size
      go_wp2_with fail
      refine (HOF2.out wr).mono ?_
      rintro e wa ⟨rfl, ba⟩
      have HBa : Hid (Below V.heap.size V wa) := BW.out.trans (ba.mono BW.out.size)
      clear ba y0 y1 hys
      go_wp2_with fail
      refine (HA2.out wa (HB.out.trans (HBa.out.mono HB.out.size))).mono ?_
      rintro e wb ⟨rfl, bb⟩
      have HBb : Hid (Below V.heap.size V wb) := HBa.out.trans (bb.mono HBa.out.size)
      have HBw : Hid (Below w.heap.size w wb) := HB.out.trans (HBb.out.mono HB.out.size)
      clear bb
      by_cases hz : 0 ≤ i2
      · have HQ : Hid (p1 = 2 ∧ p2 = i2 ∧ p3 = k2) := by have := HP.out; have hn := hi.out; rw [if_neg (by omega), if_pos hz] at this; cases this; exact ⟨rfl, rfl, rfl⟩
        obtain ⟨rfl, rfl, rfl⟩ := HQ.out
        go_wp2_with fail
        exact bodyPost_ret (v := .tuple #[.int .i64 2, .int .i64 p2, .int .i64 p3]) (by simp [results, Tryz.results16, go_sem]) rfl ⟨rfl, HBw.out⟩
      · have hz2 : i2 < 0 := by omega
        go_wp2_with fail
        go_roundg 1
        case measure => omega
        case rel => exact ⟨.inr (.inr ⟨by go_num, hi.out, hz2⟩), HBb.out⟩
    · have HQ : Hid (p1 = 0 ∧ p2 = 0 ∧ p3 = 0) := by have := HP.out; have hn := hi.out; rw [if_neg (by omega), if_neg (by omega)] at this; cases this; exact ⟨rfl, rfl, rfl⟩
      obtain ⟨rfl, rfl, rfl⟩ := HQ.out
      go_wp2_with fail
      exact bodyPost_ret (v := .tuple #[.int .i64 0, .int .i64 0, .int .i64 0]) (by simp [results, Tryz.results16, go_sem]) rfl ⟨rfl, HB.out.trans (BW.out.mono HB.out.size)⟩
end Go.Proofs.YtmgodofnhjmbfaaGreatDoor.bok
namespace Go.Proofs.YtmgodofnhjmbfaaGreatDoor.kin
open Go.RowKit Go.Proofs.YtmgodofnhjmbfaaGreatDoor.spn Go.Proofs.YtmgodofnhjmbfaaGreatDoor.que Go.Proofs.YtmgodofnhjmbfaaGreatDoor.sid Go.Proofs.YtmgodofnhjmbfaaGreatDoor.bok

theorem hidKo {P : Prop} (h : P) : Hid P := h
theorem gr_atK {w w' : World} {P g i : Nat} {x : Value} (h : w.cell? ⟨g, i, none⟩ = some x) (hg : w.grownBy w' (some P)) (hne : g ≠ P) : w'.cell? ⟨g, i, none⟩ = some x := by
  have hlt : g < w.heap.size := World.block_lt_of_cell? w ⟨g, i, none⟩ h
  rw [hg.cell_far ⟨g, i, none⟩ hlt (fun e => hne (by cases e; rfl))]; exact h
/-- No level, and no rest, is read in a block. -/
def NoL (w : World) (X : Nat) : Prop := ∀ j p q n c, w.cell? ⟨X, j, none⟩ = some (.int .i64 p) → w.cell? ⟨X, j + 1, none⟩ = some (.slice q n c) → p < 1
def NoR (w : World) (X : Nat) : Prop := ∀ j a b c, w.cell? ⟨X, j, none⟩ = some (.int .i64 a) → w.cell? ⟨X, j + 1, none⟩ = some (.int .i64 b) → w.cell? ⟨X, j + 2, none⟩ = some (.int .i64 c) → False
theorem two_no {w : World} {X : Nat} {q1 q2 : Option Addr} {n1 n2 c1 c2 : Nat} {t : TypeId} (h : w.heap[X]? = some (.cells #[.slice q1 n1 c1, .slice q2 n2 c2] t (0, 0))) : NoL w X ∧ NoR w X := by
  have e : ∀ j, w.cell? ⟨X, j, none⟩ = (#[.slice q1 n1 c1, .slice q2 n2 c2] : Array Value)[j]? := fun j => by simp [World.cell?, h]
  refine ⟨fun j p q n c h1 _ => ?_, fun j a b c h1 _ _ => ?_⟩
  · rw [e] at h1
    match j, h1 with
    | 0, h1 => simp at h1
    | 1, h1 => simp at h1
    | j + 2, h1 => simp at h1
  · rw [e] at h1
    match j, h1 with
    | 0, h1 => simp at h1
    | 1, h1 => simp at h1
    | j + 2, h1 => simp at h1
theorem met_no {w : World} {X : Nat} {q1 q2 q3 q4 : Option Addr} {n1 n2 n3 n4 c1 c2 c3 c4 : Nat} {l : Int} {b : Bool} {t : TypeId} (h : w.heap[X]? = some (.cells #[.slice q1 n1 c1, .slice q2 n2 c2, .slice q3 n3 c3, .int .i64 l, .int .i64 0, .slice q4 n4 c4, .bool b] t (0, 0))) : NoL w X ∧ NoR w X := by
  have e : ∀ j, w.cell? ⟨X, j, none⟩ = (#[.slice q1 n1 c1, .slice q2 n2 c2, .slice q3 n3 c3, .int .i64 l, .int .i64 0, .slice q4 n4 c4, .bool b] : Array Value)[j]? := fun j => by simp [World.cell?, h]
  refine ⟨fun j p q n c h1 h2 => ?_, fun j a b c h1 h2 h3 => ?_⟩
  · rw [e] at h1 h2
    match j, h1, h2 with
    | 0, h1, _ => simp at h1
    | 1, h1, _ => simp at h1
    | 2, h1, _ => simp at h1
    | 3, _, h2 => simp at h2
    | 4, h1, _ => simp at h1; omega
    | 5, h1, _ => simp at h1
    | 6, h1, _ => simp at h1
    | j + 7, h1, _ => simp at h1
  · rw [e] at h1 h2 h3
    match j, h1, h2, h3 with
    | 0, h1, _, _ => simp at h1
    | 1, h1, _, _ => simp at h1
    | 2, h1, _, _ => simp at h1
    | 3, _, _, h3 => simp at h3
    | 4, _, h2, _ => simp at h2
    | 5, h1, _, _ => simp at h1
    | 6, h1, _, _ => simp at h1
    | j + 7, h1, _, _ => simp at h1
/-- A side that is right stands while such a block is written. -/
theorem ls_off {w w' : World} {X : Nat} {v : Value} {ls : List L} (h : LS w v ls) (hg : w.grownBy w' (some X)) (hn : NoL w X ∧ NoR w X) (hl : ∀ l ∈ ls, lchk l = 0) : LS w' v ls := by
  rcases h with h | ⟨b, o, c, h1, h2, h3, h4, h5⟩
  · exact .inl h
  · refine .inr ⟨b, o, c, h1, h2, h3, Nat.lt_of_lt_of_le h4 hg.size, fun k hk => ?_⟩
    obtain ⟨a0, u, a1, a2⟩ := h5 k hk
    have hlk := hl ls[k]! (by rw [getE _ _ hk]; exact List.getElem_mem hk)
    obtain ⟨hp, hne, hqk⟩ := lchk_zero hlk
    have hb : b ≠ X := by
      intro e
      subst e
      obtain ⟨q, n, hv⟩ := sl_form a2
      subst hv
      have := hn.1 _ _ _ _ _ a0 a1
      omega
    refine ⟨gr_atK a0 hg hb, u, gr_atK a1 hg hb, ?_⟩
    rcases a2 with (a2 | ⟨b2, o2, c2, g1, g2, g3, g4, g5⟩) | a2
    · exact .inl (.inl a2)
    · refine .inl (.inr ⟨b2, o2, c2, g1, g2, g3, Nat.lt_of_lt_of_le g4 hg.size, fun j hj i x hx => ?_⟩)
      have hb2 : b2 ≠ X := by
        intro e
        subst e
        have e0 := g5 j hj 0 _ rfl
        have e1 := g5 j hj 1 _ rfl
        have e2 := g5 j hj 2 _ rfl
        exact hn.2 _ _ _ _ e0 e1 e2
      exact gr_atK (g5 j hj i x hx) hg hb2
    · exact .inr a2
theorem book_lv {bs ss : List L} (h : bookE bs ss = 0) : (∀ l ∈ bs, lchk l = 0) ∧ (∀ l ∈ ss, lchk l = 0) := by
  obtain ⟨e1, e2, -⟩ := book_zero h
  exact ⟨sgo_each (schk_zero e1).2.1, sgo_each (schk_zero e2).2.1⟩
end Go.Proofs.YtmgodofnhjmbfaaGreatDoor.kin
namespace Go.Proofs.YtmgodofnhjmbfaaGreatDoor.sid
open Go.RowKit Go.Proofs.YtmgodofnhjmbfaaGreatDoor.spn Go.Proofs.YtmgodofnhjmbfaaGreatDoor.que
open Go.Proofs.YtmgodofnhjmbfaaGreatDoor.tickP (priceB sideB betOk betR)

theorem putL_skip {s p : Int} {r : R} : ∀ (k : Nat) (ls : List L), k ≤ ls.length → (∀ j, j < k → leadB s ls[j]!.price p = true) → putL s p r ls = ls.take k ++ putL s p r (ls.drop k) := by
  intro k
  induction k with
  | zero => intro ls _ _; simp
  | succ k ih =>
    intro ls hk h
    cases ls with
    | nil => simp at hk
    | cons l t =>
      have h0 := h 0 (by omega)
      simp only [List.getElem!_cons_zero] at h0
      have e := ih t (by simpa using hk) (fun j hj => by have := h (j + 1) (by omega); simpa using this)
      rw [putL, if_pos h0, e]
      simp
theorem putL_end {s p : Int} {r : R} {ls : List L} (h : ∀ j, j < ls.length → leadB s ls[j]!.price p = true) : putL s p r ls = ls ++ [⟨p, [r]⟩] := by
  rw [putL_skip ls.length ls (Nat.le_refl _) h]; simp [putL]
theorem putL_same {s p : Int} {r : R} {ls : List L} {k : Nat} (hk : k < ls.length) (h : ∀ j, j < k → leadB s ls[j]!.price p = true) (hn : leadB s ls[k]!.price p = false) (he : ls[k]!.price = p) : putL s p r ls = ls.take k ++ ⟨p, ls[k]!.rests ++ [r]⟩ :: ls.drop (k + 1) := by
  rw [putL_skip k ls (by omega) h, ldrop_at hk, putL, if_neg (by rw [hn]; decide), if_pos he]
theorem putL_new {s p : Int} {r : R} {ls : List L} {k : Nat} (hk : k < ls.length) (h : ∀ j, j < k → leadB s ls[j]!.price p = true) (hn : leadB s ls[k]!.price p = false) (he : ¬ ls[k]!.price = p) : putL s p r ls = ls.take k ++ ⟨p, [r]⟩ :: ls.drop k := by
  rw [putL_skip k ls (by omega) h, ldrop_at hk, putL, if_neg (by rw [hn]; decide), if_neg he]

theorem rown_nil (w : World) (base : Nat) : rlv.OwnQ w base (.slice none 0 0) [] := ⟨rfl, .inl ⟨rfl, rfl⟩⟩
theorem qown_nil (w : World) (base : Nat) : OwnQ w base (.slice none 0 0) [] := ⟨rfl, .inl ⟨rfl, rfl⟩⟩
theorem qone_sl (w : World) (a b c d e : Int) : SL (w.alloc (.cells #[.int .i64 a, .int .i64 b, .int .i64 c, .int .i64 d, .int .i64 e] 26)) (.slice (some ⟨w.heap.size, 0, none⟩) 1 1) [⟨a, b, c, d, e⟩] := by
  refine .inr ⟨w.heap.size, 0, 1, rfl, by simp, by decide, by simp, flat_lies ?_⟩
  intro j u hu
  rw [Nat.zero_add, World.cell?_alloc_at _ _ _ _ rfl]
  simpa [flat, rV] using hu

abbrev appR : Value → Value → World → Value → World → Prop := fun v x w v' w' => (Builtin.append_ #[32, 32] 32 #[v, x]).run Tryz.prog w = .ok v' w'
abbrev appL : Value → Value → World → Value → World → Prop := fun v x w v' w' => (Builtin.append_ #[22, 22] 22 #[v, x]).run Tryz.prog w = .ok v' w'

/-- The first ones. -/
theorem lay_first (W : World) (x : Value) (zs : List rlv.RL) (hx : rlv.SL W x zs) (hl : zs.length ≤ 100) : ∃ v1 w1, appL (.slice none 0 0) x W v1 w1 ∧ rlv.OwnQ w1 W.heap.size v1 zs ∧ Below W.heap.size W w1 := by
  obtain ⟨v1, w1, h1, h2, h3, -⟩ := rlv.run_append_r W W.heap.size (.slice none 0 0) x [] zs (rown_nil _ _) hx (by simp; omega) (Nat.le_refl _)
  exact ⟨v1, w1, h1, h2, (Below.refl _ _).grown h3 (Nat.le_refl _) (fun k hk => by simp [Value.ownBlock] at hk)⟩
/-- Rests, and one more behind them. -/
theorem lay_rests (W : World) (x : Value) (zs : List R) (hx : SL W x zs) (hl : zs.length ≤ 100) : ∃ v1 w1, appR (.slice none 0 0) x W v1 w1 ∧ OwnQ w1 W.heap.size v1 zs ∧ Below W.heap.size W w1 := by
  obtain ⟨v1, w1, h1, h2, h3, -⟩ := run_append_q W W.heap.size (.slice none 0 0) x [] zs (qown_nil _ _) hx (by simp; omega) (Nat.le_refl _)
  exact ⟨v1, w1, h1, h2, (Below.refl _ _).grown h3 (Nat.le_refl _) (fun k hk => by simp [Value.ownBlock] at hk)⟩
theorem lay_rest (B : Nat) (W : World) (v : Value) (zs : List R) (a b c d e : Int) (hv : OwnQ W B v zs) (hB : B ≤ W.heap.size) (hl : zs.length ≤ 100) : ∃ q m cc w1, appR v (.slice (some ⟨W.heap.size, 0, none⟩) 1 1) (W.alloc (.cells #[.int .i64 a, .int .i64 b, .int .i64 c, .int .i64 d, .int .i64 e] 26)) (.slice q m cc) w1 ∧ OwnQ w1 B (.slice q m cc) (zs ++ [⟨a, b, c, d, e⟩]) ∧ Below B W w1 := by
  have hBb : Below W.heap.size W (W.alloc (.cells #[.int .i64 a, .int .i64 b, .int .i64 c, .int .i64 d, .int .i64 e] 26)) := (Below.refl _ _).alloc (Nat.le_refl _) _
  obtain ⟨v1, w1, h1, h2, h3, -⟩ := run_append_q _ B v (.slice (some ⟨W.heap.size, 0, none⟩) 1 1) zs [⟨a, b, c, d, e⟩] (OwnM.below hv hBb) (qone_sl W a b c d e) (by simp; omega) (by simp; omega)
  obtain ⟨q, cc, hf⟩ := OwnM.form h2
  subst hf
  exact ⟨q, _, cc, w1, h1, h2, (hBb.mono hB).grown h3 (by simp; omega) (fun k hk => (OwnM.lt hv k hk).1)⟩

/-- What is laid reads xa levels. -/
theorem laid_ls {W w5 : World} {base : Nat} {v5 : Value} {xa xb : List RP} {x : RP} (ha : ∀ p ∈ xa, SLe W (sv p.1) p.2) (hb : ∀ p ∈ xb, SLe W (sv p.1) p.2) (hx : SLe w5 (sv x.1) x.2) (hB : Below W.heap.size W w5)
    (ho : rlv.OwnQ w5 base v5 (xa.map (·.1) ++ x.1 :: xb.map (·.1))) : LS w5 v5 (xa.map toL ++ toL x :: xb.map toL) := by
  have h : Loose w5 v5 (xa ++ x :: xb) := by
    refine ⟨?_, fun p hp => ?_⟩
    · rw [List.map_append, List.map_cons]; exact rlv.OwnQ.sl ho
    · rcases List.mem_append.1 hp with hp | hp
      · exact (ha p hp).below hB
      · rcases List.mem_cons.1 hp with rfl | hp
        · exact hx
        · exact (hb p hp).below hB
  have := h.ls
  rwa [List.map_append, List.map_cons] at this
theorem laid_ls2 {W w5 : World} {base : Nat} {v5 : Value} {xa xb : List RP} (ha : ∀ p ∈ xa, SLe W (sv p.1) p.2) (hb : ∀ p ∈ xb, SLe W (sv p.1) p.2) (hB : Below W.heap.size W w5)
    (ho : rlv.OwnQ w5 base v5 (xa.map (·.1) ++ xb.map (·.1))) : LS w5 v5 (xa.map toL ++ xb.map toL) := by
  have h : Loose w5 v5 (xa ++ xb) := by
    refine ⟨?_, fun p hp => ?_⟩
    · rw [List.map_append]; exact rlv.OwnQ.sl ho
    · rcases List.mem_append.1 hp with hp | hp
      · exact (ha p hp).below hB
      · exact (hb p hp).below hB
  have := h.ls
  rwa [List.map_append] at this

/-- A level behind the first ones, and the last ones behind it. -/
theorem lay_last (W w1 w3 : World) (v1 x5 : Value) (xa xb : List RP) (p : Int) (q : Option Addr) (m cc : Nat) (zs : List R) (hB1 : Below W.heap.size W w1) (O1 : rlv.OwnQ w1 W.heap.size v1 (xa.map (·.1))) (hB3 : Below w1.heap.size w1 w3) (O3 : OwnQ w3 w1.heap.size (.slice q m cc) zs)
    (hx : rlv.SL W x5 (xb.map (·.1))) (ha : ∀ p ∈ xa, SLe W (sv p.1) p.2) (hb : ∀ p ∈ xb, SLe W (sv p.1) p.2) (hl : xa.length + xb.length ≤ 100) :
    ∃ v4 w4 v5 w5, appL v1 (.slice (some ⟨w3.heap.size, 0, none⟩) 1 1) (w3.alloc (.cells #[.int .i64 p, .slice q m cc] 34)) v4 w4 ∧ appL v4 x5 w4 v5 w5 ∧ LS w5 v5 (xa.map toL ++ ⟨p, zs⟩ :: xb.map toL) ∧ Below W.heap.size W w5 := by
  have hB3a : Below w3.heap.size w3 (w3.alloc (.cells #[.int .i64 p, .slice q m cc] 34)) := (Below.refl _ _).alloc (Nat.le_refl _) _
  have hs1 := hB1.size
  have hs3 := hB3.size
  have hO1 : rlv.OwnQ (w3.alloc (.cells #[.int .i64 p, .slice q m cc] 34)) W.heap.size v1 (xa.map (·.1)) := OwnM.below (OwnM.below O1 hB3) hB3a
  obtain ⟨v4, w4, e1, o4, g4, b4⟩ := rlv.run_append_r _ W.heap.size v1 (.slice (some ⟨w3.heap.size, 0, none⟩) 1 1) (xa.map (·.1)) [⟨p, q, m, cc⟩] hO1 (rlv.one_sl w3 p q m cc) (by simp; omega) (by simp; omega)
  have hW3 : Below W.heap.size W w3 := hB1.trans (hB3.mono hs1)
  have hW3a := hW3.trans (hB3a.mono hW3.size)
  have hW4 : Below W.heap.size W w4 := hW3a.grown g4 hW3a.size (fun k hk => (OwnM.lt O1 k hk).1)
  obtain ⟨v5, w5, e2, o5, g5, b5⟩ := rlv.run_append_r w4 W.heap.size v4 x5 (xa.map (·.1) ++ [⟨p, q, m, cc⟩]) (xb.map (·.1)) o4 (hx.below hW4) (by simp; omega) hW4.size
  have hW5 : Below W.heap.size W w5 := hW4.grown g5 hW4.size (fun k hk => (OwnM.lt o4 k hk).1)
  have r3 : OwnQ (w3.alloc (.cells #[.int .i64 p, .slice q m cc] 34)) w1.heap.size (.slice q m cc) zs := OwnM.below O3 hB3a
  have r4 : OwnQ w4 w1.heap.size (.slice q m cc) zs := kept_of r3 g4 (fun z hz e => by
    have h1 := (OwnM.lt O3 z hz).1
    have h2 := (OwnM.lt O1 z e).2
    omega)
  have r5 : OwnQ w5 w1.heap.size (.slice q m cc) zs := kept_of r4 g5 (fun z hz e => by
    have h1 := (OwnM.lt O3 z hz).1
    have h3 := (OwnM.lt O3 z hz).2
    rcases b4 with b4 | b4
    · rw [b4] at e
      have h2 := (OwnM.lt O1 z e).2
      omega
    · rw [b4] at e
      simp at e
      omega)
  refine ⟨v4, w4, v5, w5, e1, e2, ?_, hW5⟩
  exact laid_ls (x := (⟨p, q, m, cc⟩, zs)) ha hb (.inl (OwnQ.sl r5)) hW5 (by rw [List.append_assoc] at o5; exact o5)
/-- The last ones behind the first ones. -/
theorem lay_rest2 (W w1 w3 : World) (v1 x5 : Value) (xa xb : List RP) (hB1 : Below W.heap.size W w1) (O1 : rlv.OwnQ w1 W.heap.size v1 (xa.map (·.1))) (hB3 : Below w1.heap.size w1 w3)
    (hx : rlv.SL W x5 (xb.map (·.1))) (ha : ∀ p ∈ xa, SLe W (sv p.1) p.2) (hb : ∀ p ∈ xb, SLe W (sv p.1) p.2) (hl : xa.length + xb.length ≤ 100) :
    ∃ v5 w5, appL v1 x5 w3 v5 w5 ∧ LS w5 v5 (xa.map toL ++ xb.map toL) ∧ Below W.heap.size W w5 := by
  have hs1 := hB1.size
  have hs3 := hB3.size
  have hW3 : Below W.heap.size W w3 := hB1.trans (hB3.mono hs1)
  have hO1 : rlv.OwnQ w3 W.heap.size v1 (xa.map (·.1)) := OwnM.below O1 hB3
  obtain ⟨v5, w5, e2, o5, g5, b5⟩ := rlv.run_append_r w3 W.heap.size v1 x5 (xa.map (·.1)) (xb.map (·.1)) hO1 (hx.below hW3) (by simp; omega) hW3.size
  have hW5 : Below W.heap.size W w5 := hW3.grown g5 hW3.size (fun k hk => (OwnM.lt O1 k hk).1)
  exact ⟨v5, w5, e2, laid_ls2 ha hb hW5 o5, hW5⟩
end Go.Proofs.YtmgodofnhjmbfaaGreatDoor.sid
