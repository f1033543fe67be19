/- The walk of SideTells. -/
import Derived.Test.YtifgikhdlilobaaDoorSidRef9
import Derived.Test.YtifgikhdlilobaaDoorSidDrop3
import Derived.Test.YtifgikhdlilobaaDoorSidSame
import Derived.Test.YtifgikhdlilobaaDoorSidDepth
import Derived.Test.YtifgikhdlilobaaDoorSidPair
import Derived.Test.YtifgikhdlilobaaDoorTold
import Derived.Deep.CutBlock
namespace Go.Proofs.YtifgikhdlilobaaDoor.sid
open Go.RowKit Go.Proofs.YtifgikhdlilobaaDoor.spn Go.Proofs.YtifgikhdlilobaaDoor.que
open Go.Proofs.YtifgikhdlilobaaDoor.tickP (priceB sideB betOk betR)

theorem int_eq {a b : Int} (h : a = b) : (Value.int .i64 a) = .int .i64 b := by rw [h]
theorem bool_eq {a b : Bool} (h : a = b) : Value.bool a = .bool b := by rw [h]

/-- What the walk holds: what lay there lies there, the rest that came in is boxed, the errors' variable is as it was. -/
structure QI (B w : World) (r1 r2 r3 r4 r5 : Int) (wx : World) : Prop where
  inv : told.Inv B wx
  far : Below w.heap.size w wx
  box : wx.heap[w.heap.size]? = some (.cells #[.int .i64 r1, .int .i64 r2, .int .i64 r3, .int .i64 r4, .int .i64 r5] 24 (0, 0))
theorem QI.lt {B w wx : World} {r1 r2 r3 r4 r5 : Int} (h : QI B w r1 r2 r3 r4 r5 wx) : w.heap.size < wx.heap.size := (Array.getElem?_eq_some_iff.1 h.box).1
theorem QI.on {B w wx wy : World} {r1 r2 r3 r4 r5 : Int} (h : QI B w r1 r2 r3 r4 r5 wx) (hb : Below wx.heap.size wx wy) : QI B w r1 r2 r3 r4 r5 wy :=
  ⟨h.inv.on hb, h.far.trans (hb.mono h.far.size), (hb.block w.heap.size h.lt).trans h.box⟩
theorem err_same (B w : World) (r1 r2 r3 r4 r5 k : Int) (wx : World) (h : QI B w r1 r2 r3 r4 r5 wx) :
    Calls Tryd.prog 5 #[errV k, .int .i64 k] wx fun ev w' => ev = .returned (.bool true) ∧ Below wx.heap.size wx w' := by
  refine (told.error_any wx k k wx (told.Inv.start h.inv.laid)).mono ?_
  rintro e w' ⟨rfl, h'⟩
  exact ⟨by rw [beq_self_eq_true], h'.2⟩
/-- A rest that lies boxed. -/
def Row5 (wx : World) (X : Nat) (r : R) : Prop := wx.heap[X]? = some (.cells #[.int .i64 r.id, .int .i64 r.who, .int .i64 r.qty, .int .i64 r.hid, .int .i64 r.shw] 24 (0, 0))
theorem Row5.on {wx wy : World} {X : Nat} {r : R} (h : Row5 wx X r) (hb : Below wx.heap.size wx wy) : Row5 wy X r := (hb.block X (Array.getElem?_eq_some_iff.1 h).1).trans h
theorem gr_cellS {w w' : World} {row : Option Nat} (hg : w.grownBy w' row) {b o : Nat} {u : Value} (hc : w.cell? ⟨b, o, none⟩ = some u) (hne : row ≠ some b) : w'.cell? ⟨b, o, none⟩ = some u := by
  have hb : b < w.heap.size := World.block_lt_of_cell? w ⟨b, o, none⟩ hc
  rw [hg.cell_far ⟨b, o, none⟩ hb (fun e => hne e.symm)]; exact hc
/-- Rests that are right lie in no block of zeros, nor does a side. -/
theorem zero_cell {w : World} {X j : Nat} {u : Value} (h : Row5 w X ⟨0, 0, 0, 0, 0⟩) (hc : w.cell? ⟨X, j, none⟩ = some u) : u = .int .i64 0 := by
  unfold Row5 at h
  have e : w.cell? ⟨X, j, none⟩ = (#[.int .i64 0, .int .i64 0, .int .i64 0, .int .i64 0, .int .i64 0] : Array Value)[j]? := by simp [World.cell?, h]
  rw [e] at hc
  match j, hc with
  | 0, hc => simp at hc; exact hc.symm
  | 1, hc => simp at hc; exact hc.symm
  | 2, hc => simp at hc; exact hc.symm
  | 3, hc => simp at hc; exact hc.symm
  | 4, hc => simp at hc; exact hc.symm
  | j + 5, hc => simp at hc
theorem sle_keep {w w' : World} {X : Nat} {v : Value} {zs : List R} (h : SLe w v zs) (hz : Row5 w X ⟨0, 0, 0, 0, 0⟩) (hg : w.grownBy w' (some X)) (hi : ∀ r ∈ zs, r.id ≠ 0) : SLe w' v zs := by
  rcases h with (h | ⟨b, o, c, h1, h2, h3, h4, h5⟩) | h
  · exact .inl (.inl h)
  · refine .inl (.inr ⟨b, o, c, h1, h2, h3, Nat.lt_of_lt_of_le h4 hg.size, fun j hj i u hu => ?_⟩)
    have hb : b ≠ X := by
      intro e
      subst e
      have h0 := zero_cell hz (h5 j hj 0 _ rfl)
      injection h0 with _ h0
      exact hi zs[j]! (by rw [getE _ _ hj]; exact List.getElem_mem hj) h0
    rw [hg.cell_far ⟨b, o + j * 5 + i, none⟩ h4 (fun e => hb (by cases e; rfl))]
    exact h5 j hj i u hu
  · exact .inr h
theorem ls_keep {w w' : World} {X : Nat} {v : Value} {ls : List L} (h : LS w v ls) (hz : Row5 w X ⟨0, 0, 0, 0, 0⟩) (hg : w.grownBy w' (some X)) (hi : ∀ l ∈ ls, ∀ r ∈ l.rests, r.id ≠ 0) : LS w' v ls := by
  rcases h with h | ⟨b, o, c, h1, h2, h3, h4, h5⟩
  · exact .inl h
  · refine .inr ⟨b, o, c, h1, h2, h3, Nat.lt_of_lt_of_le h4 hg.size, fun k hk => ?_⟩
    obtain ⟨a0, u, a1, a2⟩ := h5 k hk
    have hb : b ≠ X := by
      intro e
      subst e
      have h0 := zero_cell hz a1
      obtain ⟨q, c', hq⟩ := sl_form a2
      rw [h0] at hq
      cases hq
    refine ⟨?_, u, ?_, sle_keep a2 hz hg (hi _ (by rw [getE _ _ hk]; exact List.getElem_mem hk))⟩
    · rw [hg.cell_far ⟨b, o + k * 2, none⟩ h4 (fun e => hb (by cases e; rfl))]; exact a0
    · rw [hg.cell_far ⟨b, o + k * 2 + 1, none⟩ h4 (fun e => hb (by cases e; rfl))]; exact a1
theorem drop_ids {s : Int} {ls : List L} (h0 : schk s ls = 0) (i k : Nat) : ∀ l ∈ dropL ls i k, ∀ r ∈ l.rests, r.id ≠ 0 := by
  have hE := sgo_each (schk_zero h0).2.1
  have hA : ∀ l ∈ ls, ∀ r ∈ l.rests, r.id ≠ 0 := fun l hl r hr => by
    have hq := (lchk_zero (hE l hl)).2.2
    have := rchk_zero (((qchk_zero _).1 hq).2.1 r hr)
    omega
  intro l hl r hr
  unfold dropL at hl
  by_cases h1 : ls[i]!.rests.length = 1
  · rw [if_pos h1] at hl
    exact hA l (List.mem_of_mem_eraseIdx hl) r hr
  · rw [if_neg h1] at hl
    by_cases hi : i < ls.length
    · rcases List.mem_or_eq_of_mem_set hl with hl | rfl
      · exact hA l hl r hr
      · exact hA ls[i]! (by rw [getE _ _ hi]; exact List.getElem_mem hi) r (List.mem_of_mem_eraseIdx hr)
    · rw [List.set_eq_of_length_le (by omega)] at hl
      exact hA l hl r hr
theorem QI.set {B w wx wy : World} {r1 r2 r3 r4 r5 : Int} {X : Nat} (h : QI B w r1 r2 r3 r4 r5 wx) (hg : wx.grownBy wy (some X)) (hX : w.heap.size < X) (hB : B.heap.size ≤ w.heap.size) : QI B w r1 r2 r3 r4 r5 wy :=
  ⟨⟨h.inv.1, h.inv.2.grown hg h.inv.2.size (fun j hj => by cases hj; omega)⟩, h.far.grown hg h.far.size (fun j hj => by cases hj; omega), (hg.block w.heap.size h.lt (fun e => by cases e; omega)).trans h.box⟩
theorem ls_lenS {w : World} {q : Option Addr} {n c : Nat} {ls : List L} (h : LS w (.slice q n c) ls) : n = ls.length := by
  rcases h with ⟨e, e2⟩ | ⟨b, o, c', e, -⟩
  · cases e; rw [e2]; rfl
  · cases e; rfl


theorem dflat_get (ds : List (Int × Int)) : ∀ j, j < ds.length → ∀ i, i < 2 → (dflat ds)[j * 2 + i]? = (dV ds[j]!)[i]? := by
  induction ds with
  | nil => intro j hj; simp at hj
  | cons r t ih =>
    intro j hj i hi
    have e : dflat (r :: t) = dV r ++ dflat t := rfl
    rw [e]
    cases j with
    | zero => rw [Nat.zero_mul, Nat.zero_add, List.getElem?_append_left (by show i < 2; exact hi)]; rfl
    | succ j =>
      rw [List.getElem?_append_right (by show 2 ≤ _; omega)]
      have : (j + 1) * 2 + i - (dV r).length = j * 2 + i := by show (j + 1) * 2 + i - 2 = _; omega
      rw [this, ih j (by simpa using hj) i hi]
      rfl
/-- A depth of the call's own, place by place. -/
theorem OwnD.at {w : World} {base : Nat} {q : Option Addr} {n c : Nat} {ds : List (Int × Int)} (h : OwnD w base (.slice q n c) ds) {k : Nat} (hk : k < ds.length) : ∃ g off, q = some ⟨g, off, none⟩ ∧ g < w.heap.size ∧ w.cell? ⟨g, off + k * 2, none⟩ = some (.int .i64 ds[k]!.1) ∧ w.cell? ⟨g, off + k * 2 + 1, none⟩ = some (.int .i64 ds[k]!.2) := by
  have hn : n = ds.length := by obtain ⟨q', c', e⟩ := OwnM.form h; cases e; rfl
  subst hn
  cases q with
  | none =>
    rcases h.2 with ⟨e, hn⟩ | ⟨g, off, cap, cur, e, _⟩
    · rw [hn] at hk; exact absurd hk (Nat.not_lt_zero _)
    · cases e
  | some a =>
    rcases h.2 with ⟨e, hn⟩ | ⟨g, off, cap, cur, e, _⟩
    · cases e
    · cases e
      obtain ⟨hc, -, -, hlt⟩ := OwnM.cells h
      refine ⟨g, off, rfl, hlt, ?_, ?_⟩
      · have := hc (k * 2 + 0) (.int .i64 ds[k]!.1) (by rw [dflat_get ds k hk 0 (by omega)]; rfl)
        exact this
      · have := hc (k * 2 + 1) (.int .i64 ds[k]!.2) (by rw [dflat_get ds k hk 1 (by omega)]; rfl)
        exact this
theorem OwnD.form' {w : World} {base : Nat} {v : Value} {ds : List (Int × Int)} (h : OwnD w base v ds) : ∃ q c, v = .slice q ds.length c := OwnM.form h
theorem ls_some {w : World} {q : Option Addr} {n c : Nat} {ls : List L} (h : LS w (.slice q n c) ls) {k : Nat} (hk : k < ls.length) : ∃ b o, q = some ⟨b, o, none⟩ ∧ b < w.heap.size ∧ LL w b o ls := by
  rcases h with ⟨e, e2⟩ | ⟨b, o, c', e, -, -, hb, hl⟩
  · rw [e2] at hk; exact absurd hk (Nat.not_lt_zero _)
  · cases e; exact ⟨b, o, rfl, hb, hl⟩

set_option maxRecDepth 100000 in
set_option maxHeartbeats 4000000 in
theorem stells_walk (s : Int) (vq : Option Addr) (N vc : Nat) (ls : List L) (p r1 r2 r3 r4 r5 id n : Int) (hid : (Lit.int .i64 id).wf = true) (hnw : (Lit.int .i64 n).wf = true) (B w : World) (hI : told.Inv B w) (hS : LS w (.slice vq N vc) ls) :
    Calls Tryd.prog 3 #[.int .i64 s, .slice vq N vc, .int .i64 p, .agg #[.int .i64 r1, .int .i64 r2, .int .i64 r3, .int .i64 r4, .int .i64 r5], .int .i64 id, .int .i64 n] w fun e w' => e = .returned (.bool true) ∧ told.Inv B w' := by
  have HS : Hid (LS w (.slice vq N vc) ls) := hS
  have HZ : Hid (N = ls.length) := ls_lenS hS
  have HQ0 : Hid (QI B w r1 r2 r3 r4 r5 (w.alloc (.cells #[.int .i64 r1, .int .i64 r2, .int .i64 r3, .int .i64 r4, .int .i64 r5] 24))) :=
    ⟨hI.on ((Below.refl _ _).alloc (Nat.le_refl _) _), (Below.refl _ _).alloc (Nat.le_refl _) _, heap_alloc_new w _⟩
  have HQB : Hid (B.heap.size ≤ w.heap.size) := hI.2.size
  clear hS hI
  have HID : Hid ((Lit.int .i64 id).wf = true ∧ (Lit.int .i64 n).wf = true) := ⟨hid, hnw⟩
  clear hid hnw
  obtain ⟨E, hE⟩ : ∃ E, schk s ls = E := ⟨_, rfl⟩
  have HE : Hid (schk s ls = E) := hE
  go_enter Tryd.func3, Tryd.ntmps3
  go_wp2_with fail
  refine (rlevels_any s _ ls _ (HS.out.below HQ0.out.far)).mono ?_
  rintro e w1 ⟨rfl, hb⟩
  have HQ1 : Hid (QI B w r1 r2 r3 r4 r5 w1) := HQ0.out.on hb
  clear hb HQ0
  rw [hE]
  clear hE
  go_wp2_with fail
  refine (scheckS_any s _ ls _ (HS.out.below HQ1.out.far)).mono ?_
  rintro e w2 ⟨rfl, hb⟩
  have HQ2 : Hid (QI B w r1 r2 r3 r4 r5 w2) := HQ1.out.on hb
  clear hb HQ1
  rw [HE.out]
  go_wp2_with fail
  refine (err_same B w r1 r2 r3 r4 r5 E _ HQ2.out).mono ?_
  rintro e w3 ⟨rfl, hb⟩
  have HQ3 : Hid (QI B w r1 r2 r3 r4 r5 w3) := HQ2.out.on hb
  clear hb HQ2
  -- the best price
  go_upto_region 5 with fail
  go_cut [57] from 51 to 57 (fun s57 wx => s57 = .bool (decide (E = 0 ∧ N = 0)) ∧ wx = w3)
  case first => as_aux_lemma =>
    by_cases h0 : E = 0
    · subst h0
      go_wp2_with fail
      go_meet
      case rel => exact ⟨bool_eq (by rw [Bool.eq_iff_iff]; simp), rfl⟩
    · have h0' : (E == 0) = false := by simp [h0]
      go_wp2_with fail
      go_meet
      case rel => exact ⟨bool_eq (by simp [h0]), rfl⟩
  case rest =>
  obtain ⟨rfl, hw⟩ := hcut
  subst hw
  obtain ⟨F1, hF1⟩ : ∃ F1, bestE s ls = F1 := ⟨_, rfl⟩
  obtain ⟨P1, hP1⟩ : ∃ P1, bestP s ls = P1 := ⟨_, rfl⟩
  have HF1 : Hid (bestE s ls = F1 ∧ bestP s ls = P1) := ⟨hF1, hP1⟩
  clear hF1 hP1
  go_upto_if 57 with fail
  go_cut [15, 16] from 57 to 63 (fun s15 s16 wx => s15 = .int .i64 F1 ∧ s16 = .int .i64 P1 ∧ wx = wc)
  case first => as_aux_lemma =>
    by_cases h0 : E = 0 ∧ N = 0
    · have h0' : decide (E = 0 ∧ N = 0) = true := by simpa using h0
      have hl : ls = [] := List.eq_nil_of_length_eq_zero (by rw [← HZ.out]; exact h0.2)
      have hF : F1 = 5 ∧ P1 = 0 := by
        have e1 : bestE s ls = 5 := by unfold bestE; rw [HE.out, if_pos h0.1, if_pos hl]
        have e2 : bestP s ls = 0 := by unfold bestP; rw [e1, if_neg (by decide)]
        exact ⟨by rw [← HF1.out.1]; exact e1, by rw [← HF1.out.2]; exact e2⟩
      rw [h0']
      clear h0 h0' hl
      go_wp2_with fail
      go_meet
      case rel => exact ⟨int_eq hF.1.symm, int_eq hF.2.symm, rfl⟩
    · have h0' : decide (E = 0 ∧ N = 0) = false := by simpa using h0
      rw [h0']
      clear h0'
      by_cases h1 : E = 0
      · have hN : ¬ N = 0 := fun h => h0 ⟨h1, h⟩
        have hl : ¬ ls = [] := fun h => hN (by rw [HZ.out, h]; rfl)
        have hF : F1 = 0 ∧ P1 = ls[0]!.price := by
          have e1 : bestE s ls = 0 := by unfold bestE; rw [HE.out, if_pos h1, if_neg hl]
          have e2 : bestP s ls = ls[0]!.price := by unfold bestP; rw [e1, if_pos rfl]
          exact ⟨by rw [← HF1.out.1]; exact e1, by rw [← HF1.out.2]; exact e2⟩
        have hlz : 0 < ls.length := by rw [← HZ.out]; omega
        have h0N : (0 : Int) < (N : Int) := by omega
        rcases HS.out.below HQ3.out.far with ⟨e, e2⟩ | ⟨b, o, c', e, -, -, hb, hLL⟩
        · exact absurd e2 hl
        · injection e with e1 e2 e3
          subst e1
          obtain ⟨c0, -⟩ := hLL 0 hlz
          rw [Nat.zero_mul, Nat.add_zero] at c0
          clear hLL e2 e3
          subst h1
          generalize ls[0]!.price = P0 at c0 hF
          go_wp2_with fail
          go_meet
          case rel => exact ⟨int_eq hF.1.symm, int_eq hF.2.symm, rfl⟩
      · have h1' : (E == 0) = false := by simp [h1]
        have hF : F1 = E ∧ P1 = 0 := by
          have e1 : bestE s ls = E := by unfold bestE; rw [HE.out, if_neg h1]
          have e2 : bestP s ls = 0 := by unfold bestP; rw [e1, if_neg h1]
          exact ⟨by rw [← HF1.out.1]; exact e1, by rw [← HF1.out.2]; exact e2⟩
        go_wp2_with fail
        go_meet
        case rel => exact ⟨int_eq hF.1.symm, int_eq hF.2.symm, rfl⟩
  case rest =>
  obtain ⟨rfl, rfl, hw⟩ := hcut
  subst hw
  go_wp2_with fail
  refine (best_any s _ ls _ (HS.out.below HQ3.out.far)).mono ?_
  rintro e w4 ⟨rfl, hb⟩
  have HQ4 : Hid (QI B w r1 r2 r3 r4 r5 w4) := HQ3.out.on hb
  clear hb HQ3
  rw [HF1.out.1, HF1.out.2]
  go_wp2_with fail
  refine (err_same B w r1 r2 r3 r4 r5 F1 _ HQ4.out).mono ?_
  rintro e w5 ⟨rfl, hb⟩
  have HQ5 : Hid (QI B w r1 r2 r3 r4 r5 w5) := HQ4.out.on hb
  clear hb HQ4 HF1
  -- the depth
  obtain ⟨D, hD⟩ : ∃ D, depthE s ls n = D := ⟨_, rfl⟩
  have HD : Hid (depthE s ls n = D) := hD
  clear hD
  go_upto_region 12 with fail
  go_cut [79] from 74 to 79 (fun s79 wx => s79 = .bool (decide (E = 0 ∧ n < 0)) ∧ wx = w5)
  case first => as_aux_lemma =>
    by_cases h0 : E = 0
    · subst h0
      go_wp2_with fail
      go_meet
      case rel => exact ⟨bool_eq (by simp), rfl⟩
    · have h0' : (E == 0) = false := by simp [h0]
      go_wp2_with fail
      go_meet
      case rel => exact ⟨bool_eq (by simp [h0]), rfl⟩
  case rest =>
  obtain ⟨rfl, hw⟩ := hcut
  subst hw
  go_upto_if 79 with fail
  go_cut [15] from 79 to 79 (fun s15 wx => s15 = .int .i64 D ∧ wx = wc)
  case first => as_aux_lemma =>
    by_cases h0 : E = 0 ∧ n < 0
    · have h0' : decide (E = 0 ∧ n < 0) = true := by simpa using h0
      have hF : D = 1 := by rw [← HD.out]; unfold depthE; rw [HE.out, if_pos h0.1, if_pos h0.2]
      rw [h0']
      clear h0 h0'
      go_wp2_with fail
      go_meet
      case rel => exact ⟨int_eq hF.symm, rfl⟩
    · have h0' : decide (E = 0 ∧ n < 0) = false := by simpa using h0
      have hF : D = E := by
        rw [← HD.out]
        unfold depthE
        by_cases h1 : E = 0
        · rw [HE.out, if_pos h1, if_neg (fun h => h0 ⟨h1, h⟩), h1]
        · rw [HE.out, if_neg h1]
      rw [h0']
      clear h0 h0'
      go_wp2_with fail
      go_meet
      case rel => exact ⟨int_eq hF.symm, rfl⟩
  case rest =>
  obtain ⟨rfl, hw⟩ := hcut
  subst hw
  have HQ6 : Hid (QI B w r1 r2 r3 r4 r5 wc) := HQ5.out
  clear HQ5
  go_upto_block 0 with fail
  go_cut [20, 21, 22, 23] from 80 to 125 (fun s20 _ _ _ wx => Aside (OwnD wx wc.heap.size s20 (depthR s ls n) ∧ Below wc.heap.size wc wx))
  case first =>
    by_cases h0 : D = 0
    rotate_left
    · have h0' : (D == 0) = false := by simp [h0]
      have HR : Hid (depthR s ls n = []) := by
        show _ = _
        unfold depthR
        rw [HD.out, if_neg h0]
      go_wp2_with fail
      go_loopg [20, 21, 22, 23] 0 (fun gg s20 s21 _ _ wr => s20 = .slice none 0 0 ∧ s21 = .int .i64 0 ∧ wr = wc)
      case atStart => exact ⟨rfl, rfl, rfl⟩
      case round =>
        obtain ⟨rfl, rfl, rfl⟩ := hrel
        go_wp2_with fail
        all_goals (go_meet <;> exact ⟨by rw [HR.out]; exact ownD_nil _ _, Below.refl _ _⟩)
    · have hEn : E = 0 ∧ ¬ n < 0 := by
        have h := HD.out
        unfold depthE at h
        rw [HE.out] at h
        by_cases h1 : E = 0
        · rw [if_pos h1] at h
          by_cases h2 : n < 0
          · rw [if_pos h2] at h; omega
          · exact ⟨h1, h2⟩
        · rw [if_neg h1] at h; omega
      have HR : Hid (depthR s ls n = tells (ls.take n.toNat)) := by
        show _ = _
        unfold depthR
        rw [HD.out, if_pos h0]
      have hz := schk_zero (HE.out.trans hEn.1)
      have HLE : Hid (∀ l ∈ ls, lchk l = 0) := sgo_each hz.2.1
      have hN60 : N ≤ 60 := by have := len_cnt HLE.out; have := hz.2.2.1; have := HZ.out; omega
      have hn0 : 0 ≤ n := by omega
      clear hz hEn
      obtain ⟨i0, hi0, hz0, hz1, hz2⟩ := infoD'
      have HI : Hid (Tryd.prog.info? 36 = some i0) := hi0
      clear hi0
      subst h0
      go_wp2_with fail
      go_loopg [20, 21, 22, 23] N (fun gg s20 s21 _ _ wr => ∃ kk : Nat, kk ≤ N ∧ (kk : Int) ≤ n ∧ N - kk ≤ gg ∧ s21 = .int .i64 kk ∧ Aside (OwnD wr wc.heap.size s20 (tells (ls.take kk)) ∧ Below wc.heap.size wc wr))
      case atStart => exact ⟨0, Nat.zero_le _, by omega, by omega, rfl, ownD_nil _ _, Below.refl _ _⟩
      case round =>
        obtain ⟨kk, hkk, hkn, hg, rfl, hOB⟩ := hrel
        have HO : Hid (OwnD wr wc.heap.size u20 (tells (ls.take kk))) := hOB.out.1
        have HB : Hid (Below wc.heap.size wc wr) := hOB.out.2
        clear hOB
        by_cases hlt : kk < N
        · have hltz : (kk : Int) < (N : Int) := by omega
          by_cases hln : (kk : Int) < n
          · have hlz : kk < ls.length := by rw [← HZ.out]; exact hlt
            have HW : Hid (Below w.heap.size w wr) := HQ6.out.far.trans (HB.out.mono HQ6.out.far.size)
            obtain ⟨b, o, hvq, hb, hLL⟩ := ls_some (HS.out.below HW.out) hlz
            subst hvq
            obtain ⟨r, hr⟩ : ∃ r, ls[kk]! = r := ⟨_, rfl⟩
            obtain ⟨pp, zs⟩ := r
            obtain ⟨rq, rc, c0, c1, hsl⟩ := hLL.at hlz hr
            have hlk := HLE.out ls[kk]! (by rw [getE _ _ hlz]; exact List.getElem_mem hlz)
            rw [hr] at hlk
            have hqz := (lchk_zero hlk).2.2
            have hne := (lchk_zero hlk).2.1
            obtain ⟨h60, hgd⟩ := (qchk_zero zs).1 hqz
            have HGD : Hid (∀ r ∈ zs, rchk r = 0) := hgd.1
            have HTK : Hid (tells (ls.take (kk + 1)) = tells (ls.take kk) ++ [(pp, shw zs)]) := by
              have := tells_take ls kk hlz
              rw [hr] at this
              exact this
            have HSL : Hid (SL wr (.slice rq zs.length rc) zs) := hsl.sl hne
            have hle : (tells (ls.take kk)).length ≤ 60 := by unfold tells; rw [List.length_map, List.length_take]; omega
            have hin1 : ¬ ((kk : Int) < 0) := by omega
            have hw1 : wrap64 ((kk : Int) + 1) = ((kk + 1 : Nat) : Int) := by unfold wrap64; omega
            clear hLL hr hsl hlk hqz hne hgd
            generalize hm : zs.length = m at *
            have HM : Hid (zs.length = m) := hm
            clear hm
            have HW1 : Hid (wrap64 ((kk : Int) + 1) = ((kk + 1 : Nat) : Int)) := hw1
            obtain ⟨GK, hGK⟩ : ∃ GK : Nat, gk = GK := ⟨_, rfl⟩
            have HGK : Hid (gk = GK ∧ N - kk ≤ GK) := ⟨hGK, by rw [← hGK]; exact hg⟩
            clear hGK hw1 hg
            go_wp2_with fail
            go_loopg [22, 23] m (fun gg s22 s23 wy => ∃ jj : Nat, jj ≤ m ∧ m - jj ≤ gg ∧ s23 = .int .i64 jj ∧ s22 = .int .i64 (shw (zs.take jj)) ∧ wy = wr)
            case atStart => exact ⟨0, Nat.zero_le _, by omega, rfl, rfl, rfl⟩
            case round =>
              obtain ⟨jj, hjj, hg2, rfl, rfl, rfl⟩ := hrel
              by_cases hjm : jj < m
              · have hjmz : (jj : Int) < (m : Int) := by omega
                have hjz : jj < zs.length := by rw [HM.out]; exact hjm
                obtain ⟨rb, ro, hrq, -, hrb, hLi⟩ := sl_some (.inl (by have h := HSL.out; rw [← HM.out] at h; exact h)) hjz
                subst hrq
                obtain ⟨x, hx⟩ : ∃ x, zs[jj]! = x := ⟨_, rfl⟩
                obtain ⟨x1, x2, x3, x4, x5⟩ := x
                obtain ⟨-, -, e2, -, -⟩ := lies_at hLi hjz hx
                have hst : shw (zs.take (jj + 1)) = shw (zs.take jj) + x3 := by have h := shw_take zs jj hjz; rw [hx] at h; exact h
                have hb1 := shw_le (zs.take jj) (fun r hr => HGD.out r (List.mem_of_mem_take hr))
                rw [List.length_take] at hb1
                have hx3 := rchk_zero (HGD.out zs[jj]! (by rw [getE _ _ hjz]; exact List.getElem_mem hjz))
                rw [hx] at hx3
                have hx3' : 1 ≤ x3 ∧ x3 ≤ 10000 := hx3.1
                have hj1 : ¬ ((jj : Int) < 0) := Int.not_lt.2 (Int.natCast_nonneg _)
                have ej : wrap64 ((jj : Int) + 1) = ((jj + 1 : Nat) : Int) := by clear hst hb1; unfold wrap64; omega
                have HEJ : Hid (wrap64 ((jj : Int) + 1) = ((jj + 1 : Nat) : Int)) := ej
                clear ej
                have es : wrap64 (shw (zs.take jj) + x3) = shw (zs.take (jj + 1)) := by rw [hst]; unfold wrap64; omega
                obtain ⟨Sn, hSn⟩ : ∃ Sn, shw (zs.take (jj + 1)) = Sn := ⟨_, rfl⟩
                have HSn : Hid (shw (zs.take (jj + 1)) = Sn) := hSn
                rw [hSn] at es
                clear hst hb1 hx3 hx3' hx hLi hSn
                generalize shw (zs.take jj) = Snow at *
                have ej := HEJ.out
                go_wp2_with fail
                go_roundg (m - (jj + 1))
                case measure => clear ej es; omega
                case rel => exact ⟨jj + 1, hjm, Nat.le_refl _, by go_num, by rw [HSn.out], rfl⟩
              · have hjmz : ¬ (jj : Int) < (m : Int) := by omega
                have hsw : shw (zs.take jj) = shw zs := by rw [List.take_of_length_le (by rw [HM.out]; omega)]
                rw [hsw]
                clear hsw
                have hw1 := HW1.out
                have HLT : Hid (∀ k, u20.ownBlock = some k → wc.heap.size ≤ k ∧ k < wr.heap.size) := OwnM.lt HO.out
                generalize shw zs = sw at *
                generalize tells (ls.take kk) = ds at *
                go_wp2_with (at_builtin; (refine wpList_append_mid _ rfl _ _ 35 rfl wc.heap.size 36 i0 (.agg #[.int .i64 0, .int .i64 0]) 2 16 Tryd.underlying35 HI.out hz0 hz1 hz2 rfl u20 ds.length (dflat ds) rfl (OwnM.below HO.out ((Below.refl _ _).alloc (Nat.le_refl _) _)) _ 1 1 [.int .i64 pp, .int .i64 sw] rfl rfl (World.news_of_block (cs := #[.int .i64 pp, .int .i64 sw]) (heap_alloc_new _ _)) (by simp [Value.oneCell']) ?c3 ?c4 ?c5 ?_))
                case c3 => clear hw1; unfold maxLen; omega
                case c4 => clear hw1; omega
                case c5 => exact Nat.le_trans HB.out.size (by simp)
                intro v' w' hO' hgr hat
                have H1 : Hid (OwnD w' wc.heap.size v' (tells (ls.take (kk + 1)))) := by
                  rw [HTK.out]
                  unfold OwnD
                  rw [dflat_snoc, List.length_append]
                  exact hO'
                have H2 : Hid (Below wc.heap.size wc w') := (HB.out.alloc HB.out.size _).grown hgr (HB.out.alloc HB.out.size _).size (fun k hk => (HLT.out k hk).1)
                clear hO' hgr hat
                go_wp2_with fail
                go_roundg (N - (kk + 1))
                case measure => have h := HGK.out; clear hw1; omega
                case rel => exact ⟨kk + 1, hlt, by clear hw1; omega, Nat.le_refl _, by go_num, H1.out, H2.out⟩
          · have e : n.toNat = kk := by omega
            have HF : Hid (OwnD wr wc.heap.size u20 (depthR s ls n)) := by rw [HR.out, e]; exact HO.out
            go_wp2_with fail
            go_meet
            case rel => exact ⟨HF.out, HB.out⟩
        · have hltz : ¬ (kk : Int) < (N : Int) := by omega
          have HF : Hid (OwnD wr wc.heap.size u20 (depthR s ls n)) := by
            have h := HO.out
            rw [HR.out]
            rw [List.take_of_length_le (by rw [← HZ.out]; omega)] at h
            rw [List.take_of_length_le (by rw [← HZ.out]; omega)]
            exact h
          go_wp2_with fail
          go_meet
          case rel => exact ⟨HF.out, HB.out⟩
  case rest =>
  have HQ7 : Hid (QI B w r1 r2 r3 r4 r5 wc) := HQ6.out.on hcut.out.2
  have hO := hcut.out.1
  obtain ⟨dq, dc, hd⟩ := OwnD.form' hO
  subst hd
  have HOD : Hid (∃ base, OwnD wc base (.slice dq (depthR s ls n).length dc) (depthR s ls n)) := ⟨_, hO⟩
  clear hO hcut HQ6
  go_wp2_with fail
  refine (depth_any s _ ls n _ (HS.out.below HQ7.out.far)).mono ?_
  rintro e w7 ⟨u, rfl, oD, hb⟩
  obtain ⟨eq', ec, hd⟩ := OwnD.form' oD
  subst hd
  have HOE : Hid (∃ base, OwnD w7 base (.slice eq' (depthR s ls n).length ec) (depthR s ls n)) := ⟨_, oD⟩
  have HOD7 : Hid (∃ base, OwnD w7 base (.slice dq (depthR s ls n).length dc) (depthR s ls n)) := by obtain ⟨base, h⟩ := HOD.out; exact ⟨base, OwnM.below h hb⟩
  have HQ8 : Hid (QI B w r1 r2 r3 r4 r5 w7) := HQ7.out.on hb
  clear oD hb HQ7 HOD
  rw [HD.out]
  go_wp2_with fail
  refine (err_same B w r1 r2 r3 r4 r5 D _ HQ8.out).mono ?_
  rintro e w8 ⟨rfl, hb⟩
  have HQ9 : Hid (QI B w r1 r2 r3 r4 r5 w8) := HQ8.out.on hb
  have HOE8 : Hid (∃ base, OwnD w8 base (.slice eq' (depthR s ls n).length ec) (depthR s ls n)) := by obtain ⟨base, h⟩ := HOE.out; exact ⟨base, OwnM.below h hb⟩
  have HOD8 : Hid (∃ base, OwnD w8 base (.slice dq (depthR s ls n).length dc) (depthR s ls n)) := by obtain ⟨base, h⟩ := HOD7.out; exact ⟨base, OwnM.below h hb⟩
  have hdl : (depthR s ls n).length ≤ 10000 := by
    unfold depthR
    by_cases h0 : depthE s ls n = 0
    · rw [if_pos h0]
      unfold tells
      rw [List.length_map, List.length_take]
      by_cases h1 : schk s ls = 0
      · have hz := schk_zero h1
        have := len_cnt (sgo_each hz.2.1)
        omega
      · unfold depthE at h0; rw [if_neg h1] at h0; exact absurd h0 h1
    · rw [if_neg h0]; simp
  clear hb HQ8 HOE HOD7 HD
  generalize depthR s ls n = ds at *
  generalize hdn : ds.length = dn at *
  have HDN : Hid (ds.length = dn) := hdn
  clear hdn
  go_wp2_with fail
  go_loopg [26] dn (fun gg s26 wr => ∃ kk qd : Nat, kk ≤ dn ∧ dn - kk ≤ gg ∧ s26 = .int .i64 kk ∧ wr = w8.drewN qd)
  case atStart => exact ⟨0, 0, Nat.zero_le _, by omega, rfl, rfl⟩
  case round =>
  obtain ⟨kk, qd, hkk, hg, rfl, rfl⟩ := hrel
  by_cases hlt : kk < dn
  · have hltz : (kk : Int) < (dn : Int) := by omega
    have hlz : kk < ds.length := by rw [HDN.out]; exact hlt
    obtain ⟨base1, hd1⟩ := HOD8.out
    obtain ⟨base2, hd2⟩ := HOE8.out
    obtain ⟨g1, o1, e1, -, a0, a1⟩ := hd1.at hlz
    obtain ⟨g2, o2, e2, -, b0, b1⟩ := hd2.at hlz
    subst e1
    subst e2
    have hin1 : ¬ ((kk : Int) < 0) := Int.not_lt.2 (Int.natCast_nonneg _)
    have ek : wrap64 ((kk : Int) + 1) = ((kk + 1 : Nat) : Int) := by unfold wrap64; omega
    clear hd1 hd2
    generalize ds[kk]!.1 = z1 at *
    generalize ds[kk]!.2 = z2 at *
    have heq := eq_pair z1 z2
    have hgp := guardP
    go_wp2_with fail
    go_quiet (fail)
    go_wp2_with fail
    go_roundg (dn - (kk + 1))
    case measure => clear ek; omega
    case rel => exact ⟨kk + 1, _, hlt, Nat.le_refl _, by go_num, (by first | rfl | (rw [← World.drewN_add]))⟩
  have hltz : ¬ (kk : Int) < (dn : Int) := by omega
  have HQa : Hid (QI B w r1 r2 r3 r4 r5 (w8.drewN qd)) := HQ9.out.on (below_drewN' w8 qd)
  generalize w8.drewN qd = wa at *
  clear HQ9 HOD8 HOE8 HDN hdl hg hkk hlt
  -- with one more
  obtain ⟨A, hA⟩ : ∃ A, addE s ls p ⟨r1, r2, r3, r4, r5⟩ = A := ⟨_, rfl⟩
  have HA : Hid (addE s ls p ⟨r1, r2, r3, r4, r5⟩ = A) := hA
  clear hA
  go_upto_if 158 with fail
  go_cut [15, 27] from 158 to 166 (fun s15 s27 wx => s15 = .int .i64 A ∧ Aside (LS wx s27 (addL s ls p ⟨r1, r2, r3, r4, r5⟩) ∧ QI B w r1 r2 r3 r4 r5 wx))
  case first => as_aux_lemma =>
    by_cases h0 : E = 0
    · subst h0
      obtain ⟨d0, d1, d2, d3, d4, -⟩ := rowFive HQa.out.box
      go_wp2_with fail
      refine (radd_good s p r1 r2 r3 r4 r5 _ _ _ ls _ (HS.out.below HQa.out.far) HE.out).mono ?_
      rintro e wb ⟨v', rfl, l', hb⟩
      have HQb : Hid (QI B w r1 r2 r3 r4 r5 wb) := HQa.out.on hb
      have HL : Hid (LS wb v' (addL s ls p ⟨r1, r2, r3, r4, r5⟩)) := l'
      rw [HA.out]
      clear hb l' d0 d1 d2 d3 d4
      go_wp2_with fail
      go_meet
      case rel => exact ⟨rfl, HL.out, HQb.out⟩
    · have h0' : (E == 0) = false := by simp [h0]
      have hAE : A = E := by rw [← HA.out]; unfold addE; rw [HE.out, if_neg h0]
      go_wp2_with fail
      go_meet
      case rel => exact ⟨int_eq hAE.symm, by rw [addL_bad (HA.out.trans hAE) h0]; exact ls_nil _, HQa.out⟩
  case rest =>
  obtain ⟨rfl, hLQ⟩ := hcut
  have HL : Hid (LS wc u27 (addL s ls p ⟨r1, r2, r3, r4, r5⟩)) := hLQ.out.1
  have HQb : Hid (QI B w r1 r2 r3 r4 r5 wc) := hLQ.out.2
  clear hLQ HQa
  obtain ⟨d0, d1, d2, d3, d4, -⟩ := rowFive HQb.out.box
  go_wp2_with fail
  refine (add_any s _ ls p r1 r2 r3 r4 r5 _ (HS.out.below HQb.out.far)).mono ?_
  rintro e wd ⟨hb, v', rfl, l'⟩
  have HL2 : Hid (LS wd u27 (addL s ls p ⟨r1, r2, r3, r4, r5⟩) ∧ LS wd v' (addL s ls p ⟨r1, r2, r3, r4, r5⟩)) := ⟨HL.out.below hb, l'.ls⟩
  have HQc : Hid (QI B w r1 r2 r3 r4 r5 wd) := HQb.out.on hb
  rw [HA.out]
  clear hb l' d0 d1 d2 d3 d4 HL HQb
  go_wp2_with fail
  refine (err_same B w r1 r2 r3 r4 r5 A _ HQc.out).mono ?_
  rintro e we ⟨rfl, hb⟩
  have HQd : Hid (QI B w r1 r2 r3 r4 r5 we) := HQc.out.on hb
  have HL3 : Hid (LS we u27 (addL s ls p ⟨r1, r2, r3, r4, r5⟩) ∧ LS we v' (addL s ls p ⟨r1, r2, r3, r4, r5⟩)) := ⟨HL2.out.1.below hb, HL2.out.2.below hb⟩
  clear hb HL2 HQc
  go_wp2_with fail
  refine (levels_same v' u27 _ _ HL3.out.2 HL3.out.1).mono ?_
  rintro e wf ⟨rfl, hb⟩
  have HQe : Hid (QI B w r1 r2 r3 r4 r5 wf) := HQd.out.on hb
  clear hb HL3 HQd HA
  go_wp2_with fail
  refine (rat_any _ ls id _ (HS.out.below HQe.out.far)).mono ?_
  rintro e wg ⟨rfl, qk, rfl⟩
  have HQf : Hid (QI B w r1 r2 r3 r4 r5 (wf.drewN qk)) := HQe.out.on (below_drewN' wf qk)
  generalize wf.drewN qk = wg at *
  clear HQe
  obtain ⟨AT, hAT⟩ : ∃ AT, atGo id 0 ls = AT := ⟨_, rfl⟩
  obtain ⟨A1, A2⟩ := AT
  have HAT : Hid (atGo id 0 ls = (A1, A2)) := hAT
  rw [hAT]
  clear hAT
  simp only []
  have HX0 : Hid (QI B w r1 r2 r3 r4 r5 (wg.alloc (.cells #[.int .i64 0, .int .i64 0, .int .i64 0, .int .i64 0, .int .i64 0] 24))) := HQf.out.on ((Below.refl _ _).alloc (Nat.le_refl _) _)
  have HXR : Hid (Row5 (wg.alloc (.cells #[.int .i64 0, .int .i64 0, .int .i64 0, .int .i64 0, .int .i64 0] 24)) wg.heap.size ⟨0, 0, 0, 0, 0⟩) := heap_alloc_new wg _
  have HXW : Hid (w.heap.size < wg.heap.size) := HQf.out.lt
  go_upto_region 44 with fail
  generalize wg.alloc (.cells #[.int .i64 0, .int .i64 0, .int .i64 0, .int .i64 0, .int .i64 0] 24) = wh at *
  generalize wg.heap.size = X at *
  clear HQf
  go_cut [192] from 187 to 192 (fun s192 wx => s192 = .bool (decide (E = 0 ∧ A1 < 0)) ∧ wx = wh)
  case first => as_aux_lemma =>
    by_cases h0 : E = 0
    · subst h0
      go_wp2_with fail
      go_meet
      case rel => exact ⟨bool_eq (by simp), rfl⟩
    · have h0' : (E == 0) = false := by simp [h0]
      go_wp2_with fail
      go_meet
      case rel => exact ⟨bool_eq (by simp [h0]), rfl⟩
  case rest =>
  obtain ⟨rfl, hw⟩ := hcut
  subst hw
  obtain ⟨FE, hFE⟩ : ∃ FE, findE s ls id = FE := ⟨_, rfl⟩
  obtain ⟨DP, hDP⟩ : ∃ DP, dropPrice s ls id = DP := ⟨_, rfl⟩
  have HFE : Hid (findE s ls id = FE ∧ dropPrice s ls id = DP) := ⟨hFE, hDP⟩
  clear hFE hDP
  go_upto_if 192 with fail
  go_cut [13, 27, 34] from 192 to 211 (fun s13 s27 s34 wx => s13 = .int .i64 FE ∧ s34 = .int .i64 DP ∧ Aside (LS wx s27 (dropE s ls id) ∧ Row5 wx X (dropRest s ls id) ∧ QI B w r1 r2 r3 r4 r5 wx))
  case first =>
    by_cases h0 : E = 0
    · have H0 : Hid (schk s ls = 0) := HE.out.trans h0
      rcases at_find (id := id) H0.out with ⟨f1, f2, f3⟩ | ⟨f1, f2⟩
      · have hA1 : ¬ A1 < 0 := by have h := f3; rw [HAT.out] at h; simp only [] at h; omega
        have h2 : decide (E = 0 ∧ A1 < 0) = false := by simp [hA1]
        rw [h2]
        obtain ⟨-, i, k, hi, hk, hie, hip⟩ := find_spot f1
        have hAk : A1 = (i : Int) ∧ A2 = (k : Int) := by have h := f2; rw [HAT.out, hip] at h; injection h with a b; exact ⟨a, b⟩
        obtain ⟨rfl, rfl⟩ := hAk
        obtain ⟨x, hx⟩ : ∃ x, dropRest s ls id = x := ⟨_, rfl⟩
        have hxr : ls[i].rests[k] = x := by
          rw [← hx]; unfold dropRest
          rw [if_pos f1, hip]
          simp only [Int.toNat_natCast]
          rw [getE _ _ hi, getE _ _ hk]
        have hpr : ls[i].price = DP := by
          rw [← HFE.out.2]; unfold dropPrice
          rw [if_pos f1, hip]
          simp only [Int.toNat_natCast]
          rw [getE _ _ hi]
        have HDE : Hid (dropE s ls id = dropL ls i k ∧ FE = 0) := ⟨by
          unfold dropE
          rw [if_pos f1, hip]
          simp only [Int.toNat_natCast], by rw [← HFE.out.1]; exact f1⟩
        obtain ⟨b, o, hvq, hb, hLL⟩ := ls_some (HS.out.below HX0.out.far) hi
        subst hvq
        obtain ⟨pp, zs, hli⟩ : ∃ pp zs, ls[i]! = ⟨pp, zs⟩ := ⟨_, _, rfl⟩
        rw [getE _ _ hi] at hli
        have hlz : ls[i]! = ⟨pp, zs⟩ := by rw [getE _ _ hi]; exact hli
        obtain ⟨rq, rc, c0, c1, hsl⟩ := hLL.at hi hlz
        have hkz : k < zs.length := by rw [hli] at hk; exact hk
        obtain ⟨rb, ro, hrq, -, hrb, hLi⟩ := sl_some hsl hkz
        subst hrq
        obtain ⟨x1, x2, x3, x4, x5⟩ := x
        have hzx : zs[k]! = ⟨x1, x2, x3, x4, x5⟩ := by
          rw [getE _ _ hkz]
          simp only [hli] at hxr
          exact hxr
        obtain ⟨z0, z1, z2, z3, z4⟩ := lies_at hLi hkz hzx
        have hpp : pp = DP := by simp only [hli] at hpr; exact hpr
        subst hpp
        have HOUT : Hid (Calls Tryd.prog 13 #[.slice (some ⟨b, o, none⟩) N vc, .int .i64 i, .int .i64 k] wc fun x w' => ∃ v', x = .returned v' ∧ LS w' v' (dropL ls i k) ∧ Below wc.heap.size wc w') := rout_good s _ ls i k wc (HS.out.below HX0.out.far) H0.out hi hk
        have HDR : Hid (dropRest s ls id = ⟨x1, x2, x3, x4, x5⟩) := hx
        have i0 : ¬ ((i : Int) < 0) := by omega
        have i1 : (i : Int) < (N : Int) := by rw [HZ.out]; omega
        have k0 : ¬ ((k : Int) < 0) := by omega
        have k1 : (k : Int) < (zs.length : Int) := by omega
        clear hxr hpr f1 f2 f3 hip hie hli hlz hsl hLi hzx hx hA1 h2
        subst h0
        go_upto_region 48 with (go_at_call 13; refine HOUT.out.mono ?_; rintro e wi ⟨v', rfl, l', hb2⟩)
        have HL : Hid (LS wi v' (dropL ls i k)) := l'
        have HQi : Hid (QI B w r1 r2 r3 r4 r5 wi) := HX0.out.on hb2
        have HXi : Hid (Row5 wi X ⟨0, 0, 0, 0, 0⟩) := HXR.out.on hb2
        have a0 := keeps hb2 c0
        have a1 := keeps hb2 c1
        have y0 := keeps hb2 z0
        have y1 := keeps hb2 z1
        have y2 := keeps hb2 z2
        have y3 := keeps hb2 z3
        have y4 := keeps hb2 z4
        clear l' hb2 c0 c1 z0 z1 z2 z3 z4
        obtain ⟨e0, e1, e2, e3, e4, hfr⟩ := rowFive HXi.out
        have f0 := hfr 0
        have f1 := hfr 1
        have f2 := hfr 2
        have f3 := hfr 3
        have f4 := hfr 4
        clear hfr
        have HX5 := setFive HXi.out (.int .i64 x1) (.int .i64 x2) (.int .i64 x3) (.int .i64 x4) (.int .i64 x5)
        have hgr := grFive wi X (.int .i64 x1) (.int .i64 x2) (.int .i64 x3) (.int .i64 x4) (.int .i64 x5)
        have HFIN : Hid (LS (((((wi.setCell ⟨X, 0, none⟩ (.int .i64 x1)).setCell ⟨X, 1, none⟩ (.int .i64 x2)).setCell ⟨X, 2, none⟩ (.int .i64 x3)).setCell ⟨X, 3, none⟩ (.int .i64 x4)).setCell ⟨X, 4, none⟩ (.int .i64 x5)) v' (dropE s ls id) ∧ Row5 (((((wi.setCell ⟨X, 0, none⟩ (.int .i64 x1)).setCell ⟨X, 1, none⟩ (.int .i64 x2)).setCell ⟨X, 2, none⟩ (.int .i64 x3)).setCell ⟨X, 3, none⟩ (.int .i64 x4)).setCell ⟨X, 4, none⟩ (.int .i64 x5)) X (dropRest s ls id) ∧ QI B w r1 r2 r3 r4 r5 (((((wi.setCell ⟨X, 0, none⟩ (.int .i64 x1)).setCell ⟨X, 1, none⟩ (.int .i64 x2)).setCell ⟨X, 2, none⟩ (.int .i64 x3)).setCell ⟨X, 3, none⟩ (.int .i64 x4)).setCell ⟨X, 4, none⟩ (.int .i64 x5))) :=
          ⟨by rw [HDE.out.1]; exact ls_keep HL.out HXi.out hgr (drop_ids H0.out i k), by rw [HDR.out]; exact HX5, HQi.out.set hgr HXW.out HQB.out⟩
        have hbX : some X ≠ some b := fun e => by
          cases e
          have h0 := zero_cell HXi.out a1
          cases h0
        have a0' := gr_cellS hgr a0 hbX
        go_upto_region 49 with fail
        generalize (((((wi.setCell ⟨X, 0, none⟩ (.int .i64 x1)).setCell ⟨X, 1, none⟩ (.int .i64 x2)).setCell ⟨X, 2, none⟩ (.int .i64 x3)).setCell ⟨X, 3, none⟩ (.int .i64 x4)).setCell ⟨X, 4, none⟩ (.int .i64 x5)) = WX at *
        clear HX5 hgr a0 a1 y0 y1 y2 y3 y4 e0 e1 e2 e3 e4 f0 f1 f2 f3 f4 hbX
        go_wp2_with fail
        go_meet
        case rel => exact ⟨int_eq HDE.out.2.symm, rfl, HFIN.out⟩
      · have hA1 : A1 < 0 := by have h := f2; rw [HAT.out] at h; exact h
        have h2 : decide (E = 0 ∧ A1 < 0) = true := by simp [h0, hA1]
        have HF5 : Hid (FE = 5 ∧ DP = 0 ∧ dropE s ls id = [] ∧ dropRest s ls id = ⟨0, 0, 0, 0, 0⟩) := by
          refine ⟨by rw [← HFE.out.1]; exact f1, ?_, ?_, ?_⟩
          · rw [← HFE.out.2]; unfold dropPrice; rw [f1, if_neg (by decide)]
          · unfold dropE; rw [f1, if_neg (by decide)]
          · unfold dropRest; rw [f1, if_neg (by decide)]
        rw [h2]
        clear h2 f1 f2
        go_wp2_with fail
        go_meet
        case rel => exact ⟨int_eq HF5.out.1.symm, int_eq HF5.out.2.1.symm, by rw [HF5.out.2.2.1]; exact ls_nil _, by rw [HF5.out.2.2.2]; exact HXR.out, HX0.out⟩
    · have h2 : decide (E = 0 ∧ A1 < 0) = false := by simp [h0]
      have h0' : (E == 0) = false := by simp [h0]
      have HF5 : Hid (FE = E ∧ DP = 0 ∧ dropE s ls id = [] ∧ dropRest s ls id = ⟨0, 0, 0, 0, 0⟩) := by
        have f1 : findE s ls id = E := by unfold findE; rw [HE.out, if_neg h0]
        refine ⟨by rw [← HFE.out.1]; exact f1, ?_, ?_, ?_⟩
        · rw [← HFE.out.2]; unfold dropPrice; rw [f1, if_neg h0]
        · unfold dropE; rw [f1, if_neg h0]
        · unfold dropRest; rw [f1, if_neg h0]
      rw [h2]
      clear h2
      go_wp2_with fail
      go_meet
      case rel => exact ⟨int_eq HF5.out.1.symm, int_eq HF5.out.2.1.symm, by rw [HF5.out.2.2.1]; exact ls_nil _, by rw [HF5.out.2.2.2]; exact HXR.out, HX0.out⟩
  case rest =>
  obtain ⟨rfl, rfl, hcut⟩ := hcut
  have HL : Hid (LS wc u27 (dropE s ls id)) := hcut.out.1
  have HXi : Hid (Row5 wc X (dropRest s ls id)) := hcut.out.2.1
  have HQi : Hid (QI B w r1 r2 r3 r4 r5 wc) := hcut.out.2.2
  clear hcut HX0 HXR
  obtain ⟨dr, hdr⟩ : ∃ dr, dropRest s ls id = dr := ⟨_, rfl⟩
  obtain ⟨x1, x2, x3, x4, x5⟩ := dr
  have HDR : Hid (dropRest s ls id = ⟨x1, x2, x3, x4, x5⟩) := hdr
  clear hdr
  go_wp2_with fail
  refine (drop_any s _ ls id _ (HS.out.below HQi.out.far) HID.out.1).mono ?_
  rintro e wj ⟨hb, v', rfl, l'⟩
  have HL2 : Hid (LS wj u27 (dropE s ls id) ∧ LS wj v' (dropE s ls id)) := ⟨HL.out.below hb, l'.ls⟩
  have HQj : Hid (QI B w r1 r2 r3 r4 r5 wj) := HQi.out.on hb
  have HXj : Hid (Row5 wj X ⟨x1, x2, x3, x4, x5⟩) := by have h := HXi.out.on hb; rw [HDR.out] at h; exact h
  rw [HDR.out, HFE.out.1, HFE.out.2]
  rw [show (Value.agg (rV (⟨x1, x2, x3, x4, x5⟩ : R)).toArray) = .agg #[.int .i64 x1, .int .i64 x2, .int .i64 x3, .int .i64 x4, .int .i64 x5] from rfl]
  clear hb l' HL HQi HXi
  have hBa : Below wj.heap.size wj (wj.alloc (.cells #[.int .i64 x1, .int .i64 x2, .int .i64 x3, .int .i64 x4, .int .i64 x5] 24)) := (Below.refl _ _).alloc (Nat.le_refl _) _
  have HQk : Hid (QI B w r1 r2 r3 r4 r5 (wj.alloc (.cells #[.int .i64 x1, .int .i64 x2, .int .i64 x3, .int .i64 x4, .int .i64 x5] 24))) := HQj.out.on hBa
  have HRk : Hid (Row5 (wj.alloc (.cells #[.int .i64 x1, .int .i64 x2, .int .i64 x3, .int .i64 x4, .int .i64 x5] 24)) X ⟨x1, x2, x3, x4, x5⟩ ∧ Row5 (wj.alloc (.cells #[.int .i64 x1, .int .i64 x2, .int .i64 x3, .int .i64 x4, .int .i64 x5] 24)) wj.heap.size ⟨x1, x2, x3, x4, x5⟩) := ⟨HXj.out.on hBa, heap_alloc_new wj _⟩
  have HLk : Hid (LS (wj.alloc (.cells #[.int .i64 x1, .int .i64 x2, .int .i64 x3, .int .i64 x4, .int .i64 x5] 24)) u27 (dropE s ls id) ∧ LS (wj.alloc (.cells #[.int .i64 x1, .int .i64 x2, .int .i64 x3, .int .i64 x4, .int .i64 x5] 24)) v' (dropE s ls id)) := ⟨HL2.out.1.below hBa, HL2.out.2.below hBa⟩
  go_upto_region 51 with fail
  generalize wj.alloc (.cells #[.int .i64 x1, .int .i64 x2, .int .i64 x3, .int .i64 x4, .int .i64 x5] 24) = wk at *
  generalize wj.heap.size = Y at *
  clear hBa HL2 HXj HQj
  go_wp2_with fail
  refine (err_same B w r1 r2 r3 r4 r5 FE _ HQk.out).mono ?_
  rintro e wl ⟨rfl, hb⟩
  have HQl : Hid (QI B w r1 r2 r3 r4 r5 wl) := HQk.out.on hb
  have HRl : Hid (Row5 wl X ⟨x1, x2, x3, x4, x5⟩ ∧ Row5 wl Y ⟨x1, x2, x3, x4, x5⟩) := ⟨HRk.out.1.on hb, HRk.out.2.on hb⟩
  have HLl : Hid (LS wl u27 (dropE s ls id) ∧ LS wl v' (dropE s ls id)) := ⟨HLk.out.1.below hb, HLk.out.2.below hb⟩
  clear hb HQk HRk HLk
  go_wp2_with fail
  refine (levels_same v' u27 _ _ HLl.out.2 HLl.out.1).mono ?_
  rintro e wm ⟨rfl, hb⟩
  have HQm : Hid (QI B w r1 r2 r3 r4 r5 wm) := HQl.out.on hb
  have HRm : Hid (Row5 wm X ⟨x1, x2, x3, x4, x5⟩ ∧ Row5 wm Y ⟨x1, x2, x3, x4, x5⟩) := ⟨HRl.out.1.on hb, HRl.out.2.on hb⟩
  clear hb HQl HRl HLl
  obtain ⟨FP, hFP⟩ : ∃ FP, findP s ls id = FP := ⟨_, rfl⟩
  obtain ⟨P1', P2'⟩ := FP
  have HFP : Hid (findP s ls id = (P1', P2')) := hFP
  clear hFP
  have HAF : Hid (FE = 0 → A1 = P1' ∧ A2 = P2') := by
    intro h
    have hf : findE s ls id = 0 := by rw [HFE.out.1]; exact h
    have h0 : schk s ls = 0 := (find_zero hf).1
    rcases at_find (id := id) h0 with ⟨_, f2, _⟩ | ⟨f1, _⟩
    · rw [HAT.out, HFP.out] at f2
      injection f2 with a b
      exact ⟨a, b⟩
    · rw [hf] at f1; cases f1
  have HPF : Hid (¬ FE = 0 → P1' = 0 ∧ P2' = 0) := by
    intro h
    have hp := HFP.out
    unfold findP at hp
    rw [HFE.out.1, if_neg h] at hp
    injection hp with a b
    exact ⟨a.symm, b.symm⟩
  go_upto_if 228 with fail
  go_cut [31, 32] from 228 to 228 (fun s31 s32 wx => s31 = .int .i64 P1' ∧ s32 = .int .i64 P2' ∧ wx = wm)
  case first => as_aux_lemma =>
    by_cases h0 : FE = 0
    · have hh : Hid (A1 = P1' ∧ A2 = P2') := HAF.out h0
      subst h0
      go_wp2_with fail
      go_meet
      case rel => exact ⟨int_eq hh.out.1, int_eq hh.out.2, rfl⟩
    · have h0' : (FE != 0) = true := by simp [h0]
      have hh : Hid (P1' = 0 ∧ P2' = 0) := HPF.out h0
      go_wp2_with fail
      go_meet
      case rel => exact ⟨int_eq hh.out.1.symm, int_eq hh.out.2.symm, rfl⟩
  case rest =>
  obtain ⟨rfl, rfl, hw⟩ := hcut
  subst hw
  go_wp2_with fail
  refine (find_any s _ ls id _ (HS.out.below HQm.out.far) HID.out.1).mono ?_
  rintro e wn ⟨rfl, hb⟩
  have HQn : Hid (QI B w r1 r2 r3 r4 r5 wn) := HQm.out.on hb
  have HRn : Hid (Row5 wn X ⟨x1, x2, x3, x4, x5⟩ ∧ Row5 wn Y ⟨x1, x2, x3, x4, x5⟩) := ⟨HRm.out.1.on hb, HRm.out.2.on hb⟩
  rw [show findV s ls id = .tuple #[.int .i64 P1', .int .i64 P2', errV FE] from by unfold findV; rw [HFP.out, HFE.out.1]]
  clear hb HQm HRm
  go_wp2_with fail
  refine (err_same B w r1 r2 r3 r4 r5 FE _ HQn.out).mono ?_
  rintro e wo ⟨rfl, hb⟩
  have HQo : Hid (QI B w r1 r2 r3 r4 r5 wo) := HQn.out.on hb
  obtain ⟨c0, c1, c2, c3, c4, -⟩ := rowFive (HRn.out.1.on hb)
  obtain ⟨d0, d1, d2, d3, d4, -⟩ := rowFive (HRn.out.2.on hb)
  simp only [] at c0 c1 c2 c3 c4 d0 d1 d2 d3 d4
  clear hb HQn HRn
  go_wp2_with fail
  go_ret
  exact ⟨rfl, HQo.out.inv⟩
end Go.Proofs.YtifgikhdlilobaaDoor.sid
namespace Go.Proofs.YtifgikhdlilobaaDoor.sideTells
open Go.RowKit
theorem walk {w : World} (s : Int) (v : Value) (ls : List sid.L) (hS : sid.LS w v ls) (p r1 r2 r3 r4 r5 id : Int) (hid : (Lit.int .i64 id).wf = true) (n : Int) (hn : (Lit.int .i64 n).wf = true) (B : World) (hI : told.Inv B w) :
    Calls Tryd.prog 3 #[.int .i64 s, v, .int .i64 p, .agg #[.int .i64 r1, .int .i64 r2, .int .i64 r3, .int .i64 r4, .int .i64 r5], .int .i64 id, .int .i64 n] w fun e w' => e = .returned (.bool true) ∧ told.Inv B w' := by
  obtain ⟨q, m, c, rfl⟩ := sid.ls_form hS
  exact sid.stells_walk s q m c ls p r1 r2 r3 r4 r5 id n hid hn B w hI hS
end Go.Proofs.YtifgikhdlilobaaDoor.sideTells
