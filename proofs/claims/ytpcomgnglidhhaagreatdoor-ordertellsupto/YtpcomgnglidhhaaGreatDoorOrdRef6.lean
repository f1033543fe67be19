/- Contracts over this seat's translation: the document's Read at a text of five words or more. -/
import Derived.Test.YtpcomgnglidhhaaGreatDoorOrdRef5b
import Derived.Deep.RegionHeld3
namespace Go.Proofs.YtpcomgnglidhhaaGreatDoor.ord
open Go.RowKit

theorem cut_count (s : List UInt8) : (cut s).length ≤ s.length + 1 := by
  induction s with
  | nil => simp [cut]
  | cons c r ih =>
    by_cases hc : c = 32
    · subst hc; rw [cut_blank]; simp; omega
    · obtain ⟨x, t, h1, h2⟩ := cut_other hc r
      rw [h2]; rw [h1] at ih; simp at ih ⊢; omega
theorem vals_at (A B C E F : List UInt8) (pre : List (List UInt8)) (a : List UInt8) (r : List (List UInt8)) : (vals (A :: B :: C :: E :: F :: (pre ++ a :: r)))[5 + pre.length]? = some (.string ⟨a.toArray⟩) := by
  unfold vals
  rw [List.getElem?_map, show A :: B :: C :: E :: F :: (pre ++ a :: r) = (A :: B :: C :: E :: F :: pre) ++ a :: r from rfl, List.getElem?_append_right (by simp; omega)]
  have e : 5 + pre.length - (A :: B :: C :: E :: F :: pre).length = 0 := by simp; omega
  rw [e]; rfl
theorem vals_at1 (A B C E F : List UInt8) (pre : List (List UInt8)) (a b : List UInt8) (r : List (List UInt8)) : (vals (A :: B :: C :: E :: F :: (pre ++ a :: b :: r)))[5 + pre.length + 1]? = some (.string ⟨b.toArray⟩) := by
  have h := vals_at A B C E F (pre ++ [a]) b r
  rw [List.append_assoc, List.length_append] at h
  exact h
theorem balW {V W : World} (h : Below V.heap.size V W) (o : Obj) : Below V.heap.size V (W.alloc o) := h.alloc h.size o
theorem Hid.mk' {p : Prop} (h : p) : Hid p := h
theorem belowN {n : Nat} {w W : World} (h : Below n w W) (k : Nat) : Below n w (W.drewN k) := by
  induction k with
  | zero => exact h
  | succ k ih => rw [← World.drew_drewN]; exact ih.drew
theorem cut_len (s : List UInt8) : ∀ a ∈ cut s, a.length ≤ s.length := by
  induction s with
  | nil => intro a h; simp [cut] at h; subst h; simp
  | cons c r ih =>
    intro a h
    by_cases hc : c = 32
    · subst hc
      rw [cut_blank] at h
      rcases List.mem_cons.1 h with e | e
      · subst e; simp
      · have := ih a e; simp; omega
    · obtain ⟨x, t, h1, h2⟩ := cut_other hc r
      rw [h2] at h
      rcases List.mem_cons.1 h with e | e
      · subst e; have := ih x (by rw [h1]; simp); simp; omega
      · have := ih a (by rw [h1]; simp [e]); simp; omega
theorem rnum_list (A : List UInt8) (w : World) (hs : (⟨A.toArray⟩ : ByteArray).size ≤ maxLen) :
    Calls Tryz.prog 30 #[.string ⟨A.toArray⟩] w fun e w' => e = .returned (.tuple #[.int .i64 (num A : Nat), .bool (numOk A)]) ∧ w' = w := rnum_any ⟨A.toArray⟩ w hs
theorem rd_bad {t : List UInt8} (h : rdB (cut t) = false) : rdE t = 2 ∧ rdR t = zeroO := by
  have e : rdE t = 2 := by unfold rdE; rw [h]; rfl
  exact ⟨e, by unfold rdR; rw [e, if_neg (by omega)]⟩
theorem rdB_of (A B C E F : List UInt8) (tl : List (List UInt8)) : rdB (A :: B :: C :: E :: F :: tl) = (decide (num A ≠ 0) && decide (num B ≠ 0) && decide (sideN C ≠ 0) && decide (kindN E ≠ 0) && decide (num F ≠ 0) && decide ((tail3 tl).1 = 0 ↔ kindN E = 2) && (tail3 tl).2.2.2.isEmpty) := rfl
theorem OB.drewN {W : World} {b : Nat} {o : O} (h : OB W b o) (k : Nat) : OB (W.drewN k) b o where
  c0 := by simpa using h.c0
  c1 := by simpa using h.c1
  c2 := by simpa using h.c2
  c3 := by simpa using h.c3
  c4 := by simpa using h.c4
  c5 := by simpa using h.c5
  c6 := by simpa using h.c6
  c7 := by simpa using h.c7
  fr := fun j => by simpa using h.fr j

theorem OB.on {W W' : World} {b : Nat} {o : O} (h : OB W b o) (hb : Below W.heap.size W W') : OB W' b o where
  c0 := keeps hb h.c0
  c1 := keeps hb h.c1
  c2 := keeps hb h.c2
  c3 := keeps hb h.c3
  c4 := keeps hb h.c4
  c5 := keeps hb h.c5
  c6 := keeps hb h.c6
  c7 := keeps hb h.c7
  fr := fun j => (hb.frozen (p := ⟨b, j, none⟩) (show b < W.heap.size from World.block_lt_of_cell? W ⟨b, 0, none⟩ h.c0)).trans (h.fr j)
theorem rd_left (A B C E F : List UInt8) {tl : List (List UInt8)} (h : (tail3 tl).2.2.2.isEmpty = false) : rdB (A :: B :: C :: E :: F :: tl) = false := by
  rw [rdB_of, h]; simp
theorem rd_kind (A B C E F : List UInt8) {tl : List (List UInt8)} {p s3 t : Nat} {rest : List (List UInt8)} (h : tail3 tl = (p, s3, t, rest)) (hk : ¬ (p = 0 ↔ kindN E = 2)) : rdB (A :: B :: C :: E :: F :: tl) = false := by
  rw [rdB_of, h]; simp [hk]
theorem rd_no (A B C E F : List UInt8) {tl : List (List UInt8)} {p s3 t : Nat} {rest : List (List UInt8)} (h : tail3 tl = (p, s3, t, rest)) (hk : ¬ (rest = [] ∧ (p = 0 ↔ kindN E = 2))) : rdB (A :: B :: C :: E :: F :: tl) = false := by
  by_cases hr : rest = []
  · exact rd_kind A B C E F h (fun e => hk ⟨hr, e⟩)
  · exact rd_left A B C E F (by rw [h]; cases rest with | nil => exact absurd rfl hr | cons _ _ => rfl)
theorem rd_ok {u : List UInt8} {A B C E F : List UInt8} {tl : List (List UInt8)} {p s3 t : Nat} (hc : cut u = A :: B :: C :: E :: F :: tl) (hz : num A ≠ 0 ∧ num B ≠ 0 ∧ sideN C ≠ 0 ∧ kindN E ≠ 0 ∧ num F ≠ 0) (h : tail3 tl = (p, s3, t, [])) (hk : p = 0 ↔ kindN E = 2) :
    rdE u = chk ⟨num A, num B, sideN C, kindN E, p, num F, s3, t⟩ ∧ (rdE u = 0 → rdR u = ⟨num A, num B, sideN C, kindN E, p, num F, s3, t⟩) ∧ (rdE u ≠ 0 → rdR u = zeroO) := by
  have hb : rdB (cut u) = true := by rw [hc, rdB_of, h]; simp [hz.1, hz.2.1, hz.2.2.1, hz.2.2.2.1, hz.2.2.2.2, hk]
  have ho : rdO (cut u) = ⟨num A, num B, sideN C, kindN E, p, num F, s3, t⟩ := by
    rw [hc]
    show (⟨num A, num B, sideN C, kindN E, (tail3 tl).1, num F, (tail3 tl).2.1, (tail3 tl).2.2.1⟩ : O) = _
    rw [h]
  have he : rdE u = chk ⟨num A, num B, sideN C, kindN E, p, num F, s3, t⟩ := by unfold rdE; rw [if_pos hb, ho]
  refine ⟨he, fun e0 => ?_, fun e0 => ?_⟩
  · unfold rdR; rw [if_pos e0, ho]
  · unfold rdR; rw [if_neg e0]

set_option linter.unusedSimpArgs false in
set_option maxRecDepth 100000 in
set_option maxHeartbeats 4000000 in
theorem rread_long (s : ByteArray) (w : World) (hs : s.size ≤ 2000000) (A B C E F : List UInt8) (tl : List (List UInt8)) (h : cut s.data.toList = A :: B :: C :: E :: F :: tl) :
    Calls Tryz.prog 9 #[.string s] w fun e w' => e = .returned (.tuple #[oV (rdR s.data.toList), .int .i64 (rdE s.data.toList)]) ∧ Below w.heap.size w w' := by
  go_enter Tryz.func9, Tryz.ntmps9
  go_wp2_with fail
  refine (cut_any s _ hs).mono ?_
  rintro e w1 ⟨g, cap, k, rfl, hown, hb⟩
  rw [h] at hown
  obtain ⟨hg, hg2, hcap, hl⟩ := own_lt hown
  have hk : k = tl.length + 5 := by rw [← hl]; unfold vals; simp
  have hk5 : (5 : Int) ≤ (k : Int) := by omega
  have HKk : Hid (k = tl.length + 5 ∧ k ≤ 2000001) := ⟨hk, by have h2 := cut_count s.data.toList; rw [h, ← size_list] at h2; simp at h2; have h3 : (⟨s.data.toList.toArray⟩ : ByteArray).size = s.size := rfl; omega⟩
  clear hk
  have x2 := own_cell hown 2 (.string ⟨C.toArray⟩) rfl
  have x3 := own_cell hown 3 (.string ⟨E.toArray⟩) rfl
  have HB : Hid (Below w.heap.size w w1) := ((((Below.refl _ _).alloc (Nat.le_refl _) _).alloc (by simp) _).alloc (by simp; omega) _).trans (hb.mono (by simp; omega))
  have R0 := heap_alloc_new w (.cells #[.int .i64 0, .int .i64 0, .int .i64 0, .int .i64 0, .int .i64 0, .int .i64 0, .int .i64 0, .int .i64 0] 23)
  have R1 := fun ob => (Below.heap_alloc (w.alloc (.cells #[.int .i64 0, .int .i64 0, .int .i64 0, .int .i64 0, .int .i64 0, .int .i64 0, .int .i64 0, .int .i64 0] 23)) ob _ (heap_lt R0)).trans R0
  have R2 := fun oa ob => (Below.heap_alloc ((w.alloc (.cells #[.int .i64 0, .int .i64 0, .int .i64 0, .int .i64 0, .int .i64 0, .int .i64 0, .int .i64 0, .int .i64 0] 23)).alloc oa) ob _ (heap_lt (R1 oa))).trans (R1 oa)
  have HR : Hid (w1.heap[w.heap.size]? = some (.cells #[.int .i64 0, .int .i64 0, .int .i64 0, .int .i64 0, .int .i64 0, .int .i64 0, .int .i64 0, .int .i64 0] 23 (0, 0))) := (hb.block w.heap.size (heap_lt (R2 _ _))).trans (R2 _ _)
  clear R0 R1 R2
  have cS : Hid (∀ i : Nat, 1 ≤ i → i ≤ 2 → w1.cell? ⟨w.heap.size + 1, i, none⟩ = some (.string ⟨(sideW i).toArray⟩)) := by
    intro i h1 h2
    refine (hb.cell (p := ⟨w.heap.size + 1, i, none⟩) (by simp)).trans ?_
    rw [World.cell?_alloc_lt _ _ ⟨w.heap.size + 1, i, none⟩ (by simp), World.cell?_alloc_at _ _ _ _ (by simp)]
    have : i = 1 ∨ i = 2 := by omega
    rcases this with rfl | rfl <;> rfl
  have cK : Hid (∀ i : Nat, 1 ≤ i → i ≤ 5 → w1.cell? ⟨w.heap.size + 1 + 1, i, none⟩ = some (.string ⟨(kindW i).toArray⟩)) := by
    intro i h1 h2
    refine (hb.cell (p := ⟨w.heap.size + 1 + 1, i, none⟩) (by simp)).trans ?_
    rw [World.cell?_alloc_at _ _ _ _ (by simp)]
    have : i = 1 ∨ i = 2 ∨ i = 3 ∨ i = 4 ∨ i = 5 := by omega
    rcases this with rfl | rfl | rfl | rfl | rfl <;> rfl
  have X2 : Hid (w1.cell? ⟨g, 2, none⟩ = some (.string ⟨C.toArray⟩)) := x2
  have X3 : Hid (w1.cell? ⟨g, 3, none⟩ = some (.string ⟨E.toArray⟩)) := x3
  have HO : Hid (w1.ownsRow (w.heap.size + 1 + 1 + 1) 9 1 (.slice (some ⟨g, 0, none⟩) k cap) k (vals (A :: B :: C :: E :: F :: tl))) := by
    have e : ∀ a b c, (((w.alloc a).alloc b).alloc c).heap.size = w.heap.size + 1 + 1 + 1 := by intros; simp
    rw [e] at hown
    exact hown
  have X0 : Hid (w1.cell? ⟨g, 0, none⟩ = some (.string ⟨A.toArray⟩)) := own_cell HO.out 0 (.string ⟨A.toArray⟩) rfl
  have X1 : Hid (w1.cell? ⟨g, 1, none⟩ = some (.string ⟨B.toArray⟩)) := own_cell HO.out 1 (.string ⟨B.toArray⟩) rfl
  have X4 : Hid (w1.cell? ⟨g, 4, none⟩ = some (.string ⟨F.toArray⟩)) := own_cell HO.out 4 (.string ⟨F.toArray⟩) rfl
  have HLen : Hid (∀ a ∈ A :: B :: C :: E :: F :: tl, (⟨a.toArray⟩ : ByteArray).size ≤ maxLen) := by
    intro a ha
    rw [← h] at ha
    have := cut_len _ a ha
    rw [← size_list] at this
    rw [size_list]
    unfold maxLen
    show a.length ≤ _
    omega
  have HCut : Hid (cut s.data.toList = A :: B :: C :: E :: F :: tl) := h
  clear x2 x3 hown hb hg hg2 hl hs h
  go_wp2_with fail
  go_loopw [8] (fun v wr => ∃ i : Nat, 1 ≤ i ∧ i ≤ 6 ∧ v = .int .i64 i ∧ Hid (Below w1.heap.size w1 wr) ∧ Hid (OB wr w1.heap.size ⟨0, 0, sd i C, kd i E, 0, 0, 0, 0⟩)) (fun v _ => 6 - (intOf v).toNat)
  case atStart =>
    refine ⟨1, by omega, by omega, rfl, (Below.refl _ _).alloc (Nat.le_refl _) _, ?_⟩
    have e1 : sd 1 C = 0 := by unfold sd; split <;> omega
    have e2 : kd 1 E = 0 := by unfold kd; split <;> omega
    rw [e1, e2]
    exact ⟨by simp, by simp, by simp, by simp, by simp, by simp, by simp, by simp, fun j => by simp⟩
  case round =>
    obtain ⟨i, hi1, hi6, rfl, HB1, HOB⟩ := hrel
    have gi : (1 : Int) ≤ (i : Int) := by omega
    by_cases hi : i ≤ 5
    · have gj : (i : Int) ≤ 5 := by omega
      have gj6 : (i : Int) < 6 := by omega
      have gi0 : (0 : Int) ≤ (i : Int) := by omega
      have gk2 : (2 : Int) < (k : Int) := by omega
      have gk3 : (3 : Int) < (k : Int) := by omega
      by_cases h2 : i ≤ 2
      · have hd : decide ((i : Int) ≤ 2) = true := by simp; omega
        have gj3 : (i : Int) < 3 := by omega
        have y2 := keeps HB1.out X2.out
        have zS := keeps HB1.out (cS.out i hi1 h2)
        by_cases hC : C = sideW i
        · have qC : (C == sideW i) = true := beq_iff_eq.2 hC
          go_upto_region 10 with fail
          go_quiet (fail)
          have HB2 : Hid (Below w1.heap.size w1 (wr.drewN nq)) := belowN HB1.out nq
          have HOB2 := Hid.mk' (HOB.out.drewN nq)
          generalize wr.drewN nq = wr2 at *
          have d2 := HOB2.out.c2
          have f2 := HOB2.out.fr 2
          go_upto_region 12 with fail
          have HB4 : Hid (Below w1.heap.size w1 (wr2.setCell ⟨w1.heap.size, 2, none⟩ (.int .i64 i))) := HB2.out.setCell (Nat.le_refl _) _
          have HOB4 := Hid.mk' (HOB2.out.set2 (i : Int))
          generalize wr2.setCell ⟨w1.heap.size, 2, none⟩ (.int .i64 i) = wr4 at *
          have z3 := keeps HB4.out X3.out
          have zK := keeps HB4.out (cK.out i hi1 hi)
          by_cases hE : E = kindW i
          · have qE : (E == kindW i) = true := beq_iff_eq.2 hE
            go_upto_region 12 with fail
            go_quiet (fail)
            have HB3 : Hid (Below w1.heap.size w1 (wr4.drewN nq)) := belowN HB4.out nq
            have HOB3 := Hid.mk' (HOB4.out.drewN nq)
            generalize wr4.drewN nq = wr3 at *
            have d3 := HOB3.out.c3
            have f3 := HOB3.out.fr 3
            go_wp2_with fail
            go_roundw
            case rel => exact ⟨i + 1, by omega, by omega, by go_num, HB3.out.setCell (Nat.le_refl _) _, by (have := HOB3.out.set3 (i : Int); rw [sd_hit ((sideN_is hi1 h2).2 hC), kd_hit ((kindN_is hi1 hi).2 hE)]; exact this)⟩
            case measure => simp [intOf]; omega
          · have qE : (E == kindW i) = false := beq_eq_false_iff_ne.2 hE
            go_upto_region 12 with fail
            go_quiet (fail)
            have HB3 : Hid (Below w1.heap.size w1 (wr4.drewN nq)) := belowN HB4.out nq
            have HOB3 := Hid.mk' (HOB4.out.drewN nq)
            generalize wr4.drewN nq = wr3 at *
            go_wp2_with fail
            go_roundw
            case rel => exact ⟨i + 1, by omega, by omega, by go_num, HB3, by rw [sd_hit ((sideN_is hi1 h2).2 hC), kd_miss (fun e => hE ((kindN_is hi1 hi).1 e))]; exact HOB3⟩
            case measure => simp [intOf]; omega
        · have qC : (C == sideW i) = false := beq_eq_false_iff_ne.2 hC
          go_upto_region 10 with fail
          go_quiet (fail)
          have HB2 : Hid (Below w1.heap.size w1 (wr.drewN nq)) := belowN HB1.out nq
          have HOB2 := Hid.mk' (HOB.out.drewN nq)
          generalize wr.drewN nq = wr2 at *
          have z3 := keeps HB2.out X3.out
          have zK := keeps HB2.out (cK.out i hi1 hi)
          by_cases hE : E = kindW i
          · have qE : (E == kindW i) = true := beq_iff_eq.2 hE
            go_upto_region 12 with fail
            go_quiet (fail)
            have HB3 : Hid (Below w1.heap.size w1 (wr2.drewN nq)) := belowN HB2.out nq
            have HOB3 := Hid.mk' (HOB2.out.drewN nq)
            generalize wr2.drewN nq = wr3 at *
            have d3 := HOB3.out.c3
            have f3 := HOB3.out.fr 3
            go_wp2_with fail
            go_roundw
            case rel => exact ⟨i + 1, by omega, by omega, by go_num, HB3.out.setCell (Nat.le_refl _) _, by (have := HOB3.out.set3 (i : Int); rw [sd_miss (fun e => hC ((sideN_is hi1 h2).1 e)), kd_hit ((kindN_is hi1 hi).2 hE)]; exact this)⟩
            case measure => simp [intOf]; omega
          · have qE : (E == kindW i) = false := beq_eq_false_iff_ne.2 hE
            go_upto_region 12 with fail
            go_quiet (fail)
            have HB3 : Hid (Below w1.heap.size w1 (wr2.drewN nq)) := belowN HB2.out nq
            have HOB3 := Hid.mk' (HOB2.out.drewN nq)
            generalize wr2.drewN nq = wr3 at *
            go_wp2_with fail
            go_roundw
            case rel => exact ⟨i + 1, by omega, by omega, by go_num, HB3, by rw [sd_miss (fun e => hC ((sideN_is hi1 h2).1 e)), kd_miss (fun e => hE ((kindN_is hi1 hi).1 e))]; exact HOB3⟩
            case measure => simp [intOf]; omega
      · have hd : decide ((i : Int) ≤ 2) = false := by simp; omega
        go_upto_region 10 with fail
        go_quiet (fail)
        have HB2 : Hid (Below w1.heap.size w1 (wr.drewN nq)) := belowN HB1.out nq
        have HOB2 := Hid.mk' (HOB.out.drewN nq)
        generalize wr.drewN nq = wr2 at *
        have z3 := keeps HB2.out X3.out
        have zK := keeps HB2.out (cK.out i hi1 hi)
        by_cases hE : E = kindW i
        · have qE : (E == kindW i) = true := beq_iff_eq.2 hE
          go_upto_region 12 with fail
          go_quiet (fail)
          have HB3 : Hid (Below w1.heap.size w1 (wr2.drewN nq)) := belowN HB2.out nq
          have HOB3 := Hid.mk' (HOB2.out.drewN nq)
          generalize wr2.drewN nq = wr3 at *
          have d3 := HOB3.out.c3
          have f3 := HOB3.out.fr 3
          go_wp2_with fail
          go_roundw
          case rel => exact ⟨i + 1, by omega, by omega, by go_num, HB3.out.setCell (Nat.le_refl _) _, by (have := HOB3.out.set3 (i : Int); rw [sd_miss (show sideN C ≠ i by have := sideN_le C; omega), kd_hit ((kindN_is hi1 hi).2 hE)]; exact this)⟩
          case measure => simp [intOf]; omega
        · have qE : (E == kindW i) = false := beq_eq_false_iff_ne.2 hE
          go_upto_region 12 with fail
          go_quiet (fail)
          have HB3 : Hid (Below w1.heap.size w1 (wr2.drewN nq)) := belowN HB2.out nq
          have HOB3 := Hid.mk' (HOB2.out.drewN nq)
          generalize wr2.drewN nq = wr3 at *
          go_wp2_with fail
          go_roundw
          case rel => exact ⟨i + 1, by omega, by omega, by go_num, HB3, by rw [sd_miss (show sideN C ≠ i by have := sideN_le C; omega), kd_miss (fun e => hE ((kindN_is hi1 hi).1 e))]; exact HOB3⟩
          case measure => simp [intOf]; omega
    · have e6 : i = 6 := by omega
      subst e6
      have e1 : sd 6 C = (sideN C : Int) := by unfold sd; rw [if_pos (by have := sideN_le C; omega)]
      have e2 : kd 6 E = (kindN E : Int) := by unfold kd; rw [if_pos (by have := kindN_le E; omega)]
      rw [e1, e2] at HOB
      clear e1 e2
      have y0 := keeps HB1.out X0.out
      have y1 := keeps HB1.out X1.out
      have y4 := keeps HB1.out X4.out
      have gk0 : (0 : Int) < (k : Int) := by omega
      have gk1 : (1 : Int) < (k : Int) := by omega
      have gk4 : (4 : Int) < (k : Int) := by omega
      have d2 := HOB.out.c2
      have d3 := HOB.out.c3
      have HRw : Hid (wr.heap[w.heap.size]? = some (.cells #[.int .i64 0, .int .i64 0, .int .i64 0, .int .i64 0, .int .i64 0, .int .i64 0, .int .i64 0, .int .i64 0] 23 (0, 0))) := (HB1.out.block _ (heap_lt HR.out)).trans HR.out
      have HBw : Hid (Below w.heap.size w wr) := HB.out.trans (HB1.out.mono HB.out.size)
      go_wp2_with fail
      refine (rnum_list A _ (HLen.out A (by simp))).mono ?_
      rintro e w' ⟨rfl, rfl⟩
      go_wp2_with fail
      refine (rnum_list B _ (HLen.out B (by simp))).mono ?_
      rintro e w' ⟨rfl, rfl⟩
      go_wp2_with fail
      refine (rnum_list F _ (HLen.out F (by simp))).mono ?_
      rintro e w' ⟨rfl, rfl⟩
      go_upto_region 17 with fail
      cases nA : numOk A
      · have HBad : Hid (rdE s.data.toList = 2 ∧ rdR s.data.toList = zeroO) := rd_bad (by rw [HCut.out, rdB_of, (num_zero_iff A).2 nA]; simp)
        go_upto_region 18 with fail
        refine wp_region_lit ?_
        iterate 1 (refine wpList_step fun K hK => ?_; go_simp; refine hK _ _ ?_; clear hK K; try simp only [Act.put, List.setIfInBounds_toArray, List.set_cons_zero, List.set_cons_succ])
        refine wpList_store_mid rfl 23 (.tmp 2) (.tmp 97) rfl w.heap.size 0 #[.int .i64 0, .int .i64 0, .int .i64 0, .int .i64 0, .int .i64 0, .int .i64 0, .int .i64 0, .int .i64 0] rfl rfl (there8 HRw.out) (by kernel_rfl) (by simp [Value.oneCell']) ?_
        have hXs := stored8 (.int .i64 0) (.int .i64 0) (.int .i64 0) (.int .i64 0) (.int .i64 0) (.int .i64 0) (.int .i64 0) (.int .i64 0) HRw.out
        have hXb := below_setCells (Nat.le_refl _) [.int .i64 0, .int .i64 0, .int .i64 0, .int .i64 0, .int .i64 0, .int .i64 0, .int .i64 0, .int .i64 0] 0 _ HBw.out
        show wpList _ _ _ _ _ (w'.setCells w.heap.size 0 [.int .i64 0, .int .i64 0, .int .i64 0, .int .i64 0, .int .i64 0, .int .i64 0, .int .i64 0, .int .i64 0])
        generalize w'.setCells w.heap.size 0 [.int .i64 0, .int .i64 0, .int .i64 0, .int .i64 0, .int .i64 0, .int .i64 0, .int .i64 0, .int .i64 0] = X at *
        have x0 : X.cell? ⟨w.heap.size, 0, none⟩ = some (.int .i64 0) := Joins.cell_of_block hXs 0
        have x1 : X.cell? ⟨w.heap.size, 1, none⟩ = some (.int .i64 0) := Joins.cell_of_block hXs 1
        have x2 : X.cell? ⟨w.heap.size, 2, none⟩ = some (.int .i64 0) := Joins.cell_of_block hXs 2
        have x3 : X.cell? ⟨w.heap.size, 3, none⟩ = some (.int .i64 0) := Joins.cell_of_block hXs 3
        have x4 : X.cell? ⟨w.heap.size, 4, none⟩ = some (.int .i64 0) := Joins.cell_of_block hXs 4
        have x5 : X.cell? ⟨w.heap.size, 5, none⟩ = some (.int .i64 0) := Joins.cell_of_block hXs 5
        have x6 : X.cell? ⟨w.heap.size, 6, none⟩ = some (.int .i64 0) := Joins.cell_of_block hXs 6
        have x7 : X.cell? ⟨w.heap.size, 7, none⟩ = some (.int .i64 0) := Joins.cell_of_block hXs 7
        clear hXs
        go_wp2_with fail
        exact bodyPost_ret (v := .tuple #[.agg #[.int .i64 0, .int .i64 0, .int .i64 0, .int .i64 0, .int .i64 0, .int .i64 0, .int .i64 0, .int .i64 0], .int .i64 2]) (by simp [results, Tryz.results9, go_sem, x0, x1, x2, x3, x4, x5, x6, x7]) rfl ⟨by rw [HBad.out.1, HBad.out.2]; rfl, hXb⟩
      cases nB : numOk B
      · have HBad : Hid (rdE s.data.toList = 2 ∧ rdR s.data.toList = zeroO) := rd_bad (by rw [HCut.out, rdB_of, (num_zero_iff B).2 nB]; simp)
        go_upto_region 18 with fail
        refine wp_region_lit ?_
        iterate 1 (refine wpList_step fun K hK => ?_; go_simp; refine hK _ _ ?_; clear hK K; try simp only [Act.put, List.setIfInBounds_toArray, List.set_cons_zero, List.set_cons_succ])
        refine wpList_store_mid rfl 23 (.tmp 2) (.tmp 97) rfl w.heap.size 0 #[.int .i64 0, .int .i64 0, .int .i64 0, .int .i64 0, .int .i64 0, .int .i64 0, .int .i64 0, .int .i64 0] rfl rfl (there8 HRw.out) (by kernel_rfl) (by simp [Value.oneCell']) ?_
        have hXs := stored8 (.int .i64 0) (.int .i64 0) (.int .i64 0) (.int .i64 0) (.int .i64 0) (.int .i64 0) (.int .i64 0) (.int .i64 0) HRw.out
        have hXb := below_setCells (Nat.le_refl _) [.int .i64 0, .int .i64 0, .int .i64 0, .int .i64 0, .int .i64 0, .int .i64 0, .int .i64 0, .int .i64 0] 0 _ HBw.out
        show wpList _ _ _ _ _ (w'.setCells w.heap.size 0 [.int .i64 0, .int .i64 0, .int .i64 0, .int .i64 0, .int .i64 0, .int .i64 0, .int .i64 0, .int .i64 0])
        generalize w'.setCells w.heap.size 0 [.int .i64 0, .int .i64 0, .int .i64 0, .int .i64 0, .int .i64 0, .int .i64 0, .int .i64 0, .int .i64 0] = X at *
        have x0 : X.cell? ⟨w.heap.size, 0, none⟩ = some (.int .i64 0) := Joins.cell_of_block hXs 0
        have x1 : X.cell? ⟨w.heap.size, 1, none⟩ = some (.int .i64 0) := Joins.cell_of_block hXs 1
        have x2 : X.cell? ⟨w.heap.size, 2, none⟩ = some (.int .i64 0) := Joins.cell_of_block hXs 2
        have x3 : X.cell? ⟨w.heap.size, 3, none⟩ = some (.int .i64 0) := Joins.cell_of_block hXs 3
        have x4 : X.cell? ⟨w.heap.size, 4, none⟩ = some (.int .i64 0) := Joins.cell_of_block hXs 4
        have x5 : X.cell? ⟨w.heap.size, 5, none⟩ = some (.int .i64 0) := Joins.cell_of_block hXs 5
        have x6 : X.cell? ⟨w.heap.size, 6, none⟩ = some (.int .i64 0) := Joins.cell_of_block hXs 6
        have x7 : X.cell? ⟨w.heap.size, 7, none⟩ = some (.int .i64 0) := Joins.cell_of_block hXs 7
        clear hXs
        go_wp2_with fail
        exact bodyPost_ret (v := .tuple #[.agg #[.int .i64 0, .int .i64 0, .int .i64 0, .int .i64 0, .int .i64 0, .int .i64 0, .int .i64 0, .int .i64 0], .int .i64 2]) (by simp [results, Tryz.results9, go_sem, x0, x1, x2, x3, x4, x5, x6, x7]) rfl ⟨by rw [HBad.out.1, HBad.out.2]; rfl, hXb⟩
      cases nF : numOk F
      · have HBad : Hid (rdE s.data.toList = 2 ∧ rdR s.data.toList = zeroO) := rd_bad (by rw [HCut.out, rdB_of, (num_zero_iff F).2 nF]; simp)
        go_upto_region 18 with fail
        refine wp_region_lit ?_
        iterate 1 (refine wpList_step fun K hK => ?_; go_simp; refine hK _ _ ?_; clear hK K; try simp only [Act.put, List.setIfInBounds_toArray, List.set_cons_zero, List.set_cons_succ])
        refine wpList_store_mid rfl 23 (.tmp 2) (.tmp 97) rfl w.heap.size 0 #[.int .i64 0, .int .i64 0, .int .i64 0, .int .i64 0, .int .i64 0, .int .i64 0, .int .i64 0, .int .i64 0] rfl rfl (there8 HRw.out) (by kernel_rfl) (by simp [Value.oneCell']) ?_
        have hXs := stored8 (.int .i64 0) (.int .i64 0) (.int .i64 0) (.int .i64 0) (.int .i64 0) (.int .i64 0) (.int .i64 0) (.int .i64 0) HRw.out
        have hXb := below_setCells (Nat.le_refl _) [.int .i64 0, .int .i64 0, .int .i64 0, .int .i64 0, .int .i64 0, .int .i64 0, .int .i64 0, .int .i64 0] 0 _ HBw.out
        show wpList _ _ _ _ _ (w'.setCells w.heap.size 0 [.int .i64 0, .int .i64 0, .int .i64 0, .int .i64 0, .int .i64 0, .int .i64 0, .int .i64 0, .int .i64 0])
        generalize w'.setCells w.heap.size 0 [.int .i64 0, .int .i64 0, .int .i64 0, .int .i64 0, .int .i64 0, .int .i64 0, .int .i64 0, .int .i64 0] = X at *
        have x0 : X.cell? ⟨w.heap.size, 0, none⟩ = some (.int .i64 0) := Joins.cell_of_block hXs 0
        have x1 : X.cell? ⟨w.heap.size, 1, none⟩ = some (.int .i64 0) := Joins.cell_of_block hXs 1
        have x2 : X.cell? ⟨w.heap.size, 2, none⟩ = some (.int .i64 0) := Joins.cell_of_block hXs 2
        have x3 : X.cell? ⟨w.heap.size, 3, none⟩ = some (.int .i64 0) := Joins.cell_of_block hXs 3
        have x4 : X.cell? ⟨w.heap.size, 4, none⟩ = some (.int .i64 0) := Joins.cell_of_block hXs 4
        have x5 : X.cell? ⟨w.heap.size, 5, none⟩ = some (.int .i64 0) := Joins.cell_of_block hXs 5
        have x6 : X.cell? ⟨w.heap.size, 6, none⟩ = some (.int .i64 0) := Joins.cell_of_block hXs 6
        have x7 : X.cell? ⟨w.heap.size, 7, none⟩ = some (.int .i64 0) := Joins.cell_of_block hXs 7
        clear hXs
        go_wp2_with fail
        exact bodyPost_ret (v := .tuple #[.agg #[.int .i64 0, .int .i64 0, .int .i64 0, .int .i64 0, .int .i64 0, .int .i64 0, .int .i64 0, .int .i64 0], .int .i64 2]) (by simp [results, Tryz.results9, go_sem, x0, x1, x2, x3, x4, x5, x6, x7]) rfl ⟨by rw [HBad.out.1, HBad.out.2]; rfl, hXb⟩
      by_cases nC : sideN C = 0
      · have HBad : Hid (rdE s.data.toList = 2 ∧ rdR s.data.toList = zeroO) := rd_bad (by rw [HCut.out, rdB_of, nC]; simp)
        have qnC : ((sideN C : Int) == 0) = true := by rw [nC]; rfl
        go_upto_region 18 with fail
        refine wp_region_lit ?_
        iterate 1 (refine wpList_step fun K hK => ?_; go_simp; refine hK _ _ ?_; clear hK K; try simp only [Act.put, List.setIfInBounds_toArray, List.set_cons_zero, List.set_cons_succ])
        refine wpList_store_mid rfl 23 (.tmp 2) (.tmp 97) rfl w.heap.size 0 #[.int .i64 0, .int .i64 0, .int .i64 0, .int .i64 0, .int .i64 0, .int .i64 0, .int .i64 0, .int .i64 0] rfl rfl (there8 HRw.out) (by kernel_rfl) (by simp [Value.oneCell']) ?_
        have hXs := stored8 (.int .i64 0) (.int .i64 0) (.int .i64 0) (.int .i64 0) (.int .i64 0) (.int .i64 0) (.int .i64 0) (.int .i64 0) HRw.out
        have hXb := below_setCells (Nat.le_refl _) [.int .i64 0, .int .i64 0, .int .i64 0, .int .i64 0, .int .i64 0, .int .i64 0, .int .i64 0, .int .i64 0] 0 _ HBw.out
        show wpList _ _ _ _ _ (w'.setCells w.heap.size 0 [.int .i64 0, .int .i64 0, .int .i64 0, .int .i64 0, .int .i64 0, .int .i64 0, .int .i64 0, .int .i64 0])
        generalize w'.setCells w.heap.size 0 [.int .i64 0, .int .i64 0, .int .i64 0, .int .i64 0, .int .i64 0, .int .i64 0, .int .i64 0, .int .i64 0] = X at *
        have x0 : X.cell? ⟨w.heap.size, 0, none⟩ = some (.int .i64 0) := Joins.cell_of_block hXs 0
        have x1 : X.cell? ⟨w.heap.size, 1, none⟩ = some (.int .i64 0) := Joins.cell_of_block hXs 1
        have x2 : X.cell? ⟨w.heap.size, 2, none⟩ = some (.int .i64 0) := Joins.cell_of_block hXs 2
        have x3 : X.cell? ⟨w.heap.size, 3, none⟩ = some (.int .i64 0) := Joins.cell_of_block hXs 3
        have x4 : X.cell? ⟨w.heap.size, 4, none⟩ = some (.int .i64 0) := Joins.cell_of_block hXs 4
        have x5 : X.cell? ⟨w.heap.size, 5, none⟩ = some (.int .i64 0) := Joins.cell_of_block hXs 5
        have x6 : X.cell? ⟨w.heap.size, 6, none⟩ = some (.int .i64 0) := Joins.cell_of_block hXs 6
        have x7 : X.cell? ⟨w.heap.size, 7, none⟩ = some (.int .i64 0) := Joins.cell_of_block hXs 7
        clear hXs
        go_wp2_with fail
        exact bodyPost_ret (v := .tuple #[.agg #[.int .i64 0, .int .i64 0, .int .i64 0, .int .i64 0, .int .i64 0, .int .i64 0, .int .i64 0, .int .i64 0], .int .i64 2]) (by simp [results, Tryz.results9, go_sem, x0, x1, x2, x3, x4, x5, x6, x7]) rfl ⟨by rw [HBad.out.1, HBad.out.2]; rfl, hXb⟩
      have qnC : ((sideN C : Int) == 0) = false := by simp; omega
      by_cases nE : kindN E = 0
      · have HBad : Hid (rdE s.data.toList = 2 ∧ rdR s.data.toList = zeroO) := rd_bad (by rw [HCut.out, rdB_of, nE]; simp)
        have qnE : ((kindN E : Int) == 0) = true := by rw [nE]; rfl
        go_upto_region 18 with fail
        refine wp_region_lit ?_
        iterate 1 (refine wpList_step fun K hK => ?_; go_simp; refine hK _ _ ?_; clear hK K; try simp only [Act.put, List.setIfInBounds_toArray, List.set_cons_zero, List.set_cons_succ])
        refine wpList_store_mid rfl 23 (.tmp 2) (.tmp 97) rfl w.heap.size 0 #[.int .i64 0, .int .i64 0, .int .i64 0, .int .i64 0, .int .i64 0, .int .i64 0, .int .i64 0, .int .i64 0] rfl rfl (there8 HRw.out) (by kernel_rfl) (by simp [Value.oneCell']) ?_
        have hXs := stored8 (.int .i64 0) (.int .i64 0) (.int .i64 0) (.int .i64 0) (.int .i64 0) (.int .i64 0) (.int .i64 0) (.int .i64 0) HRw.out
        have hXb := below_setCells (Nat.le_refl _) [.int .i64 0, .int .i64 0, .int .i64 0, .int .i64 0, .int .i64 0, .int .i64 0, .int .i64 0, .int .i64 0] 0 _ HBw.out
        show wpList _ _ _ _ _ (w'.setCells w.heap.size 0 [.int .i64 0, .int .i64 0, .int .i64 0, .int .i64 0, .int .i64 0, .int .i64 0, .int .i64 0, .int .i64 0])
        generalize w'.setCells w.heap.size 0 [.int .i64 0, .int .i64 0, .int .i64 0, .int .i64 0, .int .i64 0, .int .i64 0, .int .i64 0, .int .i64 0] = X at *
        have x0 : X.cell? ⟨w.heap.size, 0, none⟩ = some (.int .i64 0) := Joins.cell_of_block hXs 0
        have x1 : X.cell? ⟨w.heap.size, 1, none⟩ = some (.int .i64 0) := Joins.cell_of_block hXs 1
        have x2 : X.cell? ⟨w.heap.size, 2, none⟩ = some (.int .i64 0) := Joins.cell_of_block hXs 2
        have x3 : X.cell? ⟨w.heap.size, 3, none⟩ = some (.int .i64 0) := Joins.cell_of_block hXs 3
        have x4 : X.cell? ⟨w.heap.size, 4, none⟩ = some (.int .i64 0) := Joins.cell_of_block hXs 4
        have x5 : X.cell? ⟨w.heap.size, 5, none⟩ = some (.int .i64 0) := Joins.cell_of_block hXs 5
        have x6 : X.cell? ⟨w.heap.size, 6, none⟩ = some (.int .i64 0) := Joins.cell_of_block hXs 6
        have x7 : X.cell? ⟨w.heap.size, 7, none⟩ = some (.int .i64 0) := Joins.cell_of_block hXs 7
        clear hXs
        go_wp2_with fail
        exact bodyPost_ret (v := .tuple #[.agg #[.int .i64 0, .int .i64 0, .int .i64 0, .int .i64 0, .int .i64 0, .int .i64 0, .int .i64 0, .int .i64 0], .int .i64 2]) (by simp [results, Tryz.results9, go_sem, x0, x1, x2, x3, x4, x5, x6, x7]) rfl ⟨by rw [HBad.out.1, HBad.out.2]; rfl, hXb⟩
      have qnE : ((kindN E : Int) == 0) = false := by simp; omega
      have d0 := HOB.out.c0
      have d1 := HOB.out.c1
      have d5 := HOB.out.c5
      have f0 := HOB.out.fr 0
      have f1 := HOB.out.fr 1
      have f5 := HOB.out.fr 5
      have hlt : w1.heap.size < w'.heap.size := World.block_lt_of_cell? w' _ d0
      have HOB5 := Hid.mk' (((HOB.out.set0 (num A : Nat)).set1 (num B : Nat)).set5 (num F : Nat))
      have HB5 : Hid (Below w1.heap.size w1 (((w'.setCell ⟨w1.heap.size, 0, none⟩ (.int .i64 (num A : Nat))).setCell ⟨w1.heap.size, 1, none⟩ (.int .i64 (num B : Nat))).setCell ⟨w1.heap.size, 5, none⟩ (.int .i64 (num F : Nat)))) := ((HB1.out.setCell (Nat.le_refl _) _).setCell (Nat.le_refl _) _).setCell (Nat.le_refl _) _
      go_upto_region 22 with fail
      generalize ((w'.setCell ⟨w1.heap.size, 0, none⟩ (.int .i64 (num A : Nat))).setCell ⟨w1.heap.size, 1, none⟩ (.int .i64 (num B : Nat))).setCell ⟨w1.heap.size, 5, none⟩ (.int .i64 (num F : Nat)) = w5 at *
      clear d0 d1 d2 d3 d5 f0 f1 f5 y0 y1 y4 HOB HB1 HRw HBw hlt gi hi
      have HNZ : Hid (num A ≠ 0 ∧ num B ≠ 0 ∧ sideN C ≠ 0 ∧ kindN E ≠ 0 ∧ num F ≠ 0) := ⟨fun e => (by rw [(num_zero_iff A).1 e] at nA; cases nA), fun e => (by rw [(num_zero_iff B).1 e] at nB; cases nB), nC, nE, fun e => (by rw [(num_zero_iff F).1 e] at nF; cases nF)⟩
      clear nA nB nF nC nE qnC qnE
      go_wp2_with fail
      go_loopg [15, 16, 17, 18] 3 (fun gg s15 s16 _ _ wl => ∃ (m : Nat) (p s3 t : Nat) (pre rest : List (List UInt8)), m ≤ 3 ∧ 3 - m ≤ gg ∧ s16 = .int .i64 m ∧ s15 = .int .i64 ((5 + pre.length : Nat) : Int) ∧ Aside (tl = pre ++ rest ∧ stL tl m = (p, s3, t, rest)) ∧ Aside (OB wl w1.heap.size ⟨num A, num B, sideN C, kindN E, p, num F, s3, t⟩) ∧ Aside (Below w1.heap.size w1 wl))
      case atStart => exact ⟨0, 0, 0, 0, [], tl, by omega, by omega, rfl, rfl, ⟨rfl, rfl⟩, HOB5.out, HB5.out⟩
      case round =>
        obtain ⟨m, p, s3, t, pre, rest, hm3, hgm, rfl, rfl, hSt, hOB, hBl⟩ := hrel
        have HRl : Hid (wr.heap[w.heap.size]? = some (.cells #[.int .i64 0, .int .i64 0, .int .i64 0, .int .i64 0, .int .i64 0, .int .i64 0, .int .i64 0, .int .i64 0] 23 (0, 0))) := (hBl.out.block _ (heap_lt HR.out)).trans HR.out
        have HBl : Hid (Below w.heap.size w wr) := HB.out.trans (hBl.out.mono HB.out.size)
        have hlen : tl.length = pre.length + rest.length := by have := hSt.out.1; rw [this, List.length_append]
        obtain ⟨P5, hP5⟩ : ∃ P5, 5 + pre.length = P5 := ⟨_, rfl⟩
        have HP5 : Hid (5 + pre.length = P5) := hP5
        rw [hP5]
        have hkb : k ≤ 2000001 := HKk.out.2
        have hPle : P5 + rest.length = k := by have h1 := HKk.out.1; omega
        go_upto_region 24 with fail
        go_cut [112] from 104 to 148 (fun s112 wx => s112 = .bool (decide (m < 3 ∧ P5 + 1 < k)) ∧ wx = wr)
        case first =>
          have j2 : wrap64 ((P5 : Int) + 1) = (P5 : Int) + 1 := by unfold wrap64; omega
          by_cases hm : m < 3
          · have j1 : (m : Int) < 3 := by omega
            by_cases hP : P5 + 1 < k
            · have j3 : (P5 : Int) + 1 < (k : Int) := by omega
              go_wp2_with fail
              go_meet
              case rel => exact ⟨congrArg Value.bool (by simp [hm, hP]), rfl⟩
            · have j3 : ¬ ((P5 : Int) + 1 < (k : Int)) := by omega
              go_wp2_with fail
              go_meet
              case rel => exact ⟨congrArg Value.bool (by simp [hP]), rfl⟩
          · have j1 : ¬ ((m : Int) < 3) := by omega
            go_wp2_with fail
            go_meet
            case rel => exact ⟨congrArg Value.bool (by simp [hm]), rfl⟩
        case rest =>
        obtain ⟨rfl, hw⟩ := hcut
        rw [hw]
        clear hw
        by_cases hgo : m < 3 ∧ P5 + 1 < k
        · have hgd : decide (m < 3 ∧ P5 + 1 < k) = true := by rw [decide_eq_true_eq]; exact hgo
          rw [hgd]
          clear hgd
          obtain ⟨hm, hk6⟩ := hgo
          have hr2 : 2 ≤ rest.length := by omega
          obtain ⟨a, b, r, hrest⟩ : ∃ a b r, rest = a :: b :: r := by
            match rest, hr2 with
            | a :: b :: r, _ => exact ⟨a, b, r, rfl⟩
          subst hrest
          have q1 := keeps hBl.out (own_cell HO.out P5 (.string ⟨a.toArray⟩) (by rw [← hP5, hSt.out.1]; exact vals_at A B C E F pre a (b :: r)))
          have q2 := keeps hBl.out (own_cell HO.out (P5 + 1) (.string ⟨b.toArray⟩) (by rw [← hP5, hSt.out.1]; exact vals_at1 A B C E F pre a b r))
          have Q2 : Hid (wr.cell? ⟨g, P5 + 1, none⟩ = some (.string ⟨b.toArray⟩)) := q2
          have hbl : (⟨b.toArray⟩ : ByteArray).size ≤ maxLen := HLen.out b (by rw [hSt.out.1]; simp)
          have Hbl : Hid ((⟨b.toArray⟩ : ByteArray).size ≤ maxLen) := hbl
          clear q2 hbl hP5 hlen hr2
          have i1 : (0 : Int) ≤ (P5 : Int) := by omega
          have i2 : (P5 : Int) < (k : Int) := by omega
          have i3 : wrap64 ((P5 : Int) + 1) = (P5 : Int) + 1 := by unfold wrap64; omega
          have i4 : (P5 : Int) + 1 < (k : Int) := by omega
          have i5 : (0 : Int) ≤ (P5 : Int) + 1 := by omega
          have i6 : wrap64 ((P5 : Int) + 2) = ((P5 + 2 : Nat) : Int) := by unfold wrap64; omega
          have SO : Hid (∀ W, Below wr.heap.size wr W → (Below wr.heap.size wr W ∧ W.cell? ⟨g, P5, none⟩ = some (.string ⟨a.toArray⟩))) := fun W hW => ⟨hW, keeps hW q1⟩
          have q3 : (wr.alloc (.cells #[.string ⟨#[97, 116]⟩, .string ⟨#[115, 104, 111, 119]⟩, .string ⟨#[115, 116, 111, 112]⟩] 9)).cell? ⟨g, P5, none⟩ = some (.string ⟨a.toArray⟩) := keeps ((Below.refl _ _).alloc (Nat.le_refl _) _) q1
          have hm' : m = 0 ∨ m = 1 ∨ m = 2 := by omega
          rcases hm' with rfl | rfl | rfl
          · go_upto_region 26 with fail
            go_cut [123] from 104 to 148 (fun s123 wx => s123 = .bool (decide (a ≠ wAt)) ∧ Aside (Below wr.heap.size wr wx))
            case first =>
              by_cases ha : a = wAt
              · have ha1 : (a == [97, 116]) = true := by rw [ha]; rfl
                go_region
                go_wp2_with fail
                go_meet
                case rel => exact ⟨congrArg Value.bool (by first | (simp [ha]; done) | (simp [ha]; rfl)), ((Below.refl _ _).alloc (Nat.le_refl _) _).drew⟩
              · have ha1 : (a == [97, 116]) = false := show (a == wAt) = false from beq_eq_false_iff_ne.2 ha
                go_region
                go_wp2_with fail
                go_meet
                case rel => exact ⟨congrArg Value.bool (by first | (simp [ha]; done) | (simp; exact ha)), ((Below.refl _ _).alloc (Nat.le_refl _) _).drew⟩
            case rest =>
              obtain ⟨rfl, hBx⟩ := hcut
              have HOc := Hid.mk' (hOB.out.on hBx.out)
              have HBc : Hid (Below w1.heap.size w1 wc) := hBl.out.trans (hBx.out.mono hBl.out.size)
              have HRc : Hid (wc.heap[w.heap.size]? = some (.cells #[.int .i64 0, .int .i64 0, .int .i64 0, .int .i64 0, .int .i64 0, .int .i64 0, .int .i64 0, .int .i64 0] 23 (0, 0))) := (hBx.out.block _ (heap_lt HRl.out)).trans HRl.out
              have HWc : Hid (Below w.heap.size w wc) := HBl.out.trans (hBx.out.mono HBl.out.size)
              have q2 := keeps hBx.out Q2.out
              clear q1 q3 SO hBx HRl HBl Q2
              by_cases ha : a = wAt
              · have hd : decide (a ≠ wAt) = false := by rw [decide_eq_false_iff_not]; exact fun e => e ha
                rw [hd]
                clear hd
                have HA : Hid (a = wAt) := ha
                clear ha
                go_wp2_with fail
                refine (rnum_list b _ Hbl.out).mono ?_
                rintro e wd ⟨rfl, rfl⟩
                cases nb : numOk b
                · have HBad : Hid (rdE s.data.toList = 2 ∧ rdR s.data.toList = zeroO) := rd_bad (by rw [HCut.out]; exact rd_left _ _ _ _ _ (stL_stuck0 (by have h := hSt.out.2; rw [HA.out] at h; exact h) ((num_zero_iff b).2 nb)))
                  go_upto_region 29 with fail
                  refine wp_region_lit ?_
                  iterate 1 (refine wpList_step fun K hK => ?_; go_simp; refine hK _ _ ?_; clear hK K; try simp only [Act.put, List.setIfInBounds_toArray, List.set_cons_zero, List.set_cons_succ])
                  refine wpList_store_mid rfl 23 (.tmp 2) (.tmp 135) rfl w.heap.size 0 #[.int .i64 0, .int .i64 0, .int .i64 0, .int .i64 0, .int .i64 0, .int .i64 0, .int .i64 0, .int .i64 0] rfl rfl (there8 HRc.out) (by kernel_rfl) (by simp [Value.oneCell']) ?_
                  have hXs := stored8 (.int .i64 0) (.int .i64 0) (.int .i64 0) (.int .i64 0) (.int .i64 0) (.int .i64 0) (.int .i64 0) (.int .i64 0) HRc.out
                  have hXb := below_setCells (Nat.le_refl _) [.int .i64 0, .int .i64 0, .int .i64 0, .int .i64 0, .int .i64 0, .int .i64 0, .int .i64 0, .int .i64 0] 0 _ HWc.out
                  show wpList _ _ _ _ _ (wd.setCells w.heap.size 0 [.int .i64 0, .int .i64 0, .int .i64 0, .int .i64 0, .int .i64 0, .int .i64 0, .int .i64 0, .int .i64 0])
                  generalize wd.setCells w.heap.size 0 [.int .i64 0, .int .i64 0, .int .i64 0, .int .i64 0, .int .i64 0, .int .i64 0, .int .i64 0, .int .i64 0] = X at *
                  have z0 : X.cell? ⟨w.heap.size, 0, none⟩ = some (.int .i64 0) := Joins.cell_of_block hXs 0
                  have z1 : X.cell? ⟨w.heap.size, 1, none⟩ = some (.int .i64 0) := Joins.cell_of_block hXs 1
                  have z2 : X.cell? ⟨w.heap.size, 2, none⟩ = some (.int .i64 0) := Joins.cell_of_block hXs 2
                  have z3 : X.cell? ⟨w.heap.size, 3, none⟩ = some (.int .i64 0) := Joins.cell_of_block hXs 3
                  have z4 : X.cell? ⟨w.heap.size, 4, none⟩ = some (.int .i64 0) := Joins.cell_of_block hXs 4
                  have z5 : X.cell? ⟨w.heap.size, 5, none⟩ = some (.int .i64 0) := Joins.cell_of_block hXs 5
                  have z6 : X.cell? ⟨w.heap.size, 6, none⟩ = some (.int .i64 0) := Joins.cell_of_block hXs 6
                  have z7 : X.cell? ⟨w.heap.size, 7, none⟩ = some (.int .i64 0) := Joins.cell_of_block hXs 7
                  clear hXs
                  go_wp2_with fail
                  exact bodyPost_ret (v := .tuple #[.agg #[.int .i64 0, .int .i64 0, .int .i64 0, .int .i64 0, .int .i64 0, .int .i64 0, .int .i64 0, .int .i64 0], .int .i64 2]) (by simp [results, Tryz.results9, go_sem, z0, z1, z2, z3, z4, z5, z6, z7]) rfl ⟨by rw [HBad.out.1, HBad.out.2]; rfl, hXb⟩
                · have hn : num b ≠ 0 := fun e => (by rw [(num_zero_iff b).1 e] at nb; cases nb)
                  have HSt : Hid (tl = (pre ++ [a, b]) ++ r ∧ stL tl 1 = (num b, s3, t, r)) := ⟨by rw [hSt.out.1]; simp, stL_take0 (by have h := hSt.out.2; rw [HA.out] at h; exact h) hn⟩
                  have HO2 := Hid.mk' (HOc.out.set4 (num b : Nat))
                  have HB2 : Hid (Below w1.heap.size w1 (wd.setCell ⟨w1.heap.size, 4, none⟩ (.int .i64 (num b : Nat)))) := HBc.out.setCell (Nat.le_refl _) _
                  have c4 := HOc.out.c4
                  have f4 := HOc.out.fr 4
                  clear hn nb
                  go_wp2_with fail
                  go_roundg (3 - 1)
                  case measure => omega
                  case rel => exact ⟨1, num b, s3, t, pre ++ [a, b], r, by omega, Nat.le_refl _, by go_num, by rw [List.length_append, ← Nat.add_assoc, HP5.out]; rfl, HSt.out, HO2.out, HB2.out⟩
              · have hd : decide (a ≠ wAt) = true := by rw [decide_eq_true_eq]; exact ha
                rw [hd]
                clear hd
                have HSt : Hid (tl = pre ++ (a :: b :: r) ∧ stL tl 1 = (p, s3, t, a :: b :: r)) := ⟨hSt.out.1, stL_skip0 hSt.out.2 ha⟩
                clear ha
                go_wp2_with fail
                go_roundg (3 - 1)
                case measure => omega
                case rel => exact ⟨1, p, s3, t, pre, a :: b :: r, by omega, Nat.le_refl _, by go_num, by rw [HP5.out], HSt.out, HOc.out, HBc.out⟩
          · go_upto_region 26 with fail
            go_cut [123] from 104 to 148 (fun s123 wx => s123 = .bool (decide (a ≠ wShow)) ∧ Aside (Below wr.heap.size wr wx))
            case first =>
              by_cases ha : a = wShow
              · have ha1 : (a == [115, 104, 111, 119]) = true := by rw [ha]; rfl
                go_region
                go_wp2_with fail
                go_meet
                case rel => exact ⟨congrArg Value.bool (by first | (simp [ha]; done) | (simp [ha]; rfl)), ((Below.refl _ _).alloc (Nat.le_refl _) _).drew⟩
              · have ha1 : (a == [115, 104, 111, 119]) = false := show (a == wShow) = false from beq_eq_false_iff_ne.2 ha
                go_region
                go_wp2_with fail
                go_meet
                case rel => exact ⟨congrArg Value.bool (by first | (simp [ha]; done) | (simp; exact ha)), ((Below.refl _ _).alloc (Nat.le_refl _) _).drew⟩
            case rest =>
              obtain ⟨rfl, hBx⟩ := hcut
              have HOc := Hid.mk' (hOB.out.on hBx.out)
              have HBc : Hid (Below w1.heap.size w1 wc) := hBl.out.trans (hBx.out.mono hBl.out.size)
              have HRc : Hid (wc.heap[w.heap.size]? = some (.cells #[.int .i64 0, .int .i64 0, .int .i64 0, .int .i64 0, .int .i64 0, .int .i64 0, .int .i64 0, .int .i64 0] 23 (0, 0))) := (hBx.out.block _ (heap_lt HRl.out)).trans HRl.out
              have HWc : Hid (Below w.heap.size w wc) := HBl.out.trans (hBx.out.mono HBl.out.size)
              have q2 := keeps hBx.out Q2.out
              clear q1 q3 SO hBx HRl HBl Q2
              by_cases ha : a = wShow
              · have hd : decide (a ≠ wShow) = false := by rw [decide_eq_false_iff_not]; exact fun e => e ha
                rw [hd]
                clear hd
                have HA : Hid (a = wShow) := ha
                clear ha
                go_wp2_with fail
                refine (rnum_list b _ Hbl.out).mono ?_
                rintro e wd ⟨rfl, rfl⟩
                cases nb : numOk b
                · have HBad : Hid (rdE s.data.toList = 2 ∧ rdR s.data.toList = zeroO) := rd_bad (by rw [HCut.out]; exact rd_left _ _ _ _ _ (stL_stuck1 (by have h := hSt.out.2; rw [HA.out] at h; exact h) ((num_zero_iff b).2 nb)))
                  go_upto_region 29 with fail
                  refine wp_region_lit ?_
                  iterate 1 (refine wpList_step fun K hK => ?_; go_simp; refine hK _ _ ?_; clear hK K; try simp only [Act.put, List.setIfInBounds_toArray, List.set_cons_zero, List.set_cons_succ])
                  refine wpList_store_mid rfl 23 (.tmp 2) (.tmp 135) rfl w.heap.size 0 #[.int .i64 0, .int .i64 0, .int .i64 0, .int .i64 0, .int .i64 0, .int .i64 0, .int .i64 0, .int .i64 0] rfl rfl (there8 HRc.out) (by kernel_rfl) (by simp [Value.oneCell']) ?_
                  have hXs := stored8 (.int .i64 0) (.int .i64 0) (.int .i64 0) (.int .i64 0) (.int .i64 0) (.int .i64 0) (.int .i64 0) (.int .i64 0) HRc.out
                  have hXb := below_setCells (Nat.le_refl _) [.int .i64 0, .int .i64 0, .int .i64 0, .int .i64 0, .int .i64 0, .int .i64 0, .int .i64 0, .int .i64 0] 0 _ HWc.out
                  show wpList _ _ _ _ _ (wd.setCells w.heap.size 0 [.int .i64 0, .int .i64 0, .int .i64 0, .int .i64 0, .int .i64 0, .int .i64 0, .int .i64 0, .int .i64 0])
                  generalize wd.setCells w.heap.size 0 [.int .i64 0, .int .i64 0, .int .i64 0, .int .i64 0, .int .i64 0, .int .i64 0, .int .i64 0, .int .i64 0] = X at *
                  have z0 : X.cell? ⟨w.heap.size, 0, none⟩ = some (.int .i64 0) := Joins.cell_of_block hXs 0
                  have z1 : X.cell? ⟨w.heap.size, 1, none⟩ = some (.int .i64 0) := Joins.cell_of_block hXs 1
                  have z2 : X.cell? ⟨w.heap.size, 2, none⟩ = some (.int .i64 0) := Joins.cell_of_block hXs 2
                  have z3 : X.cell? ⟨w.heap.size, 3, none⟩ = some (.int .i64 0) := Joins.cell_of_block hXs 3
                  have z4 : X.cell? ⟨w.heap.size, 4, none⟩ = some (.int .i64 0) := Joins.cell_of_block hXs 4
                  have z5 : X.cell? ⟨w.heap.size, 5, none⟩ = some (.int .i64 0) := Joins.cell_of_block hXs 5
                  have z6 : X.cell? ⟨w.heap.size, 6, none⟩ = some (.int .i64 0) := Joins.cell_of_block hXs 6
                  have z7 : X.cell? ⟨w.heap.size, 7, none⟩ = some (.int .i64 0) := Joins.cell_of_block hXs 7
                  clear hXs
                  go_wp2_with fail
                  exact bodyPost_ret (v := .tuple #[.agg #[.int .i64 0, .int .i64 0, .int .i64 0, .int .i64 0, .int .i64 0, .int .i64 0, .int .i64 0, .int .i64 0], .int .i64 2]) (by simp [results, Tryz.results9, go_sem, z0, z1, z2, z3, z4, z5, z6, z7]) rfl ⟨by rw [HBad.out.1, HBad.out.2]; rfl, hXb⟩
                · have hn : num b ≠ 0 := fun e => (by rw [(num_zero_iff b).1 e] at nb; cases nb)
                  have HSt : Hid (tl = (pre ++ [a, b]) ++ r ∧ stL tl 2 = (p, num b, t, r)) := ⟨by rw [hSt.out.1]; simp, stL_take1 (by have h := hSt.out.2; rw [HA.out] at h; exact h) hn⟩
                  have HO2 := Hid.mk' (HOc.out.set6 (num b : Nat))
                  have HB2 : Hid (Below w1.heap.size w1 (wd.setCell ⟨w1.heap.size, 6, none⟩ (.int .i64 (num b : Nat)))) := HBc.out.setCell (Nat.le_refl _) _
                  have c4 := HOc.out.c6
                  have f4 := HOc.out.fr 6
                  clear hn nb
                  go_wp2_with fail
                  go_roundg (3 - 2)
                  case measure => omega
                  case rel => exact ⟨2, p, num b, t, pre ++ [a, b], r, by omega, Nat.le_refl _, by go_num, by rw [List.length_append, ← Nat.add_assoc, HP5.out]; rfl, HSt.out, HO2.out, HB2.out⟩
              · have hd : decide (a ≠ wShow) = true := by rw [decide_eq_true_eq]; exact ha
                rw [hd]
                clear hd
                have HSt : Hid (tl = pre ++ (a :: b :: r) ∧ stL tl 2 = (p, s3, t, a :: b :: r)) := ⟨hSt.out.1, stL_skip1 hSt.out.2 ha⟩
                clear ha
                go_wp2_with fail
                go_roundg (3 - 2)
                case measure => omega
                case rel => exact ⟨2, p, s3, t, pre, a :: b :: r, by omega, Nat.le_refl _, by go_num, by rw [HP5.out], HSt.out, HOc.out, HBc.out⟩
          · go_upto_region 26 with fail
            go_cut [123] from 104 to 148 (fun s123 wx => s123 = .bool (decide (a ≠ wStop)) ∧ Aside (Below wr.heap.size wr wx))
            case first =>
              by_cases ha : a = wStop
              · have ha1 : (a == [115, 116, 111, 112]) = true := by rw [ha]; rfl
                go_region
                go_wp2_with fail
                go_meet
                case rel => exact ⟨congrArg Value.bool (by first | (simp [ha]; done) | (simp [ha]; rfl)), ((Below.refl _ _).alloc (Nat.le_refl _) _).drew⟩
              · have ha1 : (a == [115, 116, 111, 112]) = false := show (a == wStop) = false from beq_eq_false_iff_ne.2 ha
                go_region
                go_wp2_with fail
                go_meet
                case rel => exact ⟨congrArg Value.bool (by first | (simp [ha]; done) | (simp; exact ha)), ((Below.refl _ _).alloc (Nat.le_refl _) _).drew⟩
            case rest =>
              obtain ⟨rfl, hBx⟩ := hcut
              have HOc := Hid.mk' (hOB.out.on hBx.out)
              have HBc : Hid (Below w1.heap.size w1 wc) := hBl.out.trans (hBx.out.mono hBl.out.size)
              have HRc : Hid (wc.heap[w.heap.size]? = some (.cells #[.int .i64 0, .int .i64 0, .int .i64 0, .int .i64 0, .int .i64 0, .int .i64 0, .int .i64 0, .int .i64 0] 23 (0, 0))) := (hBx.out.block _ (heap_lt HRl.out)).trans HRl.out
              have HWc : Hid (Below w.heap.size w wc) := HBl.out.trans (hBx.out.mono HBl.out.size)
              have q2 := keeps hBx.out Q2.out
              clear q1 q3 SO hBx HRl HBl Q2
              by_cases ha : a = wStop
              · have hd : decide (a ≠ wStop) = false := by rw [decide_eq_false_iff_not]; exact fun e => e ha
                rw [hd]
                clear hd
                have HA : Hid (a = wStop) := ha
                clear ha
                go_wp2_with fail
                refine (rnum_list b _ Hbl.out).mono ?_
                rintro e wd ⟨rfl, rfl⟩
                cases nb : numOk b
                · have HBad : Hid (rdE s.data.toList = 2 ∧ rdR s.data.toList = zeroO) := rd_bad (by rw [HCut.out]; exact rd_left _ _ _ _ _ (stL_stuck2 (by have h := hSt.out.2; rw [HA.out] at h; exact h) ((num_zero_iff b).2 nb)))
                  go_upto_region 29 with fail
                  refine wp_region_lit ?_
                  iterate 1 (refine wpList_step fun K hK => ?_; go_simp; refine hK _ _ ?_; clear hK K; try simp only [Act.put, List.setIfInBounds_toArray, List.set_cons_zero, List.set_cons_succ])
                  refine wpList_store_mid rfl 23 (.tmp 2) (.tmp 135) rfl w.heap.size 0 #[.int .i64 0, .int .i64 0, .int .i64 0, .int .i64 0, .int .i64 0, .int .i64 0, .int .i64 0, .int .i64 0] rfl rfl (there8 HRc.out) (by kernel_rfl) (by simp [Value.oneCell']) ?_
                  have hXs := stored8 (.int .i64 0) (.int .i64 0) (.int .i64 0) (.int .i64 0) (.int .i64 0) (.int .i64 0) (.int .i64 0) (.int .i64 0) HRc.out
                  have hXb := below_setCells (Nat.le_refl _) [.int .i64 0, .int .i64 0, .int .i64 0, .int .i64 0, .int .i64 0, .int .i64 0, .int .i64 0, .int .i64 0] 0 _ HWc.out
                  show wpList _ _ _ _ _ (wd.setCells w.heap.size 0 [.int .i64 0, .int .i64 0, .int .i64 0, .int .i64 0, .int .i64 0, .int .i64 0, .int .i64 0, .int .i64 0])
                  generalize wd.setCells w.heap.size 0 [.int .i64 0, .int .i64 0, .int .i64 0, .int .i64 0, .int .i64 0, .int .i64 0, .int .i64 0, .int .i64 0] = X at *
                  have z0 : X.cell? ⟨w.heap.size, 0, none⟩ = some (.int .i64 0) := Joins.cell_of_block hXs 0
                  have z1 : X.cell? ⟨w.heap.size, 1, none⟩ = some (.int .i64 0) := Joins.cell_of_block hXs 1
                  have z2 : X.cell? ⟨w.heap.size, 2, none⟩ = some (.int .i64 0) := Joins.cell_of_block hXs 2
                  have z3 : X.cell? ⟨w.heap.size, 3, none⟩ = some (.int .i64 0) := Joins.cell_of_block hXs 3
                  have z4 : X.cell? ⟨w.heap.size, 4, none⟩ = some (.int .i64 0) := Joins.cell_of_block hXs 4
                  have z5 : X.cell? ⟨w.heap.size, 5, none⟩ = some (.int .i64 0) := Joins.cell_of_block hXs 5
                  have z6 : X.cell? ⟨w.heap.size, 6, none⟩ = some (.int .i64 0) := Joins.cell_of_block hXs 6
                  have z7 : X.cell? ⟨w.heap.size, 7, none⟩ = some (.int .i64 0) := Joins.cell_of_block hXs 7
                  clear hXs
                  go_wp2_with fail
                  exact bodyPost_ret (v := .tuple #[.agg #[.int .i64 0, .int .i64 0, .int .i64 0, .int .i64 0, .int .i64 0, .int .i64 0, .int .i64 0, .int .i64 0], .int .i64 2]) (by simp [results, Tryz.results9, go_sem, z0, z1, z2, z3, z4, z5, z6, z7]) rfl ⟨by rw [HBad.out.1, HBad.out.2]; rfl, hXb⟩
                · have hn : num b ≠ 0 := fun e => (by rw [(num_zero_iff b).1 e] at nb; cases nb)
                  have HSt : Hid (tl = (pre ++ [a, b]) ++ r ∧ stL tl 3 = (p, s3, num b, r)) := ⟨by rw [hSt.out.1]; simp, stL_take2 (by have h := hSt.out.2; rw [HA.out] at h; exact h) hn⟩
                  have HO2 := Hid.mk' (HOc.out.set7 (num b : Nat))
                  have HB2 : Hid (Below w1.heap.size w1 (wd.setCell ⟨w1.heap.size, 7, none⟩ (.int .i64 (num b : Nat)))) := HBc.out.setCell (Nat.le_refl _) _
                  have c4 := HOc.out.c7
                  have f4 := HOc.out.fr 7
                  clear hn nb
                  go_wp2_with fail
                  go_roundg (3 - 3)
                  case measure => omega
                  case rel => exact ⟨3, p, s3, num b, pre ++ [a, b], r, by omega, Nat.le_refl _, by go_num, by rw [List.length_append, ← Nat.add_assoc, HP5.out]; rfl, HSt.out, HO2.out, HB2.out⟩
              · have hd : decide (a ≠ wStop) = true := by rw [decide_eq_true_eq]; exact ha
                rw [hd]
                clear hd
                have HSt : Hid (tl = pre ++ (a :: b :: r) ∧ stL tl 3 = (p, s3, t, a :: b :: r)) := ⟨hSt.out.1, stL_skip2 hSt.out.2 ha⟩
                clear ha
                go_wp2_with fail
                go_roundg (3 - 3)
                case measure => omega
                case rel => exact ⟨3, p, s3, t, pre, a :: b :: r, by omega, Nat.le_refl _, by go_num, by rw [HP5.out], HSt.out, HOc.out, HBc.out⟩
        · have hgd : decide (m < 3 ∧ P5 + 1 < k) = false := by rw [decide_eq_false_iff_not]; exact hgo
          rw [hgd]
          clear hgd
          have HT3 : Hid (tail3 tl = (p, s3, t, rest)) := by
            by_cases hm : m < 3
            · exact stL_short hSt.out.2 (by omega)
            · have hm3 : m = 3 := by omega
              subst hm3
              exact hSt.out.2
          clear hgo hP5
          have o3 := hOB.out.c3
          have o4 := hOB.out.c4
          go_upto_region 37 with fail
          go_cut [161] from 149 to 161 (fun s161 wx => s161 = .bool (decide (¬ (rest = [] ∧ (p = 0 ↔ kindN E = 2)))) ∧ wx = wr)
          case first =>
            by_cases hre : rest = []
            · subst hre
              have hPk : P5 = k := by simpa using hPle
              subst hPk
              by_cases hk2 : kindN E = 2
              · have hb1 : (((kindN E : Nat) : Int) == 2) = true := by rw [hk2]; rfl
                by_cases hp0 : p = 0
                · have hb2 : (((p : Nat) : Int) == 0) = true := by rw [hp0]; rfl
                  have HKP : Hid (decide (¬ (([] : List (List UInt8)) = [] ∧ (p = 0 ↔ kindN E = 2))) = false) := (show _ = _ by rw [decide_eq_false_iff_not]; exact fun h => h ⟨rfl, by omega⟩)
                  clear hk2 hp0
                  go_wp2_with fail
                  go_meet
                  case rel => exact ⟨congrArg Value.bool HKP.out.symm, rfl⟩
                · have hb2 : (((p : Nat) : Int) == 0) = false := by simp; omega
                  have HKP : Hid (decide (¬ (([] : List (List UInt8)) = [] ∧ (p = 0 ↔ kindN E = 2))) = true) := (show _ = _ by rw [decide_eq_true_eq]; exact fun h => (show ¬ (p = 0 ↔ kindN E = 2) by omega) h.2)
                  clear hk2 hp0
                  go_wp2_with fail
                  go_meet
                  case rel => exact ⟨congrArg Value.bool HKP.out.symm, rfl⟩
              · have hb1 : (((kindN E : Nat) : Int) == 2) = false := by simp; omega
                by_cases hp0 : p = 0
                · have hb2 : (((p : Nat) : Int) == 0) = true := by rw [hp0]; rfl
                  have HKP : Hid (decide (¬ (([] : List (List UInt8)) = [] ∧ (p = 0 ↔ kindN E = 2))) = true) := (show _ = _ by rw [decide_eq_true_eq]; exact fun h => (show ¬ (p = 0 ↔ kindN E = 2) by omega) h.2)
                  clear hk2 hp0
                  go_wp2_with fail
                  go_meet
                  case rel => exact ⟨congrArg Value.bool HKP.out.symm, rfl⟩
                · have hb2 : (((p : Nat) : Int) == 0) = false := by simp; omega
                  have HKP : Hid (decide (¬ (([] : List (List UInt8)) = [] ∧ (p = 0 ↔ kindN E = 2))) = false) := (show _ = _ by rw [decide_eq_false_iff_not]; exact fun h => h ⟨rfl, by omega⟩)
                  clear hk2 hp0
                  go_wp2_with fail
                  go_meet
                  case rel => exact ⟨congrArg Value.bool HKP.out.symm, rfl⟩
            · have hPk : P5 < k := by cases rest with | nil => exact absurd rfl hre | cons _ _ => (simp at hPle; omega)
              have hPk1 : ((P5 : Int) != (k : Int)) = true := by rw [bne_iff_ne]; omega
              have HKP : Hid (decide (¬ (rest = [] ∧ (p = 0 ↔ kindN E = 2))) = true) := (show _ = _ by rw [decide_eq_true_eq]; exact fun h => hre h.1)
              clear hre
              go_wp2_with fail
              go_meet
              case rel => exact ⟨congrArg Value.bool HKP.out.symm, rfl⟩
          case rest =>
          obtain ⟨rfl, hw⟩ := hcut
          rw [hw]
          clear hw
          by_cases hbd : ¬ (rest = [] ∧ (p = 0 ↔ kindN E = 2))
          · have hgd : decide (¬ (rest = [] ∧ (p = 0 ↔ kindN E = 2))) = true := by rw [decide_eq_true_eq]; exact hbd
            rw [hgd]
            have HBad : Hid (rdE s.data.toList = 2 ∧ rdR s.data.toList = zeroO) := rd_bad (by rw [HCut.out]; exact rd_no _ _ _ _ _ HT3.out hbd)
            clear hgd hbd
            go_upto_region 38 with fail
            refine wp_region_lit ?_
            iterate 1 (refine wpList_step fun K hK => ?_; go_simp; refine hK _ _ ?_; clear hK K; try simp only [Act.put, List.setIfInBounds_toArray, List.set_cons_zero, List.set_cons_succ])
            refine wpList_store_mid rfl 23 (.tmp 2) (.tmp 162) rfl w.heap.size 0 #[.int .i64 0, .int .i64 0, .int .i64 0, .int .i64 0, .int .i64 0, .int .i64 0, .int .i64 0, .int .i64 0] rfl rfl (there8 HRl.out) (by kernel_rfl) (by simp [Value.oneCell']) ?_
            have hXs := stored8 (.int .i64 0) (.int .i64 0) (.int .i64 0) (.int .i64 0) (.int .i64 0) (.int .i64 0) (.int .i64 0) (.int .i64 0) HRl.out
            have hXb := below_setCells (Nat.le_refl _) [.int .i64 0, .int .i64 0, .int .i64 0, .int .i64 0, .int .i64 0, .int .i64 0, .int .i64 0, .int .i64 0] 0 _ HBl.out
            show wpList _ _ _ _ _ (wr.setCells w.heap.size 0 [.int .i64 0, .int .i64 0, .int .i64 0, .int .i64 0, .int .i64 0, .int .i64 0, .int .i64 0, .int .i64 0])
            generalize wr.setCells w.heap.size 0 [.int .i64 0, .int .i64 0, .int .i64 0, .int .i64 0, .int .i64 0, .int .i64 0, .int .i64 0, .int .i64 0] = X at *
            have z0 : X.cell? ⟨w.heap.size, 0, none⟩ = some (.int .i64 0) := Joins.cell_of_block hXs 0
            have z1 : X.cell? ⟨w.heap.size, 1, none⟩ = some (.int .i64 0) := Joins.cell_of_block hXs 1
            have z2 : X.cell? ⟨w.heap.size, 2, none⟩ = some (.int .i64 0) := Joins.cell_of_block hXs 2
            have z3 : X.cell? ⟨w.heap.size, 3, none⟩ = some (.int .i64 0) := Joins.cell_of_block hXs 3
            have z4 : X.cell? ⟨w.heap.size, 4, none⟩ = some (.int .i64 0) := Joins.cell_of_block hXs 4
            have z5 : X.cell? ⟨w.heap.size, 5, none⟩ = some (.int .i64 0) := Joins.cell_of_block hXs 5
            have z6 : X.cell? ⟨w.heap.size, 6, none⟩ = some (.int .i64 0) := Joins.cell_of_block hXs 6
            have z7 : X.cell? ⟨w.heap.size, 7, none⟩ = some (.int .i64 0) := Joins.cell_of_block hXs 7
            clear hXs
            go_wp2_with fail
            exact bodyPost_ret (v := .tuple #[.agg #[.int .i64 0, .int .i64 0, .int .i64 0, .int .i64 0, .int .i64 0, .int .i64 0, .int .i64 0, .int .i64 0], .int .i64 2]) (by simp [results, Tryz.results9, go_sem, z0, z1, z2, z3, z4, z5, z6, z7]) rfl ⟨by rw [HBad.out.1, HBad.out.2]; rfl, hXb⟩
          · have hgd : decide (¬ (rest = [] ∧ (p = 0 ↔ kindN E = 2))) = false := by rw [decide_eq_false_iff_not]; exact hbd
            rw [hgd]
            have HKP : Hid (rest = [] ∧ (p = 0 ↔ kindN E = 2)) := Classical.byContradiction hbd
            clear hgd hbd
            have HG : Hid (rdE s.data.toList = chk ⟨num A, num B, sideN C, kindN E, p, num F, s3, t⟩ ∧ (rdE s.data.toList = 0 → rdR s.data.toList = ⟨num A, num B, sideN C, kindN E, p, num F, s3, t⟩) ∧ (rdE s.data.toList ≠ 0 → rdR s.data.toList = zeroO)) := rd_ok HCut.out HNZ.out (by rw [HT3.out, HKP.out.1]) HKP.out.2
            have o0 := hOB.out.c0
            have o1 := hOB.out.c1
            have o2 := hOB.out.c2
            have o5 := hOB.out.c5
            have o6 := hOB.out.c6
            have o7 := hOB.out.c7
            go_wp2_with fail
            refine (rord_any ⟨num A, num B, sideN C, kindN E, p, num F, s3, t⟩ _).mono ?_
            rintro e wo ⟨rfl, hbo⟩
            obtain ⟨ck, hck⟩ : ∃ ck, chk ⟨num A, num B, sideN C, kindN E, p, num F, s3, t⟩ = ck := ⟨_, rfl⟩
            rw [hck] at HG ⊢
            clear hck
            have HRo : Hid (wo.heap[w.heap.size]? = some (.cells #[.int .i64 0, .int .i64 0, .int .i64 0, .int .i64 0, .int .i64 0, .int .i64 0, .int .i64 0, .int .i64 0] 23 (0, 0))) := (hbo.block _ (heap_lt HRl.out)).trans HRl.out
            have HWo : Hid (Below w.heap.size w wo) := HBl.out.trans (hbo.mono HBl.out.size)
            have HOo := Hid.mk' (hOB.out.on hbo)
            clear hbo o0 o1 o2 o3 o4 o5 o6 o7 HRl HBl
            by_cases hc0 : ck = 0
            · subst hc0
              have o0 := HOo.out.c0
              have o1 := HOo.out.c1
              have o2 := HOo.out.c2
              have o3 := HOo.out.c3
              have o4 := HOo.out.c4
              have o5 := HOo.out.c5
              have o6 := HOo.out.c6
              have o7 := HOo.out.c7
              go_upto_region 42 with fail
              refine wp_region_lit ?_
              iterate 1 (refine wpList_step fun K hK => ?_; go_simp; refine hK _ _ ?_; clear hK K; try simp only [Act.put, List.setIfInBounds_toArray, List.set_cons_zero, List.set_cons_succ])
              refine wpList_store_mid rfl 23 (.tmp 2) (.tmp 169) rfl w.heap.size 0 #[.int .i64 (num A : Nat), .int .i64 (num B : Nat), .int .i64 (sideN C : Nat), .int .i64 (kindN E : Nat), .int .i64 (p : Nat), .int .i64 (num F : Nat), .int .i64 (s3 : Nat), .int .i64 (t : Nat)] rfl rfl (there8 HRo.out) (by kernel_rfl) (by simp [Value.oneCell']) ?_
              have hXs := stored8 (.int .i64 (num A : Nat)) (.int .i64 (num B : Nat)) (.int .i64 (sideN C : Nat)) (.int .i64 (kindN E : Nat)) (.int .i64 (p : Nat)) (.int .i64 (num F : Nat)) (.int .i64 (s3 : Nat)) (.int .i64 (t : Nat)) HRo.out
              have hXb := below_setCells (Nat.le_refl _) [.int .i64 (num A : Nat), .int .i64 (num B : Nat), .int .i64 (sideN C : Nat), .int .i64 (kindN E : Nat), .int .i64 (p : Nat), .int .i64 (num F : Nat), .int .i64 (s3 : Nat), .int .i64 (t : Nat)] 0 _ HWo.out
              show wpList _ _ _ _ _ (wo.setCells w.heap.size 0 [.int .i64 (num A : Nat), .int .i64 (num B : Nat), .int .i64 (sideN C : Nat), .int .i64 (kindN E : Nat), .int .i64 (p : Nat), .int .i64 (num F : Nat), .int .i64 (s3 : Nat), .int .i64 (t : Nat)])
              generalize wo.setCells w.heap.size 0 [.int .i64 (num A : Nat), .int .i64 (num B : Nat), .int .i64 (sideN C : Nat), .int .i64 (kindN E : Nat), .int .i64 (p : Nat), .int .i64 (num F : Nat), .int .i64 (s3 : Nat), .int .i64 (t : Nat)] = X at *
              have z0 : X.cell? ⟨w.heap.size, 0, none⟩ = some (.int .i64 (num A : Nat)) := Joins.cell_of_block hXs 0
              have z1 : X.cell? ⟨w.heap.size, 1, none⟩ = some (.int .i64 (num B : Nat)) := Joins.cell_of_block hXs 1
              have z2 : X.cell? ⟨w.heap.size, 2, none⟩ = some (.int .i64 (sideN C : Nat)) := Joins.cell_of_block hXs 2
              have z3 : X.cell? ⟨w.heap.size, 3, none⟩ = some (.int .i64 (kindN E : Nat)) := Joins.cell_of_block hXs 3
              have z4 : X.cell? ⟨w.heap.size, 4, none⟩ = some (.int .i64 (p : Nat)) := Joins.cell_of_block hXs 4
              have z5 : X.cell? ⟨w.heap.size, 5, none⟩ = some (.int .i64 (num F : Nat)) := Joins.cell_of_block hXs 5
              have z6 : X.cell? ⟨w.heap.size, 6, none⟩ = some (.int .i64 (s3 : Nat)) := Joins.cell_of_block hXs 6
              have z7 : X.cell? ⟨w.heap.size, 7, none⟩ = some (.int .i64 (t : Nat)) := Joins.cell_of_block hXs 7
              clear hXs
              go_wp2_with fail
              exact bodyPost_ret (v := .tuple #[.agg #[.int .i64 (num A : Nat), .int .i64 (num B : Nat), .int .i64 (sideN C : Nat), .int .i64 (kindN E : Nat), .int .i64 (p : Nat), .int .i64 (num F : Nat), .int .i64 (s3 : Nat), .int .i64 (t : Nat)], .int .i64 0]) (by simp [results, Tryz.results9, go_sem, z0, z1, z2, z3, z4, z5, z6, z7]) rfl ⟨by rw [HG.out.1, HG.out.2.1 HG.out.1]; rfl, hXb⟩
            · have hc1 : (ck != 0) = true := by simp [hc0]
              have HE2 : Hid (rdE s.data.toList = ck ∧ rdR s.data.toList = zeroO) := ⟨HG.out.1, HG.out.2.2 (by rw [HG.out.1]; exact hc0)⟩
              go_upto_region 41 with fail
              refine wp_region_lit ?_
              iterate 2 (refine wpList_step fun K hK => ?_; go_simp; refine hK _ _ ?_; clear hK K; try simp only [Act.put, List.setIfInBounds_toArray, List.set_cons_zero, List.set_cons_succ])
              refine wpList_store_mid rfl 23 (.tmp 2) (.tmp 167) rfl w.heap.size 0 #[.int .i64 0, .int .i64 0, .int .i64 0, .int .i64 0, .int .i64 0, .int .i64 0, .int .i64 0, .int .i64 0] rfl rfl (there8 HRo.out) (by kernel_rfl) (by simp [Value.oneCell']) ?_
              have hXs := stored8 (.int .i64 0) (.int .i64 0) (.int .i64 0) (.int .i64 0) (.int .i64 0) (.int .i64 0) (.int .i64 0) (.int .i64 0) HRo.out
              have hXb := below_setCells (Nat.le_refl _) [.int .i64 0, .int .i64 0, .int .i64 0, .int .i64 0, .int .i64 0, .int .i64 0, .int .i64 0, .int .i64 0] 0 _ HWo.out
              show wpList _ _ _ _ _ (wo.setCells w.heap.size 0 [.int .i64 0, .int .i64 0, .int .i64 0, .int .i64 0, .int .i64 0, .int .i64 0, .int .i64 0, .int .i64 0])
              generalize wo.setCells w.heap.size 0 [.int .i64 0, .int .i64 0, .int .i64 0, .int .i64 0, .int .i64 0, .int .i64 0, .int .i64 0, .int .i64 0] = X at *
              have z0 : X.cell? ⟨w.heap.size, 0, none⟩ = some (.int .i64 0) := Joins.cell_of_block hXs 0
              have z1 : X.cell? ⟨w.heap.size, 1, none⟩ = some (.int .i64 0) := Joins.cell_of_block hXs 1
              have z2 : X.cell? ⟨w.heap.size, 2, none⟩ = some (.int .i64 0) := Joins.cell_of_block hXs 2
              have z3 : X.cell? ⟨w.heap.size, 3, none⟩ = some (.int .i64 0) := Joins.cell_of_block hXs 3
              have z4 : X.cell? ⟨w.heap.size, 4, none⟩ = some (.int .i64 0) := Joins.cell_of_block hXs 4
              have z5 : X.cell? ⟨w.heap.size, 5, none⟩ = some (.int .i64 0) := Joins.cell_of_block hXs 5
              have z6 : X.cell? ⟨w.heap.size, 6, none⟩ = some (.int .i64 0) := Joins.cell_of_block hXs 6
              have z7 : X.cell? ⟨w.heap.size, 7, none⟩ = some (.int .i64 0) := Joins.cell_of_block hXs 7
              clear hXs
              go_wp2_with fail
              exact bodyPost_ret (v := .tuple #[.agg #[.int .i64 0, .int .i64 0, .int .i64 0, .int .i64 0, .int .i64 0, .int .i64 0, .int .i64 0, .int .i64 0], .int .i64 ck]) (by simp [results, Tryz.results9, go_sem, z0, z1, z2, z3, z4, z5, z6, z7]) rfl ⟨by rw [HE2.out.1, HE2.out.2]; rfl, hXb⟩

end Go.Proofs.YtpcomgnglidhhaaGreatDoor.ord
