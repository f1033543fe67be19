/- Contracts over this seat's translation: package order's read, at every text. -/
import Derived.Test.YtpcomgnglidhhaaGreatDoorOrdRead3
namespace Go.Proofs.YtpcomgnglidhhaaGreatDoor.ord
open Go.RowKit

attribute [local go_sem ↓] Go.wp_at_zero Go.wp_at_succ

set_option linter.unusedSimpArgs false in
set_option linter.unusedVariables false in
set_option maxRecDepth 100000 in
set_option maxHeartbeats 2000000 in
theorem read_long (s : ByteArray) (a b c d e : List UInt8) (tl : List (List UInt8)) (w : World) (hL : Laid w) (hE : ErrL w) (hs : s.size ≤ 9223372036854775806) (hws : cutK 11 s.data.toList = a :: b :: c :: d :: e :: tl) (hwd : ∀ l ∈ a :: b :: c :: d :: e :: tl, l.length ≤ maxLen) :
    Calls Tryz.prog 31 #[.string s] w fun e' w' => e' = .returned (.tuple #[oV (rdO (a :: b :: c :: d :: e :: tl)), .bool (rdB (a :: b :: c :: d :: e :: tl))]) ∧ Below w.heap.size w w' := by
  have hcon := fun W => splitN_row s W hs
  rw [hws] at hcon
  have HC : Hid (∀ W : World, Calls Tryz.prog 40 #[.string s, .string ⟨#[32]⟩, .int .i64 12] W fun e' w' => ∃ cap, e' = .returned (.slice (some ⟨W.heap.size, 0, none⟩) (a :: b :: c :: d :: e :: tl).length cap) ∧ (a :: b :: c :: d :: e :: tl).length ≤ cap ∧ cap ≤ 12 ∧ RowAt w' W.heap.size 0 (a :: b :: c :: d :: e :: tl) ∧ Below W.heap.size W w') := hcon
  clear hcon hws
  obtain ⟨n, hn⟩ : ∃ n, (a :: b :: c :: d :: e :: tl).length = n := ⟨_, rfl⟩
  rw [hn] at HC
  have hn5 : n = tl.length + 5 := by rw [← hn]; simp
  have h5 : ¬ ((n : Int) < 5) := by omega
  have k0 : (0 : Int) < (n : Int) := by omega
  have k1 : (1 : Int) < (n : Int) := by omega
  have k0' : 0 < n := by omega
  have k4 : (4 : Int) < (n : Int) := by omega
  have hn5' : 5 ≤ n := by omega
  have HN : Hid (n = tl.length + 5) := hn5
  have wa := hwd a (by simp)
  have wb := hwd b (by simp)
  have we := hwd e (by simp)
  have WT : Hid (∀ l ∈ tl, l.length ≤ maxLen) := fun l hl => hwd l (by simp [hl])
  clear hn hn5 hwd
  go_enter Tryz.func31, Tryz.ntmps31
  go_wp2_with fail
  refine (HC.out _).mono ?_
  rintro e' w1 ⟨cap, rfl, h1, h2, h3, hb⟩
  have HR : Hid (RowAt w1 (w.alloc (.cells #[.int .i64 0, .int .i64 0, .int .i64 0, .int .i64 0, .int .i64 0, .int .i64 0, .int .i64 0, .int .i64 0] 23)).heap.size 0 (a :: b :: c :: d :: e :: tl)) := h3
  clear h3 HC
  have hW : Below w.heap.size w w1 := ((Below.refl _ _).alloc (Nat.le_refl _) _).trans (hb.mono (by simp))
  have r0 : w1.heap[w.heap.size]? = some (.cells #[.int .i64 0, .int .i64 0, .int .i64 0, .int .i64 0, .int .i64 0, .int .i64 0, .int .i64 0, .int .i64 0] 23 (0, 0)) := (hb.block w.heap.size (by simp)).trans (heap_alloc_new _ _)
  have HW : Hid (Below w.heap.size w w1) := hW
  have HR0 : Hid (w1.heap[w.heap.size]? = some (.cells #[.int .i64 0, .int .i64 0, .int .i64 0, .int .i64 0, .int .i64 0, .int .i64 0, .int .i64 0, .int .i64 0] 23 (0, 0))) := r0
  have hg : w.heap.size + 1 < w1.heap.size := by
    have := World.block_lt_of_cell? _ _ (HR.out 0 a rfl)
    simpa using this
  have hz : (w.alloc (.cells #[.int .i64 0, .int .i64 0, .int .i64 0, .int .i64 0, .int .i64 0, .int .i64 0, .int .i64 0, .int .i64 0] 23)).heap.size = w.heap.size + 1 := by simp
  rw [hz] at HR
  clear hb hW r0 hz
  go_upto_region 4 with fail
  generalize w.heap.size + 1 = g at *
  -- the world ahead of the region
  have hV : ∀ j l, (a :: b :: c :: d :: e :: tl)[j]? = some l → (w1.alloc (.cells #[.slice (some ⟨g, 0, none⟩) n cap] 49)).cell? ⟨g, 0 + j, none⟩ = some (.string ⟨l.toArray⟩) := fun j l hj => keeps ((Below.refl _ _).alloc (Nat.le_refl _) _) (HR.out j l hj)
  have v0 := hV 0 a rfl
  have v1 := hV 1 b rfl
  have v2 := hV 2 c rfl
  have v3 := hV 3 d rfl
  have v4 := hV 4 e rfl
  have vw : (w1.alloc (.cells #[.slice (some ⟨g, 0, none⟩) n cap] 49)).cell? ⟨w1.heap.size, 0, none⟩ = some (.slice (some ⟨g, 0, none⟩) n cap) := by simp
  have LV : Laid (w1.alloc (.cells #[.slice (some ⟨g, 0, none⟩) n cap] 49)) := (hL.below HW.out).alloc _
  have EV : ErrL (w1.alloc (.cells #[.slice (some ⟨g, 0, none⟩) n cap] 49)) := (hE.below HW.out).below ((Below.refl _ _).alloc (Nat.le_refl _) _)
  have HV : Hid (∀ j l, (a :: b :: c :: d :: e :: tl)[j]? = some l → (w1.alloc (.cells #[.slice (some ⟨g, 0, none⟩) n cap] 49)).cell? ⟨g, 0 + j, none⟩ = some (.string ⟨l.toArray⟩)) := hV
  have HVW : Hid (Below w1.heap.size w1 (w1.alloc (.cells #[.slice (some ⟨g, 0, none⟩) n cap] 49))) := (Below.refl _ _).alloc (Nat.le_refl _) _
  clear hV HR
  generalize w1.alloc (.cells #[.slice (some ⟨g, 0, none⟩) n cap] 49) = V at *
  generalize hBz : w1.heap.size = B at *
  have HBz : Hid (B = w1.heap.size) := hBz.symm
  clear hBz
  simp only [Nat.zero_add, Nat.add_zero] at v0 v1 v2 v3 v4
  have SO : Hid (∀ W, Below V.heap.size V W → (Below V.heap.size V W ∧ W.cell? ⟨B, 0, none⟩ = some (.slice (some ⟨g, 0, none⟩) n cap) ∧ W.cell? ⟨g, 0, none⟩ = some (.string ⟨a.toArray⟩) ∧ W.cell? ⟨g, 1, none⟩ = some (.string ⟨b.toArray⟩) ∧ W.cell? ⟨g, 4, none⟩ = some (.string ⟨e.toArray⟩))) := fun W hW => ⟨hW, keeps hW vw, keeps hW v0, keeps hW v1, keeps hW v4⟩
  go_cut [5] from 15 to 31 (fun s5 wx => ∃ b5, s5 = .pointer (some ⟨b5, 0, none⟩) ∧ V.heap.size ≤ b5 ∧ wx.heap[b5]? = some (.cells #[.int .i64 (num a), .int .i64 (num b), .int .i64 (sideN c), .int .i64 (kindN d), .int .i64 0, .int .i64 (num e), .int .i64 0, .int .i64 0] 23 (0, 0)) ∧ Below V.heap.size V wx)
  case first =>
    refine wp_region_noPanic ?_
    refine wp_region_held_drew (S := (fun w' => Below V.heap.size V w' ∧ w'.cell? ⟨B, 0, none⟩ = some (.slice (some ⟨g, 0, none⟩) n cap) ∧ w'.cell? ⟨g, 0, none⟩ = some (.string ⟨a.toArray⟩) ∧ w'.cell? ⟨g, 1, none⟩ = some (.string ⟨b.toArray⟩) ∧ w'.cell? ⟨g, 4, none⟩ = some (.string ⟨e.toArray⟩))) (by kernel_rfl) ?_ (fun hHeld => ?_)
    · exact SO.out _ (Below.refl _ _).drew
    refine wpAnyH_take (i := 0) (oi := _) (v := .slice (some ⟨g, 0, none⟩) n cap) rfl (by kernel_rfl) (by kernel_rfl) (by kernel_rfl) (fun _ _ _ h => h) (Or.inl ⟨by rfl, ?_⟩) (by assumption) ?_
    · intro w hSw
      obtain ⟨hS0, hS1, hS2, hS3, hS4⟩ := hSw
      go_simp
    try simp only [Act.put, List.setIfInBounds_toArray, List.set_cons_zero, List.set_cons_succ, List.getElem_toArray, List.getElem_cons_succ, List.getElem_cons_zero]
    refine wpAnyH_take (i := 4) (oi := _) (v := .slice (some ⟨g, 0, none⟩) n cap) rfl (by kernel_rfl) (by kernel_rfl) (by kernel_rfl) (fun _ _ _ h => h) (Or.inl ⟨by rfl, ?_⟩) (by assumption) ?_
    · intro w hSw
      obtain ⟨hS0, hS1, hS2, hS3, hS4⟩ := hSw
      go_simp
    try simp only [Act.put, List.setIfInBounds_toArray, List.set_cons_zero, List.set_cons_succ, List.getElem_toArray, List.getElem_cons_succ, List.getElem_cons_zero]
    refine wpAnyH_take (i := 12) (oi := _) (v := .slice (some ⟨g, 0, none⟩) n cap) rfl (by kernel_rfl) (by kernel_rfl) (by kernel_rfl) (fun _ _ _ h => h) (Or.inl ⟨by rfl, ?_⟩) (by assumption) ?_
    · intro w hSw
      obtain ⟨hS0, hS1, hS2, hS3, hS4⟩ := hSw
      go_simp
    try simp only [Act.put, List.setIfInBounds_toArray, List.set_cons_zero, List.set_cons_succ, List.getElem_toArray, List.getElem_cons_succ, List.getElem_cons_zero]
    refine wpAnyH_take (i := 1) (oi := _) (v := .pointer (some ⟨g, 0, none⟩)) rfl (by kernel_rfl) (by kernel_rfl) (by kernel_rfl) (fun _ _ _ h => h) (Or.inl ⟨by rfl, ?_⟩) (by assumption) ?_
    · intro w hSw
      obtain ⟨hS0, hS1, hS2, hS3, hS4⟩ := hSw
      go_simp
    try simp only [Act.put, List.setIfInBounds_toArray, List.set_cons_zero, List.set_cons_succ, List.getElem_toArray, List.getElem_cons_succ, List.getElem_cons_zero]
    refine wpAnyH_take (i := 5) (oi := _) (v := .pointer (some ⟨g, 1, none⟩)) rfl (by kernel_rfl) (by kernel_rfl) (by kernel_rfl) (fun _ _ _ h => h) (Or.inl ⟨by rfl, ?_⟩) (by assumption) ?_
    · intro w hSw
      obtain ⟨hS0, hS1, hS2, hS3, hS4⟩ := hSw
      go_simp
    try simp only [Act.put, List.setIfInBounds_toArray, List.set_cons_zero, List.set_cons_succ, List.getElem_toArray, List.getElem_cons_succ, List.getElem_cons_zero]
    refine wpAnyH_take (i := 13) (oi := _) (v := .pointer (some ⟨g, 4, none⟩)) rfl (by kernel_rfl) (by kernel_rfl) (by kernel_rfl) (fun _ _ _ h => h) (Or.inl ⟨by rfl, ?_⟩) (by assumption) ?_
    · intro w hSw
      obtain ⟨hS0, hS1, hS2, hS3, hS4⟩ := hSw
      go_simp
    try simp only [Act.put, List.setIfInBounds_toArray, List.set_cons_zero, List.set_cons_succ, List.getElem_toArray, List.getElem_cons_succ, List.getElem_cons_zero]
    refine wpAnyH_take (i := 2) (oi := _) (v := .string ⟨a.toArray⟩) rfl (by kernel_rfl) (by kernel_rfl) (by kernel_rfl) (fun _ _ _ h => h) (Or.inl ⟨by rfl, ?_⟩) (by assumption) ?_
    · intro w hSw
      obtain ⟨hS0, hS1, hS2, hS3, hS4⟩ := hSw
      go_simp
    try simp only [Act.put, List.setIfInBounds_toArray, List.set_cons_zero, List.set_cons_succ, List.getElem_toArray, List.getElem_cons_succ, List.getElem_cons_zero]
    refine wpAnyH_take (i := 6) (oi := _) (v := .string ⟨b.toArray⟩) rfl (by kernel_rfl) (by kernel_rfl) (by kernel_rfl) (fun _ _ _ h => h) (Or.inl ⟨by rfl, ?_⟩) (by assumption) ?_
    · intro w hSw
      obtain ⟨hS0, hS1, hS2, hS3, hS4⟩ := hSw
      go_simp
    try simp only [Act.put, List.setIfInBounds_toArray, List.set_cons_zero, List.set_cons_succ, List.getElem_toArray, List.getElem_cons_succ, List.getElem_cons_zero]
    refine wpAnyH_take (i := 14) (oi := _) (v := .string ⟨e.toArray⟩) rfl (by kernel_rfl) (by kernel_rfl) (by kernel_rfl) (fun _ _ _ h => h) (Or.inl ⟨by rfl, ?_⟩) (by assumption) ?_
    · intro w hSw
      obtain ⟨hS0, hS1, hS2, hS3, hS4⟩ := hSw
      go_simp
    try simp only [Act.put, List.setIfInBounds_toArray, List.set_cons_zero, List.set_cons_succ, List.getElem_toArray, List.getElem_cons_succ, List.getElem_cons_zero]
    refine wpAnyH_take (i := 8) (oi := _) (v := .func (.func 43) #[] #[.pointer (some ⟨B, 0, none⟩)]) rfl (by kernel_rfl) (by kernel_rfl) (by kernel_rfl) (fun _ _ _ h => h) (Or.inl ⟨by rfl, ?_⟩) (by assumption) ?_
    · intro w hSw
      obtain ⟨hS0, hS1, hS2, hS3, hS4⟩ := hSw
      go_simp
    try simp only [Act.put, List.setIfInBounds_toArray, List.set_cons_zero, List.set_cons_succ, List.getElem_toArray, List.getElem_cons_succ, List.getElem_cons_zero]
    refine wpAnyH_take (i := 10) (oi := _) (v := .func (.func 44) #[] #[.pointer (some ⟨B, 0, none⟩)]) rfl (by kernel_rfl) (by kernel_rfl) (by kernel_rfl) (fun _ _ _ h => h) (Or.inl ⟨by rfl, ?_⟩) (by assumption) ?_
    · intro w hSw
      obtain ⟨hS0, hS1, hS2, hS3, hS4⟩ := hSw
      go_simp
    try simp only [Act.put, List.setIfInBounds_toArray, List.set_cons_zero, List.set_cons_succ, List.getElem_toArray, List.getElem_cons_succ, List.getElem_cons_zero]
    refine wpAnyH_ready (rs := [3, 17]) (by kernel_rfl) (by simp) ?_
    refine AllReadyH.cons (o := _) rfl (fun K hK => ?_) (AllReadyH.cons (o := _) rfl (fun K hK => ?_) AllReadyH.nil)
    rotate_left
    · go_simp
      refine hK.out _ _ ?_ (fun hHeld => ?_)
      · exact SO.out _ ((Below.refl _ V).alloc (Nat.le_refl _) _).drew
      clear hK K
      try simp only [Act.put, List.setIfInBounds_toArray, List.set_cons_zero, List.set_cons_succ, List.getElem_toArray, List.getElem_cons_succ, List.getElem_cons_zero]
      refine wpAnyH_ready (rs := [3]) (by kernel_rfl) (by simp) ?_
      refine AllReadyH.cons (o := _) rfl (fun K hK => ?_) AllReadyH.nil
      go_simp
      refine (numberV V LV EV _ _ wa ?_).mono ?_
      · exact ((Below.refl _ V).alloc (Nat.le_refl _) _).drew
      rintro e' x1 ⟨rfl, hb1, hw1⟩
      try go_wp2_with fail
      refine hK.out _ _ ?_ (fun hHeld => ?_)
      · exact SO.out _ hb1
      clear hK K
      try simp only [Act.put, List.setIfInBounds_toArray, List.set_cons_zero, List.set_cons_succ, List.getElem_toArray, List.getElem_cons_succ, List.getElem_cons_zero]
      have zb1 : Hid (x1.heap[V.heap.size]? = some (.cells #[.int .i64 0, .int .i64 0, .int .i64 0, .int .i64 0, .int .i64 0, .int .i64 0, .int .i64 0, .int .i64 0] 23 (0, 0))) := (hw1.block _ (by simp)).trans (show (V.alloc (.cells #[.int .i64 0, .int .i64 0, .int .i64 0, .int .i64 0, .int .i64 0, .int .i64 0, .int .i64 0, .int .i64 0] 23)).drew.heap[V.heap.size]? = _ from heap_alloc_new V _)
      have lt1 : V.heap.size < x1.heap.size := by (have h2 := hw1.size; simp at h2; omega)
      refine wpAnyH_ready (rs := [7]) (by kernel_rfl) (by simp) ?_
      refine AllReadyH.cons (o := _) rfl (fun K hK => ?_) AllReadyH.nil
      go_simp
      refine (numberV V LV EV _ _ wb ?_).mono ?_
      · exact hb1
      rintro e' x2 ⟨rfl, hb2, hw2⟩
      try go_wp2_with fail
      refine hK.out _ _ ?_ (fun hHeld => ?_)
      · exact SO.out _ hb2
      clear hK K
      try simp only [Act.put, List.setIfInBounds_toArray, List.set_cons_zero, List.set_cons_succ, List.getElem_toArray, List.getElem_cons_succ, List.getElem_cons_zero]
      have zb2 : Hid (x2.heap[V.heap.size]? = some (.cells #[.int .i64 0, .int .i64 0, .int .i64 0, .int .i64 0, .int .i64 0, .int .i64 0, .int .i64 0, .int .i64 0] 23 (0, 0))) := (hw2.block _ lt1).trans zb1.out
      have lt2 : V.heap.size < x2.heap.size := by (exact Nat.lt_of_lt_of_le lt1 hw2.size)
      refine wpAnyH_ready (rs := [9]) (by kernel_rfl) (by simp) ?_
      refine AllReadyH.cons (o := _) rfl (fun K hK => ?_) AllReadyH.nil
      go_simp
      refine (sideV V LV B g n cap c vw v2 hn5' _ ?_).mono ?_
      · exact hb2
      rintro e' x3 ⟨rfl, hb3, hw3⟩
      try go_wp2_with fail
      refine hK.out _ _ ?_ (fun hHeld => ?_)
      · exact SO.out _ hb3
      clear hK K
      try simp only [Act.put, List.setIfInBounds_toArray, List.set_cons_zero, List.set_cons_succ, List.getElem_toArray, List.getElem_cons_succ, List.getElem_cons_zero]
      have zb3 : Hid (x3.heap[V.heap.size]? = some (.cells #[.int .i64 0, .int .i64 0, .int .i64 0, .int .i64 0, .int .i64 0, .int .i64 0, .int .i64 0, .int .i64 0] 23 (0, 0))) := (hw3.block _ lt2).trans zb2.out
      have lt3 : V.heap.size < x3.heap.size := by (exact Nat.lt_of_lt_of_le lt2 hw3.size)
      refine wpAnyH_ready (rs := [11]) (by kernel_rfl) (by simp) ?_
      refine AllReadyH.cons (o := _) rfl (fun K hK => ?_) AllReadyH.nil
      go_simp
      refine (kindV V LV B g n cap d vw v3 hn5' _ ?_).mono ?_
      · exact hb3
      rintro e' x4 ⟨rfl, hb4, hw4⟩
      try go_wp2_with fail
      refine hK.out _ _ ?_ (fun hHeld => ?_)
      · exact SO.out _ hb4
      clear hK K
      try simp only [Act.put, List.setIfInBounds_toArray, List.set_cons_zero, List.set_cons_succ, List.getElem_toArray, List.getElem_cons_succ, List.getElem_cons_zero]
      have zb4 : Hid (x4.heap[V.heap.size]? = some (.cells #[.int .i64 0, .int .i64 0, .int .i64 0, .int .i64 0, .int .i64 0, .int .i64 0, .int .i64 0, .int .i64 0] 23 (0, 0))) := (hw4.block _ lt3).trans zb3.out
      have lt4 : V.heap.size < x4.heap.size := by (exact Nat.lt_of_lt_of_le lt3 hw4.size)
      refine wpAnyH_ready (rs := [15]) (by kernel_rfl) (by simp) ?_
      refine AllReadyH.cons (o := _) rfl (fun K hK => ?_) AllReadyH.nil
      go_simp
      refine (numberV V LV EV _ _ we ?_).mono ?_
      · exact hb4
      rintro e' x5 ⟨rfl, hb5, hw5⟩
      try go_wp2_with fail
      refine hK.out _ _ ?_ (fun hHeld => ?_)
      · exact SO.out _ hb5
      clear hK K
      try simp only [Act.put, List.setIfInBounds_toArray, List.set_cons_zero, List.set_cons_succ, List.getElem_toArray, List.getElem_cons_succ, List.getElem_cons_zero]
      have zb5 : Hid (x5.heap[V.heap.size]? = some (.cells #[.int .i64 0, .int .i64 0, .int .i64 0, .int .i64 0, .int .i64 0, .int .i64 0, .int .i64 0, .int .i64 0] 23 (0, 0))) := (hw5.block _ lt4).trans zb4.out
      have lt5 : V.heap.size < x5.heap.size := by (exact Nat.lt_of_lt_of_le lt4 hw5.size)
      refine wpAnyH_take (i := 16) (oi := _) (v := .agg #[.int .i64 (num a), .int .i64 (num b), .int .i64 (sideN c), .int .i64 (kindN d), .int .i64 0, .int .i64 (num e), .int .i64 0, .int .i64 0]) rfl (by kernel_rfl) (by kernel_rfl) (by kernel_rfl) (fun _ _ _ h => h) (Or.inl ⟨by rfl, ?_⟩) (by assumption) ?_
      · intro w hSw
        obtain ⟨hS0, hS1, hS2, hS3, hS4⟩ := hSw
        go_simp
      try simp only [Act.put, List.setIfInBounds_toArray, List.set_cons_zero, List.set_cons_succ, List.getElem_toArray, List.getElem_cons_succ, List.getElem_cons_zero]
      refine wpAnyH_ready (rs := [18]) (by kernel_rfl) (by simp) ?_
      refine AllReadyH.cons (o := _) rfl (fun K hK => ?_) AllReadyH.nil
      rw [if_pos (by rfl)]
      refine wp_store_mid _ _ _ rfl V.heap.size 0 #[.int .i64 (num a), .int .i64 (num b), .int .i64 (sideN c), .int .i64 (kindN d), .int .i64 0, .int .i64 (num e), .int .i64 0, .int .i64 0] rfl rfl (there8 zb5.out) (by kernel_rfl) (by simp [Value.oneCell']) ?_
      refine hK.out _ _ ?_ (fun hHeld => ?_)
      · exact SO.out _ (below_setCells (Nat.le_refl _) _ _ _ hb5)
      clear hK K
      try simp only [Act.put, List.setIfInBounds_toArray, List.set_cons_zero, List.set_cons_succ, List.getElem_toArray, List.getElem_cons_succ, List.getElem_cons_zero]
      refine wpAnyH_done (by kernel_rfl) ?_ _
      refine NoPanic.normal ?_
      go_wp2_with fail
      go_meet
      case rel => exact ⟨V.heap.size, rfl, (Nat.le_refl _), stored8 _ _ _ _ _ _ _ _ zb5.out, below_setCells (Nat.le_refl _) _ _ _ hb5⟩
    go_simp
    refine (numberV V LV EV _ _ wa ?_).mono ?_
    · exact (Below.refl _ V).drew
    rintro e' x6 ⟨rfl, hb6, hw6⟩
    try go_wp2_with fail
    refine hK.out _ _ ?_ (fun hHeld => ?_)
    · exact SO.out _ hb6
    clear hK K
    try simp only [Act.put, List.setIfInBounds_toArray, List.set_cons_zero, List.set_cons_succ, List.getElem_toArray, List.getElem_cons_succ, List.getElem_cons_zero]
    refine wpAnyH_ready (rs := [7, 17]) (by kernel_rfl) (by simp) ?_
    refine AllReadyH.cons (o := _) rfl (fun K hK => ?_) (AllReadyH.cons (o := _) rfl (fun K hK => ?_) AllReadyH.nil)
    rotate_left
    · go_simp
      refine hK.out _ _ ?_ (fun hHeld => ?_)
      · exact SO.out _ (hb6.alloc hb6.size _)
      clear hK K
      try simp only [Act.put, List.setIfInBounds_toArray, List.set_cons_zero, List.set_cons_succ, List.getElem_toArray, List.getElem_cons_succ, List.getElem_cons_zero]
      refine wpAnyH_ready (rs := [7]) (by kernel_rfl) (by simp) ?_
      refine AllReadyH.cons (o := _) rfl (fun K hK => ?_) AllReadyH.nil
      go_simp
      refine (numberV V LV EV _ _ wb ?_).mono ?_
      · exact (hb6.alloc hb6.size _)
      rintro e' x7 ⟨rfl, hb7, hw7⟩
      try go_wp2_with fail
      refine hK.out _ _ ?_ (fun hHeld => ?_)
      · exact SO.out _ hb7
      clear hK K
      try simp only [Act.put, List.setIfInBounds_toArray, List.set_cons_zero, List.set_cons_succ, List.getElem_toArray, List.getElem_cons_succ, List.getElem_cons_zero]
      have zb7 : Hid (x7.heap[x6.heap.size]? = some (.cells #[.int .i64 0, .int .i64 0, .int .i64 0, .int .i64 0, .int .i64 0, .int .i64 0, .int .i64 0, .int .i64 0] 23 (0, 0))) := (hw7.block _ (by simp)).trans (heap_alloc_new x6 (.cells #[.int .i64 0, .int .i64 0, .int .i64 0, .int .i64 0, .int .i64 0, .int .i64 0, .int .i64 0, .int .i64 0] 23))
      have lt7 : x6.heap.size < x7.heap.size := by (have h2 := hw7.size; simp at h2; omega)
      refine wpAnyH_ready (rs := [9]) (by kernel_rfl) (by simp) ?_
      refine AllReadyH.cons (o := _) rfl (fun K hK => ?_) AllReadyH.nil
      go_simp
      refine (sideV V LV B g n cap c vw v2 hn5' _ ?_).mono ?_
      · exact hb7
      rintro e' x8 ⟨rfl, hb8, hw8⟩
      try go_wp2_with fail
      refine hK.out _ _ ?_ (fun hHeld => ?_)
      · exact SO.out _ hb8
      clear hK K
      try simp only [Act.put, List.setIfInBounds_toArray, List.set_cons_zero, List.set_cons_succ, List.getElem_toArray, List.getElem_cons_succ, List.getElem_cons_zero]
      have zb8 : Hid (x8.heap[x6.heap.size]? = some (.cells #[.int .i64 0, .int .i64 0, .int .i64 0, .int .i64 0, .int .i64 0, .int .i64 0, .int .i64 0, .int .i64 0] 23 (0, 0))) := (hw8.block _ lt7).trans zb7.out
      have lt8 : x6.heap.size < x8.heap.size := by (exact Nat.lt_of_lt_of_le lt7 hw8.size)
      refine wpAnyH_ready (rs := [11]) (by kernel_rfl) (by simp) ?_
      refine AllReadyH.cons (o := _) rfl (fun K hK => ?_) AllReadyH.nil
      go_simp
      refine (kindV V LV B g n cap d vw v3 hn5' _ ?_).mono ?_
      · exact hb8
      rintro e' x9 ⟨rfl, hb9, hw9⟩
      try go_wp2_with fail
      refine hK.out _ _ ?_ (fun hHeld => ?_)
      · exact SO.out _ hb9
      clear hK K
      try simp only [Act.put, List.setIfInBounds_toArray, List.set_cons_zero, List.set_cons_succ, List.getElem_toArray, List.getElem_cons_succ, List.getElem_cons_zero]
      have zb9 : Hid (x9.heap[x6.heap.size]? = some (.cells #[.int .i64 0, .int .i64 0, .int .i64 0, .int .i64 0, .int .i64 0, .int .i64 0, .int .i64 0, .int .i64 0] 23 (0, 0))) := (hw9.block _ lt8).trans zb8.out
      have lt9 : x6.heap.size < x9.heap.size := by (exact Nat.lt_of_lt_of_le lt8 hw9.size)
      refine wpAnyH_ready (rs := [15]) (by kernel_rfl) (by simp) ?_
      refine AllReadyH.cons (o := _) rfl (fun K hK => ?_) AllReadyH.nil
      go_simp
      refine (numberV V LV EV _ _ we ?_).mono ?_
      · exact hb9
      rintro e' x10 ⟨rfl, hb10, hw10⟩
      try go_wp2_with fail
      refine hK.out _ _ ?_ (fun hHeld => ?_)
      · exact SO.out _ hb10
      clear hK K
      try simp only [Act.put, List.setIfInBounds_toArray, List.set_cons_zero, List.set_cons_succ, List.getElem_toArray, List.getElem_cons_succ, List.getElem_cons_zero]
      have zb10 : Hid (x10.heap[x6.heap.size]? = some (.cells #[.int .i64 0, .int .i64 0, .int .i64 0, .int .i64 0, .int .i64 0, .int .i64 0, .int .i64 0, .int .i64 0] 23 (0, 0))) := (hw10.block _ lt9).trans zb9.out
      have lt10 : x6.heap.size < x10.heap.size := by (exact Nat.lt_of_lt_of_le lt9 hw10.size)
      refine wpAnyH_take (i := 16) (oi := _) (v := .agg #[.int .i64 (num a), .int .i64 (num b), .int .i64 (sideN c), .int .i64 (kindN d), .int .i64 0, .int .i64 (num e), .int .i64 0, .int .i64 0]) rfl (by kernel_rfl) (by kernel_rfl) (by kernel_rfl) (fun _ _ _ h => h) (Or.inl ⟨by rfl, ?_⟩) (by assumption) ?_
      · intro w hSw
        obtain ⟨hS0, hS1, hS2, hS3, hS4⟩ := hSw
        go_simp
      try simp only [Act.put, List.setIfInBounds_toArray, List.set_cons_zero, List.set_cons_succ, List.getElem_toArray, List.getElem_cons_succ, List.getElem_cons_zero]
      refine wpAnyH_ready (rs := [18]) (by kernel_rfl) (by simp) ?_
      refine AllReadyH.cons (o := _) rfl (fun K hK => ?_) AllReadyH.nil
      rw [if_pos (by rfl)]
      refine wp_store_mid _ _ _ rfl x6.heap.size 0 #[.int .i64 (num a), .int .i64 (num b), .int .i64 (sideN c), .int .i64 (kindN d), .int .i64 0, .int .i64 (num e), .int .i64 0, .int .i64 0] rfl rfl (there8 zb10.out) (by kernel_rfl) (by simp [Value.oneCell']) ?_
      refine hK.out _ _ ?_ (fun hHeld => ?_)
      · exact SO.out _ (below_setCells hb6.size _ _ _ hb10)
      clear hK K
      try simp only [Act.put, List.setIfInBounds_toArray, List.set_cons_zero, List.set_cons_succ, List.getElem_toArray, List.getElem_cons_succ, List.getElem_cons_zero]
      refine wpAnyH_done (by kernel_rfl) ?_ _
      refine NoPanic.normal ?_
      go_wp2_with fail
      go_meet
      case rel => exact ⟨x6.heap.size, rfl, hb6.size, stored8 _ _ _ _ _ _ _ _ zb10.out, below_setCells hb6.size _ _ _ hb10⟩
    go_simp
    refine (numberV V LV EV _ _ wb ?_).mono ?_
    · exact hb6
    rintro e' x11 ⟨rfl, hb11, hw11⟩
    try go_wp2_with fail
    refine hK.out _ _ ?_ (fun hHeld => ?_)
    · exact SO.out _ hb11
    clear hK K
    try simp only [Act.put, List.setIfInBounds_toArray, List.set_cons_zero, List.set_cons_succ, List.getElem_toArray, List.getElem_cons_succ, List.getElem_cons_zero]
    refine wpAnyH_ready (rs := [9, 17]) (by kernel_rfl) (by simp) ?_
    refine AllReadyH.cons (o := _) rfl (fun K hK => ?_) (AllReadyH.cons (o := _) rfl (fun K hK => ?_) AllReadyH.nil)
    rotate_left
    · go_simp
      refine hK.out _ _ ?_ (fun hHeld => ?_)
      · exact SO.out _ (hb11.alloc hb11.size _)
      clear hK K
      try simp only [Act.put, List.setIfInBounds_toArray, List.set_cons_zero, List.set_cons_succ, List.getElem_toArray, List.getElem_cons_succ, List.getElem_cons_zero]
      refine wpAnyH_ready (rs := [9]) (by kernel_rfl) (by simp) ?_
      refine AllReadyH.cons (o := _) rfl (fun K hK => ?_) AllReadyH.nil
      go_simp
      refine (sideV V LV B g n cap c vw v2 hn5' _ ?_).mono ?_
      · exact (hb11.alloc hb11.size _)
      rintro e' x12 ⟨rfl, hb12, hw12⟩
      try go_wp2_with fail
      refine hK.out _ _ ?_ (fun hHeld => ?_)
      · exact SO.out _ hb12
      clear hK K
      try simp only [Act.put, List.setIfInBounds_toArray, List.set_cons_zero, List.set_cons_succ, List.getElem_toArray, List.getElem_cons_succ, List.getElem_cons_zero]
      have zb12 : Hid (x12.heap[x11.heap.size]? = some (.cells #[.int .i64 0, .int .i64 0, .int .i64 0, .int .i64 0, .int .i64 0, .int .i64 0, .int .i64 0, .int .i64 0] 23 (0, 0))) := (hw12.block _ (by simp)).trans (heap_alloc_new x11 (.cells #[.int .i64 0, .int .i64 0, .int .i64 0, .int .i64 0, .int .i64 0, .int .i64 0, .int .i64 0, .int .i64 0] 23))
      have lt12 : x11.heap.size < x12.heap.size := by (have h2 := hw12.size; simp at h2; omega)
      refine wpAnyH_ready (rs := [11]) (by kernel_rfl) (by simp) ?_
      refine AllReadyH.cons (o := _) rfl (fun K hK => ?_) AllReadyH.nil
      go_simp
      refine (kindV V LV B g n cap d vw v3 hn5' _ ?_).mono ?_
      · exact hb12
      rintro e' x13 ⟨rfl, hb13, hw13⟩
      try go_wp2_with fail
      refine hK.out _ _ ?_ (fun hHeld => ?_)
      · exact SO.out _ hb13
      clear hK K
      try simp only [Act.put, List.setIfInBounds_toArray, List.set_cons_zero, List.set_cons_succ, List.getElem_toArray, List.getElem_cons_succ, List.getElem_cons_zero]
      have zb13 : Hid (x13.heap[x11.heap.size]? = some (.cells #[.int .i64 0, .int .i64 0, .int .i64 0, .int .i64 0, .int .i64 0, .int .i64 0, .int .i64 0, .int .i64 0] 23 (0, 0))) := (hw13.block _ lt12).trans zb12.out
      have lt13 : x11.heap.size < x13.heap.size := by (exact Nat.lt_of_lt_of_le lt12 hw13.size)
      refine wpAnyH_ready (rs := [15]) (by kernel_rfl) (by simp) ?_
      refine AllReadyH.cons (o := _) rfl (fun K hK => ?_) AllReadyH.nil
      go_simp
      refine (numberV V LV EV _ _ we ?_).mono ?_
      · exact hb13
      rintro e' x14 ⟨rfl, hb14, hw14⟩
      try go_wp2_with fail
      refine hK.out _ _ ?_ (fun hHeld => ?_)
      · exact SO.out _ hb14
      clear hK K
      try simp only [Act.put, List.setIfInBounds_toArray, List.set_cons_zero, List.set_cons_succ, List.getElem_toArray, List.getElem_cons_succ, List.getElem_cons_zero]
      have zb14 : Hid (x14.heap[x11.heap.size]? = some (.cells #[.int .i64 0, .int .i64 0, .int .i64 0, .int .i64 0, .int .i64 0, .int .i64 0, .int .i64 0, .int .i64 0] 23 (0, 0))) := (hw14.block _ lt13).trans zb13.out
      have lt14 : x11.heap.size < x14.heap.size := by (exact Nat.lt_of_lt_of_le lt13 hw14.size)
      refine wpAnyH_take (i := 16) (oi := _) (v := .agg #[.int .i64 (num a), .int .i64 (num b), .int .i64 (sideN c), .int .i64 (kindN d), .int .i64 0, .int .i64 (num e), .int .i64 0, .int .i64 0]) rfl (by kernel_rfl) (by kernel_rfl) (by kernel_rfl) (fun _ _ _ h => h) (Or.inl ⟨by rfl, ?_⟩) (by assumption) ?_
      · intro w hSw
        obtain ⟨hS0, hS1, hS2, hS3, hS4⟩ := hSw
        go_simp
      try simp only [Act.put, List.setIfInBounds_toArray, List.set_cons_zero, List.set_cons_succ, List.getElem_toArray, List.getElem_cons_succ, List.getElem_cons_zero]
      refine wpAnyH_ready (rs := [18]) (by kernel_rfl) (by simp) ?_
      refine AllReadyH.cons (o := _) rfl (fun K hK => ?_) AllReadyH.nil
      rw [if_pos (by rfl)]
      refine wp_store_mid _ _ _ rfl x11.heap.size 0 #[.int .i64 (num a), .int .i64 (num b), .int .i64 (sideN c), .int .i64 (kindN d), .int .i64 0, .int .i64 (num e), .int .i64 0, .int .i64 0] rfl rfl (there8 zb14.out) (by kernel_rfl) (by simp [Value.oneCell']) ?_
      refine hK.out _ _ ?_ (fun hHeld => ?_)
      · exact SO.out _ (below_setCells hb11.size _ _ _ hb14)
      clear hK K
      try simp only [Act.put, List.setIfInBounds_toArray, List.set_cons_zero, List.set_cons_succ, List.getElem_toArray, List.getElem_cons_succ, List.getElem_cons_zero]
      refine wpAnyH_done (by kernel_rfl) ?_ _
      refine NoPanic.normal ?_
      go_wp2_with fail
      go_meet
      case rel => exact ⟨x11.heap.size, rfl, hb11.size, stored8 _ _ _ _ _ _ _ _ zb14.out, below_setCells hb11.size _ _ _ hb14⟩
    go_simp
    refine (sideV V LV B g n cap c vw v2 hn5' _ ?_).mono ?_
    · exact hb11
    rintro e' x15 ⟨rfl, hb15, hw15⟩
    try go_wp2_with fail
    refine hK.out _ _ ?_ (fun hHeld => ?_)
    · exact SO.out _ hb15
    clear hK K
    try simp only [Act.put, List.setIfInBounds_toArray, List.set_cons_zero, List.set_cons_succ, List.getElem_toArray, List.getElem_cons_succ, List.getElem_cons_zero]
    refine wpAnyH_ready (rs := [11, 17]) (by kernel_rfl) (by simp) ?_
    refine AllReadyH.cons (o := _) rfl (fun K hK => ?_) (AllReadyH.cons (o := _) rfl (fun K hK => ?_) AllReadyH.nil)
    rotate_left
    · go_simp
      refine hK.out _ _ ?_ (fun hHeld => ?_)
      · exact SO.out _ (hb15.alloc hb15.size _)
      clear hK K
      try simp only [Act.put, List.setIfInBounds_toArray, List.set_cons_zero, List.set_cons_succ, List.getElem_toArray, List.getElem_cons_succ, List.getElem_cons_zero]
      refine wpAnyH_ready (rs := [11]) (by kernel_rfl) (by simp) ?_
      refine AllReadyH.cons (o := _) rfl (fun K hK => ?_) AllReadyH.nil
      go_simp
      refine (kindV V LV B g n cap d vw v3 hn5' _ ?_).mono ?_
      · exact (hb15.alloc hb15.size _)
      rintro e' x16 ⟨rfl, hb16, hw16⟩
      try go_wp2_with fail
      refine hK.out _ _ ?_ (fun hHeld => ?_)
      · exact SO.out _ hb16
      clear hK K
      try simp only [Act.put, List.setIfInBounds_toArray, List.set_cons_zero, List.set_cons_succ, List.getElem_toArray, List.getElem_cons_succ, List.getElem_cons_zero]
      have zb16 : Hid (x16.heap[x15.heap.size]? = some (.cells #[.int .i64 0, .int .i64 0, .int .i64 0, .int .i64 0, .int .i64 0, .int .i64 0, .int .i64 0, .int .i64 0] 23 (0, 0))) := (hw16.block _ (by simp)).trans (heap_alloc_new x15 (.cells #[.int .i64 0, .int .i64 0, .int .i64 0, .int .i64 0, .int .i64 0, .int .i64 0, .int .i64 0, .int .i64 0] 23))
      have lt16 : x15.heap.size < x16.heap.size := by (have h2 := hw16.size; simp at h2; omega)
      refine wpAnyH_ready (rs := [15]) (by kernel_rfl) (by simp) ?_
      refine AllReadyH.cons (o := _) rfl (fun K hK => ?_) AllReadyH.nil
      go_simp
      refine (numberV V LV EV _ _ we ?_).mono ?_
      · exact hb16
      rintro e' x17 ⟨rfl, hb17, hw17⟩
      try go_wp2_with fail
      refine hK.out _ _ ?_ (fun hHeld => ?_)
      · exact SO.out _ hb17
      clear hK K
      try simp only [Act.put, List.setIfInBounds_toArray, List.set_cons_zero, List.set_cons_succ, List.getElem_toArray, List.getElem_cons_succ, List.getElem_cons_zero]
      have zb17 : Hid (x17.heap[x15.heap.size]? = some (.cells #[.int .i64 0, .int .i64 0, .int .i64 0, .int .i64 0, .int .i64 0, .int .i64 0, .int .i64 0, .int .i64 0] 23 (0, 0))) := (hw17.block _ lt16).trans zb16.out
      have lt17 : x15.heap.size < x17.heap.size := by (exact Nat.lt_of_lt_of_le lt16 hw17.size)
      refine wpAnyH_take (i := 16) (oi := _) (v := .agg #[.int .i64 (num a), .int .i64 (num b), .int .i64 (sideN c), .int .i64 (kindN d), .int .i64 0, .int .i64 (num e), .int .i64 0, .int .i64 0]) rfl (by kernel_rfl) (by kernel_rfl) (by kernel_rfl) (fun _ _ _ h => h) (Or.inl ⟨by rfl, ?_⟩) (by assumption) ?_
      · intro w hSw
        obtain ⟨hS0, hS1, hS2, hS3, hS4⟩ := hSw
        go_simp
      try simp only [Act.put, List.setIfInBounds_toArray, List.set_cons_zero, List.set_cons_succ, List.getElem_toArray, List.getElem_cons_succ, List.getElem_cons_zero]
      refine wpAnyH_ready (rs := [18]) (by kernel_rfl) (by simp) ?_
      refine AllReadyH.cons (o := _) rfl (fun K hK => ?_) AllReadyH.nil
      rw [if_pos (by rfl)]
      refine wp_store_mid _ _ _ rfl x15.heap.size 0 #[.int .i64 (num a), .int .i64 (num b), .int .i64 (sideN c), .int .i64 (kindN d), .int .i64 0, .int .i64 (num e), .int .i64 0, .int .i64 0] rfl rfl (there8 zb17.out) (by kernel_rfl) (by simp [Value.oneCell']) ?_
      refine hK.out _ _ ?_ (fun hHeld => ?_)
      · exact SO.out _ (below_setCells hb15.size _ _ _ hb17)
      clear hK K
      try simp only [Act.put, List.setIfInBounds_toArray, List.set_cons_zero, List.set_cons_succ, List.getElem_toArray, List.getElem_cons_succ, List.getElem_cons_zero]
      refine wpAnyH_done (by kernel_rfl) ?_ _
      refine NoPanic.normal ?_
      go_wp2_with fail
      go_meet
      case rel => exact ⟨x15.heap.size, rfl, hb15.size, stored8 _ _ _ _ _ _ _ _ zb17.out, below_setCells hb15.size _ _ _ hb17⟩
    go_simp
    refine (kindV V LV B g n cap d vw v3 hn5' _ ?_).mono ?_
    · exact hb15
    rintro e' x18 ⟨rfl, hb18, hw18⟩
    try go_wp2_with fail
    refine hK.out _ _ ?_ (fun hHeld => ?_)
    · exact SO.out _ hb18
    clear hK K
    try simp only [Act.put, List.setIfInBounds_toArray, List.set_cons_zero, List.set_cons_succ, List.getElem_toArray, List.getElem_cons_succ, List.getElem_cons_zero]
    refine wpAnyH_ready (rs := [15, 17]) (by kernel_rfl) (by simp) ?_
    refine AllReadyH.cons (o := _) rfl (fun K hK => ?_) (AllReadyH.cons (o := _) rfl (fun K hK => ?_) AllReadyH.nil)
    rotate_left
    · go_simp
      refine hK.out _ _ ?_ (fun hHeld => ?_)
      · exact SO.out _ (hb18.alloc hb18.size _)
      clear hK K
      try simp only [Act.put, List.setIfInBounds_toArray, List.set_cons_zero, List.set_cons_succ, List.getElem_toArray, List.getElem_cons_succ, List.getElem_cons_zero]
      refine wpAnyH_ready (rs := [15]) (by kernel_rfl) (by simp) ?_
      refine AllReadyH.cons (o := _) rfl (fun K hK => ?_) AllReadyH.nil
      go_simp
      refine (numberV V LV EV _ _ we ?_).mono ?_
      · exact (hb18.alloc hb18.size _)
      rintro e' x19 ⟨rfl, hb19, hw19⟩
      try go_wp2_with fail
      refine hK.out _ _ ?_ (fun hHeld => ?_)
      · exact SO.out _ hb19
      clear hK K
      try simp only [Act.put, List.setIfInBounds_toArray, List.set_cons_zero, List.set_cons_succ, List.getElem_toArray, List.getElem_cons_succ, List.getElem_cons_zero]
      have zb19 : Hid (x19.heap[x18.heap.size]? = some (.cells #[.int .i64 0, .int .i64 0, .int .i64 0, .int .i64 0, .int .i64 0, .int .i64 0, .int .i64 0, .int .i64 0] 23 (0, 0))) := (hw19.block _ (by simp)).trans (heap_alloc_new x18 (.cells #[.int .i64 0, .int .i64 0, .int .i64 0, .int .i64 0, .int .i64 0, .int .i64 0, .int .i64 0, .int .i64 0] 23))
      have lt19 : x18.heap.size < x19.heap.size := by (have h2 := hw19.size; simp at h2; omega)
      refine wpAnyH_take (i := 16) (oi := _) (v := .agg #[.int .i64 (num a), .int .i64 (num b), .int .i64 (sideN c), .int .i64 (kindN d), .int .i64 0, .int .i64 (num e), .int .i64 0, .int .i64 0]) rfl (by kernel_rfl) (by kernel_rfl) (by kernel_rfl) (fun _ _ _ h => h) (Or.inl ⟨by rfl, ?_⟩) (by assumption) ?_
      · intro w hSw
        obtain ⟨hS0, hS1, hS2, hS3, hS4⟩ := hSw
        go_simp
      try simp only [Act.put, List.setIfInBounds_toArray, List.set_cons_zero, List.set_cons_succ, List.getElem_toArray, List.getElem_cons_succ, List.getElem_cons_zero]
      refine wpAnyH_ready (rs := [18]) (by kernel_rfl) (by simp) ?_
      refine AllReadyH.cons (o := _) rfl (fun K hK => ?_) AllReadyH.nil
      rw [if_pos (by rfl)]
      refine wp_store_mid _ _ _ rfl x18.heap.size 0 #[.int .i64 (num a), .int .i64 (num b), .int .i64 (sideN c), .int .i64 (kindN d), .int .i64 0, .int .i64 (num e), .int .i64 0, .int .i64 0] rfl rfl (there8 zb19.out) (by kernel_rfl) (by simp [Value.oneCell']) ?_
      refine hK.out _ _ ?_ (fun hHeld => ?_)
      · exact SO.out _ (below_setCells hb18.size _ _ _ hb19)
      clear hK K
      try simp only [Act.put, List.setIfInBounds_toArray, List.set_cons_zero, List.set_cons_succ, List.getElem_toArray, List.getElem_cons_succ, List.getElem_cons_zero]
      refine wpAnyH_done (by kernel_rfl) ?_ _
      refine NoPanic.normal ?_
      go_wp2_with fail
      go_meet
      case rel => exact ⟨x18.heap.size, rfl, hb18.size, stored8 _ _ _ _ _ _ _ _ zb19.out, below_setCells hb18.size _ _ _ hb19⟩
    go_simp
    refine (numberV V LV EV _ _ we ?_).mono ?_
    · exact hb18
    rintro e' x20 ⟨rfl, hb20, hw20⟩
    try go_wp2_with fail
    refine hK.out _ _ ?_ (fun hHeld => ?_)
    · exact SO.out _ hb20
    clear hK K
    try simp only [Act.put, List.setIfInBounds_toArray, List.set_cons_zero, List.set_cons_succ, List.getElem_toArray, List.getElem_cons_succ, List.getElem_cons_zero]
    refine wpAnyH_take (i := 16) (oi := _) (v := .agg #[.int .i64 (num a), .int .i64 (num b), .int .i64 (sideN c), .int .i64 (kindN d), .int .i64 0, .int .i64 (num e), .int .i64 0, .int .i64 0]) rfl (by kernel_rfl) (by kernel_rfl) (by kernel_rfl) (fun _ _ _ h => h) (Or.inl ⟨by rfl, ?_⟩) (by assumption) ?_
    · intro w hSw
      obtain ⟨hS0, hS1, hS2, hS3, hS4⟩ := hSw
      go_simp
    try simp only [Act.put, List.setIfInBounds_toArray, List.set_cons_zero, List.set_cons_succ, List.getElem_toArray, List.getElem_cons_succ, List.getElem_cons_zero]
    refine wpAnyH_ready (rs := [17]) (by kernel_rfl) (by simp) ?_
    refine AllReadyH.cons (o := _) rfl (fun K hK => ?_) AllReadyH.nil
    go_simp
    refine hK.out _ _ ?_ (fun hHeld => ?_)
    · exact SO.out _ (hb20.alloc hb20.size _)
    clear hK K
    try simp only [Act.put, List.setIfInBounds_toArray, List.set_cons_zero, List.set_cons_succ, List.getElem_toArray, List.getElem_cons_succ, List.getElem_cons_zero]
    refine wpAnyH_ready (rs := [18]) (by kernel_rfl) (by simp) ?_
    refine AllReadyH.cons (o := _) rfl (fun K hK => ?_) AllReadyH.nil
    rw [if_pos (by rfl)]
    refine wp_store_mid _ _ _ rfl x20.heap.size 0 #[.int .i64 (num a), .int .i64 (num b), .int .i64 (sideN c), .int .i64 (kindN d), .int .i64 0, .int .i64 (num e), .int .i64 0, .int .i64 0] rfl rfl (there8 (heap_alloc_new x20 (.cells #[.int .i64 0, .int .i64 0, .int .i64 0, .int .i64 0, .int .i64 0, .int .i64 0, .int .i64 0, .int .i64 0] 23))) (by kernel_rfl) (by simp [Value.oneCell']) ?_
    refine hK.out _ _ ?_ (fun hHeld => ?_)
    · exact SO.out _ (below_setCells hb20.size _ _ _ (hb20.alloc hb20.size _))
    clear hK K
    try simp only [Act.put, List.setIfInBounds_toArray, List.set_cons_zero, List.set_cons_succ, List.getElem_toArray, List.getElem_cons_succ, List.getElem_cons_zero]
    refine wpAnyH_done (by kernel_rfl) ?_ _
    refine NoPanic.normal ?_
    go_wp2_with fail
    go_meet
    case rel => exact ⟨x20.heap.size, rfl, hb20.size, stored8 _ _ _ _ _ _ _ _ (heap_alloc_new x20 (.cells #[.int .i64 0, .int .i64 0, .int .i64 0, .int .i64 0, .int .i64 0, .int .i64 0, .int .i64 0, .int .i64 0] 23)), below_setCells hb20.size _ _ _ (hb20.alloc hb20.size _)⟩
  case rest =>
    obtain ⟨b5, rfl, hb5, hO, hBV⟩ := hcut
    have hcell : wc.cell? ⟨B, 0, none⟩ = some (.slice (some ⟨g, 0, none⟩) n cap) := keeps hBV vw
    have HO : Hid (wc.heap[b5]? = some (.cells #[.int .i64 (num a), .int .i64 (num b), .int .i64 (sideN c), .int .i64 (kindN d), .int .i64 0, .int .i64 (num e), .int .i64 0, .int .i64 0] 23 (0, 0))) := hO
    have HBV : Hid (Below V.heap.size V wc) := hBV
    have RV : Hid (RowAt wc g 5 tl) := fun j l hj => by
      have := HV.out (j + 5) l (by simpa using hj)
      rw [show 5 + j = 0 + (j + 5) by omega]
      exact keeps hBV this
    have RE : Hid (Below w.heap.size w V ∧ V.heap[w.heap.size]? = some (.cells #[.int .i64 0, .int .i64 0, .int .i64 0, .int .i64 0, .int .i64 0, .int .i64 0, .int .i64 0, .int .i64 0] 23 (0, 0)) ∧ w.heap.size < V.heap.size) := by
      have h0 := HW.out
      have hzz : w.heap.size < w1.heap.size := by
        have := HR0.out
        rcases Nat.lt_or_ge w.heap.size w1.heap.size with h | h
        · exact h
        · rw [Array.getElem?_eq_none h] at this; cases this
      have hbz : B = w1.heap.size := HBz.out
      have h3 : Below w1.heap.size w1 V := by have := HVW.out; rw [hbz] at this; exact this
      refine ⟨h0.trans (h3.mono h0.size), (h3.block _ hzz).trans HR0.out, ?_⟩
      have := h3.size
      omega
    have hBlt := World.block_lt_of_cell? _ _ vw
    have hgV : g < V.heap.size := Nat.lt_trans hg hBlt
    clear hO hBV HV HR0 HW HVW SO v0 v1 v2 v3 v4 vw LV EV hBlt hg
    go_upto_region 5 with fail
    go_cut [6] from 32 to 33 (fun s6 wx => ∃ off cap', s6 = .slice (some ⟨g, off, none⟩) tl.length cap' ∧ Hid (RowAt wc g off tl) ∧ tl.length ≤ cap' ∧ cap' ≤ 100 ∧ wx = wc)
    case first =>
      have hnn := HN.out
      subst hnn
      by_cases hc5 : cap = 5
      · subst hc5
        have ht0 : tl.length = 0 := by omega
        have htl : tl = [] := List.length_eq_zero_iff.1 ht0
        subst htl
        go_wp2_with fail
        go_meet
        case rel => exact ⟨0, 0, rfl, (show Hid _ from fun j l hj => by simp at hj), by simp, by omega, rfl⟩
      · have q1 : (5 : Int) < (cap : Int) := by omega
        have q2 : (5 : Int) ≤ ((tl.length + 5 : Nat) : Int) := by omega
        have q3 : ((tl.length + 5 : Nat) : Int) ≤ (cap : Int) := by omega
        go_wp2_with fail
        go_meet
        case rel => exact ⟨5, cap - 5, by simp, RV, by omega, by omega, rfl⟩
    case rest =>
      obtain ⟨off, cap0, rfl, HR0, hl0, hm0, rfl⟩ := hcut
      obtain ⟨p1, T1, HQ1⟩ : ∃ (p1 : Nat) (T1 : List (List UInt8)), Hid (part wAt tl = (p1, T1)) := ⟨_, _, rfl⟩
      obtain ⟨p2, T2, HQ2⟩ : ∃ (p2 : Nat) (T2 : List (List UInt8)), Hid (part wShow T1 = (p2, T2)) := ⟨_, _, rfl⟩
      obtain ⟨p3, T3, HQ3⟩ : ∃ (p3 : Nat) (T3 : List (List UInt8)), Hid (part wStop T2 = (p3, T3)) := ⟨_, _, rfl⟩
      have WT1 : Hid (∀ l ∈ T1, l.length ≤ maxLen) := fun l hl => WT.out l (part_sub wAt tl l (by rw [HQ1.out]; exact hl))
      have WT2 : Hid (∀ l ∈ T2, l.length ≤ maxLen) := fun l hl => WT1.out l (part_sub wShow T1 l (by rw [HQ2.out]; exact hl))
      have HF := rd_parts a b c d e HQ1.out HQ2.out HQ3.out
      have HFo : Hid (rdO (a :: b :: c :: d :: e :: tl) = ⟨num a, num b, sideN c, kindN d, p1, num e, p2, p3⟩) := HF.1
      have HFb : Hid (rdB (a :: b :: c :: d :: e :: tl) = (!([(num a : Int), num b, sideN c, kindN d, num e].contains 0) && (((p1 : Int) == 0) == ((kindN d : Int) == 2)) && ((T3.length : Int) == 0))) := HF.2
      clear HF
      have ON : Hid (∀ W, Below V.heap.size V W → Laid W ∧ ErrL W) := fun W hW => ⟨hL.below (RE.out.1.trans (hW.mono RE.out.1.size)), hE.below (RE.out.1.trans (hW.mono RE.out.1.size))⟩
      have lt0 : b5 < wc.heap.size := heap_lt HO.out
      have con := takePart_any g off cap0 tl wAt wc (ON.out wc HBV.out).1 (ON.out wc HBV.out).2 HR0.out hl0 hm0 WT.out
      rw [HQ1.out] at con
      clear HR0 RV
      go_wp2_with fail
      refine con.mono ?_
      rintro e' y1 ⟨⟨off1, capp1, rfl, hr1, hl1, hm1⟩, hby1⟩
      have O1 : y1.heap[b5]? = some (.cells #[.int .i64 (num a), .int .i64 (num b), .int .i64 (sideN c), .int .i64 (kindN d), .int .i64 0, .int .i64 (num e), .int .i64 0, .int .i64 0] 23 (0, 0)) := (hby1.block b5 lt0).trans HO.out
      have BY1 : Hid (Below V.heap.size V y1) := HBV.out.trans (hby1.mono HBV.out.size)
      have cw1 : y1.cell? ⟨b5, 4, none⟩ = some (.int .i64 0) := Joins.cell_of_block O1 4
      have fw1 : y1.frozen? ⟨b5, 4, none⟩ = false := Joins.unfrozen_of_block O1 4
      have OZ1 : Hid ((y1.setCell ⟨b5, 4, none⟩ (.int .i64 p1)).heap[b5]? = some (.cells #[.int .i64 (num a), .int .i64 (num b), .int .i64 (sideN c), .int .i64 (kindN d), .int .i64 p1, .int .i64 (num e), .int .i64 0, .int .i64 0] 23 (0, 0))) := by
        have := Joins.block_setCell (i := 4) O1 (.int .i64 p1)
        show (y1.setCell ⟨b5, 4, none⟩ (.int .i64 p1)).heap[b5]? = _
        simpa using this
      have BZ1 : Hid (Below V.heap.size V (y1.setCell ⟨b5, 4, none⟩ (.int .i64 p1))) := BY1.out.setCell hb5 _
      have RZ1 : Hid (RowAt (y1.setCell ⟨b5, 4, none⟩ (.int .i64 p1)) g off1 T1) := RowAt.via hgV HBV.out BZ1.out hr1
      clear O1 hr1 hby1 con
      go_upto_region 7 with fail
      clear cw1 fw1
      generalize y1.setCell ⟨b5, 4, none⟩ (.int .i64 p1) = z1 at *
      have lt1 : b5 < z1.heap.size := heap_lt OZ1.out
      have con := takePart_any g off1 capp1 T1 wShow z1 (ON.out z1 BZ1.out).1 (ON.out z1 BZ1.out).2 RZ1.out hl1 hm1 WT1.out
      rw [HQ2.out] at con
      go_wp2_with fail
      refine con.mono ?_
      rintro e' y2 ⟨⟨off2, capp2, rfl, hr2, hl2, hm2⟩, hby2⟩
      have O2 : y2.heap[b5]? = some (.cells #[.int .i64 (num a), .int .i64 (num b), .int .i64 (sideN c), .int .i64 (kindN d), .int .i64 p1, .int .i64 (num e), .int .i64 0, .int .i64 0] 23 (0, 0)) := (hby2.block b5 lt1).trans OZ1.out
      have BY2 : Hid (Below V.heap.size V y2) := BZ1.out.trans (hby2.mono BZ1.out.size)
      have cw2 : y2.cell? ⟨b5, 6, none⟩ = some (.int .i64 0) := Joins.cell_of_block O2 6
      have fw2 : y2.frozen? ⟨b5, 6, none⟩ = false := Joins.unfrozen_of_block O2 6
      have OZ2 : Hid ((y2.setCell ⟨b5, 6, none⟩ (.int .i64 p2)).heap[b5]? = some (.cells #[.int .i64 (num a), .int .i64 (num b), .int .i64 (sideN c), .int .i64 (kindN d), .int .i64 p1, .int .i64 (num e), .int .i64 p2, .int .i64 0] 23 (0, 0))) := by
        have := Joins.block_setCell (i := 6) O2 (.int .i64 p2)
        show (y2.setCell ⟨b5, 6, none⟩ (.int .i64 p2)).heap[b5]? = _
        simpa using this
      have BZ2 : Hid (Below V.heap.size V (y2.setCell ⟨b5, 6, none⟩ (.int .i64 p2))) := BY2.out.setCell hb5 _
      have RZ2 : Hid (RowAt (y2.setCell ⟨b5, 6, none⟩ (.int .i64 p2)) g off2 T2) := RowAt.via hgV BZ1.out BZ2.out hr2
      clear O2 hr2 hby2 con
      go_upto_region 8 with fail
      clear cw2 fw2
      generalize y2.setCell ⟨b5, 6, none⟩ (.int .i64 p2) = z2 at *
      have lt2 : b5 < z2.heap.size := heap_lt OZ2.out
      have con := takePart_any g off2 capp2 T2 wStop z2 (ON.out z2 BZ2.out).1 (ON.out z2 BZ2.out).2 RZ2.out hl2 hm2 WT2.out
      rw [HQ3.out] at con
      go_wp2_with fail
      refine con.mono ?_
      rintro e' y3 ⟨⟨off3, capp3, rfl, hr3, hl3, hm3⟩, hby3⟩
      have O3 : y3.heap[b5]? = some (.cells #[.int .i64 (num a), .int .i64 (num b), .int .i64 (sideN c), .int .i64 (kindN d), .int .i64 p1, .int .i64 (num e), .int .i64 p2, .int .i64 0] 23 (0, 0)) := (hby3.block b5 lt2).trans OZ2.out
      have BY3 : Hid (Below V.heap.size V y3) := BZ2.out.trans (hby3.mono BZ2.out.size)
      have cw3 : y3.cell? ⟨b5, 7, none⟩ = some (.int .i64 0) := Joins.cell_of_block O3 7
      have fw3 : y3.frozen? ⟨b5, 7, none⟩ = false := Joins.unfrozen_of_block O3 7
      have OZ3 : Hid ((y3.setCell ⟨b5, 7, none⟩ (.int .i64 p3)).heap[b5]? = some (.cells #[.int .i64 (num a), .int .i64 (num b), .int .i64 (sideN c), .int .i64 (kindN d), .int .i64 p1, .int .i64 (num e), .int .i64 p2, .int .i64 p3] 23 (0, 0))) := by
        have := Joins.block_setCell (i := 7) O3 (.int .i64 p3)
        show (y3.setCell ⟨b5, 7, none⟩ (.int .i64 p3)).heap[b5]? = _
        simpa using this
      have BZ3 : Hid (Below V.heap.size V (y3.setCell ⟨b5, 7, none⟩ (.int .i64 p3))) := BY3.out.setCell hb5 _
      have RZ3 : Hid (RowAt (y3.setCell ⟨b5, 7, none⟩ (.int .i64 p3)) g off3 T3) := RowAt.via hgV BZ2.out BZ3.out hr3
      clear O3 hr3 hby3 con
      go_upto_region 9 with fail
      clear cw3 fw3
      generalize y3.setCell ⟨b5, 7, none⟩ (.int .i64 p3) = z3 at *
      have lt3 : b5 < z3.heap.size := heap_lt OZ3.out
      have d0 : z3.cell? ⟨b5, 0, none⟩ = some (.int .i64 (num a)) := Joins.cell_of_block OZ3.out 0
      have d1 : z3.cell? ⟨b5, 1, none⟩ = some (.int .i64 (num b)) := Joins.cell_of_block OZ3.out 1
      have d2 : z3.cell? ⟨b5, 2, none⟩ = some (.int .i64 (sideN c)) := Joins.cell_of_block OZ3.out 2
      have d3 : z3.cell? ⟨b5, 3, none⟩ = some (.int .i64 (kindN d)) := Joins.cell_of_block OZ3.out 3
      have d4 : z3.cell? ⟨b5, 4, none⟩ = some (.int .i64 (p1)) := Joins.cell_of_block OZ3.out 4
      have d5 : z3.cell? ⟨b5, 5, none⟩ = some (.int .i64 (num e)) := Joins.cell_of_block OZ3.out 5
      have d6 : z3.cell? ⟨b5, 6, none⟩ = some (.int .i64 (p2)) := Joins.cell_of_block OZ3.out 6
      have d7 : z3.cell? ⟨b5, 7, none⟩ = some (.int .i64 (p3)) := Joins.cell_of_block OZ3.out 7
      have hzR : Hid (∀ o, (z3.alloc o).heap[w.heap.size]? = some (.cells #[.int .i64 0, .int .i64 0, .int .i64 0, .int .i64 0, .int .i64 0, .int .i64 0, .int .i64 0, .int .i64 0] 23 (0, 0)) ∧ Below w.heap.size w (z3.alloc o)) := fun o => by
        have hlt : w.heap.size < z3.heap.size := Nat.lt_of_lt_of_le RE.out.2.2 BZ3.out.size
        have hb0 : Below w.heap.size w z3 := RE.out.1.trans (BZ3.out.mono RE.out.1.size)
        exact ⟨(Below.heap_alloc _ _ _ hlt).trans ((BZ3.out.block _ RE.out.2.2).trans RE.out.2.1), hb0.alloc hb0.size _⟩
      have conC := fun r hr => contains5 r (num a) (num b) (sideN c) (kindN d) (num e) z3 hr
      have HCC : Hid (∀ r, [(num a : Int), num b, sideN c, kindN d, num e].contains 0 = r → Calls Tryz.prog 46 #[.slice (some ⟨z3.heap.size, 0, none⟩) 5 5, .int .i64 0] (z3.alloc (.cells #[.int .i64 (num a), .int .i64 (num b), .int .i64 (sideN c), .int .i64 (kindN d), .int .i64 (num e)] 3)) fun e' w' => e' = .returned (.bool r) ∧ w' = z3.alloc (.cells #[.int .i64 (num a), .int .i64 (num b), .int .i64 (sideN c), .int .i64 (kindN d), .int .i64 (num e)] 3)) := conC
      clear conC
      have hlen3 : (T3.length : Int) ≤ 100 := by omega
      cases hH : ([(num a : Int), num b, sideN c, kindN d, num e].contains 0) <;> cases hP : (((p1 : Int) == 0) == ((kindN d : Int) == 2)) <;>
      · have con := HCC.out _ hH
        have hF := HFb.out
        rw [hH, hP] at hF
        have HX : Hid (rdB (a :: b :: c :: d :: e :: tl) = _) := hF
        clear hF hH
        go_wp2_with fail
        refine con.mono ?_
        rintro e' w' ⟨rfl, rfl⟩
        go_upto_region 11 with fail
        refine wp_region_lit ?_
        iterate 10 (refine wpList_step fun K hK => ?_; go_simp; refine hK _ _ ?_; clear hK K; try simp only [Act.put, List.setIfInBounds_toArray, List.set_cons_zero, List.set_cons_succ])
        refine wpList_store_mid rfl 23 (.tmp 2) (.tmp 72) rfl w.heap.size 0 #[.int .i64 (num a), .int .i64 (num b), .int .i64 (sideN c), .int .i64 (kindN d), .int .i64 p1, .int .i64 (num e), .int .i64 p2, .int .i64 p3] rfl rfl (there8 (hzR.out _).1) (by kernel_rfl) (by simp [Value.oneCell']) ?_
        have hXs := stored8 (.int .i64 (num a)) (.int .i64 (num b)) (.int .i64 (sideN c)) (.int .i64 (kindN d)) (.int .i64 (p1)) (.int .i64 (num e)) (.int .i64 (p2)) (.int .i64 (p3)) (hzR.out (.cells #[.int .i64 (num a), .int .i64 (num b), .int .i64 (sideN c), .int .i64 (kindN d), .int .i64 (num e)] 3)).1
        have hXb := below_setCells (Nat.le_refl _) [.int .i64 (num a), .int .i64 (num b), .int .i64 (sideN c), .int .i64 (kindN d), .int .i64 p1, .int .i64 (num e), .int .i64 p2, .int .i64 p3] 0 _ (hzR.out (.cells #[.int .i64 (num a), .int .i64 (num b), .int .i64 (sideN c), .int .i64 (kindN d), .int .i64 (num e)] 3)).2
        show wpList _ _ _ _ _ ((z3.alloc (.cells #[.int .i64 (num a), .int .i64 (num b), .int .i64 (sideN c), .int .i64 (kindN d), .int .i64 (num e)] 3)).setCells w.heap.size 0 [.int .i64 (num a), .int .i64 (num b), .int .i64 (sideN c), .int .i64 (kindN d), .int .i64 p1, .int .i64 (num e), .int .i64 p2, .int .i64 p3])
        generalize (z3.alloc (.cells #[.int .i64 (num a), .int .i64 (num b), .int .i64 (sideN c), .int .i64 (kindN d), .int .i64 (num e)] 3)).setCells w.heap.size 0 [.int .i64 (num a), .int .i64 (num b), .int .i64 (sideN c), .int .i64 (kindN d), .int .i64 p1, .int .i64 (num e), .int .i64 p2, .int .i64 p3] = X at *
        have x0 : X.cell? ⟨w.heap.size, 0, none⟩ = some (.int .i64 (num a)) := Joins.cell_of_block hXs 0
        have x1 : X.cell? ⟨w.heap.size, 1, none⟩ = some (.int .i64 (num b)) := Joins.cell_of_block hXs 1
        have x2 : X.cell? ⟨w.heap.size, 2, none⟩ = some (.int .i64 (sideN c)) := Joins.cell_of_block hXs 2
        have x3 : X.cell? ⟨w.heap.size, 3, none⟩ = some (.int .i64 (kindN d)) := Joins.cell_of_block hXs 3
        have x4 : X.cell? ⟨w.heap.size, 4, none⟩ = some (.int .i64 (p1)) := Joins.cell_of_block hXs 4
        have x5 : X.cell? ⟨w.heap.size, 5, none⟩ = some (.int .i64 (num e)) := Joins.cell_of_block hXs 5
        have x6 : X.cell? ⟨w.heap.size, 6, none⟩ = some (.int .i64 (p2)) := Joins.cell_of_block hXs 6
        have x7 : X.cell? ⟨w.heap.size, 7, none⟩ = some (.int .i64 (p3)) := Joins.cell_of_block hXs 7
        clear hXs d0 d1 d2 d3 d4 d5 d6 d7
        go_wp2_with fail
        refine bodyPost_ret (v := .tuple #[oV ⟨num a, num b, sideN c, kindN d, p1, num e, p2, p3⟩, .bool (rdB (a :: b :: c :: d :: e :: tl))]) ?_ rfl ⟨by rw [HFo.out], hXb⟩
        rw [HX.out]
        simp [results, Tryz.results31, go_sem, oV, x0, x1, x2, x3, x4, x5, x6, x7]

theorem words_le (l : List UInt8) : ∀ x ∈ cut l, x.length ≤ l.length := by
  induction l with
  | nil => intro x hx; simp [cut] at hx; simp [hx]
  | cons c r ih =>
    intro x hx
    by_cases hc : c = 32
    · subst hc
      rw [cut_blank] at hx
      rcases List.mem_cons.1 hx with rfl | hx
      · simp
      · have := ih x hx; simp; omega
    · obtain ⟨a, t, h1, h2⟩ := cut_other hc r
      rw [h2] at hx
      rcases List.mem_cons.1 hx with rfl | hx
      · have := ih a (by rw [h1]; simp); simp; omega
      · have := ih x (by rw [h1]; simp [hx]); simp; omega

theorem cutK_le (k : Nat) (l : List UInt8) : ∀ x ∈ cutK k l, x.length ≤ l.length := by
  induction k generalizing l with
  | zero => intro x hx; simp [cutK] at hx; simp [hx]
  | succ k ih =>
    intro x hx
    unfold cutK at hx
    split at hx
    · rename_i hm
      have e := (cut_take hm).1
      have hl : l.length = (l.takeWhile (· ≠ 32)).length + 1 + ((l.dropWhile (· ≠ 32)).tail).length := by
        conv => lhs; rw [e]
        simp; omega
      rcases List.mem_cons.1 hx with rfl | hx
      · omega
      · have := ih _ x hx; omega
    · simp at hx; simp [hx]

/-- read, at every text. -/
theorem read_any (s : ByteArray) (w : World) (hL : Laid w) (hE : ErrL w) (hs : s.size ≤ 9223372036854775806) :
    Calls Tryz.prog 31 #[.string s] w fun e' w' => e' = .returned (.tuple #[oV (rdO (cutK 11 s.data.toList)), .bool (rdB (cutK 11 s.data.toList))]) ∧ Below w.heap.size w w' := by
  have hwd : ∀ l ∈ cutK 11 s.data.toList, l.length ≤ maxLen := fun l hl => by
    have := cutK_le 11 s.data.toList l hl
    rw [← size_list] at this
    unfold maxLen
    omega
  generalize hws : cutK 11 s.data.toList = ws at *
  match ws, hws, hwd with
  | [], h, _ => exact read_short s w hs (by rw [h]; simp)
  | [_], h, _ => exact read_short s w hs (by rw [h]; simp)
  | [_, _], h, _ => exact read_short s w hs (by rw [h]; simp)
  | [_, _, _], h, _ => exact read_short s w hs (by rw [h]; simp)
  | [_, _, _, _], h, _ => exact read_short s w hs (by rw [h]; simp)
  | a :: b :: c :: d :: e :: tl, h, hwd => exact read_long s a b c d e tl w hL hE hs h hwd

end Go.Proofs.YtpcomgnglidhhaaGreatDoor.ord
