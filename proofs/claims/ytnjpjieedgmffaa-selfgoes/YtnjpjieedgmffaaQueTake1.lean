/- Contracts over this seat's translation: queue.takeFirst. -/
import Derived.Test.YtnjpjieedgmffaaQueCat
import Derived.Test.YtnjpjieedgmffaaQueChk
import Derived.Deep.RegionLaw
namespace Go.Proofs.Ytnjpjieedgmffaa.que
open Go.RowKit Go.Proofs.Ytnjpjieedgmffaa.spn

theorem take_flat (r : R) (t : List R) : (flat (r :: t)).drop 5 = flat t := by
  rw [flat_cons, List.drop_append_of_le_length (by show 5 ≤ 5; omega), List.drop_eq_nil_of_le (by show 5 ≤ 5; omega), List.nil_append]

/-- A queue of the call's own with something in it: its form; without its first. -/
theorem OwnQ.form {w : World} {base : Nat} {v : Value} {r : R} {t : List R} (h : OwnQ w base v (r :: t)) : ∃ g off cap, v = .slice (some ⟨g, off, none⟩) (t.length + 1) cap ∧ base ≤ g ∧ g < w.heap.size ∧ t.length + 1 ≤ cap ∧ cap ≤ 9223372036854775807 ∧
    (w.cell? ⟨g, off, none⟩ = some (.int .i64 r.id) ∧ w.cell? ⟨g, off + 1, none⟩ = some (.int .i64 r.who) ∧ w.cell? ⟨g, off + 2, none⟩ = some (.int .i64 r.qty) ∧ w.cell? ⟨g, off + 3, none⟩ = some (.int .i64 r.hid) ∧ w.cell? ⟨g, off + 4, none⟩ = some (.int .i64 r.shw)) ∧
    (∀ j, w.frozen? ⟨g, j, none⟩ = false) ∧
    (∀ q, OwnQ (w.setCell ⟨g, off + 2, none⟩ (.int .i64 q)) base v ({ r with qty := q } :: t)) ∧
    (¬ cap = 1 → OwnQ w base (.slice (some ⟨g, off + 5, none⟩) t.length (cap - 1)) t) ∧
    (cap = 1 → OwnQ w base (.slice (some ⟨g, off, none⟩) t.length (cap - 1)) t) := by
  rcases h.2 with ⟨_, hn⟩ | ⟨g, off, cap, cur, rfl, hb, hg, hnc, hcm, hcs, htake⟩
  · simp at hn
  have hnc2 : t.length + 1 ≤ cap := hnc
  have hcm2 : cap ≤ 9223372036854775807 := by simpa [maxLen] using hcm
  have hl5 : ∀ x : R, (x :: t).length * 5 = t.length * 5 + 5 := fun x => by rw [List.length_cons]; omega
  rw [hl5] at htake
  have hcel : ∀ j u, (flat (r :: t))[j]? = some u → w.cell? ⟨g, off + j, none⟩ = some u := by
    intro j u hu
    rw [cell_of_row w g (off + j) cur _ (0, 0) hg]
    rw [← htake, List.getElem?_take] at hu
    split at hu
    · rw [List.getElem?_drop] at hu; simpa using hu
    · cases hu
  have hrest : (cur.toList.drop (off + 5)).take (t.length * 5) = flat t := by
    have := congrArg (List.drop 5) htake
    rw [take_flat, List.drop_take, List.drop_drop] at this
    rw [← this]
    congr 1
  refine ⟨g, off, cap, rfl, hb, (Array.getElem?_eq_some_iff.1 hg).1, hnc2, hcm2, ⟨hcel 0 _ rfl, hcel 1 _ rfl, hcel 2 _ rfl, hcel 3 _ rfl, hcel 4 _ rfl⟩, fun j => frozen_of_row w g j cur _ hg, ?_, ?_, ?_⟩
  · intro q
    refine ⟨flat_len _, .inr ⟨g, off, cap, cur.setIfInBounds (off + 2) (.int .i64 q), rfl, hb, heap_setCell_same w g (off + 2) cur _ _ hg, hnc, hcm, by simpa using hcs, ?_⟩⟩
    rw [hl5, Array.toList_setIfInBounds, List.drop_set]
    rw [if_neg (by omega), show off + 2 - off = 2 by omega, List.take_set, htake]
    rfl
  · intro hc
    refine ⟨flat_len _, .inr ⟨g, off + 5, cap - 1, cur, rfl, hb, hg, by omega, by unfold maxLen; omega, by omega, hrest⟩⟩
  · intro hc
    have ht : t = [] := by
      apply List.eq_nil_of_length_eq_zero; omega
    subst ht
    refine ⟨rfl, .inr ⟨g, off, cap - 1, cur, rfl, hb, hg, by simp, by unfold maxLen; omega, by omega, by simp [flat]⟩⟩

theorem tk1_less {k a b c d e : Int} {t : List R} (h : k < c) : tk1 k ⟨a, b, c, d, e⟩ t = ⟨a, b, c - k, d, e⟩ :: t := by unfold tk1; rw [if_pos h]
theorem tk1_gone {a b c e : Int} {t : List R} : tk1 c ⟨a, b, c, 0, e⟩ t = t := by unfold tk1; rw [if_neg (by simp), if_pos rfl]
theorem tk1_back {a b c d e : Int} {t : List R} (h : ¬ d = 0) : tk1 c ⟨a, b, c, d, e⟩ t = t ++ [⟨a, b, min e d, d - min e d, e⟩] := by unfold tk1; rw [if_neg (by simp), if_neg h]

theorem grown_trans {a b c : World} {row : Option Nat} (h : a.grownBy b row) (k : b.grownBy c row) : a.grownBy c row :=
  ⟨k.os.trans h.os, k.tape.trans h.tape, k.output.trans h.output, Nat.le_trans h.size k.size, fun i hi hr => (k.block i (Nat.lt_of_lt_of_le hi h.size) hr).trans (h.block i hi hr)⟩
theorem grown_alloc {a b : World} {row : Option Nat} (h : a.grownBy b row) (o : Obj) : a.grownBy (b.alloc o) row := grown_trans h (World.grownBy_alloc b o row)
theorem grown_drew {a b : World} {row : Option Nat} (h : a.grownBy b row) : a.grownBy b.drew row := ⟨h.os, h.tape, h.output, h.size, h.block⟩
theorem grown_set (w : World) (g j : Nat) (u : Value) : w.grownBy (w.setCell ⟨g, j, none⟩ u) (some g) :=
  ⟨rfl, rfl, rfl, by simp, fun k _ hk => heap_setCell_other w ⟨g, j, none⟩ k u (fun e => hk (by simp [e]))⟩

set_option maxRecDepth 100000 in
set_option maxHeartbeats 1000000 in
theorem takeFirst_any (base : Nat) (v : Value) (a b c d e k : Int) (t : List R) (w : World) (hown : OwnQ w base v (⟨a, b, c, d, e⟩ :: t)) (hbase : base ≤ w.heap.size) (h1 : 1 ≤ k) (h2 : k ≤ c) (hc : c ≤ 10000) (hd : 0 ≤ d) (hd2 : d ≤ 10000) (he : 0 ≤ e) (he2 : e ≤ 10000) (ht : t.length ≤ 100) :
    Calls Try.prog 83 #[v, .int .i64 k] w fun x w' => ∃ v', x = .returned v' ∧ OwnQ w' base v' (tk1 k ⟨a, b, c, d, e⟩ t) ∧ w.grownBy w' v.ownBlock ∧ (v'.ownBlock = v.ownBlock ∨ ∃ j, v'.ownBlock = some j ∧ w.heap.size ≤ j) := by
  obtain ⟨Z, hZ⟩ : ∃ Z, tk1 k ⟨a, b, c, d, e⟩ t = Z := ⟨_, rfl⟩
  rw [hZ]
  have HT : Hid (tk1 k ⟨a, b, c, d, e⟩ t = Z) := hZ
  clear hZ
  obtain ⟨i0, hi, hz0, hz1, hz2⟩ := infoR'
  have HI : Hid (Try.prog.info? 28 = some i0) := hi
  clear hi
  obtain ⟨g, off, cap, rfl, hbg, hgw, hnc, hcm, ⟨c0, c1, c2, c3, c4⟩, hf, hset, -, -⟩ := hown.form
  simp only [] at c0 c1 c2 c3 c4
  have hX := hset (c - k)
  have hBX : w.grownBy (w.setCell ⟨g, off + 2, none⟩ (.int .i64 (c - k))) (some g) := grown_set _ _ _ _
  have HO : Hid (OwnQ (w.setCell ⟨g, off + 2, none⟩ (.int .i64 (c - k))) base (.slice (some ⟨g, off, none⟩) (t.length + 1) cap) (⟨a, b, c - k, d, e⟩ :: t)) := hX
  have HB : Hid (w.grownBy (w.setCell ⟨g, off + 2, none⟩ (.int .i64 (c - k))) (some g)) := hBX
  have hz : base ≤ (w.setCell ⟨g, off + 2, none⟩ (.int .i64 (c - k))).heap.size := Nat.le_trans hbase hBX.size
  clear hown hset hX hBX
  obtain ⟨L, hL⟩ : ∃ L, L = t.length + 1 := ⟨_, rfl⟩
  have HL : Hid (t.length + 1 = L) := hL.symm
  rw [← hL] at hnc HO ⊢
  have hL0 : (0 : Int) < (L : Int) := by omega
  clear hL
  have e1 : wrap64 (c - k) = c - k := by unfold wrap64; omega
  have f2 := hf (off + 2)
  clear hf
  go_enter Try.func83, Try.ntmps83
  go_upto_region 2 with fail
  generalize w.setCell ⟨g, off + 2, none⟩ (.int .i64 (c - k)) = X at *
  obtain ⟨g', off', cap', hv, -, hgX, -, -, ⟨x0, x1, x2, x3, x4⟩, -, -, hne, hone⟩ := HO.out.form
  simp only [Value.slice.injEq, Option.some.injEq, Addr.mk.injEq] at hv
  obtain ⟨⟨rfl, rfl, -⟩, -, rfl⟩ := hv
  simp only [] at x0 x1 x2 x3 x4
  have hl1 : L - 1 = t.length := by have := HL.out; omega
  have HNE : Hid (¬ cap = 1 → OwnQ X base (.slice (some ⟨g, off + 5, none⟩) t.length (cap - 1)) t) := hne
  have HONE : Hid (cap = 1 → OwnQ X base (.slice (some ⟨g, off, none⟩) t.length (cap - 1)) t) := hone
  clear hne hone c0 c1 c2 c3 c4 f2 hgw
  have hL1 : (1 : Int) ≤ (L : Int) := by omega
  have hLc : (L : Int) ≤ (cap : Int) := by omega
  by_cases hk : k < c
  · have hk0 : 0 < c - k := by omega
    go_wp2_with fail
    go_ret
    exact ⟨_, rfl, by rw [← HT.out, tk1_less hk]; exact HO.out.below ((Below.refl _ _).alloc (Nat.le_refl _) _), grown_alloc HB.out _, .inl rfl⟩
  · have hkc : k = c := by omega
    subst hkc
    rw [Int.sub_self] at x2 HO
    by_cases hd0 : d = 0
    · subst hd0
      by_cases hc1 : cap = 1
      · subst hc1
        have hr := HONE.out rfl
        clear HONE HNE
        go_wp2_with fail
        go_ret
        exact ⟨_, rfl, by rw [← HT.out, tk1_gone]; exact hr.below ((Below.refl _ _).alloc (Nat.le_refl _) _), grown_alloc HB.out _, .inl rfl⟩
      · have hr := HNE.out hc1
        clear HONE HNE
        go_wp2_with fail
        go_ret
        exact ⟨_, rfl, by rw [← HT.out, tk1_gone]; exact hr.below ((Below.refl _ _).alloc (Nat.le_refl _) _), grown_alloc HB.out _, .inl rfl⟩
    · have hd1 : (d == 0) = false := by simp [hd0]
      have hmin : min e d ≤ 10000 ∧ 0 ≤ min e d ∧ min e d ≤ d := by omega
      have e2 : wrap64 (d - min e d) = d - min e d := by unfold wrap64; omega
      have HZ : Hid (Z = t ++ [⟨a, b, min e d, d - min e d, e⟩]) := by
        show _ = _
        rw [← HT.out, tk1_back hd0]
      clear HT
      go_upto_region 9 with fail
      by_cases hc1 : cap = 1
      · subst hc1
        have hr := HONE.out rfl
        have HR : Hid (OwnQ (((X.alloc (.cells #[.int .i64 a, .int .i64 b, .int .i64 (min e d), .int .i64 (d - min e d), .int .i64 e] 28)).alloc (.cells #[.int .i64 a, .int .i64 b, .int .i64 (min e d), .int .i64 (d - min e d), .int .i64 e] 28)).drew) base (.slice (some ⟨g, off, none⟩) t.length (1 - 1)) t) := hr.below (((Below.refl _ _).alloc (Nat.le_refl _) _).alloc (by simp) _).drew
        have hBY : w.grownBy (((X.alloc (.cells #[.int .i64 a, .int .i64 b, .int .i64 (min e d), .int .i64 (d - min e d), .int .i64 e] 28)).alloc (.cells #[.int .i64 a, .int .i64 b, .int .i64 (min e d), .int .i64 (d - min e d), .int .i64 e] 28)).drew) (some g) := grown_drew (grown_alloc (grown_alloc HB.out _) _)
        have hnew := World.news_of_block (w := ((X.alloc (.cells #[.int .i64 a, .int .i64 b, .int .i64 (min e d), .int .i64 (d - min e d), .int .i64 e] 28)).alloc (.cells #[.int .i64 a, .int .i64 b, .int .i64 (min e d), .int .i64 (d - min e d), .int .i64 e] 28)).drew) (heap_alloc_new (X.alloc (.cells #[.int .i64 a, .int .i64 b, .int .i64 (min e d), .int .i64 (d - min e d), .int .i64 e] 28)) _)
        have HNW : Hid (∀ j u, (rV ⟨a, b, min e d, d - min e d, e⟩)[j]? = some u → (((X.alloc (.cells #[.int .i64 a, .int .i64 b, .int .i64 (min e d), .int .i64 (d - min e d), .int .i64 e] 28)).alloc (.cells #[.int .i64 a, .int .i64 b, .int .i64 (min e d), .int .i64 (d - min e d), .int .i64 e] 28)).drew).cell? ((⟨X.heap.size + 1, 0, none⟩ : Addr).add j) = some u) := by
          intro j u hu
          have := hnew j u hu
          simpa using this
        have s3 : Hid (t.length + 1 ≤ maxLen) := by show _ ≤ _; unfold maxLen; omega
        have s4 : Hid ((t.length + 1) * 40 ≤ 140737488355328) := by show _ ≤ _; omega
        have s5 : Hid (base ≤ (((X.alloc (.cells #[.int .i64 a, .int .i64 b, .int .i64 (min e d), .int .i64 (d - min e d), .int .i64 e] 28)).alloc (.cells #[.int .i64 a, .int .i64 b, .int .i64 (min e d), .int .i64 (d - min e d), .int .i64 e] 28)).drew).heap.size) := by show _ ≤ _; simp; omega
        have s6 : Hid (∀ u ∈ rV ⟨a, b, min e d, d - min e d, e⟩, u.oneCell' = true) := by
          intro u hu
          simp only [rV, List.mem_cons, List.not_mem_nil, or_false] at hu
          rcases hu with rfl | rfl | rfl | rfl | rfl <;> rfl
        have HBY : Hid (w.grownBy (((X.alloc (.cells #[.int .i64 a, .int .i64 b, .int .i64 (min e d), .int .i64 (d - min e d), .int .i64 e] 28)).alloc (.cells #[.int .i64 a, .int .i64 b, .int .i64 (min e d), .int .i64 (d - min e d), .int .i64 e] 28)).drew) (some g)) := hBY
        clear hr hnew hBY HONE HNE HO HB x0 x1 x2 x3 x4
        go_region_law (refine step_append_mid _ rfl (.tmp 39) (.tmp 41) 29 rfl base 28 i0 zeroR 5 40 Try.underlying29 HI.out hz0 hz1 hz2 rfl (.slice (some ⟨g, off, none⟩) t.length (1 - 1)) t.length (flat t) (by simp [Act.eval]) HR.out ⟨X.heap.size + 1, 0, none⟩ 1 1 (rV ⟨a, b, min e d, d - min e d, e⟩) (by simp [Act.eval]) rfl HNW.out s6.out s3.out s4.out s5.out ?_; intro v' w' hO' hgr hat)
        go_wp2_with fail
        go_ret
        refine ⟨_, rfl, ?_, grown_trans HBY.out hgr, ?_⟩
        rotate_left
        · rcases hat with h | h
          · exact .inl h
          · exact .inr ⟨_, h, HBY.out.size⟩
        rw [HZ.out]
        show OwnM _ _ _ _ _ _ _
        rw [flat_append, List.length_append]
        exact hO'
      · skip
        have hr := HNE.out hc1
        have HR : Hid (OwnQ (((X.alloc (.cells #[.int .i64 a, .int .i64 b, .int .i64 (min e d), .int .i64 (d - min e d), .int .i64 e] 28)).alloc (.cells #[.int .i64 a, .int .i64 b, .int .i64 (min e d), .int .i64 (d - min e d), .int .i64 e] 28)).drew) base (.slice (some ⟨g, off + 5, none⟩) t.length (cap - 1)) t) := hr.below (((Below.refl _ _).alloc (Nat.le_refl _) _).alloc (by simp) _).drew
        have hBY : w.grownBy (((X.alloc (.cells #[.int .i64 a, .int .i64 b, .int .i64 (min e d), .int .i64 (d - min e d), .int .i64 e] 28)).alloc (.cells #[.int .i64 a, .int .i64 b, .int .i64 (min e d), .int .i64 (d - min e d), .int .i64 e] 28)).drew) (some g) := grown_drew (grown_alloc (grown_alloc HB.out _) _)
        have hnew := World.news_of_block (w := ((X.alloc (.cells #[.int .i64 a, .int .i64 b, .int .i64 (min e d), .int .i64 (d - min e d), .int .i64 e] 28)).alloc (.cells #[.int .i64 a, .int .i64 b, .int .i64 (min e d), .int .i64 (d - min e d), .int .i64 e] 28)).drew) (heap_alloc_new (X.alloc (.cells #[.int .i64 a, .int .i64 b, .int .i64 (min e d), .int .i64 (d - min e d), .int .i64 e] 28)) _)
        have HNW : Hid (∀ j u, (rV ⟨a, b, min e d, d - min e d, e⟩)[j]? = some u → (((X.alloc (.cells #[.int .i64 a, .int .i64 b, .int .i64 (min e d), .int .i64 (d - min e d), .int .i64 e] 28)).alloc (.cells #[.int .i64 a, .int .i64 b, .int .i64 (min e d), .int .i64 (d - min e d), .int .i64 e] 28)).drew).cell? ((⟨X.heap.size + 1, 0, none⟩ : Addr).add j) = some u) := by
          intro j u hu
          have := hnew j u hu
          simpa using this
        have s3 : Hid (t.length + 1 ≤ maxLen) := by show _ ≤ _; unfold maxLen; omega
        have s4 : Hid ((t.length + 1) * 40 ≤ 140737488355328) := by show _ ≤ _; omega
        have s5 : Hid (base ≤ (((X.alloc (.cells #[.int .i64 a, .int .i64 b, .int .i64 (min e d), .int .i64 (d - min e d), .int .i64 e] 28)).alloc (.cells #[.int .i64 a, .int .i64 b, .int .i64 (min e d), .int .i64 (d - min e d), .int .i64 e] 28)).drew).heap.size) := by show _ ≤ _; simp; omega
        have s6 : Hid (∀ u ∈ rV ⟨a, b, min e d, d - min e d, e⟩, u.oneCell' = true) := by
          intro u hu
          simp only [rV, List.mem_cons, List.not_mem_nil, or_false] at hu
          rcases hu with rfl | rfl | rfl | rfl | rfl <;> rfl
        have HBY : Hid (w.grownBy (((X.alloc (.cells #[.int .i64 a, .int .i64 b, .int .i64 (min e d), .int .i64 (d - min e d), .int .i64 e] 28)).alloc (.cells #[.int .i64 a, .int .i64 b, .int .i64 (min e d), .int .i64 (d - min e d), .int .i64 e] 28)).drew) (some g)) := hBY
        clear hr hnew hBY HONE HNE HO HB x0 x1 x2 x3 x4
        go_region_law (refine step_append_mid _ rfl (.tmp 39) (.tmp 41) 29 rfl base 28 i0 zeroR 5 40 Try.underlying29 HI.out hz0 hz1 hz2 rfl (.slice (some ⟨g, off + 5, none⟩) t.length (cap - 1)) t.length (flat t) (by simp [Act.eval]) HR.out ⟨X.heap.size + 1, 0, none⟩ 1 1 (rV ⟨a, b, min e d, d - min e d, e⟩) (by simp [Act.eval]) rfl HNW.out s6.out s3.out s4.out s5.out ?_; intro v' w' hO' hgr hat)
        go_wp2_with fail
        go_ret
        refine ⟨_, rfl, ?_, grown_trans HBY.out hgr, ?_⟩
        rotate_left
        · rcases hat with h | h
          · exact .inl h
          · exact .inr ⟨_, h, HBY.out.size⟩
        rw [HZ.out]
        show OwnM _ _ _ _ _ _ _
        rw [flat_append, List.length_append]
        exact hO'

end Go.Proofs.Ytnjpjieedgmffaa.que
