/- Contracts over this seat's translation: the document's Take. -/
import Derived.Test.YtefolhkecgcigaaDoorQueRef4
namespace Go.Proofs.YtefolhkecgcigaaDoor.que
open Go.RowKit Go.Proofs.YtefolhkecgcigaaDoor.spn

/-- What the loop holds. -/
structure HeldR (w0 wr : World) (n0 : Int) (z0 : List R) (m : Int) (s6 s0 : Value) (fs : List F) (ys : List R) : Prop where
  m0 : 0 ≤ m
  f : OwnF wr w0.heap.size s6 fs
  q : SL wr s0 ys
  good : Good ys
  len : ys.length ≤ 60
  sum : (fs.length : Int) + m ≤ 10000
  eq : take n0 z0 = (fs ++ (take m ys).1, (take m ys).2)
  far : Below w0.heap.size w0 wr

set_option maxRecDepth 100000 in
set_option maxHeartbeats 1000000 in
theorem rtake_good (v : Value) (zs : List R) (n : Int) (w : World) (h : SL w v zs) (h0 : qchk zs = 0) (h1 : 1 ≤ n) (h2 : n ≤ 10000) :
    Calls Tryd.prog 16 #[v, .int .i64 n] w fun e w' => ∃ fv lv, e = .returned (.tuple #[fv, lv]) ∧ OwnF w' w.heap.size fv (take n zs).1 ∧ SL w' lv (take n zs).2 ∧ Below w.heap.size w w' := by
  obtain ⟨iF, hiF, hf0, hf1, hf2⟩ := infoF'
  have HI : Hid (Tryd.prog.info? 55 = some iF) := hiF
  clear hiF
  obtain ⟨h60, hG⟩ := (qchk_zero zs).1 h0
  have HH : Hid (HeldR w w n zs n (.slice none 0 0) v [] zs) := ⟨by omega, ⟨rfl, .inl ⟨rfl, rfl⟩⟩, h, hG, h60, by simp; omega, by simp, Below.refl _ _⟩
  obtain ⟨p, c, rfl⟩ := h.form
  clear h h0 hG h60
  go_enter Tryd.func16, Tryd.ntmps16
  go_wp2_with fail
  go_loopg [0, 1, 6, 7, 8, 9] n.toNat (fun gg s0 s1 s6 _ _ _ wr => ∃ (m : Int) (fs : List F) (ys : List R), s1 = .int .i64 m ∧ m.toNat ≤ gg ∧ Aside (HeldR w wr n zs m s6 s0 fs ys))
  case atStart => exact ⟨n, [], zs, rfl, Nat.le_refl _, HH.out⟩
  case round =>
    obtain ⟨m, fs, ys, rfl, hg, hH⟩ := hrel
    by_cases hm : 0 < m
    · cases ys with
      | nil =>
        obtain ⟨p', c', hv⟩ := hH.out.q.form
        subst hv
        have he := hH.out.eq
        rw [take_nil] at he
        have HE : Hid ((take n zs).1 = fs ∧ (take n zs).2 = []) := by rw [he]; exact ⟨by simp, rfl⟩
        clear he
        go_wp2_with fail
        go_ret2
        exact ⟨_, _, rfl, by rw [HE.out.1]; exact hH.out.f, by rw [HE.out.2]; exact hH.out.q, hH.out.far⟩
      | cons r t =>
        obtain ⟨a, b, q, d, e⟩ := r
        rcases hH.out.q with ⟨_, hz⟩ | ⟨g, off, cap, hv, hnc, hcm, hgw, hlies⟩
        · cases hz
        subst hv
        obtain ⟨c0, c1, c2, c3, c4⟩ := lies_at hlies (show 0 < (⟨a, b, q, d, e⟩ :: t : List R).length by simp) rfl
        rw [Nat.zero_mul, Nat.add_zero] at c0 c1 c2 c3 c4
        obtain ⟨⟨q1, q2⟩, ⟨q3, q4⟩, ⟨q5, q6⟩, -⟩ := rchk_zero (hH.out.good.1 (⟨a, b, q, d, e⟩ : R) (by simp))
        simp only [] at q1 q2 q3 q4 q5 q6
        obtain ⟨k, hk⟩ : ∃ k, min m q = k := ⟨_, rfl⟩
        have hk1 : 1 ≤ k := by omega
        have hk2 : k ≤ q := by omega
        have hk3 : k ≤ m := by omega
        have hsm := hH.out.sum
        have hm4 : m ≤ 10000 := by omega
        have e1 : wrap64 (m - k) = m - k := by unfold wrap64; omega
        have hlen : t.length + 1 ≤ 60 := by have h := hH.out.len; rw [List.length_cons] at h; exact h
        have HFILL : Hid (∀ W, Below wr.heap.size wr W → Calls Tryd.prog 23 #[.slice (some ⟨g, off, none⟩) (t.length + 1) cap, .int .i64 m] W fun x w' => ∃ v, x = .returned (.tuple #[.int .i64 k, v]) ∧ OwnQ w' W.heap.size v (tk1 k ⟨a, b, q, d, e⟩ t) ∧ Below W.heap.size W w') := by
          intro W hW
          have := fill_good g off cap (t.length + 1) a b q d e t m W rfl (Nat.lt_of_lt_of_le hgw hW.size) (by simpa using hnc) hcm hlen (hlies.below hgw hW) q1 q2 q3 q4 q5 q6 (by omega) hm4
          rw [hk] at this
          exact this
        have HK : Hid (min m q = k) := hk
        have hH2 : Hid (HeldR w wr n zs m u6 (.slice (some ⟨g, off, none⟩) (t.length + 1) cap) fs (⟨a, b, q, d, e⟩ :: t)) := hH.out
        clear hH hk hlies hnc
        rw [List.length_cons]
        have hL0 : (0 : Int) < ((t.length + 1 : Nat) : Int) := by omega
        generalize hLL : t.length + 1 = L at *
        clear hLL
        go_wp2_with fail
        refine (HFILL.out _ ((Below.refl _ _).alloc (Nat.le_refl _) _)).mono ?_
        rintro x w1 ⟨v1, rfl, hO1, hb1⟩
        have hR := cells_new hb1
        have hB1 : Below wr.heap.size wr w1 := ((Below.refl _ _).alloc (Nat.le_refl _) _).trans (hb1.mono (by simp))
        have hz1 : wr.heap.size < w1.heap.size := by have := hb1.size; simp at this; omega
        have HO1 : Hid (OwnQ w1 (wr.heap.size + 1) v1 (tk1 k ⟨a, b, q, d, e⟩ t)) := by
          have h := hO1
          rw [show (wr.alloc (.cells #[.int .i64 a, .int .i64 b, .int .i64 q, .int .i64 d, .int .i64 e] 24)).heap.size = wr.heap.size + 1 by simp] at h
          exact h
        have d0 : w1.cell? ⟨wr.heap.size, 0, none⟩ = some (.int .i64 a) := by simp [World.cell?, hR]
        have d1 : w1.cell? ⟨wr.heap.size, 1, none⟩ = some (.int .i64 b) := by simp [World.cell?, hR]
        have HB1 : Hid (Below wr.heap.size wr w1) := hB1
        have HF1 : Hid (OwnF (w1.alloc (.cells #[.int .i64 a, .int .i64 b, .int .i64 k] 55)) w.heap.size u6 fs) := (hH2.out.f.below hB1).below ((Below.refl _ _).alloc (Nat.le_refl _) _)
        have HBa : Hid (Below w.heap.size w (w1.alloc (.cells #[.int .i64 a, .int .i64 b, .int .i64 k] 55))) := by
          have h := hH2.out.far.trans (hB1.mono hH2.out.far.size)
          exact h.alloc h.size _
        clear hb1 hO1 hR hB1 c0 c1 c2 c3 c4
        go_wp2_with (at_builtin; (refine wpList_append_mid _ rfl _ _ 40 rfl w.heap.size 55 iF zeroF 3 24 Tryd.underlying40 HI.out hf0 hf1 hf2 rfl u6 fs.length (flatF fs) rfl HF1.out ⟨w1.heap.size, 0, none⟩ 1 1 [.int .i64 a, .int .i64 b, .int .i64 k] rfl rfl ?c1 ?c2 ?c3 ?c4 ?c5 ?_))
        case c1 =>
          have h := World.news_of_block (cs := #[.int .i64 a, .int .i64 b, .int .i64 k]) (heap_alloc_new w1 (.cells #[.int .i64 a, .int .i64 b, .int .i64 k] 55))
          simpa using h
        case c2 => intro u hu; simp at hu; rcases hu with rfl | rfl | rfl <;> rfl
        case c3 => unfold maxLen; omega
        case c4 => omega
        case c5 => exact HBa.out.size
        intro v6 w5 hO6 hgr6 hat6
        have hQa : OwnQ (w1.alloc (.cells #[.int .i64 a, .int .i64 b, .int .i64 k] 55)) (wr.heap.size + 1) v1 (tk1 k ⟨a, b, q, d, e⟩ t) := HO1.out.below ((Below.refl _ _).alloc (Nat.le_refl _) _)
        have hne : v1.ownBlock = none ∨ v1.ownBlock ≠ u6.ownBlock := by
          cases h1 : v1.ownBlock with
          | none => exact .inl rfl
          | some j =>
            right
            intro he
            have e2 := (HO1.out.lt j h1).1
            have e3 := (hH2.out.f.lt j he.symm).2
            omega
        have HHn : Hid (HeldR w w5 n zs (m - k) v6 v1 (fs ++ [⟨a, b, k⟩]) (tk1 k ⟨a, b, q, d, e⟩ t)) := by
          obtain ⟨t1, t2, t3⟩ := tk1_good hH2.out.good hk1 hk2
          refine ⟨by omega, ?_, OwnQ.sl (hQa.kept hgr6 hne), t1, Nat.le_trans t3 hH2.out.len, ?_, ?_, HBa.out.grown hgr6 HBa.out.size (fun j hj => (HF1.out.lt j hj).1)⟩
          · show OwnM _ _ _ _ _ _ _
            rw [flatF_append, List.length_append]
            exact hO6
          · simp only [List.length_append, List.length_cons, List.length_nil]; omega
          · have he := hH2.out.eq
            rw [take_cons m _ t hm hH2.out.good] at he
            simp only [HK.out] at he
            rw [he]
            simp
        clear hO6 hgr6 hat6 hQa hne
        go_wp2_with fail
        go_roundg (m - k).toNat
        case measure => omega
        case rel => exact ⟨m - k, _, _, rfl, Nat.le_refl _, HHn.out⟩
    · have hm0 : m ≤ 0 := by omega
      have he := hH.out.eq
      rw [take_done m ys hm0] at he
      have HE : Hid ((take n zs).1 = fs ∧ (take n zs).2 = ys) := by rw [he]; exact ⟨by simp, rfl⟩
      clear he
      go_wp2_with fail
      go_ret2
      exact ⟨_, _, rfl, by rw [HE.out.1]; exact hH.out.f, by rw [HE.out.2]; exact hH.out.q, hH.out.far⟩

end Go.Proofs.YtefolhkecgcigaaDoor.que
