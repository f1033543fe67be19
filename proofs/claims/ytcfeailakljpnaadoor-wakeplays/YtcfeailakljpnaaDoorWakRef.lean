/- Contracts over this seat's translation: the document's Waits and Wait. -/
import Derived.Test.YtcfeailakljpnaaDoorWakOff
import Derived.Test.YtcfeailakljpnaaDoorWakDrop
import Derived.Test.YtcfeailakljpnaaDoorMeeRef1c
namespace Go.Proofs.YtcfeailakljpnaaDoor.wak
open Go.RowKit Go.Proofs.YtcfeailakljpnaaDoor.ord
open Go.Proofs.YtcfeailakljpnaaDoor.spn (keeps bcell)

theorem idx_take {id : Int} {zs : List O} {k : Nat} (hk : k < zs.length) (h : idx id (zs.take k) < 0) (he : zs[k]!.id = id) : idx id zs = (k : Int) := by
  induction zs generalizing k with
  | nil => simp at hk
  | cons r t ih =>
    cases k with
    | zero =>
      have : r.id = id := by simpa using he
      rw [idx_cons, if_pos this]; rfl
    | succ k =>
      rw [List.take_succ_cons, idx_cons] at h
      by_cases h1 : r.id = id
      · rw [if_pos h1] at h; omega
      · rw [if_neg h1] at h
        have h2 : idx id (t.take k) < 0 := by
          by_cases h3 : idx id (t.take k) < 0
          · exact h3
          · rw [if_neg h3] at h; have := idx_ge id (t.take k); omega
        have := ih (k := k) (by simpa using hk) h2 (by simpa using he)
        rw [idx_cons, if_neg h1, this, if_neg (by omega)]
        omega
theorem idx_more {id : Int} {zs : List O} {k : Nat} (hk : k < zs.length) (h : idx id (zs.take k) < 0) (he : ¬ zs[k]!.id = id) : idx id (zs.take (k + 1)) < 0 := by
  induction zs generalizing k with
  | nil => simp at hk
  | cons r t ih =>
    cases k with
    | zero =>
      have h1 : ¬ r.id = id := by simpa using he
      show idx id [r] < 0
      rw [idx_cons, if_neg h1, if_pos (show idx id [] < 0 by show (-1 : Int) < 0; omega)]
      omega
    | succ k =>
      rw [List.take_succ_cons, idx_cons] at h ⊢
      by_cases h1 : r.id = id
      · rw [if_pos h1] at h; omega
      · rw [if_neg h1] at h ⊢
        have h2 : idx id (t.take k) < 0 := by
          by_cases h3 : idx id (t.take k) < 0
          · exact h3
          · rw [if_neg h3] at h; have := idx_ge id (t.take k); omega
        rw [if_pos (ih (k := k) (by simpa using hk) h2 (by simpa using he))]
        omega

set_option maxHeartbeats 1000000 in
theorem rwaits_any (id : Int) (q : Option Addr) (n c : Nat) (zs : List O) (w : World) (hn : n = zs.length) (h : SL w (.slice q n c) zs) (hl : n ≤ 1000) :
    Calls Tryd.prog 8 #[.slice q n c, .int .i64 id] w fun e w' => e = .returned (.int .i64 (idx id zs)) ∧ Below w.heap.size w w' := by
  have HS := hidP h
  have HN := hidP hn
  have HL := hidP hl
  obtain ⟨K, hK⟩ : ∃ K, idx id zs = K := ⟨_, rfl⟩
  rw [hK]
  have HK := hidP hK
  clear h hn hl hK
  go_enter Tryd.func8, Tryd.ntmps8
  go_wp2_with fail
  go_loopg [5] n (fun gg s5 wr => ∃ kk : Nat, kk ≤ n ∧ n - kk ≤ gg ∧ s5 = .int .i64 kk ∧ Aside (idx id (zs.take kk) < 0) ∧ wr = w)
  case atStart => exact ⟨0, Nat.zero_le _, by omega, rfl, (by show (-1 : Int) < 0; omega), rfl⟩
  case round =>
    obtain ⟨kk, hkk, hg, rfl, HI, rfl⟩ := hrel
    by_cases hlt : kk < n
    · have hltz : (kk : Int) < (n : Int) := by omega
      have hin1 : ¬ ((kk : Int) < 0) := by omega
      have hlz : kk < zs.length := by rw [← HN.out]; exact hlt
      obtain ⟨g, off, rfl, cel⟩ := sl_at HS.out HN.out hlt
      have t0 := cel 0 _ rfl
      simp only [Nat.add_zero] at t0
      by_cases he : zs[kk]!.id = id
      · have HKK : Hid ((kk : Int) = K) := by show _ = _; rw [← HK.out]; exact (idx_take hlz HI.out he).symm
        have hb : (zs[kk]!.id == id) = true := by simpa using he
        generalize zs[kk]!.id = y at t0 hb
        clear he cel
        go_wp2_with fail
        go_ret
        have hkk2 := HKK.out
        subst hkk2
        exact ⟨rfl, Below.refl _ _⟩
      · have HI2 : Hid (idx id (zs.take (kk + 1)) < 0) := idx_more hlz HI.out he
        have hb : (zs[kk]!.id == id) = false := by simpa using he
        generalize zs[kk]!.id = y at t0 hb
        have es : wrap64 ((kk : Int) + 1) = ((kk + 1 : Nat) : Int) := by have := HL.out; unfold wrap64; omega
        clear he cel
        go_wp2_with fail
        go_roundg (n - (kk + 1))
        case measure => clear es; omega
        case rel => exact ⟨kk + 1, hlt, Nat.le_refl _, by go_num, HI2.out, rfl⟩
    · have hltz : ¬ (kk : Int) < (n : Int) := by omega
      have HKK : Hid ((-1 : Int) = K) := by
        show _ = _
        have h1 := HI.out
        rw [List.take_of_length_le (by have := HN.out; omega), HK.out] at h1
        have h2 := idx_ge id zs
        rw [HK.out] at h2
        omega
      go_wp2_with fail
      go_ret
      have hkk2 := HKK.out
      subst hkk2
      exact ⟨rfl, Below.refl _ _⟩

section
variable (a1 a2 a3 a4 a5 a6 a7 a8 : Int) (q : Option Addr) (n c : Nat) (os : List O) (w : World)
/-- What the document's Wait answers: the same list, and the fault; or one with one more. -/
def WaitPost (q : Option Addr) (n c : Nat) (os : List O) (o : O) (w : World) (e : Ending) (w' : World) : Prop :=
  ∃ q' n' c', e = .returned (.tuple #[.slice q' n' c', .int .i64 (putE os o)]) ∧ Below w.heap.size w w' ∧ ((¬ putE os o = 0 ∧ Value.slice q' n' c' = .slice q n c) ∨ (putE os o = 0 ∧ n' = n + 1 ∧ OwnQ w' w.heap.size (.slice q' n' c') (os ++ [o])))

set_option maxRecDepth 100000 in
set_option maxHeartbeats 2000000 in
theorem rwait_any (hn : n = os.length) (h : SL w (.slice q n c) os) (hl : n ≤ 20) :
    Calls Tryd.prog 5 #[.slice q n c, .agg #[.int .i64 a1, .int .i64 a2, .int .i64 a3, .int .i64 a4, .int .i64 a5, .int .i64 a6, .int .i64 a7, .int .i64 a8]] w fun e w' => WaitPost q n c os ⟨a1, a2, a3, a4, a5, a6, a7, a8⟩ w e w' := by
  have HC : Hid (∀ W, Calls Tryd.prog 16 #[.agg #[.int .i64 a1, .int .i64 a2, .int .i64 a3, .int .i64 a4, .int .i64 a5, .int .i64 a6, .int .i64 a7, .int .i64 a8]] W fun e w' => e = .returned (.int .i64 (chk ⟨a1, a2, a3, a4, a5, a6, a7, a8⟩)) ∧ Below W.heap.size W w') := fun W => rord_any ⟨a1, a2, a3, a4, a5, a6, a7, a8⟩ W
  have HF : Hid (∀ W, Below w.heap.size w W → Calls Tryd.prog 8 #[.slice q n c, .int .i64 a1] W fun e w' => e = .returned (.int .i64 (idx a1 os)) ∧ Below W.heap.size W w') := fun W hW => rwaits_any a1 q n c os W hn (h.below hW) (by omega)
  have HS := hidP h
  have HN := hidP hn
  have HL := hidP hl
  have HPE : Hid (putE os ⟨a1, a2, a3, a4, a5, a6, a7, a8⟩ = if chk ⟨a1, a2, a3, a4, a5, a6, a7, a8⟩ = 0 then (if a8 = 0 then 6 else if 0 ≤ idx a1 os then 7 else if n = 20 then 4 else 0) else chk ⟨a1, a2, a3, a4, a5, a6, a7, a8⟩) := by show _ = _; rw [hn]; rfl
  unfold WaitPost
  obtain ⟨PE, hPE⟩ : ∃ PE, putE os ⟨a1, a2, a3, a4, a5, a6, a7, a8⟩ = PE := ⟨_, rfl⟩
  rw [hPE]
  rw [hPE] at HPE
  obtain ⟨C, hC⟩ : ∃ C, chk ⟨a1, a2, a3, a4, a5, a6, a7, a8⟩ = C := ⟨_, rfl⟩
  rw [hC] at HC HPE
  obtain ⟨K, hK⟩ : ∃ K, idx a1 os = K := ⟨_, rfl⟩
  rw [hK] at HF HPE
  clear hPE hC hK h hn hl
  go_enter Tryd.func5, Tryd.ntmps5
  go_wp2_with fail
  refine (HC.out _).mono ?_
  rintro e w1 ⟨rfl, hb1⟩
  have HB1 := hidP (((Below.refl _ w).alloc (Nat.le_refl _) _).trans (hb1.mono (by simp)))
  have hR1 : w1.heap[w.heap.size]? = some (.cells #[.int .i64 a1, .int .i64 a2, .int .i64 a3, .int .i64 a4, .int .i64 a5, .int .i64 a6, .int .i64 a7, .int .i64 a8] 29 (0, 0)) := (hb1.block _ (by simp)).trans (heap_alloc_new w _)
  clear hb1
  obtain ⟨P0, hP0⟩ : ∃ P0, P0 = w.heap.size := ⟨_, rfl⟩
  rw [← hP0] at hR1 ⊢
  have HR1 := hidP hR1
  have hq1 : P0 < w1.heap.size := (Array.getElem?_eq_some_iff.1 hR1).1
  have HP0 := hidP hP0
  clear hP0
  obtain ⟨t0, t1, t2, t3, t4, t5, t6, t7, -⟩ := row8 hR1
  by_cases h1 : C = 0
  rotate_left
  · have hb : (C == 0) = false := by simpa using h1
    have hb2 : (C != 0) = true := by simpa using h1
    have HE : Hid (PE = C) := by show _ = _; rw [HPE.out, if_neg h1]
    clear t0 t1 t2 t3 t4 t5 t6 t7
    go_wp2_with fail
    go_ret2
    have he2 := HE.out
    subst he2
    exact ⟨q, n, c, rfl, HB1.out, .inl ⟨by exact h1, rfl⟩⟩
  subst h1
  by_cases h2 : a8 = 0
  · subst h2
    have HE : Hid (PE = 6) := by show _ = _; rw [HPE.out, if_pos rfl, if_pos rfl]
    go_wp2_with fail
    go_ret2
    have he2 := HE.out
    subst he2
    exact ⟨q, n, c, rfl, HB1.out, .inl ⟨by decide, rfl⟩⟩
  have hb8 : (a8 == 0) = false := by simpa using h2
  by_cases h3 : 0 ≤ K
  · have HE : Hid (PE = 7) := by show _ = _; rw [HPE.out, if_pos rfl, if_neg h2, if_pos h3]
    go_wp2_with fail
    refine (HF.out _ HB1.out).mono ?_
    rintro e w2 ⟨rfl, hb2⟩
    have HB2 := hidP (HB1.out.trans (hb2.mono HB1.out.size))
    clear hb2 t0 t1 t2 t3 t4 t5 t6 t7
    go_wp2_with fail
    go_ret2
    have he2 := HE.out
    subst he2
    exact ⟨q, n, c, rfl, HB2.out, .inl ⟨by decide, rfl⟩⟩
  by_cases h4 : n = 20
  · have HE : Hid (PE = 4) := by show _ = _; rw [HPE.out, if_pos rfl, if_neg h2, if_neg h3, if_pos h4]
    subst h4
    go_wp2_with fail
    refine (HF.out _ HB1.out).mono ?_
    rintro e w2 ⟨rfl, hb2⟩
    have HB2 := hidP (HB1.out.trans (hb2.mono HB1.out.size))
    clear hb2 t0 t1 t2 t3 t4 t5 t6 t7
    go_wp2_with fail
    go_ret2
    have he2 := HE.out
    subst he2
    exact ⟨q, 20, c, rfl, HB2.out, .inl ⟨by decide, rfl⟩⟩
  have HE : Hid (PE = 0) := by show _ = _; rw [HPE.out, if_pos rfl, if_neg h2, if_neg h3, if_neg h4]
  have h5 : ¬ (20 : Int) ≤ (n : Int) := by have := HL.out; omega
  have h6 : ¬ 20 ≤ n := by omega
  go_wp2_with fail
  refine (HF.out _ HB1.out).mono ?_
  rintro e w2 ⟨rfl, hb2⟩
  have HB2 := hidP (HB1.out.trans (hb2.mono HB1.out.size))
  have hR2 := (hb2.block P0 hq1).trans HR1.out
  clear hb2 t0 t1 t2 t3 t4 t5 t6 t7 hq1
  have hq2 : P0 < w2.heap.size := (Array.getElem?_eq_some_iff.1 hR2).1
  obtain ⟨v3, w3, hr3, ho3, hg3, -⟩ := run_append_q w2 w.heap.size (.slice none 0 0) (.slice q n c) [] os ⟨rfl, .inl ⟨rfl, rfl⟩⟩ (HS.out.below HB2.out) (by rw [← HN.out]; have := HL.out; show 0 + n ≤ 1000; omega) HB2.out.size
  rw [List.nil_append] at ho3
  have HRA := hidP hr3
  obtain ⟨q3, c3, hv3⟩ := OwnM.form ho3
  subst hv3
  have HB23 := hidP (show Below w2.heap.size w2 w3 from ⟨hg3.os, hg3.tape, hg3.output, hg3.size, fun k hk => hg3.block k hk (by simp [Value.ownBlock])⟩)
  have HB3 := hidP (HB2.out.trans (HB23.out.mono HB2.out.size))
  have hR3 := (HB23.out.block P0 hq2).trans hR2
  have HO3 := hidP ho3
  clear hr3 ho3 hg3 hR2 hq2
  obtain ⟨i0, hi0, hz0, hz1, hz2⟩ := infoR'
  have HI := hidP hi0
  clear hi0
  rw [← HN.out] at HRA HO3
  have HON : Hid (OwnM w3 w.heap.size 29 8 (.slice q3 n c3) n (flat os)) := by
    have := HO3.out
    rwa [OwnQ, ← HN.out] at this
  have HMX := hidP (show n + 1 ≤ maxLen ∧ (n + 1) * 64 ≤ 140737488355328 by have := HL.out; unfold maxLen; omega)
  obtain ⟨x0, x1, x2, x3, x4, x5, x6, x7, -⟩ := row8 hR3
  have hq3 : P0 < w3.heap.size := (Array.getElem?_eq_some_iff.1 hR3).1
  clear hR3
  go_upto_region 12 with (at_builtin; refine Lib.wpList_append_run _ rfl _ _ _ _ rfl _ _ rfl rfl _ _ HRA.out ?_)
  go_wp2_with (at_builtin; (refine wpList_append_mid _ rfl _ _ 22 rfl w.heap.size 29 i0 zeroR 8 64 Tryd.underlying22 HI.out hz0 hz1 hz2 rfl (.slice q3 n c3) n (flat os) rfl ?p0 ⟨w3.heap.size, 0, none⟩ 1 1 (oL ⟨a1, a2, a3, a4, a5, a6, a7, a8⟩) rfl rfl (World.news_of_block (cs := #[.int .i64 a1, .int .i64 a2, .int .i64 a3, .int .i64 a4, .int .i64 a5, .int .i64 a6, .int .i64 a7, .int .i64 a8]) (heap_alloc_new _ _)) (by simp [Value.oneCell', oL]) ?p1 ?p2 ?p3 ?_))
  case p0 => exact OwnM.below HON.out ((Below.refl _ w3).alloc (Nat.le_refl _) _)
  case p1 => exact HMX.out.1
  case p2 => exact HMX.out.2
  case p3 => have := HB3.out.size; simp; omega
  intro v' w' hO' hgr hat
  have HB4 : Hid (Below w.heap.size w w') := (HB3.out.alloc HB3.out.size (.cells #[.int .i64 a1, .int .i64 a2, .int .i64 a3, .int .i64 a4, .int .i64 a5, .int .i64 a6, .int .i64 a7, .int .i64 a8] 29)).grown hgr (by have := HB3.out.size; simp; omega) (fun k hk => (OwnM.lt HON.out k hk).1)
  obtain ⟨q', c', rfl⟩ := OwnM.form hO'
  have HO4 : Hid (OwnQ w' w.heap.size (.slice q' (n + 1) c') (os ++ [⟨a1, a2, a3, a4, a5, a6, a7, a8⟩])) := by
    show OwnM _ _ _ _ _ _ _
    rw [List.length_append, flat_append, ← HN.out]
    exact hO'
  clear hO' hgr hat x0 x1 x2 x3 x4 x5 x6 x7
  go_wp2_with fail
  go_ret2
  have he2 := HE.out
  subst he2
  exact ⟨q', n + 1, c', rfl, HB4.out, .inr ⟨rfl, rfl, HO4.out⟩⟩
end
end Go.Proofs.YtcfeailakljpnaaDoor.wak
