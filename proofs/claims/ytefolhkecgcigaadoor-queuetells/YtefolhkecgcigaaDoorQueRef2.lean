/- Contracts over this seat's translation: the document's Queue and Total; pitsame.Fills at two lists that are the same. -/
import Derived.Test.YtefolhkecgcigaaDoorQueRef1
import Derived.Test.YtefolhkecgcigaaDoorQueTake2
namespace Go.Proofs.YtefolhkecgcigaaDoor.que
open Go.RowKit Go.Proofs.YtefolhkecgcigaaDoor.spn

theorem rqueue_none (p : Option Addr) (c : Nat) (w : World) :
    Calls Tryd.prog 5 #[.slice p 0 c] w fun e w' => e = .returned (.int .i64 0) ∧ Below w.heap.size w w' := by
  go_enter Tryd.func5, Tryd.ntmps5
  go_wp2_with fail
  go_loopg [3, 4] 0 (fun _ s3 _ wr => s3 = .int .i64 0 ∧ wr = w)
  case atStart => exact ⟨rfl, rfl⟩
  case round =>
    obtain ⟨rfl, rfl⟩ := hrel
    go_wp2_with fail
    go_ret
    exact ⟨rfl, Below.refl _ _⟩

theorem bchk_idx (ahead : List R) (r : R) : bchk ahead r = if rchk r = 0 then (if 0 ≤ idx r.id ahead then 7 else 0) else rchk r := by
  unfold bchk
  rw [has_idx]
  simp only [decide_eq_true_eq]

set_option maxRecDepth 100000 in
set_option maxHeartbeats 1000000 in
theorem rqueue_some (b o c : Nat) (zs : List R) (w : World) (hb : b < w.heap.size) (hc : zs.length ≤ c) (hm : c ≤ 9223372036854775807) (hl : Lies w b o zs) :
    Calls Tryd.prog 5 #[.slice (some ⟨b, o, none⟩) zs.length c] w fun e w' => e = .returned (.int .i64 (qchk zs)) ∧ Below w.heap.size w w' := by
  by_cases h60 : 60 < zs.length
  · have e : qchk zs = 4 := by unfold qchk; rw [if_pos h60]
    rw [e]
    clear hl e
    generalize zs.length = n at *
    have h60' : (60 : Int) < (n : Int) := by omega
    go_enter Tryd.func5, Tryd.ntmps5
    go_wp2
    go_ret
    exact ⟨rfl, Below.refl _ _⟩
  · have e : qchk zs = qgo [] zs := by unfold qchk; rw [if_neg h60]
    rw [e]
    clear e
    generalize hQ : qgo [] zs = Q
    have HQ : Hid (qgo [] zs = Q) := hQ
    clear hQ
    have HL : Hid (Lies w b o zs) := hl
    clear hl
    generalize hn : zs.length = n at *
    have HN : Hid (zs.length = n) := hn
    clear hn
    have h60' : ¬ (60 : Int) < (n : Int) := by omega
    go_enter Tryd.func5, Tryd.ntmps5
    go_wp2_with fail
    go_loopg [3, 4] n (fun gg s3 _ wr => ∃ kk : Nat, kk ≤ n ∧ n - kk ≤ gg ∧ s3 = .int .i64 kk ∧ Aside (Below w.heap.size w wr) ∧ Aside (qgo (zs.take kk) (zs.drop kk) = Q))
    case atStart => exact ⟨0, Nat.zero_le _, by omega, rfl, Below.refl _ w, HQ.out⟩
    case round =>
      obtain ⟨kk, hkk, hg, rfl, BW, A⟩ := hrel
      by_cases hlt : kk < n
      · have hltz : (kk : Int) < (n : Int) := by omega
        have hlz : kk < zs.length := by rw [HN.out]; exact hlt
        have LW : Hid (Lies wr b o zs) := HL.out.below hb BW.out
        obtain ⟨r, hr⟩ : ∃ r, zs[kk]! = r := ⟨_, rfl⟩
        obtain ⟨r1, r2, r3, r4, r5⟩ := r
        obtain ⟨c0, c1, c2, c3, c4⟩ := lies_at LW.out hlz hr
        have HR : Hid (zs[kk]! = ⟨r1, r2, r3, r4, r5⟩) := hr
        have hA : (if bchk (zs.take kk) ⟨r1, r2, r3, r4, r5⟩ = 0 then qgo (zs.take (kk + 1)) (zs.drop (kk + 1)) else bchk (zs.take kk) ⟨r1, r2, r3, r4, r5⟩) = Q := by
          have h := A.out
          rw [drop_at hlz, HR.out] at h
          rw [take_at hlz, HR.out]
          exact h
        rw [bchk_idx] at hA
        simp only [] at hA
        have hbw : b < wr.heap.size := Nat.lt_of_lt_of_le hb BW.out.size
        have hin1 : ¬ ((kk : Int) < 0) := by omega
        have hkc : ¬ ((c : Int) < (kk : Int)) := by omega
        have hkc2 : (kk : Int) ≤ (c : Int) := by omega
        have e1 := wrapSucc kk n hlt (by omega)
        have HRR : Hid (∀ W, Calls Tryd.prog 10 #[.agg #[.int .i64 r1, .int .i64 r2, .int .i64 r3, .int .i64 r4, .int .i64 r5]] W fun x w' => x = .returned (.int .i64 (rchk ⟨r1, r2, r3, r4, r5⟩)) ∧ Below W.heap.size W w') := fun W => rrest_any r1 r2 r3 r4 r5 W
        have HIN : Hid (∀ W, SL W (.slice (some ⟨b, o, none⟩) kk c) (zs.take kk) → Calls Tryd.prog 11 #[.slice (some ⟨b, o, none⟩) kk c, .int .i64 r1] W fun e w' => e = .returned (.int .i64 (idx r1 (zs.take kk))) ∧ w' = W) := fun W hW => in_any _ _ r1 W hW
        generalize rchk ⟨r1, r2, r3, r4, r5⟩ = k at hA HRR
        generalize idx r1 (zs.take kk) = m at hA HIN
        have HA : Hid ((if (if k = 0 then (if 0 ≤ m then 7 else 0) else k) = 0 then qgo (zs.take (kk + 1)) (zs.drop (kk + 1)) else (if k = 0 then (if 0 ≤ m then 7 else 0) else k)) = Q) := hA
        clear hA hr A
        go_wp2_with fail
        refine (HRR.out _).mono ?_
        rintro x w1 ⟨rfl, hb1⟩
        have BW1 : Hid (Below w.heap.size w w1) := BW.out.trans (hb1.mono BW.out.size)
        have d0 := keeps hb1 c0
        clear hb1 c0 c1 c2 c3 c4
        have HSL : Hid (∀ q, SL (w1.drewN q) (.slice (some ⟨b, o, none⟩) kk c) (zs.take kk)) := fun q =>
          (sl_take (by rw [HN.out]; exact hkk) (by rw [HN.out]; exact hc) hm hb HL.out).below (below_drewN BW1.out q)
        by_cases hk : k = 0
        · subst hk
          rw [if_pos rfl] at HA
          by_cases hm0 : 0 ≤ m
          · rw [if_pos hm0, if_neg (by decide)] at HA
            go_wp2_with fail
            go_quiet ((go_at_call 11; exact Calls.quiet_of_same (HIN.out _ (HSL.out _))))
            go_wp2_with fail
            go_ret
            exact ⟨by rw [← HA.out]; rfl, below_drewN BW1.out _⟩
          · rw [if_neg hm0, if_pos rfl] at HA
            go_wp2_with fail
            go_quiet ((go_at_call 11; exact Calls.quiet_of_same (HIN.out _ (HSL.out _))))
            go_wp2_with fail
            go_roundg (n - (kk + 1))
            case measure => clear e1; omega
            case rel => exact ⟨kk + 1, hlt, Nat.le_refl _, by go_num, below_drewN BW1.out _, HA.out⟩
        · rw [if_neg hk, if_neg hk] at HA
          have hk2 : (k != 0) = true := by simp [hk]
          go_wp2_with fail
          go_ret
          exact ⟨by rw [← HA.out]; rfl, BW1.out⟩
      · have hltz : ¬ (kk : Int) < (n : Int) := by omega
        have hk : kk = n := by omega
        subst hk
        have h := A.out
        rw [List.drop_eq_nil_of_le (by rw [HN.out]; exact Nat.le_refl _)] at h
        have HA : Hid (0 = Q) := h
        clear h
        go_wp2_with fail
        go_ret
        exact ⟨by rw [← HA.out]; rfl, BW.out⟩

theorem rqueue_any (v : Value) (zs : List R) (w : World) (h : SL w v zs) :
    Calls Tryd.prog 5 #[v] w fun e w' => e = .returned (.int .i64 (qchk zs)) ∧ Below w.heap.size w w' := by
  rcases h with ⟨rfl, rfl⟩ | ⟨b, o, c, rfl, h2, h3, h4, h5⟩
  · exact rqueue_none none 0 w
  · exact rqueue_some b o c zs w h4 h2 h3 h5

/-! ### Total -/
theorem rtotal_none (p : Option Addr) (c : Nat) (w : World) :
    Calls Tryd.prog 8 #[.slice p 0 c] w fun e w' => e = .returned (.int .i64 0) ∧ Below w.heap.size w w' := by
  go_enter Tryd.func8, Tryd.ntmps8
  go_wp2_with fail
  go_loopg [3, 4] 0 (fun _ s3 s4 wr => s3 = .int .i64 0 ∧ s4 = .int .i64 0 ∧ wr = w)
  case atStart => exact ⟨rfl, rfl, rfl⟩
  case round =>
    obtain ⟨rfl, rfl, rfl⟩ := hrel
    go_wp2_with fail
    go_ret
    exact ⟨rfl, Below.refl _ _⟩

set_option maxRecDepth 100000 in
set_option maxHeartbeats 1000000 in
theorem rtotal_some (b o c : Nat) (zs : List R) (w : World) (hb : b < w.heap.size) (hl : Lies w b o zs) (h0 : qchk zs = 0) :
    Calls Tryd.prog 8 #[.slice (some ⟨b, o, none⟩) zs.length c] w fun e w' => e = .returned (.int .i64 (tot zs)) ∧ Below w.heap.size w w' := by
  obtain ⟨h60, hG⟩ := (qchk_zero zs).1 h0
  have HG : Hid (∀ r ∈ zs, rchk r = 0) := hG.1
  clear hG h0
  have HL : Hid (Lies w b o zs) := hl
  clear hl
  generalize hT : tot zs = T
  have HT : Hid (tot zs = T) := hT
  clear hT
  generalize hn : zs.length = n at *
  have HN : Hid (zs.length = n) := hn
  clear hn
  go_enter Tryd.func8, Tryd.ntmps8
  go_wp2_with fail
  go_loopg [3, 4] n (fun gg s3 s4 wr => ∃ kk : Nat, kk ≤ n ∧ n - kk ≤ gg ∧ s4 = .int .i64 kk ∧ s3 = .int .i64 (tot (zs.take kk)) ∧ Aside (Below w.heap.size w wr))
  case atStart => exact ⟨0, Nat.zero_le _, by omega, rfl, rfl, Below.refl _ w⟩
  case round =>
    obtain ⟨kk, hkk, hg, rfl, rfl, BW⟩ := hrel
    by_cases hlt : kk < n
    · have hltz : (kk : Int) < (n : Int) := by omega
      have hlz : kk < zs.length := by rw [HN.out]; exact hlt
      have LW : Hid (Lies wr b o zs) := HL.out.below hb BW.out
      obtain ⟨r, hr⟩ : ∃ r, zs[kk]! = r := ⟨_, rfl⟩
      obtain ⟨r1, r2, r3, r4, r5⟩ := r
      obtain ⟨c0, c1, c2, c3, c4⟩ := lies_at LW.out hlz hr
      have hrm : rchk ⟨r1, r2, r3, r4, r5⟩ = 0 := HG.out _ (by rw [← hr, getE _ _ hlz]; exact List.getElem_mem hlz)
      obtain ⟨⟨q1, q2⟩, ⟨q3, q4⟩, -⟩ := rchk_zero hrm
      simp only [] at q1 q2 q3 q4
      have hts : tot (zs.take (kk + 1)) = tot (zs.take kk) + r3 + r4 := by rw [take_at hlz, hr, tot_append]; simp only [tot]; omega
      obtain ⟨tl, th⟩ := tot_le (zs.take kk) (fun x hx => HG.out x (List.mem_of_mem_take hx))
      have htk : ((zs.take kk).length : Int) ≤ 60 := by rw [List.length_take]; omega
      have HTS : Hid (tot (zs.take (kk + 1)) = tot (zs.take kk) + r3 + r4) := hts
      have e1 : wrap64 (tot (zs.take kk) + r3) = tot (zs.take kk) + r3 := by unfold wrap64; omega
      have e2 : wrap64 (tot (zs.take kk) + r3 + r4) = tot (zs.take kk) + r3 + r4 := by unfold wrap64; omega
      clear hts th htk hrm hr
      generalize tot (zs.take kk) = S at *
      have e1' : IntKind.i64.wrap (S + r3) = S + r3 := (IntWalk.i64_left _).trans e1
      have e2' : IntKind.i64.wrap (S + r3 + r4) = S + r3 + r4 := (IntWalk.i64_left _).trans e2
      have hin1 : ¬ ((kk : Int) < 0) := by omega
      have e3 := wrapSucc kk n hlt (by omega)
      go_wp2_with fail
      go_quiet (fail)
      go_wp2_with fail
      go_roundg (n - (kk + 1))
      case measure => clear e1 e2 e1' e2' e3; omega
      case rel => exact ⟨kk + 1, hlt, Nat.le_refl _, by go_num, by rw [HTS.out], below_drewN BW.out _⟩
    · have hltz : ¬ (kk : Int) < (n : Int) := by omega
      have hT2 : tot (zs.take kk) = T := by rw [← HT.out, List.take_of_length_le (by rw [HN.out]; omega)]
      rw [hT2]
      go_wp2_with fail
      go_ret
      exact ⟨rfl, BW.out⟩

theorem rtotal_any (v : Value) (zs : List R) (w : World) (h : SL w v zs) (h0 : qchk zs = 0) :
    Calls Tryd.prog 8 #[v] w fun e w' => e = .returned (.int .i64 (tot zs)) ∧ Below w.heap.size w w' := by
  rcases h with ⟨rfl, rfl⟩ | ⟨b, o, c, rfl, h2, h3, h4, h5⟩
  · exact rtotal_none none 0 w
  · exact rtotal_some b o c zs w h4 h5 h0

/-! ### Fills -/
/-- Fills lie in a block from an offset on. -/
def LiesF (w : World) (b o : Nat) (fs : List F) : Prop := ∀ j, j < fs.length → ∀ i v, (fV fs[j]!)[i]? = some v → w.cell? ⟨b, o + j * 3 + i, none⟩ = some v
def SF (w : World) (v : Value) (fs : List F) : Prop :=
  (v = .slice none 0 0 ∧ fs = []) ∨ ∃ b o c, v = .slice (some ⟨b, o, none⟩) fs.length c ∧ fs.length ≤ 9223372036854775807 ∧ b < w.heap.size ∧ LiesF w b o fs
theorem LiesF.below {w w' : World} {b o : Nat} {fs : List F} (h : LiesF w b o fs) (hb : b < w.heap.size) (hB : Below w.heap.size w w') : LiesF w' b o fs :=
  fun j hj i v hv => (hB.cell (p := ⟨b, o + j * 3 + i, none⟩) hb).trans (h j hj i v hv)
theorem SF.below {w w' : World} {v : Value} {fs : List F} (h : SF w v fs) (hB : Below w.heap.size w w') : SF w' v fs := by
  rcases h with h | ⟨b, o, c, h1, h2, h3, h4⟩
  · exact .inl h
  · exact .inr ⟨b, o, c, h1, h2, Nat.lt_of_lt_of_le h3 hB.size, h4.below h3 hB⟩
theorem flatF_get (fs : List F) : ∀ j, j < fs.length → ∀ i, i < 3 → (flatF fs)[j * 3 + i]? = (fV fs[j]!)[i]? := by
  induction fs with
  | nil => intro j hj; simp at hj
  | cons r t ih =>
    intro j hj i hi
    have e : flatF (r :: t) = fV r ++ flatF t := rfl
    rw [e]
    cases j with
    | zero => rw [Nat.zero_mul, Nat.zero_add, List.getElem?_append_left (by show i < 3; exact hi)]; rfl
    | succ j =>
      rw [List.getElem?_append_right (by show 3 ≤ _; omega)]
      have : (j + 1) * 3 + i - (fV r).length = j * 3 + i := by show (j + 1) * 3 + i - 3 = _; omega
      rw [this, ih j (by simpa using hj) i hi]
      rfl
theorem OwnF.sf {w : World} {base : Nat} {v : Value} {fs : List F} (h : OwnF w base v fs) : SF w v fs := by
  rcases h.2 with ⟨rfl, hn⟩ | ⟨g, off, cap, cur, rfl, hb, hg, hnc, hcm, hcs, htake⟩
  · exact .inl ⟨rfl, List.eq_nil_of_length_eq_zero hn⟩
  · have hcm2 : cap ≤ 9223372036854775807 := by simpa [maxLen] using hcm
    refine .inr ⟨g, off, cap, rfl, by omega, (Array.getElem?_eq_some_iff.1 hg).1, ?_⟩
    intro j hj i u hu
    have hi : i < 3 := (List.getElem?_eq_some_iff.1 hu).1
    rw [← flatF_get fs j hj i hi] at hu
    rw [Nat.add_assoc, cell_of_row w g (off + (j * 3 + i)) cur _ (0, 0) hg]
    rw [← htake, List.getElem?_take] at hu
    split at hu
    · rw [List.getElem?_drop] at hu; simpa using hu
    · cases hu
theorem liesF_at {w : World} {b o k : Nat} {fs : List F} (h : LiesF w b o fs) (hk : k < fs.length) {r1 r2 r3 : Int} (he : fs[k]! = ⟨r1, r2, r3⟩) :
    w.cell? ⟨b, o + k * 3, none⟩ = some (.int .i64 r1) ∧ w.cell? ⟨b, o + k * 3 + 1, none⟩ = some (.int .i64 r2) ∧ w.cell? ⟨b, o + k * 3 + 2, none⟩ = some (.int .i64 r3) := by
  have hh := h k hk
  rw [he] at hh
  exact ⟨hh 0 _ rfl, hh 1 _ rfl, hh 2 _ rfl⟩

theorem fills_none (p q : Option Addr) (c d : Nat) (w : World) :
    Calls Tryd.prog 18 #[.slice p 0 c, .slice q 0 d] w fun e w' => e = .returned (.bool true) ∧ Below w.heap.size w w' := by
  go_enter Tryd.func18, Tryd.ntmps18
  go_wp2_with fail
  go_loopg [5] 0 (fun _ s5 wr => s5 = .int .i64 0 ∧ wr = w)
  case atStart => exact ⟨rfl, rfl⟩
  case round =>
    obtain ⟨rfl, rfl⟩ := hrel
    go_wp2_with fail
    go_ret
    exact ⟨rfl, Below.refl _ _⟩

set_option maxRecDepth 100000 in
set_option maxHeartbeats 1000000 in
theorem fills_some (b o c b' o' c' : Nat) (zs : List F) (w : World) (hb : b < w.heap.size) (hb' : b' < w.heap.size) (hn : zs.length ≤ 9223372036854775807) (hl : LiesF w b o zs) (hl' : LiesF w b' o' zs) :
    Calls Tryd.prog 18 #[.slice (some ⟨b, o, none⟩) zs.length c, .slice (some ⟨b', o', none⟩) zs.length c'] w fun e w' => e = .returned (.bool true) ∧ Below w.heap.size w w' := by
  have HL : Hid (LiesF w b o zs ∧ LiesF w b' o' zs) := ⟨hl, hl'⟩
  clear hl hl'
  generalize hN : zs.length = n at *
  have HN : Hid (zs.length = n) := hN
  clear hN
  go_enter Tryd.func18, Tryd.ntmps18
  go_wp2_with fail
  go_loopg [5] n (fun gg s5 wr => ∃ kk : Nat, kk ≤ n ∧ n - kk ≤ gg ∧ s5 = .int .i64 kk ∧ Aside (Below w.heap.size w wr))
  case atStart => exact ⟨0, Nat.zero_le _, by omega, rfl, Below.refl _ w⟩
  case round =>
    obtain ⟨kk, hkk, hg, rfl, BW⟩ := hrel
    by_cases hlt : kk < n
    · have hltz : (kk : Int) < (n : Int) := by omega
      have hlz : kk < zs.length := by rw [HN.out]; exact hlt
      obtain ⟨r, hr⟩ : ∃ r, zs[kk]! = r := ⟨_, rfl⟩
      obtain ⟨r1, r2, r3⟩ := r
      obtain ⟨c0, c1, c2⟩ := liesF_at (HL.out.1.below hb BW.out) hlz hr
      obtain ⟨d0, d1, d2⟩ := liesF_at (HL.out.2.below hb' BW.out) hlz hr
      have hin1 : ¬ ((kk : Int) < 0) := by omega
      have e1 := wrapSucc kk n hlt hn
      clear hr
      go_wp2_with fail
      go_quiet (fail)
      go_wp2_with fail
      go_roundg (n - (kk + 1))
      case measure => clear e1; omega
      case rel => exact ⟨kk + 1, hlt, Nat.le_refl _, by go_num, below_drewN BW.out _⟩
    · have hltz : ¬ (kk : Int) < (n : Int) := by omega
      go_wp2_with fail
      go_ret
      exact ⟨rfl, BW.out⟩

theorem fills_same (va vb : Value) (zs : List F) (w : World) (ha : SF w va zs) (hb : SF w vb zs) :
    Calls Tryd.prog 18 #[va, vb] w fun e w' => e = .returned (.bool true) ∧ Below w.heap.size w w' := by
  rcases ha with ⟨rfl, rfl⟩ | ⟨b, o, c, rfl, h3, h4, h5⟩
  · rcases hb with ⟨rfl, -⟩ | ⟨b', o', c', rfl, -, -, -⟩
    · exact fills_none none none 0 0 w
    · exact fills_none none (some ⟨b', o', none⟩) 0 c' w
  · rcases hb with ⟨rfl, rfl⟩ | ⟨b', o', c', rfl, -, i4, i5⟩
    · exact fills_none (some ⟨b, o, none⟩) none c 0 w
    · exact fills_some b o c b' o' c' zs w h4 i4 h3 h5 i5

end Go.Proofs.YtefolhkecgcigaaDoor.que
